/- The walk of MasterHears: the Go text returns true, and writes nothing that was there. -/
import Derived.Test.YtiflhfhonhbcpaaMhA
import Derived.Test.YtiflhfhonhbcpaaAllSum
import Derived.Deep.CutRange
import Derived.Deep.RegionHeld3
import Derived.Deep.DeepCutAuto
import Derived.Deep.CutBlock
import Derived.Lib.Builder
import Derived.Deep.RegionLaw
import Derived.IntWalk
import Derived.Test.YtiflhfhonhbcpaaHeldL
namespace Go.Proofs.Ytiflhfhonhbcpaa.masterHears
open Go.ChangeShapes Go.WideShapes Go.ChangeAt Go.RowKit
set_option linter.unusedVariables false
set_option maxRecDepth 100000
open Go.Proofs.Ytiflhfhonhbcpaa.Mas Go.Proofs.Ytiflhfhonhbcpaa.Crw
theorem wkk (w : World) : Calls Try.prog 23 #[] w fun e w' => e = .returned (.bool true) ∧ Below w.heap.size w w' := wakes_23.2.2.2 w
theorem rng (x n : Int) (h1 : 1 ≤ n) (h2 : n ≤ 1000) : 0 ≤ x % n ∧ x % n < n := ⟨Int.emod_nonneg x (by omega), Int.emod_lt_of_pos x (by omega)⟩
set_option maxHeartbeats 80000000 in
theorem walk (A0 : Option Addr) (n0 c0 : Nat) (x0 : List Int) (A1 : Option Addr) (n1 c1 : Nat) (x1 : List Int) (A2 : Option Addr) (n2 c2 : Nat) (x2 : List Int) (A3 : Option Addr) (n3 c3 : Nat) (x3 : List Int) (w : World) (b0 : IntRow .i64 w A0 n0 c0 x0) (b1 : IntRow .i64 w A1 n1 c1 x1) (b2 : IntRow .i64 w A2 n2 c2 x2) (b3 : IntRow .i64 w A3 n3 c3 x3) :
    Calls Try.prog 4 #[.slice A0 n0 c0, .slice A1 n1 c1, .slice A2 n2 c2, .slice A3 n3 c3] w fun e w' => e = .returned (.bool true) ∧ Below w.heap.size w w' := by
  obtain ⟨hn0, hc0, hx0, hr0, hw0⟩ := b0
  obtain ⟨hn1, hc1, hx1, hr1, hw1⟩ := b1
  obtain ⟨hn2, hc2, hx2, hr2, hw2⟩ := b2
  obtain ⟨hn3, hc3, hx3, hr3, hw3⟩ := b3
  have HR0 := Lib.hid hr0
  have HW0 := Lib.hid hw0
  have HR1 := Lib.hid hr1
  have HW1 := Lib.hid hw1
  have HR2 := Lib.hid hr2
  have HW2 := Lib.hid hw2
  have HR3 := Lib.hid hr3
  have HW3 := Lib.hid hw3
  clear hr0 hw0 hx0 hr1 hw1 hx1 hr2 hw2 hx2 hr3 hw3 hx3
  go_enter Try.func4, Try.ntmps4
  go_wp2_with fail
  refine (MNew _).mono ?_
  rintro e w1 ⟨m, mb, V, rfl, hM, hb1⟩
  have HM := Lib.hid hM
  have HB1 := Lib.hid hb1
  clear hM hb1
  go_wp2_with fail
  obtain ⟨r, er⟩ : ∃ r, r = w1.heap.size := ⟨_, rfl⟩
  obtain ⟨w2, ew2⟩ : ∃ x, x = w1.alloc (.cells #[.slice none 0 0, .slice none 0 0, .slice none 0 0] 41) := ⟨_, rfl⟩
  have HJ0 : Hid (JoP w w2 m mb r V (fun g => g = r) [] (.slice none 0 0) (.slice none 0 0) (.slice none 0 0) [] [] 0) := Lib.hid (by
    have hb2 : Below w1.heap.size w1 w2 := by rw [ew2]; exact (Below.refl _ _).alloc (Nat.le_refl _) _
    refine ⟨HM.out.below hb2, by rw [ew2, er]; exact rmP_new HB1.out.size, rfl, rfl, fun g hg e => ?_, ⟨fun i j x y h => by simp at h, fun i x h => by simp at h, fun i x h => by simp at h, by simp⟩, HB1.out.trans (hb2.mono HB1.out.size)⟩
    have := HM.out.lt g hg
    rw [e, er] at this
    omega)
  simp only [← er, ← ew2]
  clear er ew2 HM HB1
  go_loopw [11] (fun vi wr => Hid (∃ (i : Nat) (V U : Nat → Prop) (R : List Tk) (a b d : Value) (L : List Rk) (T : List Ag), vi = .int .i64 i ∧ i ≤ 24 ∧ JoP w wr m mb r V U R a b d L T i ∧ ∃ w7, w7 = wr)) (fun vi _ => 24 - (intOf vi).toNat)
  case atStart => exact Lib.hid ⟨0, V, _, [], _, _, _, [], [], rfl, by omega, HJ0.out, _, rfl⟩
  case round =>
    obtain ⟨i, V1, U1, R, ka, kb, kd, L, T, rfl, hi, hJ, wr, hwr⟩ := hrel.out
    subst hwr
    clear hrel HJ0
    have HJ := Lib.hid hJ
    clear hJ
    by_cases hall : (i : Int) < n0 ∧ (i : Int) < n1 ∧ (i : Int) < n2 ∧ (i : Int) < n3 ∧ (i : Int) < 24
    · obtain ⟨h0, h1, h2, h3, h4⟩ := hall
      have hi0 : (0 : Int) ≤ (i : Int) := by omega
      have hR1 : Reads wr w.heap.size 1 A1 n1 (x1.map (Value.int .i64)) := HR1.out.below HJ.out.bel
      have hR2 : Reads wr w.heap.size 1 A2 n2 (x2.map (Value.int .i64)) := HR2.out.below HJ.out.bel
      have hR3 : Reads wr w.heap.size 1 A3 n3 (x3.map (Value.int .i64)) := HR3.out.below HJ.out.bel
      have hR0 : Reads wr w.heap.size 1 A0 n0 (x0.map (Value.int .i64)) := HR0.out.below HJ.out.bel
      obtain ⟨ad0, kk, rfl, hk0, hck⟩ := ints_atI hR0 (by omega : i < n0)
      obtain ⟨ad1, x, rfl, hx, hcx⟩ := ints_atI hR1 (by omega : i < n1)
      obtain ⟨ad2, y, rfl, hy, hcy⟩ := ints_atI hR2 (by omega : i < n2)
      obtain ⟨ad3, z, rfl, hz, hcz⟩ := ints_atI hR3 (by omega : i < n3)
      have hbk := bounds_i64 (HW0.out kk (List.mem_of_getElem? hk0))
      have hbx := bounds_i64 (HW1.out x (List.mem_of_getElem? hx))
      have hby := bounds_i64 (HW2.out y (List.mem_of_getElem? hy))
      have hbz := bounds_i64 (HW3.out z (List.mem_of_getElem? hz))
      have hCK := Lib.hid hck
      clear hR0 hR1 hR2 hR3 hk0 hx hy hz hck
      obtain ⟨qx, hqx⟩ : ∃ q, q = IntKind.i64.wrap (x.tdiv 8) := ⟨_, rfl⟩
      have hqb : -9223372036854775808 ≤ qx ∧ qx ≤ 9223372036854775807 := by rw [hqx, IntKind.wrap_i64]; omega
      obtain ⟨qn, hqn, hqn2⟩ : ∃ qn : Nat, qx % 2 = (qn : Int) ∧ (qn : Int) < 2 := by
        have := rng qx 2 (by omega) (by omega)
        exact ⟨(qx % 2).toNat, by omega, by omega⟩
      obtain ⟨G, hG, hG2⟩ : ∃ G, (#[Value.string ⟨#[102]⟩, Value.string ⟨#[103]⟩] : Array Value)[qn]? = some (.string G) ∧ (G = ⟨#[102]⟩ ∨ G = ⟨#[103]⟩) := by
        rcases (by omega : qn = 0 ∨ qn = 1) with rfl | rfl
        · exact ⟨_, rfl, .inl rfl⟩
        · exact ⟨_, rfl, .inr rfl⟩
      have hq0 : (0 : Int) ≤ (qn : Int) := by omega
      have hW2 : ∀ w, Calls Try.prog 10 #[.int .i64 (IntKind.i64.wrap (x.tdiv 8)), .int .i64 2] w fun e w' => e = .returned (.int .i64 (qn : Int)) ∧ w = w' := fun w => by
        rw [← hqx, ← hqn]
        exact Within_any qx 2 w hqb.1 hqb.2 (by omega) (by omega)
      have hW3 : ∀ w, Calls Try.prog 10 #[.int .i64 y, .int .i64 3] w fun e w' => e = .returned (.int .i64 (y % 3)) ∧ w = w' := fun w => Within_any y 3 w (by omega) (by omega) (by omega) (by omega)
      have hW6 : ∀ w, Calls Try.prog 10 #[.int .i64 z, .int .i64 6] w fun e w' => e = .returned (.int .i64 (z % 6)) ∧ w = w' := fun w => Within_any z 6 w (by omega) (by omega) (by omega) (by omega)
      have hTk := fun w => Task_any x (by omega) w
      obtain ⟨q3, hq3⟩ : ∃ q, q = y % 3 := ⟨_, rfl⟩
      obtain ⟨q6, hq6⟩ : ∃ q, q = z % 6 := ⟨_, rfl⟩
      simp only [← hq3] at hW3
      simp only [← hq6] at hW6
      clear hq3 hq6
      obtain ⟨TT, hTT⟩ : ∃ TT, TT = taskB (x % 8) := ⟨_, rfl⟩
      simp only [← hTT] at hTk
      have HG2 := Lib.hid hG2
      clear hTT hqx hqb hqn hG2 hby hbz
      go_upto_region 7 with fail
      obtain ⟨st, hst⟩ : ∃ s, IntKind.i64.wrap (2 + q6) = s := ⟨_, rfl⟩
      obtain ⟨nu, hnu⟩ : ∃ s, IntKind.i64.wrap (1 + q3) = s := ⟨_, rfl⟩
      obtain ⟨i5, hi5⟩ : ∃ s, IntKind.i64.wrap ((i : Int) / 5) = s := ⟨_, rfl⟩
      obtain ⟨ep, hep⟩ : ∃ s, IntKind.i64.wrap (1 + i5) = s := ⟨_, rfl⟩
      go_cut [12] from 49 to 78 (fun v12 wx => Hid (∃ gk w7, v12 = .pointer (some ⟨gk, 0, none⟩) ∧ wr.heap.size ≤ gk ∧ Blk wx gk 30 (msgK 11 G ⟨#[]⟩ TT 0 st nu ep) ∧ Below wr.heap.size wr wx ∧ w7 = wx))
      case first =>
        obtain ⟨wd, ewd⟩ : ∃ wd, wd = wr.drew := ⟨_, rfl⟩
        have hdr : wr.heap.size ≤ wd.heap.size := by rw [ewd]; exact Nat.le_refl _
        have hdb : Below wr.heap.size wr wd := by rw [ewd]; exact (Below.refl _ _).drew
        have H0 : MhS wd (ad1.add i) (ad2.add i) (ad3.add i) x y z wd := by
          rw [ewd]
          exact ⟨hcx, hcy, hcz, Below.refl _ _⟩
        clear hcx hcy hcz HJ
        skip
        refine wp_region_noPanic ?_
        refine wp_region_held_drew (S := MhS wd (ad1.add i) (ad2.add i) (ad3.add i) x y z) (by kernel_rfl) (by rw [← ewd]; exact H0) (fun _ => ?_)
        rw [← ewd]
        clear ewd
        refine wpAnyH_take (i := 1) (oi := ?oi1) (v := ?v1) ?hi1 (by kernel_rfl) (by kernel_rfl) (by kernel_rfl) (fun _ _ _ h => h) ?hy1 H0 ?rest1
        case hi1 => (simp only [List.getElem?_toArray, List.getElem?_cons_succ, List.getElem?_cons_zero]; try rfl)
        case hy1 => (refine Or.inl ⟨by rfl, ?_⟩; intro w hSw; go_simp; (try with_reducible rfl))
        try simp only [Act.put, List.setIfInBounds_toArray, List.set_cons_zero, List.set_cons_succ]
        refine wpAnyH_take (i := 2) (oi := ?oi2) (v := ?v2) ?hi2 (by kernel_rfl) (by kernel_rfl) (by kernel_rfl) (fun _ _ _ h => h) ?hy2 H0 ?rest2
        case hi2 => (simp only [List.getElem?_toArray, List.getElem?_cons_succ, List.getElem?_cons_zero]; try rfl)
        case hy2 => (refine Or.inl ⟨by rfl, ?_⟩; intro w hSw; go_simp; (try with_reducible rfl))
        try simp only [Act.put, List.setIfInBounds_toArray, List.set_cons_zero, List.set_cons_succ]
        refine wpAnyH_take (i := 3) (oi := ?oi3) (v := ?v3) ?hi3 (by kernel_rfl) (by kernel_rfl) (by kernel_rfl) (fun _ _ _ h => h) ?hy3 H0 ?rest3
        case hi3 => (simp only [List.getElem?_toArray, List.getElem?_cons_succ, List.getElem?_cons_zero]; try rfl)
        case hy3 => (refine Or.inl ⟨by rfl, ?_⟩; intro w hSw; go_simp; (try with_reducible rfl))
        try simp only [Act.put, List.setIfInBounds_toArray, List.set_cons_zero, List.set_cons_succ]
        refine wpAnyH_take (i := 4) (oi := ?oi4) (v := ?v4) ?hi4 (by kernel_rfl) (by kernel_rfl) (by kernel_rfl) (fun _ _ _ h => h) ?hy4 H0 ?rest4
        case hi4 => (simp only [List.getElem?_toArray, List.getElem?_cons_succ, List.getElem?_cons_zero]; try rfl)
        case hy4 => (refine Or.inl ⟨by rfl, ?_⟩; intro w hSw; have q := hSw.c1; go_simp; (try with_reducible rfl))
        try simp only [Act.put, List.setIfInBounds_toArray, List.set_cons_zero, List.set_cons_succ]
        refine wpAnyH_take (i := 5) (oi := ?oi5) (v := ?v5) ?hi5 (by kernel_rfl) (by kernel_rfl) (by kernel_rfl) (fun _ _ _ h => h) ?hy5 H0 ?rest5
        case hi5 => (simp only [List.getElem?_toArray, List.getElem?_cons_succ, List.getElem?_cons_zero]; try rfl)
        case hy5 => (refine Or.inl ⟨by rfl, ?_⟩; intro w hSw; go_simp; (try with_reducible rfl))
        try simp only [Act.put, List.setIfInBounds_toArray, List.set_cons_zero, List.set_cons_succ]
        refine wpAnyH_take (i := 9) (oi := ?oi6) (v := ?v6) ?hi6 (by kernel_rfl) (by kernel_rfl) (by kernel_rfl) (fun _ _ _ h => h) ?hy6 H0 ?rest6
        case hi6 => (simp only [List.getElem?_toArray, List.getElem?_cons_succ, List.getElem?_cons_zero]; try rfl)
        case hy6 => (refine Or.inl ⟨by rfl, ?_⟩; intro w hSw; go_simp; (try with_reducible rfl))
        try simp only [Act.put, List.setIfInBounds_toArray, List.set_cons_zero, List.set_cons_succ]
        refine wpAnyH_take (i := 10) (oi := ?oi7) (v := ?v7) ?hi7 (by kernel_rfl) (by kernel_rfl) (by kernel_rfl) (fun _ _ _ h => h) ?hy7 H0 ?rest7
        case hi7 => (simp only [List.getElem?_toArray, List.getElem?_cons_succ, List.getElem?_cons_zero]; try rfl)
        case hy7 => (refine Or.inl ⟨by rfl, ?_⟩; intro w hSw; go_simp; (try with_reducible rfl))
        try simp only [Act.put, List.setIfInBounds_toArray, List.set_cons_zero, List.set_cons_succ]
        refine wpAnyH_take (i := 11) (oi := ?oi8) (v := ?v8) ?hi8 (by kernel_rfl) (by kernel_rfl) (by kernel_rfl) (fun _ _ _ h => h) ?hy8 H0 ?rest8
        case hi8 => (simp only [List.getElem?_toArray, List.getElem?_cons_succ, List.getElem?_cons_zero]; try rfl)
        case hy8 => (refine Or.inl ⟨by rfl, ?_⟩; intro w hSw; go_simp; (try with_reducible rfl))
        try simp only [Act.put, List.setIfInBounds_toArray, List.set_cons_zero, List.set_cons_succ]
        refine wpAnyH_take (i := 12) (oi := ?oi9) (v := ?v9) ?hi9 (by kernel_rfl) (by kernel_rfl) (by kernel_rfl) (fun _ _ _ h => h) ?hy9 H0 ?rest9
        case hi9 => (simp only [List.getElem?_toArray, List.getElem?_cons_succ, List.getElem?_cons_zero]; try rfl)
        case hy9 => (refine Or.inl ⟨by rfl, ?_⟩; intro w hSw; have q := hSw.c1; go_simp; (try with_reducible rfl))
        try simp only [Act.put, List.setIfInBounds_toArray, List.set_cons_zero, List.set_cons_succ]
        refine wpAnyH_take (i := 14) (oi := ?oi10) (v := ?v10) ?hi10 (by kernel_rfl) (by kernel_rfl) (by kernel_rfl) (fun _ _ _ h => h) ?hy10 H0 ?rest10
        case hi10 => (simp only [List.getElem?_toArray, List.getElem?_cons_succ, List.getElem?_cons_zero]; try rfl)
        case hy10 => (refine Or.inl ⟨by rfl, ?_⟩; intro w hSw; go_simp; (try with_reducible rfl))
        try simp only [Act.put, List.setIfInBounds_toArray, List.set_cons_zero, List.set_cons_succ]
        refine wpAnyH_take (i := 15) (oi := ?oi11) (v := ?v11) ?hi11 (by kernel_rfl) (by kernel_rfl) (by kernel_rfl) (fun _ _ _ h => h) ?hy11 H0 ?rest11
        case hi11 => (simp only [List.getElem?_toArray, List.getElem?_cons_succ, List.getElem?_cons_zero]; try rfl)
        case hy11 => (refine Or.inl ⟨by rfl, ?_⟩; intro w hSw; go_simp; (try with_reducible rfl))
        try simp only [Act.put, List.setIfInBounds_toArray, List.set_cons_zero, List.set_cons_succ]
        refine wpAnyH_take (i := 16) (oi := ?oi12) (v := ?v12) ?hi12 (by kernel_rfl) (by kernel_rfl) (by kernel_rfl) (fun _ _ _ h => h) ?hy12 H0 ?rest12
        case hi12 => (simp only [List.getElem?_toArray, List.getElem?_cons_succ, List.getElem?_cons_zero]; try rfl)
        case hy12 => (refine Or.inl ⟨by rfl, ?_⟩; intro w hSw; go_simp; (try with_reducible rfl))
        try simp only [Act.put, List.setIfInBounds_toArray, List.set_cons_zero, List.set_cons_succ]
        refine wpAnyH_take (i := 17) (oi := ?oi13) (v := ?v13) ?hi13 (by kernel_rfl) (by kernel_rfl) (by kernel_rfl) (fun _ _ _ h => h) ?hy13 H0 ?rest13
        case hi13 => (simp only [List.getElem?_toArray, List.getElem?_cons_succ, List.getElem?_cons_zero]; try rfl)
        case hy13 => (refine Or.inl ⟨by rfl, ?_⟩; intro w hSw; have q := hSw.c2; go_simp; (try with_reducible rfl))
        try simp only [Act.put, List.setIfInBounds_toArray, List.set_cons_zero, List.set_cons_succ]
        refine wpAnyH_take (i := 20) (oi := ?oi14) (v := ?v14) ?hi14 (by kernel_rfl) (by kernel_rfl) (by kernel_rfl) (fun _ _ _ h => h) ?hy14 H0 ?rest14
        case hi14 => (simp only [List.getElem?_toArray, List.getElem?_cons_succ, List.getElem?_cons_zero]; try rfl)
        case hy14 => (refine Or.inl ⟨by rfl, ?_⟩; intro w hSw; go_simp; (try with_reducible rfl))
        try simp only [Act.put, List.setIfInBounds_toArray, List.set_cons_zero, List.set_cons_succ]
        refine wpAnyH_take (i := 21) (oi := ?oi15) (v := ?v15) ?hi15 (by kernel_rfl) (by kernel_rfl) (by kernel_rfl) (fun _ _ _ h => h) ?hy15 H0 ?rest15
        case hi15 => (simp only [List.getElem?_toArray, List.getElem?_cons_succ, List.getElem?_cons_zero]; try rfl)
        case hy15 => (refine Or.inl ⟨by rfl, ?_⟩; intro w hSw; go_simp; (try with_reducible rfl))
        try simp only [Act.put, List.setIfInBounds_toArray, List.set_cons_zero, List.set_cons_succ]
        refine wpAnyH_take (i := 22) (oi := ?oi16) (v := ?v16) ?hi16 (by kernel_rfl) (by kernel_rfl) (by kernel_rfl) (fun _ _ _ h => h) ?hy16 H0 ?rest16
        case hi16 => (simp only [List.getElem?_toArray, List.getElem?_cons_succ, List.getElem?_cons_zero]; try rfl)
        case hy16 => (refine Or.inl ⟨by rfl, ?_⟩; intro w hSw; go_simp; (try with_reducible rfl))
        try simp only [Act.put, List.setIfInBounds_toArray, List.set_cons_zero, List.set_cons_succ]
        refine wpAnyH_take (i := 23) (oi := ?oi17) (v := ?v17) ?hi17 (by kernel_rfl) (by kernel_rfl) (by kernel_rfl) (fun _ _ _ h => h) ?hy17 H0 ?rest17
        case hi17 => (simp only [List.getElem?_toArray, List.getElem?_cons_succ, List.getElem?_cons_zero]; try rfl)
        case hy17 => (refine Or.inl ⟨by rfl, ?_⟩; intro w hSw; go_simp; (try with_reducible rfl))
        try simp only [Act.put, List.setIfInBounds_toArray, List.set_cons_zero, List.set_cons_succ]
        refine wpAnyH_take (i := 24) (oi := ?oi18) (v := ?v18) ?hi18 (by kernel_rfl) (by kernel_rfl) (by kernel_rfl) (fun _ _ _ h => h) ?hy18 H0 ?rest18
        case hi18 => (simp only [List.getElem?_toArray, List.getElem?_cons_succ, List.getElem?_cons_zero]; try rfl)
        case hy18 => (refine Or.inl ⟨by rfl, ?_⟩; intro w hSw; go_simp; (try with_reducible rfl))
        try simp only [Act.put, List.setIfInBounds_toArray, List.set_cons_zero, List.set_cons_succ]
        refine wpAnyH_take (i := 25) (oi := ?oi19) (v := ?v19) ?hi19 (by kernel_rfl) (by kernel_rfl) (by kernel_rfl) (fun _ _ _ h => h) ?hy19 H0 ?rest19
        case hi19 => (simp only [List.getElem?_toArray, List.getElem?_cons_succ, List.getElem?_cons_zero]; try rfl)
        case hy19 => (refine Or.inl ⟨by rfl, ?_⟩; intro w hSw; go_simp; (try with_reducible rfl))
        try simp only [Act.put, List.setIfInBounds_toArray, List.set_cons_zero, List.set_cons_succ]
        refine wpAnyH_take (i := 26) (oi := ?oi20) (v := ?v20) ?hi20 (by kernel_rfl) (by kernel_rfl) (by kernel_rfl) (fun _ _ _ h => h) ?hy20 H0 ?rest20
        case hi20 => (simp only [List.getElem?_toArray, List.getElem?_cons_succ, List.getElem?_cons_zero]; try rfl)
        case hy20 => (refine Or.inl ⟨by rfl, ?_⟩; intro w hSw; have q := hSw.c3; go_simp; (try with_reducible rfl))
        try simp only [Act.put, List.setIfInBounds_toArray, List.set_cons_zero, List.set_cons_succ]
        refine wpAnyH_ready (rs := [0, 6, 30]) (by kernel_rfl) (by simp) ?_
        refine AllReadyH.cons (o := ?o21) ?hi21 (fun K hK => ?st21) ?mo21
        case hi21 => (simp only [List.getElem?_toArray, List.getElem?_cons_zero]; try rfl)
        case st21 =>
          obtain ⟨W21, e21⟩ : ∃ w7, w7 = wd.alloc (.cells #[.string ⟨#[102]⟩, .string ⟨#[103]⟩] 9) := ⟨_, rfl⟩
          obtain ⟨fb, s21⟩ : ∃ g, g = wd.heap.size := ⟨_, rfl⟩
          have hb21 : Below wd.heap.size wd W21 := by rw [e21]; exact (Below.refl _ _).alloc (Nat.le_refl _) _
          have N21 : Blk W21 fb 9 #[.string ⟨#[102]⟩, .string ⟨#[103]⟩] := by rw [e21, s21]; exact Blk.new _ _ _
          have H21 : MhS wd (ad1.add i) (ad2.add i) (ad3.add i) x y z W21 ∧ Blk W21 fb 9 #[.string ⟨#[102]⟩, .string ⟨#[103]⟩] := ⟨H0.below hb21, N21⟩
          go_simp
          rw [← e21, ← s21]
          clear e21 s21 hb21
          refine hK.out _ _ H21.1 (fun _ => ?rs21)
          clear hK K
          try simp only [Act.put, List.setIfInBounds_toArray, List.set_cons_zero, List.set_cons_succ]
          refine wpAnyH_mono (S' := fun wa => MhS wd (ad1.add i) (ad2.add i) (ad3.add i) x y z wa ∧ Blk wa fb 9 #[.string ⟨#[102]⟩, .string ⟨#[103]⟩]) (fun _ h => h.1) _ _ _ _ ?_
          refine wpAnyH_ready (rs := [6, 30]) (by kernel_rfl) (by simp) ?_
          refine AllReadyH.cons (o := ?o22) ?hi22 (fun K hK => ?st22) ?mo22
          case hi22 => (simp only [List.getElem?_toArray, List.getElem?_cons_succ, List.getElem?_cons_zero]; try rfl)
          case st22 =>
            go_simp
            go_at_call 10
            refine (hW2 _).mono ?_
            rintro e wz ⟨rfl, rfl⟩
            try dsimp only
            refine hK.out _ _ H21 (fun _ => ?rs22)
            clear hK K
            try simp only [Act.put, List.setIfInBounds_toArray, List.set_cons_zero, List.set_cons_succ]
            refine wpAnyH_take (i := 7) (oi := ?oi23) (v := ?v23) ?hi23 (by kernel_rfl) (by kernel_rfl) (by kernel_rfl) (fun _ _ _ h => h) ?hy23 H21 ?rest23
            case hi23 => (simp only [List.getElem?_toArray, List.getElem?_cons_succ, List.getElem?_cons_zero]; try rfl)
            case hy23 => (refine Or.inl ⟨by rfl, ?_⟩; intro w hSw; go_simp; (try with_reducible rfl))
            try simp only [Act.put, List.setIfInBounds_toArray, List.set_cons_zero, List.set_cons_succ]
            refine wpAnyH_take (i := 8) (oi := ?oi24) (v := ?v24) ?hi24 (by kernel_rfl) (by kernel_rfl) (by kernel_rfl) (fun _ _ _ h => h) ?hy24 H21 ?rest24
            case hi24 => (simp only [List.getElem?_toArray, List.getElem?_cons_succ, List.getElem?_cons_zero]; try rfl)
            case hy24 => (refine Or.inl ⟨by rfl, ?_⟩; intro w hSw; have q := (hSw.2.cell qn).trans hG; go_simp; (try with_reducible rfl))
            try simp only [Act.put, List.setIfInBounds_toArray, List.set_cons_zero, List.set_cons_succ]
            clear hG
            refine wpAnyH_ready (rs := [13, 30]) (by kernel_rfl) (by simp) ?_
            refine AllReadyH.cons (o := ?o25) ?hi25 (fun K hK => ?st25) ?mo25
            case hi25 => (simp only [List.getElem?_toArray, List.getElem?_cons_succ, List.getElem?_cons_zero]; try rfl)
            case st25 =>
              go_simp
              go_at_call 16
              refine (hTk _).mono ?_
              rintro e W25 ⟨rfl, hb25⟩
              have H25 : MhS wd (ad1.add i) (ad2.add i) (ad3.add i) x y z W25 ∧ Blk W25 fb 9 #[.string ⟨#[102]⟩, .string ⟨#[103]⟩] := ⟨H21.1.below hb25, H21.2.below hb25 H21.2.lt⟩
              clear hb25
              try dsimp only
              refine hK.out _ _ H25 (fun _ => ?rs25)
              clear hK K
              try simp only [Act.put, List.setIfInBounds_toArray, List.set_cons_zero, List.set_cons_succ]
              refine wpAnyH_ready (rs := [18, 30]) (by kernel_rfl) (by simp) ?_
              refine AllReadyH.cons (o := ?o26) ?hi26 (fun K hK => ?st26) ?mo26
              case hi26 => (simp only [List.getElem?_toArray, List.getElem?_cons_succ, List.getElem?_cons_zero]; try rfl)
              case st26 =>
                go_simp
                go_at_call 10
                refine (hW3 _).mono ?_
                rintro e wz ⟨rfl, rfl⟩
                try dsimp only
                refine hK.out _ _ H25 (fun _ => ?rs26)
                clear hK K
                try simp only [Act.put, List.setIfInBounds_toArray, List.set_cons_zero, List.set_cons_succ]
                refine wpAnyH_take (i := 19) (oi := ?oi27) (v := ?v27) ?hi27 (by kernel_rfl) (by kernel_rfl) (by kernel_rfl) (fun _ _ _ h => h) ?hy27 H25 ?rest27
                case hi27 => (simp only [List.getElem?_toArray, List.getElem?_cons_succ, List.getElem?_cons_zero]; try rfl)
                case hy27 => (refine Or.inl ⟨by rfl, ?_⟩; intro w hSw; go_simp; (try with_reducible rfl))
                try simp only [Act.put, List.setIfInBounds_toArray, List.set_cons_zero, List.set_cons_succ]
                refine wpAnyH_ready (rs := [27, 30]) (by kernel_rfl) (by simp) ?_
                refine AllReadyH.cons (o := ?o28) ?hi28 (fun K hK => ?st28) ?mo28
                case hi28 => (simp only [List.getElem?_toArray, List.getElem?_cons_succ, List.getElem?_cons_zero]; try rfl)
                case st28 =>
                  go_simp
                  go_at_call 10
                  refine (hW6 _).mono ?_
                  rintro e wz ⟨rfl, rfl⟩
                  try dsimp only
                  refine hK.out _ _ H25 (fun _ => ?rs28)
                  clear hK K
                  try simp only [Act.put, List.setIfInBounds_toArray, List.set_cons_zero, List.set_cons_succ]
                  refine wpAnyH_take (i := 28) (oi := ?oi29) (v := ?v29) ?hi29 (by kernel_rfl) (by kernel_rfl) (by kernel_rfl) (fun _ _ _ h => h) ?hy29 H25 ?rest29
                  case hi29 => (simp only [List.getElem?_toArray, List.getElem?_cons_succ, List.getElem?_cons_zero]; try rfl)
                  case hy29 => (refine Or.inl ⟨by rfl, ?_⟩; intro w hSw; go_simp; (try with_reducible rfl))
                  try simp only [Act.put, List.setIfInBounds_toArray, List.set_cons_zero, List.set_cons_succ]
                  refine wpAnyH_take (i := 29) (oi := ?oi30) (v := ?v30) ?hi30 (by kernel_rfl) (by kernel_rfl) (by kernel_rfl) (fun _ _ _ h => h) ?hy30 H25 ?rest30
                  case hi30 => (simp only [List.getElem?_toArray, List.getElem?_cons_succ, List.getElem?_cons_zero]; try rfl)
                  case hy30 => (refine yields_build (cells := #[.int .i64 11, .string G, .string ⟨#[]⟩, .string TT, .int .i64 0, .int .i64 st, .int .i64 nu, .int .i64 ep, .slice none 0 0]) 30 ?pa30 ?ho30 ?hg30 ?hf30; (case ho30 => rfl); (case hg30 => rfl); (case hf30 => simp [Act.eval]; exact built_msg _ _ _ _ _))
                  try simp only [Act.put, List.setIfInBounds_toArray, List.set_cons_zero, List.set_cons_succ]
                  refine wpAnyH_ready (rs := [30]) (by kernel_rfl) (by simp) ?_
                  refine AllReadyH.cons (o := ?o31) ?hi31 (fun K hK => ?st31) ?mo31
                  case hi31 => (simp only [List.getElem?_toArray, List.getElem?_cons_succ, List.getElem?_cons_zero]; try rfl)
                  case st31 =>
                    obtain ⟨W31, e31⟩ : ∃ w7, w7 = W25.alloc (.cells #[.int .i64 0, .string ⟨#[]⟩, .string ⟨#[]⟩, .string ⟨#[]⟩, .int .i64 0, .int .i64 0, .int .i64 0, .int .i64 0, .slice none 0 0] 30) := ⟨_, rfl⟩
                    obtain ⟨gk, s31⟩ : ∃ g, g = W25.heap.size := ⟨_, rfl⟩
                    have hb31 : Below W25.heap.size W25 W31 := by rw [e31]; exact (Below.refl _ _).alloc (Nat.le_refl _) _
                    have N31 : Blk W31 gk 30 #[.int .i64 0, .string ⟨#[]⟩, .string ⟨#[]⟩, .string ⟨#[]⟩, .int .i64 0, .int .i64 0, .int .i64 0, .int .i64 0, .slice none 0 0] := by rw [e31, s31]; exact Blk.new _ _ _
                    have G31 : wd.heap.size ≤ gk := by rw [s31]; exact H25.1.be.size
                    have H31 : MhS wd (ad1.add i) (ad2.add i) (ad3.add i) x y z W31 ∧ Blk W31 fb 9 #[.string ⟨#[102]⟩, .string ⟨#[103]⟩] := ⟨H25.1.below hb31, H25.2.below hb31 H25.2.lt⟩
                    go_simp
                    rw [← e31, ← s31]
                    clear e31 s31 hb31
                    refine hK.out _ _ H31 (fun _ => ?rs31)
                    clear hK K
                    try simp only [Act.put, List.setIfInBounds_toArray, List.set_cons_zero, List.set_cons_succ]
                    refine wpAnyH_ready (rs := [31]) (by kernel_rfl) (by simp) ?_
                    refine AllReadyH.cons (o := ?o32) ?hi32 (fun K hK => ?st32) ?mo32
                    case hi32 => (simp only [List.getElem?_toArray, List.getElem?_cons_succ, List.getElem?_cons_zero]; try rfl)
                    case st32 =>
                      have hfg : fb ≠ gk := H31.2.ne_ N31 (by decide)
                      refine store_msg (k := 11) (f := G) (e := ⟨#[]⟩) (t := TT) (n := 0) (st := st) (nu := nu) (ep := ep) rfl rfl (by simp [Act.eval]; done) (by simp [Act.eval]; done) N31 rfl ?_
                      intro w32 hb32 hbe32 hbf32
                      have hw32 := hbe32 wd G31 H31.1.be
                      refine hK.out _ _ ⟨⟨H31.1.k1, H31.1.k2, H31.1.k3, hw32⟩, hbf32 _ _ _ hfg H31.2⟩ (fun _ => ?rs32)
                      clear hK K
                      try simp only [Act.put]
                      refine wpAnyH_done (by kernel_rfl) ?_ _
                      refine NoPanic.normal ?_
                      go_wp2_with fail
                      go_meet
                      exact Lib.hid ⟨gk, _, rfl, Nat.le_trans hdr G31, hb32, hdb.trans (hw32.mono hdb.size), rfl⟩
                    exact AllReadyH.nil
                  exact AllReadyH.nil
                refine AllReadyH.cons (o := ?o33) ?hi33 (fun K hK => ?st33) ?mo33
                case hi33 => (simp only [List.getElem?_toArray, List.getElem?_cons_succ, List.getElem?_cons_zero]; try rfl)
                case st33 =>
                  obtain ⟨W33, e33⟩ : ∃ w7, w7 = W25.alloc (.cells #[.int .i64 0, .string ⟨#[]⟩, .string ⟨#[]⟩, .string ⟨#[]⟩, .int .i64 0, .int .i64 0, .int .i64 0, .int .i64 0, .slice none 0 0] 30) := ⟨_, rfl⟩
                  obtain ⟨gk, s33⟩ : ∃ g, g = W25.heap.size := ⟨_, rfl⟩
                  have hb33 : Below W25.heap.size W25 W33 := by rw [e33]; exact (Below.refl _ _).alloc (Nat.le_refl _) _
                  have N33 : Blk W33 gk 30 #[.int .i64 0, .string ⟨#[]⟩, .string ⟨#[]⟩, .string ⟨#[]⟩, .int .i64 0, .int .i64 0, .int .i64 0, .int .i64 0, .slice none 0 0] := by rw [e33, s33]; exact Blk.new _ _ _
                  have G33 : wd.heap.size ≤ gk := by rw [s33]; exact H25.1.be.size
                  have H33 : MhS wd (ad1.add i) (ad2.add i) (ad3.add i) x y z W33 ∧ Blk W33 fb 9 #[.string ⟨#[102]⟩, .string ⟨#[103]⟩] := ⟨H25.1.below hb33, H25.2.below hb33 H25.2.lt⟩
                  go_simp
                  rw [← e33, ← s33]
                  clear e33 s33 hb33
                  refine hK.out _ _ H33 (fun _ => ?rs33)
                  clear hK K
                  try simp only [Act.put, List.setIfInBounds_toArray, List.set_cons_zero, List.set_cons_succ]
                  refine wpAnyH_ready (rs := [27]) (by kernel_rfl) (by simp) ?_
                  refine AllReadyH.cons (o := ?o34) ?hi34 (fun K hK => ?st34) ?mo34
                  case hi34 => (simp only [List.getElem?_toArray, List.getElem?_cons_succ, List.getElem?_cons_zero]; try rfl)
                  case st34 =>
                    go_simp
                    go_at_call 10
                    refine (hW6 _).mono ?_
                    rintro e wz ⟨rfl, rfl⟩
                    try dsimp only
                    refine hK.out _ _ H33 (fun _ => ?rs34)
                    clear hK K
                    try simp only [Act.put, List.setIfInBounds_toArray, List.set_cons_zero, List.set_cons_succ]
                    refine wpAnyH_take (i := 28) (oi := ?oi35) (v := ?v35) ?hi35 (by kernel_rfl) (by kernel_rfl) (by kernel_rfl) (fun _ _ _ h => h) ?hy35 H33 ?rest35
                    case hi35 => (simp only [List.getElem?_toArray, List.getElem?_cons_succ, List.getElem?_cons_zero]; try rfl)
                    case hy35 => (refine Or.inl ⟨by rfl, ?_⟩; intro w hSw; go_simp; (try with_reducible rfl))
                    try simp only [Act.put, List.setIfInBounds_toArray, List.set_cons_zero, List.set_cons_succ]
                    refine wpAnyH_take (i := 29) (oi := ?oi36) (v := ?v36) ?hi36 (by kernel_rfl) (by kernel_rfl) (by kernel_rfl) (fun _ _ _ h => h) ?hy36 H33 ?rest36
                    case hi36 => (simp only [List.getElem?_toArray, List.getElem?_cons_succ, List.getElem?_cons_zero]; try rfl)
                    case hy36 => (refine yields_build (cells := #[.int .i64 11, .string G, .string ⟨#[]⟩, .string TT, .int .i64 0, .int .i64 st, .int .i64 nu, .int .i64 ep, .slice none 0 0]) 30 ?pa36 ?ho36 ?hg36 ?hf36; (case ho36 => rfl); (case hg36 => rfl); (case hf36 => simp [Act.eval]; exact built_msg _ _ _ _ _))
                    try simp only [Act.put, List.setIfInBounds_toArray, List.set_cons_zero, List.set_cons_succ]
                    refine wpAnyH_ready (rs := [31]) (by kernel_rfl) (by simp) ?_
                    refine AllReadyH.cons (o := ?o37) ?hi37 (fun K hK => ?st37) ?mo37
                    case hi37 => (simp only [List.getElem?_toArray, List.getElem?_cons_succ, List.getElem?_cons_zero]; try rfl)
                    case st37 =>
                      have hfg : fb ≠ gk := H33.2.ne_ N33 (by decide)
                      refine store_msg (k := 11) (f := G) (e := ⟨#[]⟩) (t := TT) (n := 0) (st := st) (nu := nu) (ep := ep) rfl rfl (by simp [Act.eval]; done) (by simp [Act.eval]; done) N33 rfl ?_
                      intro w37 hb37 hbe37 hbf37
                      have hw37 := hbe37 wd G33 H33.1.be
                      refine hK.out _ _ ⟨⟨H33.1.k1, H33.1.k2, H33.1.k3, hw37⟩, hbf37 _ _ _ hfg H33.2⟩ (fun _ => ?rs37)
                      clear hK K
                      try simp only [Act.put]
                      refine wpAnyH_done (by kernel_rfl) ?_ _
                      refine NoPanic.normal ?_
                      go_wp2_with fail
                      go_meet
                      exact Lib.hid ⟨gk, _, rfl, Nat.le_trans hdr G33, hb37, hdb.trans (hw37.mono hdb.size), rfl⟩
                    exact AllReadyH.nil
                  exact AllReadyH.nil
                exact AllReadyH.nil
              refine AllReadyH.cons (o := ?o38) ?hi38 (fun K hK => ?st38) ?mo38
              case hi38 => (simp only [List.getElem?_toArray, List.getElem?_cons_succ, List.getElem?_cons_zero]; try rfl)
              case st38 =>
                obtain ⟨W38, e38⟩ : ∃ w7, w7 = W25.alloc (.cells #[.int .i64 0, .string ⟨#[]⟩, .string ⟨#[]⟩, .string ⟨#[]⟩, .int .i64 0, .int .i64 0, .int .i64 0, .int .i64 0, .slice none 0 0] 30) := ⟨_, rfl⟩
                obtain ⟨gk, s38⟩ : ∃ g, g = W25.heap.size := ⟨_, rfl⟩
                have hb38 : Below W25.heap.size W25 W38 := by rw [e38]; exact (Below.refl _ _).alloc (Nat.le_refl _) _
                have N38 : Blk W38 gk 30 #[.int .i64 0, .string ⟨#[]⟩, .string ⟨#[]⟩, .string ⟨#[]⟩, .int .i64 0, .int .i64 0, .int .i64 0, .int .i64 0, .slice none 0 0] := by rw [e38, s38]; exact Blk.new _ _ _
                have G38 : wd.heap.size ≤ gk := by rw [s38]; exact H25.1.be.size
                have H38 : MhS wd (ad1.add i) (ad2.add i) (ad3.add i) x y z W38 ∧ Blk W38 fb 9 #[.string ⟨#[102]⟩, .string ⟨#[103]⟩] := ⟨H25.1.below hb38, H25.2.below hb38 H25.2.lt⟩
                go_simp
                rw [← e38, ← s38]
                clear e38 s38 hb38
                refine hK.out _ _ H38 (fun _ => ?rs38)
                clear hK K
                try simp only [Act.put, List.setIfInBounds_toArray, List.set_cons_zero, List.set_cons_succ]
                refine wpAnyH_ready (rs := [18]) (by kernel_rfl) (by simp) ?_
                refine AllReadyH.cons (o := ?o39) ?hi39 (fun K hK => ?st39) ?mo39
                case hi39 => (simp only [List.getElem?_toArray, List.getElem?_cons_succ, List.getElem?_cons_zero]; try rfl)
                case st39 =>
                  go_simp
                  go_at_call 10
                  refine (hW3 _).mono ?_
                  rintro e wz ⟨rfl, rfl⟩
                  try dsimp only
                  refine hK.out _ _ H38 (fun _ => ?rs39)
                  clear hK K
                  try simp only [Act.put, List.setIfInBounds_toArray, List.set_cons_zero, List.set_cons_succ]
                  refine wpAnyH_take (i := 19) (oi := ?oi40) (v := ?v40) ?hi40 (by kernel_rfl) (by kernel_rfl) (by kernel_rfl) (fun _ _ _ h => h) ?hy40 H38 ?rest40
                  case hi40 => (simp only [List.getElem?_toArray, List.getElem?_cons_succ, List.getElem?_cons_zero]; try rfl)
                  case hy40 => (refine Or.inl ⟨by rfl, ?_⟩; intro w hSw; go_simp; (try with_reducible rfl))
                  try simp only [Act.put, List.setIfInBounds_toArray, List.set_cons_zero, List.set_cons_succ]
                  refine wpAnyH_ready (rs := [27]) (by kernel_rfl) (by simp) ?_
                  refine AllReadyH.cons (o := ?o41) ?hi41 (fun K hK => ?st41) ?mo41
                  case hi41 => (simp only [List.getElem?_toArray, List.getElem?_cons_succ, List.getElem?_cons_zero]; try rfl)
                  case st41 =>
                    go_simp
                    go_at_call 10
                    refine (hW6 _).mono ?_
                    rintro e wz ⟨rfl, rfl⟩
                    try dsimp only
                    refine hK.out _ _ H38 (fun _ => ?rs41)
                    clear hK K
                    try simp only [Act.put, List.setIfInBounds_toArray, List.set_cons_zero, List.set_cons_succ]
                    refine wpAnyH_take (i := 28) (oi := ?oi42) (v := ?v42) ?hi42 (by kernel_rfl) (by kernel_rfl) (by kernel_rfl) (fun _ _ _ h => h) ?hy42 H38 ?rest42
                    case hi42 => (simp only [List.getElem?_toArray, List.getElem?_cons_succ, List.getElem?_cons_zero]; try rfl)
                    case hy42 => (refine Or.inl ⟨by rfl, ?_⟩; intro w hSw; go_simp; (try with_reducible rfl))
                    try simp only [Act.put, List.setIfInBounds_toArray, List.set_cons_zero, List.set_cons_succ]
                    refine wpAnyH_take (i := 29) (oi := ?oi43) (v := ?v43) ?hi43 (by kernel_rfl) (by kernel_rfl) (by kernel_rfl) (fun _ _ _ h => h) ?hy43 H38 ?rest43
                    case hi43 => (simp only [List.getElem?_toArray, List.getElem?_cons_succ, List.getElem?_cons_zero]; try rfl)
                    case hy43 => (refine yields_build (cells := #[.int .i64 11, .string G, .string ⟨#[]⟩, .string TT, .int .i64 0, .int .i64 st, .int .i64 nu, .int .i64 ep, .slice none 0 0]) 30 ?pa43 ?ho43 ?hg43 ?hf43; (case ho43 => rfl); (case hg43 => rfl); (case hf43 => simp [Act.eval]; exact built_msg _ _ _ _ _))
                    try simp only [Act.put, List.setIfInBounds_toArray, List.set_cons_zero, List.set_cons_succ]
                    refine wpAnyH_ready (rs := [31]) (by kernel_rfl) (by simp) ?_
                    refine AllReadyH.cons (o := ?o44) ?hi44 (fun K hK => ?st44) ?mo44
                    case hi44 => (simp only [List.getElem?_toArray, List.getElem?_cons_succ, List.getElem?_cons_zero]; try rfl)
                    case st44 =>
                      have hfg : fb ≠ gk := H38.2.ne_ N38 (by decide)
                      refine store_msg (k := 11) (f := G) (e := ⟨#[]⟩) (t := TT) (n := 0) (st := st) (nu := nu) (ep := ep) rfl rfl (by simp [Act.eval]; done) (by simp [Act.eval]; done) N38 rfl ?_
                      intro w44 hb44 hbe44 hbf44
                      have hw44 := hbe44 wd G38 H38.1.be
                      refine hK.out _ _ ⟨⟨H38.1.k1, H38.1.k2, H38.1.k3, hw44⟩, hbf44 _ _ _ hfg H38.2⟩ (fun _ => ?rs44)
                      clear hK K
                      try simp only [Act.put]
                      refine wpAnyH_done (by kernel_rfl) ?_ _
                      refine NoPanic.normal ?_
                      go_wp2_with fail
                      go_meet
                      exact Lib.hid ⟨gk, _, rfl, Nat.le_trans hdr G38, hb44, hdb.trans (hw44.mono hdb.size), rfl⟩
                    exact AllReadyH.nil
                  exact AllReadyH.nil
                exact AllReadyH.nil
              exact AllReadyH.nil
            refine AllReadyH.cons (o := ?o45) ?hi45 (fun K hK => ?st45) ?mo45
            case hi45 => (simp only [List.getElem?_toArray, List.getElem?_cons_succ, List.getElem?_cons_zero]; try rfl)
            case st45 =>
              obtain ⟨W45, e45⟩ : ∃ w7, w7 = W21.alloc (.cells #[.int .i64 0, .string ⟨#[]⟩, .string ⟨#[]⟩, .string ⟨#[]⟩, .int .i64 0, .int .i64 0, .int .i64 0, .int .i64 0, .slice none 0 0] 30) := ⟨_, rfl⟩
              obtain ⟨gk, s45⟩ : ∃ g, g = W21.heap.size := ⟨_, rfl⟩
              have hb45 : Below W21.heap.size W21 W45 := by rw [e45]; exact (Below.refl _ _).alloc (Nat.le_refl _) _
              have N45 : Blk W45 gk 30 #[.int .i64 0, .string ⟨#[]⟩, .string ⟨#[]⟩, .string ⟨#[]⟩, .int .i64 0, .int .i64 0, .int .i64 0, .int .i64 0, .slice none 0 0] := by rw [e45, s45]; exact Blk.new _ _ _
              have G45 : wd.heap.size ≤ gk := by rw [s45]; exact H21.1.be.size
              have H45 : MhS wd (ad1.add i) (ad2.add i) (ad3.add i) x y z W45 ∧ Blk W45 fb 9 #[.string ⟨#[102]⟩, .string ⟨#[103]⟩] := ⟨H21.1.below hb45, H21.2.below hb45 H21.2.lt⟩
              go_simp
              rw [← e45, ← s45]
              clear e45 s45 hb45
              refine hK.out _ _ H45 (fun _ => ?rs45)
              clear hK K
              try simp only [Act.put, List.setIfInBounds_toArray, List.set_cons_zero, List.set_cons_succ]
              refine wpAnyH_ready (rs := [13]) (by kernel_rfl) (by simp) ?_
              refine AllReadyH.cons (o := ?o46) ?hi46 (fun K hK => ?st46) ?mo46
              case hi46 => (simp only [List.getElem?_toArray, List.getElem?_cons_succ, List.getElem?_cons_zero]; try rfl)
              case st46 =>
                go_simp
                go_at_call 16
                refine (hTk _).mono ?_
                rintro e W46 ⟨rfl, hb46⟩
                have H46 : MhS wd (ad1.add i) (ad2.add i) (ad3.add i) x y z W46 ∧ Blk W46 fb 9 #[.string ⟨#[102]⟩, .string ⟨#[103]⟩] := ⟨H45.1.below hb46, H45.2.below hb46 H45.2.lt⟩
                have Z46 := N45.below hb46 N45.lt
                clear hb46
                try dsimp only
                refine hK.out _ _ H46 (fun _ => ?rs46)
                clear hK K
                try simp only [Act.put, List.setIfInBounds_toArray, List.set_cons_zero, List.set_cons_succ]
                refine wpAnyH_ready (rs := [18]) (by kernel_rfl) (by simp) ?_
                refine AllReadyH.cons (o := ?o47) ?hi47 (fun K hK => ?st47) ?mo47
                case hi47 => (simp only [List.getElem?_toArray, List.getElem?_cons_succ, List.getElem?_cons_zero]; try rfl)
                case st47 =>
                  go_simp
                  go_at_call 10
                  refine (hW3 _).mono ?_
                  rintro e wz ⟨rfl, rfl⟩
                  try dsimp only
                  refine hK.out _ _ H46 (fun _ => ?rs47)
                  clear hK K
                  try simp only [Act.put, List.setIfInBounds_toArray, List.set_cons_zero, List.set_cons_succ]
                  refine wpAnyH_take (i := 19) (oi := ?oi48) (v := ?v48) ?hi48 (by kernel_rfl) (by kernel_rfl) (by kernel_rfl) (fun _ _ _ h => h) ?hy48 H46 ?rest48
                  case hi48 => (simp only [List.getElem?_toArray, List.getElem?_cons_succ, List.getElem?_cons_zero]; try rfl)
                  case hy48 => (refine Or.inl ⟨by rfl, ?_⟩; intro w hSw; go_simp; (try with_reducible rfl))
                  try simp only [Act.put, List.setIfInBounds_toArray, List.set_cons_zero, List.set_cons_succ]
                  refine wpAnyH_ready (rs := [27]) (by kernel_rfl) (by simp) ?_
                  refine AllReadyH.cons (o := ?o49) ?hi49 (fun K hK => ?st49) ?mo49
                  case hi49 => (simp only [List.getElem?_toArray, List.getElem?_cons_succ, List.getElem?_cons_zero]; try rfl)
                  case st49 =>
                    go_simp
                    go_at_call 10
                    refine (hW6 _).mono ?_
                    rintro e wz ⟨rfl, rfl⟩
                    try dsimp only
                    refine hK.out _ _ H46 (fun _ => ?rs49)
                    clear hK K
                    try simp only [Act.put, List.setIfInBounds_toArray, List.set_cons_zero, List.set_cons_succ]
                    refine wpAnyH_take (i := 28) (oi := ?oi50) (v := ?v50) ?hi50 (by kernel_rfl) (by kernel_rfl) (by kernel_rfl) (fun _ _ _ h => h) ?hy50 H46 ?rest50
                    case hi50 => (simp only [List.getElem?_toArray, List.getElem?_cons_succ, List.getElem?_cons_zero]; try rfl)
                    case hy50 => (refine Or.inl ⟨by rfl, ?_⟩; intro w hSw; go_simp; (try with_reducible rfl))
                    try simp only [Act.put, List.setIfInBounds_toArray, List.set_cons_zero, List.set_cons_succ]
                    refine wpAnyH_take (i := 29) (oi := ?oi51) (v := ?v51) ?hi51 (by kernel_rfl) (by kernel_rfl) (by kernel_rfl) (fun _ _ _ h => h) ?hy51 H46 ?rest51
                    case hi51 => (simp only [List.getElem?_toArray, List.getElem?_cons_succ, List.getElem?_cons_zero]; try rfl)
                    case hy51 => (refine yields_build (cells := #[.int .i64 11, .string G, .string ⟨#[]⟩, .string TT, .int .i64 0, .int .i64 st, .int .i64 nu, .int .i64 ep, .slice none 0 0]) 30 ?pa51 ?ho51 ?hg51 ?hf51; (case ho51 => rfl); (case hg51 => rfl); (case hf51 => simp [Act.eval]; exact built_msg _ _ _ _ _))
                    try simp only [Act.put, List.setIfInBounds_toArray, List.set_cons_zero, List.set_cons_succ]
                    refine wpAnyH_ready (rs := [31]) (by kernel_rfl) (by simp) ?_
                    refine AllReadyH.cons (o := ?o52) ?hi52 (fun K hK => ?st52) ?mo52
                    case hi52 => (simp only [List.getElem?_toArray, List.getElem?_cons_succ, List.getElem?_cons_zero]; try rfl)
                    case st52 =>
                      have hfg : fb ≠ gk := H46.2.ne_ Z46 (by decide)
                      refine store_msg (k := 11) (f := G) (e := ⟨#[]⟩) (t := TT) (n := 0) (st := st) (nu := nu) (ep := ep) rfl rfl (by simp [Act.eval]; done) (by simp [Act.eval]; done) Z46 rfl ?_
                      intro w52 hb52 hbe52 hbf52
                      have hw52 := hbe52 wd G45 H46.1.be
                      refine hK.out _ _ ⟨⟨H46.1.k1, H46.1.k2, H46.1.k3, hw52⟩, hbf52 _ _ _ hfg H46.2⟩ (fun _ => ?rs52)
                      clear hK K
                      try simp only [Act.put]
                      refine wpAnyH_done (by kernel_rfl) ?_ _
                      refine NoPanic.normal ?_
                      go_wp2_with fail
                      go_meet
                      exact Lib.hid ⟨gk, _, rfl, Nat.le_trans hdr G45, hb52, hdb.trans (hw52.mono hdb.size), rfl⟩
                    exact AllReadyH.nil
                  exact AllReadyH.nil
                exact AllReadyH.nil
              exact AllReadyH.nil
            exact AllReadyH.nil
          refine AllReadyH.cons (o := ?o53) ?hi53 (fun K hK => ?st53) ?mo53
          case hi53 => (simp only [List.getElem?_toArray, List.getElem?_cons_succ, List.getElem?_cons_zero]; try rfl)
          case st53 =>
            obtain ⟨W53, e53⟩ : ∃ w7, w7 = W21.alloc (.cells #[.int .i64 0, .string ⟨#[]⟩, .string ⟨#[]⟩, .string ⟨#[]⟩, .int .i64 0, .int .i64 0, .int .i64 0, .int .i64 0, .slice none 0 0] 30) := ⟨_, rfl⟩
            obtain ⟨gk, s53⟩ : ∃ g, g = W21.heap.size := ⟨_, rfl⟩
            have hb53 : Below W21.heap.size W21 W53 := by rw [e53]; exact (Below.refl _ _).alloc (Nat.le_refl _) _
            have N53 : Blk W53 gk 30 #[.int .i64 0, .string ⟨#[]⟩, .string ⟨#[]⟩, .string ⟨#[]⟩, .int .i64 0, .int .i64 0, .int .i64 0, .int .i64 0, .slice none 0 0] := by rw [e53, s53]; exact Blk.new _ _ _
            have G53 : wd.heap.size ≤ gk := by rw [s53]; exact H21.1.be.size
            have H53 : MhS wd (ad1.add i) (ad2.add i) (ad3.add i) x y z W53 ∧ Blk W53 fb 9 #[.string ⟨#[102]⟩, .string ⟨#[103]⟩] := ⟨H21.1.below hb53, H21.2.below hb53 H21.2.lt⟩
            go_simp
            rw [← e53, ← s53]
            clear e53 s53 hb53
            refine hK.out _ _ H53 (fun _ => ?rs53)
            clear hK K
            try simp only [Act.put, List.setIfInBounds_toArray, List.set_cons_zero, List.set_cons_succ]
            refine wpAnyH_ready (rs := [6]) (by kernel_rfl) (by simp) ?_
            refine AllReadyH.cons (o := ?o54) ?hi54 (fun K hK => ?st54) ?mo54
            case hi54 => (simp only [List.getElem?_toArray, List.getElem?_cons_succ, List.getElem?_cons_zero]; try rfl)
            case st54 =>
              go_simp
              go_at_call 10
              refine (hW2 _).mono ?_
              rintro e wz ⟨rfl, rfl⟩
              try dsimp only
              refine hK.out _ _ H53 (fun _ => ?rs54)
              clear hK K
              try simp only [Act.put, List.setIfInBounds_toArray, List.set_cons_zero, List.set_cons_succ]
              refine wpAnyH_take (i := 7) (oi := ?oi55) (v := ?v55) ?hi55 (by kernel_rfl) (by kernel_rfl) (by kernel_rfl) (fun _ _ _ h => h) ?hy55 H53 ?rest55
              case hi55 => (simp only [List.getElem?_toArray, List.getElem?_cons_succ, List.getElem?_cons_zero]; try rfl)
              case hy55 => (refine Or.inl ⟨by rfl, ?_⟩; intro w hSw; go_simp; (try with_reducible rfl))
              try simp only [Act.put, List.setIfInBounds_toArray, List.set_cons_zero, List.set_cons_succ]
              refine wpAnyH_take (i := 8) (oi := ?oi56) (v := ?v56) ?hi56 (by kernel_rfl) (by kernel_rfl) (by kernel_rfl) (fun _ _ _ h => h) ?hy56 H53 ?rest56
              case hi56 => (simp only [List.getElem?_toArray, List.getElem?_cons_succ, List.getElem?_cons_zero]; try rfl)
              case hy56 => (refine Or.inl ⟨by rfl, ?_⟩; intro w hSw; have q := (hSw.2.cell qn).trans hG; go_simp; (try with_reducible rfl))
              try simp only [Act.put, List.setIfInBounds_toArray, List.set_cons_zero, List.set_cons_succ]
              clear hG
              refine wpAnyH_ready (rs := [13]) (by kernel_rfl) (by simp) ?_
              refine AllReadyH.cons (o := ?o57) ?hi57 (fun K hK => ?st57) ?mo57
              case hi57 => (simp only [List.getElem?_toArray, List.getElem?_cons_succ, List.getElem?_cons_zero]; try rfl)
              case st57 =>
                go_simp
                go_at_call 16
                refine (hTk _).mono ?_
                rintro e W57 ⟨rfl, hb57⟩
                have H57 : MhS wd (ad1.add i) (ad2.add i) (ad3.add i) x y z W57 ∧ Blk W57 fb 9 #[.string ⟨#[102]⟩, .string ⟨#[103]⟩] := ⟨H53.1.below hb57, H53.2.below hb57 H53.2.lt⟩
                have Z57 := N53.below hb57 N53.lt
                clear hb57
                try dsimp only
                refine hK.out _ _ H57 (fun _ => ?rs57)
                clear hK K
                try simp only [Act.put, List.setIfInBounds_toArray, List.set_cons_zero, List.set_cons_succ]
                refine wpAnyH_ready (rs := [18]) (by kernel_rfl) (by simp) ?_
                refine AllReadyH.cons (o := ?o58) ?hi58 (fun K hK => ?st58) ?mo58
                case hi58 => (simp only [List.getElem?_toArray, List.getElem?_cons_succ, List.getElem?_cons_zero]; try rfl)
                case st58 =>
                  go_simp
                  go_at_call 10
                  refine (hW3 _).mono ?_
                  rintro e wz ⟨rfl, rfl⟩
                  try dsimp only
                  refine hK.out _ _ H57 (fun _ => ?rs58)
                  clear hK K
                  try simp only [Act.put, List.setIfInBounds_toArray, List.set_cons_zero, List.set_cons_succ]
                  refine wpAnyH_take (i := 19) (oi := ?oi59) (v := ?v59) ?hi59 (by kernel_rfl) (by kernel_rfl) (by kernel_rfl) (fun _ _ _ h => h) ?hy59 H57 ?rest59
                  case hi59 => (simp only [List.getElem?_toArray, List.getElem?_cons_succ, List.getElem?_cons_zero]; try rfl)
                  case hy59 => (refine Or.inl ⟨by rfl, ?_⟩; intro w hSw; go_simp; (try with_reducible rfl))
                  try simp only [Act.put, List.setIfInBounds_toArray, List.set_cons_zero, List.set_cons_succ]
                  refine wpAnyH_ready (rs := [27]) (by kernel_rfl) (by simp) ?_
                  refine AllReadyH.cons (o := ?o60) ?hi60 (fun K hK => ?st60) ?mo60
                  case hi60 => (simp only [List.getElem?_toArray, List.getElem?_cons_succ, List.getElem?_cons_zero]; try rfl)
                  case st60 =>
                    go_simp
                    go_at_call 10
                    refine (hW6 _).mono ?_
                    rintro e wz ⟨rfl, rfl⟩
                    try dsimp only
                    refine hK.out _ _ H57 (fun _ => ?rs60)
                    clear hK K
                    try simp only [Act.put, List.setIfInBounds_toArray, List.set_cons_zero, List.set_cons_succ]
                    refine wpAnyH_take (i := 28) (oi := ?oi61) (v := ?v61) ?hi61 (by kernel_rfl) (by kernel_rfl) (by kernel_rfl) (fun _ _ _ h => h) ?hy61 H57 ?rest61
                    case hi61 => (simp only [List.getElem?_toArray, List.getElem?_cons_succ, List.getElem?_cons_zero]; try rfl)
                    case hy61 => (refine Or.inl ⟨by rfl, ?_⟩; intro w hSw; go_simp; (try with_reducible rfl))
                    try simp only [Act.put, List.setIfInBounds_toArray, List.set_cons_zero, List.set_cons_succ]
                    refine wpAnyH_take (i := 29) (oi := ?oi62) (v := ?v62) ?hi62 (by kernel_rfl) (by kernel_rfl) (by kernel_rfl) (fun _ _ _ h => h) ?hy62 H57 ?rest62
                    case hi62 => (simp only [List.getElem?_toArray, List.getElem?_cons_succ, List.getElem?_cons_zero]; try rfl)
                    case hy62 => (refine yields_build (cells := #[.int .i64 11, .string G, .string ⟨#[]⟩, .string TT, .int .i64 0, .int .i64 st, .int .i64 nu, .int .i64 ep, .slice none 0 0]) 30 ?pa62 ?ho62 ?hg62 ?hf62; (case ho62 => rfl); (case hg62 => rfl); (case hf62 => simp [Act.eval]; exact built_msg _ _ _ _ _))
                    try simp only [Act.put, List.setIfInBounds_toArray, List.set_cons_zero, List.set_cons_succ]
                    refine wpAnyH_ready (rs := [31]) (by kernel_rfl) (by simp) ?_
                    refine AllReadyH.cons (o := ?o63) ?hi63 (fun K hK => ?st63) ?mo63
                    case hi63 => (simp only [List.getElem?_toArray, List.getElem?_cons_succ, List.getElem?_cons_zero]; try rfl)
                    case st63 =>
                      have hfg : fb ≠ gk := H57.2.ne_ Z57 (by decide)
                      refine store_msg (k := 11) (f := G) (e := ⟨#[]⟩) (t := TT) (n := 0) (st := st) (nu := nu) (ep := ep) rfl rfl (by simp [Act.eval]; done) (by simp [Act.eval]; done) Z57 rfl ?_
                      intro w63 hb63 hbe63 hbf63
                      have hw63 := hbe63 wd G53 H57.1.be
                      refine hK.out _ _ ⟨⟨H57.1.k1, H57.1.k2, H57.1.k3, hw63⟩, hbf63 _ _ _ hfg H57.2⟩ (fun _ => ?rs63)
                      clear hK K
                      try simp only [Act.put]
                      refine wpAnyH_done (by kernel_rfl) ?_ _
                      refine NoPanic.normal ?_
                      go_wp2_with fail
                      go_meet
                      exact Lib.hid ⟨gk, _, rfl, Nat.le_trans hdr G53, hb63, hdb.trans (hw63.mono hdb.size), rfl⟩
                    exact AllReadyH.nil
                  exact AllReadyH.nil
                exact AllReadyH.nil
              exact AllReadyH.nil
            exact AllReadyH.nil
          exact AllReadyH.nil
        refine AllReadyH.cons (o := ?o64) ?hi64 (fun K hK => ?st64) ?mo64
        case hi64 => (simp only [List.getElem?_toArray, List.getElem?_cons_succ, List.getElem?_cons_zero]; try rfl)
        case st64 =>
          go_simp
          go_at_call 10
          refine (hW2 _).mono ?_
          rintro e wz ⟨rfl, rfl⟩
          try dsimp only
          refine hK.out _ _ H0 (fun _ => ?rs64)
          clear hK K
          try simp only [Act.put, List.setIfInBounds_toArray, List.set_cons_zero, List.set_cons_succ]
          refine wpAnyH_ready (rs := [0, 13, 30]) (by kernel_rfl) (by simp) ?_
          refine AllReadyH.cons (o := ?o65) ?hi65 (fun K hK => ?st65) ?mo65
          case hi65 => (simp only [List.getElem?_toArray, List.getElem?_cons_zero]; try rfl)
          case st65 =>
            obtain ⟨W65, e65⟩ : ∃ w7, w7 = wd.alloc (.cells #[.string ⟨#[102]⟩, .string ⟨#[103]⟩] 9) := ⟨_, rfl⟩
            obtain ⟨fb, s65⟩ : ∃ g, g = wd.heap.size := ⟨_, rfl⟩
            have hb65 : Below wd.heap.size wd W65 := by rw [e65]; exact (Below.refl _ _).alloc (Nat.le_refl _) _
            have N65 : Blk W65 fb 9 #[.string ⟨#[102]⟩, .string ⟨#[103]⟩] := by rw [e65, s65]; exact Blk.new _ _ _
            have H65 : MhS wd (ad1.add i) (ad2.add i) (ad3.add i) x y z W65 ∧ Blk W65 fb 9 #[.string ⟨#[102]⟩, .string ⟨#[103]⟩] := ⟨H0.below hb65, N65⟩
            go_simp
            rw [← e65, ← s65]
            clear e65 s65 hb65
            refine hK.out _ _ H65.1 (fun _ => ?rs65)
            clear hK K
            try simp only [Act.put, List.setIfInBounds_toArray, List.set_cons_zero, List.set_cons_succ]
            refine wpAnyH_mono (S' := fun wa => MhS wd (ad1.add i) (ad2.add i) (ad3.add i) x y z wa ∧ Blk wa fb 9 #[.string ⟨#[102]⟩, .string ⟨#[103]⟩]) (fun _ h => h.1) _ _ _ _ ?_
            refine wpAnyH_take (i := 7) (oi := ?oi66) (v := ?v66) ?hi66 (by kernel_rfl) (by kernel_rfl) (by kernel_rfl) (fun _ _ _ h => h) ?hy66 H65 ?rest66
            case hi66 => (simp only [List.getElem?_toArray, List.getElem?_cons_succ, List.getElem?_cons_zero]; try rfl)
            case hy66 => (refine Or.inl ⟨by rfl, ?_⟩; intro w hSw; go_simp; (try with_reducible rfl))
            try simp only [Act.put, List.setIfInBounds_toArray, List.set_cons_zero, List.set_cons_succ]
            refine wpAnyH_take (i := 8) (oi := ?oi67) (v := ?v67) ?hi67 (by kernel_rfl) (by kernel_rfl) (by kernel_rfl) (fun _ _ _ h => h) ?hy67 H65 ?rest67
            case hi67 => (simp only [List.getElem?_toArray, List.getElem?_cons_succ, List.getElem?_cons_zero]; try rfl)
            case hy67 => (refine Or.inl ⟨by rfl, ?_⟩; intro w hSw; have q := (hSw.2.cell qn).trans hG; go_simp; (try with_reducible rfl))
            try simp only [Act.put, List.setIfInBounds_toArray, List.set_cons_zero, List.set_cons_succ]
            clear hG
            refine wpAnyH_ready (rs := [13, 30]) (by kernel_rfl) (by simp) ?_
            refine AllReadyH.cons (o := ?o68) ?hi68 (fun K hK => ?st68) ?mo68
            case hi68 => (simp only [List.getElem?_toArray, List.getElem?_cons_succ, List.getElem?_cons_zero]; try rfl)
            case st68 =>
              go_simp
              go_at_call 16
              refine (hTk _).mono ?_
              rintro e W68 ⟨rfl, hb68⟩
              have H68 : MhS wd (ad1.add i) (ad2.add i) (ad3.add i) x y z W68 ∧ Blk W68 fb 9 #[.string ⟨#[102]⟩, .string ⟨#[103]⟩] := ⟨H65.1.below hb68, H65.2.below hb68 H65.2.lt⟩
              clear hb68
              try dsimp only
              refine hK.out _ _ H68 (fun _ => ?rs68)
              clear hK K
              try simp only [Act.put, List.setIfInBounds_toArray, List.set_cons_zero, List.set_cons_succ]
              refine wpAnyH_ready (rs := [18, 30]) (by kernel_rfl) (by simp) ?_
              refine AllReadyH.cons (o := ?o69) ?hi69 (fun K hK => ?st69) ?mo69
              case hi69 => (simp only [List.getElem?_toArray, List.getElem?_cons_succ, List.getElem?_cons_zero]; try rfl)
              case st69 =>
                go_simp
                go_at_call 10
                refine (hW3 _).mono ?_
                rintro e wz ⟨rfl, rfl⟩
                try dsimp only
                refine hK.out _ _ H68 (fun _ => ?rs69)
                clear hK K
                try simp only [Act.put, List.setIfInBounds_toArray, List.set_cons_zero, List.set_cons_succ]
                refine wpAnyH_take (i := 19) (oi := ?oi70) (v := ?v70) ?hi70 (by kernel_rfl) (by kernel_rfl) (by kernel_rfl) (fun _ _ _ h => h) ?hy70 H68 ?rest70
                case hi70 => (simp only [List.getElem?_toArray, List.getElem?_cons_succ, List.getElem?_cons_zero]; try rfl)
                case hy70 => (refine Or.inl ⟨by rfl, ?_⟩; intro w hSw; go_simp; (try with_reducible rfl))
                try simp only [Act.put, List.setIfInBounds_toArray, List.set_cons_zero, List.set_cons_succ]
                refine wpAnyH_ready (rs := [27, 30]) (by kernel_rfl) (by simp) ?_
                refine AllReadyH.cons (o := ?o71) ?hi71 (fun K hK => ?st71) ?mo71
                case hi71 => (simp only [List.getElem?_toArray, List.getElem?_cons_succ, List.getElem?_cons_zero]; try rfl)
                case st71 =>
                  go_simp
                  go_at_call 10
                  refine (hW6 _).mono ?_
                  rintro e wz ⟨rfl, rfl⟩
                  try dsimp only
                  refine hK.out _ _ H68 (fun _ => ?rs71)
                  clear hK K
                  try simp only [Act.put, List.setIfInBounds_toArray, List.set_cons_zero, List.set_cons_succ]
                  refine wpAnyH_take (i := 28) (oi := ?oi72) (v := ?v72) ?hi72 (by kernel_rfl) (by kernel_rfl) (by kernel_rfl) (fun _ _ _ h => h) ?hy72 H68 ?rest72
                  case hi72 => (simp only [List.getElem?_toArray, List.getElem?_cons_succ, List.getElem?_cons_zero]; try rfl)
                  case hy72 => (refine Or.inl ⟨by rfl, ?_⟩; intro w hSw; go_simp; (try with_reducible rfl))
                  try simp only [Act.put, List.setIfInBounds_toArray, List.set_cons_zero, List.set_cons_succ]
                  refine wpAnyH_take (i := 29) (oi := ?oi73) (v := ?v73) ?hi73 (by kernel_rfl) (by kernel_rfl) (by kernel_rfl) (fun _ _ _ h => h) ?hy73 H68 ?rest73
                  case hi73 => (simp only [List.getElem?_toArray, List.getElem?_cons_succ, List.getElem?_cons_zero]; try rfl)
                  case hy73 => (refine yields_build (cells := #[.int .i64 11, .string G, .string ⟨#[]⟩, .string TT, .int .i64 0, .int .i64 st, .int .i64 nu, .int .i64 ep, .slice none 0 0]) 30 ?pa73 ?ho73 ?hg73 ?hf73; (case ho73 => rfl); (case hg73 => rfl); (case hf73 => simp [Act.eval]; exact built_msg _ _ _ _ _))
                  try simp only [Act.put, List.setIfInBounds_toArray, List.set_cons_zero, List.set_cons_succ]
                  refine wpAnyH_ready (rs := [30]) (by kernel_rfl) (by simp) ?_
                  refine AllReadyH.cons (o := ?o74) ?hi74 (fun K hK => ?st74) ?mo74
                  case hi74 => (simp only [List.getElem?_toArray, List.getElem?_cons_succ, List.getElem?_cons_zero]; try rfl)
                  case st74 =>
                    obtain ⟨W74, e74⟩ : ∃ w7, w7 = W68.alloc (.cells #[.int .i64 0, .string ⟨#[]⟩, .string ⟨#[]⟩, .string ⟨#[]⟩, .int .i64 0, .int .i64 0, .int .i64 0, .int .i64 0, .slice none 0 0] 30) := ⟨_, rfl⟩
                    obtain ⟨gk, s74⟩ : ∃ g, g = W68.heap.size := ⟨_, rfl⟩
                    have hb74 : Below W68.heap.size W68 W74 := by rw [e74]; exact (Below.refl _ _).alloc (Nat.le_refl _) _
                    have N74 : Blk W74 gk 30 #[.int .i64 0, .string ⟨#[]⟩, .string ⟨#[]⟩, .string ⟨#[]⟩, .int .i64 0, .int .i64 0, .int .i64 0, .int .i64 0, .slice none 0 0] := by rw [e74, s74]; exact Blk.new _ _ _
                    have G74 : wd.heap.size ≤ gk := by rw [s74]; exact H68.1.be.size
                    have H74 : MhS wd (ad1.add i) (ad2.add i) (ad3.add i) x y z W74 ∧ Blk W74 fb 9 #[.string ⟨#[102]⟩, .string ⟨#[103]⟩] := ⟨H68.1.below hb74, H68.2.below hb74 H68.2.lt⟩
                    go_simp
                    rw [← e74, ← s74]
                    clear e74 s74 hb74
                    refine hK.out _ _ H74 (fun _ => ?rs74)
                    clear hK K
                    try simp only [Act.put, List.setIfInBounds_toArray, List.set_cons_zero, List.set_cons_succ]
                    refine wpAnyH_ready (rs := [31]) (by kernel_rfl) (by simp) ?_
                    refine AllReadyH.cons (o := ?o75) ?hi75 (fun K hK => ?st75) ?mo75
                    case hi75 => (simp only [List.getElem?_toArray, List.getElem?_cons_succ, List.getElem?_cons_zero]; try rfl)
                    case st75 =>
                      have hfg : fb ≠ gk := H74.2.ne_ N74 (by decide)
                      refine store_msg (k := 11) (f := G) (e := ⟨#[]⟩) (t := TT) (n := 0) (st := st) (nu := nu) (ep := ep) rfl rfl (by simp [Act.eval]; done) (by simp [Act.eval]; done) N74 rfl ?_
                      intro w75 hb75 hbe75 hbf75
                      have hw75 := hbe75 wd G74 H74.1.be
                      refine hK.out _ _ ⟨⟨H74.1.k1, H74.1.k2, H74.1.k3, hw75⟩, hbf75 _ _ _ hfg H74.2⟩ (fun _ => ?rs75)
                      clear hK K
                      try simp only [Act.put]
                      refine wpAnyH_done (by kernel_rfl) ?_ _
                      refine NoPanic.normal ?_
                      go_wp2_with fail
                      go_meet
                      exact Lib.hid ⟨gk, _, rfl, Nat.le_trans hdr G74, hb75, hdb.trans (hw75.mono hdb.size), rfl⟩
                    exact AllReadyH.nil
                  exact AllReadyH.nil
                refine AllReadyH.cons (o := ?o76) ?hi76 (fun K hK => ?st76) ?mo76
                case hi76 => (simp only [List.getElem?_toArray, List.getElem?_cons_succ, List.getElem?_cons_zero]; try rfl)
                case st76 =>
                  obtain ⟨W76, e76⟩ : ∃ w7, w7 = W68.alloc (.cells #[.int .i64 0, .string ⟨#[]⟩, .string ⟨#[]⟩, .string ⟨#[]⟩, .int .i64 0, .int .i64 0, .int .i64 0, .int .i64 0, .slice none 0 0] 30) := ⟨_, rfl⟩
                  obtain ⟨gk, s76⟩ : ∃ g, g = W68.heap.size := ⟨_, rfl⟩
                  have hb76 : Below W68.heap.size W68 W76 := by rw [e76]; exact (Below.refl _ _).alloc (Nat.le_refl _) _
                  have N76 : Blk W76 gk 30 #[.int .i64 0, .string ⟨#[]⟩, .string ⟨#[]⟩, .string ⟨#[]⟩, .int .i64 0, .int .i64 0, .int .i64 0, .int .i64 0, .slice none 0 0] := by rw [e76, s76]; exact Blk.new _ _ _
                  have G76 : wd.heap.size ≤ gk := by rw [s76]; exact H68.1.be.size
                  have H76 : MhS wd (ad1.add i) (ad2.add i) (ad3.add i) x y z W76 ∧ Blk W76 fb 9 #[.string ⟨#[102]⟩, .string ⟨#[103]⟩] := ⟨H68.1.below hb76, H68.2.below hb76 H68.2.lt⟩
                  go_simp
                  rw [← e76, ← s76]
                  clear e76 s76 hb76
                  refine hK.out _ _ H76 (fun _ => ?rs76)
                  clear hK K
                  try simp only [Act.put, List.setIfInBounds_toArray, List.set_cons_zero, List.set_cons_succ]
                  refine wpAnyH_ready (rs := [27]) (by kernel_rfl) (by simp) ?_
                  refine AllReadyH.cons (o := ?o77) ?hi77 (fun K hK => ?st77) ?mo77
                  case hi77 => (simp only [List.getElem?_toArray, List.getElem?_cons_succ, List.getElem?_cons_zero]; try rfl)
                  case st77 =>
                    go_simp
                    go_at_call 10
                    refine (hW6 _).mono ?_
                    rintro e wz ⟨rfl, rfl⟩
                    try dsimp only
                    refine hK.out _ _ H76 (fun _ => ?rs77)
                    clear hK K
                    try simp only [Act.put, List.setIfInBounds_toArray, List.set_cons_zero, List.set_cons_succ]
                    refine wpAnyH_take (i := 28) (oi := ?oi78) (v := ?v78) ?hi78 (by kernel_rfl) (by kernel_rfl) (by kernel_rfl) (fun _ _ _ h => h) ?hy78 H76 ?rest78
                    case hi78 => (simp only [List.getElem?_toArray, List.getElem?_cons_succ, List.getElem?_cons_zero]; try rfl)
                    case hy78 => (refine Or.inl ⟨by rfl, ?_⟩; intro w hSw; go_simp; (try with_reducible rfl))
                    try simp only [Act.put, List.setIfInBounds_toArray, List.set_cons_zero, List.set_cons_succ]
                    refine wpAnyH_take (i := 29) (oi := ?oi79) (v := ?v79) ?hi79 (by kernel_rfl) (by kernel_rfl) (by kernel_rfl) (fun _ _ _ h => h) ?hy79 H76 ?rest79
                    case hi79 => (simp only [List.getElem?_toArray, List.getElem?_cons_succ, List.getElem?_cons_zero]; try rfl)
                    case hy79 => (refine yields_build (cells := #[.int .i64 11, .string G, .string ⟨#[]⟩, .string TT, .int .i64 0, .int .i64 st, .int .i64 nu, .int .i64 ep, .slice none 0 0]) 30 ?pa79 ?ho79 ?hg79 ?hf79; (case ho79 => rfl); (case hg79 => rfl); (case hf79 => simp [Act.eval]; exact built_msg _ _ _ _ _))
                    try simp only [Act.put, List.setIfInBounds_toArray, List.set_cons_zero, List.set_cons_succ]
                    refine wpAnyH_ready (rs := [31]) (by kernel_rfl) (by simp) ?_
                    refine AllReadyH.cons (o := ?o80) ?hi80 (fun K hK => ?st80) ?mo80
                    case hi80 => (simp only [List.getElem?_toArray, List.getElem?_cons_succ, List.getElem?_cons_zero]; try rfl)
                    case st80 =>
                      have hfg : fb ≠ gk := H76.2.ne_ N76 (by decide)
                      refine store_msg (k := 11) (f := G) (e := ⟨#[]⟩) (t := TT) (n := 0) (st := st) (nu := nu) (ep := ep) rfl rfl (by simp [Act.eval]; done) (by simp [Act.eval]; done) N76 rfl ?_
                      intro w80 hb80 hbe80 hbf80
                      have hw80 := hbe80 wd G76 H76.1.be
                      refine hK.out _ _ ⟨⟨H76.1.k1, H76.1.k2, H76.1.k3, hw80⟩, hbf80 _ _ _ hfg H76.2⟩ (fun _ => ?rs80)
                      clear hK K
                      try simp only [Act.put]
                      refine wpAnyH_done (by kernel_rfl) ?_ _
                      refine NoPanic.normal ?_
                      go_wp2_with fail
                      go_meet
                      exact Lib.hid ⟨gk, _, rfl, Nat.le_trans hdr G76, hb80, hdb.trans (hw80.mono hdb.size), rfl⟩
                    exact AllReadyH.nil
                  exact AllReadyH.nil
                exact AllReadyH.nil
              refine AllReadyH.cons (o := ?o81) ?hi81 (fun K hK => ?st81) ?mo81
              case hi81 => (simp only [List.getElem?_toArray, List.getElem?_cons_succ, List.getElem?_cons_zero]; try rfl)
              case st81 =>
                obtain ⟨W81, e81⟩ : ∃ w7, w7 = W68.alloc (.cells #[.int .i64 0, .string ⟨#[]⟩, .string ⟨#[]⟩, .string ⟨#[]⟩, .int .i64 0, .int .i64 0, .int .i64 0, .int .i64 0, .slice none 0 0] 30) := ⟨_, rfl⟩
                obtain ⟨gk, s81⟩ : ∃ g, g = W68.heap.size := ⟨_, rfl⟩
                have hb81 : Below W68.heap.size W68 W81 := by rw [e81]; exact (Below.refl _ _).alloc (Nat.le_refl _) _
                have N81 : Blk W81 gk 30 #[.int .i64 0, .string ⟨#[]⟩, .string ⟨#[]⟩, .string ⟨#[]⟩, .int .i64 0, .int .i64 0, .int .i64 0, .int .i64 0, .slice none 0 0] := by rw [e81, s81]; exact Blk.new _ _ _
                have G81 : wd.heap.size ≤ gk := by rw [s81]; exact H68.1.be.size
                have H81 : MhS wd (ad1.add i) (ad2.add i) (ad3.add i) x y z W81 ∧ Blk W81 fb 9 #[.string ⟨#[102]⟩, .string ⟨#[103]⟩] := ⟨H68.1.below hb81, H68.2.below hb81 H68.2.lt⟩
                go_simp
                rw [← e81, ← s81]
                clear e81 s81 hb81
                refine hK.out _ _ H81 (fun _ => ?rs81)
                clear hK K
                try simp only [Act.put, List.setIfInBounds_toArray, List.set_cons_zero, List.set_cons_succ]
                refine wpAnyH_ready (rs := [18]) (by kernel_rfl) (by simp) ?_
                refine AllReadyH.cons (o := ?o82) ?hi82 (fun K hK => ?st82) ?mo82
                case hi82 => (simp only [List.getElem?_toArray, List.getElem?_cons_succ, List.getElem?_cons_zero]; try rfl)
                case st82 =>
                  go_simp
                  go_at_call 10
                  refine (hW3 _).mono ?_
                  rintro e wz ⟨rfl, rfl⟩
                  try dsimp only
                  refine hK.out _ _ H81 (fun _ => ?rs82)
                  clear hK K
                  try simp only [Act.put, List.setIfInBounds_toArray, List.set_cons_zero, List.set_cons_succ]
                  refine wpAnyH_take (i := 19) (oi := ?oi83) (v := ?v83) ?hi83 (by kernel_rfl) (by kernel_rfl) (by kernel_rfl) (fun _ _ _ h => h) ?hy83 H81 ?rest83
                  case hi83 => (simp only [List.getElem?_toArray, List.getElem?_cons_succ, List.getElem?_cons_zero]; try rfl)
                  case hy83 => (refine Or.inl ⟨by rfl, ?_⟩; intro w hSw; go_simp; (try with_reducible rfl))
                  try simp only [Act.put, List.setIfInBounds_toArray, List.set_cons_zero, List.set_cons_succ]
                  refine wpAnyH_ready (rs := [27]) (by kernel_rfl) (by simp) ?_
                  refine AllReadyH.cons (o := ?o84) ?hi84 (fun K hK => ?st84) ?mo84
                  case hi84 => (simp only [List.getElem?_toArray, List.getElem?_cons_succ, List.getElem?_cons_zero]; try rfl)
                  case st84 =>
                    go_simp
                    go_at_call 10
                    refine (hW6 _).mono ?_
                    rintro e wz ⟨rfl, rfl⟩
                    try dsimp only
                    refine hK.out _ _ H81 (fun _ => ?rs84)
                    clear hK K
                    try simp only [Act.put, List.setIfInBounds_toArray, List.set_cons_zero, List.set_cons_succ]
                    refine wpAnyH_take (i := 28) (oi := ?oi85) (v := ?v85) ?hi85 (by kernel_rfl) (by kernel_rfl) (by kernel_rfl) (fun _ _ _ h => h) ?hy85 H81 ?rest85
                    case hi85 => (simp only [List.getElem?_toArray, List.getElem?_cons_succ, List.getElem?_cons_zero]; try rfl)
                    case hy85 => (refine Or.inl ⟨by rfl, ?_⟩; intro w hSw; go_simp; (try with_reducible rfl))
                    try simp only [Act.put, List.setIfInBounds_toArray, List.set_cons_zero, List.set_cons_succ]
                    refine wpAnyH_take (i := 29) (oi := ?oi86) (v := ?v86) ?hi86 (by kernel_rfl) (by kernel_rfl) (by kernel_rfl) (fun _ _ _ h => h) ?hy86 H81 ?rest86
                    case hi86 => (simp only [List.getElem?_toArray, List.getElem?_cons_succ, List.getElem?_cons_zero]; try rfl)
                    case hy86 => (refine yields_build (cells := #[.int .i64 11, .string G, .string ⟨#[]⟩, .string TT, .int .i64 0, .int .i64 st, .int .i64 nu, .int .i64 ep, .slice none 0 0]) 30 ?pa86 ?ho86 ?hg86 ?hf86; (case ho86 => rfl); (case hg86 => rfl); (case hf86 => simp [Act.eval]; exact built_msg _ _ _ _ _))
                    try simp only [Act.put, List.setIfInBounds_toArray, List.set_cons_zero, List.set_cons_succ]
                    refine wpAnyH_ready (rs := [31]) (by kernel_rfl) (by simp) ?_
                    refine AllReadyH.cons (o := ?o87) ?hi87 (fun K hK => ?st87) ?mo87
                    case hi87 => (simp only [List.getElem?_toArray, List.getElem?_cons_succ, List.getElem?_cons_zero]; try rfl)
                    case st87 =>
                      have hfg : fb ≠ gk := H81.2.ne_ N81 (by decide)
                      refine store_msg (k := 11) (f := G) (e := ⟨#[]⟩) (t := TT) (n := 0) (st := st) (nu := nu) (ep := ep) rfl rfl (by simp [Act.eval]; done) (by simp [Act.eval]; done) N81 rfl ?_
                      intro w87 hb87 hbe87 hbf87
                      have hw87 := hbe87 wd G81 H81.1.be
                      refine hK.out _ _ ⟨⟨H81.1.k1, H81.1.k2, H81.1.k3, hw87⟩, hbf87 _ _ _ hfg H81.2⟩ (fun _ => ?rs87)
                      clear hK K
                      try simp only [Act.put]
                      refine wpAnyH_done (by kernel_rfl) ?_ _
                      refine NoPanic.normal ?_
                      go_wp2_with fail
                      go_meet
                      exact Lib.hid ⟨gk, _, rfl, Nat.le_trans hdr G81, hb87, hdb.trans (hw87.mono hdb.size), rfl⟩
                    exact AllReadyH.nil
                  exact AllReadyH.nil
                exact AllReadyH.nil
              exact AllReadyH.nil
            refine AllReadyH.cons (o := ?o88) ?hi88 (fun K hK => ?st88) ?mo88
            case hi88 => (simp only [List.getElem?_toArray, List.getElem?_cons_succ, List.getElem?_cons_zero]; try rfl)
            case st88 =>
              obtain ⟨W88, e88⟩ : ∃ w7, w7 = W65.alloc (.cells #[.int .i64 0, .string ⟨#[]⟩, .string ⟨#[]⟩, .string ⟨#[]⟩, .int .i64 0, .int .i64 0, .int .i64 0, .int .i64 0, .slice none 0 0] 30) := ⟨_, rfl⟩
              obtain ⟨gk, s88⟩ : ∃ g, g = W65.heap.size := ⟨_, rfl⟩
              have hb88 : Below W65.heap.size W65 W88 := by rw [e88]; exact (Below.refl _ _).alloc (Nat.le_refl _) _
              have N88 : Blk W88 gk 30 #[.int .i64 0, .string ⟨#[]⟩, .string ⟨#[]⟩, .string ⟨#[]⟩, .int .i64 0, .int .i64 0, .int .i64 0, .int .i64 0, .slice none 0 0] := by rw [e88, s88]; exact Blk.new _ _ _
              have G88 : wd.heap.size ≤ gk := by rw [s88]; exact H65.1.be.size
              have H88 : MhS wd (ad1.add i) (ad2.add i) (ad3.add i) x y z W88 ∧ Blk W88 fb 9 #[.string ⟨#[102]⟩, .string ⟨#[103]⟩] := ⟨H65.1.below hb88, H65.2.below hb88 H65.2.lt⟩
              go_simp
              rw [← e88, ← s88]
              clear e88 s88 hb88
              refine hK.out _ _ H88 (fun _ => ?rs88)
              clear hK K
              try simp only [Act.put, List.setIfInBounds_toArray, List.set_cons_zero, List.set_cons_succ]
              refine wpAnyH_ready (rs := [13]) (by kernel_rfl) (by simp) ?_
              refine AllReadyH.cons (o := ?o89) ?hi89 (fun K hK => ?st89) ?mo89
              case hi89 => (simp only [List.getElem?_toArray, List.getElem?_cons_succ, List.getElem?_cons_zero]; try rfl)
              case st89 =>
                go_simp
                go_at_call 16
                refine (hTk _).mono ?_
                rintro e W89 ⟨rfl, hb89⟩
                have H89 : MhS wd (ad1.add i) (ad2.add i) (ad3.add i) x y z W89 ∧ Blk W89 fb 9 #[.string ⟨#[102]⟩, .string ⟨#[103]⟩] := ⟨H88.1.below hb89, H88.2.below hb89 H88.2.lt⟩
                have Z89 := N88.below hb89 N88.lt
                clear hb89
                try dsimp only
                refine hK.out _ _ H89 (fun _ => ?rs89)
                clear hK K
                try simp only [Act.put, List.setIfInBounds_toArray, List.set_cons_zero, List.set_cons_succ]
                refine wpAnyH_ready (rs := [18]) (by kernel_rfl) (by simp) ?_
                refine AllReadyH.cons (o := ?o90) ?hi90 (fun K hK => ?st90) ?mo90
                case hi90 => (simp only [List.getElem?_toArray, List.getElem?_cons_succ, List.getElem?_cons_zero]; try rfl)
                case st90 =>
                  go_simp
                  go_at_call 10
                  refine (hW3 _).mono ?_
                  rintro e wz ⟨rfl, rfl⟩
                  try dsimp only
                  refine hK.out _ _ H89 (fun _ => ?rs90)
                  clear hK K
                  try simp only [Act.put, List.setIfInBounds_toArray, List.set_cons_zero, List.set_cons_succ]
                  refine wpAnyH_take (i := 19) (oi := ?oi91) (v := ?v91) ?hi91 (by kernel_rfl) (by kernel_rfl) (by kernel_rfl) (fun _ _ _ h => h) ?hy91 H89 ?rest91
                  case hi91 => (simp only [List.getElem?_toArray, List.getElem?_cons_succ, List.getElem?_cons_zero]; try rfl)
                  case hy91 => (refine Or.inl ⟨by rfl, ?_⟩; intro w hSw; go_simp; (try with_reducible rfl))
                  try simp only [Act.put, List.setIfInBounds_toArray, List.set_cons_zero, List.set_cons_succ]
                  refine wpAnyH_ready (rs := [27]) (by kernel_rfl) (by simp) ?_
                  refine AllReadyH.cons (o := ?o92) ?hi92 (fun K hK => ?st92) ?mo92
                  case hi92 => (simp only [List.getElem?_toArray, List.getElem?_cons_succ, List.getElem?_cons_zero]; try rfl)
                  case st92 =>
                    go_simp
                    go_at_call 10
                    refine (hW6 _).mono ?_
                    rintro e wz ⟨rfl, rfl⟩
                    try dsimp only
                    refine hK.out _ _ H89 (fun _ => ?rs92)
                    clear hK K
                    try simp only [Act.put, List.setIfInBounds_toArray, List.set_cons_zero, List.set_cons_succ]
                    refine wpAnyH_take (i := 28) (oi := ?oi93) (v := ?v93) ?hi93 (by kernel_rfl) (by kernel_rfl) (by kernel_rfl) (fun _ _ _ h => h) ?hy93 H89 ?rest93
                    case hi93 => (simp only [List.getElem?_toArray, List.getElem?_cons_succ, List.getElem?_cons_zero]; try rfl)
                    case hy93 => (refine Or.inl ⟨by rfl, ?_⟩; intro w hSw; go_simp; (try with_reducible rfl))
                    try simp only [Act.put, List.setIfInBounds_toArray, List.set_cons_zero, List.set_cons_succ]
                    refine wpAnyH_take (i := 29) (oi := ?oi94) (v := ?v94) ?hi94 (by kernel_rfl) (by kernel_rfl) (by kernel_rfl) (fun _ _ _ h => h) ?hy94 H89 ?rest94
                    case hi94 => (simp only [List.getElem?_toArray, List.getElem?_cons_succ, List.getElem?_cons_zero]; try rfl)
                    case hy94 => (refine yields_build (cells := #[.int .i64 11, .string G, .string ⟨#[]⟩, .string TT, .int .i64 0, .int .i64 st, .int .i64 nu, .int .i64 ep, .slice none 0 0]) 30 ?pa94 ?ho94 ?hg94 ?hf94; (case ho94 => rfl); (case hg94 => rfl); (case hf94 => simp [Act.eval]; exact built_msg _ _ _ _ _))
                    try simp only [Act.put, List.setIfInBounds_toArray, List.set_cons_zero, List.set_cons_succ]
                    refine wpAnyH_ready (rs := [31]) (by kernel_rfl) (by simp) ?_
                    refine AllReadyH.cons (o := ?o95) ?hi95 (fun K hK => ?st95) ?mo95
                    case hi95 => (simp only [List.getElem?_toArray, List.getElem?_cons_succ, List.getElem?_cons_zero]; try rfl)
                    case st95 =>
                      have hfg : fb ≠ gk := H89.2.ne_ Z89 (by decide)
                      refine store_msg (k := 11) (f := G) (e := ⟨#[]⟩) (t := TT) (n := 0) (st := st) (nu := nu) (ep := ep) rfl rfl (by simp [Act.eval]; done) (by simp [Act.eval]; done) Z89 rfl ?_
                      intro w95 hb95 hbe95 hbf95
                      have hw95 := hbe95 wd G88 H89.1.be
                      refine hK.out _ _ ⟨⟨H89.1.k1, H89.1.k2, H89.1.k3, hw95⟩, hbf95 _ _ _ hfg H89.2⟩ (fun _ => ?rs95)
                      clear hK K
                      try simp only [Act.put]
                      refine wpAnyH_done (by kernel_rfl) ?_ _
                      refine NoPanic.normal ?_
                      go_wp2_with fail
                      go_meet
                      exact Lib.hid ⟨gk, _, rfl, Nat.le_trans hdr G88, hb95, hdb.trans (hw95.mono hdb.size), rfl⟩
                    exact AllReadyH.nil
                  exact AllReadyH.nil
                exact AllReadyH.nil
              exact AllReadyH.nil
            exact AllReadyH.nil
          refine AllReadyH.cons (o := ?o96) ?hi96 (fun K hK => ?st96) ?mo96
          case hi96 => (simp only [List.getElem?_toArray, List.getElem?_cons_succ, List.getElem?_cons_zero]; try rfl)
          case st96 =>
            go_simp
            go_at_call 16
            refine (hTk _).mono ?_
            rintro e W96 ⟨rfl, hb96⟩
            have H96 : MhS wd (ad1.add i) (ad2.add i) (ad3.add i) x y z W96 := H0.below hb96
            clear hb96
            try dsimp only
            refine hK.out _ _ H96 (fun _ => ?rs96)
            clear hK K
            try simp only [Act.put, List.setIfInBounds_toArray, List.set_cons_zero, List.set_cons_succ]
            refine wpAnyH_ready (rs := [0, 18, 30]) (by kernel_rfl) (by simp) ?_
            refine AllReadyH.cons (o := ?o97) ?hi97 (fun K hK => ?st97) ?mo97
            case hi97 => (simp only [List.getElem?_toArray, List.getElem?_cons_zero]; try rfl)
            case st97 =>
              obtain ⟨W97, e97⟩ : ∃ w7, w7 = W96.alloc (.cells #[.string ⟨#[102]⟩, .string ⟨#[103]⟩] 9) := ⟨_, rfl⟩
              obtain ⟨fb, s97⟩ : ∃ g, g = W96.heap.size := ⟨_, rfl⟩
              have hb97 : Below W96.heap.size W96 W97 := by rw [e97]; exact (Below.refl _ _).alloc (Nat.le_refl _) _
              have N97 : Blk W97 fb 9 #[.string ⟨#[102]⟩, .string ⟨#[103]⟩] := by rw [e97, s97]; exact Blk.new _ _ _
              have H97 : MhS wd (ad1.add i) (ad2.add i) (ad3.add i) x y z W97 ∧ Blk W97 fb 9 #[.string ⟨#[102]⟩, .string ⟨#[103]⟩] := ⟨H96.below hb97, N97⟩
              go_simp
              rw [← e97, ← s97]
              clear e97 s97 hb97
              refine hK.out _ _ H97.1 (fun _ => ?rs97)
              clear hK K
              try simp only [Act.put, List.setIfInBounds_toArray, List.set_cons_zero, List.set_cons_succ]
              refine wpAnyH_mono (S' := fun wa => MhS wd (ad1.add i) (ad2.add i) (ad3.add i) x y z wa ∧ Blk wa fb 9 #[.string ⟨#[102]⟩, .string ⟨#[103]⟩]) (fun _ h => h.1) _ _ _ _ ?_
              refine wpAnyH_take (i := 7) (oi := ?oi98) (v := ?v98) ?hi98 (by kernel_rfl) (by kernel_rfl) (by kernel_rfl) (fun _ _ _ h => h) ?hy98 H97 ?rest98
              case hi98 => (simp only [List.getElem?_toArray, List.getElem?_cons_succ, List.getElem?_cons_zero]; try rfl)
              case hy98 => (refine Or.inl ⟨by rfl, ?_⟩; intro w hSw; go_simp; (try with_reducible rfl))
              try simp only [Act.put, List.setIfInBounds_toArray, List.set_cons_zero, List.set_cons_succ]
              refine wpAnyH_take (i := 8) (oi := ?oi99) (v := ?v99) ?hi99 (by kernel_rfl) (by kernel_rfl) (by kernel_rfl) (fun _ _ _ h => h) ?hy99 H97 ?rest99
              case hi99 => (simp only [List.getElem?_toArray, List.getElem?_cons_succ, List.getElem?_cons_zero]; try rfl)
              case hy99 => (refine Or.inl ⟨by rfl, ?_⟩; intro w hSw; have q := (hSw.2.cell qn).trans hG; go_simp; (try with_reducible rfl))
              try simp only [Act.put, List.setIfInBounds_toArray, List.set_cons_zero, List.set_cons_succ]
              clear hG
              refine wpAnyH_ready (rs := [18, 30]) (by kernel_rfl) (by simp) ?_
              refine AllReadyH.cons (o := ?o100) ?hi100 (fun K hK => ?st100) ?mo100
              case hi100 => (simp only [List.getElem?_toArray, List.getElem?_cons_succ, List.getElem?_cons_zero]; try rfl)
              case st100 =>
                go_simp
                go_at_call 10
                refine (hW3 _).mono ?_
                rintro e wz ⟨rfl, rfl⟩
                try dsimp only
                refine hK.out _ _ H97 (fun _ => ?rs100)
                clear hK K
                try simp only [Act.put, List.setIfInBounds_toArray, List.set_cons_zero, List.set_cons_succ]
                refine wpAnyH_take (i := 19) (oi := ?oi101) (v := ?v101) ?hi101 (by kernel_rfl) (by kernel_rfl) (by kernel_rfl) (fun _ _ _ h => h) ?hy101 H97 ?rest101
                case hi101 => (simp only [List.getElem?_toArray, List.getElem?_cons_succ, List.getElem?_cons_zero]; try rfl)
                case hy101 => (refine Or.inl ⟨by rfl, ?_⟩; intro w hSw; go_simp; (try with_reducible rfl))
                try simp only [Act.put, List.setIfInBounds_toArray, List.set_cons_zero, List.set_cons_succ]
                refine wpAnyH_ready (rs := [27, 30]) (by kernel_rfl) (by simp) ?_
                refine AllReadyH.cons (o := ?o102) ?hi102 (fun K hK => ?st102) ?mo102
                case hi102 => (simp only [List.getElem?_toArray, List.getElem?_cons_succ, List.getElem?_cons_zero]; try rfl)
                case st102 =>
                  go_simp
                  go_at_call 10
                  refine (hW6 _).mono ?_
                  rintro e wz ⟨rfl, rfl⟩
                  try dsimp only
                  refine hK.out _ _ H97 (fun _ => ?rs102)
                  clear hK K
                  try simp only [Act.put, List.setIfInBounds_toArray, List.set_cons_zero, List.set_cons_succ]
                  refine wpAnyH_take (i := 28) (oi := ?oi103) (v := ?v103) ?hi103 (by kernel_rfl) (by kernel_rfl) (by kernel_rfl) (fun _ _ _ h => h) ?hy103 H97 ?rest103
                  case hi103 => (simp only [List.getElem?_toArray, List.getElem?_cons_succ, List.getElem?_cons_zero]; try rfl)
                  case hy103 => (refine Or.inl ⟨by rfl, ?_⟩; intro w hSw; go_simp; (try with_reducible rfl))
                  try simp only [Act.put, List.setIfInBounds_toArray, List.set_cons_zero, List.set_cons_succ]
                  refine wpAnyH_take (i := 29) (oi := ?oi104) (v := ?v104) ?hi104 (by kernel_rfl) (by kernel_rfl) (by kernel_rfl) (fun _ _ _ h => h) ?hy104 H97 ?rest104
                  case hi104 => (simp only [List.getElem?_toArray, List.getElem?_cons_succ, List.getElem?_cons_zero]; try rfl)
                  case hy104 => (refine yields_build (cells := #[.int .i64 11, .string G, .string ⟨#[]⟩, .string TT, .int .i64 0, .int .i64 st, .int .i64 nu, .int .i64 ep, .slice none 0 0]) 30 ?pa104 ?ho104 ?hg104 ?hf104; (case ho104 => rfl); (case hg104 => rfl); (case hf104 => simp [Act.eval]; exact built_msg _ _ _ _ _))
                  try simp only [Act.put, List.setIfInBounds_toArray, List.set_cons_zero, List.set_cons_succ]
                  refine wpAnyH_ready (rs := [30]) (by kernel_rfl) (by simp) ?_
                  refine AllReadyH.cons (o := ?o105) ?hi105 (fun K hK => ?st105) ?mo105
                  case hi105 => (simp only [List.getElem?_toArray, List.getElem?_cons_succ, List.getElem?_cons_zero]; try rfl)
                  case st105 =>
                    obtain ⟨W105, e105⟩ : ∃ w7, w7 = W97.alloc (.cells #[.int .i64 0, .string ⟨#[]⟩, .string ⟨#[]⟩, .string ⟨#[]⟩, .int .i64 0, .int .i64 0, .int .i64 0, .int .i64 0, .slice none 0 0] 30) := ⟨_, rfl⟩
                    obtain ⟨gk, s105⟩ : ∃ g, g = W97.heap.size := ⟨_, rfl⟩
                    have hb105 : Below W97.heap.size W97 W105 := by rw [e105]; exact (Below.refl _ _).alloc (Nat.le_refl _) _
                    have N105 : Blk W105 gk 30 #[.int .i64 0, .string ⟨#[]⟩, .string ⟨#[]⟩, .string ⟨#[]⟩, .int .i64 0, .int .i64 0, .int .i64 0, .int .i64 0, .slice none 0 0] := by rw [e105, s105]; exact Blk.new _ _ _
                    have G105 : wd.heap.size ≤ gk := by rw [s105]; exact H97.1.be.size
                    have H105 : MhS wd (ad1.add i) (ad2.add i) (ad3.add i) x y z W105 ∧ Blk W105 fb 9 #[.string ⟨#[102]⟩, .string ⟨#[103]⟩] := ⟨H97.1.below hb105, H97.2.below hb105 H97.2.lt⟩
                    go_simp
                    rw [← e105, ← s105]
                    clear e105 s105 hb105
                    refine hK.out _ _ H105 (fun _ => ?rs105)
                    clear hK K
                    try simp only [Act.put, List.setIfInBounds_toArray, List.set_cons_zero, List.set_cons_succ]
                    refine wpAnyH_ready (rs := [31]) (by kernel_rfl) (by simp) ?_
                    refine AllReadyH.cons (o := ?o106) ?hi106 (fun K hK => ?st106) ?mo106
                    case hi106 => (simp only [List.getElem?_toArray, List.getElem?_cons_succ, List.getElem?_cons_zero]; try rfl)
                    case st106 =>
                      have hfg : fb ≠ gk := H105.2.ne_ N105 (by decide)
                      refine store_msg (k := 11) (f := G) (e := ⟨#[]⟩) (t := TT) (n := 0) (st := st) (nu := nu) (ep := ep) rfl rfl (by simp [Act.eval]; done) (by simp [Act.eval]; done) N105 rfl ?_
                      intro w106 hb106 hbe106 hbf106
                      have hw106 := hbe106 wd G105 H105.1.be
                      refine hK.out _ _ ⟨⟨H105.1.k1, H105.1.k2, H105.1.k3, hw106⟩, hbf106 _ _ _ hfg H105.2⟩ (fun _ => ?rs106)
                      clear hK K
                      try simp only [Act.put]
                      refine wpAnyH_done (by kernel_rfl) ?_ _
                      refine NoPanic.normal ?_
                      go_wp2_with fail
                      go_meet
                      exact Lib.hid ⟨gk, _, rfl, Nat.le_trans hdr G105, hb106, hdb.trans (hw106.mono hdb.size), rfl⟩
                    exact AllReadyH.nil
                  exact AllReadyH.nil
                refine AllReadyH.cons (o := ?o107) ?hi107 (fun K hK => ?st107) ?mo107
                case hi107 => (simp only [List.getElem?_toArray, List.getElem?_cons_succ, List.getElem?_cons_zero]; try rfl)
                case st107 =>
                  obtain ⟨W107, e107⟩ : ∃ w7, w7 = W97.alloc (.cells #[.int .i64 0, .string ⟨#[]⟩, .string ⟨#[]⟩, .string ⟨#[]⟩, .int .i64 0, .int .i64 0, .int .i64 0, .int .i64 0, .slice none 0 0] 30) := ⟨_, rfl⟩
                  obtain ⟨gk, s107⟩ : ∃ g, g = W97.heap.size := ⟨_, rfl⟩
                  have hb107 : Below W97.heap.size W97 W107 := by rw [e107]; exact (Below.refl _ _).alloc (Nat.le_refl _) _
                  have N107 : Blk W107 gk 30 #[.int .i64 0, .string ⟨#[]⟩, .string ⟨#[]⟩, .string ⟨#[]⟩, .int .i64 0, .int .i64 0, .int .i64 0, .int .i64 0, .slice none 0 0] := by rw [e107, s107]; exact Blk.new _ _ _
                  have G107 : wd.heap.size ≤ gk := by rw [s107]; exact H97.1.be.size
                  have H107 : MhS wd (ad1.add i) (ad2.add i) (ad3.add i) x y z W107 ∧ Blk W107 fb 9 #[.string ⟨#[102]⟩, .string ⟨#[103]⟩] := ⟨H97.1.below hb107, H97.2.below hb107 H97.2.lt⟩
                  go_simp
                  rw [← e107, ← s107]
                  clear e107 s107 hb107
                  refine hK.out _ _ H107 (fun _ => ?rs107)
                  clear hK K
                  try simp only [Act.put, List.setIfInBounds_toArray, List.set_cons_zero, List.set_cons_succ]
                  refine wpAnyH_ready (rs := [27]) (by kernel_rfl) (by simp) ?_
                  refine AllReadyH.cons (o := ?o108) ?hi108 (fun K hK => ?st108) ?mo108
                  case hi108 => (simp only [List.getElem?_toArray, List.getElem?_cons_succ, List.getElem?_cons_zero]; try rfl)
                  case st108 =>
                    go_simp
                    go_at_call 10
                    refine (hW6 _).mono ?_
                    rintro e wz ⟨rfl, rfl⟩
                    try dsimp only
                    refine hK.out _ _ H107 (fun _ => ?rs108)
                    clear hK K
                    try simp only [Act.put, List.setIfInBounds_toArray, List.set_cons_zero, List.set_cons_succ]
                    refine wpAnyH_take (i := 28) (oi := ?oi109) (v := ?v109) ?hi109 (by kernel_rfl) (by kernel_rfl) (by kernel_rfl) (fun _ _ _ h => h) ?hy109 H107 ?rest109
                    case hi109 => (simp only [List.getElem?_toArray, List.getElem?_cons_succ, List.getElem?_cons_zero]; try rfl)
                    case hy109 => (refine Or.inl ⟨by rfl, ?_⟩; intro w hSw; go_simp; (try with_reducible rfl))
                    try simp only [Act.put, List.setIfInBounds_toArray, List.set_cons_zero, List.set_cons_succ]
                    refine wpAnyH_take (i := 29) (oi := ?oi110) (v := ?v110) ?hi110 (by kernel_rfl) (by kernel_rfl) (by kernel_rfl) (fun _ _ _ h => h) ?hy110 H107 ?rest110
                    case hi110 => (simp only [List.getElem?_toArray, List.getElem?_cons_succ, List.getElem?_cons_zero]; try rfl)
                    case hy110 => (refine yields_build (cells := #[.int .i64 11, .string G, .string ⟨#[]⟩, .string TT, .int .i64 0, .int .i64 st, .int .i64 nu, .int .i64 ep, .slice none 0 0]) 30 ?pa110 ?ho110 ?hg110 ?hf110; (case ho110 => rfl); (case hg110 => rfl); (case hf110 => simp [Act.eval]; exact built_msg _ _ _ _ _))
                    try simp only [Act.put, List.setIfInBounds_toArray, List.set_cons_zero, List.set_cons_succ]
                    refine wpAnyH_ready (rs := [31]) (by kernel_rfl) (by simp) ?_
                    refine AllReadyH.cons (o := ?o111) ?hi111 (fun K hK => ?st111) ?mo111
                    case hi111 => (simp only [List.getElem?_toArray, List.getElem?_cons_succ, List.getElem?_cons_zero]; try rfl)
                    case st111 =>
                      have hfg : fb ≠ gk := H107.2.ne_ N107 (by decide)
                      refine store_msg (k := 11) (f := G) (e := ⟨#[]⟩) (t := TT) (n := 0) (st := st) (nu := nu) (ep := ep) rfl rfl (by simp [Act.eval]; done) (by simp [Act.eval]; done) N107 rfl ?_
                      intro w111 hb111 hbe111 hbf111
                      have hw111 := hbe111 wd G107 H107.1.be
                      refine hK.out _ _ ⟨⟨H107.1.k1, H107.1.k2, H107.1.k3, hw111⟩, hbf111 _ _ _ hfg H107.2⟩ (fun _ => ?rs111)
                      clear hK K
                      try simp only [Act.put]
                      refine wpAnyH_done (by kernel_rfl) ?_ _
                      refine NoPanic.normal ?_
                      go_wp2_with fail
                      go_meet
                      exact Lib.hid ⟨gk, _, rfl, Nat.le_trans hdr G107, hb111, hdb.trans (hw111.mono hdb.size), rfl⟩
                    exact AllReadyH.nil
                  exact AllReadyH.nil
                exact AllReadyH.nil
              refine AllReadyH.cons (o := ?o112) ?hi112 (fun K hK => ?st112) ?mo112
              case hi112 => (simp only [List.getElem?_toArray, List.getElem?_cons_succ, List.getElem?_cons_zero]; try rfl)
              case st112 =>
                obtain ⟨W112, e112⟩ : ∃ w7, w7 = W97.alloc (.cells #[.int .i64 0, .string ⟨#[]⟩, .string ⟨#[]⟩, .string ⟨#[]⟩, .int .i64 0, .int .i64 0, .int .i64 0, .int .i64 0, .slice none 0 0] 30) := ⟨_, rfl⟩
                obtain ⟨gk, s112⟩ : ∃ g, g = W97.heap.size := ⟨_, rfl⟩
                have hb112 : Below W97.heap.size W97 W112 := by rw [e112]; exact (Below.refl _ _).alloc (Nat.le_refl _) _
                have N112 : Blk W112 gk 30 #[.int .i64 0, .string ⟨#[]⟩, .string ⟨#[]⟩, .string ⟨#[]⟩, .int .i64 0, .int .i64 0, .int .i64 0, .int .i64 0, .slice none 0 0] := by rw [e112, s112]; exact Blk.new _ _ _
                have G112 : wd.heap.size ≤ gk := by rw [s112]; exact H97.1.be.size
                have H112 : MhS wd (ad1.add i) (ad2.add i) (ad3.add i) x y z W112 ∧ Blk W112 fb 9 #[.string ⟨#[102]⟩, .string ⟨#[103]⟩] := ⟨H97.1.below hb112, H97.2.below hb112 H97.2.lt⟩
                go_simp
                rw [← e112, ← s112]
                clear e112 s112 hb112
                refine hK.out _ _ H112 (fun _ => ?rs112)
                clear hK K
                try simp only [Act.put, List.setIfInBounds_toArray, List.set_cons_zero, List.set_cons_succ]
                refine wpAnyH_ready (rs := [18]) (by kernel_rfl) (by simp) ?_
                refine AllReadyH.cons (o := ?o113) ?hi113 (fun K hK => ?st113) ?mo113
                case hi113 => (simp only [List.getElem?_toArray, List.getElem?_cons_succ, List.getElem?_cons_zero]; try rfl)
                case st113 =>
                  go_simp
                  go_at_call 10
                  refine (hW3 _).mono ?_
                  rintro e wz ⟨rfl, rfl⟩
                  try dsimp only
                  refine hK.out _ _ H112 (fun _ => ?rs113)
                  clear hK K
                  try simp only [Act.put, List.setIfInBounds_toArray, List.set_cons_zero, List.set_cons_succ]
                  refine wpAnyH_take (i := 19) (oi := ?oi114) (v := ?v114) ?hi114 (by kernel_rfl) (by kernel_rfl) (by kernel_rfl) (fun _ _ _ h => h) ?hy114 H112 ?rest114
                  case hi114 => (simp only [List.getElem?_toArray, List.getElem?_cons_succ, List.getElem?_cons_zero]; try rfl)
                  case hy114 => (refine Or.inl ⟨by rfl, ?_⟩; intro w hSw; go_simp; (try with_reducible rfl))
                  try simp only [Act.put, List.setIfInBounds_toArray, List.set_cons_zero, List.set_cons_succ]
                  refine wpAnyH_ready (rs := [27]) (by kernel_rfl) (by simp) ?_
                  refine AllReadyH.cons (o := ?o115) ?hi115 (fun K hK => ?st115) ?mo115
                  case hi115 => (simp only [List.getElem?_toArray, List.getElem?_cons_succ, List.getElem?_cons_zero]; try rfl)
                  case st115 =>
                    go_simp
                    go_at_call 10
                    refine (hW6 _).mono ?_
                    rintro e wz ⟨rfl, rfl⟩
                    try dsimp only
                    refine hK.out _ _ H112 (fun _ => ?rs115)
                    clear hK K
                    try simp only [Act.put, List.setIfInBounds_toArray, List.set_cons_zero, List.set_cons_succ]
                    refine wpAnyH_take (i := 28) (oi := ?oi116) (v := ?v116) ?hi116 (by kernel_rfl) (by kernel_rfl) (by kernel_rfl) (fun _ _ _ h => h) ?hy116 H112 ?rest116
                    case hi116 => (simp only [List.getElem?_toArray, List.getElem?_cons_succ, List.getElem?_cons_zero]; try rfl)
                    case hy116 => (refine Or.inl ⟨by rfl, ?_⟩; intro w hSw; go_simp; (try with_reducible rfl))
                    try simp only [Act.put, List.setIfInBounds_toArray, List.set_cons_zero, List.set_cons_succ]
                    refine wpAnyH_take (i := 29) (oi := ?oi117) (v := ?v117) ?hi117 (by kernel_rfl) (by kernel_rfl) (by kernel_rfl) (fun _ _ _ h => h) ?hy117 H112 ?rest117
                    case hi117 => (simp only [List.getElem?_toArray, List.getElem?_cons_succ, List.getElem?_cons_zero]; try rfl)
                    case hy117 => (refine yields_build (cells := #[.int .i64 11, .string G, .string ⟨#[]⟩, .string TT, .int .i64 0, .int .i64 st, .int .i64 nu, .int .i64 ep, .slice none 0 0]) 30 ?pa117 ?ho117 ?hg117 ?hf117; (case ho117 => rfl); (case hg117 => rfl); (case hf117 => simp [Act.eval]; exact built_msg _ _ _ _ _))
                    try simp only [Act.put, List.setIfInBounds_toArray, List.set_cons_zero, List.set_cons_succ]
                    refine wpAnyH_ready (rs := [31]) (by kernel_rfl) (by simp) ?_
                    refine AllReadyH.cons (o := ?o118) ?hi118 (fun K hK => ?st118) ?mo118
                    case hi118 => (simp only [List.getElem?_toArray, List.getElem?_cons_succ, List.getElem?_cons_zero]; try rfl)
                    case st118 =>
                      have hfg : fb ≠ gk := H112.2.ne_ N112 (by decide)
                      refine store_msg (k := 11) (f := G) (e := ⟨#[]⟩) (t := TT) (n := 0) (st := st) (nu := nu) (ep := ep) rfl rfl (by simp [Act.eval]; done) (by simp [Act.eval]; done) N112 rfl ?_
                      intro w118 hb118 hbe118 hbf118
                      have hw118 := hbe118 wd G112 H112.1.be
                      refine hK.out _ _ ⟨⟨H112.1.k1, H112.1.k2, H112.1.k3, hw118⟩, hbf118 _ _ _ hfg H112.2⟩ (fun _ => ?rs118)
                      clear hK K
                      try simp only [Act.put]
                      refine wpAnyH_done (by kernel_rfl) ?_ _
                      refine NoPanic.normal ?_
                      go_wp2_with fail
                      go_meet
                      exact Lib.hid ⟨gk, _, rfl, Nat.le_trans hdr G112, hb118, hdb.trans (hw118.mono hdb.size), rfl⟩
                    exact AllReadyH.nil
                  exact AllReadyH.nil
                exact AllReadyH.nil
              exact AllReadyH.nil
            refine AllReadyH.cons (o := ?o119) ?hi119 (fun K hK => ?st119) ?mo119
            case hi119 => (simp only [List.getElem?_toArray, List.getElem?_cons_succ, List.getElem?_cons_zero]; try rfl)
            case st119 =>
              go_simp
              go_at_call 10
              refine (hW3 _).mono ?_
              rintro e wz ⟨rfl, rfl⟩
              try dsimp only
              refine hK.out _ _ H96 (fun _ => ?rs119)
              clear hK K
              try simp only [Act.put, List.setIfInBounds_toArray, List.set_cons_zero, List.set_cons_succ]
              refine wpAnyH_take (i := 19) (oi := ?oi120) (v := ?v120) ?hi120 (by kernel_rfl) (by kernel_rfl) (by kernel_rfl) (fun _ _ _ h => h) ?hy120 H96 ?rest120
              case hi120 => (simp only [List.getElem?_toArray, List.getElem?_cons_succ, List.getElem?_cons_zero]; try rfl)
              case hy120 => (refine Or.inl ⟨by rfl, ?_⟩; intro w hSw; go_simp; (try with_reducible rfl))
              try simp only [Act.put, List.setIfInBounds_toArray, List.set_cons_zero, List.set_cons_succ]
              refine wpAnyH_ready (rs := [0, 27, 30]) (by kernel_rfl) (by simp) ?_
              refine AllReadyH.cons (o := ?o121) ?hi121 (fun K hK => ?st121) ?mo121
              case hi121 => (simp only [List.getElem?_toArray, List.getElem?_cons_zero]; try rfl)
              case st121 =>
                obtain ⟨W121, e121⟩ : ∃ w7, w7 = W96.alloc (.cells #[.string ⟨#[102]⟩, .string ⟨#[103]⟩] 9) := ⟨_, rfl⟩
                obtain ⟨fb, s121⟩ : ∃ g, g = W96.heap.size := ⟨_, rfl⟩
                have hb121 : Below W96.heap.size W96 W121 := by rw [e121]; exact (Below.refl _ _).alloc (Nat.le_refl _) _
                have N121 : Blk W121 fb 9 #[.string ⟨#[102]⟩, .string ⟨#[103]⟩] := by rw [e121, s121]; exact Blk.new _ _ _
                have H121 : MhS wd (ad1.add i) (ad2.add i) (ad3.add i) x y z W121 ∧ Blk W121 fb 9 #[.string ⟨#[102]⟩, .string ⟨#[103]⟩] := ⟨H96.below hb121, N121⟩
                go_simp
                rw [← e121, ← s121]
                clear e121 s121 hb121
                refine hK.out _ _ H121.1 (fun _ => ?rs121)
                clear hK K
                try simp only [Act.put, List.setIfInBounds_toArray, List.set_cons_zero, List.set_cons_succ]
                refine wpAnyH_mono (S' := fun wa => MhS wd (ad1.add i) (ad2.add i) (ad3.add i) x y z wa ∧ Blk wa fb 9 #[.string ⟨#[102]⟩, .string ⟨#[103]⟩]) (fun _ h => h.1) _ _ _ _ ?_
                refine wpAnyH_take (i := 7) (oi := ?oi122) (v := ?v122) ?hi122 (by kernel_rfl) (by kernel_rfl) (by kernel_rfl) (fun _ _ _ h => h) ?hy122 H121 ?rest122
                case hi122 => (simp only [List.getElem?_toArray, List.getElem?_cons_succ, List.getElem?_cons_zero]; try rfl)
                case hy122 => (refine Or.inl ⟨by rfl, ?_⟩; intro w hSw; go_simp; (try with_reducible rfl))
                try simp only [Act.put, List.setIfInBounds_toArray, List.set_cons_zero, List.set_cons_succ]
                refine wpAnyH_take (i := 8) (oi := ?oi123) (v := ?v123) ?hi123 (by kernel_rfl) (by kernel_rfl) (by kernel_rfl) (fun _ _ _ h => h) ?hy123 H121 ?rest123
                case hi123 => (simp only [List.getElem?_toArray, List.getElem?_cons_succ, List.getElem?_cons_zero]; try rfl)
                case hy123 => (refine Or.inl ⟨by rfl, ?_⟩; intro w hSw; have q := (hSw.2.cell qn).trans hG; go_simp; (try with_reducible rfl))
                try simp only [Act.put, List.setIfInBounds_toArray, List.set_cons_zero, List.set_cons_succ]
                clear hG
                refine wpAnyH_ready (rs := [27, 30]) (by kernel_rfl) (by simp) ?_
                refine AllReadyH.cons (o := ?o124) ?hi124 (fun K hK => ?st124) ?mo124
                case hi124 => (simp only [List.getElem?_toArray, List.getElem?_cons_succ, List.getElem?_cons_zero]; try rfl)
                case st124 =>
                  go_simp
                  go_at_call 10
                  refine (hW6 _).mono ?_
                  rintro e wz ⟨rfl, rfl⟩
                  try dsimp only
                  refine hK.out _ _ H121 (fun _ => ?rs124)
                  clear hK K
                  try simp only [Act.put, List.setIfInBounds_toArray, List.set_cons_zero, List.set_cons_succ]
                  refine wpAnyH_take (i := 28) (oi := ?oi125) (v := ?v125) ?hi125 (by kernel_rfl) (by kernel_rfl) (by kernel_rfl) (fun _ _ _ h => h) ?hy125 H121 ?rest125
                  case hi125 => (simp only [List.getElem?_toArray, List.getElem?_cons_succ, List.getElem?_cons_zero]; try rfl)
                  case hy125 => (refine Or.inl ⟨by rfl, ?_⟩; intro w hSw; go_simp; (try with_reducible rfl))
                  try simp only [Act.put, List.setIfInBounds_toArray, List.set_cons_zero, List.set_cons_succ]
                  refine wpAnyH_take (i := 29) (oi := ?oi126) (v := ?v126) ?hi126 (by kernel_rfl) (by kernel_rfl) (by kernel_rfl) (fun _ _ _ h => h) ?hy126 H121 ?rest126
                  case hi126 => (simp only [List.getElem?_toArray, List.getElem?_cons_succ, List.getElem?_cons_zero]; try rfl)
                  case hy126 => (refine yields_build (cells := #[.int .i64 11, .string G, .string ⟨#[]⟩, .string TT, .int .i64 0, .int .i64 st, .int .i64 nu, .int .i64 ep, .slice none 0 0]) 30 ?pa126 ?ho126 ?hg126 ?hf126; (case ho126 => rfl); (case hg126 => rfl); (case hf126 => simp [Act.eval]; exact built_msg _ _ _ _ _))
                  try simp only [Act.put, List.setIfInBounds_toArray, List.set_cons_zero, List.set_cons_succ]
                  refine wpAnyH_ready (rs := [30]) (by kernel_rfl) (by simp) ?_
                  refine AllReadyH.cons (o := ?o127) ?hi127 (fun K hK => ?st127) ?mo127
                  case hi127 => (simp only [List.getElem?_toArray, List.getElem?_cons_succ, List.getElem?_cons_zero]; try rfl)
                  case st127 =>
                    obtain ⟨W127, e127⟩ : ∃ w7, w7 = W121.alloc (.cells #[.int .i64 0, .string ⟨#[]⟩, .string ⟨#[]⟩, .string ⟨#[]⟩, .int .i64 0, .int .i64 0, .int .i64 0, .int .i64 0, .slice none 0 0] 30) := ⟨_, rfl⟩
                    obtain ⟨gk, s127⟩ : ∃ g, g = W121.heap.size := ⟨_, rfl⟩
                    have hb127 : Below W121.heap.size W121 W127 := by rw [e127]; exact (Below.refl _ _).alloc (Nat.le_refl _) _
                    have N127 : Blk W127 gk 30 #[.int .i64 0, .string ⟨#[]⟩, .string ⟨#[]⟩, .string ⟨#[]⟩, .int .i64 0, .int .i64 0, .int .i64 0, .int .i64 0, .slice none 0 0] := by rw [e127, s127]; exact Blk.new _ _ _
                    have G127 : wd.heap.size ≤ gk := by rw [s127]; exact H121.1.be.size
                    have H127 : MhS wd (ad1.add i) (ad2.add i) (ad3.add i) x y z W127 ∧ Blk W127 fb 9 #[.string ⟨#[102]⟩, .string ⟨#[103]⟩] := ⟨H121.1.below hb127, H121.2.below hb127 H121.2.lt⟩
                    go_simp
                    rw [← e127, ← s127]
                    clear e127 s127 hb127
                    refine hK.out _ _ H127 (fun _ => ?rs127)
                    clear hK K
                    try simp only [Act.put, List.setIfInBounds_toArray, List.set_cons_zero, List.set_cons_succ]
                    refine wpAnyH_ready (rs := [31]) (by kernel_rfl) (by simp) ?_
                    refine AllReadyH.cons (o := ?o128) ?hi128 (fun K hK => ?st128) ?mo128
                    case hi128 => (simp only [List.getElem?_toArray, List.getElem?_cons_succ, List.getElem?_cons_zero]; try rfl)
                    case st128 =>
                      have hfg : fb ≠ gk := H127.2.ne_ N127 (by decide)
                      refine store_msg (k := 11) (f := G) (e := ⟨#[]⟩) (t := TT) (n := 0) (st := st) (nu := nu) (ep := ep) rfl rfl (by simp [Act.eval]; done) (by simp [Act.eval]; done) N127 rfl ?_
                      intro w128 hb128 hbe128 hbf128
                      have hw128 := hbe128 wd G127 H127.1.be
                      refine hK.out _ _ ⟨⟨H127.1.k1, H127.1.k2, H127.1.k3, hw128⟩, hbf128 _ _ _ hfg H127.2⟩ (fun _ => ?rs128)
                      clear hK K
                      try simp only [Act.put]
                      refine wpAnyH_done (by kernel_rfl) ?_ _
                      refine NoPanic.normal ?_
                      go_wp2_with fail
                      go_meet
                      exact Lib.hid ⟨gk, _, rfl, Nat.le_trans hdr G127, hb128, hdb.trans (hw128.mono hdb.size), rfl⟩
                    exact AllReadyH.nil
                  exact AllReadyH.nil
                refine AllReadyH.cons (o := ?o129) ?hi129 (fun K hK => ?st129) ?mo129
                case hi129 => (simp only [List.getElem?_toArray, List.getElem?_cons_succ, List.getElem?_cons_zero]; try rfl)
                case st129 =>
                  obtain ⟨W129, e129⟩ : ∃ w7, w7 = W121.alloc (.cells #[.int .i64 0, .string ⟨#[]⟩, .string ⟨#[]⟩, .string ⟨#[]⟩, .int .i64 0, .int .i64 0, .int .i64 0, .int .i64 0, .slice none 0 0] 30) := ⟨_, rfl⟩
                  obtain ⟨gk, s129⟩ : ∃ g, g = W121.heap.size := ⟨_, rfl⟩
                  have hb129 : Below W121.heap.size W121 W129 := by rw [e129]; exact (Below.refl _ _).alloc (Nat.le_refl _) _
                  have N129 : Blk W129 gk 30 #[.int .i64 0, .string ⟨#[]⟩, .string ⟨#[]⟩, .string ⟨#[]⟩, .int .i64 0, .int .i64 0, .int .i64 0, .int .i64 0, .slice none 0 0] := by rw [e129, s129]; exact Blk.new _ _ _
                  have G129 : wd.heap.size ≤ gk := by rw [s129]; exact H121.1.be.size
                  have H129 : MhS wd (ad1.add i) (ad2.add i) (ad3.add i) x y z W129 ∧ Blk W129 fb 9 #[.string ⟨#[102]⟩, .string ⟨#[103]⟩] := ⟨H121.1.below hb129, H121.2.below hb129 H121.2.lt⟩
                  go_simp
                  rw [← e129, ← s129]
                  clear e129 s129 hb129
                  refine hK.out _ _ H129 (fun _ => ?rs129)
                  clear hK K
                  try simp only [Act.put, List.setIfInBounds_toArray, List.set_cons_zero, List.set_cons_succ]
                  refine wpAnyH_ready (rs := [27]) (by kernel_rfl) (by simp) ?_
                  refine AllReadyH.cons (o := ?o130) ?hi130 (fun K hK => ?st130) ?mo130
                  case hi130 => (simp only [List.getElem?_toArray, List.getElem?_cons_succ, List.getElem?_cons_zero]; try rfl)
                  case st130 =>
                    go_simp
                    go_at_call 10
                    refine (hW6 _).mono ?_
                    rintro e wz ⟨rfl, rfl⟩
                    try dsimp only
                    refine hK.out _ _ H129 (fun _ => ?rs130)
                    clear hK K
                    try simp only [Act.put, List.setIfInBounds_toArray, List.set_cons_zero, List.set_cons_succ]
                    refine wpAnyH_take (i := 28) (oi := ?oi131) (v := ?v131) ?hi131 (by kernel_rfl) (by kernel_rfl) (by kernel_rfl) (fun _ _ _ h => h) ?hy131 H129 ?rest131
                    case hi131 => (simp only [List.getElem?_toArray, List.getElem?_cons_succ, List.getElem?_cons_zero]; try rfl)
                    case hy131 => (refine Or.inl ⟨by rfl, ?_⟩; intro w hSw; go_simp; (try with_reducible rfl))
                    try simp only [Act.put, List.setIfInBounds_toArray, List.set_cons_zero, List.set_cons_succ]
                    refine wpAnyH_take (i := 29) (oi := ?oi132) (v := ?v132) ?hi132 (by kernel_rfl) (by kernel_rfl) (by kernel_rfl) (fun _ _ _ h => h) ?hy132 H129 ?rest132
                    case hi132 => (simp only [List.getElem?_toArray, List.getElem?_cons_succ, List.getElem?_cons_zero]; try rfl)
                    case hy132 => (refine yields_build (cells := #[.int .i64 11, .string G, .string ⟨#[]⟩, .string TT, .int .i64 0, .int .i64 st, .int .i64 nu, .int .i64 ep, .slice none 0 0]) 30 ?pa132 ?ho132 ?hg132 ?hf132; (case ho132 => rfl); (case hg132 => rfl); (case hf132 => simp [Act.eval]; exact built_msg _ _ _ _ _))
                    try simp only [Act.put, List.setIfInBounds_toArray, List.set_cons_zero, List.set_cons_succ]
                    refine wpAnyH_ready (rs := [31]) (by kernel_rfl) (by simp) ?_
                    refine AllReadyH.cons (o := ?o133) ?hi133 (fun K hK => ?st133) ?mo133
                    case hi133 => (simp only [List.getElem?_toArray, List.getElem?_cons_succ, List.getElem?_cons_zero]; try rfl)
                    case st133 =>
                      have hfg : fb ≠ gk := H129.2.ne_ N129 (by decide)
                      refine store_msg (k := 11) (f := G) (e := ⟨#[]⟩) (t := TT) (n := 0) (st := st) (nu := nu) (ep := ep) rfl rfl (by simp [Act.eval]; done) (by simp [Act.eval]; done) N129 rfl ?_
                      intro w133 hb133 hbe133 hbf133
                      have hw133 := hbe133 wd G129 H129.1.be
                      refine hK.out _ _ ⟨⟨H129.1.k1, H129.1.k2, H129.1.k3, hw133⟩, hbf133 _ _ _ hfg H129.2⟩ (fun _ => ?rs133)
                      clear hK K
                      try simp only [Act.put]
                      refine wpAnyH_done (by kernel_rfl) ?_ _
                      refine NoPanic.normal ?_
                      go_wp2_with fail
                      go_meet
                      exact Lib.hid ⟨gk, _, rfl, Nat.le_trans hdr G129, hb133, hdb.trans (hw133.mono hdb.size), rfl⟩
                    exact AllReadyH.nil
                  exact AllReadyH.nil
                exact AllReadyH.nil
              refine AllReadyH.cons (o := ?o134) ?hi134 (fun K hK => ?st134) ?mo134
              case hi134 => (simp only [List.getElem?_toArray, List.getElem?_cons_succ, List.getElem?_cons_zero]; try rfl)
              case st134 =>
                go_simp
                go_at_call 10
                refine (hW6 _).mono ?_
                rintro e wz ⟨rfl, rfl⟩
                try dsimp only
                refine hK.out _ _ H96 (fun _ => ?rs134)
                clear hK K
                try simp only [Act.put, List.setIfInBounds_toArray, List.set_cons_zero, List.set_cons_succ]
                refine wpAnyH_take (i := 28) (oi := ?oi135) (v := ?v135) ?hi135 (by kernel_rfl) (by kernel_rfl) (by kernel_rfl) (fun _ _ _ h => h) ?hy135 H96 ?rest135
                case hi135 => (simp only [List.getElem?_toArray, List.getElem?_cons_succ, List.getElem?_cons_zero]; try rfl)
                case hy135 => (refine Or.inl ⟨by rfl, ?_⟩; intro w hSw; go_simp; (try with_reducible rfl))
                try simp only [Act.put, List.setIfInBounds_toArray, List.set_cons_zero, List.set_cons_succ]
                refine wpAnyH_ready (rs := [0, 30]) (by kernel_rfl) (by simp) ?_
                refine AllReadyH.cons (o := ?o136) ?hi136 (fun K hK => ?st136) ?mo136
                case hi136 => (simp only [List.getElem?_toArray, List.getElem?_cons_zero]; try rfl)
                case st136 =>
                  obtain ⟨W136, e136⟩ : ∃ w7, w7 = W96.alloc (.cells #[.string ⟨#[102]⟩, .string ⟨#[103]⟩] 9) := ⟨_, rfl⟩
                  obtain ⟨fb, s136⟩ : ∃ g, g = W96.heap.size := ⟨_, rfl⟩
                  have hb136 : Below W96.heap.size W96 W136 := by rw [e136]; exact (Below.refl _ _).alloc (Nat.le_refl _) _
                  have N136 : Blk W136 fb 9 #[.string ⟨#[102]⟩, .string ⟨#[103]⟩] := by rw [e136, s136]; exact Blk.new _ _ _
                  have H136 : MhS wd (ad1.add i) (ad2.add i) (ad3.add i) x y z W136 ∧ Blk W136 fb 9 #[.string ⟨#[102]⟩, .string ⟨#[103]⟩] := ⟨H96.below hb136, N136⟩
                  go_simp
                  rw [← e136, ← s136]
                  clear e136 s136 hb136
                  refine hK.out _ _ H136.1 (fun _ => ?rs136)
                  clear hK K
                  try simp only [Act.put, List.setIfInBounds_toArray, List.set_cons_zero, List.set_cons_succ]
                  refine wpAnyH_mono (S' := fun wa => MhS wd (ad1.add i) (ad2.add i) (ad3.add i) x y z wa ∧ Blk wa fb 9 #[.string ⟨#[102]⟩, .string ⟨#[103]⟩]) (fun _ h => h.1) _ _ _ _ ?_
                  refine wpAnyH_take (i := 7) (oi := ?oi137) (v := ?v137) ?hi137 (by kernel_rfl) (by kernel_rfl) (by kernel_rfl) (fun _ _ _ h => h) ?hy137 H136 ?rest137
                  case hi137 => (simp only [List.getElem?_toArray, List.getElem?_cons_succ, List.getElem?_cons_zero]; try rfl)
                  case hy137 => (refine Or.inl ⟨by rfl, ?_⟩; intro w hSw; go_simp; (try with_reducible rfl))
                  try simp only [Act.put, List.setIfInBounds_toArray, List.set_cons_zero, List.set_cons_succ]
                  refine wpAnyH_take (i := 8) (oi := ?oi138) (v := ?v138) ?hi138 (by kernel_rfl) (by kernel_rfl) (by kernel_rfl) (fun _ _ _ h => h) ?hy138 H136 ?rest138
                  case hi138 => (simp only [List.getElem?_toArray, List.getElem?_cons_succ, List.getElem?_cons_zero]; try rfl)
                  case hy138 => (refine Or.inl ⟨by rfl, ?_⟩; intro w hSw; have q := (hSw.2.cell qn).trans hG; go_simp; (try with_reducible rfl))
                  try simp only [Act.put, List.setIfInBounds_toArray, List.set_cons_zero, List.set_cons_succ]
                  clear hG
                  refine wpAnyH_take (i := 29) (oi := ?oi139) (v := ?v139) ?hi139 (by kernel_rfl) (by kernel_rfl) (by kernel_rfl) (fun _ _ _ h => h) ?hy139 H136 ?rest139
                  case hi139 => (simp only [List.getElem?_toArray, List.getElem?_cons_succ, List.getElem?_cons_zero]; try rfl)
                  case hy139 => (refine yields_build (cells := #[.int .i64 11, .string G, .string ⟨#[]⟩, .string TT, .int .i64 0, .int .i64 st, .int .i64 nu, .int .i64 ep, .slice none 0 0]) 30 ?pa139 ?ho139 ?hg139 ?hf139; (case ho139 => rfl); (case hg139 => rfl); (case hf139 => simp [Act.eval]; exact built_msg _ _ _ _ _))
                  try simp only [Act.put, List.setIfInBounds_toArray, List.set_cons_zero, List.set_cons_succ]
                  refine wpAnyH_ready (rs := [30]) (by kernel_rfl) (by simp) ?_
                  refine AllReadyH.cons (o := ?o140) ?hi140 (fun K hK => ?st140) ?mo140
                  case hi140 => (simp only [List.getElem?_toArray, List.getElem?_cons_succ, List.getElem?_cons_zero]; try rfl)
                  case st140 =>
                    obtain ⟨W140, e140⟩ : ∃ w7, w7 = W136.alloc (.cells #[.int .i64 0, .string ⟨#[]⟩, .string ⟨#[]⟩, .string ⟨#[]⟩, .int .i64 0, .int .i64 0, .int .i64 0, .int .i64 0, .slice none 0 0] 30) := ⟨_, rfl⟩
                    obtain ⟨gk, s140⟩ : ∃ g, g = W136.heap.size := ⟨_, rfl⟩
                    have hb140 : Below W136.heap.size W136 W140 := by rw [e140]; exact (Below.refl _ _).alloc (Nat.le_refl _) _
                    have N140 : Blk W140 gk 30 #[.int .i64 0, .string ⟨#[]⟩, .string ⟨#[]⟩, .string ⟨#[]⟩, .int .i64 0, .int .i64 0, .int .i64 0, .int .i64 0, .slice none 0 0] := by rw [e140, s140]; exact Blk.new _ _ _
                    have G140 : wd.heap.size ≤ gk := by rw [s140]; exact H136.1.be.size
                    have H140 : MhS wd (ad1.add i) (ad2.add i) (ad3.add i) x y z W140 ∧ Blk W140 fb 9 #[.string ⟨#[102]⟩, .string ⟨#[103]⟩] := ⟨H136.1.below hb140, H136.2.below hb140 H136.2.lt⟩
                    go_simp
                    rw [← e140, ← s140]
                    clear e140 s140 hb140
                    refine hK.out _ _ H140 (fun _ => ?rs140)
                    clear hK K
                    try simp only [Act.put, List.setIfInBounds_toArray, List.set_cons_zero, List.set_cons_succ]
                    refine wpAnyH_ready (rs := [31]) (by kernel_rfl) (by simp) ?_
                    refine AllReadyH.cons (o := ?o141) ?hi141 (fun K hK => ?st141) ?mo141
                    case hi141 => (simp only [List.getElem?_toArray, List.getElem?_cons_succ, List.getElem?_cons_zero]; try rfl)
                    case st141 =>
                      have hfg : fb ≠ gk := H140.2.ne_ N140 (by decide)
                      refine store_msg (k := 11) (f := G) (e := ⟨#[]⟩) (t := TT) (n := 0) (st := st) (nu := nu) (ep := ep) rfl rfl (by simp [Act.eval]; done) (by simp [Act.eval]; done) N140 rfl ?_
                      intro w141 hb141 hbe141 hbf141
                      have hw141 := hbe141 wd G140 H140.1.be
                      refine hK.out _ _ ⟨⟨H140.1.k1, H140.1.k2, H140.1.k3, hw141⟩, hbf141 _ _ _ hfg H140.2⟩ (fun _ => ?rs141)
                      clear hK K
                      try simp only [Act.put]
                      refine wpAnyH_done (by kernel_rfl) ?_ _
                      refine NoPanic.normal ?_
                      go_wp2_with fail
                      go_meet
                      exact Lib.hid ⟨gk, _, rfl, Nat.le_trans hdr G140, hb141, hdb.trans (hw141.mono hdb.size), rfl⟩
                    exact AllReadyH.nil
                  exact AllReadyH.nil
                refine AllReadyH.cons (o := ?o142) ?hi142 (fun K hK => ?st142) ?mo142
                case hi142 => (simp only [List.getElem?_toArray, List.getElem?_cons_succ, List.getElem?_cons_zero]; try rfl)
                case st142 =>
                  obtain ⟨W142, e142⟩ : ∃ w7, w7 = W96.alloc (.cells #[.int .i64 0, .string ⟨#[]⟩, .string ⟨#[]⟩, .string ⟨#[]⟩, .int .i64 0, .int .i64 0, .int .i64 0, .int .i64 0, .slice none 0 0] 30) := ⟨_, rfl⟩
                  obtain ⟨gk, s142⟩ : ∃ g, g = W96.heap.size := ⟨_, rfl⟩
                  have hb142 : Below W96.heap.size W96 W142 := by rw [e142]; exact (Below.refl _ _).alloc (Nat.le_refl _) _
                  have N142 : Blk W142 gk 30 #[.int .i64 0, .string ⟨#[]⟩, .string ⟨#[]⟩, .string ⟨#[]⟩, .int .i64 0, .int .i64 0, .int .i64 0, .int .i64 0, .slice none 0 0] := by rw [e142, s142]; exact Blk.new _ _ _
                  have G142 : wd.heap.size ≤ gk := by rw [s142]; exact H96.be.size
                  have H142 : MhS wd (ad1.add i) (ad2.add i) (ad3.add i) x y z W142 := H96.below hb142
                  go_simp
                  rw [← e142, ← s142]
                  clear e142 s142 hb142
                  refine hK.out _ _ H142 (fun _ => ?rs142)
                  clear hK K
                  try simp only [Act.put, List.setIfInBounds_toArray, List.set_cons_zero, List.set_cons_succ]
                  refine wpAnyH_ready (rs := [0]) (by kernel_rfl) (by simp) ?_
                  refine AllReadyH.cons (o := ?o143) ?hi143 (fun K hK => ?st143) ?mo143
                  case hi143 => (simp only [List.getElem?_toArray, List.getElem?_cons_zero]; try rfl)
                  case st143 =>
                    obtain ⟨W143, e143⟩ : ∃ w7, w7 = W142.alloc (.cells #[.string ⟨#[102]⟩, .string ⟨#[103]⟩] 9) := ⟨_, rfl⟩
                    obtain ⟨fb, s143⟩ : ∃ g, g = W142.heap.size := ⟨_, rfl⟩
                    have hb143 : Below W142.heap.size W142 W143 := by rw [e143]; exact (Below.refl _ _).alloc (Nat.le_refl _) _
                    have N143 : Blk W143 fb 9 #[.string ⟨#[102]⟩, .string ⟨#[103]⟩] := by rw [e143, s143]; exact Blk.new _ _ _
                    have H143 : MhS wd (ad1.add i) (ad2.add i) (ad3.add i) x y z W143 ∧ Blk W143 fb 9 #[.string ⟨#[102]⟩, .string ⟨#[103]⟩] := ⟨H142.below hb143, N143⟩
                    have Z143 := N142.below hb143 N142.lt
                    go_simp
                    rw [← e143, ← s143]
                    clear e143 s143 hb143
                    refine hK.out _ _ H143.1 (fun _ => ?rs143)
                    clear hK K
                    try simp only [Act.put, List.setIfInBounds_toArray, List.set_cons_zero, List.set_cons_succ]
                    refine wpAnyH_mono (S' := fun wa => MhS wd (ad1.add i) (ad2.add i) (ad3.add i) x y z wa ∧ Blk wa fb 9 #[.string ⟨#[102]⟩, .string ⟨#[103]⟩]) (fun _ h => h.1) _ _ _ _ ?_
                    refine wpAnyH_take (i := 7) (oi := ?oi144) (v := ?v144) ?hi144 (by kernel_rfl) (by kernel_rfl) (by kernel_rfl) (fun _ _ _ h => h) ?hy144 H143 ?rest144
                    case hi144 => (simp only [List.getElem?_toArray, List.getElem?_cons_succ, List.getElem?_cons_zero]; try rfl)
                    case hy144 => (refine Or.inl ⟨by rfl, ?_⟩; intro w hSw; go_simp; (try with_reducible rfl))
                    try simp only [Act.put, List.setIfInBounds_toArray, List.set_cons_zero, List.set_cons_succ]
                    refine wpAnyH_take (i := 8) (oi := ?oi145) (v := ?v145) ?hi145 (by kernel_rfl) (by kernel_rfl) (by kernel_rfl) (fun _ _ _ h => h) ?hy145 H143 ?rest145
                    case hi145 => (simp only [List.getElem?_toArray, List.getElem?_cons_succ, List.getElem?_cons_zero]; try rfl)
                    case hy145 => (refine Or.inl ⟨by rfl, ?_⟩; intro w hSw; have q := (hSw.2.cell qn).trans hG; go_simp; (try with_reducible rfl))
                    try simp only [Act.put, List.setIfInBounds_toArray, List.set_cons_zero, List.set_cons_succ]
                    clear hG
                    refine wpAnyH_take (i := 29) (oi := ?oi146) (v := ?v146) ?hi146 (by kernel_rfl) (by kernel_rfl) (by kernel_rfl) (fun _ _ _ h => h) ?hy146 H143 ?rest146
                    case hi146 => (simp only [List.getElem?_toArray, List.getElem?_cons_succ, List.getElem?_cons_zero]; try rfl)
                    case hy146 => (refine yields_build (cells := #[.int .i64 11, .string G, .string ⟨#[]⟩, .string TT, .int .i64 0, .int .i64 st, .int .i64 nu, .int .i64 ep, .slice none 0 0]) 30 ?pa146 ?ho146 ?hg146 ?hf146; (case ho146 => rfl); (case hg146 => rfl); (case hf146 => simp [Act.eval]; exact built_msg _ _ _ _ _))
                    try simp only [Act.put, List.setIfInBounds_toArray, List.set_cons_zero, List.set_cons_succ]
                    refine wpAnyH_ready (rs := [31]) (by kernel_rfl) (by simp) ?_
                    refine AllReadyH.cons (o := ?o147) ?hi147 (fun K hK => ?st147) ?mo147
                    case hi147 => (simp only [List.getElem?_toArray, List.getElem?_cons_succ, List.getElem?_cons_zero]; try rfl)
                    case st147 =>
                      have hfg : fb ≠ gk := H143.2.ne_ Z143 (by decide)
                      refine store_msg (k := 11) (f := G) (e := ⟨#[]⟩) (t := TT) (n := 0) (st := st) (nu := nu) (ep := ep) rfl rfl (by simp [Act.eval]; done) (by simp [Act.eval]; done) Z143 rfl ?_
                      intro w147 hb147 hbe147 hbf147
                      have hw147 := hbe147 wd G142 H143.1.be
                      refine hK.out _ _ ⟨⟨H143.1.k1, H143.1.k2, H143.1.k3, hw147⟩, hbf147 _ _ _ hfg H143.2⟩ (fun _ => ?rs147)
                      clear hK K
                      try simp only [Act.put]
                      refine wpAnyH_done (by kernel_rfl) ?_ _
                      refine NoPanic.normal ?_
                      go_wp2_with fail
                      go_meet
                      exact Lib.hid ⟨gk, _, rfl, Nat.le_trans hdr G142, hb147, hdb.trans (hw147.mono hdb.size), rfl⟩
                    exact AllReadyH.nil
                  exact AllReadyH.nil
                exact AllReadyH.nil
              refine AllReadyH.cons (o := ?o148) ?hi148 (fun K hK => ?st148) ?mo148
              case hi148 => (simp only [List.getElem?_toArray, List.getElem?_cons_succ, List.getElem?_cons_zero]; try rfl)
              case st148 =>
                obtain ⟨W148, e148⟩ : ∃ w7, w7 = W96.alloc (.cells #[.int .i64 0, .string ⟨#[]⟩, .string ⟨#[]⟩, .string ⟨#[]⟩, .int .i64 0, .int .i64 0, .int .i64 0, .int .i64 0, .slice none 0 0] 30) := ⟨_, rfl⟩
                obtain ⟨gk, s148⟩ : ∃ g, g = W96.heap.size := ⟨_, rfl⟩
                have hb148 : Below W96.heap.size W96 W148 := by rw [e148]; exact (Below.refl _ _).alloc (Nat.le_refl _) _
                have N148 : Blk W148 gk 30 #[.int .i64 0, .string ⟨#[]⟩, .string ⟨#[]⟩, .string ⟨#[]⟩, .int .i64 0, .int .i64 0, .int .i64 0, .int .i64 0, .slice none 0 0] := by rw [e148, s148]; exact Blk.new _ _ _
                have G148 : wd.heap.size ≤ gk := by rw [s148]; exact H96.be.size
                have H148 : MhS wd (ad1.add i) (ad2.add i) (ad3.add i) x y z W148 := H96.below hb148
                go_simp
                rw [← e148, ← s148]
                clear e148 s148 hb148
                refine hK.out _ _ H148 (fun _ => ?rs148)
                clear hK K
                try simp only [Act.put, List.setIfInBounds_toArray, List.set_cons_zero, List.set_cons_succ]
                refine wpAnyH_ready (rs := [0, 27]) (by kernel_rfl) (by simp) ?_
                refine AllReadyH.cons (o := ?o149) ?hi149 (fun K hK => ?st149) ?mo149
                case hi149 => (simp only [List.getElem?_toArray, List.getElem?_cons_zero]; try rfl)
                case st149 =>
                  obtain ⟨W149, e149⟩ : ∃ w7, w7 = W148.alloc (.cells #[.string ⟨#[102]⟩, .string ⟨#[103]⟩] 9) := ⟨_, rfl⟩
                  obtain ⟨fb, s149⟩ : ∃ g, g = W148.heap.size := ⟨_, rfl⟩
                  have hb149 : Below W148.heap.size W148 W149 := by rw [e149]; exact (Below.refl _ _).alloc (Nat.le_refl _) _
                  have N149 : Blk W149 fb 9 #[.string ⟨#[102]⟩, .string ⟨#[103]⟩] := by rw [e149, s149]; exact Blk.new _ _ _
                  have H149 : MhS wd (ad1.add i) (ad2.add i) (ad3.add i) x y z W149 ∧ Blk W149 fb 9 #[.string ⟨#[102]⟩, .string ⟨#[103]⟩] := ⟨H148.below hb149, N149⟩
                  have Z149 := N148.below hb149 N148.lt
                  go_simp
                  rw [← e149, ← s149]
                  clear e149 s149 hb149
                  refine hK.out _ _ H149.1 (fun _ => ?rs149)
                  clear hK K
                  try simp only [Act.put, List.setIfInBounds_toArray, List.set_cons_zero, List.set_cons_succ]
                  refine wpAnyH_mono (S' := fun wa => MhS wd (ad1.add i) (ad2.add i) (ad3.add i) x y z wa ∧ Blk wa fb 9 #[.string ⟨#[102]⟩, .string ⟨#[103]⟩]) (fun _ h => h.1) _ _ _ _ ?_
                  refine wpAnyH_take (i := 7) (oi := ?oi150) (v := ?v150) ?hi150 (by kernel_rfl) (by kernel_rfl) (by kernel_rfl) (fun _ _ _ h => h) ?hy150 H149 ?rest150
                  case hi150 => (simp only [List.getElem?_toArray, List.getElem?_cons_succ, List.getElem?_cons_zero]; try rfl)
                  case hy150 => (refine Or.inl ⟨by rfl, ?_⟩; intro w hSw; go_simp; (try with_reducible rfl))
                  try simp only [Act.put, List.setIfInBounds_toArray, List.set_cons_zero, List.set_cons_succ]
                  refine wpAnyH_take (i := 8) (oi := ?oi151) (v := ?v151) ?hi151 (by kernel_rfl) (by kernel_rfl) (by kernel_rfl) (fun _ _ _ h => h) ?hy151 H149 ?rest151
                  case hi151 => (simp only [List.getElem?_toArray, List.getElem?_cons_succ, List.getElem?_cons_zero]; try rfl)
                  case hy151 => (refine Or.inl ⟨by rfl, ?_⟩; intro w hSw; have q := (hSw.2.cell qn).trans hG; go_simp; (try with_reducible rfl))
                  try simp only [Act.put, List.setIfInBounds_toArray, List.set_cons_zero, List.set_cons_succ]
                  clear hG
                  refine wpAnyH_ready (rs := [27]) (by kernel_rfl) (by simp) ?_
                  refine AllReadyH.cons (o := ?o152) ?hi152 (fun K hK => ?st152) ?mo152
                  case hi152 => (simp only [List.getElem?_toArray, List.getElem?_cons_succ, List.getElem?_cons_zero]; try rfl)
                  case st152 =>
                    go_simp
                    go_at_call 10
                    refine (hW6 _).mono ?_
                    rintro e wz ⟨rfl, rfl⟩
                    try dsimp only
                    refine hK.out _ _ H149 (fun _ => ?rs152)
                    clear hK K
                    try simp only [Act.put, List.setIfInBounds_toArray, List.set_cons_zero, List.set_cons_succ]
                    refine wpAnyH_take (i := 28) (oi := ?oi153) (v := ?v153) ?hi153 (by kernel_rfl) (by kernel_rfl) (by kernel_rfl) (fun _ _ _ h => h) ?hy153 H149 ?rest153
                    case hi153 => (simp only [List.getElem?_toArray, List.getElem?_cons_succ, List.getElem?_cons_zero]; try rfl)
                    case hy153 => (refine Or.inl ⟨by rfl, ?_⟩; intro w hSw; go_simp; (try with_reducible rfl))
                    try simp only [Act.put, List.setIfInBounds_toArray, List.set_cons_zero, List.set_cons_succ]
                    refine wpAnyH_take (i := 29) (oi := ?oi154) (v := ?v154) ?hi154 (by kernel_rfl) (by kernel_rfl) (by kernel_rfl) (fun _ _ _ h => h) ?hy154 H149 ?rest154
                    case hi154 => (simp only [List.getElem?_toArray, List.getElem?_cons_succ, List.getElem?_cons_zero]; try rfl)
                    case hy154 => (refine yields_build (cells := #[.int .i64 11, .string G, .string ⟨#[]⟩, .string TT, .int .i64 0, .int .i64 st, .int .i64 nu, .int .i64 ep, .slice none 0 0]) 30 ?pa154 ?ho154 ?hg154 ?hf154; (case ho154 => rfl); (case hg154 => rfl); (case hf154 => simp [Act.eval]; exact built_msg _ _ _ _ _))
                    try simp only [Act.put, List.setIfInBounds_toArray, List.set_cons_zero, List.set_cons_succ]
                    refine wpAnyH_ready (rs := [31]) (by kernel_rfl) (by simp) ?_
                    refine AllReadyH.cons (o := ?o155) ?hi155 (fun K hK => ?st155) ?mo155
                    case hi155 => (simp only [List.getElem?_toArray, List.getElem?_cons_succ, List.getElem?_cons_zero]; try rfl)
                    case st155 =>
                      have hfg : fb ≠ gk := H149.2.ne_ Z149 (by decide)
                      refine store_msg (k := 11) (f := G) (e := ⟨#[]⟩) (t := TT) (n := 0) (st := st) (nu := nu) (ep := ep) rfl rfl (by simp [Act.eval]; done) (by simp [Act.eval]; done) Z149 rfl ?_
                      intro w155 hb155 hbe155 hbf155
                      have hw155 := hbe155 wd G148 H149.1.be
                      refine hK.out _ _ ⟨⟨H149.1.k1, H149.1.k2, H149.1.k3, hw155⟩, hbf155 _ _ _ hfg H149.2⟩ (fun _ => ?rs155)
                      clear hK K
                      try simp only [Act.put]
                      refine wpAnyH_done (by kernel_rfl) ?_ _
                      refine NoPanic.normal ?_
                      go_wp2_with fail
                      go_meet
                      exact Lib.hid ⟨gk, _, rfl, Nat.le_trans hdr G148, hb155, hdb.trans (hw155.mono hdb.size), rfl⟩
                    exact AllReadyH.nil
                  exact AllReadyH.nil
                refine AllReadyH.cons (o := ?o156) ?hi156 (fun K hK => ?st156) ?mo156
                case hi156 => (simp only [List.getElem?_toArray, List.getElem?_cons_succ, List.getElem?_cons_zero]; try rfl)
                case st156 =>
                  go_simp
                  go_at_call 10
                  refine (hW6 _).mono ?_
                  rintro e wz ⟨rfl, rfl⟩
                  try dsimp only
                  refine hK.out _ _ H148 (fun _ => ?rs156)
                  clear hK K
                  try simp only [Act.put, List.setIfInBounds_toArray, List.set_cons_zero, List.set_cons_succ]
                  refine wpAnyH_take (i := 28) (oi := ?oi157) (v := ?v157) ?hi157 (by kernel_rfl) (by kernel_rfl) (by kernel_rfl) (fun _ _ _ h => h) ?hy157 H148 ?rest157
                  case hi157 => (simp only [List.getElem?_toArray, List.getElem?_cons_succ, List.getElem?_cons_zero]; try rfl)
                  case hy157 => (refine Or.inl ⟨by rfl, ?_⟩; intro w hSw; go_simp; (try with_reducible rfl))
                  try simp only [Act.put, List.setIfInBounds_toArray, List.set_cons_zero, List.set_cons_succ]
                  refine wpAnyH_ready (rs := [0]) (by kernel_rfl) (by simp) ?_
                  refine AllReadyH.cons (o := ?o158) ?hi158 (fun K hK => ?st158) ?mo158
                  case hi158 => (simp only [List.getElem?_toArray, List.getElem?_cons_zero]; try rfl)
                  case st158 =>
                    obtain ⟨W158, e158⟩ : ∃ w7, w7 = W148.alloc (.cells #[.string ⟨#[102]⟩, .string ⟨#[103]⟩] 9) := ⟨_, rfl⟩
                    obtain ⟨fb, s158⟩ : ∃ g, g = W148.heap.size := ⟨_, rfl⟩
                    have hb158 : Below W148.heap.size W148 W158 := by rw [e158]; exact (Below.refl _ _).alloc (Nat.le_refl _) _
                    have N158 : Blk W158 fb 9 #[.string ⟨#[102]⟩, .string ⟨#[103]⟩] := by rw [e158, s158]; exact Blk.new _ _ _
                    have H158 : MhS wd (ad1.add i) (ad2.add i) (ad3.add i) x y z W158 ∧ Blk W158 fb 9 #[.string ⟨#[102]⟩, .string ⟨#[103]⟩] := ⟨H148.below hb158, N158⟩
                    have Z158 := N148.below hb158 N148.lt
                    go_simp
                    rw [← e158, ← s158]
                    clear e158 s158 hb158
                    refine hK.out _ _ H158.1 (fun _ => ?rs158)
                    clear hK K
                    try simp only [Act.put, List.setIfInBounds_toArray, List.set_cons_zero, List.set_cons_succ]
                    refine wpAnyH_mono (S' := fun wa => MhS wd (ad1.add i) (ad2.add i) (ad3.add i) x y z wa ∧ Blk wa fb 9 #[.string ⟨#[102]⟩, .string ⟨#[103]⟩]) (fun _ h => h.1) _ _ _ _ ?_
                    refine wpAnyH_take (i := 7) (oi := ?oi159) (v := ?v159) ?hi159 (by kernel_rfl) (by kernel_rfl) (by kernel_rfl) (fun _ _ _ h => h) ?hy159 H158 ?rest159
                    case hi159 => (simp only [List.getElem?_toArray, List.getElem?_cons_succ, List.getElem?_cons_zero]; try rfl)
                    case hy159 => (refine Or.inl ⟨by rfl, ?_⟩; intro w hSw; go_simp; (try with_reducible rfl))
                    try simp only [Act.put, List.setIfInBounds_toArray, List.set_cons_zero, List.set_cons_succ]
                    refine wpAnyH_take (i := 8) (oi := ?oi160) (v := ?v160) ?hi160 (by kernel_rfl) (by kernel_rfl) (by kernel_rfl) (fun _ _ _ h => h) ?hy160 H158 ?rest160
                    case hi160 => (simp only [List.getElem?_toArray, List.getElem?_cons_succ, List.getElem?_cons_zero]; try rfl)
                    case hy160 => (refine Or.inl ⟨by rfl, ?_⟩; intro w hSw; have q := (hSw.2.cell qn).trans hG; go_simp; (try with_reducible rfl))
                    try simp only [Act.put, List.setIfInBounds_toArray, List.set_cons_zero, List.set_cons_succ]
                    clear hG
                    refine wpAnyH_take (i := 29) (oi := ?oi161) (v := ?v161) ?hi161 (by kernel_rfl) (by kernel_rfl) (by kernel_rfl) (fun _ _ _ h => h) ?hy161 H158 ?rest161
                    case hi161 => (simp only [List.getElem?_toArray, List.getElem?_cons_succ, List.getElem?_cons_zero]; try rfl)
                    case hy161 => (refine yields_build (cells := #[.int .i64 11, .string G, .string ⟨#[]⟩, .string TT, .int .i64 0, .int .i64 st, .int .i64 nu, .int .i64 ep, .slice none 0 0]) 30 ?pa161 ?ho161 ?hg161 ?hf161; (case ho161 => rfl); (case hg161 => rfl); (case hf161 => simp [Act.eval]; exact built_msg _ _ _ _ _))
                    try simp only [Act.put, List.setIfInBounds_toArray, List.set_cons_zero, List.set_cons_succ]
                    refine wpAnyH_ready (rs := [31]) (by kernel_rfl) (by simp) ?_
                    refine AllReadyH.cons (o := ?o162) ?hi162 (fun K hK => ?st162) ?mo162
                    case hi162 => (simp only [List.getElem?_toArray, List.getElem?_cons_succ, List.getElem?_cons_zero]; try rfl)
                    case st162 =>
                      have hfg : fb ≠ gk := H158.2.ne_ Z158 (by decide)
                      refine store_msg (k := 11) (f := G) (e := ⟨#[]⟩) (t := TT) (n := 0) (st := st) (nu := nu) (ep := ep) rfl rfl (by simp [Act.eval]; done) (by simp [Act.eval]; done) Z158 rfl ?_
                      intro w162 hb162 hbe162 hbf162
                      have hw162 := hbe162 wd G148 H158.1.be
                      refine hK.out _ _ ⟨⟨H158.1.k1, H158.1.k2, H158.1.k3, hw162⟩, hbf162 _ _ _ hfg H158.2⟩ (fun _ => ?rs162)
                      clear hK K
                      try simp only [Act.put]
                      refine wpAnyH_done (by kernel_rfl) ?_ _
                      refine NoPanic.normal ?_
                      go_wp2_with fail
                      go_meet
                      exact Lib.hid ⟨gk, _, rfl, Nat.le_trans hdr G148, hb162, hdb.trans (hw162.mono hdb.size), rfl⟩
                    exact AllReadyH.nil
                  exact AllReadyH.nil
                exact AllReadyH.nil
              exact AllReadyH.nil
            refine AllReadyH.cons (o := ?o163) ?hi163 (fun K hK => ?st163) ?mo163
            case hi163 => (simp only [List.getElem?_toArray, List.getElem?_cons_succ, List.getElem?_cons_zero]; try rfl)
            case st163 =>
              obtain ⟨W163, e163⟩ : ∃ w7, w7 = W96.alloc (.cells #[.int .i64 0, .string ⟨#[]⟩, .string ⟨#[]⟩, .string ⟨#[]⟩, .int .i64 0, .int .i64 0, .int .i64 0, .int .i64 0, .slice none 0 0] 30) := ⟨_, rfl⟩
              obtain ⟨gk, s163⟩ : ∃ g, g = W96.heap.size := ⟨_, rfl⟩
              have hb163 : Below W96.heap.size W96 W163 := by rw [e163]; exact (Below.refl _ _).alloc (Nat.le_refl _) _
              have N163 : Blk W163 gk 30 #[.int .i64 0, .string ⟨#[]⟩, .string ⟨#[]⟩, .string ⟨#[]⟩, .int .i64 0, .int .i64 0, .int .i64 0, .int .i64 0, .slice none 0 0] := by rw [e163, s163]; exact Blk.new _ _ _
              have G163 : wd.heap.size ≤ gk := by rw [s163]; exact H96.be.size
              have H163 : MhS wd (ad1.add i) (ad2.add i) (ad3.add i) x y z W163 := H96.below hb163
              go_simp
              rw [← e163, ← s163]
              clear e163 s163 hb163
              refine hK.out _ _ H163 (fun _ => ?rs163)
              clear hK K
              try simp only [Act.put, List.setIfInBounds_toArray, List.set_cons_zero, List.set_cons_succ]
              refine wpAnyH_ready (rs := [0, 18]) (by kernel_rfl) (by simp) ?_
              refine AllReadyH.cons (o := ?o164) ?hi164 (fun K hK => ?st164) ?mo164
              case hi164 => (simp only [List.getElem?_toArray, List.getElem?_cons_zero]; try rfl)
              case st164 =>
                obtain ⟨W164, e164⟩ : ∃ w7, w7 = W163.alloc (.cells #[.string ⟨#[102]⟩, .string ⟨#[103]⟩] 9) := ⟨_, rfl⟩
                obtain ⟨fb, s164⟩ : ∃ g, g = W163.heap.size := ⟨_, rfl⟩
                have hb164 : Below W163.heap.size W163 W164 := by rw [e164]; exact (Below.refl _ _).alloc (Nat.le_refl _) _
                have N164 : Blk W164 fb 9 #[.string ⟨#[102]⟩, .string ⟨#[103]⟩] := by rw [e164, s164]; exact Blk.new _ _ _
                have H164 : MhS wd (ad1.add i) (ad2.add i) (ad3.add i) x y z W164 ∧ Blk W164 fb 9 #[.string ⟨#[102]⟩, .string ⟨#[103]⟩] := ⟨H163.below hb164, N164⟩
                have Z164 := N163.below hb164 N163.lt
                go_simp
                rw [← e164, ← s164]
                clear e164 s164 hb164
                refine hK.out _ _ H164.1 (fun _ => ?rs164)
                clear hK K
                try simp only [Act.put, List.setIfInBounds_toArray, List.set_cons_zero, List.set_cons_succ]
                refine wpAnyH_mono (S' := fun wa => MhS wd (ad1.add i) (ad2.add i) (ad3.add i) x y z wa ∧ Blk wa fb 9 #[.string ⟨#[102]⟩, .string ⟨#[103]⟩]) (fun _ h => h.1) _ _ _ _ ?_
                refine wpAnyH_take (i := 7) (oi := ?oi165) (v := ?v165) ?hi165 (by kernel_rfl) (by kernel_rfl) (by kernel_rfl) (fun _ _ _ h => h) ?hy165 H164 ?rest165
                case hi165 => (simp only [List.getElem?_toArray, List.getElem?_cons_succ, List.getElem?_cons_zero]; try rfl)
                case hy165 => (refine Or.inl ⟨by rfl, ?_⟩; intro w hSw; go_simp; (try with_reducible rfl))
                try simp only [Act.put, List.setIfInBounds_toArray, List.set_cons_zero, List.set_cons_succ]
                refine wpAnyH_take (i := 8) (oi := ?oi166) (v := ?v166) ?hi166 (by kernel_rfl) (by kernel_rfl) (by kernel_rfl) (fun _ _ _ h => h) ?hy166 H164 ?rest166
                case hi166 => (simp only [List.getElem?_toArray, List.getElem?_cons_succ, List.getElem?_cons_zero]; try rfl)
                case hy166 => (refine Or.inl ⟨by rfl, ?_⟩; intro w hSw; have q := (hSw.2.cell qn).trans hG; go_simp; (try with_reducible rfl))
                try simp only [Act.put, List.setIfInBounds_toArray, List.set_cons_zero, List.set_cons_succ]
                clear hG
                refine wpAnyH_ready (rs := [18]) (by kernel_rfl) (by simp) ?_
                refine AllReadyH.cons (o := ?o167) ?hi167 (fun K hK => ?st167) ?mo167
                case hi167 => (simp only [List.getElem?_toArray, List.getElem?_cons_succ, List.getElem?_cons_zero]; try rfl)
                case st167 =>
                  go_simp
                  go_at_call 10
                  refine (hW3 _).mono ?_
                  rintro e wz ⟨rfl, rfl⟩
                  try dsimp only
                  refine hK.out _ _ H164 (fun _ => ?rs167)
                  clear hK K
                  try simp only [Act.put, List.setIfInBounds_toArray, List.set_cons_zero, List.set_cons_succ]
                  refine wpAnyH_take (i := 19) (oi := ?oi168) (v := ?v168) ?hi168 (by kernel_rfl) (by kernel_rfl) (by kernel_rfl) (fun _ _ _ h => h) ?hy168 H164 ?rest168
                  case hi168 => (simp only [List.getElem?_toArray, List.getElem?_cons_succ, List.getElem?_cons_zero]; try rfl)
                  case hy168 => (refine Or.inl ⟨by rfl, ?_⟩; intro w hSw; go_simp; (try with_reducible rfl))
                  try simp only [Act.put, List.setIfInBounds_toArray, List.set_cons_zero, List.set_cons_succ]
                  refine wpAnyH_ready (rs := [27]) (by kernel_rfl) (by simp) ?_
                  refine AllReadyH.cons (o := ?o169) ?hi169 (fun K hK => ?st169) ?mo169
                  case hi169 => (simp only [List.getElem?_toArray, List.getElem?_cons_succ, List.getElem?_cons_zero]; try rfl)
                  case st169 =>
                    go_simp
                    go_at_call 10
                    refine (hW6 _).mono ?_
                    rintro e wz ⟨rfl, rfl⟩
                    try dsimp only
                    refine hK.out _ _ H164 (fun _ => ?rs169)
                    clear hK K
                    try simp only [Act.put, List.setIfInBounds_toArray, List.set_cons_zero, List.set_cons_succ]
                    refine wpAnyH_take (i := 28) (oi := ?oi170) (v := ?v170) ?hi170 (by kernel_rfl) (by kernel_rfl) (by kernel_rfl) (fun _ _ _ h => h) ?hy170 H164 ?rest170
                    case hi170 => (simp only [List.getElem?_toArray, List.getElem?_cons_succ, List.getElem?_cons_zero]; try rfl)
                    case hy170 => (refine Or.inl ⟨by rfl, ?_⟩; intro w hSw; go_simp; (try with_reducible rfl))
                    try simp only [Act.put, List.setIfInBounds_toArray, List.set_cons_zero, List.set_cons_succ]
                    refine wpAnyH_take (i := 29) (oi := ?oi171) (v := ?v171) ?hi171 (by kernel_rfl) (by kernel_rfl) (by kernel_rfl) (fun _ _ _ h => h) ?hy171 H164 ?rest171
                    case hi171 => (simp only [List.getElem?_toArray, List.getElem?_cons_succ, List.getElem?_cons_zero]; try rfl)
                    case hy171 => (refine yields_build (cells := #[.int .i64 11, .string G, .string ⟨#[]⟩, .string TT, .int .i64 0, .int .i64 st, .int .i64 nu, .int .i64 ep, .slice none 0 0]) 30 ?pa171 ?ho171 ?hg171 ?hf171; (case ho171 => rfl); (case hg171 => rfl); (case hf171 => simp [Act.eval]; exact built_msg _ _ _ _ _))
                    try simp only [Act.put, List.setIfInBounds_toArray, List.set_cons_zero, List.set_cons_succ]
                    refine wpAnyH_ready (rs := [31]) (by kernel_rfl) (by simp) ?_
                    refine AllReadyH.cons (o := ?o172) ?hi172 (fun K hK => ?st172) ?mo172
                    case hi172 => (simp only [List.getElem?_toArray, List.getElem?_cons_succ, List.getElem?_cons_zero]; try rfl)
                    case st172 =>
                      have hfg : fb ≠ gk := H164.2.ne_ Z164 (by decide)
                      refine store_msg (k := 11) (f := G) (e := ⟨#[]⟩) (t := TT) (n := 0) (st := st) (nu := nu) (ep := ep) rfl rfl (by simp [Act.eval]; done) (by simp [Act.eval]; done) Z164 rfl ?_
                      intro w172 hb172 hbe172 hbf172
                      have hw172 := hbe172 wd G163 H164.1.be
                      refine hK.out _ _ ⟨⟨H164.1.k1, H164.1.k2, H164.1.k3, hw172⟩, hbf172 _ _ _ hfg H164.2⟩ (fun _ => ?rs172)
                      clear hK K
                      try simp only [Act.put]
                      refine wpAnyH_done (by kernel_rfl) ?_ _
                      refine NoPanic.normal ?_
                      go_wp2_with fail
                      go_meet
                      exact Lib.hid ⟨gk, _, rfl, Nat.le_trans hdr G163, hb172, hdb.trans (hw172.mono hdb.size), rfl⟩
                    exact AllReadyH.nil
                  exact AllReadyH.nil
                exact AllReadyH.nil
              refine AllReadyH.cons (o := ?o173) ?hi173 (fun K hK => ?st173) ?mo173
              case hi173 => (simp only [List.getElem?_toArray, List.getElem?_cons_succ, List.getElem?_cons_zero]; try rfl)
              case st173 =>
                go_simp
                go_at_call 10
                refine (hW3 _).mono ?_
                rintro e wz ⟨rfl, rfl⟩
                try dsimp only
                refine hK.out _ _ H163 (fun _ => ?rs173)
                clear hK K
                try simp only [Act.put, List.setIfInBounds_toArray, List.set_cons_zero, List.set_cons_succ]
                refine wpAnyH_take (i := 19) (oi := ?oi174) (v := ?v174) ?hi174 (by kernel_rfl) (by kernel_rfl) (by kernel_rfl) (fun _ _ _ h => h) ?hy174 H163 ?rest174
                case hi174 => (simp only [List.getElem?_toArray, List.getElem?_cons_succ, List.getElem?_cons_zero]; try rfl)
                case hy174 => (refine Or.inl ⟨by rfl, ?_⟩; intro w hSw; go_simp; (try with_reducible rfl))
                try simp only [Act.put, List.setIfInBounds_toArray, List.set_cons_zero, List.set_cons_succ]
                refine wpAnyH_ready (rs := [0, 27]) (by kernel_rfl) (by simp) ?_
                refine AllReadyH.cons (o := ?o175) ?hi175 (fun K hK => ?st175) ?mo175
                case hi175 => (simp only [List.getElem?_toArray, List.getElem?_cons_zero]; try rfl)
                case st175 =>
                  obtain ⟨W175, e175⟩ : ∃ w7, w7 = W163.alloc (.cells #[.string ⟨#[102]⟩, .string ⟨#[103]⟩] 9) := ⟨_, rfl⟩
                  obtain ⟨fb, s175⟩ : ∃ g, g = W163.heap.size := ⟨_, rfl⟩
                  have hb175 : Below W163.heap.size W163 W175 := by rw [e175]; exact (Below.refl _ _).alloc (Nat.le_refl _) _
                  have N175 : Blk W175 fb 9 #[.string ⟨#[102]⟩, .string ⟨#[103]⟩] := by rw [e175, s175]; exact Blk.new _ _ _
                  have H175 : MhS wd (ad1.add i) (ad2.add i) (ad3.add i) x y z W175 ∧ Blk W175 fb 9 #[.string ⟨#[102]⟩, .string ⟨#[103]⟩] := ⟨H163.below hb175, N175⟩
                  have Z175 := N163.below hb175 N163.lt
                  go_simp
                  rw [← e175, ← s175]
                  clear e175 s175 hb175
                  refine hK.out _ _ H175.1 (fun _ => ?rs175)
                  clear hK K
                  try simp only [Act.put, List.setIfInBounds_toArray, List.set_cons_zero, List.set_cons_succ]
                  refine wpAnyH_mono (S' := fun wa => MhS wd (ad1.add i) (ad2.add i) (ad3.add i) x y z wa ∧ Blk wa fb 9 #[.string ⟨#[102]⟩, .string ⟨#[103]⟩]) (fun _ h => h.1) _ _ _ _ ?_
                  refine wpAnyH_take (i := 7) (oi := ?oi176) (v := ?v176) ?hi176 (by kernel_rfl) (by kernel_rfl) (by kernel_rfl) (fun _ _ _ h => h) ?hy176 H175 ?rest176
                  case hi176 => (simp only [List.getElem?_toArray, List.getElem?_cons_succ, List.getElem?_cons_zero]; try rfl)
                  case hy176 => (refine Or.inl ⟨by rfl, ?_⟩; intro w hSw; go_simp; (try with_reducible rfl))
                  try simp only [Act.put, List.setIfInBounds_toArray, List.set_cons_zero, List.set_cons_succ]
                  refine wpAnyH_take (i := 8) (oi := ?oi177) (v := ?v177) ?hi177 (by kernel_rfl) (by kernel_rfl) (by kernel_rfl) (fun _ _ _ h => h) ?hy177 H175 ?rest177
                  case hi177 => (simp only [List.getElem?_toArray, List.getElem?_cons_succ, List.getElem?_cons_zero]; try rfl)
                  case hy177 => (refine Or.inl ⟨by rfl, ?_⟩; intro w hSw; have q := (hSw.2.cell qn).trans hG; go_simp; (try with_reducible rfl))
                  try simp only [Act.put, List.setIfInBounds_toArray, List.set_cons_zero, List.set_cons_succ]
                  clear hG
                  refine wpAnyH_ready (rs := [27]) (by kernel_rfl) (by simp) ?_
                  refine AllReadyH.cons (o := ?o178) ?hi178 (fun K hK => ?st178) ?mo178
                  case hi178 => (simp only [List.getElem?_toArray, List.getElem?_cons_succ, List.getElem?_cons_zero]; try rfl)
                  case st178 =>
                    go_simp
                    go_at_call 10
                    refine (hW6 _).mono ?_
                    rintro e wz ⟨rfl, rfl⟩
                    try dsimp only
                    refine hK.out _ _ H175 (fun _ => ?rs178)
                    clear hK K
                    try simp only [Act.put, List.setIfInBounds_toArray, List.set_cons_zero, List.set_cons_succ]
                    refine wpAnyH_take (i := 28) (oi := ?oi179) (v := ?v179) ?hi179 (by kernel_rfl) (by kernel_rfl) (by kernel_rfl) (fun _ _ _ h => h) ?hy179 H175 ?rest179
                    case hi179 => (simp only [List.getElem?_toArray, List.getElem?_cons_succ, List.getElem?_cons_zero]; try rfl)
                    case hy179 => (refine Or.inl ⟨by rfl, ?_⟩; intro w hSw; go_simp; (try with_reducible rfl))
                    try simp only [Act.put, List.setIfInBounds_toArray, List.set_cons_zero, List.set_cons_succ]
                    refine wpAnyH_take (i := 29) (oi := ?oi180) (v := ?v180) ?hi180 (by kernel_rfl) (by kernel_rfl) (by kernel_rfl) (fun _ _ _ h => h) ?hy180 H175 ?rest180
                    case hi180 => (simp only [List.getElem?_toArray, List.getElem?_cons_succ, List.getElem?_cons_zero]; try rfl)
                    case hy180 => (refine yields_build (cells := #[.int .i64 11, .string G, .string ⟨#[]⟩, .string TT, .int .i64 0, .int .i64 st, .int .i64 nu, .int .i64 ep, .slice none 0 0]) 30 ?pa180 ?ho180 ?hg180 ?hf180; (case ho180 => rfl); (case hg180 => rfl); (case hf180 => simp [Act.eval]; exact built_msg _ _ _ _ _))
                    try simp only [Act.put, List.setIfInBounds_toArray, List.set_cons_zero, List.set_cons_succ]
                    refine wpAnyH_ready (rs := [31]) (by kernel_rfl) (by simp) ?_
                    refine AllReadyH.cons (o := ?o181) ?hi181 (fun K hK => ?st181) ?mo181
                    case hi181 => (simp only [List.getElem?_toArray, List.getElem?_cons_succ, List.getElem?_cons_zero]; try rfl)
                    case st181 =>
                      have hfg : fb ≠ gk := H175.2.ne_ Z175 (by decide)
                      refine store_msg (k := 11) (f := G) (e := ⟨#[]⟩) (t := TT) (n := 0) (st := st) (nu := nu) (ep := ep) rfl rfl (by simp [Act.eval]; done) (by simp [Act.eval]; done) Z175 rfl ?_
                      intro w181 hb181 hbe181 hbf181
                      have hw181 := hbe181 wd G163 H175.1.be
                      refine hK.out _ _ ⟨⟨H175.1.k1, H175.1.k2, H175.1.k3, hw181⟩, hbf181 _ _ _ hfg H175.2⟩ (fun _ => ?rs181)
                      clear hK K
                      try simp only [Act.put]
                      refine wpAnyH_done (by kernel_rfl) ?_ _
                      refine NoPanic.normal ?_
                      go_wp2_with fail
                      go_meet
                      exact Lib.hid ⟨gk, _, rfl, Nat.le_trans hdr G163, hb181, hdb.trans (hw181.mono hdb.size), rfl⟩
                    exact AllReadyH.nil
                  exact AllReadyH.nil
                refine AllReadyH.cons (o := ?o182) ?hi182 (fun K hK => ?st182) ?mo182
                case hi182 => (simp only [List.getElem?_toArray, List.getElem?_cons_succ, List.getElem?_cons_zero]; try rfl)
                case st182 =>
                  go_simp
                  go_at_call 10
                  refine (hW6 _).mono ?_
                  rintro e wz ⟨rfl, rfl⟩
                  try dsimp only
                  refine hK.out _ _ H163 (fun _ => ?rs182)
                  clear hK K
                  try simp only [Act.put, List.setIfInBounds_toArray, List.set_cons_zero, List.set_cons_succ]
                  refine wpAnyH_take (i := 28) (oi := ?oi183) (v := ?v183) ?hi183 (by kernel_rfl) (by kernel_rfl) (by kernel_rfl) (fun _ _ _ h => h) ?hy183 H163 ?rest183
                  case hi183 => (simp only [List.getElem?_toArray, List.getElem?_cons_succ, List.getElem?_cons_zero]; try rfl)
                  case hy183 => (refine Or.inl ⟨by rfl, ?_⟩; intro w hSw; go_simp; (try with_reducible rfl))
                  try simp only [Act.put, List.setIfInBounds_toArray, List.set_cons_zero, List.set_cons_succ]
                  refine wpAnyH_ready (rs := [0]) (by kernel_rfl) (by simp) ?_
                  refine AllReadyH.cons (o := ?o184) ?hi184 (fun K hK => ?st184) ?mo184
                  case hi184 => (simp only [List.getElem?_toArray, List.getElem?_cons_zero]; try rfl)
                  case st184 =>
                    obtain ⟨W184, e184⟩ : ∃ w7, w7 = W163.alloc (.cells #[.string ⟨#[102]⟩, .string ⟨#[103]⟩] 9) := ⟨_, rfl⟩
                    obtain ⟨fb, s184⟩ : ∃ g, g = W163.heap.size := ⟨_, rfl⟩
                    have hb184 : Below W163.heap.size W163 W184 := by rw [e184]; exact (Below.refl _ _).alloc (Nat.le_refl _) _
                    have N184 : Blk W184 fb 9 #[.string ⟨#[102]⟩, .string ⟨#[103]⟩] := by rw [e184, s184]; exact Blk.new _ _ _
                    have H184 : MhS wd (ad1.add i) (ad2.add i) (ad3.add i) x y z W184 ∧ Blk W184 fb 9 #[.string ⟨#[102]⟩, .string ⟨#[103]⟩] := ⟨H163.below hb184, N184⟩
                    have Z184 := N163.below hb184 N163.lt
                    go_simp
                    rw [← e184, ← s184]
                    clear e184 s184 hb184
                    refine hK.out _ _ H184.1 (fun _ => ?rs184)
                    clear hK K
                    try simp only [Act.put, List.setIfInBounds_toArray, List.set_cons_zero, List.set_cons_succ]
                    refine wpAnyH_mono (S' := fun wa => MhS wd (ad1.add i) (ad2.add i) (ad3.add i) x y z wa ∧ Blk wa fb 9 #[.string ⟨#[102]⟩, .string ⟨#[103]⟩]) (fun _ h => h.1) _ _ _ _ ?_
                    refine wpAnyH_take (i := 7) (oi := ?oi185) (v := ?v185) ?hi185 (by kernel_rfl) (by kernel_rfl) (by kernel_rfl) (fun _ _ _ h => h) ?hy185 H184 ?rest185
                    case hi185 => (simp only [List.getElem?_toArray, List.getElem?_cons_succ, List.getElem?_cons_zero]; try rfl)
                    case hy185 => (refine Or.inl ⟨by rfl, ?_⟩; intro w hSw; go_simp; (try with_reducible rfl))
                    try simp only [Act.put, List.setIfInBounds_toArray, List.set_cons_zero, List.set_cons_succ]
                    refine wpAnyH_take (i := 8) (oi := ?oi186) (v := ?v186) ?hi186 (by kernel_rfl) (by kernel_rfl) (by kernel_rfl) (fun _ _ _ h => h) ?hy186 H184 ?rest186
                    case hi186 => (simp only [List.getElem?_toArray, List.getElem?_cons_succ, List.getElem?_cons_zero]; try rfl)
                    case hy186 => (refine Or.inl ⟨by rfl, ?_⟩; intro w hSw; have q := (hSw.2.cell qn).trans hG; go_simp; (try with_reducible rfl))
                    try simp only [Act.put, List.setIfInBounds_toArray, List.set_cons_zero, List.set_cons_succ]
                    clear hG
                    refine wpAnyH_take (i := 29) (oi := ?oi187) (v := ?v187) ?hi187 (by kernel_rfl) (by kernel_rfl) (by kernel_rfl) (fun _ _ _ h => h) ?hy187 H184 ?rest187
                    case hi187 => (simp only [List.getElem?_toArray, List.getElem?_cons_succ, List.getElem?_cons_zero]; try rfl)
                    case hy187 => (refine yields_build (cells := #[.int .i64 11, .string G, .string ⟨#[]⟩, .string TT, .int .i64 0, .int .i64 st, .int .i64 nu, .int .i64 ep, .slice none 0 0]) 30 ?pa187 ?ho187 ?hg187 ?hf187; (case ho187 => rfl); (case hg187 => rfl); (case hf187 => simp [Act.eval]; exact built_msg _ _ _ _ _))
                    try simp only [Act.put, List.setIfInBounds_toArray, List.set_cons_zero, List.set_cons_succ]
                    refine wpAnyH_ready (rs := [31]) (by kernel_rfl) (by simp) ?_
                    refine AllReadyH.cons (o := ?o188) ?hi188 (fun K hK => ?st188) ?mo188
                    case hi188 => (simp only [List.getElem?_toArray, List.getElem?_cons_succ, List.getElem?_cons_zero]; try rfl)
                    case st188 =>
                      have hfg : fb ≠ gk := H184.2.ne_ Z184 (by decide)
                      refine store_msg (k := 11) (f := G) (e := ⟨#[]⟩) (t := TT) (n := 0) (st := st) (nu := nu) (ep := ep) rfl rfl (by simp [Act.eval]; done) (by simp [Act.eval]; done) Z184 rfl ?_
                      intro w188 hb188 hbe188 hbf188
                      have hw188 := hbe188 wd G163 H184.1.be
                      refine hK.out _ _ ⟨⟨H184.1.k1, H184.1.k2, H184.1.k3, hw188⟩, hbf188 _ _ _ hfg H184.2⟩ (fun _ => ?rs188)
                      clear hK K
                      try simp only [Act.put]
                      refine wpAnyH_done (by kernel_rfl) ?_ _
                      refine NoPanic.normal ?_
                      go_wp2_with fail
                      go_meet
                      exact Lib.hid ⟨gk, _, rfl, Nat.le_trans hdr G163, hb188, hdb.trans (hw188.mono hdb.size), rfl⟩
                    exact AllReadyH.nil
                  exact AllReadyH.nil
                exact AllReadyH.nil
              exact AllReadyH.nil
            exact AllReadyH.nil
          refine AllReadyH.cons (o := ?o189) ?hi189 (fun K hK => ?st189) ?mo189
          case hi189 => (simp only [List.getElem?_toArray, List.getElem?_cons_succ, List.getElem?_cons_zero]; try rfl)
          case st189 =>
            obtain ⟨W189, e189⟩ : ∃ w7, w7 = wd.alloc (.cells #[.int .i64 0, .string ⟨#[]⟩, .string ⟨#[]⟩, .string ⟨#[]⟩, .int .i64 0, .int .i64 0, .int .i64 0, .int .i64 0, .slice none 0 0] 30) := ⟨_, rfl⟩
            obtain ⟨gk, s189⟩ : ∃ g, g = wd.heap.size := ⟨_, rfl⟩
            have hb189 : Below wd.heap.size wd W189 := by rw [e189]; exact (Below.refl _ _).alloc (Nat.le_refl _) _
            have N189 : Blk W189 gk 30 #[.int .i64 0, .string ⟨#[]⟩, .string ⟨#[]⟩, .string ⟨#[]⟩, .int .i64 0, .int .i64 0, .int .i64 0, .int .i64 0, .slice none 0 0] := by rw [e189, s189]; exact Blk.new _ _ _
            have G189 : wd.heap.size ≤ gk := by rw [s189]; exact H0.be.size
            have H189 : MhS wd (ad1.add i) (ad2.add i) (ad3.add i) x y z W189 := H0.below hb189
            go_simp
            rw [← e189, ← s189]
            clear e189 s189 hb189
            refine hK.out _ _ H189 (fun _ => ?rs189)
            clear hK K
            try simp only [Act.put, List.setIfInBounds_toArray, List.set_cons_zero, List.set_cons_succ]
            refine wpAnyH_ready (rs := [0, 13]) (by kernel_rfl) (by simp) ?_
            refine AllReadyH.cons (o := ?o190) ?hi190 (fun K hK => ?st190) ?mo190
            case hi190 => (simp only [List.getElem?_toArray, List.getElem?_cons_zero]; try rfl)
            case st190 =>
              obtain ⟨W190, e190⟩ : ∃ w7, w7 = W189.alloc (.cells #[.string ⟨#[102]⟩, .string ⟨#[103]⟩] 9) := ⟨_, rfl⟩
              obtain ⟨fb, s190⟩ : ∃ g, g = W189.heap.size := ⟨_, rfl⟩
              have hb190 : Below W189.heap.size W189 W190 := by rw [e190]; exact (Below.refl _ _).alloc (Nat.le_refl _) _
              have N190 : Blk W190 fb 9 #[.string ⟨#[102]⟩, .string ⟨#[103]⟩] := by rw [e190, s190]; exact Blk.new _ _ _
              have H190 : MhS wd (ad1.add i) (ad2.add i) (ad3.add i) x y z W190 ∧ Blk W190 fb 9 #[.string ⟨#[102]⟩, .string ⟨#[103]⟩] := ⟨H189.below hb190, N190⟩
              have Z190 := N189.below hb190 N189.lt
              go_simp
              rw [← e190, ← s190]
              clear e190 s190 hb190
              refine hK.out _ _ H190.1 (fun _ => ?rs190)
              clear hK K
              try simp only [Act.put, List.setIfInBounds_toArray, List.set_cons_zero, List.set_cons_succ]
              refine wpAnyH_mono (S' := fun wa => MhS wd (ad1.add i) (ad2.add i) (ad3.add i) x y z wa ∧ Blk wa fb 9 #[.string ⟨#[102]⟩, .string ⟨#[103]⟩]) (fun _ h => h.1) _ _ _ _ ?_
              refine wpAnyH_take (i := 7) (oi := ?oi191) (v := ?v191) ?hi191 (by kernel_rfl) (by kernel_rfl) (by kernel_rfl) (fun _ _ _ h => h) ?hy191 H190 ?rest191
              case hi191 => (simp only [List.getElem?_toArray, List.getElem?_cons_succ, List.getElem?_cons_zero]; try rfl)
              case hy191 => (refine Or.inl ⟨by rfl, ?_⟩; intro w hSw; go_simp; (try with_reducible rfl))
              try simp only [Act.put, List.setIfInBounds_toArray, List.set_cons_zero, List.set_cons_succ]
              refine wpAnyH_take (i := 8) (oi := ?oi192) (v := ?v192) ?hi192 (by kernel_rfl) (by kernel_rfl) (by kernel_rfl) (fun _ _ _ h => h) ?hy192 H190 ?rest192
              case hi192 => (simp only [List.getElem?_toArray, List.getElem?_cons_succ, List.getElem?_cons_zero]; try rfl)
              case hy192 => (refine Or.inl ⟨by rfl, ?_⟩; intro w hSw; have q := (hSw.2.cell qn).trans hG; go_simp; (try with_reducible rfl))
              try simp only [Act.put, List.setIfInBounds_toArray, List.set_cons_zero, List.set_cons_succ]
              clear hG
              refine wpAnyH_ready (rs := [13]) (by kernel_rfl) (by simp) ?_
              refine AllReadyH.cons (o := ?o193) ?hi193 (fun K hK => ?st193) ?mo193
              case hi193 => (simp only [List.getElem?_toArray, List.getElem?_cons_succ, List.getElem?_cons_zero]; try rfl)
              case st193 =>
                go_simp
                go_at_call 16
                refine (hTk _).mono ?_
                rintro e W193 ⟨rfl, hb193⟩
                have H193 : MhS wd (ad1.add i) (ad2.add i) (ad3.add i) x y z W193 ∧ Blk W193 fb 9 #[.string ⟨#[102]⟩, .string ⟨#[103]⟩] := ⟨H190.1.below hb193, H190.2.below hb193 H190.2.lt⟩
                have Z193 := Z190.below hb193 Z190.lt
                clear hb193
                try dsimp only
                refine hK.out _ _ H193 (fun _ => ?rs193)
                clear hK K
                try simp only [Act.put, List.setIfInBounds_toArray, List.set_cons_zero, List.set_cons_succ]
                refine wpAnyH_ready (rs := [18]) (by kernel_rfl) (by simp) ?_
                refine AllReadyH.cons (o := ?o194) ?hi194 (fun K hK => ?st194) ?mo194
                case hi194 => (simp only [List.getElem?_toArray, List.getElem?_cons_succ, List.getElem?_cons_zero]; try rfl)
                case st194 =>
                  go_simp
                  go_at_call 10
                  refine (hW3 _).mono ?_
                  rintro e wz ⟨rfl, rfl⟩
                  try dsimp only
                  refine hK.out _ _ H193 (fun _ => ?rs194)
                  clear hK K
                  try simp only [Act.put, List.setIfInBounds_toArray, List.set_cons_zero, List.set_cons_succ]
                  refine wpAnyH_take (i := 19) (oi := ?oi195) (v := ?v195) ?hi195 (by kernel_rfl) (by kernel_rfl) (by kernel_rfl) (fun _ _ _ h => h) ?hy195 H193 ?rest195
                  case hi195 => (simp only [List.getElem?_toArray, List.getElem?_cons_succ, List.getElem?_cons_zero]; try rfl)
                  case hy195 => (refine Or.inl ⟨by rfl, ?_⟩; intro w hSw; go_simp; (try with_reducible rfl))
                  try simp only [Act.put, List.setIfInBounds_toArray, List.set_cons_zero, List.set_cons_succ]
                  refine wpAnyH_ready (rs := [27]) (by kernel_rfl) (by simp) ?_
                  refine AllReadyH.cons (o := ?o196) ?hi196 (fun K hK => ?st196) ?mo196
                  case hi196 => (simp only [List.getElem?_toArray, List.getElem?_cons_succ, List.getElem?_cons_zero]; try rfl)
                  case st196 =>
                    go_simp
                    go_at_call 10
                    refine (hW6 _).mono ?_
                    rintro e wz ⟨rfl, rfl⟩
                    try dsimp only
                    refine hK.out _ _ H193 (fun _ => ?rs196)
                    clear hK K
                    try simp only [Act.put, List.setIfInBounds_toArray, List.set_cons_zero, List.set_cons_succ]
                    refine wpAnyH_take (i := 28) (oi := ?oi197) (v := ?v197) ?hi197 (by kernel_rfl) (by kernel_rfl) (by kernel_rfl) (fun _ _ _ h => h) ?hy197 H193 ?rest197
                    case hi197 => (simp only [List.getElem?_toArray, List.getElem?_cons_succ, List.getElem?_cons_zero]; try rfl)
                    case hy197 => (refine Or.inl ⟨by rfl, ?_⟩; intro w hSw; go_simp; (try with_reducible rfl))
                    try simp only [Act.put, List.setIfInBounds_toArray, List.set_cons_zero, List.set_cons_succ]
                    refine wpAnyH_take (i := 29) (oi := ?oi198) (v := ?v198) ?hi198 (by kernel_rfl) (by kernel_rfl) (by kernel_rfl) (fun _ _ _ h => h) ?hy198 H193 ?rest198
                    case hi198 => (simp only [List.getElem?_toArray, List.getElem?_cons_succ, List.getElem?_cons_zero]; try rfl)
                    case hy198 => (refine yields_build (cells := #[.int .i64 11, .string G, .string ⟨#[]⟩, .string TT, .int .i64 0, .int .i64 st, .int .i64 nu, .int .i64 ep, .slice none 0 0]) 30 ?pa198 ?ho198 ?hg198 ?hf198; (case ho198 => rfl); (case hg198 => rfl); (case hf198 => simp [Act.eval]; exact built_msg _ _ _ _ _))
                    try simp only [Act.put, List.setIfInBounds_toArray, List.set_cons_zero, List.set_cons_succ]
                    refine wpAnyH_ready (rs := [31]) (by kernel_rfl) (by simp) ?_
                    refine AllReadyH.cons (o := ?o199) ?hi199 (fun K hK => ?st199) ?mo199
                    case hi199 => (simp only [List.getElem?_toArray, List.getElem?_cons_succ, List.getElem?_cons_zero]; try rfl)
                    case st199 =>
                      have hfg : fb ≠ gk := H193.2.ne_ Z193 (by decide)
                      refine store_msg (k := 11) (f := G) (e := ⟨#[]⟩) (t := TT) (n := 0) (st := st) (nu := nu) (ep := ep) rfl rfl (by simp [Act.eval]; done) (by simp [Act.eval]; done) Z193 rfl ?_
                      intro w199 hb199 hbe199 hbf199
                      have hw199 := hbe199 wd G189 H193.1.be
                      refine hK.out _ _ ⟨⟨H193.1.k1, H193.1.k2, H193.1.k3, hw199⟩, hbf199 _ _ _ hfg H193.2⟩ (fun _ => ?rs199)
                      clear hK K
                      try simp only [Act.put]
                      refine wpAnyH_done (by kernel_rfl) ?_ _
                      refine NoPanic.normal ?_
                      go_wp2_with fail
                      go_meet
                      exact Lib.hid ⟨gk, _, rfl, Nat.le_trans hdr G189, hb199, hdb.trans (hw199.mono hdb.size), rfl⟩
                    exact AllReadyH.nil
                  exact AllReadyH.nil
                exact AllReadyH.nil
              exact AllReadyH.nil
            refine AllReadyH.cons (o := ?o200) ?hi200 (fun K hK => ?st200) ?mo200
            case hi200 => (simp only [List.getElem?_toArray, List.getElem?_cons_succ, List.getElem?_cons_zero]; try rfl)
            case st200 =>
              go_simp
              go_at_call 16
              refine (hTk _).mono ?_
              rintro e W200 ⟨rfl, hb200⟩
              have H200 : MhS wd (ad1.add i) (ad2.add i) (ad3.add i) x y z W200 := H189.below hb200
              have Z200 := N189.below hb200 N189.lt
              clear hb200
              try dsimp only
              refine hK.out _ _ H200 (fun _ => ?rs200)
              clear hK K
              try simp only [Act.put, List.setIfInBounds_toArray, List.set_cons_zero, List.set_cons_succ]
              refine wpAnyH_ready (rs := [0, 18]) (by kernel_rfl) (by simp) ?_
              refine AllReadyH.cons (o := ?o201) ?hi201 (fun K hK => ?st201) ?mo201
              case hi201 => (simp only [List.getElem?_toArray, List.getElem?_cons_zero]; try rfl)
              case st201 =>
                obtain ⟨W201, e201⟩ : ∃ w7, w7 = W200.alloc (.cells #[.string ⟨#[102]⟩, .string ⟨#[103]⟩] 9) := ⟨_, rfl⟩
                obtain ⟨fb, s201⟩ : ∃ g, g = W200.heap.size := ⟨_, rfl⟩
                have hb201 : Below W200.heap.size W200 W201 := by rw [e201]; exact (Below.refl _ _).alloc (Nat.le_refl _) _
                have N201 : Blk W201 fb 9 #[.string ⟨#[102]⟩, .string ⟨#[103]⟩] := by rw [e201, s201]; exact Blk.new _ _ _
                have H201 : MhS wd (ad1.add i) (ad2.add i) (ad3.add i) x y z W201 ∧ Blk W201 fb 9 #[.string ⟨#[102]⟩, .string ⟨#[103]⟩] := ⟨H200.below hb201, N201⟩
                have Z201 := Z200.below hb201 Z200.lt
                go_simp
                rw [← e201, ← s201]
                clear e201 s201 hb201
                refine hK.out _ _ H201.1 (fun _ => ?rs201)
                clear hK K
                try simp only [Act.put, List.setIfInBounds_toArray, List.set_cons_zero, List.set_cons_succ]
                refine wpAnyH_mono (S' := fun wa => MhS wd (ad1.add i) (ad2.add i) (ad3.add i) x y z wa ∧ Blk wa fb 9 #[.string ⟨#[102]⟩, .string ⟨#[103]⟩]) (fun _ h => h.1) _ _ _ _ ?_
                refine wpAnyH_take (i := 7) (oi := ?oi202) (v := ?v202) ?hi202 (by kernel_rfl) (by kernel_rfl) (by kernel_rfl) (fun _ _ _ h => h) ?hy202 H201 ?rest202
                case hi202 => (simp only [List.getElem?_toArray, List.getElem?_cons_succ, List.getElem?_cons_zero]; try rfl)
                case hy202 => (refine Or.inl ⟨by rfl, ?_⟩; intro w hSw; go_simp; (try with_reducible rfl))
                try simp only [Act.put, List.setIfInBounds_toArray, List.set_cons_zero, List.set_cons_succ]
                refine wpAnyH_take (i := 8) (oi := ?oi203) (v := ?v203) ?hi203 (by kernel_rfl) (by kernel_rfl) (by kernel_rfl) (fun _ _ _ h => h) ?hy203 H201 ?rest203
                case hi203 => (simp only [List.getElem?_toArray, List.getElem?_cons_succ, List.getElem?_cons_zero]; try rfl)
                case hy203 => (refine Or.inl ⟨by rfl, ?_⟩; intro w hSw; have q := (hSw.2.cell qn).trans hG; go_simp; (try with_reducible rfl))
                try simp only [Act.put, List.setIfInBounds_toArray, List.set_cons_zero, List.set_cons_succ]
                clear hG
                refine wpAnyH_ready (rs := [18]) (by kernel_rfl) (by simp) ?_
                refine AllReadyH.cons (o := ?o204) ?hi204 (fun K hK => ?st204) ?mo204
                case hi204 => (simp only [List.getElem?_toArray, List.getElem?_cons_succ, List.getElem?_cons_zero]; try rfl)
                case st204 =>
                  go_simp
                  go_at_call 10
                  refine (hW3 _).mono ?_
                  rintro e wz ⟨rfl, rfl⟩
                  try dsimp only
                  refine hK.out _ _ H201 (fun _ => ?rs204)
                  clear hK K
                  try simp only [Act.put, List.setIfInBounds_toArray, List.set_cons_zero, List.set_cons_succ]
                  refine wpAnyH_take (i := 19) (oi := ?oi205) (v := ?v205) ?hi205 (by kernel_rfl) (by kernel_rfl) (by kernel_rfl) (fun _ _ _ h => h) ?hy205 H201 ?rest205
                  case hi205 => (simp only [List.getElem?_toArray, List.getElem?_cons_succ, List.getElem?_cons_zero]; try rfl)
                  case hy205 => (refine Or.inl ⟨by rfl, ?_⟩; intro w hSw; go_simp; (try with_reducible rfl))
                  try simp only [Act.put, List.setIfInBounds_toArray, List.set_cons_zero, List.set_cons_succ]
                  refine wpAnyH_ready (rs := [27]) (by kernel_rfl) (by simp) ?_
                  refine AllReadyH.cons (o := ?o206) ?hi206 (fun K hK => ?st206) ?mo206
                  case hi206 => (simp only [List.getElem?_toArray, List.getElem?_cons_succ, List.getElem?_cons_zero]; try rfl)
                  case st206 =>
                    go_simp
                    go_at_call 10
                    refine (hW6 _).mono ?_
                    rintro e wz ⟨rfl, rfl⟩
                    try dsimp only
                    refine hK.out _ _ H201 (fun _ => ?rs206)
                    clear hK K
                    try simp only [Act.put, List.setIfInBounds_toArray, List.set_cons_zero, List.set_cons_succ]
                    refine wpAnyH_take (i := 28) (oi := ?oi207) (v := ?v207) ?hi207 (by kernel_rfl) (by kernel_rfl) (by kernel_rfl) (fun _ _ _ h => h) ?hy207 H201 ?rest207
                    case hi207 => (simp only [List.getElem?_toArray, List.getElem?_cons_succ, List.getElem?_cons_zero]; try rfl)
                    case hy207 => (refine Or.inl ⟨by rfl, ?_⟩; intro w hSw; go_simp; (try with_reducible rfl))
                    try simp only [Act.put, List.setIfInBounds_toArray, List.set_cons_zero, List.set_cons_succ]
                    refine wpAnyH_take (i := 29) (oi := ?oi208) (v := ?v208) ?hi208 (by kernel_rfl) (by kernel_rfl) (by kernel_rfl) (fun _ _ _ h => h) ?hy208 H201 ?rest208
                    case hi208 => (simp only [List.getElem?_toArray, List.getElem?_cons_succ, List.getElem?_cons_zero]; try rfl)
                    case hy208 => (refine yields_build (cells := #[.int .i64 11, .string G, .string ⟨#[]⟩, .string TT, .int .i64 0, .int .i64 st, .int .i64 nu, .int .i64 ep, .slice none 0 0]) 30 ?pa208 ?ho208 ?hg208 ?hf208; (case ho208 => rfl); (case hg208 => rfl); (case hf208 => simp [Act.eval]; exact built_msg _ _ _ _ _))
                    try simp only [Act.put, List.setIfInBounds_toArray, List.set_cons_zero, List.set_cons_succ]
                    refine wpAnyH_ready (rs := [31]) (by kernel_rfl) (by simp) ?_
                    refine AllReadyH.cons (o := ?o209) ?hi209 (fun K hK => ?st209) ?mo209
                    case hi209 => (simp only [List.getElem?_toArray, List.getElem?_cons_succ, List.getElem?_cons_zero]; try rfl)
                    case st209 =>
                      have hfg : fb ≠ gk := H201.2.ne_ Z201 (by decide)
                      refine store_msg (k := 11) (f := G) (e := ⟨#[]⟩) (t := TT) (n := 0) (st := st) (nu := nu) (ep := ep) rfl rfl (by simp [Act.eval]; done) (by simp [Act.eval]; done) Z201 rfl ?_
                      intro w209 hb209 hbe209 hbf209
                      have hw209 := hbe209 wd G189 H201.1.be
                      refine hK.out _ _ ⟨⟨H201.1.k1, H201.1.k2, H201.1.k3, hw209⟩, hbf209 _ _ _ hfg H201.2⟩ (fun _ => ?rs209)
                      clear hK K
                      try simp only [Act.put]
                      refine wpAnyH_done (by kernel_rfl) ?_ _
                      refine NoPanic.normal ?_
                      go_wp2_with fail
                      go_meet
                      exact Lib.hid ⟨gk, _, rfl, Nat.le_trans hdr G189, hb209, hdb.trans (hw209.mono hdb.size), rfl⟩
                    exact AllReadyH.nil
                  exact AllReadyH.nil
                exact AllReadyH.nil
              refine AllReadyH.cons (o := ?o210) ?hi210 (fun K hK => ?st210) ?mo210
              case hi210 => (simp only [List.getElem?_toArray, List.getElem?_cons_succ, List.getElem?_cons_zero]; try rfl)
              case st210 =>
                go_simp
                go_at_call 10
                refine (hW3 _).mono ?_
                rintro e wz ⟨rfl, rfl⟩
                try dsimp only
                refine hK.out _ _ H200 (fun _ => ?rs210)
                clear hK K
                try simp only [Act.put, List.setIfInBounds_toArray, List.set_cons_zero, List.set_cons_succ]
                refine wpAnyH_take (i := 19) (oi := ?oi211) (v := ?v211) ?hi211 (by kernel_rfl) (by kernel_rfl) (by kernel_rfl) (fun _ _ _ h => h) ?hy211 H200 ?rest211
                case hi211 => (simp only [List.getElem?_toArray, List.getElem?_cons_succ, List.getElem?_cons_zero]; try rfl)
                case hy211 => (refine Or.inl ⟨by rfl, ?_⟩; intro w hSw; go_simp; (try with_reducible rfl))
                try simp only [Act.put, List.setIfInBounds_toArray, List.set_cons_zero, List.set_cons_succ]
                refine wpAnyH_ready (rs := [0, 27]) (by kernel_rfl) (by simp) ?_
                refine AllReadyH.cons (o := ?o212) ?hi212 (fun K hK => ?st212) ?mo212
                case hi212 => (simp only [List.getElem?_toArray, List.getElem?_cons_zero]; try rfl)
                case st212 =>
                  obtain ⟨W212, e212⟩ : ∃ w7, w7 = W200.alloc (.cells #[.string ⟨#[102]⟩, .string ⟨#[103]⟩] 9) := ⟨_, rfl⟩
                  obtain ⟨fb, s212⟩ : ∃ g, g = W200.heap.size := ⟨_, rfl⟩
                  have hb212 : Below W200.heap.size W200 W212 := by rw [e212]; exact (Below.refl _ _).alloc (Nat.le_refl _) _
                  have N212 : Blk W212 fb 9 #[.string ⟨#[102]⟩, .string ⟨#[103]⟩] := by rw [e212, s212]; exact Blk.new _ _ _
                  have H212 : MhS wd (ad1.add i) (ad2.add i) (ad3.add i) x y z W212 ∧ Blk W212 fb 9 #[.string ⟨#[102]⟩, .string ⟨#[103]⟩] := ⟨H200.below hb212, N212⟩
                  have Z212 := Z200.below hb212 Z200.lt
                  go_simp
                  rw [← e212, ← s212]
                  clear e212 s212 hb212
                  refine hK.out _ _ H212.1 (fun _ => ?rs212)
                  clear hK K
                  try simp only [Act.put, List.setIfInBounds_toArray, List.set_cons_zero, List.set_cons_succ]
                  refine wpAnyH_mono (S' := fun wa => MhS wd (ad1.add i) (ad2.add i) (ad3.add i) x y z wa ∧ Blk wa fb 9 #[.string ⟨#[102]⟩, .string ⟨#[103]⟩]) (fun _ h => h.1) _ _ _ _ ?_
                  refine wpAnyH_take (i := 7) (oi := ?oi213) (v := ?v213) ?hi213 (by kernel_rfl) (by kernel_rfl) (by kernel_rfl) (fun _ _ _ h => h) ?hy213 H212 ?rest213
                  case hi213 => (simp only [List.getElem?_toArray, List.getElem?_cons_succ, List.getElem?_cons_zero]; try rfl)
                  case hy213 => (refine Or.inl ⟨by rfl, ?_⟩; intro w hSw; go_simp; (try with_reducible rfl))
                  try simp only [Act.put, List.setIfInBounds_toArray, List.set_cons_zero, List.set_cons_succ]
                  refine wpAnyH_take (i := 8) (oi := ?oi214) (v := ?v214) ?hi214 (by kernel_rfl) (by kernel_rfl) (by kernel_rfl) (fun _ _ _ h => h) ?hy214 H212 ?rest214
                  case hi214 => (simp only [List.getElem?_toArray, List.getElem?_cons_succ, List.getElem?_cons_zero]; try rfl)
                  case hy214 => (refine Or.inl ⟨by rfl, ?_⟩; intro w hSw; have q := (hSw.2.cell qn).trans hG; go_simp; (try with_reducible rfl))
                  try simp only [Act.put, List.setIfInBounds_toArray, List.set_cons_zero, List.set_cons_succ]
                  clear hG
                  refine wpAnyH_ready (rs := [27]) (by kernel_rfl) (by simp) ?_
                  refine AllReadyH.cons (o := ?o215) ?hi215 (fun K hK => ?st215) ?mo215
                  case hi215 => (simp only [List.getElem?_toArray, List.getElem?_cons_succ, List.getElem?_cons_zero]; try rfl)
                  case st215 =>
                    go_simp
                    go_at_call 10
                    refine (hW6 _).mono ?_
                    rintro e wz ⟨rfl, rfl⟩
                    try dsimp only
                    refine hK.out _ _ H212 (fun _ => ?rs215)
                    clear hK K
                    try simp only [Act.put, List.setIfInBounds_toArray, List.set_cons_zero, List.set_cons_succ]
                    refine wpAnyH_take (i := 28) (oi := ?oi216) (v := ?v216) ?hi216 (by kernel_rfl) (by kernel_rfl) (by kernel_rfl) (fun _ _ _ h => h) ?hy216 H212 ?rest216
                    case hi216 => (simp only [List.getElem?_toArray, List.getElem?_cons_succ, List.getElem?_cons_zero]; try rfl)
                    case hy216 => (refine Or.inl ⟨by rfl, ?_⟩; intro w hSw; go_simp; (try with_reducible rfl))
                    try simp only [Act.put, List.setIfInBounds_toArray, List.set_cons_zero, List.set_cons_succ]
                    refine wpAnyH_take (i := 29) (oi := ?oi217) (v := ?v217) ?hi217 (by kernel_rfl) (by kernel_rfl) (by kernel_rfl) (fun _ _ _ h => h) ?hy217 H212 ?rest217
                    case hi217 => (simp only [List.getElem?_toArray, List.getElem?_cons_succ, List.getElem?_cons_zero]; try rfl)
                    case hy217 => (refine yields_build (cells := #[.int .i64 11, .string G, .string ⟨#[]⟩, .string TT, .int .i64 0, .int .i64 st, .int .i64 nu, .int .i64 ep, .slice none 0 0]) 30 ?pa217 ?ho217 ?hg217 ?hf217; (case ho217 => rfl); (case hg217 => rfl); (case hf217 => simp [Act.eval]; exact built_msg _ _ _ _ _))
                    try simp only [Act.put, List.setIfInBounds_toArray, List.set_cons_zero, List.set_cons_succ]
                    refine wpAnyH_ready (rs := [31]) (by kernel_rfl) (by simp) ?_
                    refine AllReadyH.cons (o := ?o218) ?hi218 (fun K hK => ?st218) ?mo218
                    case hi218 => (simp only [List.getElem?_toArray, List.getElem?_cons_succ, List.getElem?_cons_zero]; try rfl)
                    case st218 =>
                      have hfg : fb ≠ gk := H212.2.ne_ Z212 (by decide)
                      refine store_msg (k := 11) (f := G) (e := ⟨#[]⟩) (t := TT) (n := 0) (st := st) (nu := nu) (ep := ep) rfl rfl (by simp [Act.eval]; done) (by simp [Act.eval]; done) Z212 rfl ?_
                      intro w218 hb218 hbe218 hbf218
                      have hw218 := hbe218 wd G189 H212.1.be
                      refine hK.out _ _ ⟨⟨H212.1.k1, H212.1.k2, H212.1.k3, hw218⟩, hbf218 _ _ _ hfg H212.2⟩ (fun _ => ?rs218)
                      clear hK K
                      try simp only [Act.put]
                      refine wpAnyH_done (by kernel_rfl) ?_ _
                      refine NoPanic.normal ?_
                      go_wp2_with fail
                      go_meet
                      exact Lib.hid ⟨gk, _, rfl, Nat.le_trans hdr G189, hb218, hdb.trans (hw218.mono hdb.size), rfl⟩
                    exact AllReadyH.nil
                  exact AllReadyH.nil
                refine AllReadyH.cons (o := ?o219) ?hi219 (fun K hK => ?st219) ?mo219
                case hi219 => (simp only [List.getElem?_toArray, List.getElem?_cons_succ, List.getElem?_cons_zero]; try rfl)
                case st219 =>
                  go_simp
                  go_at_call 10
                  refine (hW6 _).mono ?_
                  rintro e wz ⟨rfl, rfl⟩
                  try dsimp only
                  refine hK.out _ _ H200 (fun _ => ?rs219)
                  clear hK K
                  try simp only [Act.put, List.setIfInBounds_toArray, List.set_cons_zero, List.set_cons_succ]
                  refine wpAnyH_take (i := 28) (oi := ?oi220) (v := ?v220) ?hi220 (by kernel_rfl) (by kernel_rfl) (by kernel_rfl) (fun _ _ _ h => h) ?hy220 H200 ?rest220
                  case hi220 => (simp only [List.getElem?_toArray, List.getElem?_cons_succ, List.getElem?_cons_zero]; try rfl)
                  case hy220 => (refine Or.inl ⟨by rfl, ?_⟩; intro w hSw; go_simp; (try with_reducible rfl))
                  try simp only [Act.put, List.setIfInBounds_toArray, List.set_cons_zero, List.set_cons_succ]
                  refine wpAnyH_ready (rs := [0]) (by kernel_rfl) (by simp) ?_
                  refine AllReadyH.cons (o := ?o221) ?hi221 (fun K hK => ?st221) ?mo221
                  case hi221 => (simp only [List.getElem?_toArray, List.getElem?_cons_zero]; try rfl)
                  case st221 =>
                    obtain ⟨W221, e221⟩ : ∃ w7, w7 = W200.alloc (.cells #[.string ⟨#[102]⟩, .string ⟨#[103]⟩] 9) := ⟨_, rfl⟩
                    obtain ⟨fb, s221⟩ : ∃ g, g = W200.heap.size := ⟨_, rfl⟩
                    have hb221 : Below W200.heap.size W200 W221 := by rw [e221]; exact (Below.refl _ _).alloc (Nat.le_refl _) _
                    have N221 : Blk W221 fb 9 #[.string ⟨#[102]⟩, .string ⟨#[103]⟩] := by rw [e221, s221]; exact Blk.new _ _ _
                    have H221 : MhS wd (ad1.add i) (ad2.add i) (ad3.add i) x y z W221 ∧ Blk W221 fb 9 #[.string ⟨#[102]⟩, .string ⟨#[103]⟩] := ⟨H200.below hb221, N221⟩
                    have Z221 := Z200.below hb221 Z200.lt
                    go_simp
                    rw [← e221, ← s221]
                    clear e221 s221 hb221
                    refine hK.out _ _ H221.1 (fun _ => ?rs221)
                    clear hK K
                    try simp only [Act.put, List.setIfInBounds_toArray, List.set_cons_zero, List.set_cons_succ]
                    refine wpAnyH_mono (S' := fun wa => MhS wd (ad1.add i) (ad2.add i) (ad3.add i) x y z wa ∧ Blk wa fb 9 #[.string ⟨#[102]⟩, .string ⟨#[103]⟩]) (fun _ h => h.1) _ _ _ _ ?_
                    refine wpAnyH_take (i := 7) (oi := ?oi222) (v := ?v222) ?hi222 (by kernel_rfl) (by kernel_rfl) (by kernel_rfl) (fun _ _ _ h => h) ?hy222 H221 ?rest222
                    case hi222 => (simp only [List.getElem?_toArray, List.getElem?_cons_succ, List.getElem?_cons_zero]; try rfl)
                    case hy222 => (refine Or.inl ⟨by rfl, ?_⟩; intro w hSw; go_simp; (try with_reducible rfl))
                    try simp only [Act.put, List.setIfInBounds_toArray, List.set_cons_zero, List.set_cons_succ]
                    refine wpAnyH_take (i := 8) (oi := ?oi223) (v := ?v223) ?hi223 (by kernel_rfl) (by kernel_rfl) (by kernel_rfl) (fun _ _ _ h => h) ?hy223 H221 ?rest223
                    case hi223 => (simp only [List.getElem?_toArray, List.getElem?_cons_succ, List.getElem?_cons_zero]; try rfl)
                    case hy223 => (refine Or.inl ⟨by rfl, ?_⟩; intro w hSw; have q := (hSw.2.cell qn).trans hG; go_simp; (try with_reducible rfl))
                    try simp only [Act.put, List.setIfInBounds_toArray, List.set_cons_zero, List.set_cons_succ]
                    clear hG
                    refine wpAnyH_take (i := 29) (oi := ?oi224) (v := ?v224) ?hi224 (by kernel_rfl) (by kernel_rfl) (by kernel_rfl) (fun _ _ _ h => h) ?hy224 H221 ?rest224
                    case hi224 => (simp only [List.getElem?_toArray, List.getElem?_cons_succ, List.getElem?_cons_zero]; try rfl)
                    case hy224 => (refine yields_build (cells := #[.int .i64 11, .string G, .string ⟨#[]⟩, .string TT, .int .i64 0, .int .i64 st, .int .i64 nu, .int .i64 ep, .slice none 0 0]) 30 ?pa224 ?ho224 ?hg224 ?hf224; (case ho224 => rfl); (case hg224 => rfl); (case hf224 => simp [Act.eval]; exact built_msg _ _ _ _ _))
                    try simp only [Act.put, List.setIfInBounds_toArray, List.set_cons_zero, List.set_cons_succ]
                    refine wpAnyH_ready (rs := [31]) (by kernel_rfl) (by simp) ?_
                    refine AllReadyH.cons (o := ?o225) ?hi225 (fun K hK => ?st225) ?mo225
                    case hi225 => (simp only [List.getElem?_toArray, List.getElem?_cons_succ, List.getElem?_cons_zero]; try rfl)
                    case st225 =>
                      have hfg : fb ≠ gk := H221.2.ne_ Z221 (by decide)
                      refine store_msg (k := 11) (f := G) (e := ⟨#[]⟩) (t := TT) (n := 0) (st := st) (nu := nu) (ep := ep) rfl rfl (by simp [Act.eval]; done) (by simp [Act.eval]; done) Z221 rfl ?_
                      intro w225 hb225 hbe225 hbf225
                      have hw225 := hbe225 wd G189 H221.1.be
                      refine hK.out _ _ ⟨⟨H221.1.k1, H221.1.k2, H221.1.k3, hw225⟩, hbf225 _ _ _ hfg H221.2⟩ (fun _ => ?rs225)
                      clear hK K
                      try simp only [Act.put]
                      refine wpAnyH_done (by kernel_rfl) ?_ _
                      refine NoPanic.normal ?_
                      go_wp2_with fail
                      go_meet
                      exact Lib.hid ⟨gk, _, rfl, Nat.le_trans hdr G189, hb225, hdb.trans (hw225.mono hdb.size), rfl⟩
                    exact AllReadyH.nil
                  exact AllReadyH.nil
                exact AllReadyH.nil
              exact AllReadyH.nil
            exact AllReadyH.nil
          exact AllReadyH.nil
        refine AllReadyH.cons (o := ?o226) ?hi226 (fun K hK => ?st226) ?mo226
        case hi226 => (simp only [List.getElem?_toArray, List.getElem?_cons_succ, List.getElem?_cons_zero]; try rfl)
        case st226 =>
          obtain ⟨W226, e226⟩ : ∃ w7, w7 = wd.alloc (.cells #[.int .i64 0, .string ⟨#[]⟩, .string ⟨#[]⟩, .string ⟨#[]⟩, .int .i64 0, .int .i64 0, .int .i64 0, .int .i64 0, .slice none 0 0] 30) := ⟨_, rfl⟩
          obtain ⟨gk, s226⟩ : ∃ g, g = wd.heap.size := ⟨_, rfl⟩
          have hb226 : Below wd.heap.size wd W226 := by rw [e226]; exact (Below.refl _ _).alloc (Nat.le_refl _) _
          have N226 : Blk W226 gk 30 #[.int .i64 0, .string ⟨#[]⟩, .string ⟨#[]⟩, .string ⟨#[]⟩, .int .i64 0, .int .i64 0, .int .i64 0, .int .i64 0, .slice none 0 0] := by rw [e226, s226]; exact Blk.new _ _ _
          have G226 : wd.heap.size ≤ gk := by rw [s226]; exact H0.be.size
          have H226 : MhS wd (ad1.add i) (ad2.add i) (ad3.add i) x y z W226 := H0.below hb226
          go_simp
          rw [← e226, ← s226]
          clear e226 s226 hb226
          refine hK.out _ _ H226 (fun _ => ?rs226)
          clear hK K
          try simp only [Act.put, List.setIfInBounds_toArray, List.set_cons_zero, List.set_cons_succ]
          refine wpAnyH_ready (rs := [0, 6]) (by kernel_rfl) (by simp) ?_
          refine AllReadyH.cons (o := ?o227) ?hi227 (fun K hK => ?st227) ?mo227
          case hi227 => (simp only [List.getElem?_toArray, List.getElem?_cons_zero]; try rfl)
          case st227 =>
            obtain ⟨W227, e227⟩ : ∃ w7, w7 = W226.alloc (.cells #[.string ⟨#[102]⟩, .string ⟨#[103]⟩] 9) := ⟨_, rfl⟩
            obtain ⟨fb, s227⟩ : ∃ g, g = W226.heap.size := ⟨_, rfl⟩
            have hb227 : Below W226.heap.size W226 W227 := by rw [e227]; exact (Below.refl _ _).alloc (Nat.le_refl _) _
            have N227 : Blk W227 fb 9 #[.string ⟨#[102]⟩, .string ⟨#[103]⟩] := by rw [e227, s227]; exact Blk.new _ _ _
            have H227 : MhS wd (ad1.add i) (ad2.add i) (ad3.add i) x y z W227 ∧ Blk W227 fb 9 #[.string ⟨#[102]⟩, .string ⟨#[103]⟩] := ⟨H226.below hb227, N227⟩
            have Z227 := N226.below hb227 N226.lt
            go_simp
            rw [← e227, ← s227]
            clear e227 s227 hb227
            refine hK.out _ _ H227.1 (fun _ => ?rs227)
            clear hK K
            try simp only [Act.put, List.setIfInBounds_toArray, List.set_cons_zero, List.set_cons_succ]
            refine wpAnyH_mono (S' := fun wa => MhS wd (ad1.add i) (ad2.add i) (ad3.add i) x y z wa ∧ Blk wa fb 9 #[.string ⟨#[102]⟩, .string ⟨#[103]⟩]) (fun _ h => h.1) _ _ _ _ ?_
            refine wpAnyH_ready (rs := [6]) (by kernel_rfl) (by simp) ?_
            refine AllReadyH.cons (o := ?o228) ?hi228 (fun K hK => ?st228) ?mo228
            case hi228 => (simp only [List.getElem?_toArray, List.getElem?_cons_succ, List.getElem?_cons_zero]; try rfl)
            case st228 =>
              go_simp
              go_at_call 10
              refine (hW2 _).mono ?_
              rintro e wz ⟨rfl, rfl⟩
              try dsimp only
              refine hK.out _ _ H227 (fun _ => ?rs228)
              clear hK K
              try simp only [Act.put, List.setIfInBounds_toArray, List.set_cons_zero, List.set_cons_succ]
              refine wpAnyH_take (i := 7) (oi := ?oi229) (v := ?v229) ?hi229 (by kernel_rfl) (by kernel_rfl) (by kernel_rfl) (fun _ _ _ h => h) ?hy229 H227 ?rest229
              case hi229 => (simp only [List.getElem?_toArray, List.getElem?_cons_succ, List.getElem?_cons_zero]; try rfl)
              case hy229 => (refine Or.inl ⟨by rfl, ?_⟩; intro w hSw; go_simp; (try with_reducible rfl))
              try simp only [Act.put, List.setIfInBounds_toArray, List.set_cons_zero, List.set_cons_succ]
              refine wpAnyH_take (i := 8) (oi := ?oi230) (v := ?v230) ?hi230 (by kernel_rfl) (by kernel_rfl) (by kernel_rfl) (fun _ _ _ h => h) ?hy230 H227 ?rest230
              case hi230 => (simp only [List.getElem?_toArray, List.getElem?_cons_succ, List.getElem?_cons_zero]; try rfl)
              case hy230 => (refine Or.inl ⟨by rfl, ?_⟩; intro w hSw; have q := (hSw.2.cell qn).trans hG; go_simp; (try with_reducible rfl))
              try simp only [Act.put, List.setIfInBounds_toArray, List.set_cons_zero, List.set_cons_succ]
              clear hG
              refine wpAnyH_ready (rs := [13]) (by kernel_rfl) (by simp) ?_
              refine AllReadyH.cons (o := ?o231) ?hi231 (fun K hK => ?st231) ?mo231
              case hi231 => (simp only [List.getElem?_toArray, List.getElem?_cons_succ, List.getElem?_cons_zero]; try rfl)
              case st231 =>
                go_simp
                go_at_call 16
                refine (hTk _).mono ?_
                rintro e W231 ⟨rfl, hb231⟩
                have H231 : MhS wd (ad1.add i) (ad2.add i) (ad3.add i) x y z W231 ∧ Blk W231 fb 9 #[.string ⟨#[102]⟩, .string ⟨#[103]⟩] := ⟨H227.1.below hb231, H227.2.below hb231 H227.2.lt⟩
                have Z231 := Z227.below hb231 Z227.lt
                clear hb231
                try dsimp only
                refine hK.out _ _ H231 (fun _ => ?rs231)
                clear hK K
                try simp only [Act.put, List.setIfInBounds_toArray, List.set_cons_zero, List.set_cons_succ]
                refine wpAnyH_ready (rs := [18]) (by kernel_rfl) (by simp) ?_
                refine AllReadyH.cons (o := ?o232) ?hi232 (fun K hK => ?st232) ?mo232
                case hi232 => (simp only [List.getElem?_toArray, List.getElem?_cons_succ, List.getElem?_cons_zero]; try rfl)
                case st232 =>
                  go_simp
                  go_at_call 10
                  refine (hW3 _).mono ?_
                  rintro e wz ⟨rfl, rfl⟩
                  try dsimp only
                  refine hK.out _ _ H231 (fun _ => ?rs232)
                  clear hK K
                  try simp only [Act.put, List.setIfInBounds_toArray, List.set_cons_zero, List.set_cons_succ]
                  refine wpAnyH_take (i := 19) (oi := ?oi233) (v := ?v233) ?hi233 (by kernel_rfl) (by kernel_rfl) (by kernel_rfl) (fun _ _ _ h => h) ?hy233 H231 ?rest233
                  case hi233 => (simp only [List.getElem?_toArray, List.getElem?_cons_succ, List.getElem?_cons_zero]; try rfl)
                  case hy233 => (refine Or.inl ⟨by rfl, ?_⟩; intro w hSw; go_simp; (try with_reducible rfl))
                  try simp only [Act.put, List.setIfInBounds_toArray, List.set_cons_zero, List.set_cons_succ]
                  refine wpAnyH_ready (rs := [27]) (by kernel_rfl) (by simp) ?_
                  refine AllReadyH.cons (o := ?o234) ?hi234 (fun K hK => ?st234) ?mo234
                  case hi234 => (simp only [List.getElem?_toArray, List.getElem?_cons_succ, List.getElem?_cons_zero]; try rfl)
                  case st234 =>
                    go_simp
                    go_at_call 10
                    refine (hW6 _).mono ?_
                    rintro e wz ⟨rfl, rfl⟩
                    try dsimp only
                    refine hK.out _ _ H231 (fun _ => ?rs234)
                    clear hK K
                    try simp only [Act.put, List.setIfInBounds_toArray, List.set_cons_zero, List.set_cons_succ]
                    refine wpAnyH_take (i := 28) (oi := ?oi235) (v := ?v235) ?hi235 (by kernel_rfl) (by kernel_rfl) (by kernel_rfl) (fun _ _ _ h => h) ?hy235 H231 ?rest235
                    case hi235 => (simp only [List.getElem?_toArray, List.getElem?_cons_succ, List.getElem?_cons_zero]; try rfl)
                    case hy235 => (refine Or.inl ⟨by rfl, ?_⟩; intro w hSw; go_simp; (try with_reducible rfl))
                    try simp only [Act.put, List.setIfInBounds_toArray, List.set_cons_zero, List.set_cons_succ]
                    refine wpAnyH_take (i := 29) (oi := ?oi236) (v := ?v236) ?hi236 (by kernel_rfl) (by kernel_rfl) (by kernel_rfl) (fun _ _ _ h => h) ?hy236 H231 ?rest236
                    case hi236 => (simp only [List.getElem?_toArray, List.getElem?_cons_succ, List.getElem?_cons_zero]; try rfl)
                    case hy236 => (refine yields_build (cells := #[.int .i64 11, .string G, .string ⟨#[]⟩, .string TT, .int .i64 0, .int .i64 st, .int .i64 nu, .int .i64 ep, .slice none 0 0]) 30 ?pa236 ?ho236 ?hg236 ?hf236; (case ho236 => rfl); (case hg236 => rfl); (case hf236 => simp [Act.eval]; exact built_msg _ _ _ _ _))
                    try simp only [Act.put, List.setIfInBounds_toArray, List.set_cons_zero, List.set_cons_succ]
                    refine wpAnyH_ready (rs := [31]) (by kernel_rfl) (by simp) ?_
                    refine AllReadyH.cons (o := ?o237) ?hi237 (fun K hK => ?st237) ?mo237
                    case hi237 => (simp only [List.getElem?_toArray, List.getElem?_cons_succ, List.getElem?_cons_zero]; try rfl)
                    case st237 =>
                      have hfg : fb ≠ gk := H231.2.ne_ Z231 (by decide)
                      refine store_msg (k := 11) (f := G) (e := ⟨#[]⟩) (t := TT) (n := 0) (st := st) (nu := nu) (ep := ep) rfl rfl (by simp [Act.eval]; done) (by simp [Act.eval]; done) Z231 rfl ?_
                      intro w237 hb237 hbe237 hbf237
                      have hw237 := hbe237 wd G226 H231.1.be
                      refine hK.out _ _ ⟨⟨H231.1.k1, H231.1.k2, H231.1.k3, hw237⟩, hbf237 _ _ _ hfg H231.2⟩ (fun _ => ?rs237)
                      clear hK K
                      try simp only [Act.put]
                      refine wpAnyH_done (by kernel_rfl) ?_ _
                      refine NoPanic.normal ?_
                      go_wp2_with fail
                      go_meet
                      exact Lib.hid ⟨gk, _, rfl, Nat.le_trans hdr G226, hb237, hdb.trans (hw237.mono hdb.size), rfl⟩
                    exact AllReadyH.nil
                  exact AllReadyH.nil
                exact AllReadyH.nil
              exact AllReadyH.nil
            exact AllReadyH.nil
          refine AllReadyH.cons (o := ?o238) ?hi238 (fun K hK => ?st238) ?mo238
          case hi238 => (simp only [List.getElem?_toArray, List.getElem?_cons_succ, List.getElem?_cons_zero]; try rfl)
          case st238 =>
            go_simp
            go_at_call 10
            refine (hW2 _).mono ?_
            rintro e wz ⟨rfl, rfl⟩
            try dsimp only
            refine hK.out _ _ H226 (fun _ => ?rs238)
            clear hK K
            try simp only [Act.put, List.setIfInBounds_toArray, List.set_cons_zero, List.set_cons_succ]
            refine wpAnyH_ready (rs := [0, 13]) (by kernel_rfl) (by simp) ?_
            refine AllReadyH.cons (o := ?o239) ?hi239 (fun K hK => ?st239) ?mo239
            case hi239 => (simp only [List.getElem?_toArray, List.getElem?_cons_zero]; try rfl)
            case st239 =>
              obtain ⟨W239, e239⟩ : ∃ w7, w7 = W226.alloc (.cells #[.string ⟨#[102]⟩, .string ⟨#[103]⟩] 9) := ⟨_, rfl⟩
              obtain ⟨fb, s239⟩ : ∃ g, g = W226.heap.size := ⟨_, rfl⟩
              have hb239 : Below W226.heap.size W226 W239 := by rw [e239]; exact (Below.refl _ _).alloc (Nat.le_refl _) _
              have N239 : Blk W239 fb 9 #[.string ⟨#[102]⟩, .string ⟨#[103]⟩] := by rw [e239, s239]; exact Blk.new _ _ _
              have H239 : MhS wd (ad1.add i) (ad2.add i) (ad3.add i) x y z W239 ∧ Blk W239 fb 9 #[.string ⟨#[102]⟩, .string ⟨#[103]⟩] := ⟨H226.below hb239, N239⟩
              have Z239 := N226.below hb239 N226.lt
              go_simp
              rw [← e239, ← s239]
              clear e239 s239 hb239
              refine hK.out _ _ H239.1 (fun _ => ?rs239)
              clear hK K
              try simp only [Act.put, List.setIfInBounds_toArray, List.set_cons_zero, List.set_cons_succ]
              refine wpAnyH_mono (S' := fun wa => MhS wd (ad1.add i) (ad2.add i) (ad3.add i) x y z wa ∧ Blk wa fb 9 #[.string ⟨#[102]⟩, .string ⟨#[103]⟩]) (fun _ h => h.1) _ _ _ _ ?_
              refine wpAnyH_take (i := 7) (oi := ?oi240) (v := ?v240) ?hi240 (by kernel_rfl) (by kernel_rfl) (by kernel_rfl) (fun _ _ _ h => h) ?hy240 H239 ?rest240
              case hi240 => (simp only [List.getElem?_toArray, List.getElem?_cons_succ, List.getElem?_cons_zero]; try rfl)
              case hy240 => (refine Or.inl ⟨by rfl, ?_⟩; intro w hSw; go_simp; (try with_reducible rfl))
              try simp only [Act.put, List.setIfInBounds_toArray, List.set_cons_zero, List.set_cons_succ]
              refine wpAnyH_take (i := 8) (oi := ?oi241) (v := ?v241) ?hi241 (by kernel_rfl) (by kernel_rfl) (by kernel_rfl) (fun _ _ _ h => h) ?hy241 H239 ?rest241
              case hi241 => (simp only [List.getElem?_toArray, List.getElem?_cons_succ, List.getElem?_cons_zero]; try rfl)
              case hy241 => (refine Or.inl ⟨by rfl, ?_⟩; intro w hSw; have q := (hSw.2.cell qn).trans hG; go_simp; (try with_reducible rfl))
              try simp only [Act.put, List.setIfInBounds_toArray, List.set_cons_zero, List.set_cons_succ]
              clear hG
              refine wpAnyH_ready (rs := [13]) (by kernel_rfl) (by simp) ?_
              refine AllReadyH.cons (o := ?o242) ?hi242 (fun K hK => ?st242) ?mo242
              case hi242 => (simp only [List.getElem?_toArray, List.getElem?_cons_succ, List.getElem?_cons_zero]; try rfl)
              case st242 =>
                go_simp
                go_at_call 16
                refine (hTk _).mono ?_
                rintro e W242 ⟨rfl, hb242⟩
                have H242 : MhS wd (ad1.add i) (ad2.add i) (ad3.add i) x y z W242 ∧ Blk W242 fb 9 #[.string ⟨#[102]⟩, .string ⟨#[103]⟩] := ⟨H239.1.below hb242, H239.2.below hb242 H239.2.lt⟩
                have Z242 := Z239.below hb242 Z239.lt
                clear hb242
                try dsimp only
                refine hK.out _ _ H242 (fun _ => ?rs242)
                clear hK K
                try simp only [Act.put, List.setIfInBounds_toArray, List.set_cons_zero, List.set_cons_succ]
                refine wpAnyH_ready (rs := [18]) (by kernel_rfl) (by simp) ?_
                refine AllReadyH.cons (o := ?o243) ?hi243 (fun K hK => ?st243) ?mo243
                case hi243 => (simp only [List.getElem?_toArray, List.getElem?_cons_succ, List.getElem?_cons_zero]; try rfl)
                case st243 =>
                  go_simp
                  go_at_call 10
                  refine (hW3 _).mono ?_
                  rintro e wz ⟨rfl, rfl⟩
                  try dsimp only
                  refine hK.out _ _ H242 (fun _ => ?rs243)
                  clear hK K
                  try simp only [Act.put, List.setIfInBounds_toArray, List.set_cons_zero, List.set_cons_succ]
                  refine wpAnyH_take (i := 19) (oi := ?oi244) (v := ?v244) ?hi244 (by kernel_rfl) (by kernel_rfl) (by kernel_rfl) (fun _ _ _ h => h) ?hy244 H242 ?rest244
                  case hi244 => (simp only [List.getElem?_toArray, List.getElem?_cons_succ, List.getElem?_cons_zero]; try rfl)
                  case hy244 => (refine Or.inl ⟨by rfl, ?_⟩; intro w hSw; go_simp; (try with_reducible rfl))
                  try simp only [Act.put, List.setIfInBounds_toArray, List.set_cons_zero, List.set_cons_succ]
                  refine wpAnyH_ready (rs := [27]) (by kernel_rfl) (by simp) ?_
                  refine AllReadyH.cons (o := ?o245) ?hi245 (fun K hK => ?st245) ?mo245
                  case hi245 => (simp only [List.getElem?_toArray, List.getElem?_cons_succ, List.getElem?_cons_zero]; try rfl)
                  case st245 =>
                    go_simp
                    go_at_call 10
                    refine (hW6 _).mono ?_
                    rintro e wz ⟨rfl, rfl⟩
                    try dsimp only
                    refine hK.out _ _ H242 (fun _ => ?rs245)
                    clear hK K
                    try simp only [Act.put, List.setIfInBounds_toArray, List.set_cons_zero, List.set_cons_succ]
                    refine wpAnyH_take (i := 28) (oi := ?oi246) (v := ?v246) ?hi246 (by kernel_rfl) (by kernel_rfl) (by kernel_rfl) (fun _ _ _ h => h) ?hy246 H242 ?rest246
                    case hi246 => (simp only [List.getElem?_toArray, List.getElem?_cons_succ, List.getElem?_cons_zero]; try rfl)
                    case hy246 => (refine Or.inl ⟨by rfl, ?_⟩; intro w hSw; go_simp; (try with_reducible rfl))
                    try simp only [Act.put, List.setIfInBounds_toArray, List.set_cons_zero, List.set_cons_succ]
                    refine wpAnyH_take (i := 29) (oi := ?oi247) (v := ?v247) ?hi247 (by kernel_rfl) (by kernel_rfl) (by kernel_rfl) (fun _ _ _ h => h) ?hy247 H242 ?rest247
                    case hi247 => (simp only [List.getElem?_toArray, List.getElem?_cons_succ, List.getElem?_cons_zero]; try rfl)
                    case hy247 => (refine yields_build (cells := #[.int .i64 11, .string G, .string ⟨#[]⟩, .string TT, .int .i64 0, .int .i64 st, .int .i64 nu, .int .i64 ep, .slice none 0 0]) 30 ?pa247 ?ho247 ?hg247 ?hf247; (case ho247 => rfl); (case hg247 => rfl); (case hf247 => simp [Act.eval]; exact built_msg _ _ _ _ _))
                    try simp only [Act.put, List.setIfInBounds_toArray, List.set_cons_zero, List.set_cons_succ]
                    refine wpAnyH_ready (rs := [31]) (by kernel_rfl) (by simp) ?_
                    refine AllReadyH.cons (o := ?o248) ?hi248 (fun K hK => ?st248) ?mo248
                    case hi248 => (simp only [List.getElem?_toArray, List.getElem?_cons_succ, List.getElem?_cons_zero]; try rfl)
                    case st248 =>
                      have hfg : fb ≠ gk := H242.2.ne_ Z242 (by decide)
                      refine store_msg (k := 11) (f := G) (e := ⟨#[]⟩) (t := TT) (n := 0) (st := st) (nu := nu) (ep := ep) rfl rfl (by simp [Act.eval]; done) (by simp [Act.eval]; done) Z242 rfl ?_
                      intro w248 hb248 hbe248 hbf248
                      have hw248 := hbe248 wd G226 H242.1.be
                      refine hK.out _ _ ⟨⟨H242.1.k1, H242.1.k2, H242.1.k3, hw248⟩, hbf248 _ _ _ hfg H242.2⟩ (fun _ => ?rs248)
                      clear hK K
                      try simp only [Act.put]
                      refine wpAnyH_done (by kernel_rfl) ?_ _
                      refine NoPanic.normal ?_
                      go_wp2_with fail
                      go_meet
                      exact Lib.hid ⟨gk, _, rfl, Nat.le_trans hdr G226, hb248, hdb.trans (hw248.mono hdb.size), rfl⟩
                    exact AllReadyH.nil
                  exact AllReadyH.nil
                exact AllReadyH.nil
              exact AllReadyH.nil
            refine AllReadyH.cons (o := ?o249) ?hi249 (fun K hK => ?st249) ?mo249
            case hi249 => (simp only [List.getElem?_toArray, List.getElem?_cons_succ, List.getElem?_cons_zero]; try rfl)
            case st249 =>
              go_simp
              go_at_call 16
              refine (hTk _).mono ?_
              rintro e W249 ⟨rfl, hb249⟩
              have H249 : MhS wd (ad1.add i) (ad2.add i) (ad3.add i) x y z W249 := H226.below hb249
              have Z249 := N226.below hb249 N226.lt
              clear hb249
              try dsimp only
              refine hK.out _ _ H249 (fun _ => ?rs249)
              clear hK K
              try simp only [Act.put, List.setIfInBounds_toArray, List.set_cons_zero, List.set_cons_succ]
              refine wpAnyH_ready (rs := [0, 18]) (by kernel_rfl) (by simp) ?_
              refine AllReadyH.cons (o := ?o250) ?hi250 (fun K hK => ?st250) ?mo250
              case hi250 => (simp only [List.getElem?_toArray, List.getElem?_cons_zero]; try rfl)
              case st250 =>
                obtain ⟨W250, e250⟩ : ∃ w7, w7 = W249.alloc (.cells #[.string ⟨#[102]⟩, .string ⟨#[103]⟩] 9) := ⟨_, rfl⟩
                obtain ⟨fb, s250⟩ : ∃ g, g = W249.heap.size := ⟨_, rfl⟩
                have hb250 : Below W249.heap.size W249 W250 := by rw [e250]; exact (Below.refl _ _).alloc (Nat.le_refl _) _
                have N250 : Blk W250 fb 9 #[.string ⟨#[102]⟩, .string ⟨#[103]⟩] := by rw [e250, s250]; exact Blk.new _ _ _
                have H250 : MhS wd (ad1.add i) (ad2.add i) (ad3.add i) x y z W250 ∧ Blk W250 fb 9 #[.string ⟨#[102]⟩, .string ⟨#[103]⟩] := ⟨H249.below hb250, N250⟩
                have Z250 := Z249.below hb250 Z249.lt
                go_simp
                rw [← e250, ← s250]
                clear e250 s250 hb250
                refine hK.out _ _ H250.1 (fun _ => ?rs250)
                clear hK K
                try simp only [Act.put, List.setIfInBounds_toArray, List.set_cons_zero, List.set_cons_succ]
                refine wpAnyH_mono (S' := fun wa => MhS wd (ad1.add i) (ad2.add i) (ad3.add i) x y z wa ∧ Blk wa fb 9 #[.string ⟨#[102]⟩, .string ⟨#[103]⟩]) (fun _ h => h.1) _ _ _ _ ?_
                refine wpAnyH_take (i := 7) (oi := ?oi251) (v := ?v251) ?hi251 (by kernel_rfl) (by kernel_rfl) (by kernel_rfl) (fun _ _ _ h => h) ?hy251 H250 ?rest251
                case hi251 => (simp only [List.getElem?_toArray, List.getElem?_cons_succ, List.getElem?_cons_zero]; try rfl)
                case hy251 => (refine Or.inl ⟨by rfl, ?_⟩; intro w hSw; go_simp; (try with_reducible rfl))
                try simp only [Act.put, List.setIfInBounds_toArray, List.set_cons_zero, List.set_cons_succ]
                refine wpAnyH_take (i := 8) (oi := ?oi252) (v := ?v252) ?hi252 (by kernel_rfl) (by kernel_rfl) (by kernel_rfl) (fun _ _ _ h => h) ?hy252 H250 ?rest252
                case hi252 => (simp only [List.getElem?_toArray, List.getElem?_cons_succ, List.getElem?_cons_zero]; try rfl)
                case hy252 => (refine Or.inl ⟨by rfl, ?_⟩; intro w hSw; have q := (hSw.2.cell qn).trans hG; go_simp; (try with_reducible rfl))
                try simp only [Act.put, List.setIfInBounds_toArray, List.set_cons_zero, List.set_cons_succ]
                clear hG
                refine wpAnyH_ready (rs := [18]) (by kernel_rfl) (by simp) ?_
                refine AllReadyH.cons (o := ?o253) ?hi253 (fun K hK => ?st253) ?mo253
                case hi253 => (simp only [List.getElem?_toArray, List.getElem?_cons_succ, List.getElem?_cons_zero]; try rfl)
                case st253 =>
                  go_simp
                  go_at_call 10
                  refine (hW3 _).mono ?_
                  rintro e wz ⟨rfl, rfl⟩
                  try dsimp only
                  refine hK.out _ _ H250 (fun _ => ?rs253)
                  clear hK K
                  try simp only [Act.put, List.setIfInBounds_toArray, List.set_cons_zero, List.set_cons_succ]
                  refine wpAnyH_take (i := 19) (oi := ?oi254) (v := ?v254) ?hi254 (by kernel_rfl) (by kernel_rfl) (by kernel_rfl) (fun _ _ _ h => h) ?hy254 H250 ?rest254
                  case hi254 => (simp only [List.getElem?_toArray, List.getElem?_cons_succ, List.getElem?_cons_zero]; try rfl)
                  case hy254 => (refine Or.inl ⟨by rfl, ?_⟩; intro w hSw; go_simp; (try with_reducible rfl))
                  try simp only [Act.put, List.setIfInBounds_toArray, List.set_cons_zero, List.set_cons_succ]
                  refine wpAnyH_ready (rs := [27]) (by kernel_rfl) (by simp) ?_
                  refine AllReadyH.cons (o := ?o255) ?hi255 (fun K hK => ?st255) ?mo255
                  case hi255 => (simp only [List.getElem?_toArray, List.getElem?_cons_succ, List.getElem?_cons_zero]; try rfl)
                  case st255 =>
                    go_simp
                    go_at_call 10
                    refine (hW6 _).mono ?_
                    rintro e wz ⟨rfl, rfl⟩
                    try dsimp only
                    refine hK.out _ _ H250 (fun _ => ?rs255)
                    clear hK K
                    try simp only [Act.put, List.setIfInBounds_toArray, List.set_cons_zero, List.set_cons_succ]
                    refine wpAnyH_take (i := 28) (oi := ?oi256) (v := ?v256) ?hi256 (by kernel_rfl) (by kernel_rfl) (by kernel_rfl) (fun _ _ _ h => h) ?hy256 H250 ?rest256
                    case hi256 => (simp only [List.getElem?_toArray, List.getElem?_cons_succ, List.getElem?_cons_zero]; try rfl)
                    case hy256 => (refine Or.inl ⟨by rfl, ?_⟩; intro w hSw; go_simp; (try with_reducible rfl))
                    try simp only [Act.put, List.setIfInBounds_toArray, List.set_cons_zero, List.set_cons_succ]
                    refine wpAnyH_take (i := 29) (oi := ?oi257) (v := ?v257) ?hi257 (by kernel_rfl) (by kernel_rfl) (by kernel_rfl) (fun _ _ _ h => h) ?hy257 H250 ?rest257
                    case hi257 => (simp only [List.getElem?_toArray, List.getElem?_cons_succ, List.getElem?_cons_zero]; try rfl)
                    case hy257 => (refine yields_build (cells := #[.int .i64 11, .string G, .string ⟨#[]⟩, .string TT, .int .i64 0, .int .i64 st, .int .i64 nu, .int .i64 ep, .slice none 0 0]) 30 ?pa257 ?ho257 ?hg257 ?hf257; (case ho257 => rfl); (case hg257 => rfl); (case hf257 => simp [Act.eval]; exact built_msg _ _ _ _ _))
                    try simp only [Act.put, List.setIfInBounds_toArray, List.set_cons_zero, List.set_cons_succ]
                    refine wpAnyH_ready (rs := [31]) (by kernel_rfl) (by simp) ?_
                    refine AllReadyH.cons (o := ?o258) ?hi258 (fun K hK => ?st258) ?mo258
                    case hi258 => (simp only [List.getElem?_toArray, List.getElem?_cons_succ, List.getElem?_cons_zero]; try rfl)
                    case st258 =>
                      have hfg : fb ≠ gk := H250.2.ne_ Z250 (by decide)
                      refine store_msg (k := 11) (f := G) (e := ⟨#[]⟩) (t := TT) (n := 0) (st := st) (nu := nu) (ep := ep) rfl rfl (by simp [Act.eval]; done) (by simp [Act.eval]; done) Z250 rfl ?_
                      intro w258 hb258 hbe258 hbf258
                      have hw258 := hbe258 wd G226 H250.1.be
                      refine hK.out _ _ ⟨⟨H250.1.k1, H250.1.k2, H250.1.k3, hw258⟩, hbf258 _ _ _ hfg H250.2⟩ (fun _ => ?rs258)
                      clear hK K
                      try simp only [Act.put]
                      refine wpAnyH_done (by kernel_rfl) ?_ _
                      refine NoPanic.normal ?_
                      go_wp2_with fail
                      go_meet
                      exact Lib.hid ⟨gk, _, rfl, Nat.le_trans hdr G226, hb258, hdb.trans (hw258.mono hdb.size), rfl⟩
                    exact AllReadyH.nil
                  exact AllReadyH.nil
                exact AllReadyH.nil
              refine AllReadyH.cons (o := ?o259) ?hi259 (fun K hK => ?st259) ?mo259
              case hi259 => (simp only [List.getElem?_toArray, List.getElem?_cons_succ, List.getElem?_cons_zero]; try rfl)
              case st259 =>
                go_simp
                go_at_call 10
                refine (hW3 _).mono ?_
                rintro e wz ⟨rfl, rfl⟩
                try dsimp only
                refine hK.out _ _ H249 (fun _ => ?rs259)
                clear hK K
                try simp only [Act.put, List.setIfInBounds_toArray, List.set_cons_zero, List.set_cons_succ]
                refine wpAnyH_take (i := 19) (oi := ?oi260) (v := ?v260) ?hi260 (by kernel_rfl) (by kernel_rfl) (by kernel_rfl) (fun _ _ _ h => h) ?hy260 H249 ?rest260
                case hi260 => (simp only [List.getElem?_toArray, List.getElem?_cons_succ, List.getElem?_cons_zero]; try rfl)
                case hy260 => (refine Or.inl ⟨by rfl, ?_⟩; intro w hSw; go_simp; (try with_reducible rfl))
                try simp only [Act.put, List.setIfInBounds_toArray, List.set_cons_zero, List.set_cons_succ]
                refine wpAnyH_ready (rs := [0, 27]) (by kernel_rfl) (by simp) ?_
                refine AllReadyH.cons (o := ?o261) ?hi261 (fun K hK => ?st261) ?mo261
                case hi261 => (simp only [List.getElem?_toArray, List.getElem?_cons_zero]; try rfl)
                case st261 =>
                  obtain ⟨W261, e261⟩ : ∃ w7, w7 = W249.alloc (.cells #[.string ⟨#[102]⟩, .string ⟨#[103]⟩] 9) := ⟨_, rfl⟩
                  obtain ⟨fb, s261⟩ : ∃ g, g = W249.heap.size := ⟨_, rfl⟩
                  have hb261 : Below W249.heap.size W249 W261 := by rw [e261]; exact (Below.refl _ _).alloc (Nat.le_refl _) _
                  have N261 : Blk W261 fb 9 #[.string ⟨#[102]⟩, .string ⟨#[103]⟩] := by rw [e261, s261]; exact Blk.new _ _ _
                  have H261 : MhS wd (ad1.add i) (ad2.add i) (ad3.add i) x y z W261 ∧ Blk W261 fb 9 #[.string ⟨#[102]⟩, .string ⟨#[103]⟩] := ⟨H249.below hb261, N261⟩
                  have Z261 := Z249.below hb261 Z249.lt
                  go_simp
                  rw [← e261, ← s261]
                  clear e261 s261 hb261
                  refine hK.out _ _ H261.1 (fun _ => ?rs261)
                  clear hK K
                  try simp only [Act.put, List.setIfInBounds_toArray, List.set_cons_zero, List.set_cons_succ]
                  refine wpAnyH_mono (S' := fun wa => MhS wd (ad1.add i) (ad2.add i) (ad3.add i) x y z wa ∧ Blk wa fb 9 #[.string ⟨#[102]⟩, .string ⟨#[103]⟩]) (fun _ h => h.1) _ _ _ _ ?_
                  refine wpAnyH_take (i := 7) (oi := ?oi262) (v := ?v262) ?hi262 (by kernel_rfl) (by kernel_rfl) (by kernel_rfl) (fun _ _ _ h => h) ?hy262 H261 ?rest262
                  case hi262 => (simp only [List.getElem?_toArray, List.getElem?_cons_succ, List.getElem?_cons_zero]; try rfl)
                  case hy262 => (refine Or.inl ⟨by rfl, ?_⟩; intro w hSw; go_simp; (try with_reducible rfl))
                  try simp only [Act.put, List.setIfInBounds_toArray, List.set_cons_zero, List.set_cons_succ]
                  refine wpAnyH_take (i := 8) (oi := ?oi263) (v := ?v263) ?hi263 (by kernel_rfl) (by kernel_rfl) (by kernel_rfl) (fun _ _ _ h => h) ?hy263 H261 ?rest263
                  case hi263 => (simp only [List.getElem?_toArray, List.getElem?_cons_succ, List.getElem?_cons_zero]; try rfl)
                  case hy263 => (refine Or.inl ⟨by rfl, ?_⟩; intro w hSw; have q := (hSw.2.cell qn).trans hG; go_simp; (try with_reducible rfl))
                  try simp only [Act.put, List.setIfInBounds_toArray, List.set_cons_zero, List.set_cons_succ]
                  clear hG
                  refine wpAnyH_ready (rs := [27]) (by kernel_rfl) (by simp) ?_
                  refine AllReadyH.cons (o := ?o264) ?hi264 (fun K hK => ?st264) ?mo264
                  case hi264 => (simp only [List.getElem?_toArray, List.getElem?_cons_succ, List.getElem?_cons_zero]; try rfl)
                  case st264 =>
                    go_simp
                    go_at_call 10
                    refine (hW6 _).mono ?_
                    rintro e wz ⟨rfl, rfl⟩
                    try dsimp only
                    refine hK.out _ _ H261 (fun _ => ?rs264)
                    clear hK K
                    try simp only [Act.put, List.setIfInBounds_toArray, List.set_cons_zero, List.set_cons_succ]
                    refine wpAnyH_take (i := 28) (oi := ?oi265) (v := ?v265) ?hi265 (by kernel_rfl) (by kernel_rfl) (by kernel_rfl) (fun _ _ _ h => h) ?hy265 H261 ?rest265
                    case hi265 => (simp only [List.getElem?_toArray, List.getElem?_cons_succ, List.getElem?_cons_zero]; try rfl)
                    case hy265 => (refine Or.inl ⟨by rfl, ?_⟩; intro w hSw; go_simp; (try with_reducible rfl))
                    try simp only [Act.put, List.setIfInBounds_toArray, List.set_cons_zero, List.set_cons_succ]
                    refine wpAnyH_take (i := 29) (oi := ?oi266) (v := ?v266) ?hi266 (by kernel_rfl) (by kernel_rfl) (by kernel_rfl) (fun _ _ _ h => h) ?hy266 H261 ?rest266
                    case hi266 => (simp only [List.getElem?_toArray, List.getElem?_cons_succ, List.getElem?_cons_zero]; try rfl)
                    case hy266 => (refine yields_build (cells := #[.int .i64 11, .string G, .string ⟨#[]⟩, .string TT, .int .i64 0, .int .i64 st, .int .i64 nu, .int .i64 ep, .slice none 0 0]) 30 ?pa266 ?ho266 ?hg266 ?hf266; (case ho266 => rfl); (case hg266 => rfl); (case hf266 => simp [Act.eval]; exact built_msg _ _ _ _ _))
                    try simp only [Act.put, List.setIfInBounds_toArray, List.set_cons_zero, List.set_cons_succ]
                    refine wpAnyH_ready (rs := [31]) (by kernel_rfl) (by simp) ?_
                    refine AllReadyH.cons (o := ?o267) ?hi267 (fun K hK => ?st267) ?mo267
                    case hi267 => (simp only [List.getElem?_toArray, List.getElem?_cons_succ, List.getElem?_cons_zero]; try rfl)
                    case st267 =>
                      have hfg : fb ≠ gk := H261.2.ne_ Z261 (by decide)
                      refine store_msg (k := 11) (f := G) (e := ⟨#[]⟩) (t := TT) (n := 0) (st := st) (nu := nu) (ep := ep) rfl rfl (by simp [Act.eval]; done) (by simp [Act.eval]; done) Z261 rfl ?_
                      intro w267 hb267 hbe267 hbf267
                      have hw267 := hbe267 wd G226 H261.1.be
                      refine hK.out _ _ ⟨⟨H261.1.k1, H261.1.k2, H261.1.k3, hw267⟩, hbf267 _ _ _ hfg H261.2⟩ (fun _ => ?rs267)
                      clear hK K
                      try simp only [Act.put]
                      refine wpAnyH_done (by kernel_rfl) ?_ _
                      refine NoPanic.normal ?_
                      go_wp2_with fail
                      go_meet
                      exact Lib.hid ⟨gk, _, rfl, Nat.le_trans hdr G226, hb267, hdb.trans (hw267.mono hdb.size), rfl⟩
                    exact AllReadyH.nil
                  exact AllReadyH.nil
                refine AllReadyH.cons (o := ?o268) ?hi268 (fun K hK => ?st268) ?mo268
                case hi268 => (simp only [List.getElem?_toArray, List.getElem?_cons_succ, List.getElem?_cons_zero]; try rfl)
                case st268 =>
                  go_simp
                  go_at_call 10
                  refine (hW6 _).mono ?_
                  rintro e wz ⟨rfl, rfl⟩
                  try dsimp only
                  refine hK.out _ _ H249 (fun _ => ?rs268)
                  clear hK K
                  try simp only [Act.put, List.setIfInBounds_toArray, List.set_cons_zero, List.set_cons_succ]
                  refine wpAnyH_take (i := 28) (oi := ?oi269) (v := ?v269) ?hi269 (by kernel_rfl) (by kernel_rfl) (by kernel_rfl) (fun _ _ _ h => h) ?hy269 H249 ?rest269
                  case hi269 => (simp only [List.getElem?_toArray, List.getElem?_cons_succ, List.getElem?_cons_zero]; try rfl)
                  case hy269 => (refine Or.inl ⟨by rfl, ?_⟩; intro w hSw; go_simp; (try with_reducible rfl))
                  try simp only [Act.put, List.setIfInBounds_toArray, List.set_cons_zero, List.set_cons_succ]
                  refine wpAnyH_ready (rs := [0]) (by kernel_rfl) (by simp) ?_
                  refine AllReadyH.cons (o := ?o270) ?hi270 (fun K hK => ?st270) ?mo270
                  case hi270 => (simp only [List.getElem?_toArray, List.getElem?_cons_zero]; try rfl)
                  case st270 =>
                    obtain ⟨W270, e270⟩ : ∃ w7, w7 = W249.alloc (.cells #[.string ⟨#[102]⟩, .string ⟨#[103]⟩] 9) := ⟨_, rfl⟩
                    obtain ⟨fb, s270⟩ : ∃ g, g = W249.heap.size := ⟨_, rfl⟩
                    have hb270 : Below W249.heap.size W249 W270 := by rw [e270]; exact (Below.refl _ _).alloc (Nat.le_refl _) _
                    have N270 : Blk W270 fb 9 #[.string ⟨#[102]⟩, .string ⟨#[103]⟩] := by rw [e270, s270]; exact Blk.new _ _ _
                    have H270 : MhS wd (ad1.add i) (ad2.add i) (ad3.add i) x y z W270 ∧ Blk W270 fb 9 #[.string ⟨#[102]⟩, .string ⟨#[103]⟩] := ⟨H249.below hb270, N270⟩
                    have Z270 := Z249.below hb270 Z249.lt
                    go_simp
                    rw [← e270, ← s270]
                    clear e270 s270 hb270
                    refine hK.out _ _ H270.1 (fun _ => ?rs270)
                    clear hK K
                    try simp only [Act.put, List.setIfInBounds_toArray, List.set_cons_zero, List.set_cons_succ]
                    refine wpAnyH_mono (S' := fun wa => MhS wd (ad1.add i) (ad2.add i) (ad3.add i) x y z wa ∧ Blk wa fb 9 #[.string ⟨#[102]⟩, .string ⟨#[103]⟩]) (fun _ h => h.1) _ _ _ _ ?_
                    refine wpAnyH_take (i := 7) (oi := ?oi271) (v := ?v271) ?hi271 (by kernel_rfl) (by kernel_rfl) (by kernel_rfl) (fun _ _ _ h => h) ?hy271 H270 ?rest271
                    case hi271 => (simp only [List.getElem?_toArray, List.getElem?_cons_succ, List.getElem?_cons_zero]; try rfl)
                    case hy271 => (refine Or.inl ⟨by rfl, ?_⟩; intro w hSw; go_simp; (try with_reducible rfl))
                    try simp only [Act.put, List.setIfInBounds_toArray, List.set_cons_zero, List.set_cons_succ]
                    refine wpAnyH_take (i := 8) (oi := ?oi272) (v := ?v272) ?hi272 (by kernel_rfl) (by kernel_rfl) (by kernel_rfl) (fun _ _ _ h => h) ?hy272 H270 ?rest272
                    case hi272 => (simp only [List.getElem?_toArray, List.getElem?_cons_succ, List.getElem?_cons_zero]; try rfl)
                    case hy272 => (refine Or.inl ⟨by rfl, ?_⟩; intro w hSw; have q := (hSw.2.cell qn).trans hG; go_simp; (try with_reducible rfl))
                    try simp only [Act.put, List.setIfInBounds_toArray, List.set_cons_zero, List.set_cons_succ]
                    clear hG
                    refine wpAnyH_take (i := 29) (oi := ?oi273) (v := ?v273) ?hi273 (by kernel_rfl) (by kernel_rfl) (by kernel_rfl) (fun _ _ _ h => h) ?hy273 H270 ?rest273
                    case hi273 => (simp only [List.getElem?_toArray, List.getElem?_cons_succ, List.getElem?_cons_zero]; try rfl)
                    case hy273 => (refine yields_build (cells := #[.int .i64 11, .string G, .string ⟨#[]⟩, .string TT, .int .i64 0, .int .i64 st, .int .i64 nu, .int .i64 ep, .slice none 0 0]) 30 ?pa273 ?ho273 ?hg273 ?hf273; (case ho273 => rfl); (case hg273 => rfl); (case hf273 => simp [Act.eval]; exact built_msg _ _ _ _ _))
                    try simp only [Act.put, List.setIfInBounds_toArray, List.set_cons_zero, List.set_cons_succ]
                    refine wpAnyH_ready (rs := [31]) (by kernel_rfl) (by simp) ?_
                    refine AllReadyH.cons (o := ?o274) ?hi274 (fun K hK => ?st274) ?mo274
                    case hi274 => (simp only [List.getElem?_toArray, List.getElem?_cons_succ, List.getElem?_cons_zero]; try rfl)
                    case st274 =>
                      have hfg : fb ≠ gk := H270.2.ne_ Z270 (by decide)
                      refine store_msg (k := 11) (f := G) (e := ⟨#[]⟩) (t := TT) (n := 0) (st := st) (nu := nu) (ep := ep) rfl rfl (by simp [Act.eval]; done) (by simp [Act.eval]; done) Z270 rfl ?_
                      intro w274 hb274 hbe274 hbf274
                      have hw274 := hbe274 wd G226 H270.1.be
                      refine hK.out _ _ ⟨⟨H270.1.k1, H270.1.k2, H270.1.k3, hw274⟩, hbf274 _ _ _ hfg H270.2⟩ (fun _ => ?rs274)
                      clear hK K
                      try simp only [Act.put]
                      refine wpAnyH_done (by kernel_rfl) ?_ _
                      refine NoPanic.normal ?_
                      go_wp2_with fail
                      go_meet
                      exact Lib.hid ⟨gk, _, rfl, Nat.le_trans hdr G226, hb274, hdb.trans (hw274.mono hdb.size), rfl⟩
                    exact AllReadyH.nil
                  exact AllReadyH.nil
                exact AllReadyH.nil
              exact AllReadyH.nil
            exact AllReadyH.nil
          exact AllReadyH.nil
        exact AllReadyH.nil
      case rest =>
        clear hst hnu hi5 hep hG hW2 hW3 hW6 hTk
        obtain ⟨gk, w9, rfl, hge, hk9, hb9, e9⟩ := hcut.out
        subst e9
        clear hcut hcx hcy hcz
        have hck : w9.cell? (ad0.add i) = some (.int .i64 kk) := (hb9.cell (p := ad0.add i) (World.block_lt_of_cell? _ _ hCK.out)).trans hCK.out
        have k3 : IntKind.i64.wrap (kk.tmod 5) = kk.tmod 5 := by
          have := Int.tmod_lt_of_pos kk (show (0 : Int) < 5 by decide)
          have := Int.lt_tmod_of_pos kk (show (0 : Int) < 5 by decide)
          rw [IntKind.wrap_i64]; omega
        have hW17 : ∀ w, Calls Try.prog 10 #[.int .i64 kk, .int .i64 17] w fun e w' => e = .returned (.int .i64 (kk % 17)) ∧ w = w' := fun w => Within_any kk 17 w (by omega) (by omega) (by omega) (by omega)
        have f0 := hk9.frozen 0
        have q0 := hk9.cell 0
        have HK9 := Lib.hid hk9
        have HB9 := Lib.hid hb9
        have HGE := Lib.hid hge
        clear hk9 hb9 hge
        go_upto_if 84 with fail
        go_cut [] from 79 to 91 (fun wx => Hid (∃ K w7, Blk wx gk 30 (msgK K G ⟨#[]⟩ TT 0 st nu ep) ∧ Below wr.heap.size wr wx ∧ w7 = wx))
        case first =>
          by_cases hq : kk.tmod 5 = 4
          · go_wp2_with fail
            refine (hW17 _).mono ?_
            rintro e wz ⟨rfl, rfl⟩
            go_wp2_with fail
            go_meet
            exact Lib.hid ⟨_, _, HK9.out.set_ 0 _, HB9.out.setCell HGE.out _, rfl⟩
          · go_wp2_with fail
            go_meet
            exact Lib.hid ⟨_, _, HK9.out, HB9.out, rfl⟩
        case rest =>
          obtain ⟨K, w7, hk7, hb7, e7⟩ := hcut.out
          subst e7
          clear hcut hck k3 hW17 f0 q0 HK9 HB9
          obtain ⟨T1, hT1⟩ := ag_step T K G TT st nu
          obtain ⟨wd, ewd⟩ : ∃ wd, wd = w7.drew := ⟨_, rfl⟩
          have hJd : JoP w wd m mb r V1 U1 R ka kb kd L T i := by rw [ewd]; exact (HJ.out.below hb7).below (Below.refl _ _).drew
          have hkd : Blk wd gk 30 (msgK K G ⟨#[]⟩ TT 0 st nu ep) := by rw [ewd]; exact hk7.drew
          have hP := PHear hJd.ms hJd.eR hT1 (hJd.ok.mono (by omega)) 0 ep ⟨#[]⟩
          have hm9 := msg9_of hkd
          have HJd := Lib.hid hJd
          have HKD := Lib.hid hkd
          have HT1 := Lib.hid hT1
          clear hJd hkd hk7 hT1
          go_upto_region 10 with fail
          go_cut [99] from 92 to 98 (fun v99 wx => Hid (∃ V2 U2 R2 a2 b2 d2 L2 w6, v99 = .bool false ∧ JoP w wx m mb r V2 U2 R2 a2 b2 d2 L2 T1 (i + 1) ∧ w6 = wx))
          case first =>
            have hVg : ¬ V1 gk := fun e => by have := HJ.out.ms.lt gk e; have := HGE.out; omega
            have hUg : ¬ U1 gk := fun e => by have := HJ.out.rm.lt gk e; have := HGE.out; omega
            have hOk : Hid (AgOk T 90) := Lib.hid (HJd.out.ok.mono (by omega))
            rw [ewd] at hm9 hP
            have HD := Lib.hid ewd
            clear ewd
            go_region_held3 (fun wa => wa.cell? ⟨gk, 0, none⟩ = some (.int .i64 K) ∧ wa.cell? ⟨gk, 1, none⟩ = some (.string G) ∧ wa.cell? ⟨gk, 2, none⟩ = some (.string ⟨#[]⟩) ∧ wa.cell? ⟨gk, 3, none⟩ = some (.string TT) ∧ wa.cell? ⟨gk, 4, none⟩ = some (.int .i64 0) ∧ wa.cell? ⟨gk, 5, none⟩ = some (.int .i64 st) ∧ wa.cell? ⟨gk, 6, none⟩ = some (.int .i64 nu) ∧ wa.cell? ⟨gk, 7, none⟩ = some (.int .i64 ep) ∧ wa.cell? ⟨gk, 8, none⟩ = some (.slice none 0 0)) (first | with_reducible assumption | with_reducible exact hm9) (first | (go_at_call 18; refine hP.mono ?_; rintro e w5 ⟨v5, rfl, h5⟩; rw [← HD.out] at h5; have k5 := msg5 h5 HKD.out hVg; have m5 := msg9_of k5; have hR := RHear (HJd.out.rm5 h5) HJd.out.eL HT1.out hOk.out 0 ep ⟨#[]⟩; have H5 := Lib.hid h5; have K5 := Lib.hid k5; clear h5 k5) | (go_at_call 19; refine hR.mono ?_; rintro e w6 ⟨v6, rfl, h6⟩; have m6 := msg9_of (msg6 h6 K5.out hUg); obtain ⟨a5, a6, V2, U2, R2, a2, b2, d2, L2, hJ6⟩ := HJd.out.heard HT1.out HG2.out H5.out h6; have hMs := Messages_any a5 a6; have k6 := msg6 h6 K5.out hUg; have K6 := Lib.hid k6; have HJ6 := Lib.hid hJ6; clear h6 hJ6 a5 a6 k6) | (go_at_call 17; refine hMs.mono ?_; rintro e w8 ⟨rfl, hb8⟩; have m8 := msg9_of (K6.out.below hb8 K6.out.lt); have HJ8 := Lib.hid (HJ6.out.below hb8); clear hb8))
            all_goals
              rename_i hHeld
              clear hHeld
              go_wp2_with fail
              go_meet
              exact Lib.hid ⟨_, _, _, _, _, _, _, _, rfl, HJ8.out, rfl⟩
          case rest =>
            obtain ⟨V2, U2, R2, a2, b2, d2, L2, w6, rfl, hJ6, e6⟩ := hcut.out
            subst e6
            clear hcut hP hm9 HJd HKD HT1 HGE HJ ewd
            obtain ⟨Ak, ck, rfl, hck, -⟩ := own_slice hJ6.rm.ks
            obtain ⟨N, hN⟩ : ∃ N, N = L2.length := ⟨_, rfl⟩
            have hN25 : N ≤ 100 := by rw [hN]; exact hJ6.rm.len
            have p0 : w6.cell? ⟨r, 0, none⟩ = some (.slice Ak N ck) := by rw [hN]; exact hJ6.rm.blk.cell 0
            have HN := Lib.hid hN
            have HJ6 := Lib.hid hJ6
            clear hN hJ6 hck
            go_wp2_with fail
            clear p0
            go_loopw [105] (fun vk wx => Hid (∃ k : Nat, vk = .int .i64 k ∧ k ≤ N ∧ Below w6.heap.size w6 wx ∧ ∃ w7, w7 = wx)) (fun vk _ => N - (intOf vk).toNat)
            case atStart => exact Lib.hid ⟨0, rfl, by omega, Below.refl _ _, _, rfl⟩
            case round =>
              obtain ⟨k, rfl, hk, hb7, w7, hw7⟩ := hrel.out
              subst hw7
              clear hrel
              have HB7 := Lib.hid hb7
              clear hb7
              by_cases hlt : (k : Int) < N
              · obtain ⟨xx, yy, hx, hy, ef, et, es, en, hn⟩ := HJ6.out.at_ (k := k) (by have := HN.out; omega)
                have hJ7 := HJ6.out.below HB7.out
                obtain ⟨uk, rfl⟩ := own_some (by have := hJ7.rm.ks; rw [← HN.out] at this; exact this) (by omega)
                have hks : w7.ownsRow w.heap.size 46 2 (.slice (some ⟨uk, 0, none⟩) N ck) N (rkV L2) := by have := hJ7.rm.ks; rw [← HN.out] at this; exact this
                have cc : ∀ j, j < 2 → w7.cell? ⟨uk, k * 2 + j, none⟩ = (rkC xx)[j]? := fun j hj => (hks.cellAt (k * 2 + j) (by omega)).trans (rkV_get L2 k xx hx j hj)
                have q0 : w7.cell? ⟨uk, k * 2, none⟩ = some (.string xx.f) := cc 0 (by omega)
                have q1 : w7.cell? ⟨uk, k * 2 + 1, none⟩ = some (.string xx.t) := cc 1 (by omega)
                have hk0 : (0 : Int) ≤ (k : Int) := by omega
                obtain ⟨xf, xt, xs, xv, xn⟩ := xx
                simp only at q0 q1 ef et es en
                have HX := Lib.hid hx
                have HY := Lib.hid (And.intro hy (And.intro ef (And.intro et (And.intro es (And.intro en hn)))))
                have HJ7 := Lib.hid hJ7
                clear cc hks hx hy ef et es en hn hJ7
                go_upto_region 15 with fail
                obtain ⟨gy, hgy⟩ : ∃ g, g = w7.heap.size := ⟨_, rfl⟩
                obtain ⟨w8, hw8⟩ : ∃ x, x = w7.alloc (Obj.cells #[Value.string xf, Value.string xt] 46) := ⟨_, rfl⟩
                rw [← hw8, ← hgy]
                have hb8 : Below w7.heap.size w7 w8 := by rw [hw8]; exact (Below.refl _ _).alloc (Nat.le_refl _) _
                have hky : Blk w8 gy 46 #[.string xf, .string xt] := by rw [hw8, hgy]; exact Blk.new _ _ _
                have hJ8 := HJ7.out.below hb8
                obtain ⟨Ab, cb, eb, -, -⟩ := own_slice hJ8.rm.ss
                obtain ⟨Ac, cc, ec, -, -⟩ := own_slice hJ8.rm.hs
                subst eb ec
                obtain ⟨ub, rfl⟩ := own_some hJ8.rm.ss (by have := HN.out; omega)
                obtain ⟨uc, rfl⟩ := own_some hJ8.rm.hs (by have := HN.out; omega)
                have hMk : ∀ {wa : World}, Below w8.heap.size w8 wa → (wa.cell? ⟨gy, 0, none⟩ = some (.string xf) ∧ wa.cell? ⟨gy, 1, none⟩ = some (.string xt) ∧ wa.cell? ⟨r, 1, none⟩ = some (.slice (some ⟨ub, 0, none⟩) N cb) ∧ wa.cell? ⟨r, 2, none⟩ = some (.slice (some ⟨uc, 0, none⟩) N cc) ∧ wa.cell? ⟨ub, k, none⟩ = some (.int .i64 xs) ∧ wa.cell? ⟨uc, k, none⟩ = some xv ∧ Below w8.heap.size w8 wa) := fun {wa} hb => by
                  have hJa := hJ8.below hb
                  have hka := hky.below hb hky.lt
                  refine ⟨hka.cell 0, hka.cell 1, by rw [HN.out]; exact hJa.rm.blk.cell 1, by rw [HN.out]; exact hJa.rm.blk.cell 2, (hJa.rm.ss.cellAt k (by have := HN.out; omega)).trans (by rw [List.getElem?_map, HX.out]; rfl), (hJa.rm.hs.cellAt k (by have := HN.out; omega)).trans (by rw [List.getElem?_map, HX.out]; rfl), hb⟩
                have hSt : ∀ {wa : World}, (wa.cell? ⟨gy, 0, none⟩ = some (.string xf) ∧ wa.cell? ⟨gy, 1, none⟩ = some (.string xt) ∧ wa.cell? ⟨r, 1, none⟩ = some (.slice (some ⟨ub, 0, none⟩) N cb) ∧ wa.cell? ⟨r, 2, none⟩ = some (.slice (some ⟨uc, 0, none⟩) N cc) ∧ wa.cell? ⟨ub, k, none⟩ = some (.int .i64 xs) ∧ wa.cell? ⟨uc, k, none⟩ = some xv ∧ Below w8.heap.size w8 wa) → Calls Try.prog 20 #[.pointer (some ⟨m, 0, none⟩), .agg #[.string xf, .string xt]] wa fun e w' => e = .returned (.int .i64 xs) ∧ Below w8.heap.size w8 w' := fun {wa} hs => by
                  have hb := hs.2.2.2.2.2.2
                  obtain ⟨hy, ef, et, es, en, hn⟩ := HY.out
                  have := State_yes (hJ8.below hb).ms hy (f := yy.f) (t := yy.t) (same_self yy)
                  rw [ef, et, es] at this
                  exact this.mono fun e w' h => ⟨h.1, hb.trans (h.2.mono hb.size)⟩
                have hHe : ∀ {wa : World}, (wa.cell? ⟨gy, 0, none⟩ = some (.string xf) ∧ wa.cell? ⟨gy, 1, none⟩ = some (.string xt) ∧ wa.cell? ⟨r, 1, none⟩ = some (.slice (some ⟨ub, 0, none⟩) N cb) ∧ wa.cell? ⟨r, 2, none⟩ = some (.slice (some ⟨uc, 0, none⟩) N cc) ∧ wa.cell? ⟨ub, k, none⟩ = some (.int .i64 xs) ∧ wa.cell? ⟨uc, k, none⟩ = some xv ∧ Below w8.heap.size w8 wa) → Calls Try.prog 22 #[.pointer (some ⟨m, 0, none⟩), .agg #[.string xf, .string xt]] wa fun e w' => ∃ v' B', e = .returned v' ∧ w'.ownsRow B' 3 1 v' xn.length (ints xn) ∧ Below w8.heap.size w8 w' := fun {wa} hs => by
                  have hb := hs.2.2.2.2.2.2
                  obtain ⟨hy, ef, et, es, en, hn⟩ := HY.out
                  have := Heard_yes (hJ8.below hb).ms hy (f := yy.f) (t := yy.t) (same_self yy) (by omega)
                  rw [ef, et, en] at this
                  exact this.mono fun e w' h => by
                    obtain ⟨v', h1, h2, h3⟩ := h
                    exact ⟨v', _, h1, h2, hb.trans (h3.mono hb.size)⟩
                have hRow : ∀ {wa : World}, Below w8.heap.size w8 wa → wa.ownsRow w.heap.size 3 1 xv xn.length (ints xn) := fun {wa} hb => (hJ8.below hb).rm.rows k _ HX.out
                obtain ⟨Ax, cx, ex, -, -⟩ := own_slice (hRow (Below.refl _ _))
                subst ex
                have hn9 : xn.length ≤ 900 := by
                  obtain ⟨hy, ef, et, es, en, hn⟩ := HY.out
                  rw [← en]
                  omega
                have hlk : (k : Int) < (N : Int) := hlt
                have n1 : (xs != xs) = false := by simp
                have HM8 := Lib.hid (And.intro hJ8 hb8)
                have hD : ∀ {wa : World}, Below wa.heap.size wa wa.drew := (Below.refl _ _).drew
                have keep : ∀ {wa wb : World}, Below w8.heap.size w8 wa → Below wa.heap.size wa wb → Below w8.heap.size w8 wb := fun h1 h2 => h1.trans (h2.mono h1.size)
                have hb0 : Below w8.heap.size w8 w8.drew := (Below.refl _ _).drew
                have hS0 := hMk hb0
                clear hw8 hgy hb8 hky hJ8 q0 q1
                go_cut [134] from 110 to 133 (fun vb wx => Hid (∃ w9, vb = .bool false ∧ Below w6.heap.size w6 wx ∧ w9 = wx))
                case first =>
                  go_region_held3 (fun wa => wa.cell? ⟨gy, 0, none⟩ = some (.string xf) ∧ wa.cell? ⟨gy, 1, none⟩ = some (.string xt) ∧ wa.cell? ⟨r, 1, none⟩ = some (.slice (some ⟨ub, 0, none⟩) N cb) ∧ wa.cell? ⟨r, 2, none⟩ = some (.slice (some ⟨uc, 0, none⟩) N cc) ∧ wa.cell? ⟨ub, k, none⟩ = some (.int .i64 xs) ∧ wa.cell? ⟨uc, k, none⟩ = some (.slice Ax xn.length cx) ∧ Below w8.heap.size w8 wa) (first | with_reducible assumption | with_reducible exact hMk (by with_reducible assumption)) (first | (go_at_call 20; refine (hSt (by assumption)).mono ?_; rintro e wb ⟨rfl, hkk⟩) | (go_at_call 22; refine (hHe (by assumption)).mono ?_; rintro e wb ⟨v', B', rfl, ho, hkk⟩; obtain ⟨Ah, ch, rfl, -, -⟩ := own_slice ho; have hSm := SameI_eq wb ho (hRow hkk) hn9; clear ho) | (go_at_call 21; refine hSm.mono ?_; rintro e wb ⟨rfl, hbb⟩; have hk9 := keep hkk hbb; clear hbb))
                  all_goals
                    rename_i hHeld
                    go_wp2_with fail
                    go_meet
                    exact Lib.hid ⟨_, rfl, HB7.out.trans ((HM8.out.2.trans (hHeld.2.2.2.2.2.2.mono HM8.out.2.size)).mono HB7.out.size), rfl⟩
                case rest =>
                  obtain ⟨w9, rfl, hb9, e9⟩ := hcut.out
                  subst e9
                  clear hcut hSt hHe hMk hRow hS0 hb0 keep hD
                  have HB9 := Lib.hid hb9
                  clear hb9
                  go_wp2_with fail
                  refine ⟨?_, by simp [intOf]; omega⟩
                  exact Lib.hid ⟨k + 1, by simp, by omega, HB9.out, _, rfl⟩
              · go_wp2_with fail
                refine ⟨?_, by simp [intOf]; omega⟩
                exact Lib.hid ⟨i + 1, V2, U2, R2, _, b2, d2, L2, T1, by simp, by omega, HJ6.out.below HB7.out, _, rfl⟩
    · have hall2 : ¬ (i : Int) < n0 ∨ ((i : Int) < n0 ∧ ¬ (i : Int) < n1) ∨ ((i : Int) < n0 ∧ (i : Int) < n1 ∧ ¬ (i : Int) < n2) ∨ ((i : Int) < n0 ∧ (i : Int) < n1 ∧ (i : Int) < n2 ∧ ¬ (i : Int) < n3) ∨ ((i : Int) < n0 ∧ (i : Int) < n1 ∧ (i : Int) < n2 ∧ (i : Int) < n3 ∧ ¬ (i : Int) < 24) := by omega
      clear hall
      have hNo := fun t => none_R HJ.out t
      have hB0 := HJ.out.bel
      have hSt : ∀ {wa : World}, Below wr.heap.size wr wa → Calls Try.prog 20 #[.pointer (some ⟨m, 0, none⟩), .agg #[.string ⟨#[110, 111, 110, 101]⟩, .string ⟨#[97]⟩]] wa fun e w' => e = .returned (.int .i64 0) ∧ Below wr.heap.size wr w' ∧ Below wa.heap.size wa w' := fun {wa} hb =>
        (State_no (HJ.out.below hb).ms (hNo _)).mono fun e w' h => ⟨h.1, hb.trans (h.2.mono hb.size), h.2⟩
      have hHe : ∀ {wa : World}, Below wr.heap.size wr wa → Calls Try.prog 22 #[.pointer (some ⟨m, 0, none⟩), .agg #[.string ⟨#[110, 111, 110, 101]⟩, .string ⟨#[97]⟩]] wa fun e w' => e = .returned (.slice none 0 0) ∧ Below wr.heap.size wr w' := fun {wa} hb =>
        (Heard_no (HJ.out.below hb).ms (hNo _)).mono fun e w' h => ⟨h.1, hb.trans (h.2.mono hb.size)⟩
      have hB0 := Lib.hid hB0
      clear hNo
      rcases hall2 with h1 | ⟨h1, h2⟩ | ⟨h1, h2, h3⟩ | ⟨h1, h2, h3, h4⟩ | ⟨h1, h2, h3, h4, h5⟩
      all_goals
        go_upto_region 19 with fail
        obtain ⟨gz, hgz⟩ : ∃ g, g = wr.heap.size := ⟨_, rfl⟩
        obtain ⟨W2, hW2⟩ : ∃ W2, W2 = wr.alloc (Obj.cells #[Value.string ⟨#[110, 111, 110, 101]⟩, Value.string ⟨#[97]⟩] 46) := ⟨_, rfl⟩
        rw [← hW2, ← hgz]
        have hz : Blk W2 gz 46 #[.string ⟨#[110, 111, 110, 101]⟩, .string ⟨#[97]⟩] := by rw [hW2, hgz]; exact Blk.new _ _ _
        have hb2 : Below wr.heap.size wr W2 := by rw [hW2]; exact (Below.refl _ _).alloc (Nat.le_refl _) _
        have z0 := hz.cell 0
        have z1 := hz.cell 1
        have HZ := Lib.hid (And.intro hb2 (And.intro hz (show wr.heap.size ≤ gz from by rw [hgz]; exact Nat.le_refl _)))
        have hC := hSt hb2
        clear hW2 hgz hb2 hz
        go_wp2_with fail
        refine hC.mono ?_
        rintro e w3 ⟨rfl, hb3, hbk⟩
        have hz3 := HZ.out.2.1.below hbk HZ.out.2.1.lt
        have z3 := hz3.cell 0
        have z4 := hz3.cell 1
        have hC2 := hHe hb3
        clear z0 z1 hC hbk hz3 hb3
        go_wp2_with fail
        refine hC2.mono ?_
        rintro e w4 ⟨rfl, hb4⟩
        have HB4 := Lib.hid hb4
        clear hC2 hb4 z3 z4
        go_wp2_with (go_at_call 23; refine (wkk _).mono ?_; rintro e w10 ⟨rfl, hb10⟩)
        go_ret
        have hb11 := hB0.out.trans (HB4.out.mono hB0.out.size)
        exact ⟨rfl, hb11.trans (hb10.mono hb11.size)⟩

end Go.Proofs.Ytiflhfhonhbcpaa.masterHears
