/- The walk of AgentAgain: the Go text returns true, and writes nothing that was there. -/
import Derived.Test.YtikbklfbinanpaaGreatDoorAGE
import Derived.Deep.CutRange
import Derived.Deep.RegionHeld3
import Derived.Deep.DeepCutAuto
import Derived.Deep.CutBlock
import Derived.Lib.Builder
import Derived.Deep.RegionLaw
import Derived.IntWalk
namespace Go.Proofs.YtikbklfbinanpaaGreatDoor.agentAgain
open Go.ChangeShapes Go.WideShapes Go.ChangeAt Go.RowKit
set_option linter.unusedVariables false
set_option maxRecDepth 100000
open Go.Proofs.YtikbklfbinanpaaGreatDoor.Lit
theorem wkk (w : World) : Calls Tryz.prog 12 #[] w fun e w' => e = .returned (.bool true) ∧ Below w.heap.size w w' := wakes_12.2.2.2 w
theorem ints_atI {w : World} {B n k : Nat} {q : IntKind} {A : Option Addr} {xs : List Int} (hr : Reads w B 1 A n (xs.map (Value.int q))) (hk : k < n) : ∃ ad x, A = some ad ∧ xs[k]? = some x ∧ w.cell? (ad.add k) = some (.int q x) := by
  obtain ⟨ad, u, rfl, _, hx, hc⟩ := hr.at_ hk
  simp only [List.getElem?_map, Option.map_eq_some_iff] at hx
  obtain ⟨x, h1, h2⟩ := hx
  exact ⟨ad, x, rfl, h1, by rw [hc, h2]⟩
section
variable [Toks]
theorem hPlain (hA : Toks.A 0 ≤ 9223372036854775807) (w : World) : Calls Tryz.prog 5 #[] w fun e w' => e = .returned (lA cfgL) ∧ Rt w [] [] (rh rP) w' := by
  have hc := cc0_ok 0 hA
  refine (Rt.call hc.1 hc.2 (show cc 0 0 0 5 [] h0 = some (lA cfgL, rh rP) from r_eq rP_v) (Rt.start w) (args' := #[]) (fun ρ _ => .nil)).mono ?_
  rintro e w' ⟨v', rfl, s, hb⟩
  have := s.last (R := []) (vs := []) (by kernel_rfl) rfl
  exact ⟨by rw [this], s.take 0⟩
theorem hUp (hA : Toks.A 0 ≤ 9223372036854775807) {w w1 : World} (s : Rt w [] [] (rh rP) w1) : Calls Tryz.prog 4 #[lA cfgL] w1 fun e w' => ∃ pa pd, e = .returned (.tuple #[pa, pd, .bool true]) ∧ Rt w [lP 9] [pa] M1 w' := by
  have hc := cc0_ok 0 hA
  refine (Rt.call hc.1 hc.2 (show cc 0 0 0 4 [lA cfgL] (rh rP) = some (lD [lP 20, lP 3, lT], rh rU) from r_eq rU_v) s (args' := #[lA cfgL]) (fun ρ _ => .cons (VR.flat (by kernel_rfl)) .nil)).mono ?_
  rintro e w' ⟨v', rfl, s1, hb⟩
  obtain ⟨l', rfl, s2⟩ := Rt.untuple (R := []) (vs := []) (l := [lP 20, lP 3, lT]) (v' := v') (by
    intro u hu q
    simp only [List.mem_cons, List.not_mem_nil, or_false] at hu
    rcases hu with rfl | rfl | rfl <;> intro e <;> cases e) s1
  obtain ⟨a, b, c, rfl⟩ : ∃ a b c, l' = [a, b, c] := by
    obtain ⟨⟨ρ, _, _, _, s4⟩, _⟩ := s2
    have := s4.length
    simp only [List.nil_append, List.length_cons, List.length_nil] at this
    match l', this with
    | [a, b, c], _ => exact ⟨a, b, c, rfl⟩
  have ec : c = lT := Rt.last (R := [lP 20, lP 3]) (vs := [a, b]) s2 rfl rfl
  subst ec
  have s3 : Rt w [lP 9, lP 1, lT] [a, b, lT] M1 w' := Rt.norm rU_s s2
  exact ⟨a, b, rfl, s3.take 1⟩
variable {W w : World} {pa vo : Value}
theorem hOrd (hA : Toks.A 0 ≤ 9223372036854775807) {g : Nat} (s : Rt W [lP 9, lL 10 0 1 1] [pa, .slice (some ⟨g, 0, none⟩) 1 1] (M1.push ⟨[lS [97]], 9, 0, 1⟩) w) :
    Calls Tryz.prog 7 #[.string ⟨#[120]⟩, .complex .f64 4636737291354636288 0, .slice (some ⟨g, 0, none⟩) 1 1] w fun e w' => ∃ vo, e = .returned vo ∧ Rt W [lP 9, rv rO] [pa, vo] (rh rO) w' := by
  have hc := cc0_ok 0 hA
  have e1 : rO = some (rv rO, rh rO) := by
    have h := rO_s
    cases hr : rO with
    | none => rw [hr] at h; cases h
    | some r => rfl
  refine (Rt.call hc.1 hc.2 (show cc 0 0 0 7 [lS [120],lC 4636737291354636288 0,lL 10 0 1 1] (M1.push ⟨[lS [97]], 9, 0, 1⟩) = some (rv rO, rh rO) from e1) s (args' := #[.string ⟨#[120]⟩, .complex .f64 4636737291354636288 0, .slice (some ⟨g, 0, none⟩) 1 1]) (fun ρ hl => ?_)).mono ?_
  · cases hl with
    | cons a hl => cases hl with
      | cons b _ => exact .cons (VR.flat rfl) (.cons (VR.flat rfl) (.cons b .nil))
  · rintro e w' ⟨v', rfl, s1, hb⟩
    obtain ⟨⟨ρ, k1, k2, k3, k4⟩, kb⟩ := s1
    refine ⟨v', rfl, ⟨⟨ρ, k1, k2, k3, ?_⟩, kb⟩⟩
    cases k4 with
    | cons a k4 => cases k4 with
      | cons b k4 => exact .cons a k4
theorem hSta (hA : Toks.A 0 ≤ 9223372036854775807) (s : Rt W [lP 9, rv rO] [pa, vo] (rh rO) w) :
    Calls Tryz.prog 8 #[.string ⟨#[97]⟩, .int .i64 1, .int .i64 1, .int .i64 7] w fun e w' => e = .returned (.agg stL.toArray) ∧ Rt W [lP 9, rv rO] [pa, vo] (rh rS) w' := by
  have hc := cc0_ok 0 hA
  refine (Rt.call hc.1 hc.2 (show cc 0 0 0 8 [lS [97],lI 1,lI 1,lI 7] (rh rO) = some (lA stL, rh rS) from r_eq rS_v) s (args' := #[.string ⟨#[97]⟩, .int .i64 1, .int .i64 1, .int .i64 7]) (fun ρ _ => .cons (VR.flat rfl) (.cons (VR.flat rfl) (.cons (VR.flat rfl) (.cons (VR.flat rfl) .nil))))).mono ?_
  rintro e w' ⟨v', rfl, s1, hb⟩
  have := s1.last (by kernel_rfl) rfl
  exact ⟨by rw [this], s1.take 2⟩
theorem hSai (hA : Toks.A 0 ≤ 9223372036854775807) {g : Nat} (s : Rt W [lP 9, rv rO, .slice (some ⟨(rh rS).n, 0, none⟩) 1 1] [pa, vo, .slice (some ⟨g, 0, none⟩) 1 1] hW w) :
    Calls Tryz.prog 6 #[pa, vo, .int .i64 0, .slice (some ⟨g, 0, none⟩) 1 1] w fun e w' => e = .returned (.bool true) ∧ Rt W [lP 9] [pa] (H 0 2 2) w' := by
  have hc := cc0_ok 0 hA
  refine (Rt.call hc.1 hc.2 (show cc 0 0 0 6 [lP 9,rv rO,lI 0,lL (rh rS).n 0 1 1] hW = some (lT, rh rD) from r_eq rD_v) s (args' := #[pa, vo, .int .i64 0, .slice (some ⟨g, 0, none⟩) 1 1]) (fun ρ hl => ?_)).mono ?_
  · cases hl with
    | cons a hl => cases hl with
      | cons b hl => cases hl with
        | cons c _ => exact .cons a (.cons b (.cons (VR.flat rfl) (.cons c .nil)))
  · rintro e w' ⟨v', rfl, s1, hb⟩
    have := s1.last (by kernel_rfl) rfl
    exact ⟨by rw [this], Rt.norm rD_s (s1.take 1)⟩
omit [Toks] in
theorem okA_get {due : Nat} (h1 : 61 ≤ due) (h2 : due ≤ 68) : okA due = true := by
  rcases (by omega : due = 61 ∨ due = 62 ∨ due = 63 ∨ due = 64 ∨ due = 65 ∨ due = 66 ∨ due = 67 ∨ due = 68) with rfl | rfl | rfl | rfl | rfl | rfl | rfl | rfl
  all_goals exact cA _ (by decide)
theorem hAck (hA : Toks.A 0 ≤ 9223372036854775807) {due : Nat} (ho : okA due = true) (s : Rt W [lP 9] [pa] (H 60 8 due) w) :
    Calls Tryz.prog 11 #[.string ⟨#[97]⟩, .int .i64 1, .int .i64 1] w fun e w' => ∃ va, e = .returned va ∧ Rt W [lP 9, rv (rAk due)] [pa, va] (rh (rAk due)) w' := by
  have hc := cc0_ok 0 hA
  have e1 : rAk due = some (rv (rAk due), rh (rAk due)) := by
    have h := (bAnd_true ho).1
    cases hr : rAk due with
    | none => rw [hr] at h; cases h
    | some r => rfl
  refine (Rt.call hc.1 hc.2 (show cc 0 0 0 11 [lS [97],lI 1,lI 1] (H 60 8 due) = some (rv (rAk due), rh (rAk due)) from e1) s (args' := #[.string ⟨#[97]⟩, .int .i64 1, .int .i64 1]) (fun ρ _ => .cons (VR.flat rfl) (.cons (VR.flat rfl) (.cons (VR.flat rfl) .nil)))).mono ?_
  rintro e w' ⟨v', rfl, s1, hb⟩
  exact ⟨v', rfl, s1⟩
theorem hAs (hA : Toks.A 0 ≤ 9223372036854775807) {due : Nat} (ho : okA due = true) {va : Value} (s : Rt W [lP 9, rv (rAk due)] [pa, va] (rh (rAk due)) w) :
    Calls Tryz.prog 6 #[pa, va, .int .i64 0, .slice none 0 0] w fun e w' => e = .returned (.bool true) ∧ Rt W [lP 9] [pa] (H2 60 due) w' := by
  have hc := cc0_ok 0 hA
  have h := (bAnd_true ho).2
  split at h
  · rename_i r hr
    obtain ⟨h1, h2⟩ := bAnd_true h
    refine (Rt.call hc.1 hc.2 (show cc 0 0 0 6 [lP 9,rv (rAk due),lI 0,.slice none 0 0] (rh (rAk due)) = some (r.1, r.2) from hr) s (args' := #[pa, va, .int .i64 0, .slice none 0 0]) (fun ρ hl => ?_)).mono ?_
    · cases hl with
      | cons a hl => cases hl with
        | cons b _ => exact .cons a (.cons b (.cons (VR.flat rfl) (.cons (VR.flat rfl) .nil)))
    · rintro e w' ⟨v', rfl, s1, hb⟩
      rw [eqV2_eq h1] at s1
      have := s1.last (by kernel_rfl) rfl
      exact ⟨by rw [this], Rt.norm h2 (s1.take 1)⟩
  · cases h
/-- How far it is: the delay, when it is due, how often it was said, and when last. -/
def J (m n last d due : Nat) : Prop := m < due ∧ m ≤ 60 ∧ last ≤ m ∧ n ≤ m ∧ ((d = 2 ∧ n = 0 ∧ last = 0 ∧ due = 2) ∨ (d = 4 ∧ n = 1 ∧ last = 2 ∧ 4 ≤ due ∧ due ≤ 6) ∨ (d = 8 ∧ 2 ≤ n ∧ 4 ≤ last ∧ last + 4 ≤ due ∧ due ≤ last + 8 ∧ last + 10 ≤ 8 * n))
omit [Toks] in
theorem J.no {m n last d due : Nat} (h : J m n last d due) (hm : m + 1 ≤ 60) (hd : m + 1 ≠ due) : okN (m + 1) d due = true ∧ J (m + 1) n last d due ∧ m + 1 - last < 8 := by
  unfold J at *
  obtain ⟨h1, h2, h3, h4, h5⟩ := h
  rcases h5 with ⟨rfl, rfl, rfl, rfl⟩ | ⟨rfl, rfl, rfl, h6, h7⟩ | ⟨rfl, h6, h7, h8, h9, h10⟩
  · obtain rfl : m = 0 := by omega
    exact ⟨getN2, by omega, by omega⟩
  · refine ⟨getN4 ?_, by omega, by omega⟩
    have hc : (m + 1 = 3 ∧ due = 4) ∨ (m + 1 = 3 ∧ due = 5) ∨ (m + 1 = 4 ∧ due = 5) ∨ (m + 1 = 3 ∧ due = 6) ∨ (m + 1 = 4 ∧ due = 6) ∨ (m + 1 = 5 ∧ due = 6) := by omega
    simp only [List.mem_cons, List.not_mem_nil, or_false, Prod.mk.injEq]
    exact hc
  · exact ⟨getN (by omega) hm (by omega) (by omega) (by omega), by omega, by omega⟩
theorem J.yes {m n last d due : Nat} (h : J m n last d due) (hm : m + 1 ≤ 60) (hd : m + 1 = due) : ∃ d' j : Nat, jitI d' (Toks.A (m + 1)) = (j : Nat) ∧ okY (m + 1) d d' j = true ∧ J (m + 1) (n + 1) (m + 1) d' (m + 1 + d' - j) ∧ m + 1 - last ≤ 8 ∧ (2 < n → 4 ≤ m + 1 - last) := by
  have hjb : ∀ d' : Nat, 1 ≤ d' → d' ≤ 8 → ∃ j : Nat, jitI d' (Toks.A (m + 1)) = (j : Nat) ∧ 2 * j ≤ d' := by
    intro d' h1 h2
    have hb := jit_bd d' (Toks.A (m + 1))
    have hw : wl d' 1 = d' := by unfold wl; omega
    rw [hw] at hb
    exact ⟨(jitI d' (Toks.A (m + 1))).toNat, by omega, by omega⟩
  unfold J at *
  obtain ⟨h1, h2, h3, h4, h5⟩ := h
  rcases h5 with ⟨rfl, rfl, rfl, rfl⟩ | ⟨rfl, rfl, rfl, h6, h7⟩ | ⟨rfl, h6, h7, h8, h9, h10⟩
  · obtain rfl : m = 1 := by omega
    obtain ⟨j, hj, hj2⟩ := hjb 4 (by omega) (by omega)
    exact ⟨4, j, hj, getY2 (by omega), by omega, by omega, by omega⟩
  · obtain ⟨j, hj, hj2⟩ := hjb 8 (by omega) (by omega)
    exact ⟨8, j, hj, getY4 (by omega) (by omega) (by omega), by omega, by omega, by omega⟩
  · obtain ⟨j, hj, hj2⟩ := hjb 8 (by omega) (by omega)
    exact ⟨8, j, hj, getY (by omega) hm (by omega), by omega, by omega, by omega⟩
end
set_option maxHeartbeats 40000000 in
theorem walk (A0 : Option Addr) (n0 c0 : Nat) (x0 : List Int) (w : World) (b0 : IntRow .i64 w A0 n0 c0 x0) :
    Calls Tryz.prog 3 #[.slice A0 n0 c0] w fun e w' => e = .returned (.bool true) ∧ Below w.heap.size w w' := by
  obtain ⟨hn0, hc0, hx0, hr0, hw0⟩ := b0
  obtain ⟨tk, hT⟩ : ∃ tk : Toks, ∀ k, k < 1000 → @Toks.A tk k = (x0[k]?).getD 0 := ⟨⟨fun k => (x0[k]?).getD 0⟩, fun k hk => @Toks.A_low ⟨fun k => (x0[k]?).getD 0⟩ k (by omega)⟩
  have hA : ∀ k, k < 1000 → Toks.A k ≤ 9223372036854775807 := by
    intro k hk
    rw [hT k hk]
    cases h : x0[k]? with
    | none => simp
    | some v =>
      have := bounds_i64 (hw0 v (List.mem_of_getElem? h))
      simpa using this.2
  have HA := Lib.hid hA
  have HT := Lib.hid hT
  have HR0 := Lib.hid hr0
  have HX0 := Lib.hid hx0
  have hPl := hPlain (hA 0 (by decide)) w
  clear hr0 hx0 hw0 hT hA
  go_enter Tryz.func3, Tryz.ntmps3
  go_upto_region 2 with (first | (go_at_call 5; refine hPl.mono ?_; rintro e w1 ⟨rfl, s1⟩; clear hPl; have hU := hUp (HA.out 0 (by decide)) s1; clear s1) | (go_at_call 4; refine hU.mono ?_; rintro e w2 ⟨pa, pd, rfl, s2⟩; clear hU; have S2 := Lib.hid s2; clear s2))
  have s3 : Rt w [lP 9, lL 10 0 1 1] [pa, .slice (some ⟨w2.heap.size, 0, none⟩) 1 1] (M1.push ⟨[lS [97]], 9, 0, 1⟩) (w2.alloc (.cells #[.string ⟨#[97]⟩] 9)) :=
    Rt.push (cs := #[.string ⟨#[97]⟩]) (cells := [lS [97]]) (e := 9) (es := 1) (cap := 1) S2.out rfl (fun ρ _ k u hu => ⟨u, by simpa using hu, VR0.flat (by
      rcases k with _ | k
      · simp only [List.getElem?_cons_zero, Option.some.injEq] at hu
        rw [← hu]
        rfl
      · simp at hu)⟩)
  have hO := hOrd (HA.out 0 (by decide)) s3
  clear s3
  go_upto_region 4 with (first | (go_at_call 7; refine hO.mono ?_; rintro e w3 ⟨vo, rfl, s4⟩; clear hO; have hS := hSta (HA.out 0 (by decide)) s4; clear s4) | (go_at_call 8; refine hS.mono ?_; rintro e w4 ⟨rfl, s5⟩; clear hS; have s6 : Rt w [lP 9, rv rO, .slice (some ⟨(rh rS).n, 0, none⟩) 1 1] [pa, vo, .slice (some ⟨w4.heap.size, 0, none⟩) 1 1] hW (w4.alloc (.cells stL.toArray 34)) := Rt.push (cs := stL.toArray) (cells := stL) (e := 34) (es := 9) (cap := 1) s5 rfl (fun ρ _ k u hu => ⟨u, by simpa using hu, VR0.flat ((by decide : ∀ v ∈ stL, flat0 v = true) u (List.mem_of_getElem? hu))⟩); have hD := hSai (HA.out 0 (by decide)) s6; clear s5 s6; unfold stL at hD; unfold stL) | (go_at_call 6; refine hD.mono ?_; rintro e w5 ⟨rfl, s7⟩; clear hD; have S7 := Lib.hid s7; clear s7))
  have hSt : ∀ wx, Calls Tryz.prog 8 #[.string ⟨#[97]⟩, .int .i64 1, .int .i64 1, .int .i64 7] wx fun e w' => e = .returned (.agg stL.toArray) ∧ Below wx.heap.size wx w' := fun wx => Closed (HA.out 0 (by decide)) rSt_v (by kernel_rfl) rfl (by decide) wx
  have hSm : ∀ wx, Calls Tryz.prog 10 #[.agg stL.toArray, .agg stL.toArray] wx fun e w' => e = .returned (.bool true) ∧ Below wx.heap.size wx w' := fun wx => Closed (HA.out 0 (by decide)) rSm_v (by kernel_rfl) rfl (by decide) wx
  unfold stL at hSt hSm
  have HSt := Lib.hid hSt
  have HSm := Lib.hid hSm
  clear hSt hSm
  go_wp2_with fail
  go_loopw [6, 7, 8] (fun v6 v7 v8 wx => Hid (∃ m i n last d due : Nat, v6 = .int .i64 n ∧ v7 = .int .i64 last ∧ v8 = .int .i64 (i : Nat) ∧ Hid (i = m + 1) ∧ J m n last d due ∧ Rt w [lP 9] [pa] (H m d due) wx ∧ ∃ w7, w7 = wx)) (fun _ _ v8 _ => 61 - (intOf v8).toNat)
  case atStart => exact Lib.hid ⟨0, 1, 0, 0, 2, 2, rfl, rfl, rfl, Lib.hid rfl, by unfold J; omega, S7.out, _, rfl⟩
  case round =>
    obtain ⟨m, i, n, last, d, due, rfl, rfl, rfl, HI, hj, hs, w7, hw7⟩ := hrel.out
    subst hw7
    clear hrel
    have HJ := Lib.hid hj
    have HS := Lib.hid hs
    have hbd : i ≤ 61 ∧ n ≤ 60 ∧ last ≤ 60 ∧ last < i := by
      have := HI.out
      unfold J at hj
      omega
    clear hj hs
    have hi0 : (0 : Int) ≤ (i : Int) := by omega
    have hw3 : IntKind.i64.wrap ((i : Int) + 1) = (i : Int) + 1 := by rw [IntKind.wrap_i64]; omega
    by_cases hlt : (i : Int) ≤ 60
    · have hA := HA.out i (by omega)
      have hw1 : IntKind.i64.wrap ((i : Int) - (last : Int)) = (i : Int) - (last : Int) := by rw [IntKind.wrap_i64]; omega
      have hw2 : IntKind.i64.wrap ((n : Int) + 1) = (n : Int) + 1 := by rw [IntKind.wrap_i64]; omega
      have HAi := Lib.hid hA
      have HW1 := Lib.hid hw1
      have HW2 := Lib.hid hw2
      have HW3 := Lib.hid hw3
      clear hA hw1 hw2 hw3
      go_upto_if 39 with fail
      go_cut [9] from 36 to 43 (fun v9 wx => v9 = .int .i64 (Toks.A i) ∧ wx = w7)
      case first =>
        by_cases hl : (i : Int) < n0
        · have hr7 : Reads w7 w.heap.size 1 A0 n0 (x0.map (Value.int .i64)) := HR0.out.below HS.out.bel
          obtain ⟨ad, v, rfl, hv, hcv⟩ := ints_atI hr7 (by omega : i < n0)
          have hTv : Toks.A i = v := by rw [HT.out i (by omega), hv]; rfl
          have HTv := Lib.hid hTv
          clear hr7 hv hTv
          go_wp2_with fail
          go_meet
          exact ⟨by rw [HTv.out], rfl⟩
        · have hTv : Toks.A i = 0 := by
            rw [HT.out i (by omega), List.getElem?_eq_none (by have := HX0.out; omega)]
            rfl
          have HTv := Lib.hid hTv
          clear hTv
          go_wp2_with fail
          go_meet
          exact ⟨by rw [HTv.out], rfl⟩
      case rest =>
      obtain ⟨rfl, e9⟩ := hcut
      subst e9
      have hi1 : i - 1 = m := by have := HI.out; omega
      by_cases hd : i = due
      · obtain ⟨d', j, hj1, hok, hJ2, hl8, hn4⟩ := HJ.out.yes (by have := HI.out; omega) (by have := HI.out; omega)
        rw [← HI.out] at hj1 hok hJ2 hl8 hn4
        have hs := HS.out
        rw [← hd, ← hi1] at hs
        have hTk := Tick_yes HAi.out hj1 hok hs
        have HJ2 := Lib.hid hJ2
        have hg1 : ¬ (8 : Int) < (i : Int) - (last : Int) := by omega
        have HN4 := Lib.hid hn4
        have HG1 := Lib.hid hg1
        clear hj1 hok hJ2 hl8 hn4 hs hd hi1 hg1
        go_upto_region 12 with (go_at_call 9; refine hTk.mono ?_; rintro e w8 ⟨g, c, rfl, hcl, s8⟩)
        have m0 := hcl 0 _ rfl
        have m1 := hcl 1 _ rfl
        have m2 := hcl 2 _ rfl
        have m3 := hcl 3 _ rfl
        have m4 := hcl 4 _ rfl
        have m5 := hcl 5 _ rfl
        have m6 := hcl 6 _ rfl
        have m7 := hcl 7 _ rfl
        have m8 := hcl 8 _ rfl
        have S8 := Lib.hid s8
        have hb8 : Below w8.heap.size w8 w8.drew := (Below.refl _ _).drew
        have hSt := HSt.out
        have hSm := HSm.out
        clear hcl s8 hTk
        refine wp_region_noPanic ?_
        refine wp_region_held_drew (S := fun wa => Below w8.heap.size w8 wa) (by kernel_rfl) hb8 (fun hHeld => ?_)
        refine wpAnyH_take (i := 0) (oi := ?oib1) (v := ?vb1) ?hib1 (by kernel_rfl) (by kernel_rfl) (by kernel_rfl) (fun _ _ _ h => h) ?hyb1 hb8 ?restb1
        case hib1 => (simp only [List.getElem?_toArray, List.getElem?_cons_zero]; try rfl)
        case hyb1 => (refine Or.inl ⟨by rfl, ?_⟩; intro w hSw; go_simp; (try with_reducible rfl))
        try simp only [Act.put, List.setIfInBounds_toArray, List.set_cons_zero, List.set_cons_succ]
        refine wpAnyH_take (i := 1) (oi := ?oib2) (v := ?vb2) ?hib2 (by kernel_rfl) (by kernel_rfl) (by kernel_rfl) (fun _ _ _ h => h) ?hyb2 hb8 ?restb2
        case hib2 => (simp only [List.getElem?_toArray, List.getElem?_cons_succ, List.getElem?_cons_zero]; try rfl)
        case hyb2 => (refine Or.inl ⟨by rfl, ?_⟩; intro w hSw; go_simp; (try with_reducible rfl))
        try simp only [Act.put, List.setIfInBounds_toArray, List.set_cons_zero, List.set_cons_succ]
        refine wpAnyH_take (i := 2) (oi := ?oib3) (v := ?vb3) ?hib3 (by kernel_rfl) (by kernel_rfl) (by kernel_rfl) (fun _ _ _ h => h) ?hyb3 hb8 ?restb3
        case hib3 => (simp only [List.getElem?_toArray, List.getElem?_cons_succ, List.getElem?_cons_zero]; try rfl)
        case hyb3 => (refine Or.inl ⟨by rfl, ?_⟩; intro w hSw; go_simp; (try with_reducible rfl))
        try simp only [Act.put, List.setIfInBounds_toArray, List.set_cons_zero, List.set_cons_succ]
        refine wpAnyH_take (i := 3) (oi := ?oib4) (v := ?vb4) ?hib4 (by kernel_rfl) (by kernel_rfl) (by kernel_rfl) (fun _ _ _ h => h) ?hyb4 hb8 ?restb4
        case hib4 => (simp only [List.getElem?_toArray, List.getElem?_cons_succ, List.getElem?_cons_zero]; try rfl)
        case hyb4 => (refine Or.inl ⟨by rfl, ?_⟩; intro w hSw; go_simp; (try with_reducible rfl))
        try simp only [Act.put, List.setIfInBounds_toArray, List.set_cons_zero, List.set_cons_succ]
        refine wpAnyH_take (i := 4) (oi := ?oib5) (v := ?vb5) ?hib5 (by kernel_rfl) (by kernel_rfl) (by kernel_rfl) (fun _ _ _ h => h) ?hyb5 hb8 ?restb5
        case hib5 => (simp only [List.getElem?_toArray, List.getElem?_cons_succ, List.getElem?_cons_zero]; try rfl)
        case hyb5 => (refine Or.inl ⟨by rfl, ?_⟩; intro w hSw; go_simp; (try with_reducible rfl))
        try simp only [Act.put, List.setIfInBounds_toArray, List.set_cons_zero, List.set_cons_succ]
        refine wpAnyH_take (i := 5) (oi := ?oib6) (v := ?vb6) ?hib6 (by kernel_rfl) (by kernel_rfl) (by kernel_rfl) (fun _ _ _ h => h) ?hyb6 hb8 ?restb6
        case hib6 => (simp only [List.getElem?_toArray, List.getElem?_cons_succ, List.getElem?_cons_zero]; try rfl)
        case hyb6 => (refine Or.inl ⟨by rfl, ?_⟩; intro w hSw; go_simp; (try with_reducible rfl))
        try simp only [Act.put, List.setIfInBounds_toArray, List.set_cons_zero, List.set_cons_succ]
        refine wpAnyH_take (i := 6) (oi := ?oib7) (v := ?vb7) ?hib7 (by kernel_rfl) (by kernel_rfl) (by kernel_rfl) (fun _ _ _ h => h) ?hyb7 hb8 ?restb7
        case hib7 => (simp only [List.getElem?_toArray, List.getElem?_cons_succ, List.getElem?_cons_zero]; try rfl)
        case hyb7 => (refine Or.inl ⟨by rfl, ?_⟩; intro w hSw; go_simp; (try with_reducible rfl))
        try simp only [Act.put, List.setIfInBounds_toArray, List.set_cons_zero, List.set_cons_succ]
        refine wpAnyH_take (i := 7) (oi := ?oib8) (v := ?vb8) ?hib8 (by kernel_rfl) (by kernel_rfl) (by kernel_rfl) (fun _ _ _ h => h) ?hyb8 hb8 ?restb8
        case hib8 => (simp only [List.getElem?_toArray, List.getElem?_cons_succ, List.getElem?_cons_zero]; try rfl)
        case hyb8 => (refine Or.inl ⟨by rfl, ?_⟩; intro w hSw; go_simp; (try with_reducible rfl))
        try simp only [Act.put, List.setIfInBounds_toArray, List.set_cons_zero, List.set_cons_succ]
        refine wpAnyH_take (i := 8) (oi := ?oib9) (v := ?vb9) ?hib9 (by kernel_rfl) (by kernel_rfl) (by kernel_rfl) (fun _ _ _ h => h) ?hyb9 hb8 ?restb9
        case hib9 => (simp only [List.getElem?_toArray, List.getElem?_cons_succ, List.getElem?_cons_zero]; try rfl)
        case hyb9 => (refine Or.inl ⟨by rfl, ?_⟩; intro w hSw; go_simp; (try with_reducible rfl))
        try simp only [Act.put, List.setIfInBounds_toArray, List.set_cons_zero, List.set_cons_succ]
        refine wpAnyH_take (i := 9) (oi := ?oib10) (v := ?vb10) ?hib10 (by kernel_rfl) (by kernel_rfl) (by kernel_rfl) (fun _ _ _ h => h) ?hyb10 hb8 ?restb10
        case hib10 => (simp only [List.getElem?_toArray, List.getElem?_cons_succ, List.getElem?_cons_zero]; try rfl)
        case hyb10 => (refine Or.inl ⟨by rfl, ?_⟩; intro w hSw; go_simp; (try with_reducible rfl))
        try simp only [Act.put, List.setIfInBounds_toArray, List.set_cons_zero, List.set_cons_succ]
        refine wpAnyH_take (i := 10) (oi := ?oib11) (v := ?vb11) ?hib11 (by kernel_rfl) (by kernel_rfl) (by kernel_rfl) (fun _ _ _ h => h) ?hyb11 hb8 ?restb11
        case hib11 => (simp only [List.getElem?_toArray, List.getElem?_cons_succ, List.getElem?_cons_zero]; try rfl)
        case hyb11 => (refine Or.inl ⟨by rfl, ?_⟩; intro w hSw; go_simp; (try with_reducible rfl))
        try simp only [Act.put, List.setIfInBounds_toArray, List.set_cons_zero, List.set_cons_succ]
        refine wpAnyH_take (i := 11) (oi := ?oib12) (v := ?vb12) ?hib12 (by kernel_rfl) (by kernel_rfl) (by kernel_rfl) (fun _ _ _ h => h) ?hyb12 hb8 ?restb12
        case hib12 => (simp only [List.getElem?_toArray, List.getElem?_cons_succ, List.getElem?_cons_zero]; try rfl)
        case hyb12 => (refine Or.inl ⟨by rfl, ?_⟩; intro w hSw; go_simp; (try with_reducible rfl))
        try simp only [Act.put, List.setIfInBounds_toArray, List.set_cons_zero, List.set_cons_succ]
        refine wpAnyH_take (i := 12) (oi := ?oib13) (v := ?vb13) ?hib13 (by kernel_rfl) (by kernel_rfl) (by kernel_rfl) (fun _ _ _ h => h) ?hyb13 hb8 ?restb13
        case hib13 => (simp only [List.getElem?_toArray, List.getElem?_cons_succ, List.getElem?_cons_zero]; try rfl)
        case hyb13 => (refine Or.inl ⟨by rfl, ?_⟩; intro w hSw; go_simp; (try with_reducible rfl))
        try simp only [Act.put, List.setIfInBounds_toArray, List.set_cons_zero, List.set_cons_succ]
        refine wpAnyH_take (i := 13) (oi := ?oib14) (v := ?vb14) ?hib14 (by kernel_rfl) (by kernel_rfl) (by kernel_rfl) (fun _ _ _ h => h) ?hyb14 hb8 ?restb14
        case hib14 => (simp only [List.getElem?_toArray, List.getElem?_cons_succ, List.getElem?_cons_zero]; try rfl)
        case hyb14 => (refine Or.inl ⟨by rfl, ?_⟩; intro w hSw; go_simp; (try with_reducible rfl))
        try simp only [Act.put, List.setIfInBounds_toArray, List.set_cons_zero, List.set_cons_succ]
        refine wpAnyH_take (i := 14) (oi := ?oib15) (v := ?vb15) ?hib15 (by kernel_rfl) (by kernel_rfl) (by kernel_rfl) (fun _ _ _ h => h) ?hyb15 hb8 ?restb15
        case hib15 => (simp only [List.getElem?_toArray, List.getElem?_cons_succ, List.getElem?_cons_zero]; try rfl)
        case hyb15 => (refine Or.inl ⟨by rfl, ?_⟩; intro w hSw; have q0 := (hSw.cell (World.block_lt_of_cell? _ _ m0)).trans m0; have q1 := (hSw.cell (World.block_lt_of_cell? _ _ m1)).trans m1; have q2 := (hSw.cell (World.block_lt_of_cell? _ _ m2)).trans m2; have q3 := (hSw.cell (World.block_lt_of_cell? _ _ m3)).trans m3; have q4 := (hSw.cell (World.block_lt_of_cell? _ _ m4)).trans m4; have q5 := (hSw.cell (World.block_lt_of_cell? _ _ m5)).trans m5; have q6 := (hSw.cell (World.block_lt_of_cell? _ _ m6)).trans m6; have q7 := (hSw.cell (World.block_lt_of_cell? _ _ m7)).trans m7; have q8 := (hSw.cell (World.block_lt_of_cell? _ _ m8)).trans m8; go_simp; (try with_reducible rfl))
        try simp only [Act.put, List.setIfInBounds_toArray, List.set_cons_zero, List.set_cons_succ]
        refine wpAnyH_ready (rs := [15]) (by kernel_rfl) (by simp) ?_
        refine AllReadyH.cons (o := ?oib16) ?hib16 (fun K hK => ?stb16) AllReadyH.nil
        case hib16 => (simp only [List.getElem?_toArray, List.getElem?_cons_succ, List.getElem?_cons_zero]; try rfl)
        go_simp
        go_at_call 8
        refine (hSt _).mono ?_
        rintro e wa ⟨rfl, hba⟩
        try dsimp only
        have Ha : Below w8.heap.size w8 wa := hb8.trans (hba.mono hb8.size)
        refine hK.out _ _ Ha (fun _ => ?rsb16)
        clear hK K
        try simp only [Act.put, List.setIfInBounds_toArray, List.set_cons_zero, List.set_cons_succ]
        refine wpAnyH_ready (rs := [16]) (by kernel_rfl) (by simp) ?_
        refine AllReadyH.cons (o := ?oib17) ?hib17 (fun K hK => ?stb17) AllReadyH.nil
        case hib17 => (simp only [List.getElem?_toArray, List.getElem?_cons_succ, List.getElem?_cons_zero]; try rfl)
        go_simp
        go_at_call 10
        refine (hSm _).mono ?_
        rintro e wb ⟨rfl, hbb⟩
        try dsimp only
        have Hb : Below w8.heap.size w8 wb := Ha.trans (hbb.mono Ha.size)
        refine hK.out _ _ Hb (fun _ => ?rsb17)
        clear hK K
        try simp only [Act.put, List.setIfInBounds_toArray, List.set_cons_zero, List.set_cons_succ]
        refine wpAnyH_take (i := 17) (oi := ?oib18) (v := ?vb18) ?hib18 (by kernel_rfl) (by kernel_rfl) (by kernel_rfl) (fun _ _ _ h => h) ?hyb18 Hb ?restb18
        case hib18 => (simp only [List.getElem?_toArray, List.getElem?_cons_succ, List.getElem?_cons_zero]; try rfl)
        case hyb18 => (refine Or.inl ⟨by rfl, ?_⟩; intro w hSw; go_simp; (try with_reducible rfl))
        try simp only [Act.put, List.setIfInBounds_toArray, List.set_cons_zero, List.set_cons_succ]
        refine wpAnyH_take (i := 18) (oi := ?oib19) (v := ?vb19) ?hib19 (by kernel_rfl) (by kernel_rfl) (by kernel_rfl) (fun _ _ _ h => h) ?hyb19 Hb ?restb19
        case hib19 => (simp only [List.getElem?_toArray, List.getElem?_cons_succ, List.getElem?_cons_zero]; try rfl)
        case hyb19 => (refine Or.inl ⟨by rfl, ?_⟩; intro w hSw; go_simp; (try with_reducible rfl))
        try simp only [Act.put, List.setIfInBounds_toArray, List.set_cons_zero, List.set_cons_succ]
        refine wpAnyH_take (i := 19) (oi := ?oib20) (v := ?vb20) ?hib20 (by kernel_rfl) (by kernel_rfl) (by kernel_rfl) (fun _ _ _ h => h) ?hyb20 Hb ?restb20
        case hib20 => (simp only [List.getElem?_toArray, List.getElem?_cons_succ, List.getElem?_cons_zero]; try rfl)
        case hyb20 => (refine Or.inl ⟨by rfl, ?_⟩; intro w hSw; go_simp; (try with_reducible rfl))
        try simp only [Act.put, List.setIfInBounds_toArray, List.set_cons_zero, List.set_cons_succ]
        refine wpAnyH_done (by kernel_rfl) ?_ _
        refine NoPanic.normal ?_
        clear m0 m1 m2 m3 m4 m5 m6 m7 m8 hSt hSm
        have hs9 := S8.out.below (fun i o ho => Nat.le_of_lt_succ (kindsOk_get (kH _ _ _) i o ho)) Hb
        have S9 := Lib.hid hs9
        have hw1 := HW1.out
        have hw2 := HW2.out
        have hw3 := HW3.out
        have hg1 := HG1.out
        clear hs9 Hb Ha hb8 hba hbb
        by_cases hn2 : (2 : Int) < (n : Int)
        · have hg2 : ¬ (i : Int) - (last : Int) < 4 := by have := HN4.out (by omega); omega
          go_wp2_with fail
          refine ⟨?_, by simp [intOf]; omega⟩
          exact Lib.hid ⟨i, i + 1, n + 1, i, d', _, by simp, rfl, by simp, Lib.hid rfl, HJ2.out, S9.out, _, rfl⟩
        · go_wp2_with fail
          refine ⟨?_, by simp [intOf]; omega⟩
          exact Lib.hid ⟨i, i + 1, n + 1, i, d', _, by simp, rfl, by simp, Lib.hid rfl, HJ2.out, S9.out, _, rfl⟩
      · obtain ⟨hok, hJ2, hl8⟩ := HJ.out.no (by have := HI.out; omega) (by have := HI.out; omega)
        rw [← HI.out] at hok hJ2 hl8
        have hs := HS.out
        rw [← hi1] at hs
        have hTk := Tick_no HAi.out hok hs
        have HJ2 := Lib.hid hJ2
        have hg1 : ¬ (8 : Int) ≤ (i : Int) - (last : Int) := by omega
        have HG1 := Lib.hid hg1
        clear hok hJ2 hl8 hs hd hi1 hg1
        go_upto_region 12 with (go_at_call 9; refine hTk.mono ?_; rintro e w8 ⟨rfl, s8⟩)
        have S8 := Lib.hid s8
        clear s8 hTk
        refine wp_region_noPanic ?_
        refine wp_region_held_drew (S := fun _ => True) (by kernel_rfl) trivial (fun hHeld => ?_)
        refine wpAnyH_take (i := 0) (oi := ?oia1) (v := ?va1) ?hia1 (by kernel_rfl) (by kernel_rfl) (by kernel_rfl) (fun _ _ _ h => h) ?hya1 trivial ?resta1
        case hia1 => (simp only [List.getElem?_toArray, List.getElem?_cons_zero]; try rfl)
        case hya1 => (refine Or.inl ⟨by rfl, ?_⟩; intro w hSw; go_simp; (try with_reducible rfl))
        try simp only [Act.put, List.setIfInBounds_toArray, List.set_cons_zero, List.set_cons_succ]
        refine wpAnyH_take (i := 1) (oi := ?oia2) (v := ?va2) ?hia2 (by kernel_rfl) (by kernel_rfl) (by kernel_rfl) (fun _ _ _ h => h) ?hya2 trivial ?resta2
        case hia2 => (simp only [List.getElem?_toArray, List.getElem?_cons_succ, List.getElem?_cons_zero]; try rfl)
        case hya2 => (refine Or.inl ⟨by rfl, ?_⟩; intro w hSw; go_simp; (try with_reducible rfl))
        try simp only [Act.put, List.setIfInBounds_toArray, List.set_cons_zero, List.set_cons_succ]
        refine wpAnyH_take (i := 2) (oi := ?oia3) (v := ?va3) ?hia3 (by kernel_rfl) (by kernel_rfl) (by kernel_rfl) (fun _ _ _ h => h) ?hya3 trivial ?resta3
        case hia3 => (simp only [List.getElem?_toArray, List.getElem?_cons_succ, List.getElem?_cons_zero]; try rfl)
        case hya3 => (refine Or.inl ⟨by rfl, ?_⟩; intro w hSw; go_simp; (try with_reducible rfl))
        try simp only [Act.put, List.setIfInBounds_toArray, List.set_cons_zero, List.set_cons_succ]
        refine wpAnyH_take (i := 3) (oi := ?oia4) (v := ?va4) ?hia4 (by kernel_rfl) (by kernel_rfl) (by kernel_rfl) (fun _ _ _ h => h) ?hya4 trivial ?resta4
        case hia4 => (simp only [List.getElem?_toArray, List.getElem?_cons_succ, List.getElem?_cons_zero]; try rfl)
        case hya4 => (refine Or.inl ⟨by rfl, ?_⟩; intro w hSw; go_simp; (try with_reducible rfl))
        try simp only [Act.put, List.setIfInBounds_toArray, List.set_cons_zero, List.set_cons_succ]
        refine wpAnyH_take (i := 4) (oi := ?oia5) (v := ?va5) ?hia5 (by kernel_rfl) (by kernel_rfl) (by kernel_rfl) (fun _ _ _ h => h) ?hya5 trivial ?resta5
        case hia5 => (simp only [List.getElem?_toArray, List.getElem?_cons_succ, List.getElem?_cons_zero]; try rfl)
        case hya5 => (refine Or.inl ⟨by rfl, ?_⟩; intro w hSw; go_simp; (try with_reducible rfl))
        try simp only [Act.put, List.setIfInBounds_toArray, List.set_cons_zero, List.set_cons_succ]
        refine wpAnyH_take (i := 5) (oi := ?oia6) (v := ?va6) ?hia6 (by kernel_rfl) (by kernel_rfl) (by kernel_rfl) (fun _ _ _ h => h) ?hya6 trivial ?resta6
        case hia6 => (simp only [List.getElem?_toArray, List.getElem?_cons_succ, List.getElem?_cons_zero]; try rfl)
        case hya6 => (refine Or.inl ⟨by rfl, ?_⟩; intro w hSw; go_simp; (try with_reducible rfl))
        try simp only [Act.put, List.setIfInBounds_toArray, List.set_cons_zero, List.set_cons_succ]
        refine wpAnyH_take (i := 6) (oi := ?oia7) (v := ?va7) ?hia7 (by kernel_rfl) (by kernel_rfl) (by kernel_rfl) (fun _ _ _ h => h) ?hya7 trivial ?resta7
        case hia7 => (simp only [List.getElem?_toArray, List.getElem?_cons_succ, List.getElem?_cons_zero]; try rfl)
        case hya7 => (refine Or.inl ⟨by rfl, ?_⟩; intro w hSw; go_simp; (try with_reducible rfl))
        try simp only [Act.put, List.setIfInBounds_toArray, List.set_cons_zero, List.set_cons_succ]
        refine wpAnyH_take (i := 7) (oi := ?oia8) (v := ?va8) ?hia8 (by kernel_rfl) (by kernel_rfl) (by kernel_rfl) (fun _ _ _ h => h) ?hya8 trivial ?resta8
        case hia8 => (simp only [List.getElem?_toArray, List.getElem?_cons_succ, List.getElem?_cons_zero]; try rfl)
        case hya8 => (refine Or.inl ⟨by rfl, ?_⟩; intro w hSw; go_simp; (try with_reducible rfl))
        try simp only [Act.put, List.setIfInBounds_toArray, List.set_cons_zero, List.set_cons_succ]
        refine wpAnyH_take (i := 8) (oi := ?oia9) (v := ?va9) ?hia9 (by kernel_rfl) (by kernel_rfl) (by kernel_rfl) (fun _ _ _ h => h) ?hya9 trivial ?resta9
        case hia9 => (simp only [List.getElem?_toArray, List.getElem?_cons_succ, List.getElem?_cons_zero]; try rfl)
        case hya9 => (refine Or.inl ⟨by rfl, ?_⟩; intro w hSw; go_simp; (try with_reducible rfl))
        try simp only [Act.put, List.setIfInBounds_toArray, List.set_cons_zero, List.set_cons_succ]
        refine wpAnyH_take (i := 9) (oi := ?oia10) (v := ?va10) ?hia10 (by kernel_rfl) (by kernel_rfl) (by kernel_rfl) (fun _ _ _ h => h) ?hya10 trivial ?resta10
        case hia10 => (simp only [List.getElem?_toArray, List.getElem?_cons_succ, List.getElem?_cons_zero]; try rfl)
        case hya10 => (refine Or.inl ⟨by rfl, ?_⟩; intro w hSw; go_simp; (try with_reducible rfl))
        try simp only [Act.put, List.setIfInBounds_toArray, List.set_cons_zero, List.set_cons_succ]
        refine wpAnyH_take (i := 10) (oi := ?oia11) (v := ?va11) ?hia11 (by kernel_rfl) (by kernel_rfl) (by kernel_rfl) (fun _ _ _ h => h) ?hya11 trivial ?resta11
        case hia11 => (simp only [List.getElem?_toArray, List.getElem?_cons_succ, List.getElem?_cons_zero]; try rfl)
        case hya11 => (refine Or.inl ⟨by rfl, ?_⟩; intro w hSw; go_simp; (try with_reducible rfl))
        try simp only [Act.put, List.setIfInBounds_toArray, List.set_cons_zero, List.set_cons_succ]
        refine wpAnyH_take (i := 11) (oi := ?oia12) (v := ?va12) ?hia12 (by kernel_rfl) (by kernel_rfl) (by kernel_rfl) (fun _ _ _ h => h) ?hya12 trivial ?resta12
        case hia12 => (simp only [List.getElem?_toArray, List.getElem?_cons_succ, List.getElem?_cons_zero]; try rfl)
        case hya12 => (refine Or.inl ⟨by rfl, ?_⟩; intro w hSw; go_simp; (try with_reducible rfl))
        try simp only [Act.put, List.setIfInBounds_toArray, List.set_cons_zero, List.set_cons_succ]
        refine wpAnyH_take (i := 12) (oi := ?oia13) (v := undef) ?hia13 (by kernel_rfl) (by kernel_rfl) (by kernel_rfl) (fun _ _ _ h => h) ?hya13 trivial ?resta13
        case hia13 => (simp only [List.getElem?_toArray, List.getElem?_cons_succ, List.getElem?_cons_zero]; try rfl)
        case hya13 => exact Or.inr ⟨by rfl, rfl⟩
        try simp only [Act.put, List.setIfInBounds_toArray, List.set_cons_zero, List.set_cons_succ]
        refine wpAnyH_take (i := 13) (oi := ?oia14) (v := undef) ?hia14 (by kernel_rfl) (by kernel_rfl) (by kernel_rfl) (fun _ _ _ h => h) ?hya14 trivial ?resta14
        case hia14 => (simp only [List.getElem?_toArray, List.getElem?_cons_succ, List.getElem?_cons_zero]; try rfl)
        case hya14 => exact Or.inr ⟨by rfl, rfl⟩
        try simp only [Act.put, List.setIfInBounds_toArray, List.set_cons_zero, List.set_cons_succ]
        refine wpAnyH_take (i := 14) (oi := ?oia15) (v := undef) ?hia15 (by kernel_rfl) (by kernel_rfl) (by kernel_rfl) (fun _ _ _ h => h) ?hya15 trivial ?resta15
        case hia15 => (simp only [List.getElem?_toArray, List.getElem?_cons_succ, List.getElem?_cons_zero]; try rfl)
        case hya15 => exact Or.inr ⟨by rfl, rfl⟩
        try simp only [Act.put, List.setIfInBounds_toArray, List.set_cons_zero, List.set_cons_succ]
        refine wpAnyH_take (i := 15) (oi := ?oia16) (v := undef) ?hia16 (by kernel_rfl) (by kernel_rfl) (by kernel_rfl) (fun _ _ _ h => h) ?hya16 trivial ?resta16
        case hia16 => (simp only [List.getElem?_toArray, List.getElem?_cons_succ, List.getElem?_cons_zero]; try rfl)
        case hya16 => exact Or.inr ⟨by rfl, rfl⟩
        try simp only [Act.put, List.setIfInBounds_toArray, List.set_cons_zero, List.set_cons_succ]
        refine wpAnyH_take (i := 16) (oi := ?oia17) (v := undef) ?hia17 (by kernel_rfl) (by kernel_rfl) (by kernel_rfl) (fun _ _ _ h => h) ?hya17 trivial ?resta17
        case hia17 => (simp only [List.getElem?_toArray, List.getElem?_cons_succ, List.getElem?_cons_zero]; try rfl)
        case hya17 => exact Or.inr ⟨by rfl, rfl⟩
        try simp only [Act.put, List.setIfInBounds_toArray, List.set_cons_zero, List.set_cons_succ]
        refine wpAnyH_take (i := 17) (oi := ?oia18) (v := undef) ?hia18 (by kernel_rfl) (by kernel_rfl) (by kernel_rfl) (fun _ _ _ h => h) ?hya18 trivial ?resta18
        case hia18 => (simp only [List.getElem?_toArray, List.getElem?_cons_succ, List.getElem?_cons_zero]; try rfl)
        case hya18 => exact Or.inr ⟨by rfl, rfl⟩
        try simp only [Act.put, List.setIfInBounds_toArray, List.set_cons_zero, List.set_cons_succ]
        refine wpAnyH_take (i := 18) (oi := ?oia19) (v := ?va19) ?hia19 (by kernel_rfl) (by kernel_rfl) (by kernel_rfl) (fun _ _ _ h => h) ?hya19 trivial ?resta19
        case hia19 => (simp only [List.getElem?_toArray, List.getElem?_cons_succ, List.getElem?_cons_zero]; try rfl)
        case hya19 => (refine Or.inl ⟨by rfl, ?_⟩; intro w hSw; go_simp; (try with_reducible rfl))
        try simp only [Act.put, List.setIfInBounds_toArray, List.set_cons_zero, List.set_cons_succ]
        refine wpAnyH_take (i := 19) (oi := ?oia20) (v := ?va20) ?hia20 (by kernel_rfl) (by kernel_rfl) (by kernel_rfl) (fun _ _ _ h => h) ?hya20 trivial ?resta20
        case hia20 => (simp only [List.getElem?_toArray, List.getElem?_cons_succ, List.getElem?_cons_zero]; try rfl)
        case hya20 => (refine Or.inl ⟨by rfl, ?_⟩; intro w hSw; go_simp; (try with_reducible rfl))
        try simp only [Act.put, List.setIfInBounds_toArray, List.set_cons_zero, List.set_cons_succ]
        refine wpAnyH_done (by kernel_rfl) ?_ _
        refine NoPanic.normal ?_
        have hs9 := S8.out.below (fun i o ho => Nat.le_of_lt_succ (kindsOk_get (kH _ _ _) i o ho)) ((Below.refl _ _).drew)
        have S9 := Lib.hid hs9
        have hw1 := HW1.out
        have hw3 := HW3.out
        have hg1 := HG1.out
        clear hs9
        go_wp2_with fail
        refine ⟨?_, by simp [intOf]; omega⟩
        exact Lib.hid ⟨i, i + 1, n, last, d, due, rfl, rfl, by simp, Lib.hid rfl, HJ2.out, S9.out, _, rfl⟩
    · have hj := HJ.out
      have hm60 : m = 60 := by have := HI.out; unfold J at hj; omega
      have hd8 : d = 8 ∧ 61 ≤ due ∧ due ≤ 68 ∧ ¬ (n : Int) < 7 := by unfold J at hj; omega
      obtain ⟨rfl, h61, h68, hn7⟩ := hd8
      subst hm60
      have ho := okA_get h61 h68
      have hAk := hAck (HA.out 0 (by decide)) ho HS.out
      have HO := Lib.hid ho
      have HDU := Lib.hid (And.intro h61 h68)
      clear hj ho h61 h68 hw3
      go_upto_region 22 with (first | (go_at_call 11; refine hAk.mono ?_; rintro e w8 ⟨va, rfl, s8⟩; clear hAk; have hAs2 := hAs (HA.out 0 (by decide)) HO.out s8; clear s8) | (go_at_call 6; refine hAs2.mono ?_; rintro e w9 ⟨rfl, s9⟩; clear hAs2; have S9 := Lib.hid s9; clear s9))
      go_wp2_with fail
      go_loopw [12] (fun v12 wx => Hid (∃ k : Nat, v12 = .int .i64 k ∧ k ≤ 20 ∧ Rt w [lP 9] [pa] (H2 (60 + k) due) wx ∧ ∃ w7, w7 = wx)) (fun v12 _ => 20 - (intOf v12).toNat)
      case atStart => exact Lib.hid ⟨0, rfl, by omega, S9.out, _, rfl⟩
      case round =>
        obtain ⟨k, rfl, hk, hs, w10, hw10⟩ := hrel.out
        subst hw10
        clear hrel
        have HS10 := Lib.hid hs
        clear hs
        by_cases hlt2 : (k : Int) < 20
        · have hTe := Tick_end (HA.out 0 (by decide)) (getE (by omega) HDU.out.1 HDU.out.2) HS10.out
          go_wp2_with (go_at_call 9; refine hTe.mono ?_; rintro e w11 ⟨rfl, s11⟩; clear hTe; have S11 := Lib.hid s11; clear s11)
          refine ⟨?_, by simp [intOf]; omega⟩
          have e : 60 + (k + 1) = 61 + k := by omega
          exact Lib.hid ⟨k + 1, by simp, by omega, by rw [e]; exact S11.out, _, rfl⟩
        · go_wp2_with (go_at_call 12; refine (wkk _).mono ?_; rintro e w11 ⟨rfl, hb11⟩)
          go_ret
          exact ⟨rfl, HS10.out.bel.trans (hb11.mono HS10.out.bel.size)⟩

end Go.Proofs.YtikbklfbinanpaaGreatDoor.agentAgain
