/- The walk of HandsHello: the Go text returns true, and writes nothing that was there. -/
import Derived.Test.YtiflhfhonhbcpaaHan6
import Derived.Test.YtiflhfhonhbcpaaAllSum
import Derived.Deep.CutRange
import Derived.Deep.RegionHeld3
import Derived.Deep.DeepCutAuto
import Derived.Deep.CutBlock
import Derived.Lib.Builder
import Derived.Deep.RegionLaw
import Derived.IntWalk
import Derived.StillTailTactics
import Derived.Test.YtiflhfhonhbcpaaSameInt
import Derived.Test.YtiflhfhonhbcpaaMas8
import Derived.Test.YtiflhfhonhbcpaaRdz
namespace Go.Proofs.Ytiflhfhonhbcpaa.handsHello
open Go.ChangeShapes Go.WideShapes Go.ChangeAt Go.RowKit
set_option linter.unusedVariables false
set_option maxRecDepth 100000
open Go.Proofs.Ytiflhfhonhbcpaa.Mas Go.Proofs.Ytiflhfhonhbcpaa.Crw Go.Proofs.Ytiflhfhonhbcpaa.Han
theorem wkk (w : World) : Calls Try.prog 14 #[] w fun e w' => e = .returned (.bool true) ∧ Below w.heap.size w w' := wakes_14.2.2.2 w
/-- The hands, and the law's own list of those that are there. -/
structure HhI (w wr : World) (h xb sb kb : Nat) (V : Nat → Prop) (R : List Pr) (v vt : Value) (ns : List Int) : Prop where
  hn : HnP wr w.heap.size h xb sb kb V R ns v
  same : R.map (·.n) = ns
  th : wr.ownsRow w.heap.size 3 1 vt ns.length (ints ns)
  tv : ∀ b, vt.ownBlock = some b → ¬ V b
  bel : Below w.heap.size w wr
theorem hnp_vol {w w' : World} {B h xb sb kb : Nat} {V U : Nat → Prop} {R : List Pr} {S : List Int} {v : Value} (H : HnP w B h xb sb kb V R S v) (hv : Vol U w w') (hd : ∀ b, V b → ¬ U b) : HnP w' B h xb sb kb V R S v :=
  ⟨blk_vol H.blk hv (hd _ H.vm.1), H.ex.keep (hv.block _ H.ex.lt (hd _ H.vm.2.1)), H.sd.keep (hv.block _ H.sd.lt (hd _ H.vm.2.2)), fun k p hp => blk_vol (H.prs k p hp) hv (hd _ (H.vp k p hp)), own_vol H.row hv (fun b hb => hd b (H.vr b hb)), H.sub, H.uniq, H.apart, H.ne, H.vm, H.vp, H.vr, fun b e => Nat.lt_of_lt_of_le (H.lt b e) hv.size, H.ge⟩
theorem bel_vol {w w1 w2 : World} {U : Nat → Prop} (h : Below w.heap.size w w1) (hv : Vol U w1 w2) (hU : ∀ b, U b → w.heap.size ≤ b) : Below w.heap.size w w2 :=
  ⟨hv.os.trans h.os, hv.tape.trans h.tape, hv.output.trans h.output, Nat.le_trans h.size hv.size, fun b hb => (hv.block b (Nat.lt_of_lt_of_le hb h.size) (fun e => by have := hU b e; omega)).trans (h.block b hb)⟩
/-- Behind the rounds: the numbers that ever were stand apart. -/
structure HhJ (w wr : World) (h xb sb kb : Nat) (V : Nat → Prop) (R : List Pr) (S : List Int) (v vt : Value) (L : Nat) : Prop where
  hn : HnP wr w.heap.size h xb sb kb V R S v
  th : wr.ownsRow w.heap.size 3 1 vt L (ints (R.map (·.n)))
  tv : ∀ b, vt.ownBlock = some b → ¬ V b
  bel : Below w.heap.size w wr
  len : L = R.length
theorem HhJ.below {w wr w2 : World} {h xb sb kb : Nat} {V : Nat → Prop} {R : List Pr} {S : List Int} {v vt : Value} {L : Nat} (H : HhJ w wr h xb sb kb V R S v vt L) (hb : Below wr.heap.size wr w2) : HhJ w w2 h xb sb kb V R S v vt L :=
  ⟨H.hn.below hb, own_keep H.th hb, H.tv, H.bel.trans (hb.mono H.bel.size), H.len⟩
theorem HhJ.vol {w wr w2 : World} {h xb sb kb : Nat} {V U : Nat → Prop} {R : List Pr} {S : List Int} {v vt : Value} {L : Nat} (H : HhJ w wr h xb sb kb V R S v vt L) (hv : Vol U wr w2) (h1 : ∀ b, V b → ¬ U b) (h2 : ∀ b, vt.ownBlock = some b → ¬ U b) (h3 : ∀ b, U b → w.heap.size ≤ b) : HhJ w w2 h xb sb kb V R S v vt L :=
  ⟨hnp_vol H.hn hv h1, own_vol H.th hv h2, H.tv, bel_vol H.bel hv h3, H.len⟩
theorem heV_get (R : List Pr) (k : Nat) (p : Pr) (h : R[k]? = some p) (j : Nat) (hj : j < 9) : (heV R)[k * 9 + j]? = (abC 7 p.n)[j]? := by
  induction R generalizing k with
  | nil => simp at h
  | cons a r ih =>
    have e : heV (a :: r) = (abC 7 a.n).toList ++ heV r := by simp [heV]
    cases k with
    | zero =>
      simp only [List.getElem?_cons_zero, Option.some.injEq] at h
      subst h
      rw [e, Nat.zero_mul, Nat.zero_add, List.getElem?_append_left (by simpa using hj)]
      simp
    | succ k =>
      have e2 : (k + 1) * 9 + j = 9 + (k * 9 + j) := by omega
      rw [e, e2, List.getElem?_append_right (by simp), show (abC 7 a.n).toList.length = 9 by simp, Nat.add_sub_cancel_left]
      exact ih k (by simpa using h)
set_option maxHeartbeats 80000000 in
theorem walk (A0 : Option Addr) (n0 c0 : Nat) (x0 : List Int) (a1 : Int) (w : World) (b0 : IntRow .i64 w A0 n0 c0 x0) (b1 : -9223372036854775808 ≤ a1 ∧ a1 ≤ 9223372036854775807) :
    Calls Try.prog 3 #[.slice A0 n0 c0, .int .i64 a1] w fun e w' => e = .returned (.bool true) ∧ Below w.heap.size w w' := by
  obtain ⟨hn0, hc0, hx0, hr0, hw0⟩ := b0
  have HR0 := Lib.hid hr0
  have HX0 := Lib.hid hx0
  have HW0 := Lib.hid hw0
  clear hr0 hw0 hx0
  obtain ⟨i0, hi0, hz0, hz1, hz2⟩ := info_parts int_infoM
  go_enter Try.func3, Try.ntmps3
  go_wp2_with fail
  refine (New_h _).mono ?_
  rintro e w1 ⟨h, xb, sb, kb, V, rfl, hH, hb1⟩
  have HI0 : Hid (HhI w w1 h xb sb kb V [] (.slice none 0 0) (.slice none 0 0) []) := Lib.hid ⟨hH, rfl, ⟨by simp, .inl ⟨rfl, rfl⟩⟩, fun b e => by simp [Value.ownBlock] at e, hb1⟩
  clear hH hb1
  go_wp2_with fail
  go_loopw [6, 7] (fun vt vi wr => Hid (∃ (i : Nat) (V : Nat → Prop) (R : List Pr) (v : Value) (ns : List Int), vi = .int .i64 i ∧ i ≤ 8 ∧ ns.length ≤ i ∧ HhI w wr h xb sb kb V R v vt ns ∧ ∃ w7, w7 = wr)) (fun _ vi _ => 8 - (intOf vi).toNat)
  case atStart => exact Lib.hid ⟨0, V, [], _, [], rfl, by omega, by simp, HI0.out, _, rfl⟩
  case round =>
    obtain ⟨i, V1, R, v, ns, rfl, hi, hns, hI, wr, hwr⟩ := hrel.out
    subst hwr
    clear hrel HI0
    obtain ⟨At, ct, rfl, hct, -⟩ := own_slice hI.th
    have HI := Lib.hid hI
    have HNS := Lib.hid hns
    clear hI hns
    obtain ⟨L, hL⟩ : ∃ L, L = ns.length := ⟨_, rfl⟩
    rw [← hL] at hct
    have HL := Lib.hid hL
    have hL8 : L ≤ 8 := by have := HNS.out; omega
    have hI2 := HI.out
    rw [← hL] at hI2
    have HI2 := Lib.hid hI2
    simp only [← hL]
    clear hL hI2
    by_cases hall : (i : Int) < n0 ∧ (i : Int) < 8
    · obtain ⟨h1, h2⟩ := hall
      have hR0 : Reads wr w.heap.size 1 A0 n0 (x0.map (Value.int .i64)) := HR0.out.below HI.out.bel
      obtain ⟨ad, x, rfl, hx, hcx⟩ := ints_atI hR0 (by omega : i < n0)
      have hbx := bounds_i64 (HW0.out x (List.mem_of_getElem? hx))
      have hq1 := Int.emod_nonneg x (show (20 : Int) ≠ 0 by omega)
      have hq2 := Int.emod_lt_of_pos x (show (0 : Int) < 20 by omega)
      have hW : ∀ w, Calls Try.prog 10 #[.int .i64 x, .int .i64 20] w fun e w' => e = .returned (.int .i64 (x % 20)) ∧ w = w' := fun w => Within_any x 20 w (by omega) (by omega) (by omega) (by omega)
      clear hR0 hx hbx
      generalize x % 20 = q at *
      go_upto_block 2 with (go_at_call 10; refine (hW _).mono ?_; rintro e w' ⟨rfl, rfl⟩)
      clear hW hcx
      go_wp2_with fail
      go_loopw [9, 41] (fun vs vj wx => Hid (∃ j : Nat, vj = .int .i64 j ∧ j ≤ L ∧ vs = .bool (decide (1 + q ∈ ns.take j)) ∧ wx = wr)) (fun _ vj _ => L - (intOf vj).toNat)
      case atStart => exact Lib.hid ⟨0, rfl, by omega, by simp, rfl⟩
      case round =>
        obtain ⟨j, rfl, hj, rfl, rfl⟩ := hrel.out
        clear hrel
        by_cases hjl : (j : Int) < L
        · obtain ⟨u, rfl⟩ := own_some HI.out.th (by have := HL.out; omega)
          obtain ⟨y, hy⟩ : ∃ y, ns[j]? = some y := ⟨ns[j]'(by have := HL.out; omega), List.getElem?_eq_getElem _⟩
          have cy := (HI.out.th.cellAt j (by have := HL.out; omega)).trans (show _ = some (Value.int .i64 y) by rw [List.getElem?_map, hy]; rfl)
          have htk : ns.take (j + 1) = ns.take j ++ [y] := by rw [List.take_add_one, hy]; rfl
          have HE := Lib.hid (show decide (1 + q ∈ ns.take (j + 1)) = (decide (1 + q ∈ ns.take j) || (y == 1 + q)) by
            rw [htk]
            by_cases e1 : 1 + q ∈ ns.take j
            · simp [e1]
            · by_cases e2 : y = 1 + q
              · simp [e2]
              · have e3 : ¬ (1 + q = y) := fun e => e2 e.symm
                simp [e1, e2, e3])
          clear htk hy
          generalize decide (1 + q ∈ ns.take j) = sn at *
          cases sn with
          | true =>
            go_wp2_with fail
            refine ⟨?_, by simp [intOf]; omega⟩
            exact Lib.hid ⟨j + 1, by simp, by omega, by rw [HE.out]; rfl, trivial⟩
          | false =>
            by_cases e2 : y = 1 + q
            · have e3 : (y == 1 + q) = true := by simpa using e2
              have HE3 := Lib.hid e3
              clear e2
              go_wp2_with fail
              refine ⟨?_, by simp [intOf]; omega⟩
              exact Lib.hid ⟨j + 1, by simp, by omega, by rw [HE.out, HE3.out]; rfl, trivial⟩
            · have e3 : (y == 1 + q) = false := by simpa using e2
              have HE3 := Lib.hid e3
              clear e2
              go_wp2_with fail
              refine ⟨?_, by simp [intOf]; omega⟩
              exact Lib.hid ⟨j + 1, by simp, by omega, by rw [HE.out, HE3.out]; rfl, trivial⟩
        · have hjL : Hid (ns.take j = ns) := Lib.hid (by rw [show j = ns.length by have := HL.out; omega]; exact List.take_length)
          rw [hjL.out]
          by_cases hin : 1 + q ∈ ns
          · rw [decide_eq_true hin]
            have hH := Hear_yes HI.out.hn hin
            clear hin
            go_wp2_with (go_at_call 11; refine hH.mono ?_; rintro r w2 ⟨rfl, hb2⟩)
            refine ⟨?_, by simp [intOf]; omega⟩
            exact Lib.hid ⟨i + 1, V1, R, v, ns, by simp, by omega, by have := HNS.out; omega, ⟨HI2.out.hn.below hb2, HI2.out.same, own_keep HI2.out.th hb2, HI2.out.tv, HI2.out.bel.trans (hb2.mono HI2.out.bel.size)⟩, _, rfl⟩
          · rw [decide_eq_false hin]
            have hH := Hear_no HI.out.hn hin (by have := HI.out.same; have := congrArg List.length this; simp at this; have := HNS.out; omega)
            have HIN := Lib.hid hin
            clear hin
            go_wp2_with (first | (go_at_call 11; refine hH.mono ?_; rintro r w2 ⟨c, V2, v2, g, rfl, y1, y2, y3, y4, y5, y6, y7⟩; have HTH := Lib.hid (own_vol HI2.out.th y7 HI2.out.tv); have HY := Lib.hid (And.intro y4 (And.intro y5 (And.intro y6 y7))); clear y1 y2 y3 y4 y5 y6 y7 hH) | (at_builtin; refine wpList_append_any _ rfl _ _ 22 rfl w.heap.size 3 i0 (.int .i64 0) 1 8 Try.underlying22 hi0 hz0 hz1 hz2 rfl (by decide) _ _ (ints ns) rfl (by have h := HTH.out.alloc (.cells #[.int .i64 (1 + q)] 3); rw [← HL.out] at h; exact h) (w2.alloc (.cells #[.int .i64 (1 + q)] 3)).heap.size (some ⟨w2.heap.size, 0, none⟩) 1 1 [.int .i64 (1 + q)] rfl (reads_one w2 (.int .i64 (1 + q)) 3) (by simp [Value.oneCell']) (by simp only [maxLen]; omega) (by omega) (by have := HI2.out.bel.size; have := HY.out.2.2.2.size; simp; omega) ?_; intro v7 w7 hown7 hg7 hn7))
            refine ⟨?_, by simp [intOf]; omega⟩
            have hg7 : (w2.alloc (.cells #[.int .i64 (1 + q)] 3)).grownBy w7 (Value.slice At L ct).ownBlock := hg7
            have hn7 : v7.ownBlock = (Value.slice At L ct).ownBlock ∨ v7.ownBlock = some (w2.alloc (.cells #[.int .i64 (1 + q)] 3)).heap.size := hn7
            have vol7 : Vol (fun b => (Value.slice At L ct).ownBlock = some b) w2 w7 := ((Vol.refl w2).alloc _).grown hg7 (fun k hk => .inl hk)
            have tv2 : ∀ b, (Value.slice At L ct).ownBlock = some b → ¬ V2 b := fun b e hb => by
              rcases HY.out.2.2.1 b hb with h1 | h1
              · exact HI2.out.tv b e h1
              · have := (HI2.out.th.lt b e).2; omega
            refine Lib.hid ⟨i + 1, V2, R ++ [⟨g, 1 + q⟩], v2, ns ++ [1 + q], by simp, by omega, by have := HNS.out; simp; omega, ⟨hnp_vol HY.out.1 vol7 (fun b hb e => tv2 b e hb), by simp [HI2.out.same], ?_, fun b e hb => ?_, ?_⟩, _, rfl⟩
            · have e1 : ints (ns ++ [1 + q]) = ints ns ++ [.int .i64 (1 + q)] := by simp
              rw [e1, List.length_append, ← HL.out]
              exact hown7
            · rcases hn7 with h1 | h1
              · exact tv2 b (by rw [← h1]; exact e) hb
              · rw [e] at h1
                injection h1 with h1
                have := HY.out.1.lt b hb
                rw [h1] at this
                simp at this
                omega
            · exact bel_vol (bel_vol HI2.out.bel HY.out.2.2.2 (fun b e => HI2.out.hn.ge b e)) vol7 (fun b e => (HI2.out.th.lt b e).1)
    · have hall2 : ¬ (i : Int) < n0 ∨ ((i : Int) < n0 ∧ ¬ (i : Int) < 8) := by omega
      have hsm := HI2.out.same
      have hLR : L = R.length := by rw [HL.out, ← hsm]; simp
      have HJ : Hid (HhJ w wr h xb sb kb V1 R ns v (.slice At L ct) L) := Lib.hid ⟨HI2.out.hn, by have := HI2.out.th; rw [← HL.out, ← hsm] at this; exact this, HI2.out.tv, HI2.out.bel, hLR⟩
      clear hall HI HI2 HNS hsm hLR HL
      rcases hall2 with h1 | ⟨h1, h2⟩
      all_goals
        go_upto_if 69 with fail
        go_cut [6] from 67 to 91 (fun vt wx => Hid (∃ (L : Nat) (V : Nat → Prop) (R : List Pr) (v : Value), L ≤ 8 ∧ HhJ w wx h xb sb kb V R ns v vt L ∧ ∃ w7, w7 = wx))
        case first =>
          by_cases hpos : 0 < L
          · obtain ⟨u, hu⟩ := own_some HJ.out.th hpos
            subst hu
            have hq1 := Int.emod_nonneg a1 (show (L : Int) ≠ 0 by omega)
            have hq2 := Int.emod_lt_of_pos a1 (show (0 : Int) < L by omega)
            have hW : ∀ w, Calls Try.prog 10 #[.int .i64 a1, .int .i64 L] w fun e w' => e = .returned (.int .i64 (a1 % L)) ∧ w = w' := fun w => Within_any a1 L w (by omega) (by omega) (by omega) (by omega)
            obtain ⟨k, hk⟩ : ∃ k : Nat, a1 % (L : Int) = k := ⟨(a1 % (L : Int)).toNat, by omega⟩
            rw [hk] at hW hq2
            have hkL : k < L := by omega
            obtain ⟨p, hp⟩ : ∃ p, R[k]? = some p := ⟨R[k]'(by have := HJ.out.len; omega), List.getElem?_eq_getElem _⟩
            have ck : wr.cell? ⟨u, k, none⟩ = some (.int .i64 p.n) := (HJ.out.th.cellAt k (by omega)).trans (by simp [hp])
            obtain ⟨n, hn⟩ : ∃ n, p.n = n := ⟨_, rfl⟩
            have hH := Hear_stop HJ.out.hn hp hn (by have := HJ.out.len; omega)
            rw [hn] at ck
            have HP := Lib.hid hp
            clear hk hq1 hq2 hn hp
            go_upto_region 24 with (first | (go_at_call 10; refine (hW _).mono ?_; rintro e w' ⟨rfl, rfl⟩) | (go_at_call 11; refine hH.mono ?_; rintro r w2 ⟨c, v2, rfl, y1, y2, y3, y4, y5⟩; have HTH := Lib.hid (own_vol HJ.out.th y5 HJ.out.tv); have HY := Lib.hid (And.intro y4 y5); clear y1 y2 y3 y4 y5 hH))
            have hsz : Hid (w.heap.size ≤ w2.heap.size) := Lib.hid (Nat.le_trans HJ.out.bel.size HY.out.2.size)
            have hr1 : Hid (Reads w2 w2.heap.size 1 (some ⟨u, 0, none⟩) k ((ints (R.map (·.n))).take k)) := Lib.hid (by
              have h := (Reads.of_own HTH.out).takeZ (m := k) (by omega)
              rw [Nat.mul_one] at h
              exact h)
            have hr2 : Hid (Reads w2 w2.heap.size 1 (if ct = k + 1 then some ⟨u, 0, none⟩ else some ⟨u, k + 1, none⟩) (L - (k + 1)) ((ints (R.map (·.n))).drop (k + 1))) := Lib.hid (by
              have h := (Reads.of_own HTH.out).cut (k := k + 1) (cap := ct) (by omega) hct
              rw [Nat.mul_one, Option.map_some, add_zero_off] at h
              exact h)
            have z1 : IntKind.i64.wrap ((k : Int) + 1) = (k : Int) + 1 := IntWalk.i64_in _ (by omega)
            have z2 : (0 : Int) ≤ (k : Int) + 1 := by omega
            have z3 : ((k : Int) + 1).toNat = k + 1 := by omega
            have z4 : (0 : Int) ≤ (k : Int) := by omega
            have z5 : (k : Int) ≤ (ct : Int) := by omega
            have z6 : (k : Int) + 1 ≤ (L : Int) := by omega
            have z7 : (k : Int) + 1 ≤ (ct : Int) := by omega
            clear ck
            go_region_law (first | (refine step_append_any _ rfl (.const (.slice none 0 0)) (.tmp 85) 22 rfl w.heap.size 3 i0 (.int .i64 0) 1 8 Try.underlying22 hi0 hz0 hz1 hz2 rfl (by decide) (.slice none 0 0) 0 [] (by simp [Act.eval]) ⟨by simp, .inl ⟨rfl, rfl⟩⟩ w2.heap.size (some ⟨u, 0, none⟩) k ct ((ints (R.map (·.n))).take k) (by first | (simp [Act.eval]; done) | (simp [Act.eval, Act.put]; done)) hr1.out.drew (fun x hx => ints_one _ x (List.mem_of_mem_take hx)) (by simp only [maxLen]; omega) (by omega) (by have := hsz.out; simpa using this) ?_; intro v13 w13 hown13 hg13 hne13) | (refine step_append_any _ rfl (.tmp 86) (.tmp 90) 22 rfl w.heap.size 3 i0 (.int .i64 0) 1 8 Try.underlying22 hi0 hz0 hz1 hz2 rfl (by decide) v13 (0 + k) ([] ++ (ints (R.map (·.n))).take k) (by first | (simp [Act.eval]; done) | (simp [Act.eval, Act.put]; done)) hown13 w2.heap.size (if ct = k + 1 then some ⟨u, 0, none⟩ else some ⟨u, k + 1, none⟩) (L - (k + 1)) (ct - (k + 1)) ((ints (R.map (·.n))).drop (k + 1)) (by first | (simp [Act.eval]; done) | (simp [Act.eval, Act.put]; done)) (hr2.out.drew.grown hg13 (Nat.le_refl _) (fun q hq => by cases hq)) (fun x hx => ints_one _ x (List.mem_of_mem_drop hx)) (by simp only [maxLen]; omega) (by omega) (by have h1 := hsz.out; have h2 := hg13.size; simp at h2; omega) ?_; intro v14 w14 hown14 hg14 hne14))
            all_goals go_wp2_with fail
            all_goals
              go_meet
              case rel =>
                have hkR : k < R.length := by have := HJ.out.len; omega
                have hB13 : Below w2.heap.size w2 w13 := ⟨hg13.os, hg13.tape, hg13.output, hg13.size, fun q hq => hg13.block q hq (by simp [Value.ownBlock])⟩
                have hV13 : ∀ q, v13.ownBlock = some q → w2.heap.size ≤ q := fun q e => by
                  rcases hne13 with h | h
                  · rw [h] at e; simp [Value.ownBlock] at e
                  · rw [h] at e; injection e with e; subst e; exact Nat.le_refl _
                have hB14 : Below w2.heap.size w2 w14 := hB13.grown hg14 hB13.size hV13
                have hV14 : ∀ q, v14.ownBlock = some q → w2.heap.size ≤ q := fun q e => by
                  rcases hne14 with h | h
                  · exact hV13 q (by rw [← h]; exact e)
                  · rw [h] at e; injection e with e; subst e; exact hB13.size
                have hl1 : (R.eraseIdx k).length = L - 1 := by rw [List.length_eraseIdx_of_lt hkR, HJ.out.len]
                have e1 : ints ((R.eraseIdx k).map (·.n)) = [] ++ (ints (R.map (·.n))).take k ++ (ints (R.map (·.n))).drop (k + 1) := by
                  rw [List.eraseIdx_eq_take_drop_succ]; simp [ints]
                have hth' : w14.ownsRow w.heap.size 3 1 v14 (L - 1) (ints ((R.eraseIdx k).map (·.n))) := by
                  rw [e1, show L - 1 = 0 + k + (L - (k + 1)) by omega]
                  exact hown14
                refine Lib.hid ⟨L - 1, V1, R.eraseIdx k, v2, by omega, ⟨HY.out.1.below hB14, hth', fun q e hV => ?_, ?_, hl1.symm⟩, _, rfl⟩
                · have := HY.out.1.lt q hV; have := hV14 q e; omega
                · exact (bel_vol HJ.out.bel HY.out.2 (fun b e => HJ.out.hn.ge b e)).trans (hB14.mono hsz.out)
          · go_wp2_with fail
            go_meet
            case rel => exact Lib.hid ⟨L, V1, R, v, hL8, HJ.out, _, rfl⟩
        case rest =>
          obtain ⟨M, V2, R2, v2, hM8, hJ2, w3, hw3⟩ := hcut.out
          subst hw3
          clear hcut HJ
          obtain ⟨At2, ct2, rfl, hct2, -⟩ := own_slice hJ2.th
          have hlen := hJ2.len
          have hHe := Hello_n hJ2.hn (by omega)
          rw [← hlen] at hHe
          have HJ2 := Lib.hid hJ2
          clear hJ2 hlen
          go_upto_region 26 with (go_at_call 12; refine hHe.mono ?_; rintro r w4 ⟨v4, rfl, ho4, hb4⟩; obtain ⟨A4, c4, rfl, hc4, -⟩ := own_slice ho4; have HO4 := Lib.hid ho4; have HB4 := Lib.hid hb4; clear ho4 hb4)
          have hJ4 := HJ2.out.below HB4.out
          have hLv := Live_n hJ4.hn
          rw [← hJ4.len] at hLv
          have HJ4 := Lib.hid hJ4
          have nM : ((M : Int) != (M : Int)) = false := by simp
          clear hJ4 hHe
          go_upto_region 28 with (go_at_call 13; refine hLv.mono ?_; rintro r w5 ⟨rfl, rfl⟩)
          clear nM hLv
          go_wp2_with fail
          have HBV : Hid (∀ b, V2 b → b < w3.heap.size) := Lib.hid HJ2.out.hn.lt
          go_loopw [108] (fun vi wx => Hid (∃ (i : Nat) (xs : List Value), vi = .int .i64 i ∧ i ≤ M ∧ HhJ w wx h xb sb kb V2 R2 ns v2 (.slice At2 M ct2) M ∧ wx.ownsRow w3.heap.size 30 9 (.slice A4 M c4) M xs ∧ (∀ m, i * 9 ≤ m → xs[m]? = (heV R2)[m]?) ∧ ∃ w7, w7 = wx)) (fun vi _ => M - (intOf vi).toNat)
          case atStart => exact Lib.hid ⟨0, _, rfl, by omega, HJ4.out, HO4.out, fun _ _ => rfl, _, rfl⟩
          case round =>
            obtain ⟨i1, xs, rfl, hi1, hJ5, ho5, hx5, w7, hw7⟩ := hrel.out
            subst hw7
            have HJ5 := Lib.hid hJ5
            have HO5 := Lib.hid ho5
            have HX5 := Lib.hid hx5
            clear hrel hJ5 ho5 hx5
            by_cases hlt : (i1 : Int) < M
            · obtain ⟨p, hp⟩ : ∃ p, R2[i1]? = some p := ⟨R2[i1]'(by have := HJ5.out.len; omega), List.getElem?_eq_getElem _⟩
              obtain ⟨u4, hu4⟩ := own_some HO5.out (by omega)
              obtain ⟨u2, hu2⟩ := own_some HJ5.out.th (by omega)
              subst hu4
              subst hu2
              have cc : ∀ j, j < 9 → w7.cell? ⟨u4, i1 * 9 + j, none⟩ = (abC 7 p.n)[j]? := fun j hj => (HO5.out.cellAt (i1 * 9 + j) (by omega)).trans ((HX5.out _ (by omega)).trans (heV_get R2 i1 p hp j hj))
              have t2 : w7.cell? ⟨u2, i1, none⟩ = some (.int .i64 p.n) := (HJ5.out.th.cellAt i1 (by omega)).trans (by simp [hp])
              obtain ⟨n, hn⟩ : ∃ n, p.n = n := ⟨_, rfl⟩
              rw [hn] at cc t2
              have c0 : w7.cell? ⟨u4, i1 * 9, none⟩ = some (.int .i64 7) := cc 0 (by omega)
              have c1 : w7.cell? ⟨u4, i1 * 9 + 1, none⟩ = some (.string rF) := cc 1 (by omega)
              have c2 : w7.cell? ⟨u4, i1 * 9 + 2, none⟩ = some (.string rE) := cc 2 (by omega)
              have c3 : w7.cell? ⟨u4, i1 * 9 + 3, none⟩ = some (.string ⟨#[]⟩) := cc 3 (by omega)
              have c4' : w7.cell? ⟨u4, i1 * 9 + 4, none⟩ = some (.int .i64 n) := cc 4 (by omega)
              have c5 : w7.cell? ⟨u4, i1 * 9 + 5, none⟩ = some (.int .i64 0) := cc 5 (by omega)
              have c6 : w7.cell? ⟨u4, i1 * 9 + 6, none⟩ = some (.int .i64 0) := cc 6 (by omega)
              have c7 : w7.cell? ⟨u4, i1 * 9 + 7, none⟩ = some (.int .i64 0) := cc 7 (by omega)
              have c8 : w7.cell? ⟨u4, i1 * 9 + 8, none⟩ = some (.slice none 0 0) := cc 8 (by omega)
              have f4 : w7.frozen? ⟨u4, i1 * 9 + 4, none⟩ = false := HO5.out.frozenAt _
              clear hn hp cc
              go_upto_region 31 with fail
              obtain ⟨gm, hgm⟩ : ∃ gm, gm = w7.heap.size := ⟨_, rfl⟩
              obtain ⟨wm, hwm⟩ : ∃ wm, wm = w7.alloc (Obj.cells #[.int .i64 7, .string rF, .string rE, .string ⟨#[]⟩, .int .i64 n, .int .i64 0, .int .i64 0, .int .i64 0, .slice none 0 0] 30) := ⟨_, rfl⟩
              rw [← hwm, ← hgm]
              have bm : Blk wm gm 30 (abC 7 n) := by rw [hwm, hgm]; exact Blk.new _ _ _
              have hbm : Below w7.heap.size w7 wm := by rw [hwm]; exact (Below.refl _ _).alloc (Nat.le_refl _) _
              have m0 : wm.cell? ⟨gm, 0, none⟩ = some (.int .i64 7) := bm.cell 0
              have m1 : wm.cell? ⟨gm, 1, none⟩ = some (.string rF) := bm.cell 1
              have m2 : wm.cell? ⟨gm, 2, none⟩ = some (.string rE) := bm.cell 2
              have m3 : wm.cell? ⟨gm, 3, none⟩ = some (.string ⟨#[]⟩) := bm.cell 3
              have m4 : wm.cell? ⟨gm, 4, none⟩ = some (.int .i64 n) := bm.cell 4
              have HBM := Lib.hid hbm
              have n1 : (n != n) = false := by simp
              have t3 : wm.cell? ⟨u2, i1, none⟩ = some (.int .i64 n) := ((own_keep HJ5.out.th hbm).cellAt i1 (by omega)).trans (((HJ5.out.th.cellAt i1 (by omega)).symm).trans t2)
              have C4 := Lib.hid c4'
              clear hwm hgm bm hbm c0 c1 c2 c3 c5 c6 c7 c8 t2 c4' f4
              go_quiet (fail)
              clear n1 t3 m0 m1 m2 m3 m4
              go_upto_region 33 with fail
              obtain ⟨w8, hw8⟩ : ∃ w8, w8 = wm.drewN nq := ⟨_, rfl⟩
              rw [← hw8]
              have hb8 : Below w7.heap.size w7 w8 := by rw [hw8]; exact below_drewN HBM.out _
              have hJ8 := HJ5.out.below hb8
              have ho8 := own_keep HO5.out hb8
              have c48 : w8.cell? ⟨u4, i1 * 9 + 4, none⟩ = some (.int .i64 n) := (ho8.cellAt (i1 * 9 + 4) (by omega)).trans (((HO5.out.cellAt (i1 * 9 + 4) (by omega)).symm).trans C4.out)
              have f48 : w8.frozen? ⟨u4, i1 * 9 + 4, none⟩ = false := ho8.frozenAt _
              have HJ8 := Lib.hid hJ8
              have HO8 := Lib.hid ho8
              clear hw8 hb8 hJ8 ho8
              go_wp2_with fail
              refine ⟨?_, by simp [intOf]; omega⟩
              refine Lib.hid ⟨i1 + 1, xs.set (i1 * 9 + 4) (.int .i64 99), by simp, by omega, ?_, (HO8.out.stored _ _).1, fun m hm => ?_, _, rfl⟩
              · refine HJ8.out.vol (U := fun b => b = u4) (Vol.setCell (V := fun b => b = u4) (a := ⟨u4, i1 * 9 + 4, none⟩) (Vol.refl w8) (.inl rfl) _) (fun b hV e => ?_) (fun b hb e => ?_) (fun b e => ?_)
                · have h1 := HBV.out b hV
                  have h2 := (HO8.out.lt u4 rfl).1
                  omega
                · subst e
                  rcases own_own_ne HJ8.out.th HO8.out (by decide) with h | h
                  · rw [h] at hb; cases hb
                  · exact h hb
                · have h1 := HJ2.out.bel.size
                  have h2 := (HO8.out.lt u4 rfl).1
                  omega
              · rw [List.getElem?_set_ne (by omega)]
                exact HX5.out m (by omega)
            · clear HX5 HO5
              have hHe := Hello_n HJ5.out.hn (by have := HJ5.out.len; omega)
              rw [← HJ5.out.len] at hHe
              go_upto_region 36 with (go_at_call 12; refine hHe.mono ?_; rintro r w8 ⟨v8, rfl, ho8, hb8⟩; obtain ⟨A8, c8, rfl, hc8, -⟩ := own_slice ho8; have HO8 := Lib.hid ho8; have HJ8 := Lib.hid (HJ5.out.below hb8); clear ho8 hb8)
              have nM : ((M : Int) != (M : Int)) = false := by simp
              clear hHe
              go_upto_region 38 with fail
              clear nM
              go_wp2_with fail
              go_loopw [154] (fun vi wx => Hid (∃ (i : Nat), vi = .int .i64 i ∧ i ≤ M ∧ HhJ w wx h xb sb kb V2 R2 ns v2 (.slice At2 M ct2) M ∧ wx.ownsRow w7.heap.size 30 9 (.slice A8 M c8) M (heV R2) ∧ ∃ w9, w9 = wx)) (fun vi _ => M - (intOf vi).toNat)
              case atStart => exact Lib.hid ⟨0, rfl, by omega, HJ8.out, HO8.out, _, rfl⟩
              case round =>
                obtain ⟨i2, rfl, hi2, hJ9, ho9, w9, hw9⟩ := hrel.out
                subst hw9
                have HJ9 := Lib.hid hJ9
                have HO9 := Lib.hid ho9
                clear hrel hJ9 ho9
                by_cases hlt2 : (i2 : Int) < M
                · obtain ⟨p, hp⟩ : ∃ p, R2[i2]? = some p := ⟨R2[i2]'(by have := HJ9.out.len; omega), List.getElem?_eq_getElem _⟩
                  obtain ⟨u8, hu8⟩ := own_some HO9.out (by omega)
                  obtain ⟨u2, hu2⟩ := own_some HJ9.out.th (by omega)
                  subst hu8
                  subst hu2
                  have cc : ∀ j, j < 9 → w9.cell? ⟨u8, i2 * 9 + j, none⟩ = (abC 7 p.n)[j]? := fun j hj => (HO9.out.cellAt (i2 * 9 + j) (by omega)).trans (heV_get R2 i2 p hp j hj)
                  have t2 : w9.cell? ⟨u2, i2, none⟩ = some (.int .i64 p.n) := (HJ9.out.th.cellAt i2 (by omega)).trans (by simp [hp])
                  obtain ⟨n, hn⟩ : ∃ n, p.n = n := ⟨_, rfl⟩
                  rw [hn] at cc t2
                  have c0 : w9.cell? ⟨u8, i2 * 9, none⟩ = some (.int .i64 7) := cc 0 (by omega)
                  have c1 : w9.cell? ⟨u8, i2 * 9 + 1, none⟩ = some (.string rF) := cc 1 (by omega)
                  have c2 : w9.cell? ⟨u8, i2 * 9 + 2, none⟩ = some (.string rE) := cc 2 (by omega)
                  have c3 : w9.cell? ⟨u8, i2 * 9 + 3, none⟩ = some (.string ⟨#[]⟩) := cc 3 (by omega)
                  have c4' : w9.cell? ⟨u8, i2 * 9 + 4, none⟩ = some (.int .i64 n) := cc 4 (by omega)
                  have c5 : w9.cell? ⟨u8, i2 * 9 + 5, none⟩ = some (.int .i64 0) := cc 5 (by omega)
                  have c6 : w9.cell? ⟨u8, i2 * 9 + 6, none⟩ = some (.int .i64 0) := cc 6 (by omega)
                  have c7 : w9.cell? ⟨u8, i2 * 9 + 7, none⟩ = some (.int .i64 0) := cc 7 (by omega)
                  have c8' : w9.cell? ⟨u8, i2 * 9 + 8, none⟩ = some (.slice none 0 0) := cc 8 (by omega)
                  clear hn hp cc
                  go_upto_region 41 with fail
                  obtain ⟨gm, hgm⟩ : ∃ gm, gm = w9.heap.size := ⟨_, rfl⟩
                  obtain ⟨wm, hwm⟩ : ∃ wm, wm = w9.alloc (Obj.cells #[.int .i64 7, .string rF, .string rE, .string ⟨#[]⟩, .int .i64 n, .int .i64 0, .int .i64 0, .int .i64 0, .slice none 0 0] 30) := ⟨_, rfl⟩
                  rw [← hwm, ← hgm]
                  have bm : Blk wm gm 30 (abC 7 n) := by rw [hwm, hgm]; exact Blk.new _ _ _
                  have hbm : Below w9.heap.size w9 wm := by rw [hwm]; exact (Below.refl _ _).alloc (Nat.le_refl _) _
                  have m0 : wm.cell? ⟨gm, 0, none⟩ = some (.int .i64 7) := bm.cell 0
                  have m1 : wm.cell? ⟨gm, 1, none⟩ = some (.string rF) := bm.cell 1
                  have m2 : wm.cell? ⟨gm, 2, none⟩ = some (.string rE) := bm.cell 2
                  have m3 : wm.cell? ⟨gm, 3, none⟩ = some (.string ⟨#[]⟩) := bm.cell 3
                  have m4 : wm.cell? ⟨gm, 4, none⟩ = some (.int .i64 n) := bm.cell 4
                  have HBM := Lib.hid hbm
                  have n1 : (n != n) = false := by simp
                  have t3 : wm.cell? ⟨u2, i2, none⟩ = some (.int .i64 n) := ((own_keep HJ9.out.th hbm).cellAt i2 (by omega)).trans (((HJ9.out.th.cellAt i2 (by omega)).symm).trans t2)
                  clear hwm hgm bm hbm c0 c1 c2 c3 c5 c6 c7 c8' t2 c4' 
                  go_quiet (fail)
                  clear n1 t3 m0 m1 m2 m3 m4
                  go_wp2_with fail
                  refine ⟨?_, by simp [intOf]; omega⟩
                  refine Lib.hid ⟨i2 + 1, by simp, by omega, ?_, ?_, _, rfl⟩
                  · exact HJ9.out.below (below_drewN HBM.out _)
                  · exact own_keep HO9.out (below_drewN HBM.out _)
                · go_wp2_with (go_at_call 14; refine (wkk _).mono ?_; rintro e w10 ⟨rfl, hb10⟩)
                  go_ret
                  exact ⟨rfl, HJ9.out.bel.trans (hb10.mono HJ9.out.bel.size)⟩

end Go.Proofs.Ytiflhfhonhbcpaa.handsHello
