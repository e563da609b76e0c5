/- The walk of BinPlays: the Go text returns true, and writes nothing that was there. -/
import Derived.Test.YtiflhfhonhbcpaaBinR
import Derived.Test.YtiflhfhonhbcpaaPieceA
import Derived.Test.YtiflhfhonhbcpaaActs
import Derived.Test.YtiflhfhonhbcpaaAllSum
import Derived.Deep.CutRange
import Derived.Deep.RegionHeld3
import Derived.Deep.DeepCutAuto
import Derived.Deep.CutBlock
import Derived.Lib.Builder
import Derived.Deep.RegionLaw
import Derived.IntWalk
import Derived.StillTailTactics
import Derived.Test.YtiflhfhonhbcpaaRdz
namespace Go.Proofs.Ytiflhfhonhbcpaa.binPlays
open Go.ChangeShapes Go.WideShapes Go.ChangeAt Go.RowKit
set_option linter.unusedVariables false
set_option maxRecDepth 100000
open Go.Proofs.Ytiflhfhonhbcpaa.Mas Go.Proofs.Ytiflhfhonhbcpaa.Crw Go.Proofs.Ytiflhfhonhbcpaa.Bin
theorem wkk (w : World) : Calls Try.prog 36 #[] w fun e w' => e = .returned (.bool true) ∧ Below w.heap.size w w' := wakes_36.2.2.2 w
theorem act_cells [Toks] {x0 x1 x2 x3 x4 : Int} (t0 : Toks.A 0 = x0) (t1 : Toks.A 1 = x1) (t2 : Toks.A 2 = x2) (t3 : Toks.A 3 = x3) (t4 : Toks.A 4 = x4) {k : Nat} {u : Value} (hu : [Value.chan (some 0), .chan (some 1), .chan (some 2), .chan (some 3), .chan (some 4)][k]? = some u) :
    ∃ u', #[Value.int .i64 x0, .int .i64 x1, .int .i64 x2, .int .i64 x3, .int .i64 x4][k]? = some u' ∧ ∀ ρ, VR0 ρ u u' := by
  match k, hu with
  | 0, hu =>
    injection hu with hu
    subst hu
    exact ⟨_, rfl, fun ρ => (congrArg (Value.int .i64) t0.symm : _)⟩
  | 1, hu =>
    injection hu with hu
    subst hu
    exact ⟨_, rfl, fun ρ => (congrArg (Value.int .i64) t1.symm : _)⟩
  | 2, hu =>
    injection hu with hu
    subst hu
    exact ⟨_, rfl, fun ρ => (congrArg (Value.int .i64) t2.symm : _)⟩
  | 3, hu =>
    injection hu with hu
    subst hu
    exact ⟨_, rfl, fun ρ => (congrArg (Value.int .i64) t3.symm : _)⟩
  | 4, hu =>
    injection hu with hu
    subst hu
    exact ⟨_, rfl, fun ρ => (congrArg (Value.int .i64) t4.symm : _)⟩
theorem bnds4 [Toks] {x1 x2 x3 x4 : Int} {v1 v2 v3 v4 : Value} (t1 : Toks.A 1 = x1) (t2 : Toks.A 2 = x2) (t3 : Toks.A 3 = x3) (t4 : Toks.A 4 = x4) (b1 : -9223372036854775808 ≤ x1 ∧ x1 ≤ 9223372036854775807) (b2 : -9223372036854775808 ≤ x2 ∧ x2 ≤ 9223372036854775807) (b3 : -9223372036854775808 ≤ x3 ∧ x3 ≤ 9223372036854775807) (b4 : -9223372036854775808 ≤ x4 ∧ x4 ≤ 9223372036854775807) :
    ∀ q ∈ [((1 : Nat), (2 : Int), v1), (2, 2, v2), (3, 3, v3), (4, 20, v4)], -9223372036854775808 ≤ Toks.A q.1 ∧ Toks.A q.1 ≤ 9223372036854775807 := by
  intro q hq
  simp only [List.mem_cons, List.not_mem_nil, or_false] at hq
  rcases hq with rfl | rfl | rfl | rfl
  · rw [t1]; exact b1
  · rw [t2]; exact b2
  · rw [t3]; exact b3
  · rw [t4]; exact b4
theorem rests4 [Toks] {x1 x2 x3 x4 r1 r2 : Int} (t1 : Toks.A 1 = x1) (t2 : Toks.A 2 = x2) (t3 : Toks.A 3 = x3) (t4 : Toks.A 4 = x4) (t5 : Toks.A 5 = x3 % 3) (t6 : Toks.A 6 = x4 % 20) (h1 : x1 % 2 = r1) (h2 : x2 % 2 = r2) :
    ∀ q ∈ [((1 : Nat), (2 : Int), Value.int .i64 r1), (2, 2, .int .i64 r2), (3, 3, .iface 5 (.iface 0 (.iface 2 (.int .i64 0)))), (4, 20, .iface 6 (.iface 0 (.iface 19 (.int .i64 0))))], 1 ≤ q.2.1 ∧ q.2.1 ≤ 9223372036854775807 ∧ ∀ ρ : Ren, VR ρ q.2.2 (.int .i64 (Toks.A q.1 % q.2.1)) := by
  intro q hq
  simp only [List.mem_cons, List.not_mem_nil, or_false] at hq
  rcases hq with rfl | rfl | rfl | rfl
  · exact ⟨by show (1 : Int) ≤ 2; decide, by show (2 : Int) ≤ 9223372036854775807; decide, rest_one t1 h1⟩
  · exact ⟨by show (1 : Int) ≤ 2; decide, by show (2 : Int) ≤ 9223372036854775807; decide, rest_one t2 h2⟩
  · exact ⟨by decide, by decide, rest_tok t3 t5 rfl⟩
  · exact ⟨by decide, by decide, rest_tok t4 t6 rfl⟩
set_option maxHeartbeats 80000000 in
theorem walk (v0 : Value) (a1 : Int) (a2 : Int) (w : World) (b0 : ActsArg 5 w v0) (b1 : -9223372036854775808 ≤ a1 ∧ a1 ≤ 9223372036854775807) (b2 : -9223372036854775808 ≤ a2 ∧ a2 ≤ 9223372036854775807) :
    Calls Try.prog 7 #[v0, .int .i64 a1, .int .i64 a2] w fun e w' => e = .returned (.bool true) ∧ Below w.heap.size w w' := by
  obtain ⟨A, nn, cc, rfl, hnc, hcm, hA⟩ := acts_u b0
  have HA := Lib.hid hA
  have hnm : (nn : Int) ≤ 9223372036854775807 := by unfold maxLen at hcm; omega
  have hq1 := Int.emod_nonneg a1 (show (30 : Int) ≠ 0 by omega)
  have hq2 := Int.emod_lt_of_pos a1 (show (0 : Int) < 30 by omega)
  have hq3 := Int.emod_nonneg a2 (show (20 : Int) ≠ 0 by omega)
  have hq4 := Int.emod_lt_of_pos a2 (show (0 : Int) < 20 by omega)
  have hNow : Hid (∀ w, Calls Try.prog 10 #[.int .i64 a1, .int .i64 30] w fun e w' => e = .returned (.int .i64 (a1 % 30)) ∧ w = w') := Lib.hid fun w => Within_any a1 30 w (by omega) (by omega) (by omega) (by omega)
  have hDel : Hid (∀ w, Calls Try.prog 10 #[.int .i64 a2, .int .i64 20] w fun e w' => e = .returned (.int .i64 (a2 % 20)) ∧ w = w') := Lib.hid fun w => Within_any a2 20 w (by omega) (by omega) (by omega) (by omega)
  generalize a1 % 30 = t at *
  generalize a2 % 20 = d at *
  clear hA b0 b1 b2
  go_enter Try.func7, Try.ntmps7
  go_wp2_with fail
  refine (New_b _).mono ?_
  rintro e w1 ⟨b, rfl, hb, hB1⟩
  have I0 : Hid (BnI w w1 b (.slice none 0 0) []) := Lib.hid ⟨hb, hB1⟩
  clear hb hB1
  go_upto_region 2 with fail
  obtain ⟨rb, hrb⟩ : ∃ rb, rb = w1.heap.size := ⟨_, rfl⟩
  obtain ⟨w2, hw2⟩ : ∃ w2, w2 = w1.alloc (Obj.cells #[Value.slice none 0 0] 77) := ⟨_, rfl⟩
  rw [← hw2, ← hrb]
  have hI2 : BpI w w2 b rb (.slice none 0 0) (.slice none 0 0) [] 0 := by
    have hb2 : Below w1.heap.size w1 w2 := by rw [hw2]; exact (Below.refl _ _).alloc (Nat.le_refl _) _
    refine ⟨I0.out.below hb2, ⟨by rw [hw2, hrb]; exact Blk.new _ _ _, ⟨by simp, .inl ⟨rfl, rfl⟩⟩, by rw [hrb]; exact I0.out.bel.size, by simp⟩, List.Pairwise.nil, Nat.le_refl _, fun x hx => by simp at hx⟩
  have I2 := Lib.hid hI2
  clear hI2 hw2 hrb I0
  go_upto_block 0 with fail
  go_cut [9] from 21 to 104 (fun v9 wx => Hid (∃ (i : Nat) (v vr : Value) (M : List Bx), i ≤ 24 ∧ BpI w wx b rb v vr M i ∧ ∃ w7, w7 = wx))
  case first =>
    go_wp2_with fail
    go_loopw [9] (fun vi wr => Hid (∃ (i : Nat) (v vr : Value) (M : List Bx), vi = .int .i64 i ∧ i ≤ 24 ∧ BpI w wr b rb v vr M i ∧ ∃ w7, w7 = wr)) (fun vi _ => 24 - (intOf vi).toNat)
    case atStart => exact Lib.hid ⟨0, _, _, [], rfl, by omega, I2.out, _, rfl⟩
    case round =>
      obtain ⟨i, v, vr, M, rfl, hi, hI, wr, hwr⟩ := hrel.out
      subst hwr
      have HI := Lib.hid hI
      clear hrel hI I2
      by_cases hall : (i : Int) < nn ∧ (i : Int) < 24
      · obtain ⟨h1, h2⟩ := hall
        obtain ⟨ab, off, xs, rfl, hblt, hxb, hcell⟩ := HA.out i (by omega)
        have hc := hcell _ wr HI.out.bn.bel (Nat.le_refl _)
        have c0 : wr.cell? ⟨ab, off + i * 5, none⟩ = some (.int .i64 (xs 0)) := hc 0 (by omega)
        have c1 : wr.cell? ⟨ab, off + i * 5 + 1, none⟩ = some (.int .i64 (xs 1)) := hc 1 (by omega)
        have c2 : wr.cell? ⟨ab, off + i * 5 + 2, none⟩ = some (.int .i64 (xs 2)) := hc 2 (by omega)
        have c3 : wr.cell? ⟨ab, off + i * 5 + 3, none⟩ = some (.int .i64 (xs 3)) := hc 3 (by omega)
        have c4 : wr.cell? ⟨ab, off + i * 5 + 4, none⟩ = some (.int .i64 (xs 4)) := hc 4 (by omega)
        have b0 := hxb 0 (by omega)
        have b1 := hxb 1 (by omega)
        have b2 := hxb 2 (by omega)
        have b3 := hxb 3 (by omega)
        have b4 := hxb 4 (by omega)
        generalize xs 0 = x0 at *
        generalize xs 1 = x1 at *
        generalize xs 2 = x2 at *
        generalize xs 3 = x3 at *
        generalize xs 4 = x4 at *
        clear hc hcell hxb
        go_upto_region 8 with fail
        obtain ⟨wa, hwa⟩ : ∃ wa, wa = (wr.alloc (Obj.cells #[Value.int IntKind.i64 x0, Value.int IntKind.i64 x1, Value.int IntKind.i64 x2, Value.int IntKind.i64 x3, Value.int IntKind.i64 x4] 66)) := ⟨_, rfl⟩
        rw [← hwa]
        have HWA := Lib.hid hwa
        have HWB : Hid (Blk wa wr.heap.size 66 #[Value.int IntKind.i64 x0, Value.int IntKind.i64 x1, Value.int IntKind.i64 x2, Value.int IntKind.i64 x3, Value.int IntKind.i64 x4]) := Lib.hid (by rw [hwa]; exact Blk.new _ _ _)
        clear hwa c0 c1 c2 c3 c4
        go_cut [11, 12, 13, 14] from 35 to 53 (fun vf ve vn vs wx => Hid (∃ (f e : ByteArray) (p s : Int), vf = .string f ∧ ve = .string e ∧ vn = .int .i64 (1 + p) ∧ vs = .int .i64 s ∧ 0 ≤ p ∧ p < 3 ∧ 0 ≤ s ∧ s < 20 ∧ Below wa.heap.size wa wx ∧ ∃ w9, w9 = wx))
        case first =>
          have hk1 : x1 % 2 = 0 ∨ x1 % 2 = 1 := by omega
          have hk2 : x2 % 2 = 0 ∨ x2 % 2 = 1 := by omega
          letI : Toks := ⟨fun k => if k = 0 then x0 else if k = 1 then x1 else if k = 2 then x2 else if k = 3 then x3 else if k = 4 then x4 else if k = 5 then x3 % 3 else if k = 6 then x4 % 20 else 0⟩
          have t0 : Toks.A 0 = x0 := rfl
          have t1 : Toks.A 1 = x1 := rfl
          have t2 : Toks.A 2 = x2 := rfl
          have t3 : Toks.A 3 = x3 := rfl
          have t4 : Toks.A 4 = x4 := rfl
          have t5 : Toks.A 5 = x3 % 3 := rfl
          have t6 : Toks.A 6 = x4 % 20 := rfl
          have sim : ∀ M, 1 ≤ M → Sim M _ (h0.push ⟨[.chan (some 0), .chan (some 1), .chan (some 2), .chan (some 3), .chan (some 4)], 66, 2, 5⟩) wa := fun M hM => sim_ro HWB.out [.chan (some 0), .chan (some 1), .chan (some 2), .chan (some 3), .chan (some 4)] 5 (fun k u hu => act_cells t0 t1 t2 t3 t4 hu) M hM
          refine piece_or [35, 36, 37, 38, 39, 40, 41, 42, 43, 44, 45, 46, 47, 48, 49, 50, 51, 52, 53, 11, 12, 13, 14] (fun f w' => (∃ f1 e1 : ByteArray, f 11 = .string f1 ∧ f 12 = .string e1) ∧ f 13 = .int .i64 (1 + x3 % 3) ∧ f 14 = .int .i64 (x4 % 20) ∧ Below wa.heap.size wa w') ?_ ?_
          · rintro f w' ⟨⟨f1, e1, v9, v10⟩, v11, v12, hb⟩
            simp only [List.foldl_cons, List.foldl_nil, Act.put, List.setIfInBounds_toArray, List.set_cons_zero, List.set_cons_succ, v9, v10, v11, v12]
            go_wp2_with fail
            go_meet
            case rel => exact Lib.hid ⟨_, _, x3 % 3, x4 % 20, rfl, rfl, rfl, rfl, by omega, by omega, by omega, by omega, hb, _, rfl⟩
          · intro hq
            rcases hk1 with hk1 | hk1 <;> rcases hk2 with hk2 | hk2
            · refine piece_run (okF := ⟨fun _ => true, overW [(1, 2, .int .i64 0), (2, 2, .int .i64 0), (3, 3, .iface 5 (.iface 0 (.iface 2 (.int .i64 0)))), (4, 20, .iface 6 (.iface 0 (.iface 19 (.int .i64 0))))], fun _ _ _ => none⟩) (cfgW_ok _ (bnds4 t1 t2 t3 t4 b1 b2 b3 b4) (rests4 t1 t2 t3 t4 t5 t6 hk1 hk2)) mixed 50 (ρ := fun i => if i = 0 then some ⟨wr.heap.size, 1, 0⟩ else none) (h := h0.push ⟨[.chan (some 0), .chan (some 1), .chan (some 2), .chan (some 3), .chan (some 4)], 66, 2, 5⟩)
                [(10, .pointer (some ⟨0, 0, none⟩))] [(11, .string ⟨#[102]⟩), (12, .string ⟨#[120]⟩), (13, .iface 5 (.iface 0 (.iface 2 (.int .i64 1)))), (14, .iface 6 (.iface 0 (.iface 19 (.int .i64 0))))] 121 [35, 36, 37, 38, 39, 40, 41, 42, 43, 44, 45, 46, 47, 48, 49, 50, 51, 52, 53, 11, 12, 13, 14] (fun M hM => sim M (by exact hM)) rfl rfl (fun p hp => by
                  rw [List.mem_singleton] at hp
                  subst hp
                  exact ⟨rfl, ⟨wr.heap.size, 1, 0⟩, rfl, rfl⟩) (by as_aux_lemma => kernel_rfl) (by as_aux_lemma => kernel_rfl) (by as_aux_lemma => kernel_rfl) ?_
              rintro f w' ⟨M, ρ', h', E, -, hv⟩
              exact hq f w' ⟨⟨_, _, VR.eq rfl (hv (11, .string ⟨#[102]⟩) (by simp)), VR.eq rfl (hv (12, .string ⟨#[120]⟩) (by simp))⟩, (hv (13, .iface 5 (.iface 0 (.iface 2 (.int .i64 1)))) (by simp)).1.trans (by rw [t5]; exact congrArg _ (Int.add_comm _ _)), (hv (14, .iface 6 (.iface 0 (.iface 19 (.int .i64 0)))) (by simp)).1.trans (by rw [t6, Int.add_zero]), E.ro_below ro_one⟩
            · refine piece_run (okF := ⟨fun _ => true, overW [(1, 2, .int .i64 0), (2, 2, .int .i64 1), (3, 3, .iface 5 (.iface 0 (.iface 2 (.int .i64 0)))), (4, 20, .iface 6 (.iface 0 (.iface 19 (.int .i64 0))))], fun _ _ _ => none⟩) (cfgW_ok _ (bnds4 t1 t2 t3 t4 b1 b2 b3 b4) (rests4 t1 t2 t3 t4 t5 t6 hk1 hk2)) mixed 50 (ρ := fun i => if i = 0 then some ⟨wr.heap.size, 1, 0⟩ else none) (h := h0.push ⟨[.chan (some 0), .chan (some 1), .chan (some 2), .chan (some 3), .chan (some 4)], 66, 2, 5⟩)
                [(10, .pointer (some ⟨0, 0, none⟩))] [(11, .string ⟨#[102]⟩), (12, .string ⟨#[121]⟩), (13, .iface 5 (.iface 0 (.iface 2 (.int .i64 1)))), (14, .iface 6 (.iface 0 (.iface 19 (.int .i64 0))))] 121 [35, 36, 37, 38, 39, 40, 41, 42, 43, 44, 45, 46, 47, 48, 49, 50, 51, 52, 53, 11, 12, 13, 14] (fun M hM => sim M (by exact hM)) rfl rfl (fun p hp => by
                  rw [List.mem_singleton] at hp
                  subst hp
                  exact ⟨rfl, ⟨wr.heap.size, 1, 0⟩, rfl, rfl⟩) (by as_aux_lemma => kernel_rfl) (by as_aux_lemma => kernel_rfl) (by as_aux_lemma => kernel_rfl) ?_
              rintro f w' ⟨M, ρ', h', E, -, hv⟩
              exact hq f w' ⟨⟨_, _, VR.eq rfl (hv (11, .string ⟨#[102]⟩) (by simp)), VR.eq rfl (hv (12, .string ⟨#[121]⟩) (by simp))⟩, (hv (13, .iface 5 (.iface 0 (.iface 2 (.int .i64 1)))) (by simp)).1.trans (by rw [t5]; exact congrArg _ (Int.add_comm _ _)), (hv (14, .iface 6 (.iface 0 (.iface 19 (.int .i64 0)))) (by simp)).1.trans (by rw [t6, Int.add_zero]), E.ro_below ro_one⟩
            · refine piece_run (okF := ⟨fun _ => true, overW [(1, 2, .int .i64 1), (2, 2, .int .i64 0), (3, 3, .iface 5 (.iface 0 (.iface 2 (.int .i64 0)))), (4, 20, .iface 6 (.iface 0 (.iface 19 (.int .i64 0))))], fun _ _ _ => none⟩) (cfgW_ok _ (bnds4 t1 t2 t3 t4 b1 b2 b3 b4) (rests4 t1 t2 t3 t4 t5 t6 hk1 hk2)) mixed 50 (ρ := fun i => if i = 0 then some ⟨wr.heap.size, 1, 0⟩ else none) (h := h0.push ⟨[.chan (some 0), .chan (some 1), .chan (some 2), .chan (some 3), .chan (some 4)], 66, 2, 5⟩)
                [(10, .pointer (some ⟨0, 0, none⟩))] [(11, .string ⟨#[103]⟩), (12, .string ⟨#[120]⟩), (13, .iface 5 (.iface 0 (.iface 2 (.int .i64 1)))), (14, .iface 6 (.iface 0 (.iface 19 (.int .i64 0))))] 121 [35, 36, 37, 38, 39, 40, 41, 42, 43, 44, 45, 46, 47, 48, 49, 50, 51, 52, 53, 11, 12, 13, 14] (fun M hM => sim M (by exact hM)) rfl rfl (fun p hp => by
                  rw [List.mem_singleton] at hp
                  subst hp
                  exact ⟨rfl, ⟨wr.heap.size, 1, 0⟩, rfl, rfl⟩) (by as_aux_lemma => kernel_rfl) (by as_aux_lemma => kernel_rfl) (by as_aux_lemma => kernel_rfl) ?_
              rintro f w' ⟨M, ρ', h', E, -, hv⟩
              exact hq f w' ⟨⟨_, _, VR.eq rfl (hv (11, .string ⟨#[103]⟩) (by simp)), VR.eq rfl (hv (12, .string ⟨#[120]⟩) (by simp))⟩, (hv (13, .iface 5 (.iface 0 (.iface 2 (.int .i64 1)))) (by simp)).1.trans (by rw [t5]; exact congrArg _ (Int.add_comm _ _)), (hv (14, .iface 6 (.iface 0 (.iface 19 (.int .i64 0)))) (by simp)).1.trans (by rw [t6, Int.add_zero]), E.ro_below ro_one⟩
            · refine piece_run (okF := ⟨fun _ => true, overW [(1, 2, .int .i64 1), (2, 2, .int .i64 1), (3, 3, .iface 5 (.iface 0 (.iface 2 (.int .i64 0)))), (4, 20, .iface 6 (.iface 0 (.iface 19 (.int .i64 0))))], fun _ _ _ => none⟩) (cfgW_ok _ (bnds4 t1 t2 t3 t4 b1 b2 b3 b4) (rests4 t1 t2 t3 t4 t5 t6 hk1 hk2)) mixed 50 (ρ := fun i => if i = 0 then some ⟨wr.heap.size, 1, 0⟩ else none) (h := h0.push ⟨[.chan (some 0), .chan (some 1), .chan (some 2), .chan (some 3), .chan (some 4)], 66, 2, 5⟩)
                [(10, .pointer (some ⟨0, 0, none⟩))] [(11, .string ⟨#[103]⟩), (12, .string ⟨#[121]⟩), (13, .iface 5 (.iface 0 (.iface 2 (.int .i64 1)))), (14, .iface 6 (.iface 0 (.iface 19 (.int .i64 0))))] 121 [35, 36, 37, 38, 39, 40, 41, 42, 43, 44, 45, 46, 47, 48, 49, 50, 51, 52, 53, 11, 12, 13, 14] (fun M hM => sim M (by exact hM)) rfl rfl (fun p hp => by
                  rw [List.mem_singleton] at hp
                  subst hp
                  exact ⟨rfl, ⟨wr.heap.size, 1, 0⟩, rfl, rfl⟩) (by as_aux_lemma => kernel_rfl) (by as_aux_lemma => kernel_rfl) (by as_aux_lemma => kernel_rfl) ?_
              rintro f w' ⟨M, ρ', h', E, -, hv⟩
              exact hq f w' ⟨⟨_, _, VR.eq rfl (hv (11, .string ⟨#[103]⟩) (by simp)), VR.eq rfl (hv (12, .string ⟨#[121]⟩) (by simp))⟩, (hv (13, .iface 5 (.iface 0 (.iface 2 (.int .i64 1)))) (by simp)).1.trans (by rw [t5]; exact congrArg _ (Int.add_comm _ _)), (hv (14, .iface 6 (.iface 0 (.iface 19 (.int .i64 0)))) (by simp)).1.trans (by rw [t6, Int.add_zero]), E.ro_below ro_one⟩
        case rest =>
          obtain ⟨f, e, p, s, rfl, rfl, rfl, rfl, hp0, hp1, hs0, hs1, hbx, w9, hw9⟩ := hcut.out
          subst hw9
          have hk9 := HWB.out.below hbx HWB.out.lt
          have m0 : w9.cell? ⟨wr.heap.size, 0, none⟩ = some (.int .i64 x0) := hk9.cell 0
          have I9 : Hid (BpI w w9 b rb v vr M i) := Lib.hid (by
            have hb1 : Below wr.heap.size wr wa := by rw [HWA.out]; exact (Below.refl _ _).alloc (Nat.le_refl _) _
            exact HI.out.below (hb1.trans (hbx.mono hb1.size)))
          have hd1 := Int.emod_nonneg x0 (show (6 : Int) ≠ 0 by omega)
          have hd2 := Int.emod_lt_of_pos x0 (show (0 : Int) < 6 by omega)
          have hW : ∀ w, Calls Try.prog 10 #[.int .i64 x0, .int .i64 6] w fun e w' => e = .returned (.int .i64 (x0 % 6)) ∧ w = w' := fun w => Within_any x0 6 w (by omega) (by omega) (by omega) (by omega)
          generalize x0 % 6 = dd at *
          clear hcut hbx hk9 HI HWB HWA b0 b1 b2 b3 b4
          go_upto_block 2 with (go_at_call 10; refine (hW _).mono ?_; rintro e w' ⟨rfl, rfl⟩)
          clear hW m0
          go_cut [] from 57 to 98 (fun wx => Hid (∃ (v vr : Value) (M : List Bx), BpI w wx b rb v vr M (i + 1) ∧ ∃ w7, w7 = wx))
          case first =>
            have hdc : dd = 0 ∨ dd = 1 ∨ dd = 2 ∨ dd = 3 ∨ dd = 4 ∨ dd = 5 := by omega
            clear hd1 hd2
            obtain ⟨tA, hA⟩ := Add_b (f := f) (e := e) (n := 1 + p) (s := s) I9.out (by omega) hs0 (by omega)
            obtain ⟨tT, hT⟩ := Take_b (f := f) (e := e) (n := 1 + p) I9.out (by omega)
            have HLT := Lib.hid (And.intro I9.out.lt I9.out.bn.bel.size)
            have n1 : (tA != tA) = false := by simp
            have n2 : (tT != tT) = false := by simp
            rcases hdc with rfl | rfl | rfl | rfl | rfl | rfl
            · go_wp2_with fail
              refine hA.mono ?_
              rintro r w10 ⟨rfl, hA2⟩
              go_wp2_with fail
              refine hA2.mono ?_
              rintro r w11 ⟨rfl, v', vr', M', i11⟩
              have I11 := Lib.hid i11
              clear i11
              go_wp2_with fail
              go_meet
              exact Lib.hid ⟨v', vr', M', I11.out, _, rfl⟩
            · go_wp2_with fail
              refine hA.mono ?_
              rintro r w10 ⟨rfl, hA2⟩
              go_wp2_with fail
              refine hA2.mono ?_
              rintro r w11 ⟨rfl, v', vr', M', i11⟩
              have I11 := Lib.hid i11
              clear i11
              go_wp2_with fail
              go_meet
              exact Lib.hid ⟨v', vr', M', I11.out, _, rfl⟩
            · go_wp2_with fail
              refine hA.mono ?_
              rintro r w10 ⟨rfl, hA2⟩
              go_wp2_with fail
              refine hA2.mono ?_
              rintro r w11 ⟨rfl, v', vr', M', i11⟩
              have I11 := Lib.hid i11
              clear i11
              go_wp2_with fail
              go_meet
              exact Lib.hid ⟨v', vr', M', I11.out, _, rfl⟩
            · go_wp2_with fail
              refine hA.mono ?_
              rintro r w10 ⟨rfl, hA2⟩
              go_wp2_with fail
              refine hA2.mono ?_
              rintro r w11 ⟨rfl, v', vr', M', i11⟩
              have I11 := Lib.hid i11
              clear i11
              go_wp2_with fail
              go_meet
              exact Lib.hid ⟨v', vr', M', I11.out, _, rfl⟩
            · go_wp2_with fail
              refine hT.mono ?_
              rintro r w10 ⟨rfl, hT2⟩
              go_wp2_with fail
              refine hT2.mono ?_
              rintro r w11 ⟨rfl, v', vr', M', i11⟩
              have I11 := Lib.hid i11
              clear i11
              go_wp2_with fail
              go_meet
              exact Lib.hid ⟨v', vr', M', I11.out, _, rfl⟩
            · clear hA hT
              go_wp2_with fail
              refine (Clone_b I9.out.bn.bn).mono ?_
              rintro r w10 ⟨c, vc, rfl, hc10, hb10⟩
              have I10 := Lib.hid (I9.out.below hb10)
              have C10 := Lib.hid hc10
              clear hc10 hb10 I9
              go_wp2_with fail
              refine (Add_any C10.out (by rw [srtB_len]; have := I10.out.len; omega)).mono ?_
              rintro r w11 ⟨t1, vc11, L11, rfl, hc11, vol11, -, -⟩
              have I11 := Lib.hid (I10.out.other HLT.out.1.1 HLT.out.1.2 HLT.out.2 C10.out vol11)
              have C11 := Lib.hid hc11
              clear hc11 vol11 I10 C10
              go_wp2_with fail
              refine (Take_any C11.out).mono ?_
              rintro r w12 ⟨t2, vc12, L12, rfl, hc12, vol12⟩
              have I12 := Lib.hid (I11.out.other HLT.out.1.1 HLT.out.1.2 HLT.out.2 C11.out vol12)
              clear hc12 vol12 I11 C11
              go_wp2_with fail
              go_meet
              exact Lib.hid ⟨v, vr, M, I12.out.up (Nat.le_succ i), _, rfl⟩
          case rest =>
            obtain ⟨v', vr', M', hI10, w10, hw10⟩ := hcut.out
            subst hw10
            have I10 := Lib.hid hI10
            obtain ⟨N, hN⟩ : ∃ N, N = M'.length := ⟨_, rfl⟩
            have hN1 : N ≤ 100 := by have := hI10.len; omega
            have hC1 := All_b hI10.bn.bn
            rw [srtB_len, ← hN] at hC1
            have HN := Lib.hid hN
            clear hcut hI10 hN I9
            go_wp2_with fail
            refine hC1.mono ?_
            rintro r w11 ⟨v11, rfl, ho11, hb11⟩
            obtain ⟨A11, c11, rfl, -, -⟩ := own_slice ho11
            have I11 := Lib.hid (I10.out.below hb11)
            have O11 := Lib.hid ho11
            have hC2 := RAll_b I11.out.rn
            rw [← HN.out] at hC2
            clear ho11 hb11 I10 hC1
            go_wp2_with fail
            refine hC2.mono ?_
            rintro r w12 ⟨v12, rfl, ho12, hb12⟩
            obtain ⟨A12, c12, rfl, -, -⟩ := own_slice ho12
            have I12 := Lib.hid (I11.out.below hb12)
            have hS := SameR (own_keep O11.out hb12) ho12 (by rw [srtB_len, HN.out]) hN1
            clear ho12 hb12 I11 hC2 O11
            go_wp2_with fail
            refine hS.mono ?_
            rintro r w13 ⟨rfl, m13, rfl⟩
            have I13 := Lib.hid (I12.out.below (below_drewN (Below.refl _ _) m13))
            clear hS I12
            go_wp2_with fail
            refine ⟨?_, by simp [intOf]; omega⟩
            exact Lib.hid ⟨i + 1, v', vr', M', by simp, by omega, I13.out, _, rfl⟩
      · have hall2 : ¬ (i : Int) < nn ∨ ((i : Int) < nn ∧ ¬ (i : Int) < 24) := by omega
        clear hall
        rcases hall2 with h1 | ⟨h1, h2⟩
        all_goals
          go_wp2_with fail
          go_meet
          exact Lib.hid ⟨i, v, vr, M, hi, HI.out, _, rfl⟩
  case rest =>
    obtain ⟨i, v, vr, M, hi, hI, w3, hw3⟩ := hcut.out
    subst hw3
    have HI := Lib.hid hI
    clear hcut hI I2
    go_wp2_with fail
    refine (hNow.out _).mono ?_
    rintro r w' ⟨rfl, rfl⟩
    go_wp2_with fail
    refine (hDel.out _).mono ?_
    rintro r w' ⟨rfl, rfl⟩
    have hs : ∀ (k : Nat) (x : Bx), M[k]? = some x → 0 ≤ x.s ∧ x.s ≤ 1000 := fun k x hx => by
      have := HI.out.rs x (List.mem_of_getElem? hx)
      omega
    have hs2 : ∀ (k : Nat) (x : Bx), (srtB M)[k]? = some x → 0 ≤ x.s ∧ x.s ≤ 1000 := fun k x hx => by
      have := HI.out.rs x (srtB_mem.1 (List.mem_of_getElem? hx))
      omega
    obtain ⟨N, hN⟩ : ∃ N, N = ((srtB M).filter (dueF t d)).length := ⟨_, rfl⟩
    have hN1 : N ≤ 100 := by
      have h1 := HI.out.len
      have h2 := List.length_filter_le (dueF t d) (srtB M)
      rw [srtB_len] at h2
      omega
    have hC1 := Due_b HI.out.bn.bn t d hs2 (by omega) (by omega) (by omega) (by omega)
    rw [← hN] at hC1
    have HN := Lib.hid hN
    have HS := Lib.hid hs
    clear hs hs2 hN
    go_wp2_with fail
    refine hC1.mono ?_
    rintro r w11 ⟨v11, rfl, ho11, hb11⟩
    obtain ⟨A11, c11, rfl, -, -⟩ := own_slice ho11
    have I11 := Lib.hid (HI.out.below hb11)
    have O11 := Lib.hid ho11
    have hC2 := RDue_b I11.out.rn t d HS.out (by omega) (by omega) (by omega) (by omega)
    rw [← HN.out] at hC2
    clear ho11 hb11 HI hC1
    go_wp2_with fail
    refine hC2.mono ?_
    rintro r w12 ⟨v12, rfl, ho12, hb12⟩
    obtain ⟨A12, c12, rfl, -, -⟩ := own_slice ho12
    have I12 := Lib.hid (I11.out.below hb12)
    have hS := SameR (own_keep O11.out hb12) ho12 HN.out.symm hN1
    clear ho12 hb12 I11 hC2 O11
    go_wp2_with fail
    refine hS.mono ?_
    rintro r w13 ⟨rfl, m13, rfl⟩
    have I13 := Lib.hid (I12.out.below (below_drewN (Below.refl _ _) m13))
    clear hS I12
    go_wp2_with fail
    refine (wkk _).mono ?_
    rintro r w14 ⟨rfl, hb14⟩
    go_wp2_with fail
    go_ret
    exact ⟨rfl, I13.out.bn.bel.trans (hb14.mono I13.out.bn.bel.size)⟩

end Go.Proofs.Ytiflhfhonhbcpaa.binPlays
