/- The plain Step: the kinds that are told. -/
import Derived.Test.YtfbedlhigggggaaSpZ0
import Derived.Test.YtfbedlhigggggaaSpV
import Derived.Test.YtfbedlhigggggaaHeldL
import Derived.Lib.ConvBytes
import Derived.Deep.RegionHeld3
namespace Go.Proofs.Ytfbedlhigggggaa.Sp
open Go Go.RowKit Go.Lib Go.Proofs.Ytfbedlhigggggaa Go.Proofs.Ytfbedlhigggggaa.Crw Go.Proofs.Ytfbedlhigggggaa.Vl Go.ChangeShapes Go.WideShapes Go.ChangeAt
set_option linter.unusedVariables false
set_option maxRecDepth 100000
set_option maxHeartbeats 32000000 in
theorem lStep_kb (q : ByteArray) (ws : List ByteArray) (Ad : Option Addr) (c : Nat) (w : World) (hKc : kindS q = 7 ∨ kindS q = 8 ∨ kindS q = 9) (hT : ¬ q.data.toList = tickL) (hFu : ¬ q.data.toList = fuseL) (hCr : ¬ q.data.toList = crashL) (hnc : ws.length + 1 ≤ c) (hcm : c ≤ maxLen) (hL : ws.length ≤ 1001) (hqs : ∀ x ∈ ws, x.size ≤ 1000) (hs : Ws w Ad (q :: ws)) :
    Calls Try.prog 18 #[.slice Ad (ws.length + 1) c] w (StepPost w q ws) := by
  obtain ⟨K, hK⟩ : ∃ K, K = kindS q := ⟨_, rfl⟩
  have hle := kindS_le q
  rw [← hK] at hle hKc
  have HK := Lib.hid hK
  have HLE := Lib.hid hle
  have HKC := Lib.hid hKc
  clear hK hle hKc
  obtain ⟨m, hm⟩ : ∃ m, m = ws.length := ⟨_, rfl⟩
  rw [← hm] at hnc hL ⊢
  obtain ⟨gA, oA, rfl, hgA, hcA⟩ := hs.at_
  have k0 : w.cell? ⟨gA, oA, none⟩ = some (.string q) := hcA 0 _ rfl
  obtain ⟨g, hg⟩ : ∃ g, g = w.heap.size := ⟨_, rfl⟩
  obtain ⟨W0, hW0⟩ : ∃ W, W = w.alloc (.cells zsA 42) := ⟨_, rfl⟩
  have hb0 : Below w.heap.size w W0 := by rw [hW0]; exact (Below.refl _ _).alloc (Nat.le_refl _) _
  have hz0 : Blk W0 g 42 zsA := by rw [hW0, hg]; exact Blk.new _ _ _
  obtain ⟨gN, hgN⟩ : ∃ g, g = W0.heap.size := ⟨_, rfl⟩
  have HWD : Hid (∀ (A2 : Option Addr), A2 = (if c = 1 then some ⟨gA, oA, none⟩ else some ⟨gA, oA + 1, none⟩) → ∀ wa : World, Below w.heap.size w wa → Ws wa A2 ws) := Lib.hid (fun A2 hA2 wa hba => by
    refine (hs.below hba).drop (n := 1) (by simp) (fun hne => ?_)
    rw [hA2, if_neg]
    intro e
    apply hne
    exact List.eq_nil_of_length_eq_zero (by omega))
  have HG := Lib.hid hg
  have HGN := Lib.hid hgN
  have HW0 := Lib.hid hW0
  have HZ0 := Lib.hid hz0
  have HB0 := Lib.hid hb0
  have HM := Lib.hid hm
  have HGA := Lib.hid hgA
  have HQS := Lib.hid hqs
  have HK0 := Lib.hid k0
  clear hg hgN hW0 hz0 hb0 hm hgA hs hcA hqs
  have h0m : 0 < m + 1 := by omega
  have h0c : 0 < c := by omega
  have h1n : (1 : Int) ≤ (m : Int) + 1 := by omega
  have h1c : (1 : Int) ≤ (c : Int) := by omega
  go_enter Try.func18, Try.ntmps18
  go_upto_region 1 with fail
  rw [show w.alloc (.cells #[.int .i64 0, .int .i64 0, .string ⟨#[]⟩, .string ⟨#[]⟩, .string ⟨#[]⟩, .int .i64 0, .int .i64 0, .int .i64 0, .int .i64 0, .slice none 0 0, .int .i64 0, .int .i64 0] 42) = W0 from HW0.out.symm, ← HG.out]
  repeat (first | (refine wpList_storeG 42 (cs := zsA) (by kernel_rfl) rfl rfl rfl rfl (by simp [Value.oneCell', zsA]) (Blk.new W0 42 zsA) rfl ?_; intro w1 hbe1 hot1 hk1) | go_step)
  refine Mark.intro ?_
  rw [← HGN.out] at hk1 ⊢
  have hb1 : Below W0.heap.size W0 w1 := hbe1 W0 (Nat.le_refl _) ((Below.refl _ _).alloc (Nat.le_refl _) _)
  have HB1 := Lib.hid (HB0.out.trans (hb1.mono HB0.out.size))
  have HZ1 := Lib.hid (HZ0.out.below hb1 HZ0.out.lt)
  have HN1 := Lib.hid hk1
  have q0 := (HB1.out.cell (p := ⟨gA, oA, none⟩) HGA.out).trans k0
  clear hbe1 hot1 hk1 hb1 k0
  have n1 : ¬ q.toList = [116, 105, 99, 107] := by rw [ByteArray.toList_eq]; exact hT
  have n2 : ¬ q.toList = [102, 117, 115, 101] := by rw [ByteArray.toList_eq]; exact hFu
  have n3 : ¬ q.toList = [99, 114, 97, 115, 104] := by rw [ByteArray.toList_eq]; exact hCr
  have n4 : (q.toList == [116, 105, 99, 107]) = false := by rw [beq_eq_false_iff_ne]; exact n1
  have n5 : (q.toList == [102, 117, 115, 101]) = false := by rw [beq_eq_false_iff_ne]; exact n2
  have n6 : (q.toList == [99, 114, 97, 115, 104]) = false := by rw [beq_eq_false_iff_ne]; exact n3
  have HT := Lib.hid hT
  have HF := Lib.hid hFu
  have HC := Lib.hid hCr
  clear hT hFu hCr
  go_upto_region 23 with fail
  repeat (first | (refine wpList_storeG 40 (cs := zs9) (by kernel_rfl) rfl rfl rfl rfl (by simp [Value.oneCell', zs9]) (Blk.new w1 40 zs9) rfl ?_; intro w2 hbe2 hot2 hk2) | go_step)
  refine Mark.intro ?_
  obtain ⟨gM, hgM⟩ : ∃ g, g = w1.heap.size := ⟨_, rfl⟩
  rw [← hgM] at hk2 ⊢
  have hb2 : Below w1.heap.size w1 w2 := hbe2 w1 (Nat.le_refl _) ((Below.refl _ _).alloc (Nat.le_refl _) _)
  have HGM := Lib.hid hgM
  have HB2 := Lib.hid hb2
  have HX2 := Lib.hid (show Blk w2 gM 40 (mc (mg0 0) (.slice none 0 0)) from hk2)
  clear hbe2 hot2 hk2 hb2 hgM n1 n2 n3 n4 n5 n6
  go_upto_block 3 with (go_at_call 27; refine (kinds_any _).mono ?_; rintro e w3 ⟨A, rfl, hb3, hA3, hA4, hc3⟩; have HB3 := Lib.hid hb3; have HA3 := Lib.hid hA3; have HA4 := Lib.hid hA4; have HC3 := Lib.hid hc3; clear hb3 hA3 hA4 hc3)
  have HX3 := Lib.hid (HX2.out.below HB3.out HX2.out.lt)
  have HBB3 := Lib.hid (HB2.out.trans (HB3.out.mono HB2.out.size))
  have HAM := Lib.hid (show A ≠ gM by have := HA4.out; have := HX2.out.lt; omega)
  clear q0
  go_wp2_with fail
  go_loopw [127] (fun i wr => Hid (∃ (k : Nat), k ≤ 10 ∧ i = .int .i64 k ∧ Vol (fun b => b = gM) w3 wr ∧ Blk wr gM 40 (mc (mg0 (kkk K k)) (.slice none 0 0)) ∧ ∃ w7, w7 = wr)) (fun i _ => 10 - (intOf i).toNat)
  case atStart => exact Lib.hid ⟨0, by omega, rfl, Vol.refl _, by rw [show kkk K 0 = 0 by unfold kkk; simp]; exact HX3.out, _, rfl⟩
  case round =>
    obtain ⟨k, hk, rfl, hv, hx, w7, hw7⟩ := hrel.out
    subst hw7
    clear hrel
    have HV := Lib.hid hv
    have HX := Lib.hid hx
    have q7 : w7.cell? ⟨gA, oA, none⟩ = some (.string q) := by
      have h1 : gA < w1.heap.size := by have := HGA.out; have := HB1.out.size; omega
      have h2 : gA < w3.heap.size := by have := HBB3.out.size; omega
      rw [keep_cell (HV.out.block gA h2 (by have := HGM.out; omega)), HBB3.out.cell (p := ⟨gA, oA, none⟩) h1, HB1.out.cell (p := ⟨gA, oA, none⟩) HGA.out]
      exact HK0.out
    clear hv hx
    by_cases hlt : (k : Int) < 10
    · have c7 : w7.cell? ⟨A, k, none⟩ = some (.string (kwB k)) := by
        rw [keep_cell (HV.out.block A HA3.out HAM.out)]
        exact HC3.out k (by omega)
      rcases Nat.eq_zero_or_pos k with h0 | h0
      · subst h0
        go_wp2_with fail
        go_roundw
        case rel => exact Lib.hid ⟨1, by omega, by first | rfl | go_num, HV.out, by rw [show kkk K 1 = kkk K 0 by unfold kkk; rw [if_neg (Nat.not_lt_zero K)]; split <;> omega]; exact HX.out, _, rfl⟩
        case measure => simp [intOf]
      · have h0i : (0 : Int) < (k : Int) := by omega
        have hne := isW_eq k q
        have hki := kind_isW q k h0 (by omega)
        rw [← HK.out] at hki
        obtain ⟨b, hb⟩ : ∃ b, b = isW k q := ⟨_, rfl⟩
        rw [← hb] at hne hki
        have HKI := Lib.hid hki
        clear hb hki
        generalize kwB k = p at c7 hne
        cases b
        · go_wp2_with fail
          go_roundw
          case rel =>
            refine Lib.hid ⟨k + 1, by omega, by go_num, HV.out, ?_, _, rfl⟩
            have h1 : ¬ K = k := of_decide_eq_false HKI.out.symm
            rw [show kkk K (k + 1) = kkk K k by unfold kkk; by_cases h2 : K < k; rw [if_pos h2, if_pos (by omega)]; rw [if_neg h2, if_neg (by omega)]]
            exact HX.out
          case measure => simp [intOf]; omega
        · have hfr := HX.out.frozen
          have a0 : w7.cell? ⟨gM, 0, none⟩ = some (.int .i64 (kkk K k)) := HX.out.cell 0
          go_wp2_with fail
          go_roundw
          case rel =>
            refine Lib.hid ⟨k + 1, by omega, by go_num, HV.out.setCell (.inl rfl) _, ?_, _, rfl⟩
            have h1 : K = k := of_decide_eq_true HKI.out.symm
            rw [show kkk K (k + 1) = k by unfold kkk; rw [if_pos (by omega)]; exact h1]
            exact HX.out.set_ 0 _
          case measure => simp [intOf]; omega
    · have e : k = 10 := by omega
      subst e
      have HX7 : Hid (Blk w7 gM 40 (mc (mg0 K) (.slice none 0 0))) := by
        have := HX.out
        rw [show kkk K 10 = K by unfold kkk; rw [if_pos (by have := HLE.out; omega)]] at this
        exact Lib.hid this
      have a0 : w7.cell? ⟨gM, 0, none⟩ = some (.int .i64 K) := HX7.out.cell 0
      have HB7 := Lib.hid (below_vol HBB3.out HV.out (fun b e => by have := HGM.out; omega) HBB3.out.size)
      have HN7 := Lib.hid (HN1.out.below HB7.out HN1.out.lt)
      have HZ7 := Lib.hid (HZ1.out.below HB7.out HZ1.out.lt)
      clear hlt q7 HX
      have h0 : ¬ K = 0 := by have := HKC.out; omega
      have hK1 : 1 ≤ K := by omega
      have HST : Hid (stepS q ws = (msgS K ws).map fun m => ⟨1, m, 0, 0⟩) := Lib.hid (by unfold stepS; rw [← HK.out, if_pos h0])
      have HK19 := Lib.hid (show 1 ≤ K ∧ K ≤ 9 from ⟨hK1, HLE.out⟩)
      have hFl := fun wa => rFields_any K wa HK19.out.1 HK19.out.2
      have hKi : ¬ (K : Int) = 0 := by omega
      obtain ⟨f, hf⟩ : ∃ f, f = fldB K := ⟨_, rfl⟩
      obtain ⟨L, hL2⟩ : ∃ L, L = flds K := ⟨_, rfl⟩
      obtain ⟨n, hn⟩ : ∃ n, n = f.size := ⟨_, rfl⟩
      rw [← hf] at hFl
      have hcv := fun wx => Go.Lib.run_convert_string_bytes (P := Try.prog) wx 9 59 5 f Try.underlying9 Try.underlying59 Try.underlying5
      rw [← hn] at hcv
      have HLF := Lib.hid hL2
      have HLEN := Lib.hid (show L.length = n by rw [hL2, hn, hf, fldB_size])
      have HAT : Hid (∀ j c, L[j]? = some c → f.data.toList.getD j 0 = c) := Lib.hid (fun j c h => by
        rw [hf, fldB_list, ← hL2, List.getD, h]; rfl)
      have HNF := Lib.hid hn
      have hn5 : n ≤ 5 := by
        rw [hn, hf, fldB_size]
        have hle := HLE.out
        rcases (by omega : K = 1 ∨ K = 2 ∨ K = 3 ∨ K = 4 ∨ K = 5 ∨ K = 6 ∨ K = 7 ∨ K = 8 ∨ K = 9) with rfl | rfl | rfl | rfl | rfl | rfl | rfl | rfl | rfl <;> decide
      clear hf hL2 hn HX3 h0
      go_upto_region 33 with fail
      obtain ⟨A2, hA2⟩ : ∃ A2 : Option Addr, A2 = (if c = 1 then some ⟨gA, oA, none⟩ else some ⟨gA, oA + 1, none⟩) := ⟨_, rfl⟩
      rw [← hA2]
      have HWT := Lib.hid (HWD.out A2 hA2)
      have HA2 := Lib.hid hA2
      clear hA2
      go_upto_block 5 with (go_at_call 28; refine (hFl _).mono ?_; rintro e w4 ⟨rfl, hb4⟩; have HB4 := Lib.hid hb4; clear hb4)
      obtain ⟨gF, hgF⟩ : ∃ g, g = w4.heap.size := ⟨_, rfl⟩
      obtain ⟨cF, hcF⟩ : ∃ x, x = grownCap w4 n 0 5 := ⟨_, rfl⟩
      obtain ⟨w5, hw5⟩ : ∃ W, W = bytesWorld w4 5 f := ⟨_, rfl⟩
      rw [← hgF, ← hcF, ← hw5]
      have hb5 : Below w4.heap.size w4 w5 := by rw [hw5]; exact below_bytes _ _ _
      have HC5 : Hid (∀ j cc, L[j]? = some cc → w5.cell? ⟨gF, j, none⟩ = some (.int .u8 cc.toNat)) := Lib.hid (fun j cc h => by
        have hj : j < f.size := by rw [← HNF.out, ← HLEN.out]; exact (List.getElem?_eq_some_iff.1 h).1
        rw [hw5, hgF, bytesWorld_cell w4 _ f j hj, HAT.out j cc h])
      have HX5 := Lib.hid ((HX7.out.below HB4.out HX7.out.lt).below hb5 (HX7.out.below HB4.out HX7.out.lt).lt)
      have HB5 := Lib.hid ((HB7.out.trans (HB4.out.mono HB7.out.size)).trans (hb5.mono (HB7.out.trans (HB4.out.mono HB7.out.size)).size))
      have HGF := Lib.hid (show gM < gF ∧ gF < w5.heap.size from ⟨by rw [hgF]; exact (HX7.out.below HB4.out HX7.out.lt).lt, by rw [hgF, hw5, bytesWorld_size]; omega⟩)
      have HALL : Hid (∀ wr, Vol (fun b => b = gM) w5 wr → Below w1.heap.size w1 wr ∧ Blk wr g 42 zsA ∧ Blk wr gN 42 zsA ∧ ∀ j cc, L[j]? = some cc → wr.cell? ⟨gF, j, none⟩ = some (.int .u8 cc.toNat)) := Lib.hid (fun wr hv => by
        have hb := below_vol HB5.out hv (fun b e => by have := HGM.out; omega) HB5.out.size
        exact ⟨hb, HZ1.out.below hb HZ1.out.lt, HN1.out.below hb HN1.out.lt, fun j cc h => (keep_cell (hv.block gF HGF.out.2 (by have := HGF.out.1; omega))).trans (HC5.out j cc h)⟩)
      clear hw5 hgF hcF hb5 hcv hFl a0
      have HQ0 := Lib.hid (show MgQ w5 (mg0 K) (.slice none 0 0) from ⟨Its.nil _ _, rfl, HK19.out, (show nob.size ≤ 1000 by decide), (show nob.size ≤ 1000 by decide), (show nob.size ≤ 1000 by decide), by simp [mg0], by simp [mg0], by simp [mg0], by simp [mg0], fun _ _ => rfl⟩)
      go_wp2_with fail
      go_loopw [13, 155] (fun sv iv wr => Hid (∃ (j : Nat) (ws' : List ByteArray) (A' : Option Addr) (n' c' : Nat) (y : Mg) (u : Value), sv = .slice A' n' c' ∧ iv = .int .i64 j ∧ n' = ws'.length ∧ n' ≤ c' ∧ c' ≤ maxLen ∧ n' ≤ 1001 ∧ j ≤ n ∧ Blk wr gM 40 (mc y u) ∧ Ws wr A' ws' ∧ (∀ q ∈ ws', q.size ≤ 1000) ∧ (∀ gx ox, A' = some ⟨gx, ox, none⟩ → ws' ≠ [] → gx < w.heap.size) ∧ MgQ wr y u ∧ (∀ b, u.ownBlock = some b → gF < b) ∧ (73 ∉ L.take j → u = .slice none 0 0) ∧ y.k = K ∧ Vol (fun b => b = gM) w5 wr ∧ fill K L (mg0 K) ws = fill K (L.drop j) y ws' ∧ ∃ w7, w7 = wr)) (fun _ iv _ => n - (intOf iv).toNat)
      case atStart =>
        refine Lib.hid ⟨0, ws, A2, m, c - 1, mg0 K, .slice none 0 0, rfl, rfl, HM.out, by omega, by omega, hL, by omega, HX5.out, HWT.out _ (HB1.out.trans (HB5.out.mono HB1.out.size)), HQS.out, fun gx ox e hne => ?_, HQ0.out, fun b hb => by simp [Value.ownBlock] at hb, fun _ => rfl, rfl, Vol.refl _, by simp, _, rfl⟩
        rw [if_blk HA2.out e]
        exact HGA.out
      case round =>
        obtain ⟨j, ws', A', n', c', y, u, rfl, rfl, hn', hnc', hcm', hL', hj, hx, hw', hq', hgb, hp, hub, hui, hyk, hv, hfi, w7, hw7⟩ := hrel.out
        subst hw7
        clear hrel
        have HX := Lib.hid hx
        have HW := Lib.hid hw'
        have HQ' := Lib.hid hq'
        have HGB := Lib.hid hgb
        have HP := Lib.hid hp
        have HUB := Lib.hid hub
        have HUI := Lib.hid hui
        have HYK := Lib.hid hyk
        have HV5 := Lib.hid hv
        have HFI := Lib.hid hfi
        have HN' := Lib.hid hn'
        obtain ⟨hB0, hZ0, hN0, hC0⟩ := HALL.out _ hv
        have HBw := Lib.hid hB0
        have HZw := Lib.hid hZ0
        have HNw := Lib.hid hN0
        have HCw := Lib.hid hC0
        have HGM7 := Lib.hid (show w.heap.size ≤ gM by have := HGM.out; have := HB1.out.size; omega)
        have HUG := Lib.hid (show ∀ b, u.ownBlock = some b → b ≠ gM from fun b hb => by have := hub b hb; have := HGF.out.1; omega)
        have HF7 := Lib.hid (show gF < w7.heap.size from Nat.lt_of_lt_of_le HGF.out.2 hv.size)
        clear hx hw' hq' hgb hp hub hui hyk hv hfi hn' hB0 hZ0 hN0 hC0
        by_cases hlt : (j : Int) < (n : Int)
        · obtain ⟨cc, hcj⟩ : ∃ c, L[j]? = some c := ⟨L[j]'(by have := HLEN.out; omega), List.getElem?_eq_getElem _⟩
          have hcell := HCw.out j cc hcj
          have hcl : cc ∈ [(70 : UInt8), (69 : UInt8), (78 : UInt8), (84 : UInt8), (83 : UInt8)] := flds_kb K HKC.out cc (by rw [← HLF.out]; exact List.mem_of_getElem? hcj)
          have hdr : L.drop j = cc :: L.drop (j + 1) := by
            obtain ⟨e1, e2⟩ := List.getElem?_eq_some_iff.1 hcj
            rw [List.drop_eq_getElem_cons e1, e2]
          have HCJ := Lib.hid hcj
          have HDR := Lib.hid hdr
          clear hcj hdr
          have h73 : ¬ cc = 73 := by intro e; subst e; revert hcl; decide
          have hc73 : ((cc.toNat : Int) == 73) = false := by
            rw [beq_eq_false_iff_ne]
            intro e
            exact h73 (UInt8.toNat_inj.1 (by have e2 : (73 : UInt8).toNat = 73 := rfl; omega))
          rcases ws' with _ | ⟨qq, r⟩
          · have h0 : n' = 0 := HN'.out
            subst h0
            have HFN := Lib.hid (show fill K (L.drop j) y [] = none by rw [HDR.out, fill_no K cc h73])
            clear hcl
            obtain ⟨d0, d1, d2, d3, d4, d5, d6, d7, d8, d9, d10, d11⟩ := cellsZ HNw.out
            have HZX := Lib.hid HZw.out
            have HBX := Lib.hid HBw.out
            go_upto_region 48 with fail
            repeat (first | (refine wpList_storeG 42 (cs := zsA) (by kernel_rfl) rfl rfl rfl rfl (by simp [Value.oneCell', zsA]) HZX.out rfl ?_; intro wz hbez hotz hkz) | go_step)
            refine Mark.intro ?_
            have HBZ := Lib.hid (hbez w (by have := HG.out; omega) (HB1.out.trans (HBX.out.mono HB1.out.size)))
            have HKZ := Lib.hid hkz
            clear hbez hotz hkz
            go_wp2_with fail
            refine bodyPost_ret (ret_cell2 rfl rfl HKZ.out Try.underlying42 rfl (by kernel_rfl)) rfl ⟨HBZ.out, ?_⟩
            rw [HST.out.trans (show _ = none from by rw [show msgS K ws = none from by unfold msgS; rw [← HLF.out, HFI.out, HFN.out]; rfl]; rfl)]
            exact ⟨zsA, rfl, rfl, by simp [Value.oneCell', zsA]⟩
          · have h0 : 0 < n' := by have := HN'.out; simp at this; omega
            have h0i : ((n' : Int) == 0) = false := by rw [beq_eq_false_iff_ne]; omega
            have h0c : 0 < c' := by omega
            have h1n' : (1 : Int) ≤ (n' : Int) := by omega
            have h1c' : (1 : Int) ≤ (c' : Int) := by omega
            obtain ⟨gw, ow, rfl, hgw, hcw⟩ := HW.out.at_
            have hcw : w7.cell? ⟨gw, ow, none⟩ = some (.string qq) := hcw 0 qq rfl
            have HGWL := Lib.hid (HGB.out gw ow rfl (by simp))
            have hqs := HQ'.out qq (by simp)
            have HQQ := Lib.hid hqs
            have hN := fun wa => lNumber_any qq wa (by unfold maxLen; omega)
            have HFC := Lib.hid (show fill K (L.drop j) y (qq :: r) = (setM y cc qq).bind fun m' => fill K (L.drop (j + 1)) m' r by rw [HDR.out, fill_c K cc h73])
            clear hgw hqs
            have hfr := HX.out.frozen
            obtain ⟨a0, a1, a2, a3, a4, a5, a6, a7, a8⟩ := cells9 HX.out
            simp only [List.mem_cons, List.not_mem_nil, or_false] at hcl
            rcases hcl with rfl | rfl | rfl | rfl | rfl
            · have hcell : w7.cell? ⟨gF, j, none⟩ = some (.int .u8 70) := hcell
              go_upto_region 51 with fail
              obtain ⟨A3, hA3⟩ : ∃ A3 : Option Addr, A3 = (if c' = 1 then some ⟨gw, ow, none⟩ else some ⟨gw, ow + 1, none⟩) := ⟨_, rfl⟩
              rw [← hA3]
              have HA3 := Lib.hid hA3
              have HW3 : Hid (∀ wa : World, Vol (fun b => b = gM) w7 wa → Ws wa A3 r) := Lib.hid (fun wa hv => ws_if (HW.out.vol hv (fun g o e => by injection e with e; injection e with e _; have := HGWL.out; have := HGM7.out; omega)) (by simp) (by have := HN'.out; omega) HA3.out)
              clear hA3
              go_wp2_with fail
              go_roundw
              case rel =>
                have hv8 : Vol (fun b => b = gM) w7 (w7.setCell ⟨gM, 1, none⟩ (.string qq)) := vol_cell _
                have hp8 := HP.out.vol hv8 HUG.out
                refine Lib.hid ⟨j + 1, r, A3, n' - 1, c' - 1, { y with F := qq }, u, rfl, by go_num, by have := HN'.out; simp at this; omega, by omega, by omega, by omega, by omega, HX.out.set_ 1 _, HW3.out _ hv8, fun x hx => HQ'.out x (by simp [hx]), fun gx ox e _ => by rw [if_blk HA3.out e]; exact HGWL.out, ⟨hp8.its, hp8.one, hp8.kd, HQQ.out, hp8.hE, hp8.hT, hp8.hI, hp8.hq, hp8.hbd, hp8.ask, hp8.non⟩, HUB.out, fun h => HUI.out (fun h' => h (by rw [List.take_add_one]; exact List.mem_append_left _ h')), HYK.out, HV5.out.setCell (.inl rfl) _, ?_, _, rfl⟩
                rw [HFI.out, HFC.out]
                rfl
              case measure => simp [intOf]; omega
            · have hcell : w7.cell? ⟨gF, j, none⟩ = some (.int .u8 69) := hcell
              go_upto_region 51 with fail
              obtain ⟨A3, hA3⟩ : ∃ A3 : Option Addr, A3 = (if c' = 1 then some ⟨gw, ow, none⟩ else some ⟨gw, ow + 1, none⟩) := ⟨_, rfl⟩
              rw [← hA3]
              have HA3 := Lib.hid hA3
              have HW3 : Hid (∀ wa : World, Vol (fun b => b = gM) w7 wa → Ws wa A3 r) := Lib.hid (fun wa hv => ws_if (HW.out.vol hv (fun g o e => by injection e with e; injection e with e _; have := HGWL.out; have := HGM7.out; omega)) (by simp) (by have := HN'.out; omega) HA3.out)
              clear hA3
              go_wp2_with fail
              go_roundw
              case rel =>
                have hv8 : Vol (fun b => b = gM) w7 (w7.setCell ⟨gM, 2, none⟩ (.string qq)) := vol_cell _
                have hp8 := HP.out.vol hv8 HUG.out
                refine Lib.hid ⟨j + 1, r, A3, n' - 1, c' - 1, { y with E := qq }, u, rfl, by go_num, by have := HN'.out; simp at this; omega, by omega, by omega, by omega, by omega, HX.out.set_ 2 _, HW3.out _ hv8, fun x hx => HQ'.out x (by simp [hx]), fun gx ox e _ => by rw [if_blk HA3.out e]; exact HGWL.out, ⟨hp8.its, hp8.one, hp8.kd, hp8.hF, HQQ.out, hp8.hT, hp8.hI, hp8.hq, hp8.hbd, hp8.ask, hp8.non⟩, HUB.out, fun h => HUI.out (fun h' => h (by rw [List.take_add_one]; exact List.mem_append_left _ h')), HYK.out, HV5.out.setCell (.inl rfl) _, ?_, _, rfl⟩
                rw [HFI.out, HFC.out]
                rfl
              case measure => simp [intOf]; omega
            · have hcell : w7.cell? ⟨gF, j, none⟩ = some (.int .u8 78) := hcell
              obtain ⟨z, hz⟩ : ∃ z, z = numS qq.data.toList := ⟨_, rfl⟩
              rw [← hz] at hN
              have HZZ := Lib.hid hz
              clear hz
              obtain ⟨z1, z2⟩ := z
              go_upto_region 51 with fail
              obtain ⟨A3, hA3⟩ : ∃ A3 : Option Addr, A3 = (if c' = 1 then some ⟨gw, ow, none⟩ else some ⟨gw, ow + 1, none⟩) := ⟨_, rfl⟩
              rw [← hA3]
              have HA3 := Lib.hid hA3
              have HW3 : Hid (∀ wa : World, Vol (fun b => b = gM) w7 wa → Ws wa A3 r) := Lib.hid (fun wa hv => ws_if (HW.out.vol hv (fun g o e => by injection e with e; injection e with e _; have := HGWL.out; have := HGM7.out; omega)) (by simp) (by have := HN'.out; omega) HA3.out)
              clear hA3
              cases z2
              · have HSM : Hid (setM y 78 qq = none) := by show _ = _; unfold setM; rw [← HZZ.out]; rfl
                go_upto_region 60 with (go_at_call 9; refine (hN _).mono ?_; rintro e w8 ⟨rfl, rfl⟩)
                obtain ⟨d0, d1, d2, d3, d4, d5, d6, d7, d8, d9, d10, d11⟩ := cellsZ HNw.out
                have HZX := Lib.hid HZw.out
                have HBX := Lib.hid HBw.out
                go_upto_region 60 with fail
                repeat (first | (refine wpList_storeG 42 (cs := zsA) (by kernel_rfl) rfl rfl rfl rfl (by simp [Value.oneCell', zsA]) HZX.out rfl ?_; intro wz hbez hotz hkz) | go_step)
                refine Mark.intro ?_
                have HBZ := Lib.hid (hbez w (by have := HG.out; omega) (HB1.out.trans (HBX.out.mono HB1.out.size)))
                have HKZ := Lib.hid hkz
                clear hbez hotz hkz
                go_wp2_with fail
                refine bodyPost_ret (ret_cell2 rfl rfl HKZ.out Try.underlying42 rfl (by kernel_rfl)) rfl ⟨HBZ.out, ?_⟩
                rw [HST.out.trans (show _ = none from by rw [show msgS K ws = none from by unfold msgS; rw [← HLF.out, HFI.out, HFC.out, HSM.out]; rfl]; rfl)]
                exact ⟨zsA, rfl, rfl, by simp [Value.oneCell', zsA]⟩
              · have HSM : Hid (setM y 78 qq = some { y with N := z1 }) := by show _ = _; unfold setM; rw [← HZZ.out]; rfl
                go_wp2_with (go_at_call 9; refine (hN _).mono ?_; rintro e w8 ⟨rfl, rfl⟩)
                go_roundw
                case rel =>
                  have hv8 : Vol (fun b => b = gM) w7 (w7.setCell ⟨gM, 4, none⟩ (.int .i64 z1)) := vol_cell _
                  have hp8 := HP.out.vol hv8 HUG.out
                  refine Lib.hid ⟨j + 1, r, A3, n' - 1, c' - 1, { y with N := z1 }, u, rfl, by go_num, by have := HN'.out; simp at this; omega, by omega, by omega, by omega, by omega, HX.out.set_ 4 _, HW3.out _ hv8, fun x hx => HQ'.out x (by simp [hx]), fun gx ox e _ => by rw [if_blk HA3.out e]; exact HGWL.out, ⟨hp8.its, hp8.one, hp8.kd, hp8.hF, hp8.hE, hp8.hT, hp8.hI, hp8.hq, hp8.hbd, hp8.ask, hp8.non⟩, HUB.out, fun h => HUI.out (fun h' => h (by rw [List.take_add_one]; exact List.mem_append_left _ h')), HYK.out, HV5.out.setCell (.inl rfl) _, ?_, _, rfl⟩
                  rw [HFI.out, HFC.out]
                  rw [HSM.out]; rfl
                case measure => simp [intOf]; omega
            · have hcell : w7.cell? ⟨gF, j, none⟩ = some (.int .u8 84) := hcell
              go_upto_region 51 with fail
              obtain ⟨A3, hA3⟩ : ∃ A3 : Option Addr, A3 = (if c' = 1 then some ⟨gw, ow, none⟩ else some ⟨gw, ow + 1, none⟩) := ⟨_, rfl⟩
              rw [← hA3]
              have HA3 := Lib.hid hA3
              have HW3 : Hid (∀ wa : World, Vol (fun b => b = gM) w7 wa → Ws wa A3 r) := Lib.hid (fun wa hv => ws_if (HW.out.vol hv (fun g o e => by injection e with e; injection e with e _; have := HGWL.out; have := HGM7.out; omega)) (by simp) (by have := HN'.out; omega) HA3.out)
              clear hA3
              go_wp2_with fail
              go_roundw
              case rel =>
                have hv8 : Vol (fun b => b = gM) w7 (w7.setCell ⟨gM, 3, none⟩ (.string qq)) := vol_cell _
                have hp8 := HP.out.vol hv8 HUG.out
                refine Lib.hid ⟨j + 1, r, A3, n' - 1, c' - 1, { y with T := qq }, u, rfl, by go_num, by have := HN'.out; simp at this; omega, by omega, by omega, by omega, by omega, HX.out.set_ 3 _, HW3.out _ hv8, fun x hx => HQ'.out x (by simp [hx]), fun gx ox e _ => by rw [if_blk HA3.out e]; exact HGWL.out, ⟨hp8.its, hp8.one, hp8.kd, hp8.hF, hp8.hE, HQQ.out, hp8.hI, hp8.hq, hp8.hbd, hp8.ask, hp8.non⟩, HUB.out, fun h => HUI.out (fun h' => h (by rw [List.take_add_one]; exact List.mem_append_left _ h')), HYK.out, HV5.out.setCell (.inl rfl) _, ?_, _, rfl⟩
                rw [HFI.out, HFC.out]
                rfl
              case measure => simp [intOf]; omega
            · have hcell : w7.cell? ⟨gF, j, none⟩ = some (.int .u8 83) := hcell
              obtain ⟨z, hz⟩ : ∃ z, z = numS qq.data.toList := ⟨_, rfl⟩
              rw [← hz] at hN
              have HZZ := Lib.hid hz
              clear hz
              obtain ⟨z1, z2⟩ := z
              go_upto_region 51 with fail
              obtain ⟨A3, hA3⟩ : ∃ A3 : Option Addr, A3 = (if c' = 1 then some ⟨gw, ow, none⟩ else some ⟨gw, ow + 1, none⟩) := ⟨_, rfl⟩
              rw [← hA3]
              have HA3 := Lib.hid hA3
              have HW3 : Hid (∀ wa : World, Vol (fun b => b = gM) w7 wa → Ws wa A3 r) := Lib.hid (fun wa hv => ws_if (HW.out.vol hv (fun g o e => by injection e with e; injection e with e _; have := HGWL.out; have := HGM7.out; omega)) (by simp) (by have := HN'.out; omega) HA3.out)
              clear hA3
              cases z2
              · have HSM : Hid (setM y 83 qq = none) := by show _ = _; unfold setM; rw [← HZZ.out]; rfl
                go_upto_region 60 with (go_at_call 9; refine (hN _).mono ?_; rintro e w8 ⟨rfl, rfl⟩)
                obtain ⟨d0, d1, d2, d3, d4, d5, d6, d7, d8, d9, d10, d11⟩ := cellsZ HNw.out
                have HZX := Lib.hid HZw.out
                have HBX := Lib.hid HBw.out
                go_upto_region 60 with fail
                repeat (first | (refine wpList_storeG 42 (cs := zsA) (by kernel_rfl) rfl rfl rfl rfl (by simp [Value.oneCell', zsA]) HZX.out rfl ?_; intro wz hbez hotz hkz) | go_step)
                refine Mark.intro ?_
                have HBZ := Lib.hid (hbez w (by have := HG.out; omega) (HB1.out.trans (HBX.out.mono HB1.out.size)))
                have HKZ := Lib.hid hkz
                clear hbez hotz hkz
                go_wp2_with fail
                refine bodyPost_ret (ret_cell2 rfl rfl HKZ.out Try.underlying42 rfl (by kernel_rfl)) rfl ⟨HBZ.out, ?_⟩
                rw [HST.out.trans (show _ = none from by rw [show msgS K ws = none from by unfold msgS; rw [← HLF.out, HFI.out, HFC.out, HSM.out]; rfl]; rfl)]
                exact ⟨zsA, rfl, rfl, by simp [Value.oneCell', zsA]⟩
              · have HSM : Hid (setM y 83 qq = some { y with S := z1 }) := by show _ = _; unfold setM; rw [← HZZ.out]; rfl
                go_wp2_with (go_at_call 9; refine (hN _).mono ?_; rintro e w8 ⟨rfl, rfl⟩)
                go_roundw
                case rel =>
                  have hv8 : Vol (fun b => b = gM) w7 (w7.setCell ⟨gM, 5, none⟩ (.int .i64 z1)) := vol_cell _
                  have hp8 := HP.out.vol hv8 HUG.out
                  refine Lib.hid ⟨j + 1, r, A3, n' - 1, c' - 1, { y with S := z1 }, u, rfl, by go_num, by have := HN'.out; simp at this; omega, by omega, by omega, by omega, by omega, HX.out.set_ 5 _, HW3.out _ hv8, fun x hx => HQ'.out x (by simp [hx]), fun gx ox e _ => by rw [if_blk HA3.out e]; exact HGWL.out, ⟨hp8.its, hp8.one, hp8.kd, hp8.hF, hp8.hE, hp8.hT, hp8.hI, hp8.hq, hp8.hbd, hp8.ask, hp8.non⟩, HUB.out, fun h => HUI.out (fun h' => h (by rw [List.take_add_one]; exact List.mem_append_left _ h')), HYK.out, HV5.out.setCell (.inl rfl) _, ?_, _, rfl⟩
                  rw [HFI.out, HFC.out]
                  rw [HSM.out]; rfl
                case measure => simp [intOf]; omega
        · have hdn : L.drop j = [] := List.drop_of_length_le (by have := HLEN.out; omega)
          have htk : L.take j = L := List.take_of_length_le (by have := HLEN.out; omega)
          have HDN := Lib.hid hdn
          have HTK := Lib.hid htk
          clear hdn htk
          rcases ws' with _ | ⟨qq, r⟩
          · have h0 : n' = 0 := HN'.out
            subst h0
            have HFS := Lib.hid (show fill K (flds K) (mg0 K) ws = some y by rw [← HLF.out, HFI.out, HDN.out]; rfl)
            have hCk := rCheck_any y u w7 HP.out
            rw [rchk_eq K HK19.out.1 HK19.out.2 ws y HFS.out] at hCk
            have HMS : Hid (msgS K ws = if chk y = true then some y else none) := by show _ = _; unfold msgS; rw [HFS.out]; rfl
            obtain ⟨a0, a1, a2, a3, a4, a5, a6, a7, a8⟩ := cells9 HX.out
            have hu1 := HP.out.one
            cases hck : chk y with
            | false =>
              rw [hck] at hCk
              have HCK := Lib.hid hck
              clear hck
              go_upto_region 71 with (go_at_call 29; refine hCk.mono ?_; rintro e w9 ⟨rfl, hb9⟩; have HB9 := Lib.hid hb9; clear hb9)
              have HBw9 := Lib.hid (HBw.out.trans (HB9.out.mono HBw.out.size))
              have HNw9 := Lib.hid (HNw.out.below HB9.out HNw.out.lt)
              have HZw9 := Lib.hid (HZw.out.below HB9.out HZw.out.lt)
              obtain ⟨d0, d1, d2, d3, d4, d5, d6, d7, d8, d9, d10, d11⟩ := cellsZ HNw9.out
              have HZX := Lib.hid HZw9.out
              have HBX := Lib.hid HBw9.out
              go_upto_region 71 with fail
              repeat (first | (refine wpList_storeG 42 (cs := zsA) (by kernel_rfl) rfl rfl rfl rfl (by simp [Value.oneCell', zsA]) HZX.out rfl ?_; intro wz hbez hotz hkz) | go_step)
              refine Mark.intro ?_
              have HBZ := Lib.hid (hbez w (by have := HG.out; omega) (HB1.out.trans (HBX.out.mono HB1.out.size)))
              have HKZ := Lib.hid hkz
              clear hbez hotz hkz
              go_wp2_with fail
              refine bodyPost_ret (ret_cell2 rfl rfl HKZ.out Try.underlying42 rfl (by kernel_rfl)) rfl ⟨HBZ.out, ?_⟩
              rw [HST.out.trans (show _ = none from by rw [show msgS K ws = none from by rw [HMS.out, HCK.out]; rfl]; rfl)]
              exact ⟨zsA, rfl, rfl, by simp [Value.oneCell', zsA]⟩
            | true =>
              rw [hck] at hCk
              have HCK := Lib.hid hck
              clear hck
              go_upto_region 72 with (go_at_call 29; refine hCk.mono ?_; rintro e w9 ⟨rfl, hb9⟩; have HB9 := Lib.hid hb9; clear hb9)
              have HBw9 := Lib.hid (HBw.out.trans (HB9.out.mono HBw.out.size))
              have HX9 := Lib.hid (HX.out.below HB9.out HX.out.lt)
              have HZ9 := Lib.hid (HZw.out.below HB9.out HZw.out.lt)
              have HP9 := Lib.hid (HP.out.below HB9.out)
              clear a0 a1 a2 a3 a4 a5 a6 a7 a8
              obtain ⟨a0, a1, a2, a3, a4, a5, a6, a7, a8⟩ := cells9 HX9.out
              repeat (first | (refine wpList_storeG 42 (cs := sc ⟨1, y, 0, 0⟩ u) (by kernel_rfl) rfl rfl rfl rfl (sc_one hu1) HZ9.out rfl ?_; intro wz hbez hotz hkz) | go_step)
              refine Mark.intro ?_
              have HBZ := Lib.hid (hbez w (by have := HG.out; omega) (HB1.out.trans (HBw9.out.mono HB1.out.size)))
              have HKZ := Lib.hid hkz
              have HOZ := Lib.hid hotz
              clear hbez hotz hkz
              go_wp2_with fail
              refine bodyPost_ret (ret_cell2 rfl rfl HKZ.out Try.underlying42 rfl (by kernel_rfl)) rfl ⟨HBZ.out, ?_⟩
              rw [HST.out.trans (show _ = some ⟨1, y, 0, 0⟩ from by rw [HMS.out, HCK.out]; rfl)]
              have hown : ∀ b, u.ownBlock = some b → gF < b := HUB.out
              have hgw : g < w1.heap.size := HZ1.out.lt
              refine ⟨u, rfl, ⟨?_, hu1, HP9.out.hI⟩, fun b hb => by have := hown b hb; have := HGF.out.1; have := HGM7.out; omega⟩
              refine its_conv (φ := fwI) (HP9.out.its.keepN (w' := wz) (size_of_keep HOZ.out (by have := HGM.out; have := HX9.out.lt; omega)) (fun hne b hb hlt2 => HOZ.out b hlt2 (by have := hown b hb; have := HGF.out.1; have := HGM.out; omega))) (msg_pw HP9.out ?_ HCK.out)
              by_cases h1 : K = 1
              · exact .inl (by rw [HYK.out]; exact h1)
              by_cases h5 : K = 5
              · exact .inr (.inl (by rw [HYK.out]; exact h5))
              · refine .inr (.inr ?_)
                obtain ⟨A9, c9, e9, h9⟩ := HP9.out.its
                have hnil := HP9.out.non (by rw [HYK.out]; exact h1) (by rw [HYK.out]; exact h5)
                rw [hnil] at e9
                injection e9 with _ e9 _
                exact List.eq_nil_of_length_eq_zero e9.symm
          · have h0 : 0 < n' := by have := HN'.out; simp at this; omega
            have h0i : (0 : Int) < (n' : Int) := by omega
            have HFS := Lib.hid (show fill K (flds K) (mg0 K) ws = none by rw [← HLF.out, HFI.out, HDN.out]; rfl)
            obtain ⟨d0, d1, d2, d3, d4, d5, d6, d7, d8, d9, d10, d11⟩ := cellsZ HNw.out
            have HZX := Lib.hid HZw.out
            have HBX := Lib.hid HBw.out
            go_upto_region 71 with fail
            repeat (first | (refine wpList_storeG 42 (cs := zsA) (by kernel_rfl) rfl rfl rfl rfl (by simp [Value.oneCell', zsA]) HZX.out rfl ?_; intro wz hbez hotz hkz) | go_step)
            refine Mark.intro ?_
            have HBZ := Lib.hid (hbez w (by have := HG.out; omega) (HB1.out.trans (HBX.out.mono HB1.out.size)))
            have HKZ := Lib.hid hkz
            clear hbez hotz hkz
            go_wp2_with fail
            refine bodyPost_ret (ret_cell2 rfl rfl HKZ.out Try.underlying42 rfl (by kernel_rfl)) rfl ⟨HBZ.out, ?_⟩
            rw [HST.out.trans (show _ = none from by rw [show msgS K ws = none from by unfold msgS; rw [HFS.out]; rfl]; rfl)]
            exact ⟨zsA, rfl, rfl, by simp [Value.oneCell', zsA]⟩
end Go.Proofs.Ytfbedlhigggggaa.Sp
