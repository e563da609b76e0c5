/- The plain Step: the kinds that are told. -/
import Derived.Test.YtfbedlhigggggaaSpEE
import Derived.Test.YtfbedlhigggggaaSpV
import Derived.Test.YtfbedlhigggggaaHeldL
import Derived.Lib.ConvBytes
import Derived.Deep.RegionHeld3
namespace Go.Proofs.Ytfbedlhigggggaa.Sp
open Go Go.RowKit Go.Lib Go.Proofs.Ytfbedlhigggggaa Go.Proofs.Ytfbedlhigggggaa.Crw Go.Proofs.Ytfbedlhigggggaa.Vl Go.ChangeShapes Go.WideShapes Go.ChangeAt
set_option linter.unusedVariables false
set_option maxRecDepth 100000
theorem below_bytes (w : World) (e : TypeId) (s : ByteArray) : Below w.heap.size w (bytesWorld w e s) := ⟨rfl, rfl, rfl, by rw [bytesWorld_size]; omega, fun b hb => bytesWorld_at_old w e s b hb⟩
theorem kind_isW (q : ByteArray) (k : Nat) (h1 : 1 ≤ k) (h2 : k ≤ 9) : isW k q = decide (kindS q = k) := by
  by_cases h : isW k q = true
  · have e : q.data.toList = kw k := by unfold isW at h; rw [beq_iff_eq] at h; exact h.symm
    rw [h, eq_comm, decide_eq_true_eq]
    have hq : q = ⟨(kw k).toArray⟩ := lit_of e
    subst hq
    rcases (by omega : k = 1 ∨ k = 2 ∨ k = 3 ∨ k = 4 ∨ k = 5 ∨ k = 6 ∨ k = 7 ∨ k = 8 ∨ k = 9) with rfl | rfl | rfl | rfl | rfl | rfl | rfl | rfl | rfl <;> decide
  · have h' : isW k q = false := by simpa using h
    rw [h', eq_comm, decide_eq_false_iff_not]
    intro e
    apply h
    have := kindF_is q 9 1 (by show kindS q ≠ 0; omega)
    rw [show kindF q 9 1 = k from e] at this
    exact this
theorem its_conv {φ ψ : Itm → Nat × Nat} {w : World} {v : Value} {l : List Itm} (h : Its φ w v l) (he : ∀ i ∈ l, φ i = ψ i) : Its ψ w v l := by
  obtain ⟨A, c, rfl, h⟩ := h
  refine ⟨A, c, rfl, fun hne => ?_⟩
  obtain ⟨g, h1, h2, h3⟩ := h hne
  refine ⟨g, h1, h2, fun k i hi => ?_⟩
  have := h3 k i hi
  rw [he i (List.mem_of_getElem? hi)] at this
  exact this
theorem msg_pw {w : World} {y : Mg} {u : Value} (h : MgQ w y u) (hk : y.k = 1 ∨ y.k = 5 ∨ y.I = []) (hc : chk y = true) : ∀ i ∈ y.I, fwI i = pw i := by
  intro i hi
  by_cases h1 : y.k = 1
  · have h2 : chkF y 73 = true := by
      unfold chk at hc
      rw [List.all_eq_true] at hc
      exact hc 73 (by rw [h1]; decide)
    have h3 : itOk y.k y.I = true := h2
    rw [h1] at h3
    unfold itOk at h3
    have h4 : y.I.all rgt = true := by simp at h3 ⊢; exact h3.1.2
    rw [List.all_eq_true] at h4
    have h5 := h4 i hi
    unfold rgt at h5
    rw [decide_eq_true_eq] at h5
    unfold fwI pw ofW
    rw [if_pos (by omega), if_pos (by omega)]
  · obtain ⟨e1, e2⟩ := h.ask h1 i hi
    unfold fwI pw
    rw [e1, e2, ofW_zero]
    exact Prod.ext fw_zero fw_zero
theorem itA_cons (q : ByteArray) (r : List ByteArray) : itA (q :: r) = ⟨q, 0, 0⟩ :: itA r := rfl
def itF (φ : Itm → Nat × Nat) (i : Itm) : List Value := [.string i.t, .complex .f64 (φ i).1 (φ i).2]
theorem itF_one (φ : Itm → Nat × Nat) (i : Itm) : ∀ u ∈ itF φ i, u.oneCell' = true := by
  intro u hu; simp [itF] at hu; rcases hu with rfl | rfl <;> rfl
theorem itsF_snoc (φ : Itm → Nat × Nat) (l : List Itm) (i : Itm) : itsF φ (l ++ [i]) = itsF φ l ++ itF φ i := by simp [itsF, itF]
def kkk (K k : Nat) : Nat := if K < k then K else 0
/-- 73 stands at most once among the fields. -/
theorem flds_once (k j : Nat) (h1 : 1 ≤ k) (h2 : k ≤ 9) (h : (flds k)[j]? = some 73) : (73 : UInt8) ∉ (flds k).take j := by
  have hj : j < (flds k).length := (List.getElem?_eq_some_iff.1 h).1
  rcases (by omega : k = 1 ∨ k = 2 ∨ k = 3 ∨ k = 4 ∨ k = 5 ∨ k = 6 ∨ k = 7 ∨ k = 8 ∨ k = 9) with rfl | rfl | rfl | rfl | rfl | rfl | rfl | rfl | rfl
  all_goals
    have hl : j < 5 := Nat.lt_of_lt_of_le hj (by decide)
    rcases (by omega : j = 0 ∨ j = 1 ∨ j = 2 ∨ j = 3 ∨ j = 4) with rfl | rfl | rfl | rfl | rfl
    all_goals first | decide | (exact absurd h (by decide))
theorem numA_bd {k : Nat} : ∀ (l : List UInt8) (a b : Int), numA l a = some b → 0 ≤ a → a < p10 k → 0 ≤ b ∧ b < p10 (k + l.length)
  | [], a, b, h, h0, h1 => by
    injection h with h
    subst h
    exact ⟨h0, h1⟩
  | c :: r, a, b, h, h0, h1 => by
    unfold numA at h
    split at h
    · rename_i hd
      unfold digB at hd
      simp at hd
      have := numA_bd (k := k + 1) r _ b h (by omega) (by show _ < 10 * p10 k; omega)
      rw [List.length_cons, show k + (r.length + 1) = k + 1 + r.length by omega]
      exact this
    · cases h
theorem numS_bd (l : List UInt8) : 0 ≤ (numS l).1 ∧ (numS l).1 ≤ 1000000000 := by
  unfold numS
  split
  · simp
  · rename_i hn
    cases h : numA l 0 with
    | none => simp
    | some v =>
      have h1 := numA_bd (k := 0) l 0 v h (by omega) (by decide)
      have h2 : p10 (0 + l.length) ≤ 1000000000 := (p10_le _ (by omega)).2
      exact ⟨h1.1, by show v ≤ _; omega⟩
theorem MgQ.vol {w w' : World} {y : Mg} {u : Value} {g : Nat} (h : MgQ w y u) (hv : Vol (fun b => b = g) w w') (hn : ∀ b, u.ownBlock = some b → b ≠ g) : MgQ w' y u :=
  ⟨h.its.keep hv.size (fun b hb hlt => hv.block b hlt (hn b hb)), h.one, h.kd, h.hF, h.hE, h.hT, h.hI, h.hq, h.hbd, h.ask, h.non⟩
theorem itF_zero (q : ByteArray) : itF fwI ⟨q, 0, 0⟩ = [.string q, .complex .f64 0 0] := by
  unfold itF fwI
  simp [fw_zero]
theorem itF_num (q : ByteArray) (x y : Int) (h1 : 0 ≤ x) (h2 : 0 ≤ y) : itF fwI ⟨q, x, y⟩ = [.string q, .complex .f64 (floatOfInt .f64 x) (floatOfInt .f64 y)] := by
  unfold itF fwI
  rw [ofInt_fw h1, ofInt_fw h2]
theorem it2_one (q : ByteArray) (a b : Nat) : ∀ u ∈ [Value.string q, .complex .f64 a b], u.oneCell' = true := by
  intro u hu; simp at hu; rcases hu with rfl | rfl <;> rfl
theorem ws_if {w : World} {g o n c : Nat} {L M : List ByteArray} (h : Ws w (some ⟨g, o, none⟩) L) (hM : M = L.drop n) (hc : L.length ≤ c) {A : Option Addr} (hA : A = if c = n then some ⟨g, o, none⟩ else some ⟨g, o + n, none⟩) : Ws w A M := by
  refine h.drop (n := n) hM (fun hne => ?_)
  rw [hA, if_neg]
  intro e
  apply hne
  rw [hM]
  exact List.drop_of_length_le (by omega)
theorem if_blk {g o n c gx ox : Nat} {A : Option Addr} (hA : A = if c = n then some ⟨g, o, none⟩ else some ⟨g, o + n, none⟩) (e : A = some ⟨gx, ox, none⟩) : gx = g := by
  rw [hA] at e
  split at e
  · injection e with e; injection e with e _; exact e.symm
  · injection e with e; injection e with e _; exact e.symm
theorem flds_ka (k : Nat) (h : k = 2 ∨ k = 3 ∨ k = 4 ∨ k = 6) : ∀ c ∈ flds k, c ∈ [(70 : UInt8), (84 : UInt8), (85 : UInt8), (80 : UInt8)] := by
  rcases h with rfl | rfl | rfl | rfl
  all_goals decide
theorem flds_kb (k : Nat) (h : k = 7 ∨ k = 8 ∨ k = 9) : ∀ c ∈ flds k, c ∈ [(70 : UInt8), (69 : UInt8), (78 : UInt8), (84 : UInt8), (83 : UInt8)] := by
  rcases h with rfl | rfl | rfl
  all_goals decide
set_option maxHeartbeats 32000000 in
theorem lStep_k0 (q : ByteArray) (ws : List ByteArray) (Ad : Option Addr) (c : Nat) (w : World) (hKc : kindS q = 0) (hT : ¬ q.data.toList = tickL) (hFu : ¬ q.data.toList = fuseL) (hCr : ¬ q.data.toList = crashL) (hnc : ws.length + 1 ≤ c) (hcm : c ≤ maxLen) (hL : ws.length ≤ 1001) (hqs : ∀ x ∈ ws, x.size ≤ 1000) (hs : Ws w Ad (q :: ws)) :
    Calls Try.prog 18 #[.slice Ad (ws.length + 1) c] w (StepPost w q ws) := by
  obtain ⟨K, hK⟩ : ∃ K, K = kindS q := ⟨_, rfl⟩
  have hle := kindS_le q
  rw [← hK] at hle hKc
  have HK := Lib.hid hK
  have HLE := Lib.hid hle
  have HKC := Lib.hid hKc
  clear hK hle hKc
  obtain ⟨m, hm⟩ : ∃ m, m = ws.length := ⟨_, rfl⟩
  rw [← hm] at hnc hL ⊢
  obtain ⟨gA, oA, rfl, hgA, hcA⟩ := hs.at_
  have k0 : w.cell? ⟨gA, oA, none⟩ = some (.string q) := hcA 0 _ rfl
  obtain ⟨g, hg⟩ : ∃ g, g = w.heap.size := ⟨_, rfl⟩
  obtain ⟨W0, hW0⟩ : ∃ W, W = w.alloc (.cells zsA 42) := ⟨_, rfl⟩
  have hb0 : Below w.heap.size w W0 := by rw [hW0]; exact (Below.refl _ _).alloc (Nat.le_refl _) _
  have hz0 : Blk W0 g 42 zsA := by rw [hW0, hg]; exact Blk.new _ _ _
  obtain ⟨gN, hgN⟩ : ∃ g, g = W0.heap.size := ⟨_, rfl⟩
  have HWD : Hid (∀ (A2 : Option Addr), A2 = (if c = 1 then some ⟨gA, oA, none⟩ else some ⟨gA, oA + 1, none⟩) → ∀ wa : World, Below w.heap.size w wa → Ws wa A2 ws) := Lib.hid (fun A2 hA2 wa hba => by
    refine (hs.below hba).drop (n := 1) (by simp) (fun hne => ?_)
    rw [hA2, if_neg]
    intro e
    apply hne
    exact List.eq_nil_of_length_eq_zero (by omega))
  have HG := Lib.hid hg
  have HGN := Lib.hid hgN
  have HW0 := Lib.hid hW0
  have HZ0 := Lib.hid hz0
  have HB0 := Lib.hid hb0
  have HM := Lib.hid hm
  have HGA := Lib.hid hgA
  have HQS := Lib.hid hqs
  have HK0 := Lib.hid k0
  clear hg hgN hW0 hz0 hb0 hm hgA hs hcA hqs
  have h0m : 0 < m + 1 := by omega
  have h0c : 0 < c := by omega
  have h1n : (1 : Int) ≤ (m : Int) + 1 := by omega
  have h1c : (1 : Int) ≤ (c : Int) := by omega
  go_enter Try.func18, Try.ntmps18
  go_upto_region 1 with fail
  rw [show w.alloc (.cells #[.int .i64 0, .int .i64 0, .string ⟨#[]⟩, .string ⟨#[]⟩, .string ⟨#[]⟩, .int .i64 0, .int .i64 0, .int .i64 0, .int .i64 0, .slice none 0 0, .int .i64 0, .int .i64 0] 42) = W0 from HW0.out.symm, ← HG.out]
  repeat (first | (refine wpList_storeG 42 (cs := zsA) (by kernel_rfl) rfl rfl rfl rfl (by simp [Value.oneCell', zsA]) (Blk.new W0 42 zsA) rfl ?_; intro w1 hbe1 hot1 hk1) | go_step)
  refine Mark.intro ?_
  rw [← HGN.out] at hk1 ⊢
  have hb1 : Below W0.heap.size W0 w1 := hbe1 W0 (Nat.le_refl _) ((Below.refl _ _).alloc (Nat.le_refl _) _)
  have HB1 := Lib.hid (HB0.out.trans (hb1.mono HB0.out.size))
  have HZ1 := Lib.hid (HZ0.out.below hb1 HZ0.out.lt)
  have HN1 := Lib.hid hk1
  have q0 := (HB1.out.cell (p := ⟨gA, oA, none⟩) HGA.out).trans k0
  clear hbe1 hot1 hk1 hb1 k0
  have n1 : ¬ q.toList = [116, 105, 99, 107] := by rw [ByteArray.toList_eq]; exact hT
  have n2 : ¬ q.toList = [102, 117, 115, 101] := by rw [ByteArray.toList_eq]; exact hFu
  have n3 : ¬ q.toList = [99, 114, 97, 115, 104] := by rw [ByteArray.toList_eq]; exact hCr
  have n4 : (q.toList == [116, 105, 99, 107]) = false := by rw [beq_eq_false_iff_ne]; exact n1
  have n5 : (q.toList == [102, 117, 115, 101]) = false := by rw [beq_eq_false_iff_ne]; exact n2
  have n6 : (q.toList == [99, 114, 97, 115, 104]) = false := by rw [beq_eq_false_iff_ne]; exact n3
  have HT := Lib.hid hT
  have HF := Lib.hid hFu
  have HC := Lib.hid hCr
  clear hT hFu hCr
  go_upto_region 23 with fail
  repeat (first | (refine wpList_storeG 40 (cs := zs9) (by kernel_rfl) rfl rfl rfl rfl (by simp [Value.oneCell', zs9]) (Blk.new w1 40 zs9) rfl ?_; intro w2 hbe2 hot2 hk2) | go_step)
  refine Mark.intro ?_
  obtain ⟨gM, hgM⟩ : ∃ g, g = w1.heap.size := ⟨_, rfl⟩
  rw [← hgM] at hk2 ⊢
  have hb2 : Below w1.heap.size w1 w2 := hbe2 w1 (Nat.le_refl _) ((Below.refl _ _).alloc (Nat.le_refl _) _)
  have HGM := Lib.hid hgM
  have HB2 := Lib.hid hb2
  have HX2 := Lib.hid (show Blk w2 gM 40 (mc (mg0 0) (.slice none 0 0)) from hk2)
  clear hbe2 hot2 hk2 hb2 hgM n1 n2 n3 n4 n5 n6
  go_upto_block 3 with (go_at_call 27; refine (kinds_any _).mono ?_; rintro e w3 ⟨A, rfl, hb3, hA3, hA4, hc3⟩; have HB3 := Lib.hid hb3; have HA3 := Lib.hid hA3; have HA4 := Lib.hid hA4; have HC3 := Lib.hid hc3; clear hb3 hA3 hA4 hc3)
  have HX3 := Lib.hid (HX2.out.below HB3.out HX2.out.lt)
  have HBB3 := Lib.hid (HB2.out.trans (HB3.out.mono HB2.out.size))
  have HAM := Lib.hid (show A ≠ gM by have := HA4.out; have := HX2.out.lt; omega)
  clear q0
  go_wp2_with fail
  go_loopw [127] (fun i wr => Hid (∃ (k : Nat), k ≤ 10 ∧ i = .int .i64 k ∧ Vol (fun b => b = gM) w3 wr ∧ Blk wr gM 40 (mc (mg0 (kkk K k)) (.slice none 0 0)) ∧ ∃ w7, w7 = wr)) (fun i _ => 10 - (intOf i).toNat)
  case atStart => exact Lib.hid ⟨0, by omega, rfl, Vol.refl _, by rw [show kkk K 0 = 0 by unfold kkk; simp]; exact HX3.out, _, rfl⟩
  case round =>
    obtain ⟨k, hk, rfl, hv, hx, w7, hw7⟩ := hrel.out
    subst hw7
    clear hrel
    have HV := Lib.hid hv
    have HX := Lib.hid hx
    have q7 : w7.cell? ⟨gA, oA, none⟩ = some (.string q) := by
      have h1 : gA < w1.heap.size := by have := HGA.out; have := HB1.out.size; omega
      have h2 : gA < w3.heap.size := by have := HBB3.out.size; omega
      rw [keep_cell (HV.out.block gA h2 (by have := HGM.out; omega)), HBB3.out.cell (p := ⟨gA, oA, none⟩) h1, HB1.out.cell (p := ⟨gA, oA, none⟩) HGA.out]
      exact HK0.out
    clear hv hx
    by_cases hlt : (k : Int) < 10
    · have c7 : w7.cell? ⟨A, k, none⟩ = some (.string (kwB k)) := by
        rw [keep_cell (HV.out.block A HA3.out HAM.out)]
        exact HC3.out k (by omega)
      rcases Nat.eq_zero_or_pos k with h0 | h0
      · subst h0
        go_wp2_with fail
        go_roundw
        case rel => exact Lib.hid ⟨1, by omega, by first | rfl | go_num, HV.out, by rw [show kkk K 1 = kkk K 0 by unfold kkk; rw [if_neg (Nat.not_lt_zero K)]; split <;> omega]; exact HX.out, _, rfl⟩
        case measure => simp [intOf]
      · have h0i : (0 : Int) < (k : Int) := by omega
        have hne := isW_eq k q
        have hki := kind_isW q k h0 (by omega)
        rw [← HK.out] at hki
        obtain ⟨b, hb⟩ : ∃ b, b = isW k q := ⟨_, rfl⟩
        rw [← hb] at hne hki
        have HKI := Lib.hid hki
        clear hb hki
        generalize kwB k = p at c7 hne
        cases b
        · go_wp2_with fail
          go_roundw
          case rel =>
            refine Lib.hid ⟨k + 1, by omega, by go_num, HV.out, ?_, _, rfl⟩
            have h1 : ¬ K = k := of_decide_eq_false HKI.out.symm
            rw [show kkk K (k + 1) = kkk K k by unfold kkk; by_cases h2 : K < k; rw [if_pos h2, if_pos (by omega)]; rw [if_neg h2, if_neg (by omega)]]
            exact HX.out
          case measure => simp [intOf]; omega
        · have hfr := HX.out.frozen
          have a0 : w7.cell? ⟨gM, 0, none⟩ = some (.int .i64 (kkk K k)) := HX.out.cell 0
          go_wp2_with fail
          go_roundw
          case rel =>
            refine Lib.hid ⟨k + 1, by omega, by go_num, HV.out.setCell (.inl rfl) _, ?_, _, rfl⟩
            have h1 : K = k := of_decide_eq_true HKI.out.symm
            rw [show kkk K (k + 1) = k by unfold kkk; rw [if_pos (by omega)]; exact h1]
            exact HX.out.set_ 0 _
          case measure => simp [intOf]; omega
    · have e : k = 10 := by omega
      subst e
      have HX7 : Hid (Blk w7 gM 40 (mc (mg0 K) (.slice none 0 0))) := by
        have := HX.out
        rw [show kkk K 10 = K by unfold kkk; rw [if_pos (by have := HLE.out; omega)]] at this
        exact Lib.hid this
      have a0 : w7.cell? ⟨gM, 0, none⟩ = some (.int .i64 K) := HX7.out.cell 0
      have HB7 := Lib.hid (below_vol HBB3.out HV.out (fun b e => by have := HGM.out; omega) HBB3.out.size)
      have HN7 := Lib.hid (HN1.out.below HB7.out HN1.out.lt)
      have HZ7 := Lib.hid (HZ1.out.below HB7.out HZ1.out.lt)
      clear hlt q7 HX
      have h0 : K = 0 := HKC.out
      have HST : Hid (stepS q ws = (numsS ws).bind (actS q)) := Lib.hid (by unfold stepS; rw [← HK.out, h0]; rfl)
      subst h0
      obtain ⟨d0, d1, d2, d3, d4, d5, d6, d7, d8, d9, d10, d11⟩ := cellsZ HN7.out
      have HZX := Lib.hid HZ7.out
      have HBX := Lib.hid HB7.out
      go_upto_region 31 with fail
      repeat (first | (refine wpList_storeG 42 (cs := zsA) (by kernel_rfl) rfl rfl rfl rfl (by simp [Value.oneCell', zsA]) HZX.out rfl ?_; intro wz hbez hotz hkz) | go_step)
      refine Mark.intro ?_
      have HBZ := Lib.hid (hbez w (by have := HG.out; omega) (HB1.out.trans (HBX.out.mono HB1.out.size)))
      have HKZ := Lib.hid hkz
      clear hbez hotz hkz
      go_wp2_with fail
      refine bodyPost_ret (ret_cell2 rfl rfl HKZ.out Try.underlying42 rfl (by kernel_rfl)) rfl ⟨HBZ.out, ?_⟩
      rw [HST.out.trans (show _ = none from by cases numsS ws with | none => rfl | some l => exact actS_no HT.out HF.out HC.out l)]
      exact ⟨zsA, rfl, rfl, by simp [Value.oneCell', zsA]⟩
end Go.Proofs.Ytfbedlhigggggaa.Sp
