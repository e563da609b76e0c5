/- The plain Step and Parse; Text. -/
import Derived.Test.YtfbedlhigggggaaSpZ0
import Derived.Test.YtfbedlhigggggaaSpZ1
import Derived.Test.YtfbedlhigggggaaSpZ2
import Derived.Test.YtfbedlhigggggaaSpZ3
import Derived.Test.YtfbedlhigggggaaSpZ4
import Derived.Test.YtfbedlhigggggaaSpV
import Derived.Test.YtfbedlhigggggaaHeldL
import Derived.Lib.ConvBytes
import Derived.Deep.RegionHeld3
import Derived.Test.YtfbedlhigggggaaWithin
namespace Go.Proofs.Ytfbedlhigggggaa.Sp
open Go Go.RowKit Go.Lib Go.Proofs.Ytfbedlhigggggaa Go.Proofs.Ytfbedlhigggggaa.Crw Go.Proofs.Ytfbedlhigggggaa.Vl Go.ChangeShapes Go.WideShapes Go.ChangeAt
set_option linter.unusedVariables false
set_option maxRecDepth 100000
set_option maxHeartbeats 400000 in
theorem lStep_other (q : ByteArray) (ws : List ByteArray) (Ad : Option Addr) (c : Nat) (w : World) (hT : ¬ q.data.toList = tickL) (hFu : ¬ q.data.toList = fuseL) (hCr : ¬ q.data.toList = crashL) (hnc : ws.length + 1 ≤ c) (hcm : c ≤ maxLen) (hL : ws.length ≤ 1001) (hqs : ∀ x ∈ ws, x.size ≤ 1000) (hs : Ws w Ad (q :: ws)) :
    Calls Try.prog 18 #[.slice Ad (ws.length + 1) c] w (StepPost w q ws) := by
  have h9 := kindS_le q
  rcases (by omega : kindS q = 0 ∨ kindS q = 1 ∨ kindS q = 5 ∨ (kindS q = 2 ∨ kindS q = 3 ∨ kindS q = 4 ∨ kindS q = 6) ∨ (kindS q = 7 ∨ kindS q = 8 ∨ kindS q = 9)) with h | h | h | h | h
  · exact lStep_k0 q ws Ad c w h hT hFu hCr hnc hcm hL hqs hs
  · exact lStep_k1 q ws Ad c w h hT hFu hCr hnc hcm hL hqs hs
  · exact lStep_k5 q ws Ad c w h hT hFu hCr hnc hcm hL hqs hs
  · exact lStep_ka q ws Ad c w h hT hFu hCr hnc hcm hL hqs hs
  · exact lStep_kb q ws Ad c w h hT hFu hCr hnc hcm hL hqs hs
end Go.Proofs.Ytfbedlhigggggaa.Sp
namespace Go.Proofs.Ytfbedlhigggggaa.Sp
open Go Go.RowKit Go.Lib Go.Proofs.Ytfbedlhigggggaa Go.Proofs.Ytfbedlhigggggaa.Crw Go.Proofs.Ytfbedlhigggggaa.Vl Go.ChangeShapes Go.WideShapes Go.ChangeAt
set_option linter.unusedVariables false
set_option maxRecDepth 100000
theorem ws_own {w : World} {B : Nat} {e : TypeId} {v : Value} {xs : List ByteArray} (h : w.ownsRow B e 1 v xs.length (xs.map Value.string)) : ∃ A c, v = .slice A xs.length c ∧ xs.length ≤ c ∧ c ≤ maxLen ∧ Ws w A xs := by
  obtain ⟨A, c, hv, h1, h2⟩ := own_slice h
  refine ⟨A, c, hv, h1, h2, fun hne => ?_⟩
  rcases h.2 with ⟨_, h0⟩ | ⟨g, cap, cur, rfl, h2, h3, h4, h5, h6, h7⟩
  · exact absurd (List.eq_nil_of_length_eq_zero h0) hne
  · have hb : Blk w g e cur := h3
    injection hv with hv _ _
    refine ⟨g, 0, hv.symm, hb.lt, fun k q hq => ?_⟩
    have hk : k < xs.length := (List.getElem?_eq_some_iff.1 hq).1
    rw [Nat.zero_add, hb.cell]
    have : (xs.map Value.string)[k]? = some (.string q) := by rw [List.getElem?_map, hq]; rfl
    rw [← h7, List.getElem?_take, if_pos (by omega)] at this
    simpa using this
theorem lStep_any (q : ByteArray) (ws : List ByteArray) (Ad : Option Addr) (n c : Nat) (w : World) (hn : n = ws.length + 1) (hnc : n ≤ c) (hcm : c ≤ maxLen) (hL : ws.length ≤ 1001) (hqs : ∀ x ∈ ws, x.size ≤ 1000) (hs : Ws w Ad (q :: ws)) :
    Calls Try.prog 18 #[.slice Ad n c] w (StepPost w q ws) := by
  subst hn
  by_cases ht : q.data.toList = tickL
  · obtain rfl := lit_of ht
    exact lStep_tick ws Ad c w hnc hL hqs hs
  by_cases hf : q.data.toList = fuseL
  · obtain rfl := lit_of hf
    exact lStep_fuse ws Ad c w hnc hL hqs hs
  by_cases hc : q.data.toList = crashL
  · obtain rfl := lit_of hc
    exact lStep_crash ws Ad c w hnc hL hqs hs
  exact lStep_other q ws Ad c w ht hf hc hnc hcm hL hqs hs
theorem lStep_u (q : ByteArray) (ws : List ByteArray) (Ad : Option Addr) (n c : Nat) (w : World) (hn : n = ws.length + 1) (hnc : n ≤ c) (hcm : c ≤ maxLen) (hL : ws.length ≤ 1001) (hqs : ∀ x ∈ ws, x.size ≤ 1000) (hs : Ws w Ad (q :: ws)) :
    Calls Try.prog 18 #[.slice Ad n c] w fun e w' => ∃ cs ok, e = .returned (.tuple #[.agg cs, .bool ok]) ∧ cs.size = 12 ∧ cs.all (·.oneCell') = true ∧ Below w.heap.size w w' ∧ match stepS q ws with
      | some x => ok = true ∧ ∃ v, cs = sc x v ∧ StpP w' x v ∧ (∀ b, v.ownBlock = some b → w.heap.size ≤ b)
      | none => ok = false := by
  refine (lStep_any q ws Ad n c w hn hnc hcm hL hqs hs).mono ?_
  rintro e w' ⟨h1, h2⟩
  cases hx : stepS q ws with
  | none =>
    rw [hx] at h2
    obtain ⟨cs, rfl, h3, h4⟩ := h2
    exact ⟨cs, false, rfl, h3, h4, h1, rfl⟩
  | some x =>
    rw [hx] at h2
    obtain ⟨v, rfl, h3, h4⟩ := h2
    exact ⟨_, true, rfl, rfl, sc_one h3.2.1, h1, rfl, v, rfl, h3, h4⟩
def LpPost (w : World) (l : List UInt8) (e : Ending) (w' : World) : Prop := Below w.heap.size w w' ∧ match prs l with
  | some L => ∃ g v xs, e = .returned (.tuple #[v, .bool true]) ∧ sts xs = L ∧ StsP pw w' g v xs ∧ xs.length ≤ 1000
  | none => e = .returned (.tuple #[.slice none 0 0, .bool false])
set_option maxHeartbeats 16000000 in
theorem lParse_any (s : ByteArray) (w : World) (hs : s.size ≤ 1000) : Calls Try.prog 6 #[.string s] w (LpPost w s.data.toList) := by
  have hLn := fun wa => lines_any s wa hs
  obtain ⟨P, hP⟩ : ∃ P, P = prs s.data.toList := ⟨_, rfl⟩
  rw [← hP] at hLn
  have HP := Lib.hid hP
  clear hP
  go_enter Try.func6, Try.ntmps6
  go_upto_block 0 with (go_at_call 16; refine (hLn _).mono ?_; rintro e w1 ⟨v1, ls, rfl, hb1, ho1, hq1, hl1, hp1⟩; obtain ⟨A1, c1, rfl, hlc1, hcm1, hws1⟩ := ws_own ho1; have HB1 := Lib.hid hb1; have HQ1 := Lib.hid hq1; have HL1 := Lib.hid hl1; have HP1 := Lib.hid hp1; have HWS1 := Lib.hid hws1; clear hb1 ho1 hq1 hl1 hp1 hws1)
  obtain ⟨n, hn⟩ : ∃ n, n = ls.length := ⟨_, rfl⟩
  rw [← hn] at hlc1 ⊢
  have HN := Lib.hid hn
  clear hn hLn
  obtain ⟨gB, hgB⟩ : ∃ g, g = w1.heap.size := ⟨_, rfl⟩
  have HGB := Lib.hid hgB
  clear hgB
  have hn1 : n ≤ 1000 := by rw [HN.out]; exact HL1.out
  go_wp2_with fail
  go_loopw [4, 13] (fun lv iv wr => Hid (∃ (k : Nat) (xs : List Sv), iv = .int .i64 k ∧ k ≤ n ∧ xs.length ≤ k ∧ StsP pw wr gB lv xs ∧ Below w1.heap.size w1 wr ∧ P = (prsL ((ls.drop k).map (·.data.toList))).map (sts xs ++ ·) ∧ ∃ w7, w7 = wr)) (fun _ iv _ => n - (intOf iv).toNat)
  case atStart => exact Lib.hid ⟨0, [], rfl, by omega, by simp, StsP.nil _ _ _, Below.refl _ _, by simp [sts, HP1.out], _, rfl⟩
  case round =>
    obtain ⟨k, xs, rfl, hk, hx, hst, hb, hsp, w7, hw7⟩ := hrel.out
    subst hw7
    clear hrel
    obtain ⟨A4, c4, rfl, -, -⟩ := own_slice hst.own
    have HST := Lib.hid hst
    have HB := Lib.hid hb
    have HSP := Lib.hid hsp
    have HX := Lib.hid hx
    have HBB := Lib.hid (HB1.out.trans (hb.mono HB1.out.size))
    clear hst hb hsp hx
    by_cases hlt : (k : Int) < (n : Int)
    · obtain ⟨line, hline⟩ : ∃ q, ls[k]? = some q := ⟨ls[k]'(by have := HN.out; omega), List.getElem?_eq_getElem _⟩
      obtain ⟨gL, oL, rfl, hgL, hcL⟩ := (HWS1.out.below HB.out) (by intro e; rw [e] at hline; simp at hline)
      have hc7 := hcL k line hline
      have hls := HQ1.out line (List.mem_of_getElem? hline)
      have hdr : (ls.drop k).map (·.data.toList) = line.data.toList :: (ls.drop (k + 1)).map (·.data.toList) := by
        obtain ⟨e1, e2⟩ := List.getElem?_eq_some_iff.1 hline
        rw [List.drop_eq_getElem_cons e1, e2]; rfl
      have hWd := fun wa => lWords_any line wa hls
      have hwl := wrd_len line.data.toList
      have HWLn := Lib.hid hwl
      have HLZ := Lib.hid (show line.data.toList.length = line.size by simp)
      have HLS := Lib.hid hls
      obtain ⟨L, hL⟩ : ∃ L, L = wrd line.data.toList := ⟨_, rfl⟩
      rw [← hL] at hWd HWLn
      have HPL := Lib.hid (show P = (match L with
        | [] => prsL ((ls.drop (k + 1)).map (fun b : ByteArray => b.data.toList))
        | q :: ws => (stepS q ws).bind fun x => (prsL ((ls.drop (k + 1)).map (fun b : ByteArray => b.data.toList))).map (x :: ·)).map (sts xs ++ ·) by rw [HSP.out, hdr, prsL_cons, ← hL]; cases L <;> rfl)
      clear hline hgL hcL hdr hwl hls hL
      rcases L with _ | ⟨q, ws⟩
      · go_wp2_with (go_at_call 17; refine (hWd _).mono ?_; rintro e w2 ⟨v2, rfl, hb2, ho2⟩; obtain ⟨Aw, cw, rfl, -, -, -⟩ := ws_own ho2; have HB2 := Lib.hid hb2; clear hb2 ho2 hWd)
        go_roundw
        case rel => exact Lib.hid ⟨k + 1, xs, by go_num, by omega, by have := HX.out; omega, HST.out.vol (Vol.of_below HB2.out), HB.out.trans (HB2.out.mono HB.out.size), HPL.out, _, rfl⟩
        case measure => simp [intOf]; omega
      · obtain ⟨m, hm⟩ : ∃ m, m = ws.length + 1 := ⟨_, rfl⟩
        rw [show (q :: ws).length = m by rw [hm]; simp] at hWd
        have HM := Lib.hid hm
        have h0m : ¬ (m : Int) = 0 := by omega
        have h0n : ¬ m = 0 := by omega
        have HW1 := Lib.hid (show ws.length ≤ 1001 by have h1 := HWLn.out.1; have h2 := HLZ.out; have h3 := HLS.out; rw [List.length_cons] at h1; omega)
        have HWQ := Lib.hid (show ∀ x ∈ ws, x.size ≤ 1000 from fun x hx => Nat.le_trans (HWLn.out.2 x (by simp [hx])) (by have := HLZ.out; have := HLS.out; omega))
        clear hm
        go_upto_region 7 with (go_at_call 17; refine (hWd _).mono ?_; rintro e w2 ⟨v2, rfl, hb2, ho2⟩; rw [HM.out, show ws.length + 1 = (q :: ws).length from rfl] at ho2; obtain ⟨Aw, cw, rfl, hlc2, hcm2, hws2⟩ := ws_own ho2; obtain ⟨gw, ow, rfl, hgw, -⟩ := hws2 (by simp); have HGW := Lib.hid (show w7.heap.size ≤ gw ∧ gw < w2.heap.size from ⟨(ho2.lt gw rfl).1, hgw⟩); have HB2 := Lib.hid hb2; have HW2 := Lib.hid hws2; have HC2 := Lib.hid hlc2; have HCM2 := Lib.hid hcm2; rw [show (q :: ws).length = m by rw [HM.out]; rfl]; clear hb2 ho2 hws2 hlc2 hcm2 hWd hgw)
        have hStp := fun wa (hba : Below w2.heap.size w2 wa) => lStep_any q ws (some ⟨gw, ow, none⟩) m cw wa HM.out (by rw [HM.out]; exact HC2.out) HCM2.out HW1.out HWQ.out (HW2.out.below hba)
        have HB27 := Lib.hid (HB.out.trans (HB2.out.mono HB.out.size))
        have HSTP := Lib.hid (hStp w2 (Below.refl _ _))
        clear hStp hc7
        cases hsq : stepS q ws with
        | none =>
          have HSQ := Lib.hid hsq
          clear hsq
          repeat (first | (go_at_call 18; refine HSTP.out.mono ?_; rintro e w5 ⟨hb5, hp5⟩; rw [HSQ.out] at hp5; obtain ⟨cs, rfl, hcs, hcs1⟩ := hp5; have HB5 := Lib.hid hb5; clear hb5; try dsimp only) | (refine wpList_storeG 42 (cs := cs) (by rw [hcs]; kernel_rfl) rfl rfl rfl rfl hcs1 (Blk.new w5 42 zsA) hcs.symm ?_; intro w6 hbe hot hzz) | go_step)
          refine Mark.intro ?_
          have HB6 := Lib.hid (hbe w5 (Nat.le_refl _) ((Below.refl _ _).alloc (Nat.le_refl _) _))
          clear hbe hot hzz hcs1
          go_wp2_with fail
          go_ret2
          refine ⟨HB1.out.trans ((HB27.out.trans ((HB5.out.trans (HB6.out.mono HB5.out.size)).mono HB27.out.size)).mono HB1.out.size), ?_⟩
          rw [← HP.out, HPL.out, HSQ.out]
          rfl
        | some x =>
          have HSQ := Lib.hid hsq
          clear hsq
          repeat (first | (go_at_call 18; refine HSTP.out.mono ?_; rintro e w5 ⟨hb5, hp5⟩; rw [HSQ.out] at hp5; obtain ⟨v, rfl, hp5, hp6⟩ := hp5; have HB5 := Lib.hid hb5; have HP5 := Lib.hid hp5; have HP6 := Lib.hid hp6; have hv1 := hp5.2.1; clear hb5 hp5 hp6; try dsimp only) | (refine wpList_storeG 42 (cs := sc x v) (by kernel_rfl) rfl rfl rfl rfl (sc_one hv1) (Blk.new w5 42 zsA) rfl ?_; intro w6 hbe hot hzz) | go_step)
          refine Mark.intro ?_
          obtain ⟨g8, hg8⟩ : ∃ g, g = w5.heap.size := ⟨_, rfl⟩
          rw [← hg8] at hzz ⊢
          have HB6 := Lib.hid (hbe w5 (Nat.le_refl _) ((Below.refl _ _).alloc (Nat.le_refl _) _))
          have HB26 := Lib.hid (HB5.out.trans (HB6.out.mono HB5.out.size))
          have HB76 := Lib.hid (HB2.out.trans (HB26.out.mono HB2.out.size))
          have HST6 := Lib.hid (HST.out.vol (Vol.of_below HB76.out))
          have hx6 : StpF pw w6 x v := (show StpF pw w5 x v from HP5.out).keepN HB6.out.size (fun hne b hb hlt => HB6.out.block b hlt)
          have HX6 := Lib.hid hx6
          have HXB := Lib.hid (show ∀ b, v.ownBlock = some b → gB < b ∧ (Value.slice A4 xs.length c4).ownBlock ≠ some b from fun b hb => by
            have h1 := HP6.out b hb
            have h2 := HGW.out
            have h3 := HB.out.size
            have h4 := HGB.out
            refine ⟨by omega, fun e => ?_⟩
            have := (HST.out.own.lt b e).2
            omega)
          have k0 : w6.cell? ⟨g8, 0, none⟩ = some (.int .i64 x.k) := hzz.cell 0
          have k1 : w6.cell? ⟨g8, 1, none⟩ = some (.int .i64 x.m.k) := hzz.cell 1
          have k2 : w6.cell? ⟨g8, 2, none⟩ = some (.string x.m.F) := hzz.cell 2
          have k3 : w6.cell? ⟨g8, 3, none⟩ = some (.string x.m.E) := hzz.cell 3
          have k4 : w6.cell? ⟨g8, 4, none⟩ = some (.string x.m.T) := hzz.cell 4
          have k5 : w6.cell? ⟨g8, 5, none⟩ = some (.int .i64 x.m.N) := hzz.cell 5
          have k6 : w6.cell? ⟨g8, 6, none⟩ = some (.int .i64 x.m.S) := hzz.cell 6
          have k7 : w6.cell? ⟨g8, 7, none⟩ = some (.int .i64 x.m.U) := hzz.cell 7
          have k8 : w6.cell? ⟨g8, 8, none⟩ = some (.int .i64 x.m.P) := hzz.cell 8
          have k9 : w6.cell? ⟨g8, 9, none⟩ = some (v) := hzz.cell 9
          have k10 : w6.cell? ⟨g8, 10, none⟩ = some (.int .i64 x.n) := hzz.cell 10
          have k11 : w6.cell? ⟨g8, 11, none⟩ = some (.int .i64 x.f) := hzz.cell 11
          have HZ8 := Lib.hid hzz.lt
          obtain ⟨ii, hii, hi0, hi1, hi2⟩ := info_parts step_infoP
          have hmx : 1001 ≤ maxLen := by decide
          clear hbe hot hzz hx6 hg8
          go_wp2_with (at_builtin; refine wpList_append_any _ rfl _ _ 24 rfl (gB + 1) 42 ii (.agg zsA) 12 136 Try.underlying24 hii hi0 hi1 hi2 rfl (by decide) _ _ _ rfl (HST6.out.own.alloc _) _ (some ⟨_, 0, none⟩) 1 1 (sc x v).toList rfl (reads_row _ (sc x v).toList _ (n := 1) (z := 12) rfl) (sc_oneL hv1) (by have := HX.out; simp only [maxLen]; omega) (by have := HX.out; omega) (by have := HGB.out; have := HB.out.size; have := HB76.out.size; simp; omega) ?_; intro v1 w9 hown1 hg1 hne1; have HPU := Lib.hid (HST6.out.push HX6.out HXB.out hown1 hg1 hne1); have HG1 := Lib.hid hg1; clear hown1 hg1 hne1)
          go_roundw
          case rel =>
            refine Lib.hid ⟨k + 1, xs ++ [(x, v)], by go_num, by omega, by have := HX.out; simp; omega, HPU.out, push_b ((HB.out.trans (HB76.out.mono HB.out.size)).alloc (by have := HB.out.size; have := HB76.out.size; omega) _) HG1.out (fun b hb => by have := (HST6.out.own.lt b hb).1; have := HGB.out; omega) (by have := HB.out.size; have := HB76.out.size; simp; omega), ?_, _, rfl⟩
            rw [HPL.out, HSQ.out, sts_snoc]
            simp [Option.map_map, Function.comp_def]
          case measure => simp [intOf]; omega
    · have e : k = n := by omega
      subst e
      have HE : Hid (P = some (sts xs)) := by
        show _ = _
        rw [HSP.out, show ls.drop k = [] from List.drop_of_length_le (by have := HN.out; omega)]
        simp [prsL]
      go_wp2_with fail
      go_ret2
      refine ⟨HBB.out, ?_⟩
      rw [← HP.out, HE.out]
      exact ⟨gB, _, xs, rfl, rfl, HST.out, by have := HX.out; omega⟩
end Go.Proofs.Ytfbedlhigggggaa.Sp
namespace Go.Proofs.Ytfbedlhigggggaa.Sp
open Go Go.RowKit Go.Lib Go.Proofs.Ytfbedlhigggggaa Go.Proofs.Ytfbedlhigggggaa.Crw Go.Proofs.Ytfbedlhigggggaa.Vl Go.ChangeShapes Go.WideShapes Go.ChangeAt
set_option linter.unusedVariables false
set_option maxRecDepth 100000
def pcL : List (List UInt8) := [[114, 117, 110, 32, 102, 32, 120, 32, 97, 32, 49, 32, 50, 10], [114, 117, 110, 32, 102, 32, 120, 32, 97, 32, 49, 32, 50, 32, 98, 32, 51, 32, 52, 10], [107, 105, 108, 108, 32, 102, 32, 97, 10], [115, 104, 117, 116, 32, 102, 10], [97, 99, 107, 32, 102, 32, 97, 32, 49, 32, 49, 10], [97, 115, 107, 32, 102, 10], [97, 115, 107, 32, 102, 32, 97, 32, 98, 10], [119, 101, 108, 99, 111, 109, 101, 10], [104, 101, 108, 108, 111, 32, 102, 32, 120, 32, 49, 10], [114, 101, 112, 111, 114, 116, 32, 102, 32, 120, 32, 49, 32, 97, 32, 51, 10], [103, 111, 110, 101, 32, 102, 32, 120, 32, 49, 10], [116, 105, 99, 107, 32, 48, 10], [102, 117, 115, 101, 32, 51, 10], [99, 114, 97, 115, 104, 32, 50, 10], [99, 114, 97, 115, 104, 32, 50, 32, 53, 10], [10], [32], [116, 105, 99, 107], [32, 55], [120], [48, 48], [114, 117, 110, 32, 102, 32, 120, 32, 97, 32, 48, 32, 48, 10], [114, 101, 112, 111, 114, 116, 32, 102, 32, 120, 32, 49, 32, 97, 32, 56, 10], [97, 115, 107, 32, 102, 32, 97, 32, 97, 10]]
def pcV : List Value := pcL.map fun l => .string ⟨l.toArray⟩
theorem pcV_at (j : Nat) (h : j < 24) : ∃ p : ByteArray, pcV[j]? = some (.string p) ∧ p.size ≤ 20 := by
  have hl : j < pcL.length := h
  refine ⟨⟨(pcL[j]).toArray⟩, by unfold pcV; rw [List.getElem?_map, List.getElem?_eq_getElem hl]; rfl, ?_⟩
  have h2 : ∀ l ∈ pcL, l.length ≤ 20 := by decide
  have := h2 _ (List.getElem_mem hl)
  show (pcL[j]).toArray.size ≤ 20
  simpa using this
set_option maxHeartbeats 8000000 in
theorem lText_any (s : ByteArray) (A : Option Addr) (n c : Nat) (xs : List Int) (raw : Bool) (w : World) (hs : s.size ≤ maxLen) (b : IntRow .i64 w A n c xs) :
    Calls Try.prog 4 #[.string s, .slice A n c, .bool raw] w fun e w' => ∃ t : ByteArray, e = .returned (.string t) ∧ t.size ≤ 1000 ∧ Below w.heap.size w w' := by
  obtain ⟨hn0, hc0, hx0, hr0, hw0⟩ := b
  have HR0 := Lib.hid hr0
  have HW0 := Lib.hid hw0
  clear hr0 hw0 hx0
  cases raw
  · go_enter Try.func4, Try.ntmps4
    go_upto_region 4 with fail
    obtain ⟨W, hW⟩ : ∃ W, W = w.alloc (.cells pcV.toArray 9) := ⟨_, rfl⟩
    obtain ⟨g, hg⟩ : ∃ g, g = w.heap.size := ⟨_, rfl⟩
    rw [show w.alloc (.cells #[.string ⟨#[114, 117, 110, 32, 102, 32, 120, 32, 97, 32, 49, 32, 50, 10]⟩, .string ⟨#[114, 117, 110, 32, 102, 32, 120, 32, 97, 32, 49, 32, 50, 32, 98, 32, 51, 32, 52, 10]⟩, .string ⟨#[107, 105, 108, 108, 32, 102, 32, 97, 10]⟩, .string ⟨#[115, 104, 117, 116, 32, 102, 10]⟩, .string ⟨#[97, 99, 107, 32, 102, 32, 97, 32, 49, 32, 49, 10]⟩, .string ⟨#[97, 115, 107, 32, 102, 10]⟩, .string ⟨#[97, 115, 107, 32, 102, 32, 97, 32, 98, 10]⟩, .string ⟨#[119, 101, 108, 99, 111, 109, 101, 10]⟩, .string ⟨#[104, 101, 108, 108, 111, 32, 102, 32, 120, 32, 49, 10]⟩, .string ⟨#[114, 101, 112, 111, 114, 116, 32, 102, 32, 120, 32, 49, 32, 97, 32, 51, 10]⟩, .string ⟨#[103, 111, 110, 101, 32, 102, 32, 120, 32, 49, 10]⟩, .string ⟨#[116, 105, 99, 107, 32, 48, 10]⟩, .string ⟨#[102, 117, 115, 101, 32, 51, 10]⟩, .string ⟨#[99, 114, 97, 115, 104, 32, 50, 10]⟩, .string ⟨#[99, 114, 97, 115, 104, 32, 50, 32, 53, 10]⟩, .string ⟨#[10]⟩, .string ⟨#[32]⟩, .string ⟨#[116, 105, 99, 107]⟩, .string ⟨#[32, 55]⟩, .string ⟨#[120]⟩, .string ⟨#[48, 48]⟩, .string ⟨#[114, 117, 110, 32, 102, 32, 120, 32, 97, 32, 48, 32, 48, 10]⟩, .string ⟨#[114, 101, 112, 111, 114, 116, 32, 102, 32, 120, 32, 49, 32, 97, 32, 56, 10]⟩, .string ⟨#[97, 115, 107, 32, 102, 32, 97, 32, 97, 10]⟩] 9) = W from hW.symm, ← hg]
    have hb : Below w.heap.size w W := by rw [hW]; exact (Below.refl _ _).alloc (Nat.le_refl _) _
    have HC : Hid (∀ j, j < 24 → ∃ p : ByteArray, W.cell? ⟨g, j, none⟩ = some (.string p) ∧ p.size ≤ 20) := Lib.hid (fun j hj => by
      obtain ⟨p, h1, h2⟩ := pcV_at j hj
      refine ⟨p, ?_, h2⟩
      rw [hW, hg, (Blk.new w 9 pcV.toArray).cell j, ← h1]
      simp)
    have HB := Lib.hid hb
    clear hW hg hb
    go_wp2_with fail
    go_loopw [8, 9] (fun tv iv wr => Hid (∃ (k : Nat) (t : ByteArray), iv = .int .i64 k ∧ k ≤ 14 ∧ tv = .string t ∧ t.size ≤ 20 * k ∧ wr = W)) (fun _ iv _ => 14 - (intOf iv).toNat)
    case atStart => exact Lib.hid ⟨0, ⟨#[]⟩, rfl, by omega, rfl, by decide, by first | rfl | trivial⟩
    case round =>
      obtain ⟨k, t, rfl, hk, rfl, ht, hwr⟩ := hrel.out
      subst hwr
      clear hrel
      have HT := Lib.hid ht
      clear ht
      by_cases h1 : (k : Int) < (n : Int)
      · by_cases h2 : (k : Int) < 14
        · obtain ⟨ad, u, rfl, -, hxu, hcu⟩ := (HR0.out.below HB.out).at_ (show k < n by omega)
          obtain ⟨z, hz, rfl⟩ : ∃ z, xs[k]? = some z ∧ u = .int .i64 z := by
            rw [List.getElem?_map] at hxu
            cases hq : xs[k]? with
            | none => rw [hq] at hxu; cases hxu
            | some z => rw [hq] at hxu; injection hxu with hxu; exact ⟨z, rfl, hxu.symm⟩
          have hzb := HW0.out z (List.mem_of_getElem? hz)
          obtain ⟨z1, z2⟩ := bounds_i64 hzb
          have hWi := fun wa => Within_any z 24 wa z1 z2 (by omega) (by omega)
          have hr1 := Int.emod_nonneg z (show (24 : Int) ≠ 0 by omega)
          have hr2 := Int.emod_lt_of_pos z (show (0 : Int) < 24 by omega)
          obtain ⟨r, hr⟩ := Int.eq_ofNat_of_zero_le hr1
          rw [hr] at hWi hr2
          have hr3 : r < 24 := by omega
          obtain ⟨p, hp, hps⟩ := HC.out r hr3
          have HPS := Lib.hid hps
          have h2n : k < n := by omega
          have hcat : ¬ 9223372036854775807 < t.size + p.size := by have := HT.out; omega
          clear hxu hz hzb z1 z2 hr1 hr hps
          go_wp2_with (go_at_call 12; refine (hWi _).mono ?_; rintro e w' ⟨rfl, rfl⟩)
          go_roundw
          case rel => exact Lib.hid ⟨k + 1, t ++ p, by go_num, by omega, rfl, by have := HT.out; have := HPS.out; rw [ByteArray.size_append]; omega, by first | rfl | trivial⟩
          case measure => simp [intOf]; omega
        · go_wp2_with fail
          go_ret
          exact ⟨t, rfl, by have := HT.out; omega, HB.out⟩
      · go_wp2_with fail
        go_ret
        exact ⟨t, rfl, by have := HT.out; omega, HB.out⟩
  · have hT := fun wa => Text_nat s 90 wa hs (by omega)
    go_enter Try.func4, Try.ntmps4
    go_wp2_with (go_at_call 8; refine (hT _).mono ?_; rintro e w2 ⟨rfl, rfl⟩)
    go_ret
    exact ⟨_, rfl, by rw [ByteArray.size_extract]; omega, Below.refl _ _⟩
end Go.Proofs.Ytfbedlhigggggaa.Sp
