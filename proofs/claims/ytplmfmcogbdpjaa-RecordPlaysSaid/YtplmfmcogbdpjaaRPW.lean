/- The walk of RecordPlays: the Go text returns true, and writes nothing that was there. -/
import Derived.Test.YtplmfmcogbdpjaaTwM
import Derived.Test.YtplmfmcogbdpjaaActsB
namespace Go.Proofs.Ytplmfmcogbdpjaa.recordPlays
open Go.ChangeShapes Go.WideShapes Go.ChangeAt Go.RowKit
set_option linter.unusedVariables false
open Go Go.RowKit Go.Proofs.Ytplmfmcogbdpjaa.Dk Go.Proofs.Ytplmfmcogbdpjaa.Crw Go.Proofs.Ytplmfmcogbdpjaa.Vl Go.Proofs.Ytplmfmcogbdpjaa
set_option maxRecDepth 100000
theorem wkk (w : World) : Calls Try.prog 34 #[] w fun e w' => e = .returned (.bool true) ∧ Below w.heap.size w w' := wakes_34.2.2.2 w
/-- What stands at the head of a round. -/
def RpI (w wx : World) (d r k : Nat) : Prop := Tw wx w.heap.size wx.heap.size d r k ∧ Below w.heap.size w wx
theorem RpI.below {w wx wy : World} {d r k : Nat} (h : RpI w wx d r k) (hb : Below wx.heap.size wx wy) : RpI w wy d r k := ⟨(h.1.below hb).mono (Nat.le_refl _) hb.size, h.2.trans (hb.mono h.2.size)⟩
theorem RpI.next {w wx wy wz : World} {d r k k' k2 : Nat} (h : RpI w wx d r k) (h1 : Below w.heap.size wx wy) (h2 : Below w.heap.size wy wz) (hT : Tw wz w.heap.size wz.heap.size d r k') (hk : k' ≤ k2) : RpI w wz d r k2 := ⟨hT.mono hk (Nat.le_refl _), (h.2.trans h1).trans h2⟩
set_option maxHeartbeats 32000000 in
theorem walk (a0 : Int) (v1 : Value) (w : World) (b0 : -9223372036854775808 ≤ a0 ∧ a0 ≤ 9223372036854775807) (b1 : ActsBArg 2 w v1) :
    Calls Try.prog 10 #[.int .i64 a0, v1] w fun e w' => e = .returned (.bool true) ∧ Below w.heap.size w w' := by
  obtain ⟨A, nn, cc, rfl, hnc, hcm, hA⟩ := b1
  have HA := Lib.hid hA
  have hnm : (nn : Int) ≤ 9223372036854775807 := by unfold maxLen at hcm; omega
  obtain ⟨q, hq, hq1⟩ : ∃ q : Nat, a0 % 120 = (q : Int) ∧ q < 120 := ⟨(a0 % 120).toNat, by omega, by omega⟩
  have hW120 := fun (wz : World) => Within_any a0 120 wz b0.1 b0.2 (by omega) (by omega)
  rw [hq] at hW120
  clear hA hcm hq b0
  go_enter Try.func10, Try.ntmps10
  go_wp2_with fail
  refine (hW120 _).mono ?_
  rintro e w1 ⟨rfl, rfl⟩
  clear hW120
  go_wp2_with fail
  refine (TwNew q (by omega) _).mono ?_
  rintro e w1 ⟨d, rfl, hb1, hN⟩
  have HB1 := Lib.hid hb1
  clear hb1
  go_wp2_with fail
  refine hN.mono ?_
  rintro e w2 ⟨r, rfl, hb2, hT⟩
  have I0 : Hid (RpI w w2 d r (2 * 0)) := Lib.hid ⟨hT, HB1.out.trans hb2⟩
  clear hN hb2 hT HB1 hq1
  go_upto_block 0 with fail
  go_cut [7, 8, 9, 10, 11, 12, 13] from 22 to 113 (fun v7 v8 v9 v10 v11 v12 v13 wx => Hid (∃ i : Nat, i ≤ 24 ∧ RpI w wx d r (2 * i) ∧ ∃ w7, w7 = wx))
  case first =>
    go_wp2_with fail
    go_loopw [7] (fun vi wr => Hid (∃ i : Nat, vi = .int .i64 i ∧ i ≤ 24 ∧ RpI w wr d r (2 * i) ∧ ∃ w7, w7 = wr)) (fun vi _ => 24 - (intOf vi).toNat)
    case atStart => exact Lib.hid ⟨0, rfl, by omega, I0.out, _, rfl⟩
    case round =>
      obtain ⟨i, rfl, hi, hI, wr, hwr⟩ := hrel.out
      subst hwr
      have HI := Lib.hid hI
      clear hrel hI I0
      by_cases hall : (i : Int) < nn ∧ (i : Int) < 24
      · obtain ⟨h1, h2⟩ := hall
        obtain ⟨ab, off, xs, A', n', c', y, rfl, hblt, hxb, ⟨hn', hc', hl', hr', hwf⟩, hcell⟩ := HA.out i (by omega)
        obtain ⟨hc, c2⟩ := hcell _ wr HI.out.2 (Nat.le_refl _)
        have c0 : wr.cell? ⟨ab, off + i * 3, none⟩ = some (.int .i64 (xs 0)) := hc 0 (by omega)
        have c1 : wr.cell? ⟨ab, off + i * 3 + 1, none⟩ = some (.int .i64 (xs 1)) := hc 1 (by omega)
        have c2 : wr.cell? ⟨ab, off + i * 3 + 2, none⟩ = some (.slice A' n' c') := c2
        have b0 := hxb 0 (by omega)
        have b1 := hxb 1 (by omega)
        generalize xs 0 = x0 at *
        generalize xs 1 = x1 at *
        have hnm' : (n' : Int) ≤ 9223372036854775807 := by unfold maxLen at hc'; omega
        have HRow := Lib.hid (And.intro hn' (And.intro hc' (And.intro hl' (And.intro hr' hwf))))
        clear hc hcell hxb hn' hc' hl' hr' hwf
        go_upto_region 9 with fail
        obtain ⟨wa, hwa⟩ : ∃ wa, wa = (wr.alloc (Obj.cells #[Value.int IntKind.i64 x0, Value.int IntKind.i64 x1, Value.slice A' n' c'] 63)) := ⟨_, rfl⟩
        rw [← hwa]
        obtain ⟨ga, hga⟩ : ∃ ga, ga = wr.heap.size := ⟨_, rfl⟩
        have HK : Hid (Blk wa ga 63 #[Value.int IntKind.i64 x0, Value.int IntKind.i64 x1, Value.slice A' n' c']) := Lib.hid (by rw [hwa, hga]; exact Blk.new _ _ _)
        have hba : Below wr.heap.size wr wa := by rw [hwa]; exact (Below.refl _ _).alloc (Nat.le_refl _) _
        rw [← hga]
        have hgw : w.heap.size ≤ ga := by rw [hga]; exact HI.out.2.size
        have hgl : ga < wa.heap.size := HK.out.lt
        have Ia := Lib.hid (HI.out.below hba)
        have HT := Lib.hid (show Tw wa w.heap.size ga d r (2 * i) by rw [hga]; exact HI.out.1.below hba)
        clear hwa hba hga c0 c1 c2 HI
        have k2 : wa.cell? ⟨ga, 2, none⟩ = some (.slice A' n' c') := HK.out.cell 2
        have hCut := Cut_i 24 (by omega) A' n' c' _ y wa (reads_belR HRow.out.2.2.2.1 (Nat.le_refl _) Ia.out.2) HRow.out.1 (by have := HRow.out.2.1; unfold maxLen at this; omega)
        obtain ⟨z, hz⟩ : ∃ z, z = y.take 24 := ⟨_, rfl⟩
        rw [← hz] at hCut
        have hzl : z.length ≤ 24 := by rw [hz, List.length_take]; omega
        have HZ := Lib.hid (show ∀ x ∈ z, 0 ≤ x ∧ x ≤ 255 from fun x hx => bounds_u8 (HRow.out.2.2.2.2 x (by rw [hz] at hx; exact List.mem_of_mem_take hx)))
        clear hz HRow
        go_wp2_with fail
        refine hCut.mono ?_
        rintro e w3 ⟨vb, rfl, hob, hb3⟩
        obtain ⟨Ab, cb, rfl, -, -⟩ := own_slice hob
        obtain ⟨m, hm⟩ : ∃ m, m = z.length := ⟨_, rfl⟩
        rw [← hm] at hob ⊢
        rw [← hm] at hzl
        have HOB := Lib.hid hob
        have HB3 := Lib.hid hb3
        have hbk := HK.out.below hb3 HK.out.lt
        have k0 : w3.cell? ⟨ga, 0, none⟩ = some (.int .i64 x0) := hbk.cell 0
        have k1 : w3.cell? ⟨ga, 1, none⟩ = some (.int .i64 x1) := hbk.cell 1
        have HK3 := Lib.hid hbk
        obtain ⟨dd, hdd, hd1⟩ : ∃ dd : Nat, x0 % 10 = (dd : Int) ∧ dd < 10 := ⟨(x0 % 10).toNat, by omega, by omega⟩
        have hW10 := fun (wz : World) => Within_any x0 10 wz b0.1 b0.2 (by omega) (by omega)
        rw [hdd] at hW10
        clear hCut hob hb3 hbk k2 HK hm hdd
        go_wp2_with fail
        refine (hW10 _).mono ?_
        rintro e w4 ⟨rfl, rfl⟩
        clear hW10 k0
        have H3 := Lib.hid (show Tw w3 w.heap.size ga d r (2 * i) ∧ Below w.heap.size w w3 from ⟨HT.out.below HB3.out, Ia.out.2.trans (HB3.out.mono Ia.out.2.size)⟩)
        have hws : w.heap.size ≤ w3.heap.size := H3.out.2.size
        go_upto_block 2 with fail
        go_cut [9, 10, 11, 12, 13] from 42 to 104 (fun v9 v10 v11 v12 v13 wx => Hid (∃ t : Int, v10 = .int .i64 t ∧ v11 = .int .i64 t ∧ RpI w wx d r (2 * (i + 1)) ∧ ∃ w7, w7 = wx))
        case first =>
          have HFin := Lib.hid (show ∀ (wy wz : World) (k' : Nat), Below w.heap.size w3 wy → Below w.heap.size wy wz → Tw wz w.heap.size wz.heap.size d r k' → k' ≤ 2 * (i + 1) → RpI w wz d r (2 * (i + 1)) from fun wy wz k' h1 h2 hT hk => ⟨hT.mono hk (Nat.le_refl _), (H3.out.2.trans h1).trans h2⟩)
          have hcase : dd < 4 ∨ (dd = 4 ∨ dd = 5) ∨ dd = 6 ∨ dd = 7 ∨ (dd = 8 ∨ dd = 9) := by omega
          rcases hcase with hd | hd | rfl | rfl | hd
          · have hk13 : (x1.tmod 13 == 12) = true ∨ (x1.tmod 13 == 12) = false := by cases (x1.tmod 13 == 12) <;> simp
            have hmk : ∀ W, (Instr.makeSlice 28 (.int .i64 201) (.int .i64 201)).run Try.prog W = .ok (.slice (some ⟨W.heap.size, 0, none⟩) 201 201) (W.alloc (.cells (madeCells #[.int .u8 0] 201) 5)) := mk_made 201 (by omega)
            have hd4 : dd = 0 ∨ dd = 1 ∨ dd = 2 ∨ dd = 3 := by omega
            clear hd hd1
            have hown := own_lo HOB.out (show ga ≤ wa.heap.size by omega)
            have HOw := Lib.hid hown
            clear hown HOB
            rcases hk13 with hk13 | hk13 <;> rcases hd4 with rfl | rfl | rfl | rfl
            iterate 4
              · go_wp2_with fail
                refine (Add_arg (n := 201) (by omega)).mono ?_
                rintro e w5 ⟨rfl, hb5⟩
                have HB5 := Lib.hid hb5
                clear hb5
                go_wp2_with fail
                refine (RAdd_arg (n := 201) (by omega)).mono ?_
                rintro e w6 ⟨rfl, hb6⟩
                have HB6 := Lib.hid hb6
                clear hb6
                have I6 : Hid (RpI w w6 d r (2 * (i + 1))) := Lib.hid (by
                  have hz := (Below.refl w3.heap.size w3).alloc (Nat.le_refl _) (.cells (madeCells #[.int .u8 0] 201) 5)
                  have h1 := (H3.out.1.below hz).below HB5.out
                  have h2 := h1.below HB6.out
                  have hs5 := HB5.out.size
                  have hs6 := HB6.out.size
                  have hs3 := hz.size
                  have hb36 : Below w3.heap.size w3 w6 := (hz.trans (HB5.out.mono hs3)).trans (HB6.out.mono (by omega))
                  exact ⟨h2.mono (by omega) (by have := HB3.out.size; omega), H3.out.2.trans (hb36.mono hws)⟩)
                clear HB5 HB6 HFin
                go_wp2_with fail
                go_meet
                exact Lib.hid ⟨1, rfl, rfl, I6.out, _, rfl⟩
            iterate 4
              · go_wp2_with fail
                refine (TwAdd H3.out.1 (by omega) HOw.out hws (by omega) HZ.out).mono ?_
                rintro e w5 ⟨t, rfl, hb5, hR⟩
                have HB5 := Lib.hid hb5
                clear hb5
                go_wp2_with fail
                refine hR.mono ?_
                rintro e w6 ⟨rfl, hb6, hT6⟩
                have I6 := Lib.hid (HFin.out _ _ _ HB5.out hb6 hT6 (by omega))
                clear hb6 hT6 HB5 hR HFin
                go_wp2_with fail
                go_meet
                exact Lib.hid ⟨t, rfl, rfl, I6.out, _, rfl⟩
          · clear hd1
            rcases hd with rfl | rfl
            iterate 2
              · go_wp2_with fail
                refine (TwLoad H3.out.1 (by omega) hws).mono ?_
                rintro e w5 ⟨va, t, X, rfl, hX1, hX2, hb5, hR⟩
                have HB5 := Lib.hid hb5
                clear hb5
                go_wp2_with fail
                refine hR.mono ?_
                rintro e w6 ⟨vc, rfl, hra, hrc, hb6, hT6⟩
                have I6 := Lib.hid (HFin.out _ _ _ HB5.out hb6 hT6 (by omega))
                have hSm := Same_rows2 hra hrc (Nat.le_refl _) (Nat.le_refl _) (by omega) hX2
                clear hb6 hT6 HB5 hR HFin hra hrc hX1 hX2
                go_wp2_with fail
                refine hSm.mono ?_
                rintro e w7 ⟨rfl, hb7⟩
                have I7 := Lib.hid (I6.out.below hb7)
                clear hSm hb7 I6
                go_wp2_with fail
                go_meet
                exact Lib.hid ⟨t, rfl, rfl, I7.out, _, rfl⟩
          · obtain ⟨y4, hy4⟩ : ∃ y4, y4 = x1.tmod 4 := ⟨_, rfl⟩
            have hy5 : y4 < 4 := by rw [hy4]; exact Int.tmod_lt_of_pos _ (by omega)
            have hF := TwFuse H3.out.1 hws y4 (max y4 0).toNat (by omega) (by omega)
            rw [hy4] at hF
            clear hy4 hy5 hd1
            go_wp2_with fail
            refine hF.mono ?_
            rintro e w5 ⟨⟨u, rfl⟩, hb5, hv5, hR⟩
            have HB5 := Lib.hid hb5
            have k1 : w5.cell? ⟨ga, 1, none⟩ = some (.int .i64 x1) := (blk_vol HK3.out hv5 (fun e => by have := e.2; omega)).cell 1
            clear hb5 hv5 hF
            go_wp2_with fail
            refine hR.mono ?_
            rintro e w6 ⟨⟨u, rfl⟩, hb6, hT6⟩
            have I6 := Lib.hid (HFin.out _ _ _ HB5.out hb6 hT6 (by omega))
            clear hb6 hT6 HB5 hR HFin
            go_wp2_with fail
            go_meet
            exact Lib.hid ⟨0, rfl, rfl, I6.out, _, rfl⟩
          · have hown := own_lo HOB.out (show ga ≤ wa.heap.size by omega)
            have HOw := Lib.hid hown
            clear hown HOB hd1
            go_wp2_with fail
            refine (TwApp H3.out.1 (by omega) HOw.out hws (by omega) HZ.out).mono ?_
            rintro e w5 ⟨⟨t, rfl⟩, hb5, hR⟩
            have HB5 := Lib.hid hb5
            clear hb5
            go_wp2_with fail
            refine hR.mono ?_
            rintro e w6 ⟨⟨t', rfl⟩, hb6, hT6⟩
            have I6 := Lib.hid (HFin.out _ _ _ HB5.out hb6 hT6 (by omega))
            clear hb6 hT6 HB5 hR HFin
            go_wp2_with fail
            go_meet
            exact Lib.hid ⟨0, rfl, rfl, I6.out, _, rfl⟩
          · obtain ⟨y4, hy4⟩ : ∃ y4, y4 = x1.tmod 20 := ⟨_, rfl⟩
            have hy5 : y4 < 20 := by rw [hy4]; exact Int.tmod_lt_of_pos _ (by omega)
            have hF := TwCrash H3.out.1 hws y4 (max y4 0).toNat (by omega) (by omega)
            rw [hy4] at hF
            clear hy4 hy5 hd1
            rcases hd with rfl | rfl
            iterate 2
              · go_wp2_with fail
                refine hF.mono ?_
                rintro e w5 ⟨⟨u, rfl⟩, hb5, hv5, hR⟩
                have HB5 := Lib.hid hb5
                have k1 : w5.cell? ⟨ga, 1, none⟩ = some (.int .i64 x1) := (blk_vol HK3.out hv5 (fun e => by have := e.2; omega)).cell 1
                clear hb5 hv5 hF
                go_wp2_with fail
                refine hR.mono ?_
                rintro e w6 ⟨⟨u, rfl⟩, hb6, hT6⟩
                have I6 := Lib.hid (HFin.out _ _ _ HB5.out hb6 hT6 (by omega))
                clear hb6 hT6 HB5 hR HFin
                go_wp2_with fail
                go_meet
                exact Lib.hid ⟨0, rfl, rfl, I6.out, _, rfl⟩
        case rest =>
          obtain ⟨t, rfl, rfl, hI5, w5, hw5⟩ := hcut.out
          subst hw5
          have I5 := Lib.hid hI5
          have n1 : (t != t) = false := by simp
          clear hcut hI5
          go_wp2_with fail
          refine (TwSame I5.out.1).mono ?_
          rintro e w6 ⟨rfl, hb6⟩
          have I6 := Lib.hid (I5.out.below hb6)
          clear hb6 I5
          go_wp2_with fail
          refine ⟨?_, by simp [intOf]; omega⟩
          exact Lib.hid ⟨i + 1, by simp, by omega, I6.out, _, rfl⟩
      · have hall2 : ¬ (i : Int) < nn ∨ ((i : Int) < nn ∧ ¬ (i : Int) < 24) := by omega
        clear hall
        rcases hall2 with h1 | ⟨h1, h2⟩
        all_goals
          go_wp2_with fail
          go_meet
          exact Lib.hid ⟨i, hi, HI.out, _, rfl⟩
  case rest =>
    obtain ⟨i, hi, hI, w3, hw3⟩ := hcut.out
    subst hw3
    have HI := Lib.hid hI
    clear hcut hI I0
    go_wp2_with fail
    refine (wkk _).mono ?_
    rintro e w14 ⟨rfl, hb14⟩
    go_wp2_with fail
    go_ret
    exact ⟨rfl, HI.out.2.trans (hb14.mono HI.out.2.size)⟩

end Go.Proofs.Ytplmfmcogbdpjaa.recordPlays
