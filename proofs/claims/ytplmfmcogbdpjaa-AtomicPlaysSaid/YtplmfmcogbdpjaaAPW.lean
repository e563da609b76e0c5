/- The walk of AtomicPlays: the Go text returns true, and writes nothing that was there. -/
import Derived.Test.YtplmfmcogbdpjaaGeN
import Derived.Test.YtplmfmcogbdpjaaActsB
namespace Go.Proofs.Ytplmfmcogbdpjaa.atomicPlays
open Go.ChangeShapes Go.WideShapes Go.ChangeAt Go.RowKit
set_option linter.unusedVariables false
open Go Go.RowKit Go.Proofs.Ytplmfmcogbdpjaa.Dk Go.Proofs.Ytplmfmcogbdpjaa.Crw Go.Proofs.Ytplmfmcogbdpjaa.Vl Go.Proofs.Ytplmfmcogbdpjaa
set_option maxRecDepth 100000
theorem wkk (w : World) : Calls Try.prog 44 #[] w fun e w' => e = .returned (.bool true) ∧ Below w.heap.size w w' := wakes_44.2.2.2 w
theorem len6 {a : Ab} {k : Nat} (hP : PN P6 a) (g : Dk.Good a k) : a.Y.length ≤ 6 := by
  have h1 := g.srt.nodup.length_le_of_subset (l₂ := (nm3 ++ nm3.map (· ++ tl)).map by_) fun x hx => by
    obtain ⟨y, hy, rfl⟩ := List.mem_map.1 hx
    rcases hP y hy with h | ⟨q, h, e⟩
    · exact List.mem_map.2 ⟨y.p, List.mem_append_left _ h, rfl⟩
    · exact List.mem_map.2 ⟨y.p, List.mem_append_right _ (List.mem_map.2 ⟨q, h, e.symm⟩), rfl⟩
  simpa [nm3] using h1
abbrev pbC : Array Value := #[.string ⟨#[97]⟩, .string ⟨#[98, 47, 99]⟩, .string ⟨#[101, 112, 111, 99, 104]⟩]
abbrev X0 (w : World) (pb b : Nat) : Prop := b < w.heap.size ∨ b = pb
/-- What stands at the head of a round. -/
def RpI (w wx : World) (pb d r k : Nat) : Prop := ∃ a, Ta wx w.heap.size (X0 w pb) d r k a ∧ PN P6 a ∧ Below w.heap.size w wx ∧ Blk wx pb 9 pbC
theorem RpI.below {w wx wy : World} {pb d r k : Nat} (h : RpI w wx pb d r k) (hb : Below wx.heap.size wx wy) : RpI w wy pb d r k := by
  obtain ⟨a, h1, h2, h3, h4⟩ := h
  exact ⟨a, h1.below hb, h2, h3.trans (hb.mono h3.size), h4.below hb h4.lt⟩
theorem RpI.mono {w wx : World} {pb d r k k' : Nat} (h : RpI w wx pb d r k) (hk : k ≤ k') : RpI w wx pb d r k' := by
  obtain ⟨a, h1, h2, h3, h4⟩ := h
  exact ⟨a, h1.mono hk (fun b hb => hb), h2, h3, h4⟩
/-- Behind acts that leave all blocks of X alone. -/
theorem RpI.next {w wx wy wz : World} {X : Nat → Prop} {pb d r k k' : Nat} {a : Ab} (h1 : Below w.heap.size w wx) (h2 : Blk wx pb 9 pbC) (hX : ∀ b, X0 w pb b → X b) (v1 : Vol (fun b => ¬ X b) wx wy) (v2 : Vol (fun b => ¬ X b) wy wz) (hT : Ta wz w.heap.size (fun b => X b ∧ b < wx.heap.size) d r k a) (hP : PN P6 a) (hk : k ≤ k') : RpI w wz pb d r k' := by
  have hv : Vol (fun b => ¬ X b) wx wz := v1.trans v2 fun b hb => .inl hb
  refine ⟨a, hT.mono hk fun b hb => ⟨hX b hb, ?_⟩, hP, ?_, blk_vol h2 hv fun e => e (hX pb (.inr rfl))⟩
  · rcases hb with hb | hb
    · exact Nat.lt_of_lt_of_le hb h1.size
    · rw [hb]; exact h2.lt
  · exact h1.trans ⟨hv.os, hv.tape, hv.output, hv.size, fun b hb => hv.block b (Nat.lt_of_lt_of_le hb h1.size) (fun e => e (hX b (.inl hb)))⟩
abbrev RaS (w wr : World) (ga pb d r k m : Nat) (x0 x1 x2 : Int) (A' : Option Addr) (n' c' : Nat) (nm : ByteArray) (a : Ab) (wa : World) : Prop :=
  wa.cell? ⟨ga, 1, none⟩ = some (.int .i64 x1) ∧ wa.cell? ⟨ga, 3, none⟩ = some (.slice A' n' c') ∧ wa.cell? ⟨pb, m, none⟩ = some (.string nm) ∧ (Ta wa w.heap.size (fun b => X0 w pb b ∨ wr.heap.size ≤ b) d r k a ∧ Below wr.heap.size wr wa ∧ Blk wa ga 75 #[.int .i64 x0, .int .i64 x1, .int .i64 x2, .slice A' n' c'])
set_option maxHeartbeats 32000000 in
theorem walk (a0 : Int) (v1 : Value) (w : World) (b0 : -9223372036854775808 ≤ a0 ∧ a0 ≤ 9223372036854775807) (b1 : ActsBArg 3 w v1) :
    Calls Try.prog 12 #[.int .i64 a0, v1] w fun e w' => e = .returned (.bool true) ∧ Below w.heap.size w w' := by
  obtain ⟨A, nn, cc, rfl, hnc, hcm, hA⟩ := b1
  have HA := Lib.hid hA
  have hnm : (nn : Int) ≤ 9223372036854775807 := by unfold maxLen at hcm; omega
  obtain ⟨q, hq, hq1⟩ : ∃ q : Nat, a0 % 80 = (q : Int) ∧ q < 80 := ⟨(a0 % 80).toNat, by omega, by omega⟩
  have hW80 := fun (wz : World) => Within_any a0 80 wz b0.1 b0.2 (by omega) (by omega)
  rw [hq] at hW80
  clear hA hcm hq b0
  go_enter Try.func12, Try.ntmps12
  go_wp2_with fail
  refine (hW80 _).mono ?_
  rintro e w1 ⟨rfl, rfl⟩
  clear hW80
  go_wp2_with fail
  refine (ta_new q q q (by omega) (by omega) _).mono ?_
  rintro e w1 ⟨d, rfl, hb1, hN⟩
  have HB1 := Lib.hid hb1
  clear hb1
  go_wp2_with fail
  refine hN.mono ?_
  rintro e w2 ⟨r, rfl, hb2, hT⟩
  have HT := Lib.hid (And.intro hT (HB1.out.trans hb2))
  clear hN hb2 hT HB1 hq1
  go_upto_block 0 with fail
  obtain ⟨w3, hw3⟩ : ∃ w3, w3 = w2.alloc (Obj.cells pbC 9) := ⟨_, rfl⟩
  obtain ⟨pb, hpb⟩ : ∃ pb, pb = w2.heap.size := ⟨_, rfl⟩
  have e3 := hw3.symm
  rw [e3, ← hpb]
  have I0 : Hid (RpI w w3 pb d r (8 * 0)) := Lib.hid ⟨ab0 q, by
    have hb : Below w2.heap.size w2 w3 := by rw [hw3]; exact (Below.refl _ _).alloc (Nat.le_refl _) _
    refine (HT.out.1.more.below hb).mono (Nat.le_refl _) fun b hb => ?_
    rcases hb with hb | hb
    · exact .inl hb
    · right; omega, fun y hy => by simp [ab0] at hy, by rw [hw3]; exact HT.out.2.alloc HT.out.2.size _, by rw [hw3, hpb]; exact Blk.new _ _ _⟩
  clear hw3 hpb e3 HT
  go_cut [8, 9, 10, 11, 12, 13, 14, 15] from 25 to 122 (fun v8 v9 v10 v11 v12 v13 v14 v15 wx => Hid (∃ i : Nat, i ≤ 24 ∧ RpI w wx pb d r (8 * i) ∧ ∃ w7, w7 = wx))
  case first =>
    go_wp2_with fail
    go_loopw [8] (fun vi wr => Hid (∃ i : Nat, vi = .int .i64 i ∧ i ≤ 24 ∧ RpI w wr pb d r (8 * i) ∧ ∃ w7, w7 = wr)) (fun vi _ => 24 - (intOf vi).toNat)
    case atStart => exact Lib.hid ⟨0, rfl, by omega, I0.out, _, rfl⟩
    case round =>
      obtain ⟨i, rfl, hi, hI, wr, hwr⟩ := hrel.out
      subst hwr
      have HI := Lib.hid hI
      clear hrel hI I0
      by_cases hall : (i : Int) < nn ∧ (i : Int) < 24
      · obtain ⟨h1, h2⟩ := hall
        obtain ⟨ab, off, xs, A', n', c', y, rfl, hblt, hxb, ⟨hn', hc', hl', hr', hwf⟩, hcell⟩ := HA.out i (by omega)
        obtain ⟨a, hTa, hPa, hBw, hPb⟩ := HI.out
        obtain ⟨hc, c3⟩ := hcell _ wr hBw (Nat.le_refl _)
        have c0 : wr.cell? ⟨ab, off + i * 4, none⟩ = some (.int .i64 (xs 0)) := hc 0 (by omega)
        have c1 : wr.cell? ⟨ab, off + i * 4 + 1, none⟩ = some (.int .i64 (xs 1)) := hc 1 (by omega)
        have c2 : wr.cell? ⟨ab, off + i * 4 + 2, none⟩ = some (.int .i64 (xs 2)) := hc 2 (by omega)
        have c3 : wr.cell? ⟨ab, off + i * 4 + 3, none⟩ = some (.slice A' n' c') := c3
        have b0 := hxb 0 (by omega)
        have b1 := hxb 1 (by omega)
        have b2 := hxb 2 (by omega)
        generalize xs 0 = x0 at *
        generalize xs 1 = x1 at *
        generalize xs 2 = x2 at *
        have hnm' : (n' : Int) ≤ 9223372036854775807 := by unfold maxLen at hc'; omega
        have HRow := Lib.hid (And.intro hn' (And.intro hc' (And.intro hl' (And.intro hr' hwf))))
        have HTP := Lib.hid (And.intro hTa (And.intro hPa (And.intro hBw hPb)))
        have hsw := hBw.size
        have hkk := hTa.good
        have hy6 := len6 hPa hkk
        clear hc hcell hxb hn' hc' hl' hr' hwf hTa hPa hBw hPb HI hkk
        go_upto_region 10 with fail
        obtain ⟨wa, hwa⟩ : ∃ wa, wa = (wr.alloc (Obj.cells #[Value.int IntKind.i64 x0, Value.int IntKind.i64 x1, Value.int IntKind.i64 x2, Value.slice A' n' c'] 75)) := ⟨_, rfl⟩
        rw [← hwa]
        obtain ⟨ga, hga⟩ : ∃ ga, ga = wr.heap.size := ⟨_, rfl⟩
        have HK : Hid (Blk wa ga 75 #[Value.int IntKind.i64 x0, Value.int IntKind.i64 x1, Value.int IntKind.i64 x2, Value.slice A' n' c']) := Lib.hid (by rw [hwa, hga]; exact Blk.new _ _ _)
        have hba : Below wr.heap.size wr wa := by rw [hwa]; exact (Below.refl _ _).alloc (Nat.le_refl _) _
        rw [← hga]
        have hgl : ga < wa.heap.size := HK.out.lt
        obtain ⟨m, hm, hm3⟩ : ∃ m : Nat, x1 % 3 = (m : Int) ∧ m < 3 := ⟨(x1 % 3).toNat, by omega, by omega⟩
        have hW3 := fun (wz : World) => Within_any x1 3 wz b1.1 b1.2 (by omega) (by omega)
        rw [hm] at hW3
        obtain ⟨nm, hnm1, hnm3⟩ : ∃ nm, pbC[m]? = some (.string nm) ∧ nm ∈ nm3 := by
          have : m = 0 ∨ m = 1 ∨ m = 2 := by omega
          rcases this with rfl | rfl | rfl
          · exact ⟨_, rfl, by simp [nm3]⟩
          · exact ⟨_, rfl, by simp [nm3]⟩
          · exact ⟨_, rfl, by simp [nm3]⟩
        have hsz := nm3_size hnm3
        obtain ⟨z, hz⟩ : ∃ z, z = y.take 24 := ⟨_, rfl⟩
        have hzl : z.length ≤ 24 := by rw [hz, List.length_take]; omega
        obtain ⟨u, hu⟩ : ∃ u, u = z.length := ⟨_, rfl⟩
        have hS0 : RaS w wr ga pb d r (8 * i) m x0 x1 x2 A' n' c' nm a wa := ⟨HK.out.cell 1, HK.out.cell 3, by rw [← hnm1]; exact (HTP.out.2.2.2.below hba HTP.out.2.2.2.lt).cell m, HTP.out.1.more.below hba, hba, HK.out⟩
        have hKe : ∀ {wb wc : World}, RaS w wr ga pb d r (8 * i) m x0 x1 x2 A' n' c' nm a wb → Below wb.heap.size wb wc → RaS w wr ga pb d r (8 * i) m x0 x1 x2 A' n' c' nm a wc := fun {wb wc} k hb => by
          obtain ⟨k1, k2, k3, k4, k5, k6⟩ := k
          have h6 := k6.below hb k6.lt
          have hbc := k5.trans (hb.mono k5.size)
          exact ⟨h6.cell 1, h6.cell 3, by rw [← hnm1]; exact (HTP.out.2.2.2.below hbc HTP.out.2.2.2.lt).cell m, k4.below hb, hbc, h6⟩
        have hKd : ∀ {wb : World}, RaS w wr ga pb d r (8 * i) m x0 x1 x2 A' n' c' nm a wb → RaS w wr ga pb d r (8 * i) m x0 x1 x2 A' n' c' nm a wb.drew := fun {wb} k => hKe k (Below.refl _ _).drew
        have hCut : ∀ {wb : World}, RaS w wr ga pb d r (8 * i) m x0 x1 x2 A' n' c' nm a wb → Calls Try.prog 24 #[.slice A' n' c', .int .i64 24] wb fun e w' => ∃ Bb cb, e = .returned (.slice Bb u cb) ∧ w'.ownsRow wr.heap.size 5 1 (.slice Bb u cb) u (bsV z) ∧ Below wb.heap.size wb w' := fun {wb} k => by
          have h0 : Below w.heap.size w wb := HTP.out.2.2.1.trans (k.2.2.2.2.1.mono hsw)
          refine (Cut_i 24 (by omega) A' n' c' _ y wb (reads_belR HRow.out.2.2.2.1 (Nat.le_refl _) h0) HRow.out.1 (by have := HRow.out.2.1; unfold maxLen at this; omega)).mono ?_
          rintro e wz ⟨vb, rfl, hob, hbz⟩
          rw [← hz] at hob
          rw [← hu] at hob
          obtain ⟨Bb, cb, rfl, -, -⟩ := own_slice hob
          exact ⟨Bb, cb, rfl, own_down hob k.2.2.2.2.1.size, hbz⟩
        have m0 : (0 : Int) ≤ (m : Int) := by omega
        have m3 : (m : Int) < 3 := by omega
        have HZ := Lib.hid (And.intro hz (And.intro hu hnm1))
        have HGA := Lib.hid hga
        clear hwa c0 c1 c2 c3 HK hz hu hnm1 hm hga
        go_region_held3 (fun wb => wb.cell? ⟨ga, 1, none⟩ = some (.int .i64 x1) ∧ wb.cell? ⟨ga, 3, none⟩ = some (.slice A' n' c') ∧ wb.cell? ⟨pb, m, none⟩ = some (.string nm) ∧ (Ta wb w.heap.size (fun b => X0 w pb b ∨ wr.heap.size ≤ b) d r (8 * i) a ∧ Below wr.heap.size wr wb ∧ Blk wb ga 75 #[.int .i64 x0, .int .i64 x1, .int .i64 x2, .slice A' n' c'])) (first | assumption | exact hKe (by assumption) (by assumption) | exact hKe (hKd (by assumption)) (by assumption) | exact hKd (by assumption)) (first | (go_at_call 13; refine (hW3 _).mono ?_; rintro e wz ⟨rfl, rfl⟩) | (go_at_call 24; refine (hCut (by first | assumption | exact hKd (by assumption))).mono ?_; rintro e wz ⟨Bb, cb, rfl, hob, hbz⟩))
        all_goals
          rename_i hHeld
          obtain ⟨-, -, -, hT4, hB4, hK4⟩ := hHeld
          have hbw4 : Below w.heap.size w wz := HTP.out.2.2.1.trans (hB4.mono hsw)
          have hP4 := HTP.out.2.2.2.below hB4 HTP.out.2.2.2.lt
          have H4 := Lib.hid (And.intro hT4 (And.intro hbw4 (And.intro hP4 (And.intro hK4 HTP.out.2.1))))
          have HOB := Lib.hid hob
          have hws : w.heap.size ≤ wz.heap.size := hbw4.size
          have hgw : wr.heap.size ≤ ga := by rw [HGA.out]; exact Nat.le_refl _
          have k0 : wz.cell? ⟨ga, 0, none⟩ = some (.int .i64 x0) := hK4.cell 0
          have k2 : wz.cell? ⟨ga, 2, none⟩ = some (.int .i64 x2) := hK4.cell 2
          have HFin := Lib.hid (show ∀ (wx wy : World) (a' : Dk.Ab) (k' : Nat), Vol (fun b => ¬ (X0 w pb b ∨ wr.heap.size ≤ b)) wz wx → Vol (fun b => ¬ (X0 w pb b ∨ wr.heap.size ≤ b)) wx wy → Ta wy w.heap.size (fun b => (X0 w pb b ∨ wr.heap.size ≤ b) ∧ b < wz.heap.size) d r k' a' → PN P6 a' → k' ≤ 8 * (i + 1) → RpI w wy pb d r (8 * (i + 1)) from fun wx wy a' k' v1 v2 hT hP hk => RpI.next H4.out.2.1 H4.out.2.2.1 (fun b hb => .inl hb) v1 v2 hT hP hk)
          obtain ⟨dd, hdd, hd1⟩ : ∃ dd : Nat, x0 % 10 = (dd : Int) ∧ dd < 10 := ⟨(x0 % 10).toNat, by omega, by omega⟩
          have hW10 := fun (wz : World) => Within_any x0 10 wz b0.1 b0.2 (by omega) (by omega)
          rw [hdd] at hW10
          clear hT4 hB4 hK4 hP4 hbw4 hob hbz hS0 hKe hKd hCut hW3 hdd HA HRow
          go_wp2_with fail
          refine (hW10 _).mono ?_
          rintro e w4 ⟨rfl, rfl⟩
          clear hW10 k0
          go_upto_block 2 with fail
          go_cut [12, 13, 14, 15] from 51 to 113 (fun v12 v13 v14 v15 wx => Hid (∃ t : Int, v12 = .int .i64 t ∧ v13 = .int .i64 t ∧ RpI w wx pb d r (8 * (i + 1)) ∧ ∃ w7, w7 = wx))
          case first =>
            have hcase : dd < 4 ∨ (dd = 4 ∨ dd = 5) ∨ (dd = 6 ∨ dd = 7) ∨ dd = 8 ∨ dd = 9 := by omega
            rcases hcase with hd | hd | hd | rfl | rfl
            · have hd4 : dd = 0 ∨ dd = 1 ∨ dd = 2 ∨ dd = 3 := by omega
              clear hd hd1
              have hRd := ta_read (p := nm ++ tl) H4.out.1 (by omega)
              rcases hd4 with rfl | rfl | rfl | rfl
              iterate 4
                · go_wp2_with fail
                  refine hRd.mono ?_
                  rintro e w5 ⟨vr, b, rfl, hb5⟩
                  have HB5 := Lib.hid hb5
                  clear hRd hb5
                  cases b with
                  | true =>
                    have I5 : Hid (RpI w w5 pb d r (8 * (i + 1))) := Lib.hid ((RpI.below ⟨a, H4.out.1.mono (Nat.le_refl _) (fun b hb => .inl hb), H4.out.2.2.2.2, H4.out.2.1, H4.out.2.2.1⟩ HB5.out).mono (by omega))
                    go_wp2_with fail
                    refine ⟨?_, by simp [intOf]; omega⟩
                    exact Lib.hid ⟨i + 1, by simp, by omega, I5.out, _, rfl⟩
                  | false =>
                    have hWr := ta_write (H4.out.1.below HB5.out) (Nat.le_trans hws HB5.out.size) (by omega) hnm3 (own_keep HOB.out HB5.out) (fun b hb => .inr hb)
                    go_wp2_with fail
                    refine hWr.mono ?_
                    rintro e w6 ⟨rfl, v6, hR⟩
                    have V6 := Lib.hid v6
                    clear hWr v6
                    go_wp2_with fail
                    refine hR.mono ?_
                    rintro e w7 ⟨rfl, v7, hT7⟩
                    have I7 := Lib.hid (HFin.out _ _ _ _ ((Vol.of_below HB5.out).trans V6.out fun b hb => .inl hb) v7 (hT7.mono (Nat.le_refl _) fun b hb => ⟨hb.1, Nat.lt_of_lt_of_le hb.2 HB5.out.size⟩) (PN.write H4.out.2.2.2.2 (.inr ⟨_, hnm3, rfl⟩) (.inl hnm3)) (by omega))
                    clear hR v7 hT7 V6 HFin
                    go_wp2_with fail
                    go_meet
                    exact Lib.hid ⟨_, rfl, rfl, I7.out, _, rfl⟩
            · have hCl := ta_clean H4.out.1 hws (by omega) H4.out.2.2.2.2
              clear hd1
              rcases hd with rfl | rfl
              iterate 2
                · go_wp2_with fail
                  refine hCl.mono ?_
                  rintro e w6 ⟨rfl, v6, hR⟩
                  have V6 := Lib.hid v6
                  clear hCl v6
                  go_wp2_with fail
                  refine hR.mono ?_
                  rintro e w7 ⟨rfl, v7, hT7⟩
                  have I7 := Lib.hid (HFin.out _ _ _ _ V6.out v7 hT7 (PN.clean H4.out.2.2.2.2) (by omega))
                  clear hR v7 hT7 V6 HFin
                  go_wp2_with fail
                  go_meet
                  exact Lib.hid ⟨_, rfl, rfl, I7.out, _, rfl⟩
            · obtain ⟨y4, hy4⟩ : ∃ y4, y4 = x2.tmod 5 := ⟨_, rfl⟩
              have hy5 : y4 < 5 := by rw [hy4]; exact Int.tmod_lt_of_pos _ (by omega)
              have hF := ta_fuse H4.out.1 y4 (max y4 0).toNat (by omega) (by omega)
              rw [hy4] at hF
              clear hy4 hy5 hd1
              rcases hd with rfl | rfl
              iterate 2
                · go_wp2_with fail
                  refine hF.mono ?_
                  rintro e w6 ⟨⟨u, rfl⟩, v6, hR⟩
                  have V6 := Lib.hid v6
                  have k2 : w6.cell? ⟨ga, 2, none⟩ = some (.int .i64 x2) := (blk_vol H4.out.2.2.2.1 v6 (fun e => e (.inr hgw))).cell 2
                  clear hF v6
                  go_wp2_with fail
                  refine hR.mono ?_
                  rintro e w7 ⟨⟨u, rfl⟩, v7, hT7⟩
                  have I7 := Lib.hid (HFin.out _ _ _ _ V6.out v7 hT7 (show PN P6 (abFuse _ a) from H4.out.2.2.2.2) (by omega))
                  clear hR v7 hT7 V6 HFin
                  go_wp2_with fail
                  go_meet
                  exact Lib.hid ⟨0, rfl, rfl, I7.out, _, rfl⟩
            · have hAp := ta_append (p := nm ++ tl) H4.out.1 hws (by omega) (by omega) HOB.out (fun b hb => .inr hb)
              clear hd1
              go_wp2_with fail
              refine hAp.mono ?_
              rintro e w6 ⟨rfl, v6, hR⟩
              have V6 := Lib.hid v6
              clear hAp v6
              go_wp2_with fail
              refine hR.mono ?_
              rintro e w7 ⟨rfl, v7, hT7⟩
              have I7 := Lib.hid (HFin.out _ _ _ _ V6.out v7 hT7 (PN.append H4.out.2.2.2.2 (.inr ⟨_, hnm3, rfl⟩)) (by omega))
              clear hR v7 hT7 V6 HFin
              go_wp2_with fail
              go_meet
              exact Lib.hid ⟨0, rfl, rfl, I7.out, _, rfl⟩
            · obtain ⟨y4, hy4⟩ : ∃ y4, y4 = x2.tmod 30 := ⟨_, rfl⟩
              have hy5 : y4 < 30 := by rw [hy4]; exact Int.tmod_lt_of_pos _ (by omega)
              have hF := ta_crash H4.out.1 hws (by omega) y4 (max y4 0).toNat (by omega) (by omega)
              rw [hy4] at hF
              clear hy4 hy5 hd1
              go_wp2_with fail
              refine hF.mono ?_
              rintro e w6 ⟨⟨u, rfl⟩, v6, hR⟩
              have V6 := Lib.hid v6
              have k2 : w6.cell? ⟨ga, 2, none⟩ = some (.int .i64 x2) := (blk_vol H4.out.2.2.2.1 v6 (fun e => e (.inr hgw))).cell 2
              clear hF v6
              go_wp2_with fail
              refine hR.mono ?_
              rintro e w7 ⟨⟨u, rfl⟩, v7, hT7⟩
              have I7 := Lib.hid (HFin.out _ _ _ _ V6.out v7 hT7 (H4.out.2.2.2.2.crash _) (by omega))
              clear hR v7 hT7 V6 HFin
              go_wp2_with fail
              go_meet
              exact Lib.hid ⟨0, rfl, rfl, I7.out, _, rfl⟩
          case rest =>
            obtain ⟨t, rfl, rfl, hI5, w5, hw5⟩ := hcut.out
            subst hw5
            have I5 := Lib.hid hI5
            have n1 : (t != t) = false := by simp
            clear hcut hI5
            obtain ⟨a5, hT5, hP5, hB5, hK5⟩ := I5.out
            have hSa := ta_same hT5 (by omega)
            clear hT5 hP5 hB5 hK5
            go_wp2_with fail
            refine hSa.mono ?_
            rintro e w6 ⟨rfl, hb6⟩
            have I6 := Lib.hid (I5.out.below hb6)
            clear hb6 I5 hSa
            go_wp2_with fail
            refine ⟨?_, by simp [intOf]; omega⟩
            exact Lib.hid ⟨i + 1, by simp, by omega, I6.out, _, rfl⟩
      · have hall2 : ¬ (i : Int) < nn ∨ ((i : Int) < nn ∧ ¬ (i : Int) < 24) := by omega
        clear hall
        rcases hall2 with h1 | ⟨h1, h2⟩
        all_goals
          go_wp2_with fail
          go_meet
          exact Lib.hid ⟨i, hi, HI.out, _, rfl⟩
  case rest =>
    obtain ⟨i, hi, hI, w3, hw3⟩ := hcut.out
    subst hw3
    have HI := Lib.hid hI
    clear hcut hI I0
    go_wp2_with fail
    refine (wkk _).mono ?_
    rintro e w14 ⟨rfl, hb14⟩
    go_wp2_with fail
    go_ret
    obtain ⟨a, h1, h2, h3, h4⟩ := HI.out
    exact ⟨rfl, h3.trans (hb14.mono h3.size)⟩

end Go.Proofs.Ytplmfmcogbdpjaa.atomicPlays
