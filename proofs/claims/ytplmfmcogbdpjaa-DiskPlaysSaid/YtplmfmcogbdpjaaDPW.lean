/- The walk of DiskPlays: the Go text returns true, and writes nothing that was there. -/
import Derived.Test.YtplmfmcogbdpjaaGeS
import Derived.Test.YtplmfmcogbdpjaaActsB
namespace Go.Proofs.Ytplmfmcogbdpjaa.diskPlays
open Go.ChangeShapes Go.WideShapes Go.ChangeAt Go.RowKit
set_option linter.unusedVariables false
open Go Go.RowKit Go.Proofs.Ytplmfmcogbdpjaa.Dk Go.Proofs.Ytplmfmcogbdpjaa.Crw Go.Proofs.Ytplmfmcogbdpjaa.Vl Go.Proofs.Ytplmfmcogbdpjaa
set_option maxRecDepth 100000
theorem wkk (w : World) : Calls Try.prog 23 #[] w fun e w' => e = .returned (.bool true) ∧ Below w.heap.size w w' := wakes_23.2.2.2 w
abbrev pbC : Array Value := #[.string ⟨#[97]⟩, .string ⟨#[97, 47, 98]⟩, .string ⟨#[97, 47, 98, 126]⟩, .string ⟨#[98]⟩, .string ⟨#[108, 111, 103, 47, 120]⟩, .string ⟨#[]⟩]
theorem pb_at {m : Nat} (h : m < 6) : ∃ nm : ByteArray, pbC[m]? = some (.string nm) ∧ nm.size ≤ 5 := by
  have : m = 0 ∨ m = 1 ∨ m = 2 ∨ m = 3 ∨ m = 4 ∨ m = 5 := by omega
  rcases this with rfl | rfl | rfl | rfl | rfl | rfl <;> exact ⟨_, rfl, by decide⟩
abbrev X0 (w : World) (pb b : Nat) : Prop := b < w.heap.size ∨ b = pb
/-- What stands at the head of a round. -/
def RpI (w wx : World) (pb d r k : Nat) : Prop := ∃ a, Ta wx w.heap.size (X0 w pb) d r k a ∧ Below w.heap.size w wx ∧ Blk wx pb 9 pbC
/-- Within a round: what was lent besides. -/
def MdI (w wx : World) (pb d r k gl : Nat) (Bb : Option Addr) (u : Nat) (z : List Int) : Prop := RpI w wx pb d r k ∧ Blk wx gl 5 (lentV (u8L z)) ∧ Reads wx wx.heap.size 1 Bb u (bsV z)
theorem RpI.below {w wx wy : World} {pb d r k : Nat} (h : RpI w wx pb d r k) (hb : Below wx.heap.size wx wy) : RpI w wy pb d r k := by
  obtain ⟨a, h1, h3, h4⟩ := h
  exact ⟨a, h1.below hb, h3.trans (hb.mono h3.size), h4.below hb h4.lt⟩
theorem RpI.mono {w wx : World} {pb d r k k' : Nat} (h : RpI w wx pb d r k) (hk : k ≤ k') : RpI w wx pb d r k' := by
  obtain ⟨a, h1, h3, h4⟩ := h
  exact ⟨a, h1.mono hk (fun b hb => hb), h3, h4⟩
theorem reads_up {w : World} {B z n : Nat} {A : Option Addr} {xs : List Value} (h : Reads w B z A n xs) (hB : B ≤ w.heap.size) : Reads w w.heap.size z A n xs := ⟨h.1, fun hp => by obtain ⟨ad, e, hb, hc⟩ := h.2 hp; exact ⟨ad, e, Nat.lt_of_lt_of_le hb hB, hc⟩⟩
theorem MdI.below {w wx wy : World} {pb d r k gl : Nat} {Bb : Option Addr} {u : Nat} {z : List Int} (h : MdI w wx pb d r k gl Bb u z) (hb : Below wx.heap.size wx wy) : MdI w wy pb d r k gl Bb u z :=
  ⟨h.1.below hb, h.2.1.below hb h.2.1.lt, reads_up (reads_belP h.2.2 (Nat.le_refl _) hb) hb.size⟩
/-- Behind acts that leave all blocks of X alone. -/
theorem MdI.next {w wx wy wz : World} {X : Nat → Prop} {pb d r k k' gl : Nat} {a : Dk.Ab} {Bb : Option Addr} {u : Nat} {z : List Int} (h1 : Below w.heap.size w wx) (h2 : Blk wx pb 9 pbC) (h3 : Blk wx gl 5 (lentV (u8L z))) (h4 : Reads wx wx.heap.size 1 Bb u (bsV z)) (h5 : X gl) (h6 : ∀ ad, Bb = some ad → X ad.block) (hX : ∀ b, X0 w pb b → X b) (v1 : Vol (fun b => ¬ X b) wx wy) (v2 : Vol (fun b => ¬ X b) wy wz) (hT : Ta wz w.heap.size (fun b => X b ∧ b < wx.heap.size) d r k a) (hk : k ≤ k') : MdI w wz pb d r k' gl Bb u z := by
  have hv : Vol (fun b => ¬ X b) wx wz := v1.trans v2 fun b hb => .inl hb
  refine ⟨⟨a, hT.mono hk fun b hb => ⟨hX b hb, ?_⟩, ?_, blk_vol h2 hv fun e => e (hX pb (.inr rfl))⟩, blk_vol h3 hv fun e => e h5, reads_up (reads_vol h4 (Nat.le_refl _) hv fun ad e hn => hn (h6 ad e)) hv.size⟩
  · rcases hb with hb | hb
    · exact Nat.lt_of_lt_of_le hb h1.size
    · rw [hb]; exact h2.lt
  · exact h1.trans ⟨hv.os, hv.tape, hv.output, hv.size, fun b hb => hv.block b (Nat.lt_of_lt_of_le hb h1.size) (fun e => e (hX b (.inl hb)))⟩
abbrev RaS (w wr : World) (ga pb d r k m m2 : Nat) (x0 x1 x2 x3 : Int) (A' : Option Addr) (n' c' : Nat) (nm nm2 : ByteArray) (a : Dk.Ab) (wa : World) : Prop :=
  wa.cell? ⟨ga, 1, none⟩ = some (.int .i64 x1) ∧ wa.cell? ⟨ga, 2, none⟩ = some (.int .i64 x2) ∧ wa.cell? ⟨pb, m, none⟩ = some (.string nm) ∧ wa.cell? ⟨pb, m2, none⟩ = some (.string nm2) ∧ (Ta wa w.heap.size (fun b => X0 w pb b ∨ wr.heap.size ≤ b) d r k a ∧ Below wr.heap.size wr wa ∧ Blk wa ga 70 #[.int .i64 x0, .int .i64 x1, .int .i64 x2, .int .i64 x3, .slice A' n' c'])
set_option maxHeartbeats 64000000 in
theorem walk (a0 : Int) (v1 : Value) (w : World) (b0 : -9223372036854775808 ≤ a0 ∧ a0 ≤ 9223372036854775807) (b1 : ActsBArg 4 w v1) :
    Calls Try.prog 11 #[.int .i64 a0, v1] w fun e w' => e = .returned (.bool true) ∧ Below w.heap.size w w' := by
  obtain ⟨A, nn, cc, rfl, hnc, hcm, hA⟩ := b1
  have HA := Lib.hid hA
  have hnm : (nn : Int) ≤ 9223372036854775807 := by unfold maxLen at hcm; omega
  have hW60 := fun (wz : World) => Within_any a0 60 wz b0.1 b0.2 (by omega) (by omega)
  have hNew : ∀ (x : Int) (wz : World), Calls Try.prog 14 #[.int .i64 x] wz fun e w1 => ∃ d, e = .returned (.pointer (some ⟨d, 0, none⟩)) ∧ Below wz.heap.size wz w1 ∧
      Calls Try.prog 45 #[.int .i64 x] w1 fun e w2 => ∃ r, e = .returned (.pointer (some ⟨r, 0, none⟩)) ∧ Below wz.heap.size w1 w2 ∧ Ta w2 wz.heap.size (fun b => b < wz.heap.size) d r 0 (ab0 (min (max x 0) 65536)) := fun x wz => ta_new x _ _ rfl rfl wz
  clear hA hcm b0
  go_enter Try.func11, Try.ntmps11
  go_upto_if 20 with fail
  go_cut [0] from 20 to 22 (fun v0 wx => Hid (∃ x : Int, v0 = .int .i64 x ∧ wx = w))
  case first =>
    by_cases h6 : a0.tmod 7 = 6
    · have h6b : (a0.tmod 7 != 6) = false := by simp [h6]
      clear h6
      go_wp2_with fail
      go_meet
      exact Lib.hid ⟨_, rfl, rfl⟩
    · have h6b : (a0.tmod 7 != 6) = true := by simp [h6]
      clear h6
      go_wp2_with fail
      refine (hW60 _).mono ?_
      rintro e w1 ⟨rfl, hw1⟩
      go_wp2_with fail
      go_meet
      exact Lib.hid ⟨_, rfl, hw1.symm⟩
  case rest =>
    obtain ⟨x0, rfl, rfl⟩ := hcut.out
    clear hcut hW60
    go_wp2_with fail
    refine (hNew x0 _).mono ?_
    rintro e w1 ⟨d, rfl, hb1, hN⟩
    have HB1 := Lib.hid hb1
    clear hb1 hNew
    go_wp2_with fail
    refine hN.mono ?_
    rintro e w2 ⟨r, rfl, hb2, hT⟩
    have HT := Lib.hid (And.intro hT (HB1.out.trans hb2))
    clear hN hb2 hT HB1
    go_upto_block 0 with fail
    obtain ⟨w3, hw3⟩ : ∃ w3, w3 = w2.alloc (Obj.cells pbC 9) := ⟨_, rfl⟩
    obtain ⟨pb, hpb⟩ : ∃ pb, pb = w2.heap.size := ⟨_, rfl⟩
    have e3 := hw3.symm
    rw [e3, ← hpb]
    have I0 : Hid (RpI wc w3 pb d r 0) := Lib.hid ⟨_, by
      have hb : Below w2.heap.size w2 w3 := by rw [hw3]; exact (Below.refl _ _).alloc (Nat.le_refl _) _
      refine (HT.out.1.more.below hb).mono (Nat.le_refl _) fun b hb => ?_
      rcases hb with hb | hb
      · exact .inl hb
      · right; omega, by rw [hw3]; exact HT.out.2.alloc HT.out.2.size _, by rw [hw3, hpb]; exact Blk.new _ _ _⟩
    clear hw3 hpb e3 HT
    go_cut [8, 9, 10, 11, 12, 13, 14, 15, 16, 17] from 30 to 187 (fun v8 v9 v10 v11 v12 v13 v14 v15 v16 v17 wx => Hid (∃ i : Nat, i ≤ 30 ∧ RpI wc wx pb d r i ∧ ∃ w7, w7 = wx))
    case first =>
      go_wp2_with fail
      go_loopw [8] (fun vi wr => Hid (∃ i : Nat, vi = .int .i64 i ∧ i ≤ 30 ∧ RpI wc wr pb d r i ∧ ∃ w7, w7 = wr)) (fun vi _ => 30 - (intOf vi).toNat)
      case atStart => exact Lib.hid ⟨0, rfl, by omega, I0.out, _, rfl⟩
      case round =>
        obtain ⟨i, rfl, hi, hI, wr, hwr⟩ := hrel.out
        subst hwr
        have HI := Lib.hid hI
        clear hrel hI I0
        by_cases hall : (i : Int) < nn ∧ (i : Int) < 30
        · obtain ⟨h1, h2⟩ := hall
          obtain ⟨ab, off, xs, A', n', c', y, rfl, hblt, hxb, ⟨hn', hc', hl', hr', hwf⟩, hcell⟩ := HA.out i (by omega)
          obtain ⟨a, hTa, hBw, hPb⟩ := HI.out
          obtain ⟨hc, c4⟩ := hcell _ wr hBw (Nat.le_refl _)
          have c0 : wr.cell? ⟨ab, off + i * 5, none⟩ = some (.int .i64 (xs 0)) := hc 0 (by omega)
          have c1 : wr.cell? ⟨ab, off + i * 5 + 1, none⟩ = some (.int .i64 (xs 1)) := hc 1 (by omega)
          have c2 : wr.cell? ⟨ab, off + i * 5 + 2, none⟩ = some (.int .i64 (xs 2)) := hc 2 (by omega)
          have c3 : wr.cell? ⟨ab, off + i * 5 + 3, none⟩ = some (.int .i64 (xs 3)) := hc 3 (by omega)
          have c4 : wr.cell? ⟨ab, off + i * 5 + 4, none⟩ = some (.slice A' n' c') := c4
          have b0 := hxb 0 (by omega)
          have b1 := hxb 1 (by omega)
          have b2 := hxb 2 (by omega)
          have b3 := hxb 3 (by omega)
          generalize xs 0 = x0 at *
          generalize xs 1 = x1 at *
          generalize xs 2 = x2 at *
          generalize xs 3 = x3 at *
          have hnm' : (n' : Int) ≤ 9223372036854775807 := by unfold maxLen at hc'; omega
          have HRow := Lib.hid (And.intro hn' (And.intro hc' (And.intro hl' (And.intro hr' hwf))))
          have HTP := Lib.hid (And.intro hTa (And.intro hBw hPb))
          have hsw := hBw.size
          clear hc hcell hxb hn' hc' hl' hr' hwf hTa hBw hPb HI
          go_upto_region 11 with fail
          obtain ⟨wa, hwa⟩ : ∃ wa, wa = (wr.alloc (Obj.cells #[Value.int IntKind.i64 x0, Value.int IntKind.i64 x1, Value.int IntKind.i64 x2, Value.int IntKind.i64 x3, Value.slice A' n' c'] 70)) := ⟨_, rfl⟩
          rw [← hwa]
          obtain ⟨ga, hga⟩ : ∃ ga, ga = wr.heap.size := ⟨_, rfl⟩
          have HK : Hid (Blk wa ga 70 #[Value.int IntKind.i64 x0, Value.int IntKind.i64 x1, Value.int IntKind.i64 x2, Value.int IntKind.i64 x3, Value.slice A' n' c']) := Lib.hid (by rw [hwa, hga]; exact Blk.new _ _ _)
          have hba : Below wr.heap.size wr wa := by rw [hwa]; exact (Below.refl _ _).alloc (Nat.le_refl _) _
          rw [← hga]
          have hgl : ga < wa.heap.size := HK.out.lt
          obtain ⟨n1, hn1, hn1b⟩ : ∃ m : Nat, x1 % 23 = (m : Int) ∧ m < 23 := ⟨(x1 % 23).toNat, by omega, by omega⟩
          obtain ⟨n2, hn2, hn2b⟩ : ∃ m : Nat, x2 % 23 = (m : Int) ∧ m < 23 := ⟨(x2 % 23).toNat, by omega, by omega⟩
          have hW23 := fun (x : Int) (hx : -9223372036854775808 ≤ x ∧ x ≤ 9223372036854775807) (wz : World) => Within_any x 23 wz hx.1 hx.2 (by omega) (by omega)
          obtain ⟨m, hm, hm6⟩ : ∃ m : Nat, (x1 % 23).tmod 6 = (m : Int) ∧ m < 6 := ⟨n1 % 6, by rw [hn1, Int.tmod_eq_emod_of_nonneg (by omega)]; omega, by omega⟩
          obtain ⟨m2, hm2, hm26⟩ : ∃ m : Nat, (x2 % 23).tmod 6 = (m : Int) ∧ m < 6 := ⟨n2 % 6, by rw [hn2, Int.tmod_eq_emod_of_nonneg (by omega)]; omega, by omega⟩
          obtain ⟨nm, hnmA, hnmS⟩ := pb_at hm6
          obtain ⟨nm2, hnmA2, hnmS2⟩ := pb_at hm26
          have hS0 : RaS wc wr ga pb d r i m m2 x0 x1 x2 x3 A' n' c' nm nm2 a wa := ⟨HK.out.cell 1, HK.out.cell 2, by rw [← hnmA]; exact (HTP.out.2.2.below hba HTP.out.2.2.lt).cell m, by rw [← hnmA2]; exact (HTP.out.2.2.below hba HTP.out.2.2.lt).cell m2, HTP.out.1.more.below hba, hba, HK.out⟩
          have hKe : ∀ {wb wd : World}, RaS wc wr ga pb d r i m m2 x0 x1 x2 x3 A' n' c' nm nm2 a wb → Below wb.heap.size wb wd → RaS wc wr ga pb d r i m m2 x0 x1 x2 x3 A' n' c' nm nm2 a wd := fun {wb wd} k hb => by
            obtain ⟨k1, k2, k3, k3b, k4, k5, k6⟩ := k
            have h6 := k6.below hb k6.lt
            have hbc := k5.trans (hb.mono k5.size)
            exact ⟨h6.cell 1, h6.cell 2, by rw [← hnmA]; exact (HTP.out.2.2.below hbc HTP.out.2.2.lt).cell m, by rw [← hnmA2]; exact (HTP.out.2.2.below hbc HTP.out.2.2.lt).cell m2, k4.below hb, hbc, h6⟩
          have hKd : ∀ {wb : World}, RaS wc wr ga pb d r i m m2 x0 x1 x2 x3 A' n' c' nm nm2 a wb → RaS wc wr ga pb d r i m m2 x0 x1 x2 x3 A' n' c' nm nm2 a wb.drew := fun {wb} k => hKe k (Below.refl _ _).drew
          have m0 : (0 : Int) ≤ (m : Int) := by omega
          have m6 : (m : Int) < 6 := by omega
          have m20 : (0 : Int) ≤ (m2 : Int) := by omega
          have m26 : (m2 : Int) < 6 := by omega
          have HGA := Lib.hid hga
          clear hwa c0 c1 c2 c3 c4 HK hga hn1 hn2
          go_region_held3 (fun wb => wb.cell? ⟨ga, 1, none⟩ = some (.int .i64 x1) ∧ wb.cell? ⟨ga, 2, none⟩ = some (.int .i64 x2) ∧ wb.cell? ⟨pb, m, none⟩ = some (.string nm) ∧ wb.cell? ⟨pb, m2, none⟩ = some (.string nm2) ∧ (Ta wb wc.heap.size (fun b => X0 wc pb b ∨ wr.heap.size ≤ b) d r i a ∧ Below wr.heap.size wr wb ∧ Blk wb ga 70 #[.int .i64 x0, .int .i64 x1, .int .i64 x2, .int .i64 x3, .slice A' n' c'])) (first | assumption | exact hKe (by assumption) (by assumption) | exact hKe (hKd (by assumption)) (by assumption) | exact hKd (by assumption)) (first | (go_at_call 13; refine (hW23 _ (by assumption) _).mono ?_; rintro e wz ⟨rfl, rfl⟩))
          rename_i hHeld
          generalize wa.drew = wz at *
          obtain ⟨-, -, -, -, hT4, hB4, hK4⟩ := hHeld
          have hbw4 : Below wc.heap.size wc wz := HTP.out.2.1.trans (hB4.mono hsw)
          have k4 : wz.cell? ⟨ga, 4, none⟩ = some (.slice A' n' c') := hK4.cell 4
          have hCut := Cut_i 20 (by omega) A' n' c' _ y wz (reads_belR HRow.out.2.2.2.1 (Nat.le_refl _) hbw4) HRow.out.1 (by have := HRow.out.2.1; unfold maxLen at this; omega)
          obtain ⟨z, hz⟩ : ∃ z, z = y.take 20 := ⟨_, rfl⟩
          rw [← hz] at hCut
          have hzl : z.length ≤ 20 := by rw [hz, List.length_take]; omega
          have HZ := Lib.hid (show ∀ x ∈ z, 0 ≤ x ∧ x ≤ 255 from fun x hx => bounds_u8 (HRow.out.2.2.2.2 x (by rw [hz] at hx; exact List.mem_of_mem_take hx)))
          have H4 := Lib.hid (And.intro hT4 (And.intro hbw4 (And.intro hB4 hK4)))
          clear hT4 hbw4 hB4 hK4 hS0 hKe hKd hz hW23 hm hm2
          go_wp2_with fail
          refine hCut.mono ?_
          rintro e w5 ⟨vb, rfl, hob, hb5⟩
          obtain ⟨Bb, cb, rfl, -, -⟩ := own_slice hob
          obtain ⟨u, hu⟩ : ∃ u, u = z.length := ⟨_, rfl⟩
          rw [← hu] at hob hzl ⊢
          have hL := Lend_any Bb u cb w5.heap.size (u8L z) w5 (by rw [u8L_bytes HZ.out]; exact reads_up (own_reads hob) (Nat.le_refl _)) (Nat.le_refl _) (by omega)
          have H5 := Lib.hid (And.intro hob hb5)
          have HU := Lib.hid hu
          clear hCut hob hb5 k4 hu
          go_wp2_with fail
          refine hL.mono ?_
          rintro e w6 ⟨gl, rfl, hgl6, hk6, hb6⟩
          have hs5 := H5.out.2.size
          have hs6 := hb6.size
          have hswz := H4.out.2.2.1.size
          have hb46 : Below wz.heap.size wz w6 := H5.out.2.trans (hb6.mono hs5)
          have hK6 := H4.out.2.2.2.below hb46 H4.out.2.2.2.lt
          have hP6 := HTP.out.2.2.below (H4.out.2.2.1.trans (hb46.mono hswz)) HTP.out.2.2.lt
          have hR6 : Reads w6 w6.heap.size 1 Bb u (bsV z) := own_reads (own_keep H5.out.1 hb6)
          have hA6 : ∀ ad, Bb = some ad → X0 wc pb ad.block ∨ wr.heap.size ≤ ad.block := fun ad e => by subst e; have := (H5.out.1.lt ad.block rfl).1; right; omega
          have hL6 : Reads w6 w6.heap.size 1 (some ⟨gl, 0, none⟩) u (bsV z) := by
            have h := lent_reads hk6 (n := u) (by unfold u8L; rw [List.length_map]; exact HU.out.symm)
            rw [u8L_bytes HZ.out] at h
            exact h
          have hG6 : wr.heap.size ≤ gl := by omega
          have hgw : wr.heap.size ≤ ga := by rw [HGA.out]; exact Nat.le_refl _
          have H6 := Lib.hid (And.intro (H4.out.1.below hb46) (And.intro (H4.out.2.1.trans (hb46.mono H4.out.2.1.size)) (And.intro hP6 (And.intro hK6 (And.intro hk6 (And.intro hR6 (And.intro hA6 hL6)))))))
          have hws : wc.heap.size ≤ w6.heap.size := H6.out.2.1.size
          have k0 : w6.cell? ⟨ga, 0, none⟩ = some (.int .i64 x0) := hK6.cell 0
          have k3 : w6.cell? ⟨ga, 3, none⟩ = some (.int .i64 x3) := hK6.cell 3
          have HFin := Lib.hid (show ∀ (wx wy : World) (a' : Dk.Ab) (k' : Nat), Vol (fun b => ¬ (X0 wc pb b ∨ wr.heap.size ≤ b)) w6 wx → Vol (fun b => ¬ (X0 wc pb b ∨ wr.heap.size ≤ b)) wx wy → Ta wy wc.heap.size (fun b => (X0 wc pb b ∨ wr.heap.size ≤ b) ∧ b < w6.heap.size) d r k' a' → k' ≤ i + 1 → MdI wc wy pb d r (i + 1) gl Bb u z from fun wx wy a' k' v1 v2 hT hk => MdI.next H6.out.2.1 H6.out.2.2.1 H6.out.2.2.2.2.1 H6.out.2.2.2.2.2.1 (.inr hG6) H6.out.2.2.2.2.2.2.1 (fun b hb => .inl hb) v1 v2 hT hk)
          obtain ⟨dd, hdd, hd1⟩ : ∃ dd : Nat, x0 % 16 = (dd : Int) ∧ dd < 16 := ⟨(x0 % 16).toNat, by omega, by omega⟩
          have hW16 := fun (wz : World) => Within_any x0 16 wz b0.1 b0.2 (by omega) (by omega)
          rw [hdd] at hW16
          clear hK6 hP6 hR6 hA6 hL6 hk6 hb6 hb46 hdd HA HRow hL
          go_wp2_with fail
          refine (hW16 _).mono ?_
          rintro e w7 ⟨rfl, rfl⟩
          clear hW16 k0
          go_upto_block 2 with fail
          go_cut [14, 15, 16, 17] from 66 to 162 (fun v14 v15 v16 v17 wx => Hid (∃ t : Int, v14 = .int .i64 t ∧ v15 = .int .i64 t ∧ MdI wc wx pb d r (i + 1) gl Bb u z ∧ ∃ w7, w7 = wx))
          case first =>
            have hcase : dd < 5 ∨ (dd = 5 ∨ dd = 6) ∨ (dd = 7 ∨ dd = 8) ∨ (dd = 9 ∨ dd = 10) ∨ dd = 11 ∨ dd = 12 ∨ (dd = 13 ∨ dd = 14) ∨ dd = 15 := by omega
            rcases hcase with hd | hd | hd | hd | rfl | rfl | hd | rfl
            · have hd5 : dd = 0 ∨ dd = 1 ∨ dd = 2 ∨ dd = 3 ∨ dd = 4 := by omega
              have hC := ta_append2 (p := nm) (c := u + 3) (c2 := cb) H6.out.1 hws (by omega) (by omega) H6.out.2.2.2.2.2.2.2 (fun ad e => by injection e with e; subst e; exact .inr hG6) H6.out.2.2.2.2.2.1 H6.out.2.2.2.2.2.2.1
              clear hd hd1
              rcases hd5 with rfl | rfl | rfl | rfl | rfl
              iterate 5
                · go_wp2_with fail
                  refine hC.mono ?_
                  rintro e w8 ⟨rfl, v8, hR⟩
                  have V8 := Lib.hid v8
                  clear hC v8
                  go_wp2_with fail
                  refine hR.mono ?_
                  rintro e w9 ⟨rfl, v9, hT9⟩
                  have I7 := Lib.hid (HFin.out _ _ _ _ V8.out v9 hT9 (by omega))
                  clear hR v9 hT9 V8 HFin
                  go_wp2_with fail
                  go_meet
                  exact Lib.hid ⟨_, rfl, rfl, I7.out, _, rfl⟩
            · have hC := ta_sync (p := nm) H6.out.1 (by omega) (by omega)
              clear hd1
              rcases hd with rfl | rfl
              iterate 2
                · go_wp2_with fail
                  refine hC.mono ?_
                  rintro e w8 ⟨rfl, v8, hR⟩
                  have V8 := Lib.hid v8
                  clear hC v8
                  go_wp2_with fail
                  refine hR.mono ?_
                  rintro e w9 ⟨rfl, v9, hT9⟩
                  have I7 := Lib.hid (HFin.out _ _ _ _ V8.out v9 hT9 (by omega))
                  clear hR v9 hT9 V8 HFin
                  go_wp2_with fail
                  go_meet
                  exact Lib.hid ⟨_, rfl, rfl, I7.out, _, rfl⟩
            · have hC := ta_rename (p := nm) (q := nm2) H6.out.1 hws (by omega) (by omega)
              clear hd1
              rcases hd with rfl | rfl
              iterate 2
                · go_wp2_with fail
                  refine hC.mono ?_
                  rintro e w8 ⟨rfl, v8, hR⟩
                  have V8 := Lib.hid v8
                  clear hC v8
                  go_wp2_with fail
                  refine hR.mono ?_
                  rintro e w9 ⟨rfl, v9, hT9⟩
                  have I7 := Lib.hid (HFin.out _ _ _ _ V8.out v9 hT9 (by omega))
                  clear hR v9 hT9 V8 HFin
                  go_wp2_with fail
                  go_meet
                  exact Lib.hid ⟨_, rfl, rfl, I7.out, _, rfl⟩
            · have hC := fun n => ta_cut (p := nm) (n := n) H6.out.1 (by omega) (by omega)
              have hW25 := fun (wz : World) => Within_any x3 25 wz b3.1 b3.2 (by omega) (by omega)
              clear hd1
              by_cases h5 : x3.tmod 5 = 4
              · have h5b : (x3.tmod 5 != 4) = false := by simp [h5]
                clear h5 hW25
                have hC := hC x3
                rcases hd with rfl | rfl
                iterate 2
                  · go_wp2_with fail
                    refine hC.mono ?_
                    rintro e w8 ⟨rfl, v8, hR⟩
                    have V8 := Lib.hid v8
                    clear hC v8
                    go_wp2_with fail
                    refine hR.mono ?_
                    rintro e w9 ⟨rfl, v9, hT9⟩
                    have I7 := Lib.hid (HFin.out _ _ _ _ V8.out v9 hT9 (by omega))
                    clear hR v9 hT9 V8 HFin
                    go_wp2_with fail
                    go_meet
                    exact Lib.hid ⟨_, rfl, rfl, I7.out, _, rfl⟩
              · have h5b : (x3.tmod 5 != 4) = true := by simp [h5]
                have hwr : IntKind.i64.wrap (x3 % 25 - 1) = x3 % 25 - 1 := by rw [IntKind.wrap_i64]; omega
                clear h5
                have hC := hC (x3 % 25 - 1)
                rcases hd with rfl | rfl
                iterate 2
                  · go_wp2_with fail
                    refine (hW25 _).mono ?_
                    rintro e w8 ⟨rfl, rfl⟩
                    clear hW25
                    go_wp2_with fail
                    refine hC.mono ?_
                    rintro e w8 ⟨rfl, v8, hR⟩
                    have V8 := Lib.hid v8
                    clear hC v8
                    go_wp2_with fail
                    refine hR.mono ?_
                    rintro e w9 ⟨rfl, v9, hT9⟩
                    have I7 := Lib.hid (HFin.out _ _ _ _ V8.out v9 hT9 (by omega))
                    clear hR v9 hT9 V8 HFin
                    go_wp2_with fail
                    go_meet
                    exact Lib.hid ⟨_, rfl, rfl, I7.out, _, rfl⟩
            · have hC := ta_remove (p := nm) H6.out.1 hws (by omega)
              clear hd1
              go_wp2_with fail
              refine hC.mono ?_
              rintro e w8 ⟨rfl, v8, hR⟩
              have V8 := Lib.hid v8
              clear hC v8
              go_wp2_with fail
              refine hR.mono ?_
              rintro e w9 ⟨rfl, v9, hT9⟩
              have I7 := Lib.hid (HFin.out _ _ _ _ V8.out v9 hT9 (by omega))
              clear hR v9 hT9 V8 HFin
              go_wp2_with fail
              go_meet
              exact Lib.hid ⟨_, rfl, rfl, I7.out, _, rfl⟩
            · obtain ⟨y4, hy4⟩ : ∃ y4, y4 = x3.tmod 5 := ⟨_, rfl⟩
              have hy5 : y4 < 5 := by rw [hy4]; exact Int.tmod_lt_of_pos _ (by omega)
              have hF := ta_fuse H6.out.1 y4 (max y4 0).toNat (by omega) (by omega)
              rw [hy4] at hF
              clear hy4 hy5 hd1
              go_wp2_with fail
              refine hF.mono ?_
              rintro e w8 ⟨⟨u8, rfl⟩, v8, hR⟩
              have V8 := Lib.hid v8
              have k3 : w8.cell? ⟨ga, 3, none⟩ = some (.int .i64 x3) := (blk_vol H6.out.2.2.2.1 v8 (fun e => e (.inr hgw))).cell 3
              clear hF v8
              go_wp2_with fail
              refine hR.mono ?_
              rintro e w9 ⟨⟨u9, rfl⟩, v9, hT9⟩
              have I7 := Lib.hid (HFin.out _ _ _ _ V8.out v9 hT9 (by omega))
              clear hR v9 hT9 V8 HFin
              go_wp2_with fail
              go_meet
              exact Lib.hid ⟨0, rfl, rfl, I7.out, _, rfl⟩
            · obtain ⟨y4, hy4⟩ : ∃ y4, y4 = x3.tmod 9 := ⟨_, rfl⟩
              have hy5 : y4 < 9 := by rw [hy4]; exact Int.tmod_lt_of_pos _ (by omega)
              have hF := ta_crash H6.out.1 hws (by omega) y4 (max y4 0).toNat (by omega) (by omega)
              rw [hy4] at hF
              clear hy4 hy5 hd1
              rcases hd with rfl | rfl
              iterate 2
                · go_wp2_with fail
                  refine hF.mono ?_
                  rintro e w8 ⟨⟨u8, rfl⟩, v8, hR⟩
                  have V8 := Lib.hid v8
                  have k3 : w8.cell? ⟨ga, 3, none⟩ = some (.int .i64 x3) := (blk_vol H6.out.2.2.2.1 v8 (fun e => e (.inr hgw))).cell 3
                  clear hF v8
                  go_wp2_with fail
                  refine hR.mono ?_
                  rintro e w9 ⟨⟨u9, rfl⟩, v9, hT9⟩
                  have I7 := Lib.hid (HFin.out _ _ _ _ V8.out v9 hT9 (by omega))
                  clear hR v9 hT9 V8 HFin
                  go_wp2_with fail
                  go_meet
                  exact Lib.hid ⟨0, rfl, rfl, I7.out, _, rfl⟩
            · have hC := ta_clone H6.out.1
              clear hd1
              go_wp2_with fail
              refine hC.mono ?_
              rintro e w8 ⟨cp, rfl, hcl8, hb8⟩
              have H8 := Lib.hid (And.intro hcl8 hb8)
              have hAp := cl_append9 hcl8 hb8.size
              clear hcl8 hb8 hC
              go_wp2_with fail
              refine hAp.mono ?_
              rintro e w9 ⟨⟨u9, rfl⟩, hcl9, hb9⟩
              have hs8 := H8.out.2.size
              have hs9 := hb9.size
              have hCr := cl_crash hcl9 (by omega) (by omega)
              have H9 := Lib.hid hb9
              clear hcl9 hb9 hAp
              go_wp2_with fail
              refine hCr.mono ?_
              rintro e w10 ⟨⟨u10, rfl⟩, hb10⟩
              have I7 : Hid (MdI wc w10 pb d r (i + 1) gl Bb u z) := Lib.hid (by
                obtain ⟨a7, hT7⟩ : ∃ a7, Ta w6 wc.heap.size (fun b => X0 wc pb b ∨ wr.heap.size ≤ b) d r i a7 := ⟨_, H6.out.1⟩
                have hbb : Below w6.heap.size w6 w10 := (H8.out.2.trans H9.out).trans hb10
                refine HFin.out w6 w10 a7 i (Vol.refl _) (Vol.of_below hbb) ((hT7.more.below hbb).mono (Nat.le_refl _) fun b hb => .inl hb.1) (by omega))
              clear hb10 hCr HFin
              go_wp2_with fail
              go_meet
              exact Lib.hid ⟨0, rfl, rfl, I7.out, _, rfl⟩
          case rest =>
            obtain ⟨t, rfl, rfl, hI5, w8, hw8⟩ := hcut.out
            subst hw8
            have I5 := Lib.hid hI5
            have n1 : (t != t) = false := by simp
            clear hcut hI5
            obtain ⟨a5, hT5, hB5, hP5⟩ := I5.out.1
            have hSa := ta_same hT5 (by omega)
            have HL1 := Lib.hid (fun (wx : World) (hb : Below wc.heap.size w8 wx ∨ Below w8.heap.size w8 wx) (hb2 : Below w8.heap.size w8 wx) => ta_list (p := nm) (hT5.below hb2) (by omega))
            have HL2 := Lib.hid (fun (wx : World) (hb2 : Below w8.heap.size w8 wx) => ta_rlist (p := nm) (hT5.below hb2) (by omega) (by omega))
            obtain ⟨N, hN⟩ : ∃ N, N = (lsP nm a5.Y).length := ⟨_, rfl⟩
            have hNb : N ≤ 1000 := by rw [hN]; have := lsP_len nm a5.Y; have := hT5.good.len; omega
            rw [← hN] at HL1 HL2
            clear hT5 hB5 hP5 hN
            go_wp2_with fail
            refine hSa.mono ?_
            rintro e w9 ⟨rfl, hb9⟩
            have hl1 := HL1.out w9 (.inr hb9) hb9
            have H9 := Lib.hid hb9
            clear hb9 hSa HL1
            go_wp2_with fail
            refine hl1.mono ?_
            rintro e w10 ⟨A10, c10, rfl, ho10, hb10⟩
            have hs9 := H9.out.size
            have hs10 := hb10.size
            have hb810 : Below w8.heap.size w8 w10 := H9.out.trans (hb10.mono hs9)
            have hl2 := HL2.out w10 hb810
            have H10 := Lib.hid (And.intro ho10 hb810)
            clear ho10 hb10 hb810 hl1 HL2
            go_wp2_with fail
            refine hl2.mono ?_
            rintro e w11 ⟨A11, c11, rfl, ho11, hb11⟩
            have hs11 := hb11.size
            have hb811 : Below w8.heap.size w8 w11 := H10.out.2.trans (hb11.mono (Nat.le_trans hs9 hs10))
            have hSm := SameS_eq (c := c10) (c' := c11) (own_reads (own_keep H10.out.1 hb11)) (own_reads ho11) (Nat.le_refl _) (Nat.le_refl _) hNb
            have H11 := Lib.hid hb811
            clear ho11 hb11 hb811 hl2
            go_wp2_with fail
            refine hSm.mono ?_
            rintro e w12 ⟨rfl, hb12⟩
            have hb812 : Below w8.heap.size w8 w12 := H11.out.trans (hb12.mono H11.out.size)
            have I12 := Lib.hid (I5.out.below hb812)
            have hIn := Intact_any gl Bb u cb _ (u8L z) w12 I12.out.2.1 (by rw [u8L_bytes HZ.out]; exact I12.out.2.2) (by omega)
            clear hb12 hb812 hSm
            go_wp2_with fail
            refine hIn.mono ?_
            rintro e w13 ⟨rfl, kk, hw13⟩
            have I13 : Hid (RpI wc w13 pb d r (i + 1)) := Lib.hid (by rw [hw13]; exact I12.out.1.below (below_drewN (Below.refl _ _) kk))
            clear hw13 hIn
            go_wp2_with fail
            refine ⟨?_, by simp [intOf]; omega⟩
            exact Lib.hid ⟨i + 1, by simp, by omega, I13.out, _, rfl⟩
        · have hall2 : ¬ (i : Int) < nn ∨ ((i : Int) < nn ∧ ¬ (i : Int) < 30) := by omega
          clear hall
          rcases hall2 with h1 | ⟨h1, h2⟩
          all_goals
            go_wp2_with fail
            go_meet
            exact Lib.hid ⟨i, hi, HI.out, _, rfl⟩
    case rest =>
      obtain ⟨i, hi, hI, w3, hw3⟩ := hcut.out
      subst hw3
      have HI := Lib.hid hI
      clear hcut hI I0
      go_wp2_with fail
      refine (wkk _).mono ?_
      rintro e w14 ⟨rfl, hb14⟩
      go_wp2_with fail
      go_ret
      obtain ⟨a, h1, h3, h4⟩ := HI.out
      exact ⟨rfl, h3.trans (hb14.mono h3.size)⟩

end Go.Proofs.Ytplmfmcogbdpjaa.diskPlays
