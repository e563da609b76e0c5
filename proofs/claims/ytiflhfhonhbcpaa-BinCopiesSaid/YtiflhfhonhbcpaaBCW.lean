/- The walk of BinCopies: the Go text returns true, and writes nothing that was there. -/
import Derived.Test.YtiflhfhonhbcpaaBinP
import Derived.Test.YtiflhfhonhbcpaaAllSum
import Derived.Deep.CutRange
import Derived.Deep.RegionHeld3
import Derived.Deep.DeepCutAuto
import Derived.Deep.CutBlock
import Derived.Lib.Builder
import Derived.Deep.RegionLaw
import Derived.IntWalk
import Derived.StillTailTactics
import Derived.Test.YtiflhfhonhbcpaaRdz
namespace Go.Proofs.Ytiflhfhonhbcpaa.binCopies
open Go.ChangeShapes Go.WideShapes Go.ChangeAt Go.RowKit
set_option linter.unusedVariables false
set_option maxRecDepth 100000
open Go.Proofs.Ytiflhfhonhbcpaa.Mas Go.Proofs.Ytiflhfhonhbcpaa.Crw Go.Proofs.Ytiflhfhonhbcpaa.Bin
theorem wkk (w : World) : Calls Try.prog 36 #[] w fun e w' => e = .returned (.bool true) ∧ Below w.heap.size w w' := wakes_36.2.2.2 w
abbrev sF : ByteArray := ⟨#[102]⟩
abbrev sG : ByteArray := ⟨#[103]⟩
abbrev sX : ByteArray := ⟨#[120]⟩
abbrev sY : ByteArray := ⟨#[121]⟩
abbrev sH : ByteArray := ⟨#[104]⟩
abbrev sZ : ByteArray := ⟨#[122]⟩
abbrev ba (s n : Int) : Bx := ⟨sF, sX, n, s⟩
abbrev bb (s n : Int) : Bx := ⟨sF, sX, n + 1, s⟩
abbrev bc (s n : Int) : Bx := ⟨sF, sY, n, s + 2⟩
abbrev bg (s n : Int) : Bx := ⟨sG, sX, n, s⟩
theorem ins4 (s n : Int) : insB (bg s n) [ba s n, bb s n, bc s n] = [ba s n, bb s n, bg s n, bc s n] := by
  unfold insB
  rw [show ([ba s n, bb s n, bc s n] : List Bx).length = 2 + 1 by rfl, atS_lt (y := bc s n) rfl (by show s < s + 2; omega), atS_ge (y := bb s n) rfl (by show ¬ s < s; omega)]
  rfl
set_option maxHeartbeats 80000000 in
theorem walk (a0 a1 : Int) (w : World) (b0 : -9223372036854775808 ≤ a0 ∧ a0 ≤ 9223372036854775807) (b1 : -9223372036854775808 ≤ a1 ∧ a1 ≤ 9223372036854775807) :
    Calls Try.prog 8 #[.int .i64 a0, .int .i64 a1] w fun e w' => e = .returned (.bool true) ∧ Below w.heap.size w w' := by
  have hq1 := Int.emod_nonneg a0 (show (50 : Int) ≠ 0 by omega)
  have hq2 := Int.emod_lt_of_pos a0 (show (0 : Int) < 50 by omega)
  have hq3 := Int.emod_nonneg a1 (show (20 : Int) ≠ 0 by omega)
  have hq4 := Int.emod_lt_of_pos a1 (show (0 : Int) < 20 by omega)
  have hW1 : ∀ w, Calls Try.prog 10 #[.int .i64 a0, .int .i64 50] w fun e w' => e = .returned (.int .i64 (a0 % 50)) ∧ w = w' := fun w => Within_any a0 50 w (by omega) (by omega) (by omega) (by omega)
  have hW2 : ∀ w, Calls Try.prog 10 #[.int .i64 a1, .int .i64 20] w fun e w' => e = .returned (.int .i64 (a1 % 20)) ∧ w = w' := fun w => Within_any a1 20 w (by omega) (by omega) (by omega) (by omega)
  generalize a0 % 50 = s at *
  generalize a1 % 20 = q at *
  go_enter Try.func8, Try.ntmps8
  go_wp2_with fail
  refine (New_b _).mono ?_
  rintro e w1 ⟨b, rfl, hb, hB1⟩
  have I0 : Hid (BnI w w1 b (.slice none 0 0) []) := Lib.hid ⟨hb, hB1⟩
  clear hb hB1
  go_wp2_with fail
  refine (hW1 _).mono ?_
  rintro e w' ⟨rfl, rfl⟩
  go_wp2_with fail
  refine (hW2 _).mono ?_
  rintro e w' ⟨rfl, rfl⟩
  clear hW1 hW2
  go_upto_region 5 with fail
  obtain ⟨n, hn⟩ : ∃ n, n = 1 + q := ⟨_, rfl⟩
  have hn1 : 1 ≤ n := by omega
  have hn2 : n ≤ 20 := by omega
  rw [← hn]
  clear hn hq3 hq4
  go_wp2_with fail
  refine (Add_newI (s := s) I0.out (hit_all (by simp)) (by simp)).mono ?_
  rintro e w2 ⟨rfl, v2, i2⟩
  have I2 : Hid (BnI w w2 b v2 [ba s n]) := Lib.hid i2
  clear i2 I0
  go_wp2_with fail
  refine (Add_there (s := s + 1) I2.out.bn (k := 0) rfl (by simp [hit]) (by omega)).mono ?_
  rintro e w3 ⟨rfl, hb3⟩
  have I3 : Hid (BnI w w3 b v2 [ba s n]) := Lib.hid (I2.out.below hb3)
  clear hb3 I2
  go_wp2_with fail
  refine (Add_newI (s := s) I3.out (hit_all (by simp [hit]; omega)) (by simp)).mono ?_
  rintro e w4 ⟨rfl, v4, i4⟩
  rw [insB_end (m := 0) (y := ba s n) rfl rfl (by show ¬ s < s; omega)] at i4
  have I4 : Hid (BnI w w4 b v4 [ba s n, bb s n]) := Lib.hid i4
  clear i4 I3
  go_wp2_with fail
  refine (Add_newI (s := s + 2) I4.out (hit_all (by simp [hit])) (by simp)).mono ?_
  rintro e w5 ⟨rfl, v5, i5⟩
  rw [insB_end (m := 1) (y := bb s n) rfl rfl (by show ¬ s + 2 < s; omega)] at i5
  have I5 : Hid (BnI w w5 b v5 [ba s n, bb s n, bc s n]) := Lib.hid i5
  clear i5 I4
  go_wp2_with fail
  refine (Add_newI (s := s) I5.out (hit_all (by simp [hit])) (by simp)).mono ?_
  rintro e w6 ⟨rfl, v6, i6⟩
  rw [show (⟨sG, sX, n, s⟩ : Bx) = bg s n from rfl, ins4] at i6
  have I6 : Hid (BnI w w6 b v6 [ba s n, bb s n, bg s n, bc s n]) := Lib.hid i6
  clear i6 I5
  go_wp2_with fail
  refine (Clone_b I6.out.bn).mono ?_
  rintro e w7 ⟨c, vc, rfl, hc7, hb7⟩
  have hlt := I6.out.lt
  have hBc := I6.out.bel.size
  have C7 : Hid (BnP w7 w6.heap.size c vc [ba s n, bb s n, bg s n, bc s n]) := Lib.hid hc7
  have I7 : Hid (BnI w w7 b v6 [ba s n, bb s n, bg s n, bc s n]) := Lib.hid (I6.out.below hb7)
  have HLT := Lib.hid (And.intro hlt hBc)
  clear hc7 hb7 hlt hBc I6
  go_wp2_with fail
  refine (Take_yes C7.out (k := 0) rfl (by simp [hit]) (by omega)).mono ?_
  rintro e w8 ⟨rfl, vc8, c8, vol8, -⟩
  have I8 : Hid (BnI w w8 b v6 [ba s n, bb s n, bg s n, bc s n]) := Lib.hid (I7.out.other HLT.out.1.1 HLT.out.1.2 HLT.out.2 C7.out vol8)
  have C8 : Hid (BnP w8 w6.heap.size c vc8 [bb s n, bg s n, bc s n]) := Lib.hid c8
  clear c8 vol8 I7 C7
  go_wp2_with fail
  refine (Take_no C8.out (hit_all (by simp [hit]; omega))).mono ?_
  rintro e w9 ⟨rfl, hb9⟩
  have I9 : Hid (BnI w w9 b v6 [ba s n, bb s n, bg s n, bc s n]) := Lib.hid (I8.out.below hb9)
  have C9 : Hid (BnP w9 w6.heap.size c vc8 [bb s n, bg s n, bc s n]) := Lib.hid (C8.out.below hb9)
  clear hb9 I8 C8
  go_wp2_with fail
  refine (Add_new C9.out (s := 0) (hit_all (by simp [hit])) (by simp)).mono ?_
  rintro e w10 ⟨rfl, vc10, c10, vol10, -⟩
  obtain ⟨L4, hL4⟩ : ∃ L4, L4 = insB (⟨sH, sZ, 1, 0⟩ : Bx) [bb s n, bg s n, bc s n] := ⟨_, rfl⟩
  have hl4 : L4.length = 4 := by rw [hL4, insB_len]; rfl
  have I10 : Hid (BnI w w10 b v6 [ba s n, bb s n, bg s n, bc s n]) := Lib.hid (I9.out.other HLT.out.1.1 HLT.out.1.2 HLT.out.2 C9.out vol10)
  have C10 : Hid (BnP w10 w6.heap.size c vc10 L4) := Lib.hid (by rw [hL4]; exact c10)
  have HL4 := Lib.hid hl4
  clear c10 vol10 I9 C9 hL4 hl4
  go_wp2_with fail
  refine (All_b I10.out.bn).mono ?_
  rintro e w11 ⟨v11, rfl, ho11, hb11⟩
  rw [show ([ba s n, bb s n, bg s n, bc s n] : List Bx).length = 4 from rfl] at ho11
  obtain ⟨A11, c11, rfl, -, -⟩ := own_slice ho11
  have I11 : Hid (BnI w w11 b v6 [ba s n, bb s n, bg s n, bc s n]) := Lib.hid (I10.out.below hb11)
  have C11 : Hid (BnP w11 w6.heap.size c vc10 L4) := Lib.hid (C10.out.below hb11)
  clear ho11 hb11 I10 C10
  go_wp2_with fail
  refine (All_b C11.out).mono ?_
  rintro e w12 ⟨v12, rfl, ho12, hb12⟩
  rw [HL4.out] at ho12
  obtain ⟨A12, c12, rfl, -, -⟩ := own_slice ho12
  have I12 : Hid (BnI w w12 b v6 [ba s n, bb s n, bg s n, bc s n]) := Lib.hid (I11.out.below hb12)
  clear ho12 hb12 I11 C11
  go_wp2_with fail
  refine (All_b I12.out.bn).mono ?_
  rintro e w13 ⟨v13, rfl, ho13, hb13⟩
  rw [show ([ba s n, bb s n, bg s n, bc s n] : List Bx).length = 4 from rfl] at ho13
  obtain ⟨A13, c13, rfl, -, -⟩ := own_slice ho13
  obtain ⟨u, rfl⟩ := own_some ho13 (by omega)
  have k0 : w13.cell? ⟨u, 0, none⟩ = some (.string sF) := ho13.cellAt 0 (by omega)
  have f0 : w13.frozen? ⟨u, 0, none⟩ = false := ho13.frozenAt _
  have hu := ho13.lt u rfl
  have hlt := I12.out.lt
  have I13 : Hid (BnI w w13 b v6 [ba s n, bb s n, bg s n, bc s n]) := Lib.hid (I12.out.below hb13)
  obtain ⟨w14, hw14⟩ : ∃ w14, w14 = w13.setCell ⟨u, 0, none⟩ (.string ⟨#[110, 111, 110, 101]⟩) := ⟨_, rfl⟩
  have I14 : Hid (BnI w w14 b v6 [ba s n, bb s n, bg s n, bc s n]) := Lib.hid (by
    have hv : Vol (fun q => q = u) w13 w14 := by rw [hw14]; exact Vol.setCell (V := fun q => q = u) (a := ⟨u, 0, none⟩) (Vol.refl w13) (.inl rfl) _
    have hsz := I12.out.bel.size
    refine ⟨I13.out.bn.vol hv (fun e => by have := hlt.1; omega) (fun q hq e => by have := hlt.2 q hq; omega), ?_⟩
    refine ⟨hv.os.trans I13.out.bel.os, hv.tape.trans I13.out.bel.tape, hv.output.trans I13.out.bel.output, Nat.le_trans I13.out.bel.size hv.size, fun q hq => ?_⟩
    exact (hv.block q (Nat.lt_of_lt_of_le hq I13.out.bel.size) (fun e => by omega)).trans (I13.out.bel.block q hq))
  have HW14 := Lib.hid hw14
  clear ho13 hb13 hu hlt I12 I13 hw14
  go_upto_region 12 with fail
  rw [← HW14.out]
  clear k0 f0 HW14
  go_wp2_with fail
  refine (All_b I14.out.bn).mono ?_
  rintro e w15 ⟨v15, rfl, ho15, hb15⟩
  rw [show ([ba s n, bb s n, bg s n, bc s n] : List Bx).length = 4 from rfl] at ho15
  obtain ⟨A15, c15, rfl, -, -⟩ := own_slice ho15
  have I15 : Hid (BnI w w15 b v6 [ba s n, bb s n, bg s n, bc s n]) := Lib.hid (I14.out.below hb15)
  have O15 := Lib.hid ho15
  clear ho15 hb15 I14
  go_upto_region 14 with fail
  obtain ⟨gw, hgw⟩ : ∃ gw, gw = w15.heap.size := ⟨_, rfl⟩
  obtain ⟨w16, hw16⟩ : ∃ w16, w16 = w15.alloc (Obj.cells #[Value.string ⟨#[102]⟩, Value.string ⟨#[120]⟩, Value.int .i64 n, Value.int .i64 s, Value.string ⟨#[102]⟩, Value.string ⟨#[120]⟩, Value.int .i64 (n + 1), Value.int .i64 s, Value.string ⟨#[103]⟩, Value.string ⟨#[120]⟩, Value.int .i64 n, Value.int .i64 s, Value.string ⟨#[102]⟩, Value.string ⟨#[121]⟩, Value.int .i64 n, Value.int .i64 (s + 2)] 70) := ⟨_, rfl⟩
  rw [← hw16, ← hgw]
  have hb16 : Below w15.heap.size w15 w16 := by rw [hw16]; exact (Below.refl _ _).alloc (Nat.le_refl _) _
  have ow : w16.ownsRow w15.heap.size 70 4 (.slice (some ⟨gw, 0, none⟩) 4 4) 4 (bxV [ba s n, bb s n, bg s n, bc s n]) := by
    refine own_of_cells (cur := #[Value.string ⟨#[102]⟩, Value.string ⟨#[120]⟩, Value.int .i64 n, Value.int .i64 s, Value.string ⟨#[102]⟩, Value.string ⟨#[120]⟩, Value.int .i64 (n + 1), Value.int .i64 s, Value.string ⟨#[103]⟩, Value.string ⟨#[120]⟩, Value.int .i64 n, Value.int .i64 s, Value.string ⟨#[102]⟩, Value.string ⟨#[121]⟩, Value.int .i64 n, Value.int .i64 (s + 2)]) (by omega) ?_ (Nat.le_refl _) (by decide) rfl rfl
    rw [hw16, hgw]
    exact Blk.new _ _ _
  have I16 : Hid (BnI w w16 b v6 [ba s n, bb s n, bg s n, bc s n]) := Lib.hid (I15.out.below hb16)
  have hS := Same_box (own_keep O15.out hb16) ow rfl (by omega)
  have hss : ∀ (k : Nat) (x : Bx), ([ba s n, bb s n, bg s n, bc s n] : List Bx)[k]? = some x → 0 ≤ x.s ∧ x.s ≤ 1000 := fun k x hx => by
    have := List.mem_of_getElem? hx
    simp only [List.mem_cons, List.not_mem_nil, or_false] at this
    rcases this with rfl | rfl | rfl | rfl <;> simp <;> omega
  have l5 : ([ba s n, bb s n, bg s n, bc s n].filter (dueF (s + 5) 5)).length = 3 := by
    rw [List.filter_cons_of_pos (by simp [dueF]), List.filter_cons_of_pos (by simp [dueF]), List.filter_cons_of_pos (by simp [dueF]), List.filter_cons_of_neg (by simp [dueF]; omega)]
    rfl
  have l4 : ([ba s n, bb s n, bg s n, bc s n].filter (dueF (s + 4) 5)).length = 0 := by
    rw [List.filter_cons_of_neg (by simp [dueF]; omega), List.filter_cons_of_neg (by simp [dueF]; omega), List.filter_cons_of_neg (by simp [dueF]; omega), List.filter_cons_of_neg (by simp [dueF]; omega)]
    rfl
  have l7 : ([ba s n, bb s n, bg s n, bc s n].filter (dueF (s + 7) 5)).length = 4 := by
    rw [List.filter_cons_of_pos (by simp [dueF]; omega), List.filter_cons_of_pos (by simp [dueF]; omega), List.filter_cons_of_pos (by simp [dueF]; omega), List.filter_cons_of_pos (by simp [dueF]; omega)]
    rfl
  have HSS := Lib.hid hss
  have HL5 := Lib.hid l5
  have HL4 := Lib.hid l4
  have HL7 := Lib.hid l7
  clear hss l5 l4 l7 ow hw16 hgw hb16 I15 O15
  go_wp2_with fail
  refine hS.mono ?_
  rintro e w17 ⟨rfl, m17, rfl⟩
  obtain ⟨w17, hw17⟩ : ∃ w17, w17 = w16.drewN m17 := ⟨_, rfl⟩
  rw [← hw17]
  have I17 : Hid (BnI w w17 b v6 [ba s n, bb s n, bg s n, bc s n]) := Lib.hid (by rw [hw17]; exact I16.out.below (below_drewN (Below.refl _ _) _))
  clear hw17 I16 hS
  go_wp2_with fail
  refine (Due_b I17.out.bn (s + 5) 5 HSS.out (by omega) (by omega) (by omega) (by omega)).mono ?_
  rintro e w18 ⟨v18, rfl, ho18, hb18⟩
  rw [HL5.out] at ho18
  obtain ⟨A18, c18, rfl, -, -⟩ := own_slice ho18
  have I18 : Hid (BnI w w18 b v6 [ba s n, bb s n, bg s n, bc s n]) := Lib.hid (I17.out.below hb18)
  clear ho18 hb18 I17
  go_wp2_with fail
  refine (Due_b I18.out.bn (s + 4) 5 HSS.out (by omega) (by omega) (by omega) (by omega)).mono ?_
  rintro e w19 ⟨v19, rfl, ho19, hb19⟩
  rw [HL4.out] at ho19
  obtain ⟨A19, c19, rfl, -, -⟩ := own_slice ho19
  have I19 : Hid (BnI w w19 b v6 [ba s n, bb s n, bg s n, bc s n]) := Lib.hid (I18.out.below hb19)
  clear ho19 hb19 I18
  go_wp2_with fail
  refine (Due_b I19.out.bn (s + 7) 5 HSS.out (by omega) (by omega) (by omega) (by omega)).mono ?_
  rintro e w20 ⟨v20, rfl, ho20, hb20⟩
  rw [HL7.out] at ho20
  obtain ⟨A20, c20, rfl, -, -⟩ := own_slice ho20
  have I20 : Hid (BnI w w20 b v6 [ba s n, bb s n, bg s n, bc s n]) := Lib.hid (I19.out.below hb20)
  clear ho20 hb20 I19
  go_wp2_with fail
  refine (Take_no I20.out.bn (hit_all (by simp [hit]))).mono ?_
  rintro e w21 ⟨rfl, hb21⟩
  have hbe := I20.out.bel.trans (hb21.mono I20.out.bel.size)
  have HBE := Lib.hid hbe
  clear hb21 hbe
  go_wp2_with fail
  refine (wkk _).mono ?_
  rintro e w22 ⟨rfl, hb22⟩
  go_wp2_with fail
  go_ret
  exact ⟨rfl, HBE.out.trans (hb22.mono HBE.out.size)⟩

end Go.Proofs.Ytiflhfhonhbcpaa.binCopies
