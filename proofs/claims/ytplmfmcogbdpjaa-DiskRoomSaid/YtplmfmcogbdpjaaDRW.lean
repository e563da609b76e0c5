/- The walk of DiskRoom: the Go text returns true, and writes nothing that was there. -/
import Derived.Test.YtplmfmcogbdpjaaDk8
import Derived.Test.YtplmfmcogbdpjaaDkE
import Derived.Test.YtplmfmcogbdpjaaWithin
import Derived.Test.YtplmfmcogbdpjaaAllSum
import Derived.Test.YtplmfmcogbdpjaaRdz
namespace Go.Proofs.Ytplmfmcogbdpjaa.diskRoom
open Go.ChangeShapes Go.WideShapes Go.ChangeAt Go.RowKit
set_option linter.unusedVariables false
open Go Go.RowKit Go.Proofs.Ytplmfmcogbdpjaa.Dk Go.Proofs.Ytplmfmcogbdpjaa.Crw Go.Proofs.Ytplmfmcogbdpjaa.Vl Go.Proofs.Ytplmfmcogbdpjaa
set_option maxRecDepth 100000
theorem wkk (w : World) : Calls Try.prog 23 #[] w fun e w' => e = .returned (.bool true) ∧ Below w.heap.size w w' := wakes_23.2.2.2 w
abbrev pA : ByteArray := ⟨#[97]⟩
abbrev pB : ByteArray := ⟨#[98]⟩
abbrev pC : ByteArray := ⟨#[99]⟩
abbrev pX : ByteArray := ⟨#[120]⟩
theorem pA_ne : pA.toList.isEmpty = false := by decide +kernel
theorem pB_ne : pB.toList.isEmpty = false := by decide +kernel
theorem pC_ne : pC.toList.isEmpty = false := by decide +kernel
theorem pX_ne : pX.toList.isEmpty = false := by decide +kernel
theorem pAB : (pA.toList == pB.toList) = false := by decide +kernel
abbrev sQ (Q : Nat) (u : Int) : Ds := ⟨(Q : Int), u, false, 0, false⟩
abbrev fl (p : ByteArray) (g : Nat) (v : Value) (bs : List Int) (sy : Int) (fi : Bool) : Fi := ⟨p, g, v, bs, sy, fi⟩
theorem not_of {p : ByteArray} {F : List Fi} (h : F.all (fun x => !hitP p x) = true) : ∀ (k : Nat) (x : Fi), F[k]? = some x → hitP p x = false := by
  intro k x hk
  have h1 := List.all_eq_true.1 h x (List.mem_of_getElem? hk)
  simpa using h1
set_option maxHeartbeats 32000000 in
theorem walk (a0 : Int) (a1 : Int) (a2 : Int) (w : World) (b0 : -9223372036854775808 ≤ a0 ∧ a0 ≤ 9223372036854775807) (b1 : -9223372036854775808 ≤ a1 ∧ a1 ≤ 9223372036854775807) (b2 : -9223372036854775808 ≤ a2 ∧ a2 ≤ 9223372036854775807) :
    Calls Try.prog 3 #[.int .i64 a0, .int .i64 a1, .int .i64 a2] w fun e w' => e = .returned (.bool true) ∧ Below w.heap.size w w' := by
  obtain ⟨N0, hN0, hN1⟩ : ∃ N : Nat, a0 % 200 = (N : Int) ∧ N < 200 := ⟨(a0 % 200).toNat, by omega, by omega⟩
  obtain ⟨Q, hQ, hQ1, hQ2⟩ : ∃ Q : Nat, (2 : Int) + (N0 : Int) = (Q : Int) ∧ 2 ≤ Q ∧ Q ≤ 201 := ⟨2 + N0, by omega, by omega, by omega⟩
  have hm0 := Int.emod_nonneg a1 (show (Q : Int) ≠ 0 by omega)
  have hm1 := Int.emod_lt_of_pos a1 (show 0 < (Q : Int) by omega)
  obtain ⟨la, hla, hla1⟩ : ∃ N : Nat, a1 % (Q : Int) = (N : Int) ∧ N < Q := ⟨(a1 % Q).toNat, by omega, by omega⟩
  obtain ⟨R, hR, hR1⟩ : ∃ R : Nat, (Q : Int) - (la : Int) = (R : Int) ∧ R + la = Q := ⟨Q - la, by omega, by omega⟩
  have hm2 := Int.emod_nonneg a2 (show (R : Int) + 1 ≠ 0 by omega)
  have hm3 := Int.emod_lt_of_pos a2 (show 0 < (R : Int) + 1 by omega)
  obtain ⟨lb, hlb, hlb1⟩ : ∃ N : Nat, a2 % ((R : Int) + 1) = (N : Int) ∧ N ≤ R := ⟨(a2 % ((R : Int) + 1)).toNat, by omega, by omega⟩
  have hW0 := fun (wz : World) => Within_any a0 200 wz b0.1 b0.2 (by omega) (by omega)
  have hW1 := fun (wz : World) => Within_any a1 Q wz b1.1 b1.2 (by omega) (by omega)
  have hW2 := fun (wz : World) => Within_any a2 ((R : Int) + 1) wz b2.1 b2.2 (by omega) (by omega)
  rw [hN0] at hW0
  rw [hla] at hW1
  rw [hlb] at hW2
  obtain ⟨za, hza⟩ : ∃ l : List Int, l = List.replicate la 0 := ⟨_, rfl⟩
  obtain ⟨zb, hzb⟩ : ∃ l : List Int, l = List.replicate R 0 := ⟨_, rfl⟩
  obtain ⟨zq, hzq⟩ : ∃ l : List Int, l = List.replicate Q 0 := ⟨_, rfl⟩
  have hzal : za.length = la := by rw [hza]; simp
  have hzbl : zb.length = R := by rw [hzb]; simp
  have mk1 := mk_made la (by omega)
  have mk2 := mk_made R (by omega)
  have mk3 := mk_made Q (by omega)
  have rd1 := fun (W : World) => reads_mk W la
  have rd2 := fun (W : World) => reads_mk W R
  have rd3 := fun (W : World) => reads_mk W Q
  rw [← hza] at rd1
  rw [← hzb] at rd2
  rw [← hzq] at rd3
  have HLB := Lib.hid hlb
  clear hN0 hm0 hm1 hla hm2 hm3 hlb hza hzb hzq b0 b1 b2
  go_enter Try.func3, Try.ntmps3
  go_wp2_with fail
  refine (hW0 _).mono ?_
  rintro r w1 ⟨rfl, rfl⟩
  clear hW0
  go_wp2_with fail
  refine (hW1 _).mono ?_
  rintro r w1 ⟨rfl, rfl⟩
  clear hW1
  go_wp2_with fail
  refine (New_g Q Q Q (by omega) (by omega) _).mono ?_
  rintro r w1 ⟨d, mb, V0, rfl, hD, hb1⟩
  have hRm : Calls Try.prog 15 #[.pointer (some ⟨d, 0, none⟩)] w1 fun r w' => r = .returned (.int .i64 Q) ∧ Below w1.heap.size w1 w' := by
    have h := Room_ hD.blk ⟨by show (0 : Int) ≤ Q; omega, by show (Q : Int) ≤ 65536; omega⟩ ⟨by show (0 : Int) ≤ 0; omega, by show (0 : Int) ≤ 65536; omega⟩
    rw [show (sQ Q 0).q - (sQ Q 0).u = (Q : Int) by show (Q : Int) - 0 = Q; omega] at h
    exact h
  have HD := Lib.hid hD
  clear hD
  go_wp2_with fail
  refine hRm.mono ?_
  rintro r w2 ⟨rfl, hb2⟩
  clear hRm
  obtain ⟨x2, hx2⟩ : ∃ x2, x2 = w2.alloc (.cells (madeCells #[.int .u8 0] la) 5) := ⟨_, rfl⟩
  have hbx2 : Below w2.heap.size w2 x2 := by rw [hx2]; exact (Below.refl _ _).alloc (Nat.le_refl _) _
  have D2 : DkP x2 w.heap.size d mb V0 (sQ Q 0) [] := (HD.out.below hb2).below hbx2
  have rdA : Reads x2 x2.heap.size 1 (some ⟨w2.heap.size, 0, none⟩) la (bsV za) := by rw [hx2]; exact rd1 w2
  have hAp1 := Append_new D2 (p := pA) (c := la) (not_of rfl) pA_ne ⟨rfl, rfl⟩ ⟨by show (0 : Int) ≤ Q; omega, by show (Q : Int) ≤ 65536; omega⟩ ⟨by show (0 : Int) ≤ 0; omega, by show (0 : Int) ≤ 65536; omega⟩ rdA (Nat.le_refl _) (fun ad e => by injection e with e; rw [← e]; exact fun h => absurd (HD.out.below hb2 |>.lt _ h) (by show ¬ w2.heap.size < w2.heap.size; omega)) (by show (la : Int) ≤ (Q : Int) - 0; omega)
  have HX2 := Lib.hid hx2
  have HB2 := Lib.hid ((hb1.trans (hb2.mono hb1.size)).trans (hbx2.mono (Nat.le_trans hb1.size hb2.size)))
  clear hx2 hbx2 D2 rdA hb1 hb2
  go_wp2_with fail
  rw [← HX2.out]
  refine hAp1.mono ?_
  rintro r w3 ⟨rfl, V3, g1, v1, hD3, hv3, -⟩
  clear hAp1
  have HB3 : Hid (Below w.heap.size w w3) := Lib.hid (bel_vol HB2.out hv3 HD.out.ge)
  have e3 : (0 : Int) + (la : Int) = (la : Int) := by omega
  have D3 : DkP w3 w.heap.size d mb V3 (sQ Q la) [fl pA g1 v1 za 0 false] := by
    have h : DkP w3 w.heap.size d mb V3 (sQ Q (0 + la)) [fl pA g1 v1 za 0 false] := hD3
    rw [e3] at h
    exact h
  obtain ⟨x3, hx3⟩ : ∃ x3, x3 = w3.alloc (.cells (madeCells #[.int .u8 0] R) 5) := ⟨_, rfl⟩
  have hbx3 : Below w3.heap.size w3 x3 := by rw [hx3]; exact (Below.refl _ _).alloc (Nat.le_refl _) _
  have rdB : Reads x3 x3.heap.size 1 (some ⟨w3.heap.size, 0, none⟩) R (bsV zb) := by rw [hx3]; exact rd2 w3
  have hAp2 := Append_new (D3.below hbx3) (p := pB) (c := R) (not_of (by rfl)) pB_ne ⟨rfl, rfl⟩ ⟨by show (0 : Int) ≤ Q; omega, by show (Q : Int) ≤ 65536; omega⟩ ⟨by show (0 : Int) ≤ la; omega, by show (la : Int) ≤ 65536; omega⟩ rdB (Nat.le_refl _) (fun ad e => by injection e with e; rw [← e]; exact fun h => absurd (D3.lt _ h) (by show ¬ w3.heap.size < w3.heap.size; omega)) (by show (R : Int) ≤ (Q : Int) - la; omega)
  have HX3 := Lib.hid hx3
  have HBX3 := Lib.hid (HB3.out.trans (hbx3.mono HB3.out.size))
  have HD3 := Lib.hid D3
  clear hx3 hbx3 rdB D3 hD3 hv3 e3
  go_wp2_with fail
  rw [← HX3.out]
  refine hAp2.mono ?_
  rintro r w4 ⟨rfl, V4, g2, v2, hD4, hv4, -⟩
  clear hAp2
  have HB4 : Hid (Below w.heap.size w w4) := Lib.hid (bel_vol HBX3.out hv4 HD3.out.ge)
  have D4 : DkP w4 w.heap.size d mb V4 (sQ Q Q) [fl pA g1 v1 za 0 false, fl pB g2 v2 zb 0 false] := by
    have h : DkP w4 w.heap.size d mb V4 (sQ Q ((la : Int) + R)) [fl pA g1 v1 za 0 false, fl pB g2 v2 zb 0 false] := hD4
    rw [show (la : Int) + (R : Int) = (Q : Int) by omega] at h
    exact h
  have hRm : Calls Try.prog 15 #[.pointer (some ⟨d, 0, none⟩)] w4 fun r w' => r = .returned (.int .i64 0) ∧ Below w4.heap.size w4 w' := by
    have h := Room_ D4.blk ⟨by show (0 : Int) ≤ Q; omega, by show (Q : Int) ≤ 65536; omega⟩ ⟨by show (0 : Int) ≤ Q; omega, by show (Q : Int) ≤ 65536; omega⟩
    rw [show (sQ Q Q).q - (sQ Q Q).u = 0 by show (Q : Int) - Q = 0; omega] at h
    exact h
  have HD4 := Lib.hid D4
  clear D4 hD4 hv4
  go_wp2_with fail
  refine hRm.mono ?_
  rintro r w5 ⟨rfl, hb5⟩
  clear hRm
  have hFu := fun (x5 : World) (hb : Below w5.heap.size w5 x5) => Append_full ((HD4.out.below hb5).below hb) (p := pC) (n := 1) (c := 1) (A := some ⟨w5.heap.size, 0, none⟩) pC_ne rfl ⟨by show (0 : Int) ≤ Q; omega, by show (Q : Int) ≤ 65536; omega⟩ ⟨by show (0 : Int) ≤ Q; omega, by show (Q : Int) ≤ 65536; omega⟩ (by show (Q : Int) - Q < 1; omega)
  go_wp2_with fail
  refine (hFu _ ((Below.refl _ _).alloc (Nat.le_refl _) _)).mono ?_
  rintro r w6 ⟨rfl, hb6⟩
  have hb56 : Below w5.heap.size w5 w6 := ((Below.refl _ _).alloc (Nat.le_refl _) _).trans (hb6.mono (by simp))
  clear hFu hb6
  have D6 := (HD4.out.below hb5).below hb56
  have hAp3 := Append_new D6 (p := pC) (A := none) (n := 0) (c := 0) (bs := []) (B' := 0) (not_of (by rfl)) pC_ne ⟨rfl, rfl⟩ ⟨by show (0 : Int) ≤ Q; omega, by show (Q : Int) ≤ 65536; omega⟩ ⟨by show (0 : Int) ≤ Q; omega, by show (Q : Int) ≤ 65536; omega⟩ Reads.none_ (Nat.zero_le _) (fun ad e => by cases e) (by show (0 : Int) ≤ (Q : Int) - Q; omega)
  have HB6 := Lib.hid ((HB4.out.trans (hb5.mono HB4.out.size)).trans (hb56.mono (Nat.le_trans HB4.out.size hb5.size)))
  clear hb5 hb56 D6
  go_wp2_with fail
  refine hAp3.mono ?_
  rintro r w7 ⟨rfl, V7, g3, v3, hD7, hv7, -⟩
  clear hAp3
  have HB7 : Hid (Below w.heap.size w w7) := Lib.hid (bel_vol HB6.out hv7 HD4.out.ge)
  have D7 : DkP w7 w.heap.size d mb V7 (sQ Q Q) [fl pA g1 v1 za 0 false, fl pB g2 v2 zb 0 false, fl pC g3 v3 [] 0 false] := by
    have h : DkP w7 w.heap.size d mb V7 (sQ Q ((Q : Int) + 0)) [fl pA g1 v1 za 0 false, fl pB g2 v2 zb 0 false, fl pC g3 v3 [] 0 false] := hD7
    rw [show (Q : Int) + 0 = (Q : Int) by omega] at h
    exact h
  have geV : ∀ b, V7 b → w.heap.size ≤ b := D7.ge
  have hCt := Cut_yes D7 (j := 1) (p := pB) rfl rfl pB_ne ⟨rfl, rfl⟩ (n := lb) (by show lb ≤ zb.length; omega) (by show zb.length ≤ 65536; omega) ⟨by show (0 : Int) ≤ Q; omega, by show (Q : Int) ≤ 65536; omega⟩
  have HD7 := Lib.hid D7
  clear D7 hD7 hv7
  go_wp2_with fail
  refine (hW2 _).mono ?_
  rintro r w8 ⟨rfl, rfl⟩
  clear hW2
  go_wp2_with fail
  refine hCt.mono ?_
  rintro r w8 ⟨rfl, v5, hD8, hv8⟩
  clear hCt
  have HB8 : Hid (Below w.heap.size w w8) := Lib.hid (bel_vol HB7.out hv8 geV)
  have htb : (zb.take lb).length = lb := by rw [List.length_take]; omega
  have D8 : DkP w8 w.heap.size d mb V7 (sQ Q ((la : Int) + lb)) [fl pA g1 v1 za 0 false, fl pB g2 v5 (zb.take lb) lb true, fl pC g3 v3 [] 0 false] := by
    have h : DkP w8 w.heap.size d mb V7 (sQ Q ((Q : Int) - ((zb.length : Int) - lb))) [fl pA g1 v1 za 0 false, fl pB g2 v5 (zb.take lb) lb true, fl pC g3 v3 [] 0 false] := hD8
    rw [show (Q : Int) - ((zb.length : Int) - lb) = (la : Int) + lb by omega] at h
    exact h
  have hU8 := Used_ D8.blk
  have HD8 := Lib.hid D8
  clear D8 hD8 hv8
  go_wp2_with fail
  refine hU8.mono ?_
  rintro r w9 ⟨rfl, hb9⟩
  clear hU8
  have hRm : Calls Try.prog 15 #[.pointer (some ⟨d, 0, none⟩)] w9 fun r w' => r = .returned (.int .i64 ((R : Int) - lb)) ∧ Below w9.heap.size w9 w' := by
    have h := Room_ (HD8.out.below hb9).blk ⟨by show (0 : Int) ≤ Q; omega, by show (Q : Int) ≤ 65536; omega⟩ ⟨by show (0 : Int) ≤ (la : Int) + lb; omega, by show (la : Int) + lb ≤ 65536; omega⟩
    rw [show (sQ Q ((la : Int) + lb)).q - (sQ Q ((la : Int) + lb)).u = (R : Int) - lb by show (Q : Int) - ((la : Int) + lb) = (R : Int) - lb; omega] at h
    exact h
  go_wp2_with fail
  refine hRm.mono ?_
  rintro r w10 ⟨rfl, hb10⟩
  clear hRm
  have hRn := Rename_ ((HD8.out.below hb9).below hb10) (j := 0) (p := pA) (q := pB) (G := [fl pA g1 v1 za za.length true, fl pC g3 v3 [] 0 false]) (i := 0) (t := lb) rfl rfl pA_ne pB_ne pAB ⟨rfl, rfl⟩ rfl (by
    intro wa hwa
    refine (remove_yes hwa (j := 1) (p := pB) rfl rfl (by show (zb.take lb).length ≤ 65536; omega) ⟨by show (0 : Int) ≤ (la : Int) + lb; omega, by show (la : Int) + lb ≤ 65536; omega⟩).mono ?_
    rintro r w' ⟨hu, hd, hv⟩
    refine ⟨hu, ⟨?_, hv, not_of (by rfl)⟩⟩
    have h : DkP w' w.heap.size d mb V7 (sQ Q ((la : Int) + lb - ((zb.take lb).length : Int))) [fl pA g1 v1 za za.length true, fl pC g3 v3 [] 0 false] := hd
    rw [htb] at h
    exact h)
  have HB10 := Lib.hid ((HB8.out.trans (hb9.mono HB8.out.size)).trans (hb10.mono (Nat.le_trans HB8.out.size hb9.size)))
  clear hb9 hb10
  go_wp2_with fail
  refine hRn.mono ?_
  rintro r w11 ⟨rfl, hD11, hv11⟩
  clear hRn
  have HB11 : Hid (Below w.heap.size w w11) := Lib.hid (bel_vol HB10.out hv11 geV)
  have D11 : DkP w11 w.heap.size d mb V7 (sQ Q la) [fl pC g3 v3 [] 0 false, fl pB g1 v1 za za.length true] := by
    have h : DkP w11 w.heap.size d mb V7 (sQ Q ((la : Int) + lb - (lb : Int))) [fl pC g3 v3 [] 0 false, fl pB g1 v1 za za.length true] := hD11
    rw [show (la : Int) + lb - (lb : Int) = (la : Int) by omega] at h
    exact h
  have hU11 := Used_ D11.blk
  have HD11 := Lib.hid D11
  clear D11 hD11 hv11
  go_wp2_with fail
  refine hU11.mono ?_
  rintro r w12 ⟨rfl, hb12⟩
  clear hU11
  have hRe := Remove_yes (HD11.out.below hb12) (j := 1) (p := pB) rfl rfl pB_ne ⟨rfl, rfl⟩ (by show za.length ≤ 65536; omega) ⟨by show (0 : Int) ≤ la; omega, by show (la : Int) ≤ 65536; omega⟩
  have HB12 := Lib.hid (HB11.out.trans (hb12.mono HB11.out.size))
  clear hb12
  go_wp2_with fail
  refine hRe.mono ?_
  rintro r w13 ⟨rfl, hD13, hv13⟩
  clear hRe
  have HB13 : Hid (Below w.heap.size w w13) := Lib.hid (bel_vol HB12.out hv13 geV)
  have D13 : DkP w13 w.heap.size d mb V7 (sQ Q 0) [fl pC g3 v3 [] 0 false] := by
    have h : DkP w13 w.heap.size d mb V7 (sQ Q ((la : Int) - (za.length : Int))) [fl pC g3 v3 [] 0 false] := hD13
    rw [show (la : Int) - (za.length : Int) = 0 by omega] at h
    exact h
  have hU13 := Used_ D13.blk
  have HD13 := Lib.hid D13
  clear D13 hD13 hv13
  go_wp2_with fail
  refine hU13.mono ?_
  rintro r w14 ⟨rfl, hb14⟩
  clear hU13
  go_wp2_with fail
  refine (New_g (-5) 0 0 (by decide) (by decide) _).mono ?_
  rintro r w15 ⟨dn, mn, Vn, rfl, hDn, hb15⟩
  go_wp2_with fail
  refine (New_g 65545 65545 65536 (by decide) (by decide) _).mono ?_
  rintro r w16 ⟨da, ma, Va, rfl, hDa, hb16⟩
  have D16 := ((HD13.out.below hb14).below hb15).below hb16
  obtain ⟨l, hl, hLs⟩ := List_all D16 (by show 1 ≤ 1048576; omega)
  have hl1 : l = [pC.data.toList] := List.perm_singleton.1 hl
  subst hl1
  have HB16 := Lib.hid (((HB13.out.trans (hb14.mono HB13.out.size)).trans (hb15.mono (Nat.le_trans HB13.out.size hb14.size))).trans (hb16.mono (Nat.le_trans HB13.out.size (Nat.le_trans hb14.size hb15.size))))
  have lt7 : Hid (∀ b, V7 b → b < w14.heap.size) := Lib.hid (HD13.out.below hb14).lt
  have HDn := Lib.hid (hDn.below hb16)
  have HDa := Lib.hid hDa
  have hs1415 : w14.heap.size ≤ w15.heap.size := hb15.size
  have HD16 := Lib.hid D16
  clear hl hDn hDa D16 hb14 hb15 hb16
  go_wp2_with fail
  refine hLs.mono ?_
  rintro r w17 ⟨vl, rfl, hb17, hol⟩
  clear hLs
  have hol1 : w17.ownsRow (w16.heap.size + 1) 9 1 vl 1 [.string pC] := hol
  obtain ⟨Al, cl, rfl, -, -⟩ := own_slice hol1
  obtain ⟨ul, rfl⟩ := own_some hol1 (by omega)
  have hSm := fun (x : World) (hx : Below w17.heap.size w17 x) (g : Nat) (c' : Nat) (hg : Blk x g 9 #[.string pC]) => SameS1 (c := cl) (c' := c') (B1 := w16.heap.size + 1) (B2 := 0) (own_keep hol1 hx) hg
  clear hol
  go_wp2_with fail
  refine (hSm _ ((Below.refl _ _).alloc (Nat.le_refl _) _) _ _ (Blk.new _ _ _)).mono ?_
  rintro r w18 ⟨rfl, hb18⟩
  have hb1718 : Below w17.heap.size w17 w18 := ((Below.refl _ _).alloc (Nat.le_refl _) _).trans (hb18.mono (by simp))
  clear hSm hb18
  go_wp2_with fail
  obtain ⟨x18, hx18⟩ : ∃ x18, x18 = w18.alloc (.cells (madeCells #[.int .u8 0] Q) 5) := ⟨_, rfl⟩
  have hbx18 : Below w18.heap.size w18 x18 := by rw [hx18]; exact (Below.refl _ _).alloc (Nat.le_refl _) _
  have rdQ : Reads x18 x18.heap.size 1 (some ⟨w18.heap.size, 0, none⟩) Q (bsV zq) := by rw [hx18]; exact rd3 w18
  have D18 := ((HD16.out.below hb17).below hb1718)
  have hAp := Append_new (D18.below hbx18) (p := pX) (c := Q) (not_of (by rfl)) pX_ne ⟨rfl, rfl⟩ ⟨by show (0 : Int) ≤ Q; omega, by show (Q : Int) ≤ 65536; omega⟩ ⟨by show (0 : Int) ≤ 0; omega, by show (0 : Int) ≤ 65536; omega⟩ rdQ (Nat.le_refl _) (fun ad e => by injection e with e; rw [← e]; exact fun h => absurd (D18.lt _ h) (by show ¬ w18.heap.size < w18.heap.size; omega)) (by show (Q : Int) ≤ (Q : Int) - 0; omega)
  have HX18 := Lib.hid hx18
  have hb16x : Below w16.heap.size w16 x18 := (hb17.trans (hb1718.mono hb17.size)).trans (hbx18.mono (Nat.le_trans hb17.size hb1718.size))
  have HB18 := Lib.hid hb16x
  clear hx18 hbx18 rdQ D18 hb17 hb1718 hb16x hol1
  go_wp2_with fail
  rw [← HX18.out]
  refine hAp.mono ?_
  rintro r w19 ⟨rfl, V9, g9, v9, hD19, hv19, -⟩
  clear hAp
  have hRm : Calls Try.prog 15 #[.pointer (some ⟨d, 0, none⟩)] w19 fun r w' => r = .returned (.int .i64 0) ∧ Below w19.heap.size w19 w' := by
    have h := Room_ hD19.blk ⟨by show (0 : Int) ≤ Q; omega, by show (Q : Int) ≤ 65536; omega⟩ ⟨by show (0 : Int) ≤ 0 + (Q : Int); omega, by show 0 + (Q : Int) ≤ 65536; omega⟩
    rw [show (sQ Q (0 + (Q : Int))).q - (sQ Q (0 + (Q : Int))).u = 0 by show (Q : Int) - (0 + Q) = 0; omega] at h
    exact h
  have Dn19 := (HDn.out.below HB18.out).vol hv19 (fun b h1 h2 => by have := HDn.out.ge b h1; have := lt7.out b h2; omega)
  have Da19 := (HDa.out.below HB18.out).vol hv19 (fun b h1 h2 => by have h3 := HDa.out.ge b h1; have h4 := lt7.out b h2; omega)
  have HB19 : Hid (Below w.heap.size w w19) := Lib.hid (bel_vol (HB16.out.trans (HB18.out.mono HB16.out.size)) hv19 geV)
  have HDn19 := Lib.hid Dn19
  have HDa19 := Lib.hid Da19
  clear hD19 hv19 Dn19 Da19
  go_wp2_with fail
  refine hRm.mono ?_
  rintro r w20 ⟨rfl, hb20⟩
  clear hRm
  have hRn : Calls Try.prog 15 #[.pointer (some ⟨dn, 0, none⟩)] w20 fun r w' => r = .returned (.int .i64 0) ∧ Below w20.heap.size w20 w' := by
    have h := Room_ (HDn19.out.below hb20).blk ⟨by decide, by decide⟩ ⟨by decide, by decide⟩
    exact h
  go_wp2_with fail
  refine hRn.mono ?_
  rintro r w21 ⟨rfl, hb21⟩
  clear hRn
  have hRa : Calls Try.prog 15 #[.pointer (some ⟨da, 0, none⟩)] w21 fun r w' => r = .returned (.int .i64 65536) ∧ Below w21.heap.size w21 w' := by
    have h := Room_ ((HDa19.out.below hb20).below hb21).blk ⟨by decide, by decide⟩ ⟨by decide, by decide⟩
    exact h
  go_wp2_with fail
  refine hRa.mono ?_
  rintro r w22 ⟨rfl, hb22⟩
  clear hRa
  go_wp2_with fail
  refine (wkk w22).mono ?_
  rintro r w23 ⟨rfl, hb23⟩
  go_wp2_with fail
  go_ret
  have z20 : Below w.heap.size w w20 := HB19.out.trans (hb20.mono HB19.out.size)
  have z21 : Below w.heap.size w w21 := z20.trans (hb21.mono z20.size)
  have z22 : Below w.heap.size w w22 := z21.trans (hb22.mono z21.size)
  exact ⟨rfl, z22.trans (hb23.mono z22.size)⟩

end Go.Proofs.Ytplmfmcogbdpjaa.diskRoom
