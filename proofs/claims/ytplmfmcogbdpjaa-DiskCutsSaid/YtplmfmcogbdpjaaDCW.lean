/- The walk of DiskCuts: the Go text returns true, and writes nothing that was there. -/
import Derived.Test.YtplmfmcogbdpjaaDk8
import Derived.Test.YtplmfmcogbdpjaaDk9
import Derived.Test.YtplmfmcogbdpjaaSameByte
import Derived.Test.YtplmfmcogbdpjaaWithin
import Derived.Test.YtplmfmcogbdpjaaAllSum
import Derived.Test.YtplmfmcogbdpjaaRdz
namespace Go.Proofs.Ytplmfmcogbdpjaa.diskCuts
open Go.ChangeShapes Go.WideShapes Go.ChangeAt Go.RowKit
set_option linter.unusedVariables false
open Go Go.RowKit Go.Proofs.Ytplmfmcogbdpjaa.Dk Go.Proofs.Ytplmfmcogbdpjaa.Crw Go.Proofs.Ytplmfmcogbdpjaa.Vl Go.Proofs.Ytplmfmcogbdpjaa
set_option maxRecDepth 100000
theorem wkk (w : World) : Calls Try.prog 23 #[] w fun e w' => e = .returned (.bool true) ∧ Below w.heap.size w w' := wakes_23.2.2.2 w
abbrev pF : ByteArray := ⟨#[102]⟩
theorem pF_ne : pF.toList.isEmpty = false := by decide +kernel
theorem own_notV {w1 : World} {B0 B n c : Nat} {e : TypeId} {A : Option Addr} {xs : List Value} {V : Nat → Prop} (ho : w1.ownsRow B0 e 1 (.slice A n c) n xs) (hle : w1.heap.size ≤ B) (hge : ∀ b, V b → B ≤ b) : ∀ ad, A = some ad → ¬ V ad.block := by
  intro ad e hv
  subst e
  have h1 := (ho.lt ad.block rfl).2
  have h2 := hge _ hv
  omega
theorem own_notV2 {w1 : World} {B0 n c : Nat} {e : TypeId} {A : Option Addr} {xs : List Value} {V : Nat → Prop} (ho : w1.ownsRow B0 e 1 (.slice A n c) n xs) (hlt : ∀ b, V b → b < B0) : ∀ ad, A = some ad → ¬ V ad.block := by
  intro ad e hv
  subst e
  have h1 := (ho.lt ad.block rfl).1
  have h2 := hlt _ hv
  omega
theorem reads_bel {w1 w2 : World} {z n B : Nat} {A : Option Addr} {xs : List Value} (h : Reads w1 B z A n xs) (hB : B ≤ w1.heap.size) (hb : Below w1.heap.size w1 w2) : Reads w2 B z A n xs := reads_vol (U := fun _ => False) h hB (Vol.of_below hb) (fun _ _ h => h)
set_option maxHeartbeats 32000000 in
theorem walk (A0 : Option Addr) (n0 c0 : Nat) (x0 : List Int) (A1 : Option Addr) (n1 c1 : Nat) (x1 : List Int) (a2 : Int) (a3 : Bool) (w : World) (b0 : IntRow .u8 w A0 n0 c0 x0) (b1 : IntRow .u8 w A1 n1 c1 x1) (b2 : -9223372036854775808 ≤ a2 ∧ a2 ≤ 9223372036854775807) :
    Calls Try.prog 4 #[.slice A0 n0 c0, .slice A1 n1 c1, .int .i64 a2, .bool a3] w fun e w' => e = .returned (.bool true) ∧ Below w.heap.size w w' := by
  obtain ⟨h01, h02, h03, h04, -⟩ := b0
  obtain ⟨h11, h12, h13, h14, -⟩ := b1
  have hCa := Cut_i 40 (by omega) A0 n0 c0 _ x0 w h04 h01 (by unfold maxLen at h02; omega)
  have hCb := fun (w1 : World) (hb : Below w.heap.size w w1) => Cut_i 40 (by omega) A1 n1 c1 _ x1 w1 (reads_vol (U := fun _ => False) h14 (Nat.le_refl _) (Vol.of_below hb) (fun _ _ h => h)) h11 (by unfold maxLen at h12; omega)
  have hWi := fun (wz : World) => Within_any a2 100 wz b2.1 b2.2 (by omega) (by omega)
  obtain ⟨a, ha⟩ : ∃ a, a = x0.take 40 := ⟨_, rfl⟩
  obtain ⟨b, hb⟩ : ∃ b, b = x1.take 40 := ⟨_, rfl⟩
  have hla : a.length ≤ 40 := by rw [ha, List.length_take]; omega
  have hlb : b.length ≤ 40 := by rw [hb, List.length_take]; omega
  rw [← ha] at hCa
  rw [← hb] at hCb
  obtain ⟨i0, hi, hz0, hz1, hz2⟩ := info_parts byte_infoD
  clear ha hb h01 h02 h03 h04 h11 h12 h13 h14
  cases a3 with
  | true =>
    go_enter Try.func4, Try.ntmps4
    go_wp2_with fail
    refine hCa.mono ?_
    rintro r w1 ⟨va, rfl, hoa, hb1⟩
    go_wp2_with fail
    refine (hCb w1 hb1).mono ?_
    rintro r w2 ⟨vb, rfl, hob, hb2⟩
    go_wp2_with fail
    refine (New_d 200 (by omega) _).mono ?_
    rintro r w3 ⟨d, mb, V, rfl, hD, hb3⟩
    obtain ⟨Aa, ca, rfl, -, -⟩ := own_slice hoa
    obtain ⟨Ab, cb, rfl, -, -⟩ := own_slice hob
    have hs12 := hb2.size
    have hs23 := hb3.size
    have hAp1 := Append_new hD (p := pF) (c := ca) (fun k x h => by cases h) pF_ne ⟨rfl, rfl⟩ ⟨by decide, by decide⟩ ⟨by decide, by decide⟩ (reads_bel (reads_bel (own_reads hoa) (Nat.le_refl _) hb2) hs12 hb3) (Nat.le_trans hs12 hs23) (own_notV hoa hs12 hD.ge) (by show (a.length : Int) ≤ 200 - 0; omega)
    have HOA := Lib.hid hoa
    have HOB := Lib.hid hob
    have HB1 := Lib.hid hb1
    have HB2 := Lib.hid hb2
    have HB3 := Lib.hid hb3
    have HD := Lib.hid hD
    clear hoa hob hb1 hb2 hb3 hD
    go_wp2_with fail
    refine hAp1.mono ?_
    rintro r w4 ⟨rfl, V4, g, v4, hD4, hv4, hV4⟩
    clear hAp1
    have hge4 : ∀ b, V4 b → w2.heap.size ≤ b := hD4.ge
    have hSy := Sync_yes hD4 (j := 0) rfl rfl pF_ne ⟨rfl, rfl⟩
    clear hCa hCb
    have HD4 := Lib.hid hD4
    clear hD4
    go_wp2_with fail
    refine hSy.mono ?_
    rintro r w5 ⟨rfl, hD5, hv5⟩
    clear hSy
    have hrb : Reads w5 w2.heap.size 1 Ab b.length (bsV b) := reads_vol (reads_vol (reads_bel (own_reads HOB.out) (Nat.le_refl _) HB3.out) hs23 hv4 (own_notV HOB.out (Nat.le_refl _) HD.out.ge)) (Nat.le_trans hs23 hv4.size) hv5 (own_notV HOB.out (Nat.le_refl _) hge4)
    have hAp2 := Append_old hD5 (j := 0) (p := pF) (c := cb) rfl rfl pF_ne ⟨rfl, rfl⟩ ⟨by show (0 : Int) ≤ 200; decide, by show (200 : Int) ≤ 65536; decide⟩ ⟨by show (0 : Int) ≤ 0 + a.length; omega, by show (0 : Int) + a.length ≤ 65536; omega⟩ (by show a.length ≤ 65536; omega) hrb (Nat.le_trans hs23 (Nat.le_trans hv4.size hv5.size)) (own_notV HOB.out (Nat.le_refl _) hge4) (by show (b.length : Int) ≤ 200 - (0 + a.length); omega)
    have HD5 := Lib.hid hD5
    have HRB := Lib.hid hrb
    clear hD5 hrb
    go_wp2_with fail
    refine hAp2.mono ?_
    rintro r w6 ⟨rfl, V6, v6, hD6, hv6, hV6⟩
    clear hAp2
    have HD6 := Lib.hid hD6
    clear hD6
    obtain ⟨all, hall⟩ : ∃ all, all = a ++ b := ⟨_, rfl⟩
    have hLa : all.length = a.length + b.length := by rw [hall, List.length_append]
    have hra6 : Reads w6 w1.heap.size 1 Aa a.length (bsV a) := reads_vol (reads_vol (reads_vol (reads_bel (reads_bel (own_reads HOA.out) (Nat.le_refl _) HB2.out) hs12 HB3.out) (Nat.le_trans hs12 hs23) hv4 (own_notV HOA.out hs12 HD.out.ge)) (Nat.le_trans (Nat.le_trans hs12 hs23) hv4.size) hv5 (own_notV HOA.out hs12 hge4)) (Nat.le_trans (Nat.le_trans (Nat.le_trans hs12 hs23) hv4.size) hv5.size) hv6 (own_notV HOA.out hs12 hge4)
    have hrb6 : Reads w6 w2.heap.size 1 Ab b.length (bsV b) := reads_vol HRB.out (Nat.le_trans (Nat.le_trans hs23 hv4.size) hv5.size) hv6 (own_notV HOB.out (Nat.le_refl _) hge4)
    have hs36 : w3.heap.size ≤ w6.heap.size := Nat.le_trans hv4.size (Nat.le_trans hv5.size hv6.size)
    have hCo := fun (cp : Nat) => Copy_i Aa a.length cp _ a w6 hra6 (by omega)
    have HRA6 := Lib.hid hra6
    have HRB6 := Lib.hid hrb6
    clear hra6 hrb6
    obtain ⟨K, hK, hK1⟩ : ∃ K : Nat, a2 % 100 = (K : Int) ∧ K ≤ 100 := ⟨(a2 % 100).toNat, by omega, by omega⟩
    rw [hK] at hWi
    go_wp2_with fail
    refine (hWi _).mono ?_
    rintro r w7 ⟨rfl, rfl⟩
    clear hWi
    go_wp2_with fail
    refine (hCo _).mono ?_
    rintro r w7 ⟨vc, rfl, hoc, hb7⟩
    clear hCo
    have hrb7 : Reads w7 w2.heap.size 1 Ab b.length (bsV b) := reads_bel HRB6.out (Nat.le_trans hs23 hs36) hb7
    go_upto_region 10 with (at_builtin; refine wpList_append_any _ rfl _ _ 28 rfl w6.heap.size 5 i0 (.int .u8 0) 1 1 Try.underlying28 hi hz0 hz1 hz2 rfl (by decide) vc a.length (bsV a) rfl hoc w2.heap.size Ab b.length cb (bsV b) rfl hrb7 (bsV_one b) (by simp only [maxLen]; omega) (by omega) hb7.size ?_; intro vAll w8 hoAll hg8 hn8; rw [bsV_app, ← hall, ← hLa] at hoAll; obtain ⟨Al, cl, rfl, hcl, -⟩ := own_slice hoAll)
    have hbw3 : Below w.heap.size w w3 := (HB1.out.trans (HB2.out.mono HB1.out.size)).trans (HB3.out.mono (Nat.le_trans HB1.out.size hs12))
    have hbw6 : Below w.heap.size w w6 := bel_vol (bel_vol (bel_vol hbw3 hv4 (fun b e => Nat.le_trans (Nat.le_trans HB1.out.size hs12) (HD.out.ge b e))) hv5 (fun b e => Nat.le_trans (Nat.le_trans HB1.out.size hs12) (hge4 b e))) hv6 (fun b e => Nat.le_trans (Nat.le_trans HB1.out.size hs12) (hge4 b e))
    obtain ⟨n, hnE, hn⟩ : ∃ n : Nat, (a.length : Int) + min (K : Int) (b.length : Int) = (n : Int) ∧ n = a.length + min K b.length := ⟨a.length + min K b.length, by omega, rfl⟩
    rw [hnE]
    have hnl : n ≤ all.length := by omega
    have hall80 : all.length ≤ 80 := by omega
    have hn80 : n ≤ 80 := by omega
    have hb68 : Below w6.heap.size w6 w8 := hb7.grown hg8 hb7.size (fun k hk => (hoc.lt k hk).1)
    have H8 : DkP w8 w2.heap.size d mb V6 ⟨200, (all.length : Nat), false, 0, false⟩ [⟨pF, g, v6, all, (a.length : Int), true⟩] := by
      have h : DkP w8 w2.heap.size d mb V6 ⟨200, (0 : Int) + a.length + b.length, false, 0, false⟩ [⟨pF, g, v6, a ++ b, (a.length : Int), true⟩] := HD6.out.below hb68
      rw [show (0 : Int) + a.length + b.length = (all.length : Int) by omega, ← hall] at h
      exact h
    have hlt8 : ∀ b, V6 b → b < w6.heap.size := HD6.out.lt
    have geV6 : ∀ b, V6 b → w.heap.size ≤ b := fun b e => Nat.le_trans (Nat.le_trans HB1.out.size hs12) (HD6.out.ge b e)
    have hCr := Crash_ H8 (by show 1 ≤ 65536; omega) (by
      intro y hy
      have e : y = ⟨pF, all, (a.length : Int), true⟩ := by simpa using hy
      rw [e]
      exact ⟨by show (0 : Int) ≤ (a.length : Int); omega, by show ((a.length : Int) : Int) ≤ (all.length : Int); omega, by show all.length ≤ 65536; omega⟩) (by
      show (all.length : Int) = ((all.length + 0 : Nat) : Int)
      rfl) (by
      show all.length + 0 ≤ 65536
      omega) K (by omega)
    clear H8
    have hSY : ((a.length : Int) : Int).toNat = a.length := by omega
    have hcr : Sh.cr K ⟨pF, all, (a.length : Int), true⟩ = some ⟨pF, all.take n, n, true⟩ := by
      have e : Sh.n K ⟨pF, all, (a.length : Int), true⟩ = n := by
        show ((a.length : Int) : Int).toNat + min K (all.length - ((a.length : Int) : Int).toNat) = n
        omega
      unfold Sh.cr
      rw [e, if_neg (fun h => Bool.noConfusion (show true = false from h.2))]
    clear hn hnE hall hLa
    go_wp2_with fail
    refine hCr.mono ?_
    rintro r w9 ⟨⟨u9, rfl⟩, F9, hD9, hm9, ht9, hv9⟩
    clear hCr
    have hm9' : F9.map Fi.sh = [⟨pF, all.take n, n, true⟩] := by
      rw [hm9]
      show List.filterMap (Sh.cr K) [⟨pF, all, (a.length : Int), true⟩] = _
      rw [List.filterMap_cons, hcr]
      rfl
    obtain ⟨x9, F0, rfl, hx9, hF0⟩ := List.map_eq_cons_iff.1 hm9'
    have hF0' := List.map_eq_nil_iff.1 hF0
    subst hF0'
    have hx9p : x9.p = pF := congrArg Sh.p hx9
    have hx9b : x9.bs = all.take n := congrArg Sh.bs hx9
    have htn : (all.take n).length = n := by rw [List.length_take]; omega
    have ht9' : total ([x9].map Fi.sh) = n := by rw [hm9', total_cons]; show (all.take n).length + 0 = n; rw [htn]; rfl
    rw [ht9'] at hD9
    have H9 : DkP w9 w2.heap.size d mb V6 ⟨200, (n : Nat), false, 0, false⟩ [x9] := hD9
    have hRd : Calls Try.prog 28 #[.pointer (some ⟨d, 0, none⟩), .string pF] w9 fun r w' => ∃ v', r = .returned (.tuple #[v', .bool true]) ∧ w'.ownsRow w9.heap.size 5 1 v' n (bsV (all.take n)) ∧ Below w9.heap.size w9 w' := by
      have h := Read_yes H9 (j := 0) rfl hx9p (by rw [hx9b, htn]; omega)
      rw [hx9b, htn] at h
      exact h
    have H9' := Lib.hid H9
    have HM9 := Lib.hid hm9'
    clear hm9 ht9 hD9 hm9' hx9 hF0 ht9' hx9p hx9b hcr H9
    go_wp2_with fail
    refine hRd.mono ?_
    rintro r w10 ⟨vx, rfl, hox, hb10⟩
    obtain ⟨Ax, cx, rfl, hcx, -⟩ := own_slice hox
    have hsz89 : w8.heap.size ≤ w9.heap.size := hv9.size
    have hsz910 : w9.heap.size ≤ w10.heap.size := hb10.size
    have hral : Reads w10 w8.heap.size 1 Al n (bsV (all.take n)) := by
      have h := reads_take (own_reads hoAll) (m := n) (by omega)
      rw [show (bsV all).take n = bsV (all.take n) by simp [bsV, List.map_take]] at h
      exact reads_bel (reads_vol h (Nat.le_refl _) hv9 (own_notV2 hoAll hlt8)) hsz89 hb10
    have hSm : Calls Try.prog 29 #[.slice Ax n cx, .slice Al n cl] w10 fun e w' => e = .returned (.bool true) ∧ Below w10.heap.size w10 w' := by
      have h := SameByte_int Ax Al n cx n cl (all.take n) (all.take n) w10.heap.size w8.heap.size w10 (Nat.le_refl _) (Nat.le_trans hsz89 hsz910) (own_reads hox) hral (by omega) (by omega)
      rw [show decide (all.take n = all.take n) = true by simp] at h
      exact h
    have q0 : (0 : Int) ≤ (n : Int) := by omega
    have q1 : (n : Int) ≤ (cl : Int) := by omega
    clear hRd
    go_wp2_with fail
    refine hSm.mono ?_
    rintro r w11 ⟨rfl, hb11⟩
    have H11 := (H9'.out.below hb10).below hb11
    have hUs := Used_ H11.blk
    have H11' := Lib.hid H11
    clear hSm H11
    go_wp2_with fail
    refine hUs.mono ?_
    rintro r w12 ⟨rfl, hb12⟩
    have H12 := H11'.out.below hb12
    have hCr2 := Crash_ H12 (by show 1 ≤ 65536; omega) (by
      rw [HM9.out]
      intro y hy
      have e : y = ⟨pF, all.take n, n, true⟩ := by simpa using hy
      rw [e]
      exact ⟨by show (0 : Int) ≤ (n : Int); omega, by show (n : Int) ≤ ((all.take n).length : Int); rw [htn]; exact Int.le_refl _, by show (all.take n).length ≤ 65536; rw [htn]; omega⟩) (by
      rw [HM9.out, total_cons]
      show (n : Int) = (((all.take n).length + 0 : Nat) : Int)
      rw [htn]
      rfl) (by
      rw [HM9.out, total_cons]
      show (all.take n).length + 0 ≤ 65536
      rw [htn]
      omega) 0 (by omega)
    rw [HM9.out] at hCr2
    have HR : Hid (w10.ownsRow w9.heap.size 5 1 (.slice Ax n cx) n (bsV (all.take n))) := Lib.hid hox
    have hcr2 : Sh.cr 0 ⟨pF, all.take n, n, true⟩ = some ⟨pF, all.take n, n, true⟩ := by
      have e : Sh.n 0 ⟨pF, all.take n, n, true⟩ = n := by
        show (n : Int).toNat + min 0 ((all.take n).length - (n : Int).toNat) = n
        omega
      unfold Sh.cr
      rw [e, if_neg (fun h => Bool.noConfusion (show true = false from h.2))]
      show some (⟨pF, (all.take n).take n, n, true⟩ : Sh) = _
      rw [List.take_of_length_le (Nat.le_of_eq htn)]
    have H12' := Lib.hid H12
    have hbz12 : Below w10.heap.size w10 w12 := hb11.trans (hb12.mono hb11.size)
    clear hUs H12
    go_wp2_with fail
    refine hCr2.mono ?_
    rintro r w13 ⟨⟨u13, rfl⟩, F13, hD13, hm13, ht13, hv13⟩
    clear hCr2
    have hm13' : F13.map Fi.sh = [⟨pF, all.take n, n, true⟩] := by
      rw [hm13, List.filterMap_cons, hcr2]
      rfl
    obtain ⟨x13, F0, rfl, hx13, hF0⟩ := List.map_eq_cons_iff.1 hm13'
    have hF0' := List.map_eq_nil_iff.1 hF0
    subst hF0'
    have hx13p : x13.p = pF := congrArg Sh.p hx13
    have hx13b : x13.bs = all.take n := congrArg Sh.bs hx13
    have hRd : Calls Try.prog 28 #[.pointer (some ⟨d, 0, none⟩), .string pF] w13 fun r w' => ∃ v', r = .returned (.tuple #[v', .bool true]) ∧ w'.ownsRow w13.heap.size 5 1 v' n (bsV (all.take n)) ∧ Below w13.heap.size w13 w' := by
      have h := Read_yes hD13 (j := 0) rfl hx13p (by rw [hx13b, htn]; omega)
      rw [hx13b, htn] at h
      exact h
    have HD13 := Lib.hid hD13
    clear hm13 ht13 hD13 hm13' hx13 hF0 hx13p hx13b hcr2
    go_wp2_with fail
    refine hRd.mono ?_
    rintro r w14 ⟨vy, rfl, hoy, hb14⟩
    obtain ⟨Ay, cy, rfl, hcy, -⟩ := own_slice hoy
    have hlt9 : ∀ b, V6 b → b < w9.heap.size := H9'.out.lt
    have hrx : Reads w14 w10.heap.size 1 Ax n (bsV (all.take n)) := reads_bel (reads_vol (reads_bel (own_reads HR.out) (Nat.le_refl _) hbz12) hbz12.size hv13 (own_notV2 HR.out hlt9)) (Nat.le_trans hbz12.size hv13.size) hb14
    have hSm : Calls Try.prog 29 #[.slice Ax n cx, .slice Ay n cy] w14 fun e w' => e = .returned (.bool true) ∧ Below w14.heap.size w14 w' := by
      have h := SameByte_int Ax Ay n cx n cy (all.take n) (all.take n) w10.heap.size w14.heap.size w14 (Nat.le_trans hbz12.size (Nat.le_trans hv13.size hb14.size)) (Nat.le_refl _) hrx (own_reads hoy) (by omega) (by omega)
      rw [show decide (all.take n = all.take n) = true by simp] at h
      exact h
    clear hRd
    go_wp2_with fail
    refine hSm.mono ?_
    rintro r w15 ⟨rfl, hb15⟩
    have H15 := (HD13.out.below hb14).below hb15
    have hDe := Dead_ H15.blk
    clear hSm H15
    go_wp2_with fail
    refine hDe.mono ?_
    rintro r w16 ⟨rfl, hb16⟩
    go_wp2_with fail
    refine (wkk w16).mono ?_
    rintro r w17 ⟨rfl, hb17⟩
    clear hDe
    go_wp2_with fail
    go_ret
    have hbw8 : Below w.heap.size w w8 := hbw6.trans (hb68.mono hbw6.size)
    have hbw9 : Below w.heap.size w w9 := bel_vol hbw8 hv9 geV6
    have hbw10 : Below w.heap.size w w10 := hbw9.trans (hb10.mono hbw9.size)
    have hbw12 : Below w.heap.size w w12 := hbw10.trans (hbz12.mono hbw10.size)
    have hbw13 : Below w.heap.size w w13 := bel_vol hbw12 hv13 geV6
    have hbw14 : Below w.heap.size w w14 := hbw13.trans (hb14.mono hbw13.size)
    have hbw15 : Below w.heap.size w w15 := hbw14.trans (hb15.mono hbw14.size)
    have hbw16 : Below w.heap.size w w16 := hbw15.trans (hb16.mono hbw15.size)
    exact ⟨rfl, hbw16.trans (hb17.mono hbw16.size)⟩
  | false =>
    go_enter Try.func4, Try.ntmps4
    go_wp2_with fail
    refine hCa.mono ?_
    rintro r w1 ⟨va, rfl, hoa, hb1⟩
    go_wp2_with fail
    refine (hCb w1 hb1).mono ?_
    rintro r w2 ⟨vb, rfl, hob, hb2⟩
    go_wp2_with fail
    refine (New_d 200 (by omega) _).mono ?_
    rintro r w3 ⟨d, mb, V, rfl, hD, hb3⟩
    obtain ⟨Aa, ca, rfl, -, -⟩ := own_slice hoa
    obtain ⟨Ab, cb, rfl, -, -⟩ := own_slice hob
    have hs12 := hb2.size
    have hs23 := hb3.size
    have hAp1 := Append_new hD (p := pF) (c := ca) (fun k x h => by cases h) pF_ne ⟨rfl, rfl⟩ ⟨by decide, by decide⟩ ⟨by decide, by decide⟩ (reads_bel (reads_bel (own_reads hoa) (Nat.le_refl _) hb2) hs12 hb3) (Nat.le_trans hs12 hs23) (own_notV hoa hs12 hD.ge) (by show (a.length : Int) ≤ 200 - 0; omega)
    have HOA := Lib.hid hoa
    have HOB := Lib.hid hob
    have HB1 := Lib.hid hb1
    have HB2 := Lib.hid hb2
    have HB3 := Lib.hid hb3
    have HD := Lib.hid hD
    clear hoa hob hb1 hb2 hb3 hD
    go_wp2_with fail
    refine hAp1.mono ?_
    rintro r w4 ⟨rfl, V4, g, v4, hD4, hv4, hV4⟩
    clear hAp1
    have hge4 : ∀ b, V4 b → w2.heap.size ≤ b := hD4.ge
    clear hCa hCb
    have hrb : Reads w4 w2.heap.size 1 Ab b.length (bsV b) := reads_vol (reads_bel (own_reads HOB.out) (Nat.le_refl _) HB3.out) hs23 hv4 (own_notV HOB.out (Nat.le_refl _) HD.out.ge)
    have hAp2 := Append_old hD4 (j := 0) (p := pF) (c := cb) rfl rfl pF_ne ⟨rfl, rfl⟩ ⟨by show (0 : Int) ≤ 200; decide, by show (200 : Int) ≤ 65536; decide⟩ ⟨by show (0 : Int) ≤ 0 + a.length; omega, by show (0 : Int) + a.length ≤ 65536; omega⟩ (by show a.length ≤ 65536; omega) hrb (Nat.le_trans hs23 hv4.size) (own_notV HOB.out (Nat.le_refl _) hge4) (by show (b.length : Int) ≤ 200 - (0 + a.length); omega)
    have HD4 := Lib.hid hD4
    have HRB := Lib.hid hrb
    clear hD4 hrb
    go_wp2_with fail
    refine hAp2.mono ?_
    rintro r w6 ⟨rfl, V6, v6, hD6, hv6, hV6⟩
    clear hAp2
    have HD6 := Lib.hid hD6
    clear hD6
    obtain ⟨all, hall⟩ : ∃ all, all = a ++ b := ⟨_, rfl⟩
    have hLa : all.length = a.length + b.length := by rw [hall, List.length_append]
    have hra6 : Reads w6 w1.heap.size 1 Aa a.length (bsV a) := reads_vol (reads_vol (reads_bel (reads_bel (own_reads HOA.out) (Nat.le_refl _) HB2.out) hs12 HB3.out) (Nat.le_trans hs12 hs23) hv4 (own_notV HOA.out hs12 HD.out.ge)) (Nat.le_trans (Nat.le_trans hs12 hs23) hv4.size) hv6 (own_notV HOA.out hs12 hge4)
    have hrb6 : Reads w6 w2.heap.size 1 Ab b.length (bsV b) := reads_vol HRB.out (Nat.le_trans hs23 hv4.size) hv6 (own_notV HOB.out (Nat.le_refl _) hge4)
    have hs36 : w3.heap.size ≤ w6.heap.size := Nat.le_trans hv4.size hv6.size
    have hCo := fun (cp : Nat) => Copy_i Aa a.length cp _ a w6 hra6 (by omega)
    have HRA6 := Lib.hid hra6
    have HRB6 := Lib.hid hrb6
    clear hra6 hrb6
    obtain ⟨K, hK, hK1⟩ : ∃ K : Nat, a2 % 100 = (K : Int) ∧ K ≤ 100 := ⟨(a2 % 100).toNat, by omega, by omega⟩
    rw [hK] at hWi
    go_wp2_with fail
    refine (hWi _).mono ?_
    rintro r w7 ⟨rfl, rfl⟩
    clear hWi
    go_wp2_with fail
    refine (hCo _).mono ?_
    rintro r w7 ⟨vc, rfl, hoc, hb7⟩
    clear hCo
    have hrb7 : Reads w7 w2.heap.size 1 Ab b.length (bsV b) := reads_bel HRB6.out (Nat.le_trans hs23 hs36) hb7
    go_upto_region 10 with (at_builtin; refine wpList_append_any _ rfl _ _ 28 rfl w6.heap.size 5 i0 (.int .u8 0) 1 1 Try.underlying28 hi hz0 hz1 hz2 rfl (by decide) vc a.length (bsV a) rfl hoc w2.heap.size Ab b.length cb (bsV b) rfl hrb7 (bsV_one b) (by simp only [maxLen]; omega) (by omega) hb7.size ?_; intro vAll w8 hoAll hg8 hn8; rw [bsV_app, ← hall, ← hLa] at hoAll; obtain ⟨Al, cl, rfl, hcl, -⟩ := own_slice hoAll)
    have hbw3 : Below w.heap.size w w3 := (HB1.out.trans (HB2.out.mono HB1.out.size)).trans (HB3.out.mono (Nat.le_trans HB1.out.size hs12))
    have hbw6 : Below w.heap.size w w6 := bel_vol (bel_vol hbw3 hv4 (fun b e => Nat.le_trans (Nat.le_trans HB1.out.size hs12) (HD.out.ge b e))) hv6 (fun b e => Nat.le_trans (Nat.le_trans HB1.out.size hs12) (hge4 b e))
    obtain ⟨n, hnE, hn⟩ : ∃ n : Nat, min (K : Int) ((a.length : Int) + (b.length : Int)) = (n : Int) ∧ n = min K (a.length + b.length) := ⟨min K (a.length + b.length), by omega, rfl⟩
    rw [hnE]
    have hnl : n ≤ all.length := by omega
    have hall80 : all.length ≤ 80 := by omega
    have hn80 : n ≤ 80 := by omega
    have hb68 : Below w6.heap.size w6 w8 := hb7.grown hg8 hb7.size (fun k hk => (hoc.lt k hk).1)
    have H8 : DkP w8 w2.heap.size d mb V6 ⟨200, (all.length : Nat), false, 0, false⟩ [⟨pF, g, v6, all, (0 : Int), false⟩] := by
      have h : DkP w8 w2.heap.size d mb V6 ⟨200, (0 : Int) + a.length + b.length, false, 0, false⟩ [⟨pF, g, v6, a ++ b, (0 : Int), false⟩] := HD6.out.below hb68
      rw [show (0 : Int) + a.length + b.length = (all.length : Int) by omega, ← hall] at h
      exact h
    have hlt8 : ∀ b, V6 b → b < w6.heap.size := HD6.out.lt
    have geV6 : ∀ b, V6 b → w.heap.size ≤ b := fun b e => Nat.le_trans (Nat.le_trans HB1.out.size hs12) (HD6.out.ge b e)
    have hCr := Crash_ H8 (by show 1 ≤ 65536; omega) (by
      intro y hy
      have e : y = ⟨pF, all, (0 : Int), false⟩ := by simpa using hy
      rw [e]
      exact ⟨by show (0 : Int) ≤ (0 : Int); omega, by show ((0 : Int) : Int) ≤ (all.length : Int); omega, by show all.length ≤ 65536; omega⟩) (by
      show (all.length : Int) = ((all.length + 0 : Nat) : Int)
      rfl) (by
      show all.length + 0 ≤ 65536
      omega) K (by omega)
    clear H8
    by_cases hz : n = 0
    · have hcr : Sh.cr K ⟨pF, all, (0 : Int), false⟩ = none := by
        have e : Sh.n K ⟨pF, all, (0 : Int), false⟩ = n := by
          show (0 : Int).toNat + min K (all.length - (0 : Int).toNat) = n
          omega
        unfold Sh.cr
        rw [e, if_pos ⟨hz, rfl⟩]
      clear hn hnE hall hLa
      subst hz
      go_wp2_with fail
      refine hCr.mono ?_
      rintro r w9 ⟨⟨u9, rfl⟩, F9, hD9, hm9, ht9, hv9⟩
      clear hCr
      have hm9' : F9.map Fi.sh = [] := by
        rw [hm9]
        show List.filterMap (Sh.cr K) [⟨pF, all, (0 : Int), false⟩] = _
        rw [List.filterMap_cons, hcr]
        rfl
      have hF9 := List.map_eq_nil_iff.1 hm9'
      subst hF9
      have H9 : DkP w9 w2.heap.size d mb V6 ⟨200, (0 : Nat), false, 0, false⟩ [] := hD9
      have hRd := Read_no H9 (p := pF) (fun k x h => by cases h)
      have H9' := Lib.hid H9
      clear hm9 ht9 hD9 hm9' hcr H9
      go_wp2_with fail
      refine hRd.mono ?_
      rintro r w10 ⟨rfl, hb10⟩
      have hsz89 : w8.heap.size ≤ w9.heap.size := hv9.size
      have hsz910 : w9.heap.size ≤ w10.heap.size := hb10.size
      have hSm : Calls Try.prog 29 #[.slice none 0 0, .slice Al 0 cl] w10 fun e w' => e = .returned (.bool true) ∧ Below w10.heap.size w10 w' := by
        have h := SameByte_int none Al 0 0 0 cl [] [] w10.heap.size w8.heap.size w10 (Nat.le_refl _) (Nat.le_trans hsz89 hsz910) Reads.none_ ⟨by simp, fun h => absurd h (by omega)⟩ (by omega) (by omega)
        rw [show decide (([] : List Int) = []) = true by simp] at h
        exact h
      have q1 : (0 : Int) ≤ (cl : Int) := by omega
      clear hRd
      go_wp2_with fail
      refine hSm.mono ?_
      rintro r w11 ⟨rfl, hb11⟩
      have H11 := (H9'.out.below hb10).below hb11
      have hUs := Used_ H11.blk
      have H11' := Lib.hid H11
      clear hSm H11
      go_wp2_with fail
      refine hUs.mono ?_
      rintro r w12 ⟨rfl, hb12⟩
      have H12 := H11'.out.below hb12
      have hCr2 := Crash_ H12 (by show 0 ≤ 65536; omega) (fun y hy => by cases hy) rfl (by show 0 ≤ 65536; omega) 0 (by omega)
      have hbz12 : Below w10.heap.size w10 w12 := hb11.trans (hb12.mono hb11.size)
      clear hUs H12
      go_wp2_with fail
      refine hCr2.mono ?_
      rintro r w13 ⟨⟨u13, rfl⟩, F13, hD13, hm13, ht13, hv13⟩
      clear hCr2
      have hF13 : F13 = [] := List.map_eq_nil_iff.1 (hm13.trans rfl)
      subst hF13
      have hRd := Read_no hD13 (p := pF) (fun k x h => by cases h)
      have HD13 := Lib.hid hD13
      clear hm13 ht13 hD13
      go_wp2_with fail
      refine hRd.mono ?_
      rintro r w14 ⟨rfl, hb14⟩
      have hSm : Calls Try.prog 29 #[.slice none 0 0, .slice none 0 0] w14 fun e w' => e = .returned (.bool true) ∧ Below w14.heap.size w14 w' := by
        have h := SameByte_int none none 0 0 0 0 [] [] w14.heap.size w14.heap.size w14 (Nat.le_refl _) (Nat.le_refl _) Reads.none_ Reads.none_ (by omega) (by omega)
        rw [show decide (([] : List Int) = []) = true by simp] at h
        exact h
      clear hRd
      go_wp2_with fail
      refine hSm.mono ?_
      rintro r w15 ⟨rfl, hb15⟩
      have H15 := (HD13.out.below hb14).below hb15
      have hDe := Dead_ H15.blk
      clear hSm H15
      go_wp2_with fail
      refine hDe.mono ?_
      rintro r w16 ⟨rfl, hb16⟩
      go_wp2_with fail
      refine (wkk w16).mono ?_
      rintro r w17 ⟨rfl, hb17⟩
      clear hDe
      go_wp2_with fail
      go_ret
      have hbw8 : Below w.heap.size w w8 := hbw6.trans (hb68.mono hbw6.size)
      have hbw9 : Below w.heap.size w w9 := bel_vol hbw8 hv9 geV6
      have hbw10 : Below w.heap.size w w10 := hbw9.trans (hb10.mono hbw9.size)
      have hbw12 : Below w.heap.size w w12 := hbw10.trans (hbz12.mono hbw10.size)
      have hbw13 : Below w.heap.size w w13 := bel_vol hbw12 hv13 geV6
      have hbw14 : Below w.heap.size w w14 := hbw13.trans (hb14.mono hbw13.size)
      have hbw15 : Below w.heap.size w w15 := hbw14.trans (hb15.mono hbw14.size)
      have hbw16 : Below w.heap.size w w16 := hbw15.trans (hb16.mono hbw15.size)
      exact ⟨rfl, hbw16.trans (hb17.mono hbw16.size)⟩
    · have hSY : ((0 : Int) : Int).toNat = 0 := by omega
      have hcr : Sh.cr K ⟨pF, all, (0 : Int), false⟩ = some ⟨pF, all.take n, n, false⟩ := by
        have e : Sh.n K ⟨pF, all, (0 : Int), false⟩ = n := by
          show ((0 : Int) : Int).toNat + min K (all.length - ((0 : Int) : Int).toNat) = n
          omega
        unfold Sh.cr
        rw [e, if_neg (fun h => hz h.1)]
      clear hn hnE hall hLa
      have hpos : decide ((0 : Int) < (n : Int)) = true := by simp; omega
      go_wp2_with fail
      refine hCr.mono ?_
      rintro r w9 ⟨⟨u9, rfl⟩, F9, hD9, hm9, ht9, hv9⟩
      clear hCr
      have hm9' : F9.map Fi.sh = [⟨pF, all.take n, n, false⟩] := by
        rw [hm9]
        show List.filterMap (Sh.cr K) [⟨pF, all, (0 : Int), false⟩] = _
        rw [List.filterMap_cons, hcr]
        rfl
      obtain ⟨x9, F0, rfl, hx9, hF0⟩ := List.map_eq_cons_iff.1 hm9'
      have hF0' := List.map_eq_nil_iff.1 hF0
      subst hF0'
      have hx9p : x9.p = pF := congrArg Sh.p hx9
      have hx9b : x9.bs = all.take n := congrArg Sh.bs hx9
      have htn : (all.take n).length = n := by rw [List.length_take]; omega
      have ht9' : total ([x9].map Fi.sh) = n := by rw [hm9', total_cons]; show (all.take n).length + 0 = n; rw [htn]; rfl
      rw [ht9'] at hD9
      have H9 : DkP w9 w2.heap.size d mb V6 ⟨200, (n : Nat), false, 0, false⟩ [x9] := hD9
      have hRd : Calls Try.prog 28 #[.pointer (some ⟨d, 0, none⟩), .string pF] w9 fun r w' => ∃ v', r = .returned (.tuple #[v', .bool true]) ∧ w'.ownsRow w9.heap.size 5 1 v' n (bsV (all.take n)) ∧ Below w9.heap.size w9 w' := by
        have h := Read_yes H9 (j := 0) rfl hx9p (by rw [hx9b, htn]; omega)
        rw [hx9b, htn] at h
        exact h
      have H9' := Lib.hid H9
      have HM9 := Lib.hid hm9'
      clear hm9 ht9 hD9 hm9' hx9 hF0 ht9' hx9p hx9b hcr H9
      go_wp2_with fail
      refine hRd.mono ?_
      rintro r w10 ⟨vx, rfl, hox, hb10⟩
      obtain ⟨Ax, cx, rfl, hcx, -⟩ := own_slice hox
      have hsz89 : w8.heap.size ≤ w9.heap.size := hv9.size
      have hsz910 : w9.heap.size ≤ w10.heap.size := hb10.size
      have hral : Reads w10 w8.heap.size 1 Al n (bsV (all.take n)) := by
        have h := reads_take (own_reads hoAll) (m := n) (by omega)
        rw [show (bsV all).take n = bsV (all.take n) by simp [bsV, List.map_take]] at h
        exact reads_bel (reads_vol h (Nat.le_refl _) hv9 (own_notV2 hoAll hlt8)) hsz89 hb10
      have hSm : Calls Try.prog 29 #[.slice Ax n cx, .slice Al n cl] w10 fun e w' => e = .returned (.bool true) ∧ Below w10.heap.size w10 w' := by
        have h := SameByte_int Ax Al n cx n cl (all.take n) (all.take n) w10.heap.size w8.heap.size w10 (Nat.le_refl _) (Nat.le_trans hsz89 hsz910) (own_reads hox) hral (by omega) (by omega)
        rw [show decide (all.take n = all.take n) = true by simp] at h
        exact h
      have q0 : (0 : Int) ≤ (n : Int) := by omega
      have q1 : (n : Int) ≤ (cl : Int) := by omega
      clear hRd
      go_wp2_with fail
      refine hSm.mono ?_
      rintro r w11 ⟨rfl, hb11⟩
      have H11 := (H9'.out.below hb10).below hb11
      have hUs := Used_ H11.blk
      have H11' := Lib.hid H11
      clear hSm H11
      go_wp2_with fail
      refine hUs.mono ?_
      rintro r w12 ⟨rfl, hb12⟩
      have H12 := H11'.out.below hb12
      have hCr2 := Crash_ H12 (by show 1 ≤ 65536; omega) (by
        rw [HM9.out]
        intro y hy
        have e : y = ⟨pF, all.take n, n, false⟩ := by simpa using hy
        rw [e]
        exact ⟨by show (0 : Int) ≤ (n : Int); omega, by show (n : Int) ≤ ((all.take n).length : Int); rw [htn]; exact Int.le_refl _, by show (all.take n).length ≤ 65536; rw [htn]; omega⟩) (by
        rw [HM9.out, total_cons]
        show (n : Int) = (((all.take n).length + 0 : Nat) : Int)
        rw [htn]
        rfl) (by
        rw [HM9.out, total_cons]
        show (all.take n).length + 0 ≤ 65536
        rw [htn]
        omega) 0 (by omega)
      rw [HM9.out] at hCr2
      have HR : Hid (w10.ownsRow w9.heap.size 5 1 (.slice Ax n cx) n (bsV (all.take n))) := Lib.hid hox
      have hcr2 : Sh.cr 0 ⟨pF, all.take n, n, false⟩ = some ⟨pF, all.take n, n, false⟩ := by
        have e : Sh.n 0 ⟨pF, all.take n, n, false⟩ = n := by
          show (n : Int).toNat + min 0 ((all.take n).length - (n : Int).toNat) = n
          omega
        unfold Sh.cr
        rw [e, if_neg (fun h => hz h.1)]
        show some (⟨pF, (all.take n).take n, n, false⟩ : Sh) = _
        rw [List.take_of_length_le (Nat.le_of_eq htn)]
      have H12' := Lib.hid H12
      have hbz12 : Below w10.heap.size w10 w12 := hb11.trans (hb12.mono hb11.size)
      clear hUs H12
      go_wp2_with fail
      refine hCr2.mono ?_
      rintro r w13 ⟨⟨u13, rfl⟩, F13, hD13, hm13, ht13, hv13⟩
      clear hCr2
      have hm13' : F13.map Fi.sh = [⟨pF, all.take n, n, false⟩] := by
        rw [hm13, List.filterMap_cons, hcr2]
        rfl
      obtain ⟨x13, F0, rfl, hx13, hF0⟩ := List.map_eq_cons_iff.1 hm13'
      have hF0' := List.map_eq_nil_iff.1 hF0
      subst hF0'
      have hx13p : x13.p = pF := congrArg Sh.p hx13
      have hx13b : x13.bs = all.take n := congrArg Sh.bs hx13
      have hRd : Calls Try.prog 28 #[.pointer (some ⟨d, 0, none⟩), .string pF] w13 fun r w' => ∃ v', r = .returned (.tuple #[v', .bool true]) ∧ w'.ownsRow w13.heap.size 5 1 v' n (bsV (all.take n)) ∧ Below w13.heap.size w13 w' := by
        have h := Read_yes hD13 (j := 0) rfl hx13p (by rw [hx13b, htn]; omega)
        rw [hx13b, htn] at h
        exact h
      have HD13 := Lib.hid hD13
      clear hm13 ht13 hD13 hm13' hx13 hF0 hx13p hx13b hcr2
      go_wp2_with fail
      refine hRd.mono ?_
      rintro r w14 ⟨vy, rfl, hoy, hb14⟩
      obtain ⟨Ay, cy, rfl, hcy, -⟩ := own_slice hoy
      have hlt9 : ∀ b, V6 b → b < w9.heap.size := H9'.out.lt
      have hrx : Reads w14 w10.heap.size 1 Ax n (bsV (all.take n)) := reads_bel (reads_vol (reads_bel (own_reads HR.out) (Nat.le_refl _) hbz12) hbz12.size hv13 (own_notV2 HR.out hlt9)) (Nat.le_trans hbz12.size hv13.size) hb14
      have hSm : Calls Try.prog 29 #[.slice Ax n cx, .slice Ay n cy] w14 fun e w' => e = .returned (.bool true) ∧ Below w14.heap.size w14 w' := by
        have h := SameByte_int Ax Ay n cx n cy (all.take n) (all.take n) w10.heap.size w14.heap.size w14 (Nat.le_trans hbz12.size (Nat.le_trans hv13.size hb14.size)) (Nat.le_refl _) hrx (own_reads hoy) (by omega) (by omega)
        rw [show decide (all.take n = all.take n) = true by simp] at h
        exact h
      clear hRd
      go_wp2_with fail
      refine hSm.mono ?_
      rintro r w15 ⟨rfl, hb15⟩
      have H15 := (HD13.out.below hb14).below hb15
      have hDe := Dead_ H15.blk
      clear hSm H15
      go_wp2_with fail
      refine hDe.mono ?_
      rintro r w16 ⟨rfl, hb16⟩
      go_wp2_with fail
      refine (wkk w16).mono ?_
      rintro r w17 ⟨rfl, hb17⟩
      clear hDe
      go_wp2_with fail
      go_ret
      have hbw8 : Below w.heap.size w w8 := hbw6.trans (hb68.mono hbw6.size)
      have hbw9 : Below w.heap.size w w9 := bel_vol hbw8 hv9 geV6
      have hbw10 : Below w.heap.size w w10 := hbw9.trans (hb10.mono hbw9.size)
      have hbw12 : Below w.heap.size w w12 := hbw10.trans (hbz12.mono hbw10.size)
      have hbw13 : Below w.heap.size w w13 := bel_vol hbw12 hv13 geV6
      have hbw14 : Below w.heap.size w w14 := hbw13.trans (hb14.mono hbw13.size)
      have hbw15 : Below w.heap.size w w15 := hbw14.trans (hb15.mono hbw14.size)
      have hbw16 : Below w.heap.size w w16 := hbw15.trans (hb16.mono hbw15.size)
      exact ⟨rfl, hbw16.trans (hb17.mono hbw16.size)⟩

end Go.Proofs.Ytplmfmcogbdpjaa.diskCuts
