/- The walk of AtomicWhole: the Go text returns true, and writes nothing that was there. -/
import Derived.Test.YtplmfmcogbdpjaaDkM
import Derived.Test.YtplmfmcogbdpjaaDk9
import Derived.Test.YtplmfmcogbdpjaaSameByte
import Derived.Test.YtplmfmcogbdpjaaWithin
import Derived.Test.YtplmfmcogbdpjaaAllSum
import Derived.Test.YtplmfmcogbdpjaaRdz
namespace Go.Proofs.Ytplmfmcogbdpjaa.atomicWhole
open Go.ChangeShapes Go.WideShapes Go.ChangeAt Go.RowKit
set_option linter.unusedVariables false
open Go Go.RowKit Go.Proofs.Ytplmfmcogbdpjaa.Dk Go.Proofs.Ytplmfmcogbdpjaa.Crw Go.Proofs.Ytplmfmcogbdpjaa.Vl Go.Proofs.Ytplmfmcogbdpjaa
set_option maxRecDepth 100000
theorem wkk (w : World) : Calls Try.prog 44 #[] w fun e w' => e = .returned (.bool true) ∧ Below w.heap.size w w' := wakes_44.2.2.2 w
theorem own_notV {w1 : World} {B0 B n c : Nat} {e : TypeId} {A : Option Addr} {xs : List Value} {V : Nat → Prop} (ho : w1.ownsRow B0 e 1 (.slice A n c) n xs) (hle : w1.heap.size ≤ B) (hge : ∀ b, V b → B ≤ b) : ∀ ad, A = some ad → ¬ V ad.block := by
  intro ad e hv
  subst e
  have h1 := (ho.lt ad.block rfl).2
  have h2 := hge _ hv
  omega
set_option maxHeartbeats 32000000 in
theorem walk (A0 : Option Addr) (n0 c0 : Nat) (x0 : List Int) (A1 : Option Addr) (n1 c1 : Nat) (x1 : List Int) (a2 : Int) (a3 : Int) (a4 : Bool) (w : World) (b0 : IntRow .u8 w A0 n0 c0 x0) (b1 : IntRow .u8 w A1 n1 c1 x1) (b2 : -9223372036854775808 ≤ a2 ∧ a2 ≤ 9223372036854775807) (b3 : -9223372036854775808 ≤ a3 ∧ a3 ≤ 9223372036854775807) :
    Calls Try.prog 9 #[.slice A0 n0 c0, .slice A1 n1 c1, .int .i64 a2, .int .i64 a3, .bool a4] w fun e w' => e = .returned (.bool true) ∧ Below w.heap.size w w' := by
  obtain ⟨h01, h02, h03, h04, -⟩ := b0
  obtain ⟨h11, h12, h13, h14, -⟩ := b1
  have hCa := Cut_i 40 (by omega) A0 n0 c0 _ x0 w h04 h01 (by unfold maxLen at h02; omega)
  have hCb := fun (w1 : World) (hb : Below w.heap.size w w1) => Cut_i 40 (by omega) A1 n1 c1 _ x1 w1 (reads_vol (U := fun _ => False) h14 (Nat.le_refl _) (Vol.of_below hb) (fun _ _ h => h)) h11 (by unfold maxLen at h12; omega)
  obtain ⟨f, hf, hf4⟩ : ∃ f : Nat, a2 % 5 = (f : Int) ∧ f ≤ 4 := ⟨(a2 % 5).toNat, by omega, by omega⟩
  obtain ⟨K, hK, hK1⟩ : ∃ K : Nat, a3 % 60 = (K : Int) ∧ K ≤ 60 := ⟨(a3 % 60).toNat, by omega, by omega⟩
  have hW5 := fun (wz : World) => Within_any a2 5 wz b2.1 b2.2 (by omega) (by omega)
  have hW60 := fun (wz : World) => Within_any a3 60 wz b3.1 b3.2 (by omega) (by omega)
  rw [hf] at hW5
  rw [hK] at hW60
  obtain ⟨a, ha⟩ : ∃ a, a = x0.take 40 := ⟨_, rfl⟩
  obtain ⟨b, hb⟩ : ∃ b, b = x1.take 40 := ⟨_, rfl⟩
  have hla : a.length ≤ 40 := by rw [ha, List.length_take]; omega
  have hlb : b.length ≤ 40 := by rw [hb, List.length_take]; omega
  rw [← ha] at hCa
  rw [← hb] at hCb
  clear ha hb h01 h02 h03 h04 h11 h12 h13 h14 hf hK b2 b3
  cases a4 with
  | true =>
    go_enter Try.func9, Try.ntmps9
    go_wp2_with fail
    refine hCa.mono ?_
    rintro r w1 ⟨va, rfl, hoa, hb1⟩
    go_wp2_with fail
    refine (hCb w1 hb1).mono ?_
    rintro r w2 ⟨vb, rfl, hob, hb2⟩
    clear hCa hCb
    go_wp2_with fail
    refine (New_d 300 (by omega) _).mono ?_
    rintro r w3 ⟨d, mb, V, rfl, hD, hb3⟩
    obtain ⟨Aa, ca, rfl, -, -⟩ := own_slice hoa
    obtain ⟨Ab, cb, rfl, -, -⟩ := own_slice hob
    have hs12 := hb2.size
    have hs23 := hb3.size
    have hra3 : Reads w3 w1.heap.size 1 Aa a.length (bsV a) := reads_bel2 (reads_bel2 (own_reads hoa) (Nat.le_refl _) hb2) hs12 hb3
    have hrb3 : Reads w3 w2.heap.size 1 Ab b.length (bsV b) := reads_bel2 (own_reads hob) (Nat.le_refl _) hb3
    have hw2 : w.heap.size ≤ w2.heap.size := Nat.le_trans hb1.size hs12
    have hbw3 : Below w.heap.size w w3 := (hb1.trans (hb2.mono hb1.size)).trans (hb3.mono hw2)
    have HOA := Lib.hid hoa
    have HOB := Lib.hid hob
    have HRA3 := Lib.hid hra3
    have HRB3 := Lib.hid hrb3
    have HBW3 := Lib.hid hbw3
    clear hoa hob hra3 hrb3 hbw3 hb1 hb2 hb3
    obtain ⟨w4, hw4⟩ : ∃ w4, w4 = w3 := ⟨_, rfl⟩
    have hv4 : Vol V w3 w4 := by rw [hw4]; exact Vol.refl _
    have HV4 := Lib.hid hv4
    obtain ⟨F0, hF0e⟩ : ∃ F0 : List Fi, F0 = [] := ⟨_, rfl⟩
    have D4 : Hid (DkP w4 w2.heap.size d mb V ⟨300, total (F0.map Fi.sh), false, 0, false⟩ F0) := Lib.hid (by rw [hw4, hF0e]; exact hD)
    have hF0 : Hid (F0 = [] ∨ ∃ x : Fi, F0 = [x] ∧ x.sh = ⟨nmF, a, a.length, true⟩) := Lib.hid (.inl hF0e)
    have hY0 : Hid (F0.map Fi.sh = []) := Lib.hid (by rw [hF0e]; rfl)
    have geV : ∀ b, V b → w2.heap.size ≤ b := hD.ge
    rw [← hw4]
    clear hw4
    clear hF0e hD hv4
    have hsz34 : w3.heap.size ≤ w4.heap.size := HV4.out.size
    have hra4 : Hid (Reads w4 w1.heap.size 1 Aa a.length (bsV a)) := Lib.hid (reads_vol HRA3.out (Nat.le_trans hs12 hs23) HV4.out (own_notV HOA.out hs12 geV))
    have hrb4 : Hid (Reads w4 w2.heap.size 1 Ab b.length (bsV b)) := Lib.hid (reads_vol HRB3.out hs23 HV4.out (own_notV HOB.out (Nat.le_refl _) geV))
    have HBW4 : Hid (Below w.heap.size w w4) := Lib.hid (bel_vol HBW3.out HV4.out (fun b e => Nat.le_trans hw2 (geV b e)))
    have hFu := Fuse_ D4.out f (by omega)
    go_wp2_with fail
    refine (hW5 _).mono ?_
    rintro r w5 ⟨rfl, rfl⟩
    clear hW5
    go_wp2_with fail
    refine hFu.mono ?_
    rintro r w5 ⟨⟨u5, rfl⟩, D5, v5⟩
    clear hFu
    have hra5 : Hid (Reads w5 w1.heap.size 1 Aa a.length (bsV a)) := Lib.hid (reads_vol hra4.out (Nat.le_trans hs12 (Nat.le_trans hs23 hsz34)) v5 (own_notV HOA.out hs12 geV))
    have hrb5 : Hid (Reads w5 w2.heap.size 1 Ab b.length (bsV b)) := Lib.hid (reads_vol hrb4.out (Nat.le_trans hs23 hsz34) v5 (own_notV HOB.out (Nat.le_refl _) geV))
    have HBW5 : Hid (Below w.heap.size w w5) := Lib.hid (bel_vol HBW4.out v5 (fun b e => Nat.le_trans hw2 (geV b e)))
    have hsz5 : w2.heap.size ≤ w5.heap.size := Nat.le_trans hs23 (Nat.le_trans hsz34 v5.size)
    have hWf := WriteF (n := b.length) (c := cb) a hla F0 hF0.out f hf4 D5 hrb5.out hsz5 (own_notV HOB.out (Nat.le_refl _) geV) hlb
    clear D5 v5
    go_wp2_with fail
    refine hWf.mono ?_
    rintro r w6 ⟨rfl, V6, F1, T, s1, hWr⟩
    clear hWf
    have geV6 : Hid (∀ b, V6 b → w2.heap.size ≤ b) := Lib.hid hWr.dk.ge
    have hsz6 : w2.heap.size ≤ w6.heap.size := Nat.le_trans hsz5 hWr.vol.size
    have hra6 : Hid (Reads w6 w1.heap.size 1 Aa a.length (bsV a)) := Lib.hid (reads_vol hra5.out (Nat.le_trans hs12 hsz5) hWr.vol (own_notV HOA.out hs12 geV))
    have hrb6 : Hid (Reads w6 w2.heap.size 1 Ab b.length (bsV b)) := Lib.hid (reads_vol hrb5.out hsz5 hWr.vol (own_notV HOB.out (Nat.le_refl _) geV))
    have HBW6 : Hid (Below w.heap.size w w6) := Lib.hid (bel_vol HBW5.out hWr.vol (fun b e => Nat.le_trans hw2 (geV b e)))
    by_cases h3 : 3 ≤ f
    · rw [if_pos h3] at hWr ⊢
      have q3 : decide ((3 : Int) ≤ (f : Int)) = true := by simp; omega
      have q3' : decide (3 ≤ f) = true := by simp; omega
      obtain ⟨o1, o2, o3⟩ := hWr.ok (.inr ⟨b, rfl, hlb⟩)
      have hH6 : DkP w6 w2.heap.size d mb V6 s1 (F1 ++ T) := hWr.dk
      have hCr := Crash_ hH6 (by omega) o2 hWr.u (by omega) K (by omega)
      have hq1 : s1.q = 300 := hWr.q
      have HY1 := Lib.hid hWr.y1
      have HTT := Lib.hid hWr.t
      clear hWr o1 o2 o3 hH6
      go_wp2_with fail
      refine (hW60 _).mono ?_
      rintro r w7 ⟨rfl, rfl⟩
      clear hW60
      go_wp2_with fail
      refine hCr.mono ?_
      rintro r w7 ⟨⟨u7, rfl⟩, F7, D7, m7, t7, v7⟩
      clear hCr
      obtain ⟨G1, G2, hG, hG1, hG2, hG3⟩ := crash_split K (.inr ⟨b, rfl⟩) HY1.out HTT.out m7
      subst hG
      have hG1p : ∀ x ∈ G1, x.p = nmF := by
        intro x hx
        have h1 : x.sh ∈ G1.map Fi.sh := List.mem_map.2 ⟨x, hx, rfl⟩
        rw [hG1] at h1
        have h2 : x.sh = ⟨nmF, b, b.length, true⟩ := by simpa using h1
        exact congrArg Sh.p h2
      have hlen7 : (G1 ++ G2).length ≤ 65536 := by
        have h1 : G1.length ≤ 1 := by
          have h := congrArg List.length hG1
          rw [List.length_map] at h
          rw [h]
          first | exact Nat.zero_le _ | exact Nat.le_refl _
        have h2 : G2.length ≤ 1 := by rcases hG2 with h | ⟨t, h, -⟩ <;> rw [h] <;> simp
        rw [List.length_append]
        omega
      have hCl := Clean_ G1 G2 D7 hG1p hG2 hlen7 ⟨rfl, rfl⟩ hG3 ⟨by show (0 : Int) ≤ (total ((G1 ++ G2).map Fi.sh) : Int); omega, by show (total ((G1 ++ G2).map Fi.sh) : Int) ≤ 65536; omega⟩
      have HBW7 : Hid (Below w.heap.size w w7) := Lib.hid (bel_vol HBW6.out v7 (fun b e => Nat.le_trans hw2 (geV6.out b e)))
      have hra7 : Hid (Reads w7 w1.heap.size 1 Aa a.length (bsV a)) := Lib.hid (reads_vol hra6.out (Nat.le_trans hs12 hsz6) v7 (own_notV HOA.out hs12 geV6.out))
      have hrb7 : Hid (Reads w7 w2.heap.size 1 Ab b.length (bsV b)) := Lib.hid (reads_vol hrb6.out hsz6 v7 (own_notV HOB.out (Nat.le_refl _) geV6.out))
      have hsz7 : w2.heap.size ≤ w7.heap.size := Nat.le_trans hsz6 v7.size
      have HG1 := Lib.hid hG1
      clear D7 m7 t7 v7 hG1p hlen7 hG2 hG3 hG1
      go_wp2_with fail
      refine hCl.mono ?_
      rintro r w8 ⟨rfl, D8, v8⟩
      clear hCl
      have HBW8 : Hid (Below w.heap.size w w8) := Lib.hid (bel_vol HBW7.out v8 (fun b e => Nat.le_trans hw2 (geV6.out b e)))
      have hra8 : Hid (Reads w8 w1.heap.size 1 Aa a.length (bsV a)) := Lib.hid (reads_vol hra7.out (Nat.le_trans hs12 hsz7) v8 (own_notV HOA.out hs12 geV6.out))
      have hrb8 : Hid (Reads w8 w2.heap.size 1 Ab b.length (bsV b)) := Lib.hid (reads_vol hrb7.out hsz7 v8 (own_notV HOB.out (Nat.le_refl _) geV6.out))
      have hsz8 : w2.heap.size ≤ w8.heap.size := Nat.le_trans hsz7 v8.size
      clear v8
      obtain ⟨x8, Gn, rfl, hx8, hGn⟩ := List.map_eq_cons_iff.1 HG1.out
      have hGn' := List.map_eq_nil_iff.1 hGn
      subst hGn'
      have hx8b : x8.bs = b := congrArg Sh.bs hx8
      have hRd : Calls Try.prog 28 #[.pointer (some ⟨d, 0, none⟩), .string nmF] w8 fun r w' => ∃ v', r = .returned (.tuple #[v', .bool true]) ∧ w'.ownsRow w8.heap.size 5 1 v' b.length (bsV b) ∧ Below w8.heap.size w8 w' := by
        have h := Read_yes D8 (j := 0) rfl (congrArg Sh.p hx8) (by rw [hx8b]; omega)
        rw [hx8b] at h
        exact h
      have HD8 := Lib.hid D8
      have HX8 := Lib.hid (congrArg Sh.p hx8)
      clear D8 hx8 hGn hx8b
      go_wp2_with fail
      refine hRd.mono ?_
      rintro r w9 ⟨vx, rfl, hox, hb9⟩
      clear hRd
      obtain ⟨Ax, cx, rfl, -, -⟩ := own_slice hox
      obtain ⟨l, hl, hLs⟩ := List_all (HD8.out.below hb9) (by show 1 ≤ 1048576; omega)
      have hl1 : l.length = 1 := hl.length_eq
      rw [hl1] at hLs
      clear hl hl1
      go_wp2_with fail
      refine hLs.mono ?_
      rintro r w10 ⟨vl, rfl, hb10, hol⟩
      clear hLs
      obtain ⟨Al, cl, rfl, -, -⟩ := own_slice hol
      have hSm : Calls Try.prog 29 #[.slice Ax b.length cx, .slice Ab b.length cb] w10 fun e w' => e = .returned (.bool true) ∧ Below w10.heap.size w10 w' := by
        have h := SameByte_int Ax Ab b.length cx b.length cb b b w9.heap.size w2.heap.size w10 hb10.size (Nat.le_trans (Nat.le_refl _) (Nat.le_trans hsz8 (Nat.le_trans hb9.size hb10.size))) (reads_bel2 (own_reads hox) (Nat.le_refl _) hb10) (reads_bel2 (reads_bel2 hrb8.out (Nat.le_trans (Nat.le_refl _) hsz8) hb9) (Nat.le_trans (Nat.le_refl _) (Nat.le_trans hsz8 hb9.size)) hb10) (by omega) (by omega)
        rw [show decide (b = b) = true by simp] at h
        exact h
      go_wp2_with fail
      refine hSm.mono ?_
      rintro r w11 ⟨rfl, hb11⟩
      clear hSm
      go_wp2_with fail
      refine (wkk w11).mono ?_
      rintro r w12 ⟨rfl, hb12⟩
      go_wp2_with fail
      go_ret
      have z9 : Below w.heap.size w w9 := HBW8.out.trans (hb9.mono HBW8.out.size)
      have z10 : Below w.heap.size w w10 := z9.trans (hb10.mono z9.size)
      have z11 : Below w.heap.size w w11 := z10.trans (hb11.mono z10.size)
      exact ⟨rfl, z11.trans (hb12.mono z11.size)⟩
    · rw [if_neg h3] at hWr ⊢
      rw [hY0.out] at hWr
      have q3 : decide ((3 : Int) ≤ (f : Int)) = false := by simp; omega
      have q3' : decide (3 ≤ f) = false := by simp; omega
      obtain ⟨o1, o2, o3⟩ := hWr.ok (.inl rfl)
      have hH6 : DkP w6 w2.heap.size d mb V6 s1 (F1 ++ T) := hWr.dk
      have hCr := Crash_ hH6 (by omega) o2 hWr.u (by omega) K (by omega)
      have hq1 : s1.q = 300 := hWr.q
      have HY1 := Lib.hid hWr.y1
      have HTT := Lib.hid hWr.t
      clear hWr o1 o2 o3 hH6
      go_wp2_with fail
      refine (hW60 _).mono ?_
      rintro r w7 ⟨rfl, rfl⟩
      clear hW60
      go_wp2_with fail
      refine hCr.mono ?_
      rintro r w7 ⟨⟨u7, rfl⟩, F7, D7, m7, t7, v7⟩
      clear hCr
      obtain ⟨G1, G2, hG, hG1, hG2, hG3⟩ := crash_split K (.inl rfl) HY1.out HTT.out m7
      subst hG
      have hG1p : ∀ x ∈ G1, x.p = nmF := by
        intro x hx
        have h1 : x.sh ∈ G1.map Fi.sh := List.mem_map.2 ⟨x, hx, rfl⟩
        rw [hG1] at h1
        cases h1
      have hlen7 : (G1 ++ G2).length ≤ 65536 := by
        have h1 : G1.length ≤ 1 := by
          have h := congrArg List.length hG1
          rw [List.length_map] at h
          rw [h]
          first | exact Nat.zero_le _ | exact Nat.le_refl _
        have h2 : G2.length ≤ 1 := by rcases hG2 with h | ⟨t, h, -⟩ <;> rw [h] <;> simp
        rw [List.length_append]
        omega
      have hCl := Clean_ G1 G2 D7 hG1p hG2 hlen7 ⟨rfl, rfl⟩ hG3 ⟨by show (0 : Int) ≤ (total ((G1 ++ G2).map Fi.sh) : Int); omega, by show (total ((G1 ++ G2).map Fi.sh) : Int) ≤ 65536; omega⟩
      have HBW7 : Hid (Below w.heap.size w w7) := Lib.hid (bel_vol HBW6.out v7 (fun b e => Nat.le_trans hw2 (geV6.out b e)))
      have hra7 : Hid (Reads w7 w1.heap.size 1 Aa a.length (bsV a)) := Lib.hid (reads_vol hra6.out (Nat.le_trans hs12 hsz6) v7 (own_notV HOA.out hs12 geV6.out))
      have hrb7 : Hid (Reads w7 w2.heap.size 1 Ab b.length (bsV b)) := Lib.hid (reads_vol hrb6.out hsz6 v7 (own_notV HOB.out (Nat.le_refl _) geV6.out))
      have hsz7 : w2.heap.size ≤ w7.heap.size := Nat.le_trans hsz6 v7.size
      have HG1 := Lib.hid hG1
      clear D7 m7 t7 v7 hG1p hlen7 hG2 hG3 hG1
      go_wp2_with fail
      refine hCl.mono ?_
      rintro r w8 ⟨rfl, D8, v8⟩
      clear hCl
      have HBW8 : Hid (Below w.heap.size w w8) := Lib.hid (bel_vol HBW7.out v8 (fun b e => Nat.le_trans hw2 (geV6.out b e)))
      have hra8 : Hid (Reads w8 w1.heap.size 1 Aa a.length (bsV a)) := Lib.hid (reads_vol hra7.out (Nat.le_trans hs12 hsz7) v8 (own_notV HOA.out hs12 geV6.out))
      have hrb8 : Hid (Reads w8 w2.heap.size 1 Ab b.length (bsV b)) := Lib.hid (reads_vol hrb7.out hsz7 v8 (own_notV HOB.out (Nat.le_refl _) geV6.out))
      have hsz8 : w2.heap.size ≤ w8.heap.size := Nat.le_trans hsz7 v8.size
      clear v8
      have hGe := List.map_eq_nil_iff.1 HG1.out
      subst hGe
      have hRd := Read_no D8 (p := nmF) (fun k x h => by cases h)
      have HD8 := Lib.hid D8
      clear D8
      go_wp2_with fail
      refine hRd.mono ?_
      rintro r w9 ⟨rfl, hb9⟩
      clear hRd
      obtain ⟨l, hl, hLs⟩ := List_all (HD8.out.below hb9) (by show 0 ≤ 1048576; omega)
      have hl1 : l = [] := List.perm_nil.1 hl
      subst hl1
      clear hl
      go_wp2_with fail
      refine hLs.mono ?_
      rintro r w10 ⟨vl, rfl, hb10, hol⟩
      clear hLs
      obtain ⟨Al, cl, rfl, -, -⟩ := own_slice hol
      go_wp2_with fail
      refine (wkk w10).mono ?_
      rintro r w11 ⟨rfl, hb11⟩
      go_wp2_with fail
      go_ret
      have z9 : Below w.heap.size w w9 := HBW8.out.trans (hb9.mono HBW8.out.size)
      have z10 : Below w.heap.size w w10 := z9.trans (hb10.mono z9.size)
      exact ⟨rfl, z10.trans (hb11.mono z10.size)⟩
  | false =>
    go_enter Try.func9, Try.ntmps9
    go_wp2_with fail
    refine hCa.mono ?_
    rintro r w1 ⟨va, rfl, hoa, hb1⟩
    go_wp2_with fail
    refine (hCb w1 hb1).mono ?_
    rintro r w2 ⟨vb, rfl, hob, hb2⟩
    clear hCa hCb
    go_wp2_with fail
    refine (New_d 300 (by omega) _).mono ?_
    rintro r w3 ⟨d, mb, V, rfl, hD, hb3⟩
    obtain ⟨Aa, ca, rfl, -, -⟩ := own_slice hoa
    obtain ⟨Ab, cb, rfl, -, -⟩ := own_slice hob
    have hs12 := hb2.size
    have hs23 := hb3.size
    have hra3 : Reads w3 w1.heap.size 1 Aa a.length (bsV a) := reads_bel2 (reads_bel2 (own_reads hoa) (Nat.le_refl _) hb2) hs12 hb3
    have hrb3 : Reads w3 w2.heap.size 1 Ab b.length (bsV b) := reads_bel2 (own_reads hob) (Nat.le_refl _) hb3
    have hw2 : w.heap.size ≤ w2.heap.size := Nat.le_trans hb1.size hs12
    have hbw3 : Below w.heap.size w w3 := (hb1.trans (hb2.mono hb1.size)).trans (hb3.mono hw2)
    have HOA := Lib.hid hoa
    have HOB := Lib.hid hob
    have HRA3 := Lib.hid hra3
    have HRB3 := Lib.hid hrb3
    have HBW3 := Lib.hid hbw3
    clear hoa hob hra3 hrb3 hbw3 hb1 hb2 hb3
    have hWr := Write_ok hD (s1 := ⟨300, 0, false, 0, false⟩) (s2 := ⟨300, (0 : Int) + a.length, false, 0, false⟩) (s3 := ⟨300, (0 : Int) + a.length, false, 0, false⟩) (n := a.length) (t := 0) (c := ca) (fun k x h => by cases h) rfl (.inl ⟨rfl, rfl, rfl⟩) rfl rfl (.inl ⟨rfl, rfl, rfl⟩) rfl (.inl ⟨rfl, rfl, rfl⟩) ⟨by show (0 : Int) ≤ 300; decide, by show (300 : Int) ≤ 65536; decide⟩ ⟨by show (0 : Int) ≤ 0; omega, by show (0 : Int) ≤ 65536; omega⟩ HRA3.out (Nat.le_trans hs12 hs23) (own_notV HOA.out hs12 hD.ge) (by show (a.length : Int) ≤ 300 - 0; omega) (by
      intro wa V' g v hwa
      refine (remove_no hwa (p := nmF) (no_of (by
        intro x hx
        have : x = ⟨nmT, g, v, a, a.length, true⟩ := by simpa using hx
        rw [this]
        rfl))).mono ?_
      rintro r w' ⟨hu, hb⟩
      refine ⟨hu, ⟨?_, Vol.of_below hb, no_of (by
        intro x hx
        have : x = ⟨nmT, g, v, a, a.length, true⟩ := by simpa using hx
        rw [this]
        rfl)⟩⟩
      have h := hwa.below hb
      rw [show (0 : Int) + a.length = (0 : Int) + a.length - ((0 : Nat) : Int) by simp] at h
      exact h)
    have HD := Lib.hid hD
    clear hD
    go_wp2_with fail
    refine hWr.mono ?_
    rintro r w4 ⟨rfl, V4, g, v4, hD4, hv4, -⟩
    clear hWr
    have HV4 := Lib.hid hv4
    obtain ⟨F0, hF0e⟩ : ∃ F0 : List Fi, F0 = [⟨nmF, g, v4, a, a.length, true⟩] := ⟨_, rfl⟩
    have D4 : Hid (DkP w4 w2.heap.size d mb V4 ⟨300, total (F0.map Fi.sh), false, 0, false⟩ F0) := Lib.hid (by
      have h : DkP w4 w2.heap.size d mb V4 ⟨300, (0 : Int) + a.length - ((0 : Nat) : Int), false, 0, false⟩ [⟨nmF, g, v4, a, a.length, true⟩] := hD4
      rw [hF0e]
      rw [show (0 : Int) + a.length - ((0 : Nat) : Int) = (total ([(⟨nmF, g, v4, a, a.length, true⟩ : Fi)].map Fi.sh) : Int) by simp [total]] at h
      exact h)
    have hF0 : Hid (F0 = [] ∨ ∃ x : Fi, F0 = [x] ∧ x.sh = ⟨nmF, a, a.length, true⟩) := Lib.hid (.inr ⟨_, hF0e, rfl⟩)
    have hY0 : Hid (F0.map Fi.sh = [⟨nmF, a, a.length, true⟩]) := Lib.hid (by rw [hF0e]; rfl)
    have geV0 : ∀ b, V b → w2.heap.size ≤ b := HD.out.ge
    have geV : ∀ b, V4 b → w2.heap.size ≤ b := D4.out.ge
    clear hF0e hD4 hv4
    have hsz34 : w3.heap.size ≤ w4.heap.size := HV4.out.size
    have hra4 : Hid (Reads w4 w1.heap.size 1 Aa a.length (bsV a)) := Lib.hid (reads_vol HRA3.out (Nat.le_trans hs12 hs23) HV4.out (own_notV HOA.out hs12 geV0))
    have hrb4 : Hid (Reads w4 w2.heap.size 1 Ab b.length (bsV b)) := Lib.hid (reads_vol HRB3.out hs23 HV4.out (own_notV HOB.out (Nat.le_refl _) geV0))
    have HBW4 : Hid (Below w.heap.size w w4) := Lib.hid (bel_vol HBW3.out HV4.out (fun b e => Nat.le_trans hw2 (geV0 b e)))
    have hFu := Fuse_ D4.out f (by omega)
    go_wp2_with fail
    refine (hW5 _).mono ?_
    rintro r w5 ⟨rfl, rfl⟩
    clear hW5
    go_wp2_with fail
    refine hFu.mono ?_
    rintro r w5 ⟨⟨u5, rfl⟩, D5, v5⟩
    clear hFu
    have hra5 : Hid (Reads w5 w1.heap.size 1 Aa a.length (bsV a)) := Lib.hid (reads_vol hra4.out (Nat.le_trans hs12 (Nat.le_trans hs23 hsz34)) v5 (own_notV HOA.out hs12 geV))
    have hrb5 : Hid (Reads w5 w2.heap.size 1 Ab b.length (bsV b)) := Lib.hid (reads_vol hrb4.out (Nat.le_trans hs23 hsz34) v5 (own_notV HOB.out (Nat.le_refl _) geV))
    have HBW5 : Hid (Below w.heap.size w w5) := Lib.hid (bel_vol HBW4.out v5 (fun b e => Nat.le_trans hw2 (geV b e)))
    have hsz5 : w2.heap.size ≤ w5.heap.size := Nat.le_trans hs23 (Nat.le_trans hsz34 v5.size)
    have hWf := WriteF (n := b.length) (c := cb) a hla F0 hF0.out f hf4 D5 hrb5.out hsz5 (own_notV HOB.out (Nat.le_refl _) geV) hlb
    clear D5 v5
    go_wp2_with fail
    refine hWf.mono ?_
    rintro r w6 ⟨rfl, V6, F1, T, s1, hWr⟩
    clear hWf
    have geV6 : Hid (∀ b, V6 b → w2.heap.size ≤ b) := Lib.hid hWr.dk.ge
    have hsz6 : w2.heap.size ≤ w6.heap.size := Nat.le_trans hsz5 hWr.vol.size
    have hra6 : Hid (Reads w6 w1.heap.size 1 Aa a.length (bsV a)) := Lib.hid (reads_vol hra5.out (Nat.le_trans hs12 hsz5) hWr.vol (own_notV HOA.out hs12 geV))
    have hrb6 : Hid (Reads w6 w2.heap.size 1 Ab b.length (bsV b)) := Lib.hid (reads_vol hrb5.out hsz5 hWr.vol (own_notV HOB.out (Nat.le_refl _) geV))
    have HBW6 : Hid (Below w.heap.size w w6) := Lib.hid (bel_vol HBW5.out hWr.vol (fun b e => Nat.le_trans hw2 (geV b e)))
    by_cases h3 : 3 ≤ f
    · rw [if_pos h3] at hWr ⊢
      have q3 : decide ((3 : Int) ≤ (f : Int)) = true := by simp; omega
      have q3' : decide (3 ≤ f) = true := by simp; omega
      obtain ⟨o1, o2, o3⟩ := hWr.ok (.inr ⟨b, rfl, hlb⟩)
      have hH6 : DkP w6 w2.heap.size d mb V6 s1 (F1 ++ T) := hWr.dk
      have hCr := Crash_ hH6 (by omega) o2 hWr.u (by omega) K (by omega)
      have hq1 : s1.q = 300 := hWr.q
      have HY1 := Lib.hid hWr.y1
      have HTT := Lib.hid hWr.t
      clear hWr o1 o2 o3 hH6
      go_wp2_with fail
      refine (hW60 _).mono ?_
      rintro r w7 ⟨rfl, rfl⟩
      clear hW60
      go_wp2_with fail
      refine hCr.mono ?_
      rintro r w7 ⟨⟨u7, rfl⟩, F7, D7, m7, t7, v7⟩
      clear hCr
      obtain ⟨G1, G2, hG, hG1, hG2, hG3⟩ := crash_split K (.inr ⟨b, rfl⟩) HY1.out HTT.out m7
      subst hG
      have hG1p : ∀ x ∈ G1, x.p = nmF := by
        intro x hx
        have h1 : x.sh ∈ G1.map Fi.sh := List.mem_map.2 ⟨x, hx, rfl⟩
        rw [hG1] at h1
        have h2 : x.sh = ⟨nmF, b, b.length, true⟩ := by simpa using h1
        exact congrArg Sh.p h2
      have hlen7 : (G1 ++ G2).length ≤ 65536 := by
        have h1 : G1.length ≤ 1 := by
          have h := congrArg List.length hG1
          rw [List.length_map] at h
          rw [h]
          first | exact Nat.zero_le _ | exact Nat.le_refl _
        have h2 : G2.length ≤ 1 := by rcases hG2 with h | ⟨t, h, -⟩ <;> rw [h] <;> simp
        rw [List.length_append]
        omega
      have hCl := Clean_ G1 G2 D7 hG1p hG2 hlen7 ⟨rfl, rfl⟩ hG3 ⟨by show (0 : Int) ≤ (total ((G1 ++ G2).map Fi.sh) : Int); omega, by show (total ((G1 ++ G2).map Fi.sh) : Int) ≤ 65536; omega⟩
      have HBW7 : Hid (Below w.heap.size w w7) := Lib.hid (bel_vol HBW6.out v7 (fun b e => Nat.le_trans hw2 (geV6.out b e)))
      have hra7 : Hid (Reads w7 w1.heap.size 1 Aa a.length (bsV a)) := Lib.hid (reads_vol hra6.out (Nat.le_trans hs12 hsz6) v7 (own_notV HOA.out hs12 geV6.out))
      have hrb7 : Hid (Reads w7 w2.heap.size 1 Ab b.length (bsV b)) := Lib.hid (reads_vol hrb6.out hsz6 v7 (own_notV HOB.out (Nat.le_refl _) geV6.out))
      have hsz7 : w2.heap.size ≤ w7.heap.size := Nat.le_trans hsz6 v7.size
      have HG1 := Lib.hid hG1
      clear D7 m7 t7 v7 hG1p hlen7 hG2 hG3 hG1
      go_wp2_with fail
      refine hCl.mono ?_
      rintro r w8 ⟨rfl, D8, v8⟩
      clear hCl
      have HBW8 : Hid (Below w.heap.size w w8) := Lib.hid (bel_vol HBW7.out v8 (fun b e => Nat.le_trans hw2 (geV6.out b e)))
      have hra8 : Hid (Reads w8 w1.heap.size 1 Aa a.length (bsV a)) := Lib.hid (reads_vol hra7.out (Nat.le_trans hs12 hsz7) v8 (own_notV HOA.out hs12 geV6.out))
      have hrb8 : Hid (Reads w8 w2.heap.size 1 Ab b.length (bsV b)) := Lib.hid (reads_vol hrb7.out hsz7 v8 (own_notV HOB.out (Nat.le_refl _) geV6.out))
      have hsz8 : w2.heap.size ≤ w8.heap.size := Nat.le_trans hsz7 v8.size
      clear v8
      obtain ⟨x8, Gn, rfl, hx8, hGn⟩ := List.map_eq_cons_iff.1 HG1.out
      have hGn' := List.map_eq_nil_iff.1 hGn
      subst hGn'
      have hx8b : x8.bs = b := congrArg Sh.bs hx8
      have hRd : Calls Try.prog 28 #[.pointer (some ⟨d, 0, none⟩), .string nmF] w8 fun r w' => ∃ v', r = .returned (.tuple #[v', .bool true]) ∧ w'.ownsRow w8.heap.size 5 1 v' b.length (bsV b) ∧ Below w8.heap.size w8 w' := by
        have h := Read_yes D8 (j := 0) rfl (congrArg Sh.p hx8) (by rw [hx8b]; omega)
        rw [hx8b] at h
        exact h
      have HD8 := Lib.hid D8
      have HX8 := Lib.hid (congrArg Sh.p hx8)
      clear D8 hx8 hGn hx8b
      go_wp2_with fail
      refine hRd.mono ?_
      rintro r w9 ⟨vx, rfl, hox, hb9⟩
      clear hRd
      obtain ⟨Ax, cx, rfl, -, -⟩ := own_slice hox
      obtain ⟨l, hl, hLs⟩ := List_all (HD8.out.below hb9) (by show 1 ≤ 1048576; omega)
      have hl1 : l.length = 1 := hl.length_eq
      rw [hl1] at hLs
      clear hl hl1
      go_wp2_with fail
      refine hLs.mono ?_
      rintro r w10 ⟨vl, rfl, hb10, hol⟩
      clear hLs
      obtain ⟨Al, cl, rfl, -, -⟩ := own_slice hol
      have hSm : Calls Try.prog 29 #[.slice Ax b.length cx, .slice Ab b.length cb] w10 fun e w' => e = .returned (.bool true) ∧ Below w10.heap.size w10 w' := by
        have h := SameByte_int Ax Ab b.length cx b.length cb b b w9.heap.size w2.heap.size w10 hb10.size (Nat.le_trans (Nat.le_refl _) (Nat.le_trans hsz8 (Nat.le_trans hb9.size hb10.size))) (reads_bel2 (own_reads hox) (Nat.le_refl _) hb10) (reads_bel2 (reads_bel2 hrb8.out (Nat.le_trans (Nat.le_refl _) hsz8) hb9) (Nat.le_trans (Nat.le_refl _) (Nat.le_trans hsz8 hb9.size)) hb10) (by omega) (by omega)
        rw [show decide (b = b) = true by simp] at h
        exact h
      go_wp2_with fail
      refine hSm.mono ?_
      rintro r w11 ⟨rfl, hb11⟩
      clear hSm
      go_wp2_with fail
      refine (wkk w11).mono ?_
      rintro r w12 ⟨rfl, hb12⟩
      go_wp2_with fail
      go_ret
      have z9 : Below w.heap.size w w9 := HBW8.out.trans (hb9.mono HBW8.out.size)
      have z10 : Below w.heap.size w w10 := z9.trans (hb10.mono z9.size)
      have z11 : Below w.heap.size w w11 := z10.trans (hb11.mono z10.size)
      exact ⟨rfl, z11.trans (hb12.mono z11.size)⟩
    · rw [if_neg h3] at hWr ⊢
      rw [hY0.out] at hWr
      have q3 : decide ((3 : Int) ≤ (f : Int)) = false := by simp; omega
      have q3' : decide (3 ≤ f) = false := by simp; omega
      obtain ⟨o1, o2, o3⟩ := hWr.ok (.inr ⟨a, rfl, hla⟩)
      have hH6 : DkP w6 w2.heap.size d mb V6 s1 (F1 ++ T) := hWr.dk
      have hCr := Crash_ hH6 (by omega) o2 hWr.u (by omega) K (by omega)
      have hq1 : s1.q = 300 := hWr.q
      have HY1 := Lib.hid hWr.y1
      have HTT := Lib.hid hWr.t
      clear hWr o1 o2 o3 hH6
      go_wp2_with fail
      refine (hW60 _).mono ?_
      rintro r w7 ⟨rfl, rfl⟩
      clear hW60
      go_wp2_with fail
      refine hCr.mono ?_
      rintro r w7 ⟨⟨u7, rfl⟩, F7, D7, m7, t7, v7⟩
      clear hCr
      obtain ⟨G1, G2, hG, hG1, hG2, hG3⟩ := crash_split K (.inr ⟨a, rfl⟩) HY1.out HTT.out m7
      subst hG
      have hG1p : ∀ x ∈ G1, x.p = nmF := by
        intro x hx
        have h1 : x.sh ∈ G1.map Fi.sh := List.mem_map.2 ⟨x, hx, rfl⟩
        rw [hG1] at h1
        have h2 : x.sh = ⟨nmF, a, a.length, true⟩ := by simpa using h1
        exact congrArg Sh.p h2
      have hlen7 : (G1 ++ G2).length ≤ 65536 := by
        have h1 : G1.length ≤ 1 := by
          have h := congrArg List.length hG1
          rw [List.length_map] at h
          rw [h]
          first | exact Nat.zero_le _ | exact Nat.le_refl _
        have h2 : G2.length ≤ 1 := by rcases hG2 with h | ⟨t, h, -⟩ <;> rw [h] <;> simp
        rw [List.length_append]
        omega
      have hCl := Clean_ G1 G2 D7 hG1p hG2 hlen7 ⟨rfl, rfl⟩ hG3 ⟨by show (0 : Int) ≤ (total ((G1 ++ G2).map Fi.sh) : Int); omega, by show (total ((G1 ++ G2).map Fi.sh) : Int) ≤ 65536; omega⟩
      have HBW7 : Hid (Below w.heap.size w w7) := Lib.hid (bel_vol HBW6.out v7 (fun b e => Nat.le_trans hw2 (geV6.out b e)))
      have hra7 : Hid (Reads w7 w1.heap.size 1 Aa a.length (bsV a)) := Lib.hid (reads_vol hra6.out (Nat.le_trans hs12 hsz6) v7 (own_notV HOA.out hs12 geV6.out))
      have hrb7 : Hid (Reads w7 w2.heap.size 1 Ab b.length (bsV b)) := Lib.hid (reads_vol hrb6.out hsz6 v7 (own_notV HOB.out (Nat.le_refl _) geV6.out))
      have hsz7 : w2.heap.size ≤ w7.heap.size := Nat.le_trans hsz6 v7.size
      have HG1 := Lib.hid hG1
      clear D7 m7 t7 v7 hG1p hlen7 hG2 hG3 hG1
      go_wp2_with fail
      refine hCl.mono ?_
      rintro r w8 ⟨rfl, D8, v8⟩
      clear hCl
      have HBW8 : Hid (Below w.heap.size w w8) := Lib.hid (bel_vol HBW7.out v8 (fun b e => Nat.le_trans hw2 (geV6.out b e)))
      have hra8 : Hid (Reads w8 w1.heap.size 1 Aa a.length (bsV a)) := Lib.hid (reads_vol hra7.out (Nat.le_trans hs12 hsz7) v8 (own_notV HOA.out hs12 geV6.out))
      have hrb8 : Hid (Reads w8 w2.heap.size 1 Ab b.length (bsV b)) := Lib.hid (reads_vol hrb7.out hsz7 v8 (own_notV HOB.out (Nat.le_refl _) geV6.out))
      have hsz8 : w2.heap.size ≤ w8.heap.size := Nat.le_trans hsz7 v8.size
      clear v8
      obtain ⟨x8, Gn, rfl, hx8, hGn⟩ := List.map_eq_cons_iff.1 HG1.out
      have hGn' := List.map_eq_nil_iff.1 hGn
      subst hGn'
      have hx8b : x8.bs = a := congrArg Sh.bs hx8
      have hRd : Calls Try.prog 28 #[.pointer (some ⟨d, 0, none⟩), .string nmF] w8 fun r w' => ∃ v', r = .returned (.tuple #[v', .bool true]) ∧ w'.ownsRow w8.heap.size 5 1 v' a.length (bsV a) ∧ Below w8.heap.size w8 w' := by
        have h := Read_yes D8 (j := 0) rfl (congrArg Sh.p hx8) (by rw [hx8b]; omega)
        rw [hx8b] at h
        exact h
      have HD8 := Lib.hid D8
      have HX8 := Lib.hid (congrArg Sh.p hx8)
      clear D8 hx8 hGn hx8b
      go_wp2_with fail
      refine hRd.mono ?_
      rintro r w9 ⟨vx, rfl, hox, hb9⟩
      clear hRd
      obtain ⟨Ax, cx, rfl, -, -⟩ := own_slice hox
      obtain ⟨l, hl, hLs⟩ := List_all (HD8.out.below hb9) (by show 1 ≤ 1048576; omega)
      have hl1 : l.length = 1 := hl.length_eq
      rw [hl1] at hLs
      clear hl hl1
      go_wp2_with fail
      refine hLs.mono ?_
      rintro r w10 ⟨vl, rfl, hb10, hol⟩
      clear hLs
      obtain ⟨Al, cl, rfl, -, -⟩ := own_slice hol
      have hSm : Calls Try.prog 29 #[.slice Ax a.length cx, .slice Aa a.length ca] w10 fun e w' => e = .returned (.bool true) ∧ Below w10.heap.size w10 w' := by
        have h := SameByte_int Ax Aa a.length cx a.length ca a a w9.heap.size w1.heap.size w10 hb10.size (Nat.le_trans (hs12) (Nat.le_trans hsz8 (Nat.le_trans hb9.size hb10.size))) (reads_bel2 (own_reads hox) (Nat.le_refl _) hb10) (reads_bel2 (reads_bel2 hra8.out (Nat.le_trans (hs12) hsz8) hb9) (Nat.le_trans (hs12) (Nat.le_trans hsz8 hb9.size)) hb10) (by omega) (by omega)
        rw [show decide (a = a) = true by simp] at h
        exact h
      go_wp2_with fail
      refine hSm.mono ?_
      rintro r w11 ⟨rfl, hb11⟩
      clear hSm
      go_wp2_with fail
      refine (wkk w11).mono ?_
      rintro r w12 ⟨rfl, hb12⟩
      go_wp2_with fail
      go_ret
      have z9 : Below w.heap.size w w9 := HBW8.out.trans (hb9.mono HBW8.out.size)
      have z10 : Below w.heap.size w w10 := z9.trans (hb10.mono z9.size)
      have z11 : Below w.heap.size w w11 := z10.trans (hb11.mono z10.size)
      exact ⟨rfl, z11.trans (hb12.mono z11.size)⟩

end Go.Proofs.Ytplmfmcogbdpjaa.atomicWhole
