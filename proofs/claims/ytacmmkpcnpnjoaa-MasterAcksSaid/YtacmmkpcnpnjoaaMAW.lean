/- The walk of MasterAcks: the Go text returns true, and writes nothing that was there. -/
import Derived.Test.YtacmmkpcnpnjoaaMas8
import Derived.Test.YtacmmkpcnpnjoaaAllSum
import Derived.Deep.CutRange
import Derived.Deep.RegionHeld3
import Derived.Deep.DeepCutAuto
import Derived.Deep.CutBlock
import Derived.Lib.Builder
import Derived.Deep.RegionLaw
import Derived.IntWalk
namespace Go.Proofs.Ytacmmkpcnpnjoaa.masterAcks
open Go.ChangeShapes Go.WideShapes Go.ChangeAt Go.RowKit
set_option linter.unusedVariables false
set_option maxRecDepth 100000
open Go.Proofs.Ytacmmkpcnpnjoaa.Mas Go.Proofs.Ytacmmkpcnpnjoaa.Crw
theorem wkk (w : World) : Calls Try.prog 19 #[] w fun e w' => e = .returned (.bool true) ∧ Below w.heap.size w w' := wakes_19.2.2.2 w
abbrev F : ByteArray := ⟨#[102]⟩
/-- The master of one task, the law's own list, the key's box. -/
structure MaI (w wr : World) (m mb gk : Nat) (V : Nat → Prop) (R : List Tk) (T : ByteArray) (vw : Value) (ns nw : List Int) : Prop where
  ms : MsP wr w.heap.size m mb V R
  one : OneR F T ns R
  key : Blk wr gk 28 #[.string F, .string T]
  kv : ¬ V gk
  row : wr.ownsRow w.heap.size 3 1 vw nw.length (ints nw)
  rv : ∀ b, vw.ownBlock = some b → ¬ V b
  bel : Below w.heap.size w wr
theorem MaI.below {w wr w2 : World} {m mb gk : Nat} {V : Nat → Prop} {R : List Tk} {T : ByteArray} {vw : Value} {ns nw : List Int} (h : MaI w wr m mb gk V R T vw ns nw) (hb : Below wr.heap.size wr w2) : MaI w w2 m mb gk V R T vw ns nw :=
  ⟨h.ms.below hb, h.one, h.key.below hb h.key.lt, h.kv, own_keep h.row hb, h.rv, h.bel.trans (hb.mono h.bel.size)⟩
theorem MaI.app {w wr w7 : World} {m mb gk : Nat} {V : Nat → Prop} {R : List Tk} {T : ByteArray} {vw v7 : Value} {ns nw : List Int} {nu : Int} (h : MaI w wr m mb gk V R T vw ns nw) (o : Obj) (hg : (wr.alloc o).grownBy w7 vw.ownBlock)
    (hown : w7.ownsRow w.heap.size 3 1 v7 (nw.length + 1) (ints nw ++ [.int .i64 nu])) (hv : v7.ownBlock = vw.ownBlock ∨ v7.ownBlock = some (wr.alloc o).heap.size) : MaI w w7 m mb gk V R T v7 ns (nw ++ [nu]) := by
  have h1 : Vol (fun b => vw.ownBlock = some b) wr w7 := ((Vol.refl wr).alloc o).grown hg (fun k hk => .inl hk)
  refine ⟨h.ms.vol h1 (fun b hb e => h.rv b e hb), h.one, blk_vol h.key h1 (fun e => own_blk_ne h.row h.key (by decide) e), h.kv, ?_, fun b hb e => ?_, (h.bel.alloc h.bel.size o).grown hg (Nat.le_trans h.bel.size (by simp)) (fun k hk => (h.row.lt k hk).1)⟩
  · have e1 : ints (nw ++ [nu]) = ints nw ++ [.int .i64 nu] := by simp
    rw [e1, List.length_append]
    exact hown
  · rcases hv with h2 | h2
    · exact h.rv b (by rw [← h2]; exact hb) e
    · rw [hb] at h2
      injection h2 with h2
      have := h.ms.lt b e
      rw [h2] at this
      simp at this
      omega
set_option maxHeartbeats 80000000 in
theorem walk (A0 : Option Addr) (n0 c0 : Nat) (x0 : List Int) (a1 : Int) (a2 : Int) (w : World) (b0 : IntRow .i64 w A0 n0 c0 x0) (b1 : -9223372036854775808 ≤ a1 ∧ a1 ≤ 9223372036854775807) (b2 : -9223372036854775808 ≤ a2 ∧ a2 ≤ 9223372036854775807) :
    Calls Try.prog 3 #[.slice A0 n0 c0, .int .i64 a1, .int .i64 a2] w fun e w' => e = .returned (.bool true) ∧ Below w.heap.size w w' := by
  obtain ⟨hn0, hc0, hx0, hr0, hw0⟩ := b0
  have hE1 := Int.emod_nonneg a1 (show (9 : Int) ≠ 0 by omega)
  have hE2 := Int.emod_lt_of_pos a1 (show (0 : Int) < 9 by omega)
  have hEp : ∀ w, Calls Try.prog 12 #[.int .i64 a1, .int .i64 9] w fun e w' => e = .returned (.int .i64 (a1 % 9)) ∧ w = w' := fun w => Within_any a1 9 w (by omega) (by omega) (by omega) (by omega)
  have hTk := fun w => Task_any a2 b2 w
  generalize taskB (a2 % 8) = T at *
  generalize a1 % 9 = ep at *
  have HR0 := Lib.hid hr0
  have HX0 := Lib.hid hx0
  have HW0 := Lib.hid hw0
  clear hr0 hw0 hx0
  go_enter Try.func3, Try.ntmps3
  go_wp2_with fail
  refine (MNew _).mono ?_
  rintro e w1 ⟨m, mb, V, rfl, hM, hb1⟩
  have HM := Lib.hid hM
  have HB1 := Lib.hid hb1
  clear hM hb1
  go_wp2_with (first | (go_at_call 12; refine (hEp _).mono ?_; rintro e w' ⟨rfl, rfl⟩))
  refine (hTk _).mono ?_
  rintro e w2 ⟨rfl, hb2⟩
  have HM2 := Lib.hid (HM.out.below hb2)
  have HB2 := Lib.hid (HB1.out.trans (hb2.mono HB1.out.size))
  clear hTk hEp hb2 HM HB1
  go_wp2_with fail
  obtain ⟨gk, hgk⟩ : ∃ gk, gk = w2.heap.size := ⟨_, rfl⟩
  have hI0 : MaI w (w2.alloc (.cells #[.string F, .string T] 28)) m mb gk V [] T (.slice none 0 0) [] [] := ⟨HM2.out.below ((Below.refl _ _).alloc (Nat.le_refl _) _), .inl ⟨rfl, rfl⟩, by rw [hgk]; exact Blk.new w2 28 _, fun e => by have := HM2.out.lt _ e; omega, ⟨by simp, .inl ⟨rfl, rfl⟩⟩, fun b hb => by simp [Value.ownBlock] at hb, HB2.out.alloc HB2.out.size _⟩
  rw [← hgk]
  have HI0 := Lib.hid hI0
  clear hI0 hgk HM2 HB2
  obtain ⟨i0, hi0, hz0, hz1, hz2⟩ := info_parts int_infoM
  go_loopw [9, 10] (fun vw vi wr => Hid (∃ (i : Nat) (V : Nat → Prop) (R : List Tk) (ns : List Int), vi = .int .i64 i ∧ i ≤ 20 ∧ ns.length ≤ i ∧ MaI w wr m mb gk V R T vw ns ns ∧ ∃ w7, w7 = wr)) (fun _ vi _ => 20 - (intOf vi).toNat)
  case atStart => exact Lib.hid ⟨0, V, [], [], rfl, by omega, by simp, HI0.out, _, rfl⟩
  case round =>
    obtain ⟨i, V1, R, ns, rfl, hi, hns, hI, wr, hwr⟩ := hrel.out
    subst hwr
    clear hrel HI0
    obtain ⟨Aw, cw, rfl, hcw, -⟩ := own_slice hI.row
    have k0 : wr.cell? ⟨gk, 0, none⟩ = some (.string F) := hI.key.cell 0
    have k1 : wr.cell? ⟨gk, 1, none⟩ = some (.string T) := hI.key.cell 1
    have HI := Lib.hid hI
    have HNS := Lib.hid hns
    clear hI hns
    by_cases h1 : (i : Int) < n0
    · by_cases h2 : (i : Int) < 20
      · have hR1 : Reads wr w.heap.size 1 A0 n0 (x0.map (Value.int .i64)) := HR0.out.below HI.out.bel
        obtain ⟨ad, x, rfl, hx, hcx⟩ := ints_atI hR1 (by omega : i < n0)
        have hbx := bounds_i64 (HW0.out x (List.mem_of_getElem? hx))
        have hq1 := Int.emod_nonneg x (show (3 : Int) ≠ 0 by omega)
        have hq2 := Int.emod_lt_of_pos x (show (0 : Int) < 3 by omega)
        have hW3 : ∀ w, Calls Try.prog 12 #[.int .i64 x, .int .i64 3] w fun e w' => e = .returned (.int .i64 (x % 3)) ∧ w = w' := fun w => Within_any x 3 w (by omega) (by omega) (by omega) (by omega)
        clear hR1 hx hbx
        generalize x % 3 = q at *
        go_wp2_with (first | (go_at_call 12; refine (hW3 _).mono ?_; rintro e w' ⟨rfl, rfl⟩))
        refine (HearOne HI.out.ms HI.out.one (by have := HNS.out; omega) 0 (1 + (1 + q)) (1 + q) (1 + ep)).mono ?_
        rintro r w4 ⟨c, rfl, hbc, hge, V2, R1, ⟨x', rfl, hf, ht, hst, hn'⟩, hM4, hVV, hV2, hvol, hVc⟩
        have hkey4 := blk_vol HI.out.key hvol HI.out.kv
        have hrow4 := own_vol HI.out.row hvol HI.out.rv
        have k40 : w4.cell? ⟨gk, 0, none⟩ = some (.string F) := hkey4.cell 0
        have k41 : w4.cell? ⟨gk, 1, none⟩ = some (.string T) := hkey4.cell 1
        have hgk4 : ¬ V2 gk := fun e => (hV2 gk e).elim HI.out.kv (fun e => by have := HI.out.key.lt; omega)
        have hrv4 : ∀ b, (Value.slice Aw ns.length cw).ownBlock = some b → ¬ V2 b := fun b hb e => (hV2 b e).elim (HI.out.rv b hb) (fun e => by have := (HI.out.row.lt b hb).2; omega)
        have hbel4 : Below w.heap.size w w4 := ⟨hvol.os.trans HI.out.bel.os, hvol.tape.trans HI.out.bel.tape, hvol.output.trans HI.out.bel.output, Nat.le_trans HI.out.bel.size hvol.size, fun b hb => (hvol.block b (Nat.lt_of_lt_of_le hb HI.out.bel.size) (fun e => by have := HI.out.ms.ge b e; omega)).trans (HI.out.bel.block b hb)⟩
        have hI4 : MaI w w4 m mb gk V2 [x'] T (.slice Aw ns.length cw) (addN ns (1 + q)) ns := ⟨hM4, .inr ⟨x', rfl, hf, ht, hn', addN_ne _ _⟩, hkey4, hgk4, hrow4, hrv4, hbel4⟩
        have HI4 := Lib.hid hI4
        have HC4 := Lib.hid hbc
        have hsame : same F T x' = true := by rw [← hf, ← ht]; exact same_self x'
        have HSM := Lib.hid hsame
        have HST := Lib.hid hst
        clear hkey4 hrow4 hgk4 hrv4 hbel4 hI4 hbc hM4 hVV hV2 hvol hVc hn' hf ht hst hsame hge k0 k1 hcx HI
        go_upto_region 15 with (first | (go_at_call 15; refine (Messages_one (HC4.out.alloc _) (Blk.new w4 33 (ackC F T (1 + q) (1 + ep)))).mono ?_; rintro r w5 ⟨rfl, hb5⟩; have hI5 := (HI4.out.below ((Below.refl _ _).alloc (Nat.le_refl _) _)).below hb5; have k50 : w5.cell? ⟨gk, 0, none⟩ = some (.string F) := hI5.key.cell 0; have k51 : w5.cell? ⟨gk, 1, none⟩ = some (.string T) := hI5.key.cell 1; have HI5 := Lib.hid hI5; have HSt := State_yes hI5.ms (j := 0) (x := x') rfl HSM.out; rw [HST.out] at HSt; clear hI5 hb5) | (go_at_call 16; refine HSt.mono ?_; rintro r w6 ⟨rfl, hb6⟩; have HI6 := Lib.hid (HI5.out.below hb6); clear hb6 HSt))
        have d0 : (0 : Int) ≤ (ns.length : Int) := by omega
        obtain ⟨L, hL⟩ : ∃ L, L = ns.length := ⟨_, rfl⟩
        have hrw6 := HI6.out.row
        have hI6' := HI6.out
        rw [← hL] at hrw6 hI6' hcw d0 ⊢
        have HRW := Lib.hid hrw6
        have HI7 := Lib.hid hI6'
        have HP := Lib.hid hL
        clear hL hrw6 hI6'
        rcases Nat.eq_zero_or_pos L with hl | hl
        · subst hl
          have hnil : ns = [] := List.eq_nil_of_length_eq_zero HP.out.symm
          have HNIL := Lib.hid hnil
          clear hnil
          go_wp2_with (at_builtin; refine wpList_append_any _ rfl _ _ 22 rfl w.heap.size 3 i0 (.int .i64 0) 1 8 Try.underlying22 hi0 hz0 hz1 hz2 rfl (by decide) _ _ (ints ns) rfl (HRW.out.alloc _) (w6.alloc (.cells #[.int .i64 (1 + q)] 3)).heap.size (some ⟨w6.heap.size, 0, none⟩) 1 1 [.int .i64 (1 + q)] rfl (reads_one w6 (.int .i64 (1 + q)) 3) (by simp [Value.oneCell']) (by have := HNS.out; have := HP.out; simp only [maxLen]; omega) (by have := HNS.out; have := HP.out; omega) (by have := HI6.out.bel.size; simp; omega) ?_; intro v7 w7 hown7 hg7 hn7)
          refine ⟨?_, by simp [intOf]; omega⟩
          have hI8 := HI7.out.app _ hg7 (by rw [← HP.out]; exact hown7) hn7
          refine Lib.hid ⟨i + 1, V2, [x'], ns ++ [1 + q], by simp, by omega, by have := HNS.out; simp; omega, ?_, _, rfl⟩
          have e1 : addN ns (1 + q) = ns ++ [1 + q] := by rw [HNIL.out, addN_nil]; rfl
          rw [e1] at hI8
          exact hI8
        · obtain ⟨p, rfl⟩ : ∃ p, L = p + 1 := ⟨L - 1, by omega⟩
          obtain ⟨la, hla⟩ : ∃ la, ns[p]? = some la := ⟨ns[p]'(by have := HP.out; omega), List.getElem?_eq_getElem _⟩
          obtain ⟨uw, rfl⟩ := own_some HRW.out (by omega)
          have hd5 : w6.cell? ⟨uw, p, none⟩ = some (.int .i64 la) := (HRW.out.cellAt p (by omega)).trans (by rw [List.getElem?_map, hla]; rfl)
          have z1 : IntKind.i64.wrap ((p : Int) + 1 - 1) = (p : Int) := by rw [show (p : Int) + 1 - 1 = (p : Int) by omega]; exact IntWalk.i64_in _ (by have := HNS.out; have := HP.out; omega)
          have z0 : p ≤ 1000 := by have := HNS.out; have := HP.out; omega
          have z2 : (0 : Int) ≤ (p : Int) := by omega
          have z3 : (p : Int) < (p : Int) + 1 := by omega
          have z4 : ((p : Int) + 1 == 0) = false := by simp; omega
          have HLA := Lib.hid hla
          clear hla hl
          by_cases he : la = 1 + q
          · have z5 : (la != 1 + q) = false := by simpa [bne] using he
            have HE := Lib.hid he
            clear he
            go_wp2_with fail
            refine ⟨?_, by simp [intOf]; omega⟩
            have e1 : addN ns (1 + q) = ns := by unfold addN; rw [← HP.out, Nat.add_sub_cancel, HLA.out, HE.out, if_pos rfl]
            have hI8 := HI7.out
            rw [e1] at hI8
            exact Lib.hid ⟨i + 1, V2, [x'], ns, by simp, by omega, by have := HNS.out; omega, hI8, _, rfl⟩
          · have z5 : (la != 1 + q) = true := by simpa [bne] using he
            have HE := Lib.hid he
            clear he
            go_wp2_with (at_builtin; refine wpList_append_any _ rfl _ _ 22 rfl w.heap.size 3 i0 (.int .i64 0) 1 8 Try.underlying22 hi0 hz0 hz1 hz2 rfl (by decide) _ _ (ints ns) rfl (HRW.out.alloc _) (w6.alloc (.cells #[.int .i64 (1 + q)] 3)).heap.size (some ⟨w6.heap.size, 0, none⟩) 1 1 [.int .i64 (1 + q)] rfl (reads_one w6 (.int .i64 (1 + q)) 3) (by simp [Value.oneCell']) (by have := HNS.out; have := HP.out; simp only [maxLen]; omega) (by have := HNS.out; have := HP.out; omega) (by have := HI6.out.bel.size; simp; omega) ?_; intro v7 w7 hown7 hg7 hn7)
            refine ⟨?_, by simp [intOf]; omega⟩
            have e1 : addN ns (1 + q) = ns ++ [1 + q] := by unfold addN; rw [← HP.out, Nat.add_sub_cancel, HLA.out, if_neg (by simpa using HE.out)]
            have hI8 := HI7.out.app _ hg7 (by rw [← HP.out]; exact hown7) hn7
            rw [e1] at hI8
            exact Lib.hid ⟨i + 1, V2, [x'], ns ++ [1 + q], by simp, by omega, by have := HNS.out; simp; omega, hI8, _, rfl⟩
      · skip
        have hn20 : ns.length ≤ 20 := Nat.le_trans HNS.out hi
        obtain ⟨L, hL⟩ : ∃ L, L = ns.length := ⟨_, rfl⟩
        have hrw6 := HI.out.row
        rw [← hL] at hrw6 hcw hn20 ⊢
        have HRW := Lib.hid hrw6
        have HP := Lib.hid hL
        clear hL hrw6
        have hH := HeardOne HI.out.ms HI.out.one (by have := HP.out; omega)
        rw [← HP.out] at hH
        go_wp2_with fail
        refine hH.mono ?_
        rintro e w5 ⟨v5, rfl, ho5, hb5⟩
        obtain ⟨Ah, ch, rfl, hch, -⟩ := own_slice ho5
        have hrow5 := own_keep HRW.out hb5
        have hS5 := SameI_eq w5 ho5 hrow5 (by omega)
        have k50 : w5.cell? ⟨gk, 0, none⟩ = some (.string F) := (HI.out.below hb5).key.cell 0
        have k51 : w5.cell? ⟨gk, 1, none⟩ = some (.string T) := (HI.out.below hb5).key.cell 1
        have HO5 := Lib.hid ho5
        have HB5 := Lib.hid hb5
        clear ho5 hb5 hrow5 hH
        go_wp2_with (go_at_call 18; refine hS5.mono ?_; rintro r w6 ⟨rfl, hb6⟩; have HO6 := Lib.hid (own_keep HO5.out hb6); have HB6 := Lib.hid (HB5.out.trans (hb6.mono HB5.out.size)); clear hb6)
        go_loopw [97] (fun vi wx => Hid (∃ (j : Nat) (ys : List Int), vi = .int .i64 j ∧ j ≤ L ∧ ys.length = L ∧ wx.ownsRow wr.heap.size 3 1 (.slice Ah L ch) L (ints ys) ∧ Below wr.heap.size wr wx ∧ ∃ w7, w7 = wx)) (fun vi _ => L - (intOf vi).toNat)
        case atStart => exact Lib.hid ⟨0, ns, rfl, by omega, HP.out.symm, HO6.out, HB6.out, _, rfl⟩
        case round =>
          obtain ⟨j, ys, rfl, hj, hys, ho7, hb7, w7, hw7⟩ := hrel.out
          subst hw7
          clear hrel
          by_cases hlt : (j : Int) < L
          · obtain ⟨uh, rfl⟩ := own_some ho7 (by omega)
            obtain ⟨y0, hy0⟩ : ∃ y0, ys[j]? = some y0 := ⟨ys[j]'(by omega), List.getElem?_eq_getElem _⟩
            have c7 : w7.cell? ⟨uh, j, none⟩ = some (.int .i64 y0) := (ho7.cellAt j (by omega)).trans (by rw [List.getElem?_map, hy0]; rfl)
            have f7 : w7.frozen? ⟨uh, j, none⟩ = false := ho7.frozenAt j
            have HO7 := Lib.hid ho7
            have HB7 := Lib.hid hb7
            have HYS := Lib.hid hys
            clear ho7 hb7 hys hy0
            go_wp2_with fail
            refine ⟨?_, by simp [intOf]; omega⟩
            refine Lib.hid ⟨j + 1, ys.set j 99, by simp, by omega, by rw [List.length_set]; exact HYS.out, ?_, HB7.out.setCell (HO7.out.lt uh rfl).1 _, _, rfl⟩
            have h8 := HO7.out.stored j (.int .i64 99)
            have e8 : ints (ys.set j 99) = (ints ys).set j (.int .i64 99) := by show List.map _ (ys.set j 99) = _; rw [List.map_set]
            rw [e8]
            exact h8.1
          · have hI7 := HI.out.below hb7
            have k70 : w7.cell? ⟨gk, 0, none⟩ = some (.string F) := hI7.key.cell 0
            have k71 : w7.cell? ⟨gk, 1, none⟩ = some (.string T) := hI7.key.cell 1
            have hH7 := HeardOne hI7.ms hI7.one (by have := HP.out; omega)
            rw [← HP.out] at hH7
            have HI7 := Lib.hid hI7
            have HB7 := Lib.hid hb7
            clear ho7 hb7 hI7 hys k50 k51
            go_wp2_with (first | (go_at_call 17; refine hH7.mono ?_; rintro e w8 ⟨v8, rfl, ho8, hb8⟩; clear hH7; obtain ⟨A8, c8, rfl, hc8, -⟩ := own_slice ho8; have hI8 := HI7.out.below hb8; have k80 : w8.cell? ⟨gk, 0, none⟩ = some (.string F) := hI8.key.cell 0; have k81 : w8.cell? ⟨gk, 1, none⟩ = some (.string T) := hI8.key.cell 1; have hr8 := hI8.row; rw [← HP.out] at hr8; have hS8 := SameI_eq w8 ho8 hr8 (by omega); have HI8 := Lib.hid hI8; clear hI8 ho8 hb8 hr8) | (go_at_call 18; refine hS8.mono ?_; rintro r w9 ⟨rfl, hb9⟩; have hI9 := HI8.out.below hb9; have k90 : w9.cell? ⟨gk, 0, none⟩ = some (.string F) := hI9.key.cell 0; have k91 : w9.cell? ⟨gk, 1, none⟩ = some (.string T) := hI9.key.cell 1; have hN9 := HeardNone (G := ⟨#[103]⟩) hI9.ms hI9.one (by decide); have HI9 := Lib.hid hI9; clear hI9 hb9 hS8) | (go_at_call 17; refine hN9.mono ?_; rintro e w10 ⟨rfl, hb10⟩; have HI10 := Lib.hid (HI9.out.below hb10); clear hb10 hN9) | (go_at_call 14; refine (Hear_no (m := m) _ _ _ _).mono ?_; rintro e w11 ⟨rfl, hb11⟩; have HI11 := Lib.hid (HI10.out.below hb11); clear hb11) | (go_at_call 19; refine (wkk _).mono ?_; rintro e w12 ⟨rfl, hb12⟩))
            go_ret
            exact ⟨rfl, HI11.out.bel.trans (hb12.mono HI11.out.bel.size)⟩
    · skip
      have hn20 : ns.length ≤ 20 := Nat.le_trans HNS.out hi
      obtain ⟨L, hL⟩ : ∃ L, L = ns.length := ⟨_, rfl⟩
      have hrw6 := HI.out.row
      rw [← hL] at hrw6 hcw hn20 ⊢
      have HRW := Lib.hid hrw6
      have HP := Lib.hid hL
      clear hL hrw6
      have hH := HeardOne HI.out.ms HI.out.one (by have := HP.out; omega)
      rw [← HP.out] at hH
      go_wp2_with fail
      refine hH.mono ?_
      rintro e w5 ⟨v5, rfl, ho5, hb5⟩
      obtain ⟨Ah, ch, rfl, hch, -⟩ := own_slice ho5
      have hrow5 := own_keep HRW.out hb5
      have hS5 := SameI_eq w5 ho5 hrow5 (by omega)
      have k50 : w5.cell? ⟨gk, 0, none⟩ = some (.string F) := (HI.out.below hb5).key.cell 0
      have k51 : w5.cell? ⟨gk, 1, none⟩ = some (.string T) := (HI.out.below hb5).key.cell 1
      have HO5 := Lib.hid ho5
      have HB5 := Lib.hid hb5
      clear ho5 hb5 hrow5 hH
      go_wp2_with (go_at_call 18; refine hS5.mono ?_; rintro r w6 ⟨rfl, hb6⟩; have HO6 := Lib.hid (own_keep HO5.out hb6); have HB6 := Lib.hid (HB5.out.trans (hb6.mono HB5.out.size)); clear hb6)
      go_loopw [97] (fun vi wx => Hid (∃ (j : Nat) (ys : List Int), vi = .int .i64 j ∧ j ≤ L ∧ ys.length = L ∧ wx.ownsRow wr.heap.size 3 1 (.slice Ah L ch) L (ints ys) ∧ Below wr.heap.size wr wx ∧ ∃ w7, w7 = wx)) (fun vi _ => L - (intOf vi).toNat)
      case atStart => exact Lib.hid ⟨0, ns, rfl, by omega, HP.out.symm, HO6.out, HB6.out, _, rfl⟩
      case round =>
        obtain ⟨j, ys, rfl, hj, hys, ho7, hb7, w7, hw7⟩ := hrel.out
        subst hw7
        clear hrel
        by_cases hlt : (j : Int) < L
        · obtain ⟨uh, rfl⟩ := own_some ho7 (by omega)
          obtain ⟨y0, hy0⟩ : ∃ y0, ys[j]? = some y0 := ⟨ys[j]'(by omega), List.getElem?_eq_getElem _⟩
          have c7 : w7.cell? ⟨uh, j, none⟩ = some (.int .i64 y0) := (ho7.cellAt j (by omega)).trans (by rw [List.getElem?_map, hy0]; rfl)
          have f7 : w7.frozen? ⟨uh, j, none⟩ = false := ho7.frozenAt j
          have HO7 := Lib.hid ho7
          have HB7 := Lib.hid hb7
          have HYS := Lib.hid hys
          clear ho7 hb7 hys hy0
          go_wp2_with fail
          refine ⟨?_, by simp [intOf]; omega⟩
          refine Lib.hid ⟨j + 1, ys.set j 99, by simp, by omega, by rw [List.length_set]; exact HYS.out, ?_, HB7.out.setCell (HO7.out.lt uh rfl).1 _, _, rfl⟩
          have h8 := HO7.out.stored j (.int .i64 99)
          have e8 : ints (ys.set j 99) = (ints ys).set j (.int .i64 99) := by show List.map _ (ys.set j 99) = _; rw [List.map_set]
          rw [e8]
          exact h8.1
        · have hI7 := HI.out.below hb7
          have k70 : w7.cell? ⟨gk, 0, none⟩ = some (.string F) := hI7.key.cell 0
          have k71 : w7.cell? ⟨gk, 1, none⟩ = some (.string T) := hI7.key.cell 1
          have hH7 := HeardOne hI7.ms hI7.one (by have := HP.out; omega)
          rw [← HP.out] at hH7
          have HI7 := Lib.hid hI7
          have HB7 := Lib.hid hb7
          clear ho7 hb7 hI7 hys k50 k51
          go_wp2_with (first | (go_at_call 17; refine hH7.mono ?_; rintro e w8 ⟨v8, rfl, ho8, hb8⟩; clear hH7; obtain ⟨A8, c8, rfl, hc8, -⟩ := own_slice ho8; have hI8 := HI7.out.below hb8; have k80 : w8.cell? ⟨gk, 0, none⟩ = some (.string F) := hI8.key.cell 0; have k81 : w8.cell? ⟨gk, 1, none⟩ = some (.string T) := hI8.key.cell 1; have hr8 := hI8.row; rw [← HP.out] at hr8; have hS8 := SameI_eq w8 ho8 hr8 (by omega); have HI8 := Lib.hid hI8; clear hI8 ho8 hb8 hr8) | (go_at_call 18; refine hS8.mono ?_; rintro r w9 ⟨rfl, hb9⟩; have hI9 := HI8.out.below hb9; have k90 : w9.cell? ⟨gk, 0, none⟩ = some (.string F) := hI9.key.cell 0; have k91 : w9.cell? ⟨gk, 1, none⟩ = some (.string T) := hI9.key.cell 1; have hN9 := HeardNone (G := ⟨#[103]⟩) hI9.ms hI9.one (by decide); have HI9 := Lib.hid hI9; clear hI9 hb9 hS8) | (go_at_call 17; refine hN9.mono ?_; rintro e w10 ⟨rfl, hb10⟩; have HI10 := Lib.hid (HI9.out.below hb10); clear hb10 hN9) | (go_at_call 14; refine (Hear_no (m := m) _ _ _ _).mono ?_; rintro e w11 ⟨rfl, hb11⟩; have HI11 := Lib.hid (HI10.out.below hb11); clear hb11) | (go_at_call 19; refine (wkk _).mono ?_; rintro e w12 ⟨rfl, hb12⟩))
          go_ret
          exact ⟨rfl, HI11.out.bel.trans (hb12.mono HI11.out.bel.size)⟩

end Go.Proofs.Ytacmmkpcnpnjoaa.masterAcks
