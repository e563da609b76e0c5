/- The walk of TasksRoom: the Go text returns true, and writes nothing that was there. -/
import Derived.Test.YtlljepgfecodoaaTkH
import Derived.Test.YtlljepgfecodoaaAllSum
import Derived.Deep.CutRange
import Derived.Deep.RegionHeld3
import Derived.Deep.DeepCutAuto
import Derived.Deep.CutBlock
import Derived.Lib.Builder
import Derived.Deep.RegionLaw
import Derived.IntWalk
namespace Go.Proofs.Ytlljepgfecodoaa.tasksRoom
open Go.ChangeShapes Go.WideShapes Go.ChangeAt Go.RowKit
set_option linter.unusedVariables false
set_option maxRecDepth 100000
open Go.Proofs.Ytlljepgfecodoaa.Tk Go.Proofs.Ytlljepgfecodoaa.Crw
attribute [local go_sem] run_store_complex
theorem wkk (w : World) : Calls Try.prog 9 #[] w fun e w' => e = .returned (.bool true) ∧ Below w.heap.size w w' := wakes_9.2.2.2 w
set_option maxHeartbeats 40000000 in
theorem walk (A0 : Option Addr) (n0 c0 : Nat) (x0 : List Int) (A1 : Option Addr) (n1 c1 : Nat) (x1 : List Int) (a2 : Int) (w : World) (b0 : IntRow .i64 w A0 n0 c0 x0) (b1 : IntRow .i64 w A1 n1 c1 x1) (b2 : -9223372036854775808 ≤ a2 ∧ a2 ≤ 9223372036854775807) :
    Calls Try.prog 3 #[.slice A0 n0 c0, .slice A1 n1 c1, .int .i64 a2] w fun e w' => e = .returned (.bool true) ∧ Below w.heap.size w w' := by
  obtain ⟨hn0, hc0, hx0, hr0, hw0⟩ := b0
  obtain ⟨hn1, hc1, hx1, hr1, hw1⟩ := b1
  have HR0 := Lib.hid hr0
  have HW0 := Lib.hid hw0
  have HR1 := Lib.hid hr1
  have HW1 := Lib.hid hw1
  have HB2 := Lib.hid b2
  clear hr0 hw0 hx0 hr1 hw1 hx1 b2
  go_enter Try.func3, Try.ntmps3
  go_wp2_with fail
  go_loopw [7, 8, 9, 10, 11, 12] (fun v7 v8 v9 v10 v11 v12 wr => Hid (∃ (i : Nat) (E : List En), v12 = .int .i64 i ∧ i ≤ 8 ∧ v8 = .int .i64 (sp E : Int) ∧ v9 = .int .i64 (sq E : Int) ∧ LwP w wr i E v7 v10 v11 ∧ ∃ w7, w7 = wr)) (fun _ _ _ _ _ v12 _ => 8 - (intOf v12).toNat)
  case atStart => exact Lib.hid ⟨0, [], rfl, by omega, rfl, rfl, ⟨⟨by simp, .inl ⟨rfl, rfl⟩⟩, ⟨by simp, .inl ⟨rfl, rfl⟩⟩, ⟨by simp, .inl ⟨rfl, rfl⟩⟩, .inl rfl, rfl, fun k e h => by simp at h, fun k e h => by simp at h, Below.refl _ _⟩, _, rfl⟩
  case round =>
    obtain ⟨i, E, rfl, hi, rfl, rfl, hL, wr, hwr⟩ := hrel.out
    subst hwr
    clear hrel
    obtain ⟨Al, cl, rfl, hcl, -⟩ := own_slice hL.l
    obtain ⟨Aa, ca, rfl, hca, -⟩ := own_slice hL.ka
    obtain ⟨Ab, cb, rfl, hcb, -⟩ := own_slice hL.kb
    have HL := Lib.hid hL
    have hsum := hL.sums
    clear hL hcl hca hcb
    by_cases hall : (i : Int) < n0 ∧ (i : Int) < n1 ∧ (i : Int) < 8
    · obtain ⟨h0, h1, h2⟩ := hall
      have hi0 : (0 : Int) ≤ (i : Int) := by omega
      have hR0 : Reads wr w.heap.size 1 A0 n0 (x0.map (Value.int .i64)) := HR0.out.below HL.out.bel
      have hR1 : Reads wr w.heap.size 1 A1 n1 (x1.map (Value.int .i64)) := HR1.out.below HL.out.bel
      obtain ⟨ad0, x, rfl, hx, hcx⟩ := ints_atI hR0 (by omega : i < n0)
      obtain ⟨ad1, y, rfl, hy, hcy⟩ := ints_atI hR1 (by omega : i < n1)
      have hbx := bounds_i64 (HW0.out x (List.mem_of_getElem? hx))
      have hby := bounds_i64 (HW1.out y (List.mem_of_getElem? hy))
      clear hR0 hR1 hx hy
      obtain ⟨px, hpx, hpx2⟩ : ∃ px : Nat, x % 100 = (px : Int) ∧ px ≤ 99 := by
        have h1 := Int.emod_nonneg x (show (100 : Int) ≠ 0 by omega)
        have h2 := Int.emod_lt_of_pos x (show (0 : Int) < 100 by omega)
        exact ⟨(x % 100).toNat, by omega, by omega⟩
      obtain ⟨qy, hqy, hqy1, hqy2⟩ : ∃ qy : Nat, IntKind.i64.wrap (1 + y % 100) = (qy : Int) ∧ 1 ≤ qy ∧ qy ≤ 100 := by
        have h1 := Int.emod_nonneg y (show (100 : Int) ≠ 0 by omega)
        have h2 := Int.emod_lt_of_pos y (show (0 : Int) < 100 by omega)
        refine ⟨(1 + y % 100).toNat, ?_, by omega, by omega⟩
        rw [IntKind.wrap_i64]; omega
      have hW : ∀ (x n : Int) (hx : -9223372036854775808 ≤ x ∧ x ≤ 9223372036854775807) (hn : 1 ≤ n ∧ n ≤ 9223372036854775807) (wz : World), Calls Try.prog 5 #[.int .i64 x, .int .i64 n] wz fun e w' => e = .returned (.int .i64 (x % n)) ∧ wz = w' := fun x n hx hn wz => Within_any x n wz hx.1 hx.2 hn.1 hn.2
      go_upto_region 7 with fail
      go_cut [13, 14] from 37 to 47 (fun v13 v14 wx => Hid (∃ w7, v13 = .int .i64 (px : Int) ∧ v14 = .int .i64 (qy : Int) ∧ Below wr.heap.size wr wx ∧ w7 = wx))
      case first =>
        have dx : wr.drew.cell? (ad0.add i) = some (.int .i64 x) := hcx
        have dy : wr.drew.cell? (ad1.add i) = some (.int .i64 y) := hcy
        go_region_held3 (fun wa => wa.cell? (ad0.add i) = some (.int .i64 x) ∧ wa.cell? (ad1.add i) = some (.int .i64 y)) (first | with_reducible assumption | with_reducible exact ⟨dx, dy⟩) (first | (go_at_call 5; refine (hW _ _ (by assumption) (by decide) _).mono ?_; rintro e wz ⟨rfl, rfl⟩))
        all_goals
          rename_i hHeld
          clear hHeld
          go_wp2_with fail
          go_meet
          exact Lib.hid ⟨_, rfl, rfl, (Below.refl _ _).drew, rfl⟩
      case rest =>
        obtain ⟨w9, rfl, rfl, hb9, e9⟩ := hcut.out
        subst e9
        clear hcut hcx hcy hW hpx hqy hbx hby
        have hL9 := HL.out.below hb9
        clear hb9
        have HL9 := Lib.hid hL9
        obtain ⟨ii, hii, hiz, his, hib⟩ := info_parts int_infoK
        have hka := hL9.ka
        have hkb := hL9.kb
        have hap := ap_sym hL9.ap
        clear hL9
        go_upto_region 9 with (at_builtin; first | (refine wpList_append_any _ rfl _ _ 22 rfl w.heap.size 3 ii (.int .i64 0) 1 8 Try.underlying22 hii hiz his hib rfl (by decide) (.slice Aa i ca) i (pV E) rfl (hka.alloc _) _ (some ⟨w9.heap.size, 0, none⟩) 1 1 [.int .i64 (px : Int)] rfl (reads_newN w9 [.int .i64 (px : Int)] 3 rfl) (by simp [Value.oneCell']) (by simp only [maxLen]; omega) (by omega) (by have := HL9.out.bel.size; simp; omega) ?_; intro v4 w4 hown4 hg4 hn4; obtain ⟨A4, c4, rfl, -, -⟩ := own_slice hown4; have hkb4 := (hkb.alloc _).kept hg4 hap; have HA := Lib.hid (And.intro hown4 (And.intro hg4 hn4)); clear hown4 hg4 hn4 hka) | (refine wpList_append_any _ rfl _ _ 22 rfl w.heap.size 3 ii (.int .i64 0) 1 8 Try.underlying22 hii hiz his hib rfl (by decide) (.slice Ab i cb) i (qV E) rfl (hkb4.alloc _) _ (some ⟨w4.heap.size, 0, none⟩) 1 1 [.int .i64 (qy : Int)] rfl (reads_newN w4 [.int .i64 (qy : Int)] 3 rfl) (by simp [Value.oneCell']) (by simp only [maxLen]; omega) (by omega) (by have := HL9.out.bel.size; have := HA.out.2.1.size; simp at this ⊢; omega) ?_; intro v5 w5 hown5 hg5 hn5; obtain ⟨A5, c5, rfl, -, -⟩ := own_slice hown5; have HB := Lib.hid (And.intro hown5 (And.intro hg5 hn5)); have HK4 := Lib.hid hkb4; clear hown5 hg5 hn5 hkb4))
        have hQ := HL9.out.two HA.out.1 HA.out.2.1 HA.out.2.2 HB.out.1 HB.out.2.1 HB.out.2.2
        have HQ := Lib.hid hQ
        have hlq := hQ.l
        have e1 : IntKind.i64.wrap ((sp E : Int) + (px : Int)) = ((sp E + px : Nat) : Int) := by rw [IntKind.wrap_i64]; omega
        have e2 : IntKind.i64.wrap ((sq E : Int) + (qy : Int)) = ((sq E + qy : Nat) : Int) := by rw [IntKind.wrap_i64]; omega
        obtain ⟨nn, e3, hnn⟩ : ∃ nn : Nat, IntKind.i64.wrap (1 + (i : Int) % 2) = (nn : Int) ∧ nn ≠ 0 := by
          refine ⟨1 + i % 2, ?_, by omega⟩
          rw [IntKind.wrap_i64]; omega
        have e4 : IntKind.i64.wrap ((i : Int) % 2) = (i : Int) % 2 := by rw [IntKind.wrap_i64]; omega
        have e5 : floatOfInt .f64 (px : Int) = fw px := by rw [ofInt_fw (by omega)]; simp
        have e6 : floatOfInt .f64 (qy : Int) = fw qy := by rw [ofInt_fw (by omega)]; simp
        have k8 : (i : Int) ≤ 8 := by omega
        have k9 : i ≤ 8 := by omega
        have k1 : (1 : Int) ≤ ((8 - i : Nat) : Int) := by omega
        obtain ⟨ie, hie, hez, hes, heb⟩ := info_parts entry_info
        clear hQ hii hiz his hib hap
        go_wp2_with (at_builtin; refine wpList_append_any _ rfl _ _ 23 rfl w.heap.size 31 ie (.agg #[.string ⟨#[]⟩, .string ⟨#[]⟩, .int .i64 0, .slice none 0 0]) 4 64 Try.underlying23 hie hez hes heb rfl (by decide) (.slice Al i cl) i (enV E) rfl ((hlq.alloc _).alloc _) _ (some ⟨w5.heap.size + 1, 0, none⟩) 1 1 (en4 ⟨⟨nm i, nn, px, qy⟩, w5.heap.size⟩) rfl (by have h := reads_newN (w5.alloc (.cells (itC ⟨nm i, nn, px, qy⟩) 28)) (en4 ⟨⟨nm i, nn, px, qy⟩, w5.heap.size⟩) 31 (n := 1) (s := 4) rfl; rw [show (w5.alloc (.cells (itC ⟨nm i, nn, px, qy⟩) 28)).heap.size = w5.heap.size + 1 by simp] at h; exact h) (by simp [Value.oneCell']) (by simp only [maxLen]; omega) (by omega) (by have := HQ.out.bel.size; simp; omega) ?_; intro v8 w8 hown8 hg8 hn8; obtain ⟨A8, c8, rfl, -, -⟩ := own_slice hown8)
        have hP8 := HQ.out.ent (e := ⟨⟨nm i, nn, px, qy⟩, w5.heap.size⟩) hown8 hg8 rfl ⟨rfl, by simpa using hnn, hpx2, hqy1, hqy2⟩
        refine ⟨?_, by simp [intOf]; omega⟩
        exact Lib.hid ⟨i + 1, E ++ [⟨⟨nm i, nn, px, qy⟩, w5.heap.size⟩], by simp, by omega, by rw [sp_push]; simp, by rw [sq_push]; simp, hP8, _, rfl⟩
    · have hall2 : ¬ (i : Int) < n0 ∨ ((i : Int) < n0 ∧ ¬ (i : Int) < n1) ∨ ((i : Int) < n0 ∧ (i : Int) < n1 ∧ ¬ (i : Int) < 8) := by omega
      clear hall
      have hrl : (E.map (·.x)).length = i := by rw [List.length_map, HL.out.len]
      have hRw := Rows_any Al i cl w.heap.size E wr HL.out.bel.size HL.out.l (by omega) HL.out.it
      have f1 : floatOfInt .f64 (sp E : Int) = fw (sp E) := by rw [ofInt_fw (by omega)]; simp
      have f2 : floatOfInt .f64 (sq E : Int) = fw (sq E) := by rw [ofInt_fw (by omega)]; simp
      have o1 := o_self (n := sp E) (by omega)
      have o2 := o_self (n := sq E) (by omega)
      have HRL := Lib.hid hrl
      clear hrl
      go_upto_region 5 with fail
      go_cut [34] from 21 to 33 (fun v34 wx => Hid (∃ w7, v34 = .bool false ∧ wx = wr ∧ w7 = wx))
      case first =>
        rcases hall2 with h1 | ⟨h1, h2⟩ | ⟨h1, h2, h3⟩
        all_goals
          go_wp2_with fail
          go_meet
          exact Lib.hid ⟨_, rfl, rfl, rfl⟩
      case rest =>
        obtain ⟨w7, rfl, ewx, e7⟩ := hcut.out
        clear hcut e7 hall2
        have ewx := ewx.symm
        subst ewx
        go_upto_region 11 with fail
        go_wp2_with fail
        refine hRw.mono ?_
        rintro e w1 ⟨v1, rfl, ho1, hb1⟩
        obtain ⟨A1, c1', rfl, -, -⟩ := own_slice ho1
        have hU := Used_any0 A1 i c1' wr.heap.size (E.map (·.x)) (fun _ => 2) w1 hb1.size ho1 (by omega) HL.out.n0 (fun wa x _ _ => St0 x wa) (by rw [HL.out.every, (sp_rows E).1]; omega) (by rw [HL.out.every, (sp_rows E).2]; omega)
        rw [HL.out.every, (sp_rows E).1, (sp_rows E).2] at hU
        have HO1 := Lib.hid ho1
        have HB1 := Lib.hid hb1
        clear hRw ho1 hb1
        go_wp2_with fail
        refine hU.mono ?_
        rintro e w2 ⟨rfl, hb2⟩
        have HB2' := Lib.hid (HB1.out.trans (hb2.mono HB1.out.size))
        have HO2 := Lib.hid (own_keep HO1.out hb2)
        have hL2 := HL.out.below HB2'.out
        clear hU hb2
        clear hL2
        rcases Nat.eq_zero_or_pos i with hz | hpos
        · subst hz
          go_wp2_with (go_at_call 9; refine (wkk _).mono ?_; rintro e w10 ⟨rfl, hb10⟩)
          go_ret
          have hb11 := HL.out.bel.trans (HB2'.out.mono HL.out.bel.size)
          exact ⟨rfl, hb11.trans (hb10.mono hb11.size)⟩
        · obtain ⟨kn, hkn, hkl⟩ : ∃ kn : Nat, a2 % (i : Int) = (kn : Int) ∧ kn < i := by
            have h1 := Int.emod_nonneg a2 (show (i : Int) ≠ 0 by omega)
            have h2 := Int.emod_lt_of_pos a2 (show (0 : Int) < (i : Int) by omega)
            exact ⟨(a2 % (i : Int)).toNat, by omega, by omega⟩
          have hWi : ∀ wz, Calls Try.prog 5 #[.int .i64 a2, .int .i64 (i : Int)] wz fun e w' => e = .returned (.int .i64 (kn : Int)) ∧ wz = w' := fun wz => by
            rw [← hkn]
            exact Within_any a2 i wz HB2.out.1 HB2.out.2 (by omega) (by omega)
          have hi1 : ¬ (i : Int) = 0 := by omega
          clear hkn
          go_upto_region 16 with fail
          go_upto_region 17 with (go_at_call 5; refine (hWi _).mono ?_; rintro e wz ⟨rfl, rfl⟩)
          obtain ⟨gk, hgk⟩ : ∃ g, g = w2.heap.size := ⟨_, rfl⟩
          obtain ⟨w3, hw3⟩ : ∃ x, x = w2.alloc (.cells #[.int .i64 (kn : Int)] 3) := ⟨_, rfl⟩
          rw [← hw3, ← hgk]
          have hb3 : Below w2.heap.size w2 w3 := by rw [hw3]; exact (Below.refl _ _).alloc (Nat.le_refl _) _
          have hkc : Blk w3 gk 3 #[.int .i64 (kn : Int)] := by rw [hw3, hgk]; exact Blk.new _ _ _
          have HB3 := Lib.hid (HB2'.out.trans (hb3.mono HB2'.out.size))
          have HO3 := Lib.hid (own_keep HO2.out hb3)
          have HK3 := Lib.hid hkc
          have HL3 := Lib.hid (HL.out.below HB3.out)
          clear hw3 hgk hb3 hkc hWi
          have hS1 : ∀ (wa : World) (x : Tk.Tr), Below w3.heap.size w3 wa → Calls Try.prog 10 #[keyV x, .pointer (some ⟨gk, 0, none⟩)] wa fun e w' => e = .returned (.int .i64 (if x.t.toList == (nm kn).toList then 3 else 1)) ∧ Below wa.heap.size wa w' := fun wa x hb => St1 x gk kn wa (by omega) (((HK3.out.below hb HK3.out.lt).cell 0))
          obtain ⟨ek, hek⟩ : ∃ e, E[kn]? = some e := ⟨E[kn]'(by rw [HL.out.len]; exact hkl), List.getElem?_eq_getElem _⟩
          have hok := HL.out.ok kn ek hek
          have hes := erase_sums (E.map (·.x)) kn ek.x (by rw [List.getElem?_map, hek]; rfl)
          rw [(sp_rows E).1, (sp_rows E).2] at hes
          have hlf := HL.out.left hi hkl
          have hU1 := Used_any1 A1 i c1' w.heap.size (E.map (·.x)) (.pointer (some ⟨gk, 0, none⟩)) (fun x => if x.t.toList == (nm kn).toList then 3 else 1) w3 HL3.out.bel.size (own_down HO3.out HL.out.bel.size) (by omega) HL.out.n0 (fun wa x hb _ => hS1 wa x hb) (by rw [hlf]; omega) (by rw [hlf]; omega)
          rw [hlf] at hU1
          obtain ⟨up, eup⟩ : ∃ u, u = sA (((E.map (·.x)).eraseIdx kn).map nd) := ⟨_, rfl⟩
          obtain ⟨uq, euq⟩ : ∃ u, u = sB (((E.map (·.x)).eraseIdx kn).map nd) := ⟨_, rfl⟩
          rw [← eup, ← euq] at hU1
          rw [← eup, ← euq] at hes
          have HS1 := Lib.hid hS1
          have HLF := Lib.hid hlf
          have HEK := Lib.hid hek
          clear hS1 hlf eup euq hek
          go_wp2_with fail
          refine hU1.mono ?_
          rintro e w4 ⟨rfl, hb4⟩
          have HB4 := Lib.hid hb4
          clear hU1 hb4
          go_upto_region 19 with fail
          have hL4 := HL3.out.below HB4.out
          have hk4 := HK3.out.below HB4.out HK3.out.lt
          obtain ⟨ua, rfl⟩ := own_some hL4.ka hpos
          obtain ⟨ub, rfl⟩ := own_some hL4.kb hpos
          have q0 : w4.cell? ⟨gk, 0, none⟩ = some (.int .i64 (kn : Int)) := hk4.cell 0
          have qa : w4.cell? ⟨ua, kn, none⟩ = some (.int .i64 (ek.x.p : Int)) := (hL4.ka.cellAt kn (by omega)).trans (by rw [List.getElem?_map, HEK.out]; rfl)
          have qb : w4.cell? ⟨ub, kn, none⟩ = some (.int .i64 (ek.x.q : Int)) := (hL4.kb.cellAt kn (by omega)).trans (by rw [List.getElem?_map, HEK.out]; rfl)
          have kl : (kn : Int) < (i : Int) := by omega
          have kz : (0 : Int) ≤ (kn : Int) := by omega
          have f3 : floatOfInt .f64 (ek.x.p : Int) = fw ek.x.p := by rw [ofInt_fw (by omega)]; simp
          have f4 : floatOfInt .f64 (ek.x.q : Int) = fw ek.x.q := by rw [ofInt_fw (by omega)]; simp
          have HL4 := Lib.hid hL4
          have HK4 := Lib.hid hk4
          clear hL4 hk4
          go_region
          clear q0 qa qb
          go_upto_region 21 with fail
          obtain ⟨g5, hg5⟩ : ∃ g, g = w4.heap.size := ⟨_, rfl⟩
          obtain ⟨w5, hw5⟩ : ∃ x, x = (w4.alloc (.cells #[.string ⟨#[122]⟩, .complex .f64 (fw ek.x.p) (fw ek.x.q)] 28)).drew := ⟨_, rfl⟩
          rw [← hw5, ← hg5]
          have hb5 : Below w4.heap.size w4 w5 := by rw [hw5]; exact ((Below.refl _ _).alloc (Nat.le_refl _) _).drew
          have hz5 : Blk w5 g5 28 #[.string ⟨#[122]⟩, .complex .f64 (fw ek.x.p) (fw ek.x.q)] := by rw [hw5, hg5]; exact (Blk.new w4 28 _).drew
          have hk5 := HK4.out.below hb5 HK4.out.lt
          have hL5 := HL4.out.below hb5
          have ho5 := own_keep (own_keep HO3.out HB4.out) hb5
          have q0 : w5.cell? ⟨gk, 0, none⟩ = some (.int .i64 (kn : Int)) := hk5.cell 0
          have qa : w5.cell? ⟨ua, kn, none⟩ = some (.int .i64 (ek.x.p : Int)) := (hL5.ka.cellAt kn (by omega)).trans (by rw [List.getElem?_map, HEK.out]; rfl)
          have qb : w5.cell? ⟨ub, kn, none⟩ = some (.int .i64 (ek.x.q : Int)) := (hL5.kb.cellAt kn (by omega)).trans (by rw [List.getElem?_map, HEK.out]; rfl)
          have Q0 : ∀ {wa : World}, Below w5.heap.size w5 wa → wa.cell? ⟨gk, 0, none⟩ = some (.int .i64 (kn : Int)) := fun h => (h.cell (p := ⟨gk, 0, none⟩) (World.block_lt_of_cell? _ _ q0)).trans q0
          have QA : ∀ {wa : World}, Below w5.heap.size w5 wa → wa.cell? ⟨ua, kn, none⟩ = some (.int .i64 (ek.x.p : Int)) := fun h => (h.cell (p := ⟨ua, kn, none⟩) (World.block_lt_of_cell? _ _ qa)).trans qa
          have QB : ∀ {wa : World}, Below w5.heap.size w5 wa → wa.cell? ⟨ub, kn, none⟩ = some (.int .i64 (ek.x.q : Int)) := fun h => (h.cell (p := ⟨ub, kn, none⟩) (World.block_lt_of_cell? _ _ qb)).trans qb
          have hok3 : ek.x.p ≤ 99 ∧ 1 ≤ ek.x.q ∧ ek.x.q ≤ 100 := hok.2.2
          have C21 : ∀ {wa : World}, Below w5.heap.size w5 wa → Calls Try.prog 11 #[.complex .f64 (fw up) (fw uq), .complex .f64 (fw (sp E)) (fw (sq E)), .slice (some ⟨g5, 0, none⟩) 1 1] wa fun e w' => e = .returned (.bool true) ∧ Below w5.heap.size w5 w' := fun {wa} h => by
            have := Fits_one up uq (fw (sp E)) (fw (sq E)) ek.x.p ek.x.q g5 ⟨#[122]⟩ wa (hz5.below h hz5.lt) (by omega) (by omega)
            rw [hes.1, hes.2, leF_fw (by omega) (by omega), leF_fw (by omega) (by omega)] at this
            exact this.mono fun e w' hh => ⟨by rw [hh.1]; simp, h.trans (hh.2.mono h.size)⟩
          have C28 : ∀ {wa : World}, Below w5.heap.size w5 wa → Calls Try.prog 11 #[.complex .f64 (fw up) (fw uq), .complex .f64 (fw (sp E)) (fw (sq E - 1)), .slice (some ⟨g5, 0, none⟩) 1 1] wa fun e w' => e = .returned (.bool false) ∧ Below w5.heap.size w5 w' := fun {wa} h => by
            have := Fits_one up uq (fw (sp E)) (fw (sq E - 1)) ek.x.p ek.x.q g5 ⟨#[122]⟩ wa (hz5.below h hz5.lt) (by omega) (by omega)
            rw [hes.1, hes.2, leF_fw (by omega) (by omega), leF_fw (by omega) (by omega)] at this
            exact this.mono fun e w' hh => ⟨by rw [hh.1, decide_eq_false (show ¬ sq E ≤ sq E - 1 by omega)]; simp, h.trans (hh.2.mono h.size)⟩
          have C39 : 1 ≤ sp E → ∀ {wa : World}, Below w5.heap.size w5 wa → Calls Try.prog 11 #[.complex .f64 (fw up) (fw uq), .complex .f64 (fw (sp E - 1)) (fw (sq E)), .slice (some ⟨g5, 0, none⟩) 1 1] wa fun e w' => e = .returned (.bool false) ∧ Below w5.heap.size w5 w' := fun hp {wa} h => by
            have := Fits_one up uq (fw (sp E - 1)) (fw (sq E)) ek.x.p ek.x.q g5 ⟨#[122]⟩ wa (hz5.below h hz5.lt) (by omega) (by omega)
            rw [hes.1, hes.2, leF_fw (by omega) (by omega), leF_fw (by omega) (by omega)] at this
            exact this.mono fun e w' hh => ⟨by rw [hh.1, decide_eq_false (show ¬ sp E ≤ sp E - 1 by omega)]; simp, h.trans (hh.2.mono h.size)⟩
          have C46 : ∀ {wa : World}, Below w5.heap.size w5 wa → Calls Try.prog 12 #[.slice A1 i c1', .func (.func 10) #[] #[.pointer (some ⟨gk, 0, none⟩)]] wa fun e w' => ∃ Ax cx, e = .returned (.slice Ax (i - 1) cx) ∧ Below w5.heap.size w5 w' := fun {wa} h => by
            have hbw := (HB4.out.trans (hb5.mono HB4.out.size)).trans (h.mono (HB4.out.trans (hb5.mono HB4.out.size)).size)
            have hsz : w.heap.size ≤ wa.heap.size := Nat.le_trans HL3.out.bel.size hbw.size
            refine (Open_any1 A1 i c1' w.heap.size (E.map (·.x)) (.pointer (some ⟨gk, 0, none⟩)) (fun x => if x.t.toList == (nm kn).toList then 3 else 1) wa hsz (own_down (own_keep ho5 h) HL.out.bel.size) (by omega) HL.out.n0 (fun wb x hb _ => HS1.out wb x (hbw.trans (hb.mono hbw.size)))).mono ?_
            rintro e w' ⟨v, rfl, ho, hb⟩
            rw [HLF.out] at ho
            obtain ⟨Ax, cx, rfl, -, -⟩ := own_slice ho
            have hlen : ((E.map (·.x)).eraseIdx kn).length = i - 1 := by rw [List.length_eraseIdx, HRL.out, if_pos hkl]
            rw [hlen]
            exact ⟨Ax, cx, rfl, h.trans (hb.mono h.size)⟩
          have C54 : ∀ {wa : World}, Below w5.heap.size w5 wa → Calls Try.prog 11 #[.complex .f64 0 0, .complex .f64 0 0, .slice none 0 0] wa fun e w' => e = .returned (.bool true) ∧ Below w5.heap.size w5 w' := fun {wa} h => (Fits_nil wa).mono fun e w' hh => ⟨hh.1, h.trans (hh.2.mono h.size)⟩
          have C57 : ∀ {wa : World}, Below w5.heap.size w5 wa → Calls Try.prog 9 #[] wa fun e w' => e = .returned (.bool true) ∧ Below w5.heap.size w5 w' := fun {wa} h => (wkk wa).mono fun e w' hh => ⟨hh.1, h.trans (hh.2.mono h.size)⟩
          have HBE := Lib.hid (HL4.out.bel.trans (hb5.mono HL4.out.bel.size))
          have f5 : floatOfInt .f64 (up : Int) = fw up := by rw [ofInt_fw (by omega)]; simp
          have f6 : floatOfInt .f64 (uq : Int) = fw uq := by rw [ofInt_fw (by omega)]; simp
          have s1 : IntKind.i64.wrap ((sp E : Int) - (ek.x.p : Int)) = (up : Int) := by rw [IntKind.wrap_i64]; omega
          have s2 : IntKind.i64.wrap ((sq E : Int) - (ek.x.q : Int)) = (uq : Int) := by rw [IntKind.wrap_i64]; omega
          have s3 : IntKind.i64.wrap ((i : Int) - 1) = ((i - 1 : Nat) : Int) := by rw [IntKind.wrap_i64]; omega
          have o3 := o_self (n := up) (by omega)
          have o4 := o_self (n := uq) (by omega)
          have m1 : ∀ wz, (binOp .sub 25 (.complex .f64 (fw (sp E)) (fw (sq E))) (.complex .f64 0 4607182418800017408)).run Try.prog wz = .ok (.complex .f64 (fw (sp E)) (fw (sq E - 1))) wz := fun wz => by
            have h1 := (sub_one (n := sp E) (by omega)).2
            have h2 := (sub_one (n := sq E - 1) (by omega)).1
            rw [show sq E - 1 + 1 = sq E by omega] at h2
            exact run_complex_sum wz .sub (.inr rfl) _ .f64 _ _ _ _ _ _ (by unfold cSumBits floatBits; simp only [h1, h2, Option.bind_some])
          have m2 : 1 ≤ sp E → ∀ wz, (binOp .sub 25 (.complex .f64 (fw (sp E)) (fw (sq E))) (.complex .f64 4607182418800017408 0)).run Try.prog wz = .ok (.complex .f64 (fw (sp E - 1)) (fw (sq E))) wz := fun hp wz => by
            have h1 := (sub_one (n := sq E) (by omega)).2
            have h2 := (sub_one (n := sp E - 1) (by omega)).1
            rw [show sp E - 1 + 1 = sp E by omega] at h2
            exact run_complex_sum wz .sub (.inr rfl) _ .f64 _ _ _ _ _ _ (by unfold cSumBits floatBits; simp only [h1, h2, Option.bind_some])
          clear hw5 hg5 hb5 hz5 hk5 hL5 ho5 q0 qa qb hes hok
          rcases Nat.eq_zero_or_pos (sp E) with hz | hp
          · clear C39 m2
            have z2 : (((sp E : Nat) : Int) == 0) = true := by simp; omega
            clear hz
            refine wp_region_noPanic ?_
            refine wp_region_held_drew (S := fun wa => Below w5.heap.size w5 wa) (by kernel_rfl) ((Below.refl _ _).drew) (fun hHeld => ?_)
            refine wpAnyH_take (i := 0) (oi := ?oia1) (v := ?va1) ?hia1 (by kernel_rfl) (by kernel_rfl) (by kernel_rfl) (fun _ _ _ h => h) ?hya1 (by with_reducible assumption) ?resta1
            case hia1 => (simp only [List.getElem?_toArray, List.getElem?_cons_zero]; try rfl)
            case hya1 => (refine Or.inl ⟨by rfl, ?_⟩; intro w hSw; go_simp; (try with_reducible rfl))
            try simp only [Act.put, List.setIfInBounds_toArray, List.set_cons_zero, List.set_cons_succ]
            refine wpAnyH_take (i := 1) (oi := ?oia2) (v := ?va2) ?hia2 (by kernel_rfl) (by kernel_rfl) (by kernel_rfl) (fun _ _ _ h => h) ?hya2 (by with_reducible assumption) ?resta2
            case hia2 => (simp only [List.getElem?_toArray, List.getElem?_cons_succ, List.getElem?_cons_zero]; try rfl)
            case hya2 => (refine Or.inl ⟨by rfl, ?_⟩; intro w hSw; go_simp; (try with_reducible rfl))
            try simp only [Act.put, List.setIfInBounds_toArray, List.set_cons_zero, List.set_cons_succ]
            refine wpAnyH_take (i := 2) (oi := ?oia3) (v := ?va3) ?hia3 (by kernel_rfl) (by kernel_rfl) (by kernel_rfl) (fun _ _ _ h => h) ?hya3 (by with_reducible assumption) ?resta3
            case hia3 => (simp only [List.getElem?_toArray, List.getElem?_cons_succ, List.getElem?_cons_zero]; try rfl)
            case hya3 => (refine Or.inl ⟨by rfl, ?_⟩; intro w hSw; go_simp; (try with_reducible rfl))
            try simp only [Act.put, List.setIfInBounds_toArray, List.set_cons_zero, List.set_cons_succ]
            refine wpAnyH_take (i := 3) (oi := ?oia4) (v := ?va4) ?hia4 (by kernel_rfl) (by kernel_rfl) (by kernel_rfl) (fun _ _ _ h => h) ?hya4 (by with_reducible assumption) ?resta4
            case hia4 => (simp only [List.getElem?_toArray, List.getElem?_cons_succ, List.getElem?_cons_zero]; try rfl)
            case hya4 => (refine Or.inl ⟨by rfl, ?_⟩; intro w hSw; have q := Q0 hSw; go_simp; (try with_reducible rfl))
            try simp only [Act.put, List.setIfInBounds_toArray, List.set_cons_zero, List.set_cons_succ]
            refine wpAnyH_take (i := 4) (oi := ?oia5) (v := ?va5) ?hia5 (by kernel_rfl) (by kernel_rfl) (by kernel_rfl) (fun _ _ _ h => h) ?hya5 (by with_reducible assumption) ?resta5
            case hia5 => (simp only [List.getElem?_toArray, List.getElem?_cons_succ, List.getElem?_cons_zero]; try rfl)
            case hya5 => (refine Or.inl ⟨by rfl, ?_⟩; intro w hSw; go_simp; (try with_reducible rfl))
            try simp only [Act.put, List.setIfInBounds_toArray, List.set_cons_zero, List.set_cons_succ]
            refine wpAnyH_take (i := 5) (oi := ?oia6) (v := ?va6) ?hia6 (by kernel_rfl) (by kernel_rfl) (by kernel_rfl) (fun _ _ _ h => h) ?hya6 (by with_reducible assumption) ?resta6
            case hia6 => (simp only [List.getElem?_toArray, List.getElem?_cons_succ, List.getElem?_cons_zero]; try rfl)
            case hya6 => (refine Or.inl ⟨by rfl, ?_⟩; intro w hSw; have q := QA hSw; go_simp; (try with_reducible rfl))
            try simp only [Act.put, List.setIfInBounds_toArray, List.set_cons_zero, List.set_cons_succ]
            refine wpAnyH_take (i := 6) (oi := ?oia7) (v := ?va7) ?hia7 (by kernel_rfl) (by kernel_rfl) (by kernel_rfl) (fun _ _ _ h => h) ?hya7 (by with_reducible assumption) ?resta7
            case hia7 => (simp only [List.getElem?_toArray, List.getElem?_cons_succ, List.getElem?_cons_zero]; try rfl)
            case hya7 => (refine Or.inl ⟨by rfl, ?_⟩; intro w hSw; go_simp; (try with_reducible rfl))
            try simp only [Act.put, List.setIfInBounds_toArray, List.set_cons_zero, List.set_cons_succ]
            refine wpAnyH_take (i := 7) (oi := ?oia8) (v := ?va8) ?hia8 (by kernel_rfl) (by kernel_rfl) (by kernel_rfl) (fun _ _ _ h => h) ?hya8 (by with_reducible assumption) ?resta8
            case hia8 => (simp only [List.getElem?_toArray, List.getElem?_cons_succ, List.getElem?_cons_zero]; try rfl)
            case hya8 => (refine Or.inl ⟨by rfl, ?_⟩; intro w hSw; go_simp; (try with_reducible rfl))
            try simp only [Act.put, List.setIfInBounds_toArray, List.set_cons_zero, List.set_cons_succ]
            refine wpAnyH_take (i := 8) (oi := ?oia9) (v := ?va9) ?hia9 (by kernel_rfl) (by kernel_rfl) (by kernel_rfl) (fun _ _ _ h => h) ?hya9 (by with_reducible assumption) ?resta9
            case hia9 => (simp only [List.getElem?_toArray, List.getElem?_cons_succ, List.getElem?_cons_zero]; try rfl)
            case hya9 => (refine Or.inl ⟨by rfl, ?_⟩; intro w hSw; go_simp; (try with_reducible rfl))
            try simp only [Act.put, List.setIfInBounds_toArray, List.set_cons_zero, List.set_cons_succ]
            refine wpAnyH_take (i := 9) (oi := ?oia10) (v := ?va10) ?hia10 (by kernel_rfl) (by kernel_rfl) (by kernel_rfl) (fun _ _ _ h => h) ?hya10 (by with_reducible assumption) ?resta10
            case hia10 => (simp only [List.getElem?_toArray, List.getElem?_cons_succ, List.getElem?_cons_zero]; try rfl)
            case hya10 => (refine Or.inl ⟨by rfl, ?_⟩; intro w hSw; go_simp; (try with_reducible rfl))
            try simp only [Act.put, List.setIfInBounds_toArray, List.set_cons_zero, List.set_cons_succ]
            refine wpAnyH_take (i := 10) (oi := ?oia11) (v := ?va11) ?hia11 (by kernel_rfl) (by kernel_rfl) (by kernel_rfl) (fun _ _ _ h => h) ?hya11 (by with_reducible assumption) ?resta11
            case hia11 => (simp only [List.getElem?_toArray, List.getElem?_cons_succ, List.getElem?_cons_zero]; try rfl)
            case hya11 => (refine Or.inl ⟨by rfl, ?_⟩; intro w hSw; have q := Q0 hSw; go_simp; (try with_reducible rfl))
            try simp only [Act.put, List.setIfInBounds_toArray, List.set_cons_zero, List.set_cons_succ]
            refine wpAnyH_take (i := 11) (oi := ?oia12) (v := ?va12) ?hia12 (by kernel_rfl) (by kernel_rfl) (by kernel_rfl) (fun _ _ _ h => h) ?hya12 (by with_reducible assumption) ?resta12
            case hia12 => (simp only [List.getElem?_toArray, List.getElem?_cons_succ, List.getElem?_cons_zero]; try rfl)
            case hya12 => (refine Or.inl ⟨by rfl, ?_⟩; intro w hSw; go_simp; (try with_reducible rfl))
            try simp only [Act.put, List.setIfInBounds_toArray, List.set_cons_zero, List.set_cons_succ]
            refine wpAnyH_take (i := 12) (oi := ?oia13) (v := ?va13) ?hia13 (by kernel_rfl) (by kernel_rfl) (by kernel_rfl) (fun _ _ _ h => h) ?hya13 (by with_reducible assumption) ?resta13
            case hia13 => (simp only [List.getElem?_toArray, List.getElem?_cons_succ, List.getElem?_cons_zero]; try rfl)
            case hya13 => (refine Or.inl ⟨by rfl, ?_⟩; intro w hSw; have q := QB hSw; go_simp; (try with_reducible rfl))
            try simp only [Act.put, List.setIfInBounds_toArray, List.set_cons_zero, List.set_cons_succ]
            refine wpAnyH_take (i := 13) (oi := ?oia14) (v := ?va14) ?hia14 (by kernel_rfl) (by kernel_rfl) (by kernel_rfl) (fun _ _ _ h => h) ?hya14 (by with_reducible assumption) ?resta14
            case hia14 => (simp only [List.getElem?_toArray, List.getElem?_cons_succ, List.getElem?_cons_zero]; try rfl)
            case hya14 => (refine Or.inl ⟨by rfl, ?_⟩; intro w hSw; go_simp; (try with_reducible rfl))
            try simp only [Act.put, List.setIfInBounds_toArray, List.set_cons_zero, List.set_cons_succ]
            refine wpAnyH_take (i := 14) (oi := ?oia15) (v := ?va15) ?hia15 (by kernel_rfl) (by kernel_rfl) (by kernel_rfl) (fun _ _ _ h => h) ?hya15 (by with_reducible assumption) ?resta15
            case hia15 => (simp only [List.getElem?_toArray, List.getElem?_cons_succ, List.getElem?_cons_zero]; try rfl)
            case hya15 => (refine Or.inl ⟨by rfl, ?_⟩; intro w hSw; go_simp; (try with_reducible rfl))
            try simp only [Act.put, List.setIfInBounds_toArray, List.set_cons_zero, List.set_cons_succ]
            refine wpAnyH_take (i := 15) (oi := ?oia16) (v := ?va16) ?hia16 (by kernel_rfl) (by kernel_rfl) (by kernel_rfl) (fun _ _ _ h => h) ?hya16 (by with_reducible assumption) ?resta16
            case hia16 => (simp only [List.getElem?_toArray, List.getElem?_cons_succ, List.getElem?_cons_zero]; try rfl)
            case hya16 => (refine Or.inl ⟨by rfl, ?_⟩; intro w hSw; go_simp; (try with_reducible rfl))
            try simp only [Act.put, List.setIfInBounds_toArray, List.set_cons_zero, List.set_cons_succ]
            refine wpAnyH_take (i := 16) (oi := ?oia17) (v := ?va17) ?hia17 (by kernel_rfl) (by kernel_rfl) (by kernel_rfl) (fun _ _ _ h => h) ?hya17 (by with_reducible assumption) ?resta17
            case hia17 => (simp only [List.getElem?_toArray, List.getElem?_cons_succ, List.getElem?_cons_zero]; try rfl)
            case hya17 => (refine Or.inl ⟨by rfl, ?_⟩; intro w hSw; go_simp; (try with_reducible rfl))
            try simp only [Act.put, List.setIfInBounds_toArray, List.set_cons_zero, List.set_cons_succ]
            refine wpAnyH_take (i := 17) (oi := ?oia18) (v := ?va18) ?hia18 (by kernel_rfl) (by kernel_rfl) (by kernel_rfl) (fun _ _ _ h => h) ?hya18 (by with_reducible assumption) ?resta18
            case hia18 => (simp only [List.getElem?_toArray, List.getElem?_cons_succ, List.getElem?_cons_zero]; try rfl)
            case hya18 => (refine Or.inl ⟨by rfl, ?_⟩; intro w hSw; go_simp; (try with_reducible rfl))
            try simp only [Act.put, List.setIfInBounds_toArray, List.set_cons_zero, List.set_cons_succ]
            refine wpAnyH_take (i := 18) (oi := ?oia19) (v := ?va19) ?hia19 (by kernel_rfl) (by kernel_rfl) (by kernel_rfl) (fun _ _ _ h => h) ?hya19 (by with_reducible assumption) ?resta19
            case hia19 => (simp only [List.getElem?_toArray, List.getElem?_cons_succ, List.getElem?_cons_zero]; try rfl)
            case hya19 => (refine Or.inl ⟨by rfl, ?_⟩; intro w hSw; go_simp; (try with_reducible rfl))
            try simp only [Act.put, List.setIfInBounds_toArray, List.set_cons_zero, List.set_cons_succ]
            refine wpAnyH_take (i := 19) (oi := ?oia20) (v := ?va20) ?hia20 (by kernel_rfl) (by kernel_rfl) (by kernel_rfl) (fun _ _ _ h => h) ?hya20 (by with_reducible assumption) ?resta20
            case hia20 => (simp only [List.getElem?_toArray, List.getElem?_cons_succ, List.getElem?_cons_zero]; try rfl)
            case hya20 => (refine Or.inl ⟨by rfl, ?_⟩; intro w hSw; go_simp; (try with_reducible rfl))
            try simp only [Act.put, List.setIfInBounds_toArray, List.set_cons_zero, List.set_cons_succ]
            refine wpAnyH_take (i := 20) (oi := ?oia21) (v := ?va21) ?hia21 (by kernel_rfl) (by kernel_rfl) (by kernel_rfl) (fun _ _ _ h => h) ?hya21 (by with_reducible assumption) ?resta21
            case hia21 => (simp only [List.getElem?_toArray, List.getElem?_cons_succ, List.getElem?_cons_zero]; try rfl)
            case hya21 => (refine Or.inl ⟨by rfl, ?_⟩; intro w hSw; go_simp; (try with_reducible rfl))
            try simp only [Act.put, List.setIfInBounds_toArray, List.set_cons_zero, List.set_cons_succ]
            refine wpAnyH_ready (rs := [21]) (by kernel_rfl) (by simp) ?_
            refine AllReadyH.cons (o := ?oia22) ?hia22 (fun K hK => ?sta22) AllReadyH.nil
            case hia22 => (simp only [List.getElem?_toArray, List.getElem?_cons_succ, List.getElem?_cons_zero]; try rfl)
            go_simp
            refine (C21 (by with_reducible assumption)).mono ?_
            rintro e wza22 ⟨rfl, hba22⟩
            try dsimp only
            refine hK.out _ _ hba22 (fun hHeld => ?rsa22)
            clear hK K
            try simp only [Act.put, List.setIfInBounds_toArray, List.set_cons_zero, List.set_cons_succ]
            refine wpAnyH_take (i := 22) (oi := ?oia23) (v := ?va23) ?hia23 (by kernel_rfl) (by kernel_rfl) (by kernel_rfl) (fun _ _ _ h => h) ?hya23 (by with_reducible assumption) ?resta23
            case hia23 => (simp only [List.getElem?_toArray, List.getElem?_cons_succ, List.getElem?_cons_zero]; try rfl)
            case hya23 => (refine Or.inl ⟨by rfl, ?_⟩; intro w hSw; go_simp; (try with_reducible rfl))
            try simp only [Act.put, List.setIfInBounds_toArray, List.set_cons_zero, List.set_cons_succ]
            refine wpAnyH_take (i := 23) (oi := ?oia24) (v := ?va24) ?hia24 (by kernel_rfl) (by kernel_rfl) (by kernel_rfl) (fun _ _ _ h => h) ?hya24 (by with_reducible assumption) ?resta24
            case hia24 => (simp only [List.getElem?_toArray, List.getElem?_cons_succ, List.getElem?_cons_zero]; try rfl)
            case hya24 => (refine Or.inl ⟨by rfl, ?_⟩; intro w hSw; go_simp; (try with_reducible rfl))
            try simp only [Act.put, List.setIfInBounds_toArray, List.set_cons_zero, List.set_cons_succ]
            refine wpAnyH_take (i := 24) (oi := ?oia25) (v := ?va25) ?hia25 (by kernel_rfl) (by kernel_rfl) (by kernel_rfl) (fun _ _ _ h => h) ?hya25 (by with_reducible assumption) ?resta25
            case hia25 => (simp only [List.getElem?_toArray, List.getElem?_cons_succ, List.getElem?_cons_zero]; try rfl)
            case hya25 => (refine Or.inl ⟨by rfl, ?_⟩; intro w hSw; go_simp; (try with_reducible rfl))
            try simp only [Act.put, List.setIfInBounds_toArray, List.set_cons_zero, List.set_cons_succ]
            refine wpAnyH_take (i := 25) (oi := ?oia26) (v := ?va26) ?hia26 (by kernel_rfl) (by kernel_rfl) (by kernel_rfl) (fun _ _ _ h => h) ?hya26 (by with_reducible assumption) ?resta26
            case hia26 => (simp only [List.getElem?_toArray, List.getElem?_cons_succ, List.getElem?_cons_zero]; try rfl)
            case hya26 => (refine Or.inl ⟨by rfl, ?_⟩; intro w hSw; go_simp; (try with_reducible rfl))
            try simp only [Act.put, List.setIfInBounds_toArray, List.set_cons_zero, List.set_cons_succ]
            refine wpAnyH_take (i := 26) (oi := ?oia27) (v := ?va27) ?hia27 (by kernel_rfl) (by kernel_rfl) (by kernel_rfl) (fun _ _ _ h => h) ?hya27 (by with_reducible assumption) ?resta27
            case hia27 => (simp only [List.getElem?_toArray, List.getElem?_cons_succ, List.getElem?_cons_zero]; try rfl)
            case hya27 => (refine Or.inl ⟨by rfl, ?_⟩; intro w hSw; go_simp; (try with_reducible rfl))
            try simp only [Act.put, List.setIfInBounds_toArray, List.set_cons_zero, List.set_cons_succ]
            refine wpAnyH_take (i := 27) (oi := ?oia28) (v := ?va28) ?hia28 (by kernel_rfl) (by kernel_rfl) (by kernel_rfl) (fun _ _ _ h => h) ?hya28 (by with_reducible assumption) ?resta28
            case hia28 => (simp only [List.getElem?_toArray, List.getElem?_cons_succ, List.getElem?_cons_zero]; try rfl)
            case hya28 => (refine Or.inl ⟨by rfl, ?_⟩; intro w hSw; go_simp; (try with_reducible rfl))
            try simp only [Act.put, List.setIfInBounds_toArray, List.set_cons_zero, List.set_cons_succ]
            refine wpAnyH_ready (rs := [28]) (by kernel_rfl) (by simp) ?_
            refine AllReadyH.cons (o := ?oia29) ?hia29 (fun K hK => ?sta29) AllReadyH.nil
            case hia29 => (simp only [List.getElem?_toArray, List.getElem?_cons_succ, List.getElem?_cons_zero]; try rfl)
            go_simp
            refine (C28 (by with_reducible assumption)).mono ?_
            rintro e wza29 ⟨rfl, hba29⟩
            try dsimp only
            refine hK.out _ _ hba29 (fun hHeld => ?rsa29)
            clear hK K
            try simp only [Act.put, List.setIfInBounds_toArray, List.set_cons_zero, List.set_cons_succ]
            refine wpAnyH_take (i := 29) (oi := ?oia30) (v := ?va30) ?hia30 (by kernel_rfl) (by kernel_rfl) (by kernel_rfl) (fun _ _ _ h => h) ?hya30 (by with_reducible assumption) ?resta30
            case hia30 => (simp only [List.getElem?_toArray, List.getElem?_cons_succ, List.getElem?_cons_zero]; try rfl)
            case hya30 => (refine Or.inl ⟨by rfl, ?_⟩; intro w hSw; go_simp; (try with_reducible rfl))
            try simp only [Act.put, List.setIfInBounds_toArray, List.set_cons_zero, List.set_cons_succ]
            refine wpAnyH_take (i := 30) (oi := ?oia31) (v := ?va31) ?hia31 (by kernel_rfl) (by kernel_rfl) (by kernel_rfl) (fun _ _ _ h => h) ?hya31 (by with_reducible assumption) ?resta31
            case hia31 => (simp only [List.getElem?_toArray, List.getElem?_cons_succ, List.getElem?_cons_zero]; try rfl)
            case hya31 => (refine Or.inl ⟨by rfl, ?_⟩; intro w hSw; go_simp; (try with_reducible rfl))
            try simp only [Act.put, List.setIfInBounds_toArray, List.set_cons_zero, List.set_cons_succ]
            refine wpAnyH_take (i := 31) (oi := ?oia32) (v := ?va32) ?hia32 (by kernel_rfl) (by kernel_rfl) (by kernel_rfl) (fun _ _ _ h => h) ?hya32 (by with_reducible assumption) ?resta32
            case hia32 => (simp only [List.getElem?_toArray, List.getElem?_cons_succ, List.getElem?_cons_zero]; try rfl)
            case hya32 => (refine Or.inl ⟨by rfl, ?_⟩; intro w hSw; go_simp; (try with_reducible rfl))
            try simp only [Act.put, List.setIfInBounds_toArray, List.set_cons_zero, List.set_cons_succ]
            refine wpAnyH_take (i := 32) (oi := ?oia33) (v := ?va33) ?hia33 (by kernel_rfl) (by kernel_rfl) (by kernel_rfl) (fun _ _ _ h => h) ?hya33 (by with_reducible assumption) ?resta33
            case hia33 => (simp only [List.getElem?_toArray, List.getElem?_cons_succ, List.getElem?_cons_zero]; try rfl)
            case hya33 => (refine Or.inl ⟨by rfl, ?_⟩; intro w hSw; go_simp; (try with_reducible rfl))
            try simp only [Act.put, List.setIfInBounds_toArray, List.set_cons_zero, List.set_cons_succ]
            refine wpAnyH_take (i := 33) (oi := ?oia34) (v := ?va34) ?hia34 (by kernel_rfl) (by kernel_rfl) (by kernel_rfl) (fun _ _ _ h => h) ?hya34 (by with_reducible assumption) ?resta34
            case hia34 => (simp only [List.getElem?_toArray, List.getElem?_cons_succ, List.getElem?_cons_zero]; try rfl)
            case hya34 => (refine Or.inl ⟨by rfl, ?_⟩; intro w hSw; go_simp; (try with_reducible rfl))
            try simp only [Act.put, List.setIfInBounds_toArray, List.set_cons_zero, List.set_cons_succ]
            refine wpAnyH_take (i := 34) (oi := ?oia35) (v := ?va35) ?hia35 (by kernel_rfl) (by kernel_rfl) (by kernel_rfl) (fun _ _ _ h => h) ?hya35 (by with_reducible assumption) ?resta35
            case hia35 => (simp only [List.getElem?_toArray, List.getElem?_cons_succ, List.getElem?_cons_zero]; try rfl)
            case hya35 => (refine Or.inl ⟨by rfl, ?_⟩; intro w hSw; go_simp; (try with_reducible rfl))
            try simp only [Act.put, List.setIfInBounds_toArray, List.set_cons_zero, List.set_cons_succ]
            refine wpAnyH_take (i := 35) (oi := ?oia36) (v := undef) ?hia36 (by kernel_rfl) (by kernel_rfl) (by kernel_rfl) (fun _ _ _ h => h) ?hya36 (by with_reducible assumption) ?resta36
            case hia36 => (simp only [List.getElem?_toArray, List.getElem?_cons_succ, List.getElem?_cons_zero]; try rfl)
            case hya36 => exact Or.inr ⟨by rfl, rfl⟩
            try simp only [Act.put, List.setIfInBounds_toArray, List.set_cons_zero, List.set_cons_succ]
            refine wpAnyH_take (i := 36) (oi := ?oia37) (v := undef) ?hia37 (by kernel_rfl) (by kernel_rfl) (by kernel_rfl) (fun _ _ _ h => h) ?hya37 (by with_reducible assumption) ?resta37
            case hia37 => (simp only [List.getElem?_toArray, List.getElem?_cons_succ, List.getElem?_cons_zero]; try rfl)
            case hya37 => exact Or.inr ⟨by rfl, rfl⟩
            try simp only [Act.put, List.setIfInBounds_toArray, List.set_cons_zero, List.set_cons_succ]
            refine wpAnyH_take (i := 37) (oi := ?oia38) (v := undef) ?hia38 (by kernel_rfl) (by kernel_rfl) (by kernel_rfl) (fun _ _ _ h => h) ?hya38 (by with_reducible assumption) ?resta38
            case hia38 => (simp only [List.getElem?_toArray, List.getElem?_cons_succ, List.getElem?_cons_zero]; try rfl)
            case hya38 => exact Or.inr ⟨by rfl, rfl⟩
            try simp only [Act.put, List.setIfInBounds_toArray, List.set_cons_zero, List.set_cons_succ]
            refine wpAnyH_take (i := 38) (oi := ?oia39) (v := undef) ?hia39 (by kernel_rfl) (by kernel_rfl) (by kernel_rfl) (fun _ _ _ h => h) ?hya39 (by with_reducible assumption) ?resta39
            case hia39 => (simp only [List.getElem?_toArray, List.getElem?_cons_succ, List.getElem?_cons_zero]; try rfl)
            case hya39 => exact Or.inr ⟨by rfl, rfl⟩
            try simp only [Act.put, List.setIfInBounds_toArray, List.set_cons_zero, List.set_cons_succ]
            refine wpAnyH_take (i := 39) (oi := ?oia40) (v := undef) ?hia40 (by kernel_rfl) (by kernel_rfl) (by kernel_rfl) (fun _ _ _ h => h) ?hya40 (by with_reducible assumption) ?resta40
            case hia40 => (simp only [List.getElem?_toArray, List.getElem?_cons_succ, List.getElem?_cons_zero]; try rfl)
            case hya40 => exact Or.inr ⟨by rfl, rfl⟩
            try simp only [Act.put, List.setIfInBounds_toArray, List.set_cons_zero, List.set_cons_succ]
            refine wpAnyH_take (i := 40) (oi := ?oia41) (v := undef) ?hia41 (by kernel_rfl) (by kernel_rfl) (by kernel_rfl) (fun _ _ _ h => h) ?hya41 (by with_reducible assumption) ?resta41
            case hia41 => (simp only [List.getElem?_toArray, List.getElem?_cons_succ, List.getElem?_cons_zero]; try rfl)
            case hya41 => exact Or.inr ⟨by rfl, rfl⟩
            try simp only [Act.put, List.setIfInBounds_toArray, List.set_cons_zero, List.set_cons_succ]
            refine wpAnyH_take (i := 41) (oi := ?oia42) (v := ?va42) ?hia42 (by kernel_rfl) (by kernel_rfl) (by kernel_rfl) (fun _ _ _ h => h) ?hya42 (by with_reducible assumption) ?resta42
            case hia42 => (simp only [List.getElem?_toArray, List.getElem?_cons_succ, List.getElem?_cons_zero]; try rfl)
            case hya42 => (refine Or.inl ⟨by rfl, ?_⟩; intro w hSw; go_simp; (try with_reducible rfl))
            try simp only [Act.put, List.setIfInBounds_toArray, List.set_cons_zero, List.set_cons_succ]
            refine wpAnyH_take (i := 42) (oi := ?oia43) (v := ?va43) ?hia43 (by kernel_rfl) (by kernel_rfl) (by kernel_rfl) (fun _ _ _ h => h) ?hya43 (by with_reducible assumption) ?resta43
            case hia43 => (simp only [List.getElem?_toArray, List.getElem?_cons_succ, List.getElem?_cons_zero]; try rfl)
            case hya43 => (refine Or.inl ⟨by rfl, ?_⟩; intro w hSw; go_simp; (try with_reducible rfl))
            try simp only [Act.put, List.setIfInBounds_toArray, List.set_cons_zero, List.set_cons_succ]
            refine wpAnyH_take (i := 43) (oi := ?oia44) (v := ?va44) ?hia44 (by kernel_rfl) (by kernel_rfl) (by kernel_rfl) (fun _ _ _ h => h) ?hya44 (by with_reducible assumption) ?resta44
            case hia44 => (simp only [List.getElem?_toArray, List.getElem?_cons_succ, List.getElem?_cons_zero]; try rfl)
            case hya44 => (refine Or.inl ⟨by rfl, ?_⟩; intro w hSw; go_simp; (try with_reducible rfl))
            try simp only [Act.put, List.setIfInBounds_toArray, List.set_cons_zero, List.set_cons_succ]
            refine wpAnyH_take (i := 44) (oi := ?oia45) (v := ?va45) ?hia45 (by kernel_rfl) (by kernel_rfl) (by kernel_rfl) (fun _ _ _ h => h) ?hya45 (by with_reducible assumption) ?resta45
            case hia45 => (simp only [List.getElem?_toArray, List.getElem?_cons_succ, List.getElem?_cons_zero]; try rfl)
            case hya45 => (refine Or.inl ⟨by rfl, ?_⟩; intro w hSw; go_simp; (try with_reducible rfl))
            try simp only [Act.put, List.setIfInBounds_toArray, List.set_cons_zero, List.set_cons_succ]
            refine wpAnyH_take (i := 45) (oi := ?oia46) (v := ?va46) ?hia46 (by kernel_rfl) (by kernel_rfl) (by kernel_rfl) (fun _ _ _ h => h) ?hya46 (by with_reducible assumption) ?resta46
            case hia46 => (simp only [List.getElem?_toArray, List.getElem?_cons_succ, List.getElem?_cons_zero]; try rfl)
            case hya46 => (refine Or.inl ⟨by rfl, ?_⟩; intro w hSw; go_simp; (try with_reducible rfl))
            try simp only [Act.put, List.setIfInBounds_toArray, List.set_cons_zero, List.set_cons_succ]
            refine wpAnyH_take (i := 48) (oi := ?oia47) (v := ?va47) ?hia47 (by kernel_rfl) (by kernel_rfl) (by kernel_rfl) (fun _ _ _ h => h) ?hya47 (by with_reducible assumption) ?resta47
            case hia47 => (simp only [List.getElem?_toArray, List.getElem?_cons_succ, List.getElem?_cons_zero]; try rfl)
            case hya47 => (refine Or.inl ⟨by rfl, ?_⟩; intro w hSw; go_simp; (try with_reducible rfl))
            try simp only [Act.put, List.setIfInBounds_toArray, List.set_cons_zero, List.set_cons_succ]
            refine wpAnyH_take (i := 49) (oi := ?oia48) (v := ?va48) ?hia48 (by kernel_rfl) (by kernel_rfl) (by kernel_rfl) (fun _ _ _ h => h) ?hya48 (by with_reducible assumption) ?resta48
            case hia48 => (simp only [List.getElem?_toArray, List.getElem?_cons_succ, List.getElem?_cons_zero]; try rfl)
            case hya48 => (refine Or.inl ⟨by rfl, ?_⟩; intro w hSw; go_simp; (try with_reducible rfl))
            try simp only [Act.put, List.setIfInBounds_toArray, List.set_cons_zero, List.set_cons_succ]
            refine wpAnyH_take (i := 50) (oi := ?oia49) (v := ?va49) ?hia49 (by kernel_rfl) (by kernel_rfl) (by kernel_rfl) (fun _ _ _ h => h) ?hya49 (by with_reducible assumption) ?resta49
            case hia49 => (simp only [List.getElem?_toArray, List.getElem?_cons_succ, List.getElem?_cons_zero]; try rfl)
            case hya49 => (refine Or.inl ⟨by rfl, ?_⟩; intro w hSw; go_simp; (try with_reducible rfl))
            try simp only [Act.put, List.setIfInBounds_toArray, List.set_cons_zero, List.set_cons_succ]
            refine wpAnyH_ready (rs := [46]) (by kernel_rfl) (by simp) ?_
            refine AllReadyH.cons (o := ?oia50) ?hia50 (fun K hK => ?sta50) AllReadyH.nil
            case hia50 => (simp only [List.getElem?_toArray, List.getElem?_cons_succ, List.getElem?_cons_zero]; try rfl)
            go_simp
            refine (C46 (by with_reducible assumption)).mono ?_
            rintro e wza50 ⟨Ax, cx, rfl, hba50⟩
            try dsimp only
            refine hK.out _ _ hba50 (fun hHeld => ?rsa50)
            clear hK K
            try simp only [Act.put, List.setIfInBounds_toArray, List.set_cons_zero, List.set_cons_succ]
            refine wpAnyH_take (i := 47) (oi := ?oia51) (v := ?va51) ?hia51 (by kernel_rfl) (by kernel_rfl) (by kernel_rfl) (fun _ _ _ h => h) ?hya51 (by with_reducible assumption) ?resta51
            case hia51 => (simp only [List.getElem?_toArray, List.getElem?_cons_succ, List.getElem?_cons_zero]; try rfl)
            case hya51 => (refine Or.inl ⟨by rfl, ?_⟩; intro w hSw; go_simp; (try with_reducible rfl))
            try simp only [Act.put, List.setIfInBounds_toArray, List.set_cons_zero, List.set_cons_succ]
            refine wpAnyH_take (i := 51) (oi := ?oia52) (v := ?va52) ?hia52 (by kernel_rfl) (by kernel_rfl) (by kernel_rfl) (fun _ _ _ h => h) ?hya52 (by with_reducible assumption) ?resta52
            case hia52 => (simp only [List.getElem?_toArray, List.getElem?_cons_succ, List.getElem?_cons_zero]; try rfl)
            case hya52 => (refine Or.inl ⟨by rfl, ?_⟩; intro w hSw; go_simp; (try with_reducible rfl))
            try simp only [Act.put, List.setIfInBounds_toArray, List.set_cons_zero, List.set_cons_succ]
            refine wpAnyH_take (i := 52) (oi := ?oia53) (v := ?va53) ?hia53 (by kernel_rfl) (by kernel_rfl) (by kernel_rfl) (fun _ _ _ h => h) ?hya53 (by with_reducible assumption) ?resta53
            case hia53 => (simp only [List.getElem?_toArray, List.getElem?_cons_succ, List.getElem?_cons_zero]; try rfl)
            case hya53 => (refine Or.inl ⟨by rfl, ?_⟩; intro w hSw; go_simp; (try with_reducible rfl))
            try simp only [Act.put, List.setIfInBounds_toArray, List.set_cons_zero, List.set_cons_succ]
            refine wpAnyH_take (i := 53) (oi := ?oia54) (v := ?va54) ?hia54 (by kernel_rfl) (by kernel_rfl) (by kernel_rfl) (fun _ _ _ h => h) ?hya54 (by with_reducible assumption) ?resta54
            case hia54 => (simp only [List.getElem?_toArray, List.getElem?_cons_succ, List.getElem?_cons_zero]; try rfl)
            case hya54 => (refine Or.inl ⟨by rfl, ?_⟩; intro w hSw; go_simp; (try with_reducible rfl))
            try simp only [Act.put, List.setIfInBounds_toArray, List.set_cons_zero, List.set_cons_succ]
            refine wpAnyH_ready (rs := [54]) (by kernel_rfl) (by simp) ?_
            refine AllReadyH.cons (o := ?oia55) ?hia55 (fun K hK => ?sta55) AllReadyH.nil
            case hia55 => (simp only [List.getElem?_toArray, List.getElem?_cons_succ, List.getElem?_cons_zero]; try rfl)
            go_simp
            refine (C54 (by with_reducible assumption)).mono ?_
            rintro e wza55 ⟨rfl, hba55⟩
            try dsimp only
            refine hK.out _ _ hba55 (fun hHeld => ?rsa55)
            clear hK K
            try simp only [Act.put, List.setIfInBounds_toArray, List.set_cons_zero, List.set_cons_succ]
            refine wpAnyH_take (i := 55) (oi := ?oia56) (v := ?va56) ?hia56 (by kernel_rfl) (by kernel_rfl) (by kernel_rfl) (fun _ _ _ h => h) ?hya56 (by with_reducible assumption) ?resta56
            case hia56 => (simp only [List.getElem?_toArray, List.getElem?_cons_succ, List.getElem?_cons_zero]; try rfl)
            case hya56 => (refine Or.inl ⟨by rfl, ?_⟩; intro w hSw; go_simp; (try with_reducible rfl))
            try simp only [Act.put, List.setIfInBounds_toArray, List.set_cons_zero, List.set_cons_succ]
            refine wpAnyH_take (i := 56) (oi := ?oia57) (v := ?va57) ?hia57 (by kernel_rfl) (by kernel_rfl) (by kernel_rfl) (fun _ _ _ h => h) ?hya57 (by with_reducible assumption) ?resta57
            case hia57 => (simp only [List.getElem?_toArray, List.getElem?_cons_succ, List.getElem?_cons_zero]; try rfl)
            case hya57 => (refine Or.inl ⟨by rfl, ?_⟩; intro w hSw; go_simp; (try with_reducible rfl))
            try simp only [Act.put, List.setIfInBounds_toArray, List.set_cons_zero, List.set_cons_succ]
            refine wpAnyH_ready (rs := [57]) (by kernel_rfl) (by simp) ?_
            refine AllReadyH.cons (o := ?oia58) ?hia58 (fun K hK => ?sta58) AllReadyH.nil
            case hia58 => (simp only [List.getElem?_toArray, List.getElem?_cons_succ, List.getElem?_cons_zero]; try rfl)
            go_simp
            refine (C57 (by with_reducible assumption)).mono ?_
            rintro e wza58 ⟨rfl, hba58⟩
            try dsimp only
            refine hK.out _ _ hba58 (fun hHeld => ?rsa58)
            clear hK K
            try simp only [Act.put, List.setIfInBounds_toArray, List.set_cons_zero, List.set_cons_succ]
            refine wpAnyH_take (i := 58) (oi := ?oia59) (v := ?va59) ?hia59 (by kernel_rfl) (by kernel_rfl) (by kernel_rfl) (fun _ _ _ h => h) ?hya59 (by with_reducible assumption) ?resta59
            case hia59 => (simp only [List.getElem?_toArray, List.getElem?_cons_succ, List.getElem?_cons_zero]; try rfl)
            case hya59 => (refine Or.inl ⟨by rfl, ?_⟩; intro w hSw; go_simp; (try with_reducible rfl))
            try simp only [Act.put, List.setIfInBounds_toArray, List.set_cons_zero, List.set_cons_succ]
            refine wpAnyH_take (i := 59) (oi := ?oia60) (v := ?va60) ?hia60 (by kernel_rfl) (by kernel_rfl) (by kernel_rfl) (fun _ _ _ h => h) ?hya60 (by with_reducible assumption) ?resta60
            case hia60 => (simp only [List.getElem?_toArray, List.getElem?_cons_succ, List.getElem?_cons_zero]; try rfl)
            case hya60 => (refine Or.inl ⟨by rfl, ?_⟩; intro w hSw; go_simp; (try with_reducible rfl))
            try simp only [Act.put, List.setIfInBounds_toArray, List.set_cons_zero, List.set_cons_succ]
            refine wpAnyH_done (by kernel_rfl) ?_ _
            refine NoPanic.normal ?_
            go_wp2_with fail
            go_ret
            exact ⟨rfl, HBE.out.trans (hHeld.mono HBE.out.size)⟩
          · have C39 := fun {wa : World} => @C39 hp wa
            have m2 := m2 hp
            have z1 : ¬ ((sp E : Nat) : Int) = 0 := by omega
            have z2 : (((sp E : Nat) : Int) == 0) = false := by simp; omega
            have z3 : (sp E == 0) = false := by simp; omega
            have z4 : ¬ sp E = 0 := by omega
            refine wp_region_noPanic ?_
            refine wp_region_held_drew (S := fun wa => Below w5.heap.size w5 wa) (by kernel_rfl) ((Below.refl _ _).drew) (fun hHeld => ?_)
            refine wpAnyH_take (i := 0) (oi := ?oib1) (v := ?vb1) ?hib1 (by kernel_rfl) (by kernel_rfl) (by kernel_rfl) (fun _ _ _ h => h) ?hyb1 (by with_reducible assumption) ?restb1
            case hib1 => (simp only [List.getElem?_toArray, List.getElem?_cons_zero]; try rfl)
            case hyb1 => (refine Or.inl ⟨by rfl, ?_⟩; intro w hSw; go_simp; (try with_reducible rfl))
            try simp only [Act.put, List.setIfInBounds_toArray, List.set_cons_zero, List.set_cons_succ]
            refine wpAnyH_take (i := 1) (oi := ?oib2) (v := ?vb2) ?hib2 (by kernel_rfl) (by kernel_rfl) (by kernel_rfl) (fun _ _ _ h => h) ?hyb2 (by with_reducible assumption) ?restb2
            case hib2 => (simp only [List.getElem?_toArray, List.getElem?_cons_succ, List.getElem?_cons_zero]; try rfl)
            case hyb2 => (refine Or.inl ⟨by rfl, ?_⟩; intro w hSw; go_simp; (try with_reducible rfl))
            try simp only [Act.put, List.setIfInBounds_toArray, List.set_cons_zero, List.set_cons_succ]
            refine wpAnyH_take (i := 2) (oi := ?oib3) (v := ?vb3) ?hib3 (by kernel_rfl) (by kernel_rfl) (by kernel_rfl) (fun _ _ _ h => h) ?hyb3 (by with_reducible assumption) ?restb3
            case hib3 => (simp only [List.getElem?_toArray, List.getElem?_cons_succ, List.getElem?_cons_zero]; try rfl)
            case hyb3 => (refine Or.inl ⟨by rfl, ?_⟩; intro w hSw; go_simp; (try with_reducible rfl))
            try simp only [Act.put, List.setIfInBounds_toArray, List.set_cons_zero, List.set_cons_succ]
            refine wpAnyH_take (i := 3) (oi := ?oib4) (v := ?vb4) ?hib4 (by kernel_rfl) (by kernel_rfl) (by kernel_rfl) (fun _ _ _ h => h) ?hyb4 (by with_reducible assumption) ?restb4
            case hib4 => (simp only [List.getElem?_toArray, List.getElem?_cons_succ, List.getElem?_cons_zero]; try rfl)
            case hyb4 => (refine Or.inl ⟨by rfl, ?_⟩; intro w hSw; have q := Q0 hSw; go_simp; (try with_reducible rfl))
            try simp only [Act.put, List.setIfInBounds_toArray, List.set_cons_zero, List.set_cons_succ]
            refine wpAnyH_take (i := 4) (oi := ?oib5) (v := ?vb5) ?hib5 (by kernel_rfl) (by kernel_rfl) (by kernel_rfl) (fun _ _ _ h => h) ?hyb5 (by with_reducible assumption) ?restb5
            case hib5 => (simp only [List.getElem?_toArray, List.getElem?_cons_succ, List.getElem?_cons_zero]; try rfl)
            case hyb5 => (refine Or.inl ⟨by rfl, ?_⟩; intro w hSw; go_simp; (try with_reducible rfl))
            try simp only [Act.put, List.setIfInBounds_toArray, List.set_cons_zero, List.set_cons_succ]
            refine wpAnyH_take (i := 5) (oi := ?oib6) (v := ?vb6) ?hib6 (by kernel_rfl) (by kernel_rfl) (by kernel_rfl) (fun _ _ _ h => h) ?hyb6 (by with_reducible assumption) ?restb6
            case hib6 => (simp only [List.getElem?_toArray, List.getElem?_cons_succ, List.getElem?_cons_zero]; try rfl)
            case hyb6 => (refine Or.inl ⟨by rfl, ?_⟩; intro w hSw; have q := QA hSw; go_simp; (try with_reducible rfl))
            try simp only [Act.put, List.setIfInBounds_toArray, List.set_cons_zero, List.set_cons_succ]
            refine wpAnyH_take (i := 6) (oi := ?oib7) (v := ?vb7) ?hib7 (by kernel_rfl) (by kernel_rfl) (by kernel_rfl) (fun _ _ _ h => h) ?hyb7 (by with_reducible assumption) ?restb7
            case hib7 => (simp only [List.getElem?_toArray, List.getElem?_cons_succ, List.getElem?_cons_zero]; try rfl)
            case hyb7 => (refine Or.inl ⟨by rfl, ?_⟩; intro w hSw; go_simp; (try with_reducible rfl))
            try simp only [Act.put, List.setIfInBounds_toArray, List.set_cons_zero, List.set_cons_succ]
            refine wpAnyH_take (i := 7) (oi := ?oib8) (v := ?vb8) ?hib8 (by kernel_rfl) (by kernel_rfl) (by kernel_rfl) (fun _ _ _ h => h) ?hyb8 (by with_reducible assumption) ?restb8
            case hib8 => (simp only [List.getElem?_toArray, List.getElem?_cons_succ, List.getElem?_cons_zero]; try rfl)
            case hyb8 => (refine Or.inl ⟨by rfl, ?_⟩; intro w hSw; go_simp; (try with_reducible rfl))
            try simp only [Act.put, List.setIfInBounds_toArray, List.set_cons_zero, List.set_cons_succ]
            refine wpAnyH_take (i := 8) (oi := ?oib9) (v := ?vb9) ?hib9 (by kernel_rfl) (by kernel_rfl) (by kernel_rfl) (fun _ _ _ h => h) ?hyb9 (by with_reducible assumption) ?restb9
            case hib9 => (simp only [List.getElem?_toArray, List.getElem?_cons_succ, List.getElem?_cons_zero]; try rfl)
            case hyb9 => (refine Or.inl ⟨by rfl, ?_⟩; intro w hSw; go_simp; (try with_reducible rfl))
            try simp only [Act.put, List.setIfInBounds_toArray, List.set_cons_zero, List.set_cons_succ]
            refine wpAnyH_take (i := 9) (oi := ?oib10) (v := ?vb10) ?hib10 (by kernel_rfl) (by kernel_rfl) (by kernel_rfl) (fun _ _ _ h => h) ?hyb10 (by with_reducible assumption) ?restb10
            case hib10 => (simp only [List.getElem?_toArray, List.getElem?_cons_succ, List.getElem?_cons_zero]; try rfl)
            case hyb10 => (refine Or.inl ⟨by rfl, ?_⟩; intro w hSw; go_simp; (try with_reducible rfl))
            try simp only [Act.put, List.setIfInBounds_toArray, List.set_cons_zero, List.set_cons_succ]
            refine wpAnyH_take (i := 10) (oi := ?oib11) (v := ?vb11) ?hib11 (by kernel_rfl) (by kernel_rfl) (by kernel_rfl) (fun _ _ _ h => h) ?hyb11 (by with_reducible assumption) ?restb11
            case hib11 => (simp only [List.getElem?_toArray, List.getElem?_cons_succ, List.getElem?_cons_zero]; try rfl)
            case hyb11 => (refine Or.inl ⟨by rfl, ?_⟩; intro w hSw; have q := Q0 hSw; go_simp; (try with_reducible rfl))
            try simp only [Act.put, List.setIfInBounds_toArray, List.set_cons_zero, List.set_cons_succ]
            refine wpAnyH_take (i := 11) (oi := ?oib12) (v := ?vb12) ?hib12 (by kernel_rfl) (by kernel_rfl) (by kernel_rfl) (fun _ _ _ h => h) ?hyb12 (by with_reducible assumption) ?restb12
            case hib12 => (simp only [List.getElem?_toArray, List.getElem?_cons_succ, List.getElem?_cons_zero]; try rfl)
            case hyb12 => (refine Or.inl ⟨by rfl, ?_⟩; intro w hSw; go_simp; (try with_reducible rfl))
            try simp only [Act.put, List.setIfInBounds_toArray, List.set_cons_zero, List.set_cons_succ]
            refine wpAnyH_take (i := 12) (oi := ?oib13) (v := ?vb13) ?hib13 (by kernel_rfl) (by kernel_rfl) (by kernel_rfl) (fun _ _ _ h => h) ?hyb13 (by with_reducible assumption) ?restb13
            case hib13 => (simp only [List.getElem?_toArray, List.getElem?_cons_succ, List.getElem?_cons_zero]; try rfl)
            case hyb13 => (refine Or.inl ⟨by rfl, ?_⟩; intro w hSw; have q := QB hSw; go_simp; (try with_reducible rfl))
            try simp only [Act.put, List.setIfInBounds_toArray, List.set_cons_zero, List.set_cons_succ]
            refine wpAnyH_take (i := 13) (oi := ?oib14) (v := ?vb14) ?hib14 (by kernel_rfl) (by kernel_rfl) (by kernel_rfl) (fun _ _ _ h => h) ?hyb14 (by with_reducible assumption) ?restb14
            case hib14 => (simp only [List.getElem?_toArray, List.getElem?_cons_succ, List.getElem?_cons_zero]; try rfl)
            case hyb14 => (refine Or.inl ⟨by rfl, ?_⟩; intro w hSw; go_simp; (try with_reducible rfl))
            try simp only [Act.put, List.setIfInBounds_toArray, List.set_cons_zero, List.set_cons_succ]
            refine wpAnyH_take (i := 14) (oi := ?oib15) (v := ?vb15) ?hib15 (by kernel_rfl) (by kernel_rfl) (by kernel_rfl) (fun _ _ _ h => h) ?hyb15 (by with_reducible assumption) ?restb15
            case hib15 => (simp only [List.getElem?_toArray, List.getElem?_cons_succ, List.getElem?_cons_zero]; try rfl)
            case hyb15 => (refine Or.inl ⟨by rfl, ?_⟩; intro w hSw; go_simp; (try with_reducible rfl))
            try simp only [Act.put, List.setIfInBounds_toArray, List.set_cons_zero, List.set_cons_succ]
            refine wpAnyH_take (i := 15) (oi := ?oib16) (v := ?vb16) ?hib16 (by kernel_rfl) (by kernel_rfl) (by kernel_rfl) (fun _ _ _ h => h) ?hyb16 (by with_reducible assumption) ?restb16
            case hib16 => (simp only [List.getElem?_toArray, List.getElem?_cons_succ, List.getElem?_cons_zero]; try rfl)
            case hyb16 => (refine Or.inl ⟨by rfl, ?_⟩; intro w hSw; go_simp; (try with_reducible rfl))
            try simp only [Act.put, List.setIfInBounds_toArray, List.set_cons_zero, List.set_cons_succ]
            refine wpAnyH_take (i := 16) (oi := ?oib17) (v := ?vb17) ?hib17 (by kernel_rfl) (by kernel_rfl) (by kernel_rfl) (fun _ _ _ h => h) ?hyb17 (by with_reducible assumption) ?restb17
            case hib17 => (simp only [List.getElem?_toArray, List.getElem?_cons_succ, List.getElem?_cons_zero]; try rfl)
            case hyb17 => (refine Or.inl ⟨by rfl, ?_⟩; intro w hSw; go_simp; (try with_reducible rfl))
            try simp only [Act.put, List.setIfInBounds_toArray, List.set_cons_zero, List.set_cons_succ]
            refine wpAnyH_take (i := 17) (oi := ?oib18) (v := ?vb18) ?hib18 (by kernel_rfl) (by kernel_rfl) (by kernel_rfl) (fun _ _ _ h => h) ?hyb18 (by with_reducible assumption) ?restb18
            case hib18 => (simp only [List.getElem?_toArray, List.getElem?_cons_succ, List.getElem?_cons_zero]; try rfl)
            case hyb18 => (refine Or.inl ⟨by rfl, ?_⟩; intro w hSw; go_simp; (try with_reducible rfl))
            try simp only [Act.put, List.setIfInBounds_toArray, List.set_cons_zero, List.set_cons_succ]
            refine wpAnyH_take (i := 18) (oi := ?oib19) (v := ?vb19) ?hib19 (by kernel_rfl) (by kernel_rfl) (by kernel_rfl) (fun _ _ _ h => h) ?hyb19 (by with_reducible assumption) ?restb19
            case hib19 => (simp only [List.getElem?_toArray, List.getElem?_cons_succ, List.getElem?_cons_zero]; try rfl)
            case hyb19 => (refine Or.inl ⟨by rfl, ?_⟩; intro w hSw; go_simp; (try with_reducible rfl))
            try simp only [Act.put, List.setIfInBounds_toArray, List.set_cons_zero, List.set_cons_succ]
            refine wpAnyH_take (i := 19) (oi := ?oib20) (v := ?vb20) ?hib20 (by kernel_rfl) (by kernel_rfl) (by kernel_rfl) (fun _ _ _ h => h) ?hyb20 (by with_reducible assumption) ?restb20
            case hib20 => (simp only [List.getElem?_toArray, List.getElem?_cons_succ, List.getElem?_cons_zero]; try rfl)
            case hyb20 => (refine Or.inl ⟨by rfl, ?_⟩; intro w hSw; go_simp; (try with_reducible rfl))
            try simp only [Act.put, List.setIfInBounds_toArray, List.set_cons_zero, List.set_cons_succ]
            refine wpAnyH_take (i := 20) (oi := ?oib21) (v := ?vb21) ?hib21 (by kernel_rfl) (by kernel_rfl) (by kernel_rfl) (fun _ _ _ h => h) ?hyb21 (by with_reducible assumption) ?restb21
            case hib21 => (simp only [List.getElem?_toArray, List.getElem?_cons_succ, List.getElem?_cons_zero]; try rfl)
            case hyb21 => (refine Or.inl ⟨by rfl, ?_⟩; intro w hSw; go_simp; (try with_reducible rfl))
            try simp only [Act.put, List.setIfInBounds_toArray, List.set_cons_zero, List.set_cons_succ]
            refine wpAnyH_ready (rs := [21]) (by kernel_rfl) (by simp) ?_
            refine AllReadyH.cons (o := ?oib22) ?hib22 (fun K hK => ?stb22) AllReadyH.nil
            case hib22 => (simp only [List.getElem?_toArray, List.getElem?_cons_succ, List.getElem?_cons_zero]; try rfl)
            go_simp
            refine (C21 (by with_reducible assumption)).mono ?_
            rintro e wzb22 ⟨rfl, hbb22⟩
            try dsimp only
            refine hK.out _ _ hbb22 (fun hHeld => ?rsb22)
            clear hK K
            try simp only [Act.put, List.setIfInBounds_toArray, List.set_cons_zero, List.set_cons_succ]
            refine wpAnyH_take (i := 22) (oi := ?oib23) (v := ?vb23) ?hib23 (by kernel_rfl) (by kernel_rfl) (by kernel_rfl) (fun _ _ _ h => h) ?hyb23 (by with_reducible assumption) ?restb23
            case hib23 => (simp only [List.getElem?_toArray, List.getElem?_cons_succ, List.getElem?_cons_zero]; try rfl)
            case hyb23 => (refine Or.inl ⟨by rfl, ?_⟩; intro w hSw; go_simp; (try with_reducible rfl))
            try simp only [Act.put, List.setIfInBounds_toArray, List.set_cons_zero, List.set_cons_succ]
            refine wpAnyH_take (i := 23) (oi := ?oib24) (v := ?vb24) ?hib24 (by kernel_rfl) (by kernel_rfl) (by kernel_rfl) (fun _ _ _ h => h) ?hyb24 (by with_reducible assumption) ?restb24
            case hib24 => (simp only [List.getElem?_toArray, List.getElem?_cons_succ, List.getElem?_cons_zero]; try rfl)
            case hyb24 => (refine Or.inl ⟨by rfl, ?_⟩; intro w hSw; go_simp; (try with_reducible rfl))
            try simp only [Act.put, List.setIfInBounds_toArray, List.set_cons_zero, List.set_cons_succ]
            refine wpAnyH_take (i := 24) (oi := ?oib25) (v := ?vb25) ?hib25 (by kernel_rfl) (by kernel_rfl) (by kernel_rfl) (fun _ _ _ h => h) ?hyb25 (by with_reducible assumption) ?restb25
            case hib25 => (simp only [List.getElem?_toArray, List.getElem?_cons_succ, List.getElem?_cons_zero]; try rfl)
            case hyb25 => (refine Or.inl ⟨by rfl, ?_⟩; intro w hSw; go_simp; (try with_reducible rfl))
            try simp only [Act.put, List.setIfInBounds_toArray, List.set_cons_zero, List.set_cons_succ]
            refine wpAnyH_take (i := 25) (oi := ?oib26) (v := ?vb26) ?hib26 (by kernel_rfl) (by kernel_rfl) (by kernel_rfl) (fun _ _ _ h => h) ?hyb26 (by with_reducible assumption) ?restb26
            case hib26 => (simp only [List.getElem?_toArray, List.getElem?_cons_succ, List.getElem?_cons_zero]; try rfl)
            case hyb26 => (refine Or.inl ⟨by rfl, ?_⟩; intro w hSw; go_simp; (try with_reducible rfl))
            try simp only [Act.put, List.setIfInBounds_toArray, List.set_cons_zero, List.set_cons_succ]
            refine wpAnyH_take (i := 26) (oi := ?oib27) (v := ?vb27) ?hib27 (by kernel_rfl) (by kernel_rfl) (by kernel_rfl) (fun _ _ _ h => h) ?hyb27 (by with_reducible assumption) ?restb27
            case hib27 => (simp only [List.getElem?_toArray, List.getElem?_cons_succ, List.getElem?_cons_zero]; try rfl)
            case hyb27 => (refine Or.inl ⟨by rfl, ?_⟩; intro w hSw; go_simp; (try with_reducible rfl))
            try simp only [Act.put, List.setIfInBounds_toArray, List.set_cons_zero, List.set_cons_succ]
            refine wpAnyH_take (i := 27) (oi := ?oib28) (v := ?vb28) ?hib28 (by kernel_rfl) (by kernel_rfl) (by kernel_rfl) (fun _ _ _ h => h) ?hyb28 (by with_reducible assumption) ?restb28
            case hib28 => (simp only [List.getElem?_toArray, List.getElem?_cons_succ, List.getElem?_cons_zero]; try rfl)
            case hyb28 => (refine Or.inl ⟨by rfl, ?_⟩; intro w hSw; go_simp; (try with_reducible rfl))
            try simp only [Act.put, List.setIfInBounds_toArray, List.set_cons_zero, List.set_cons_succ]
            refine wpAnyH_ready (rs := [28]) (by kernel_rfl) (by simp) ?_
            refine AllReadyH.cons (o := ?oib29) ?hib29 (fun K hK => ?stb29) AllReadyH.nil
            case hib29 => (simp only [List.getElem?_toArray, List.getElem?_cons_succ, List.getElem?_cons_zero]; try rfl)
            go_simp
            refine (C28 (by with_reducible assumption)).mono ?_
            rintro e wzb29 ⟨rfl, hbb29⟩
            try dsimp only
            refine hK.out _ _ hbb29 (fun hHeld => ?rsb29)
            clear hK K
            try simp only [Act.put, List.setIfInBounds_toArray, List.set_cons_zero, List.set_cons_succ]
            refine wpAnyH_take (i := 29) (oi := ?oib30) (v := ?vb30) ?hib30 (by kernel_rfl) (by kernel_rfl) (by kernel_rfl) (fun _ _ _ h => h) ?hyb30 (by with_reducible assumption) ?restb30
            case hib30 => (simp only [List.getElem?_toArray, List.getElem?_cons_succ, List.getElem?_cons_zero]; try rfl)
            case hyb30 => (refine Or.inl ⟨by rfl, ?_⟩; intro w hSw; go_simp; (try with_reducible rfl))
            try simp only [Act.put, List.setIfInBounds_toArray, List.set_cons_zero, List.set_cons_succ]
            refine wpAnyH_take (i := 30) (oi := ?oib31) (v := ?vb31) ?hib31 (by kernel_rfl) (by kernel_rfl) (by kernel_rfl) (fun _ _ _ h => h) ?hyb31 (by with_reducible assumption) ?restb31
            case hib31 => (simp only [List.getElem?_toArray, List.getElem?_cons_succ, List.getElem?_cons_zero]; try rfl)
            case hyb31 => (refine Or.inl ⟨by rfl, ?_⟩; intro w hSw; go_simp; (try with_reducible rfl))
            try simp only [Act.put, List.setIfInBounds_toArray, List.set_cons_zero, List.set_cons_succ]
            refine wpAnyH_take (i := 31) (oi := ?oib32) (v := ?vb32) ?hib32 (by kernel_rfl) (by kernel_rfl) (by kernel_rfl) (fun _ _ _ h => h) ?hyb32 (by with_reducible assumption) ?restb32
            case hib32 => (simp only [List.getElem?_toArray, List.getElem?_cons_succ, List.getElem?_cons_zero]; try rfl)
            case hyb32 => (refine Or.inl ⟨by rfl, ?_⟩; intro w hSw; go_simp; (try with_reducible rfl))
            try simp only [Act.put, List.setIfInBounds_toArray, List.set_cons_zero, List.set_cons_succ]
            refine wpAnyH_take (i := 32) (oi := ?oib33) (v := ?vb33) ?hib33 (by kernel_rfl) (by kernel_rfl) (by kernel_rfl) (fun _ _ _ h => h) ?hyb33 (by with_reducible assumption) ?restb33
            case hib33 => (simp only [List.getElem?_toArray, List.getElem?_cons_succ, List.getElem?_cons_zero]; try rfl)
            case hyb33 => (refine Or.inl ⟨by rfl, ?_⟩; intro w hSw; go_simp; (try with_reducible rfl))
            try simp only [Act.put, List.setIfInBounds_toArray, List.set_cons_zero, List.set_cons_succ]
            refine wpAnyH_take (i := 33) (oi := ?oib34) (v := ?vb34) ?hib34 (by kernel_rfl) (by kernel_rfl) (by kernel_rfl) (fun _ _ _ h => h) ?hyb34 (by with_reducible assumption) ?restb34
            case hib34 => (simp only [List.getElem?_toArray, List.getElem?_cons_succ, List.getElem?_cons_zero]; try rfl)
            case hyb34 => (refine Or.inl ⟨by rfl, ?_⟩; intro w hSw; go_simp; (try with_reducible rfl))
            try simp only [Act.put, List.setIfInBounds_toArray, List.set_cons_zero, List.set_cons_succ]
            refine wpAnyH_take (i := 34) (oi := ?oib35) (v := ?vb35) ?hib35 (by kernel_rfl) (by kernel_rfl) (by kernel_rfl) (fun _ _ _ h => h) ?hyb35 (by with_reducible assumption) ?restb35
            case hib35 => (simp only [List.getElem?_toArray, List.getElem?_cons_succ, List.getElem?_cons_zero]; try rfl)
            case hyb35 => (refine Or.inl ⟨by rfl, ?_⟩; intro w hSw; go_simp; (try with_reducible rfl))
            try simp only [Act.put, List.setIfInBounds_toArray, List.set_cons_zero, List.set_cons_succ]
            refine wpAnyH_take (i := 35) (oi := ?oib36) (v := ?vb36) ?hib36 (by kernel_rfl) (by kernel_rfl) (by kernel_rfl) (fun _ _ _ h => h) ?hyb36 (by with_reducible assumption) ?restb36
            case hib36 => (simp only [List.getElem?_toArray, List.getElem?_cons_succ, List.getElem?_cons_zero]; try rfl)
            case hyb36 => (refine Or.inl ⟨by rfl, ?_⟩; intro w hSw; go_simp; (try with_reducible rfl))
            try simp only [Act.put, List.setIfInBounds_toArray, List.set_cons_zero, List.set_cons_succ]
            refine wpAnyH_take (i := 36) (oi := ?oib37) (v := ?vb37) ?hib37 (by kernel_rfl) (by kernel_rfl) (by kernel_rfl) (fun _ _ _ h => h) ?hyb37 (by with_reducible assumption) ?restb37
            case hib37 => (simp only [List.getElem?_toArray, List.getElem?_cons_succ, List.getElem?_cons_zero]; try rfl)
            case hyb37 => (refine Or.inl ⟨by rfl, ?_⟩; intro w hSw; go_simp; (try with_reducible rfl))
            try simp only [Act.put, List.setIfInBounds_toArray, List.set_cons_zero, List.set_cons_succ]
            refine wpAnyH_take (i := 37) (oi := ?oib38) (v := ?vb38) ?hib38 (by kernel_rfl) (by kernel_rfl) (by kernel_rfl) (fun _ _ _ h => h) ?hyb38 (by with_reducible assumption) ?restb38
            case hib38 => (simp only [List.getElem?_toArray, List.getElem?_cons_succ, List.getElem?_cons_zero]; try rfl)
            case hyb38 => (refine Or.inl ⟨by rfl, ?_⟩; intro w hSw; go_simp; (try with_reducible rfl))
            try simp only [Act.put, List.setIfInBounds_toArray, List.set_cons_zero, List.set_cons_succ]
            refine wpAnyH_take (i := 38) (oi := ?oib39) (v := ?vb39) ?hib39 (by kernel_rfl) (by kernel_rfl) (by kernel_rfl) (fun _ _ _ h => h) ?hyb39 (by with_reducible assumption) ?restb39
            case hib39 => (simp only [List.getElem?_toArray, List.getElem?_cons_succ, List.getElem?_cons_zero]; try rfl)
            case hyb39 => (refine Or.inl ⟨by rfl, ?_⟩; intro w hSw; go_simp; (try with_reducible rfl))
            try simp only [Act.put, List.setIfInBounds_toArray, List.set_cons_zero, List.set_cons_succ]
            refine wpAnyH_ready (rs := [39]) (by kernel_rfl) (by simp) ?_
            refine AllReadyH.cons (o := ?oib40) ?hib40 (fun K hK => ?stb40) AllReadyH.nil
            case hib40 => (simp only [List.getElem?_toArray, List.getElem?_cons_succ, List.getElem?_cons_zero]; try rfl)
            go_simp
            refine (C39 (by with_reducible assumption)).mono ?_
            rintro e wzb40 ⟨rfl, hbb40⟩
            try dsimp only
            refine hK.out _ _ hbb40 (fun hHeld => ?rsb40)
            clear hK K
            try simp only [Act.put, List.setIfInBounds_toArray, List.set_cons_zero, List.set_cons_succ]
            refine wpAnyH_take (i := 40) (oi := ?oib41) (v := ?vb41) ?hib41 (by kernel_rfl) (by kernel_rfl) (by kernel_rfl) (fun _ _ _ h => h) ?hyb41 (by with_reducible assumption) ?restb41
            case hib41 => (simp only [List.getElem?_toArray, List.getElem?_cons_succ, List.getElem?_cons_zero]; try rfl)
            case hyb41 => (refine Or.inl ⟨by rfl, ?_⟩; intro w hSw; go_simp; (try with_reducible rfl))
            try simp only [Act.put, List.setIfInBounds_toArray, List.set_cons_zero, List.set_cons_succ]
            refine wpAnyH_take (i := 41) (oi := ?oib42) (v := ?vb42) ?hib42 (by kernel_rfl) (by kernel_rfl) (by kernel_rfl) (fun _ _ _ h => h) ?hyb42 (by with_reducible assumption) ?restb42
            case hib42 => (simp only [List.getElem?_toArray, List.getElem?_cons_succ, List.getElem?_cons_zero]; try rfl)
            case hyb42 => (refine Or.inl ⟨by rfl, ?_⟩; intro w hSw; go_simp; (try with_reducible rfl))
            try simp only [Act.put, List.setIfInBounds_toArray, List.set_cons_zero, List.set_cons_succ]
            refine wpAnyH_take (i := 42) (oi := ?oib43) (v := ?vb43) ?hib43 (by kernel_rfl) (by kernel_rfl) (by kernel_rfl) (fun _ _ _ h => h) ?hyb43 (by with_reducible assumption) ?restb43
            case hib43 => (simp only [List.getElem?_toArray, List.getElem?_cons_succ, List.getElem?_cons_zero]; try rfl)
            case hyb43 => (refine Or.inl ⟨by rfl, ?_⟩; intro w hSw; go_simp; (try with_reducible rfl))
            try simp only [Act.put, List.setIfInBounds_toArray, List.set_cons_zero, List.set_cons_succ]
            refine wpAnyH_take (i := 43) (oi := ?oib44) (v := ?vb44) ?hib44 (by kernel_rfl) (by kernel_rfl) (by kernel_rfl) (fun _ _ _ h => h) ?hyb44 (by with_reducible assumption) ?restb44
            case hib44 => (simp only [List.getElem?_toArray, List.getElem?_cons_succ, List.getElem?_cons_zero]; try rfl)
            case hyb44 => (refine Or.inl ⟨by rfl, ?_⟩; intro w hSw; go_simp; (try with_reducible rfl))
            try simp only [Act.put, List.setIfInBounds_toArray, List.set_cons_zero, List.set_cons_succ]
            refine wpAnyH_take (i := 44) (oi := ?oib45) (v := ?vb45) ?hib45 (by kernel_rfl) (by kernel_rfl) (by kernel_rfl) (fun _ _ _ h => h) ?hyb45 (by with_reducible assumption) ?restb45
            case hib45 => (simp only [List.getElem?_toArray, List.getElem?_cons_succ, List.getElem?_cons_zero]; try rfl)
            case hyb45 => (refine Or.inl ⟨by rfl, ?_⟩; intro w hSw; go_simp; (try with_reducible rfl))
            try simp only [Act.put, List.setIfInBounds_toArray, List.set_cons_zero, List.set_cons_succ]
            refine wpAnyH_take (i := 45) (oi := ?oib46) (v := ?vb46) ?hib46 (by kernel_rfl) (by kernel_rfl) (by kernel_rfl) (fun _ _ _ h => h) ?hyb46 (by with_reducible assumption) ?restb46
            case hib46 => (simp only [List.getElem?_toArray, List.getElem?_cons_succ, List.getElem?_cons_zero]; try rfl)
            case hyb46 => (refine Or.inl ⟨by rfl, ?_⟩; intro w hSw; go_simp; (try with_reducible rfl))
            try simp only [Act.put, List.setIfInBounds_toArray, List.set_cons_zero, List.set_cons_succ]
            refine wpAnyH_take (i := 48) (oi := ?oib47) (v := ?vb47) ?hib47 (by kernel_rfl) (by kernel_rfl) (by kernel_rfl) (fun _ _ _ h => h) ?hyb47 (by with_reducible assumption) ?restb47
            case hib47 => (simp only [List.getElem?_toArray, List.getElem?_cons_succ, List.getElem?_cons_zero]; try rfl)
            case hyb47 => (refine Or.inl ⟨by rfl, ?_⟩; intro w hSw; go_simp; (try with_reducible rfl))
            try simp only [Act.put, List.setIfInBounds_toArray, List.set_cons_zero, List.set_cons_succ]
            refine wpAnyH_take (i := 49) (oi := ?oib48) (v := ?vb48) ?hib48 (by kernel_rfl) (by kernel_rfl) (by kernel_rfl) (fun _ _ _ h => h) ?hyb48 (by with_reducible assumption) ?restb48
            case hib48 => (simp only [List.getElem?_toArray, List.getElem?_cons_succ, List.getElem?_cons_zero]; try rfl)
            case hyb48 => (refine Or.inl ⟨by rfl, ?_⟩; intro w hSw; go_simp; (try with_reducible rfl))
            try simp only [Act.put, List.setIfInBounds_toArray, List.set_cons_zero, List.set_cons_succ]
            refine wpAnyH_take (i := 50) (oi := ?oib49) (v := ?vb49) ?hib49 (by kernel_rfl) (by kernel_rfl) (by kernel_rfl) (fun _ _ _ h => h) ?hyb49 (by with_reducible assumption) ?restb49
            case hib49 => (simp only [List.getElem?_toArray, List.getElem?_cons_succ, List.getElem?_cons_zero]; try rfl)
            case hyb49 => (refine Or.inl ⟨by rfl, ?_⟩; intro w hSw; go_simp; (try with_reducible rfl))
            try simp only [Act.put, List.setIfInBounds_toArray, List.set_cons_zero, List.set_cons_succ]
            refine wpAnyH_ready (rs := [46]) (by kernel_rfl) (by simp) ?_
            refine AllReadyH.cons (o := ?oib50) ?hib50 (fun K hK => ?stb50) AllReadyH.nil
            case hib50 => (simp only [List.getElem?_toArray, List.getElem?_cons_succ, List.getElem?_cons_zero]; try rfl)
            go_simp
            refine (C46 (by with_reducible assumption)).mono ?_
            rintro e wzb50 ⟨Ax, cx, rfl, hbb50⟩
            try dsimp only
            refine hK.out _ _ hbb50 (fun hHeld => ?rsb50)
            clear hK K
            try simp only [Act.put, List.setIfInBounds_toArray, List.set_cons_zero, List.set_cons_succ]
            refine wpAnyH_take (i := 47) (oi := ?oib51) (v := ?vb51) ?hib51 (by kernel_rfl) (by kernel_rfl) (by kernel_rfl) (fun _ _ _ h => h) ?hyb51 (by with_reducible assumption) ?restb51
            case hib51 => (simp only [List.getElem?_toArray, List.getElem?_cons_succ, List.getElem?_cons_zero]; try rfl)
            case hyb51 => (refine Or.inl ⟨by rfl, ?_⟩; intro w hSw; go_simp; (try with_reducible rfl))
            try simp only [Act.put, List.setIfInBounds_toArray, List.set_cons_zero, List.set_cons_succ]
            refine wpAnyH_take (i := 51) (oi := ?oib52) (v := ?vb52) ?hib52 (by kernel_rfl) (by kernel_rfl) (by kernel_rfl) (fun _ _ _ h => h) ?hyb52 (by with_reducible assumption) ?restb52
            case hib52 => (simp only [List.getElem?_toArray, List.getElem?_cons_succ, List.getElem?_cons_zero]; try rfl)
            case hyb52 => (refine Or.inl ⟨by rfl, ?_⟩; intro w hSw; go_simp; (try with_reducible rfl))
            try simp only [Act.put, List.setIfInBounds_toArray, List.set_cons_zero, List.set_cons_succ]
            refine wpAnyH_take (i := 52) (oi := ?oib53) (v := ?vb53) ?hib53 (by kernel_rfl) (by kernel_rfl) (by kernel_rfl) (fun _ _ _ h => h) ?hyb53 (by with_reducible assumption) ?restb53
            case hib53 => (simp only [List.getElem?_toArray, List.getElem?_cons_succ, List.getElem?_cons_zero]; try rfl)
            case hyb53 => (refine Or.inl ⟨by rfl, ?_⟩; intro w hSw; go_simp; (try with_reducible rfl))
            try simp only [Act.put, List.setIfInBounds_toArray, List.set_cons_zero, List.set_cons_succ]
            refine wpAnyH_take (i := 53) (oi := ?oib54) (v := ?vb54) ?hib54 (by kernel_rfl) (by kernel_rfl) (by kernel_rfl) (fun _ _ _ h => h) ?hyb54 (by with_reducible assumption) ?restb54
            case hib54 => (simp only [List.getElem?_toArray, List.getElem?_cons_succ, List.getElem?_cons_zero]; try rfl)
            case hyb54 => (refine Or.inl ⟨by rfl, ?_⟩; intro w hSw; go_simp; (try with_reducible rfl))
            try simp only [Act.put, List.setIfInBounds_toArray, List.set_cons_zero, List.set_cons_succ]
            refine wpAnyH_ready (rs := [54]) (by kernel_rfl) (by simp) ?_
            refine AllReadyH.cons (o := ?oib55) ?hib55 (fun K hK => ?stb55) AllReadyH.nil
            case hib55 => (simp only [List.getElem?_toArray, List.getElem?_cons_succ, List.getElem?_cons_zero]; try rfl)
            go_simp
            refine (C54 (by with_reducible assumption)).mono ?_
            rintro e wzb55 ⟨rfl, hbb55⟩
            try dsimp only
            refine hK.out _ _ hbb55 (fun hHeld => ?rsb55)
            clear hK K
            try simp only [Act.put, List.setIfInBounds_toArray, List.set_cons_zero, List.set_cons_succ]
            refine wpAnyH_take (i := 55) (oi := ?oib56) (v := ?vb56) ?hib56 (by kernel_rfl) (by kernel_rfl) (by kernel_rfl) (fun _ _ _ h => h) ?hyb56 (by with_reducible assumption) ?restb56
            case hib56 => (simp only [List.getElem?_toArray, List.getElem?_cons_succ, List.getElem?_cons_zero]; try rfl)
            case hyb56 => (refine Or.inl ⟨by rfl, ?_⟩; intro w hSw; go_simp; (try with_reducible rfl))
            try simp only [Act.put, List.setIfInBounds_toArray, List.set_cons_zero, List.set_cons_succ]
            refine wpAnyH_take (i := 56) (oi := ?oib57) (v := ?vb57) ?hib57 (by kernel_rfl) (by kernel_rfl) (by kernel_rfl) (fun _ _ _ h => h) ?hyb57 (by with_reducible assumption) ?restb57
            case hib57 => (simp only [List.getElem?_toArray, List.getElem?_cons_succ, List.getElem?_cons_zero]; try rfl)
            case hyb57 => (refine Or.inl ⟨by rfl, ?_⟩; intro w hSw; go_simp; (try with_reducible rfl))
            try simp only [Act.put, List.setIfInBounds_toArray, List.set_cons_zero, List.set_cons_succ]
            refine wpAnyH_ready (rs := [57]) (by kernel_rfl) (by simp) ?_
            refine AllReadyH.cons (o := ?oib58) ?hib58 (fun K hK => ?stb58) AllReadyH.nil
            case hib58 => (simp only [List.getElem?_toArray, List.getElem?_cons_succ, List.getElem?_cons_zero]; try rfl)
            go_simp
            refine (C57 (by with_reducible assumption)).mono ?_
            rintro e wzb58 ⟨rfl, hbb58⟩
            try dsimp only
            refine hK.out _ _ hbb58 (fun hHeld => ?rsb58)
            clear hK K
            try simp only [Act.put, List.setIfInBounds_toArray, List.set_cons_zero, List.set_cons_succ]
            refine wpAnyH_take (i := 58) (oi := ?oib59) (v := ?vb59) ?hib59 (by kernel_rfl) (by kernel_rfl) (by kernel_rfl) (fun _ _ _ h => h) ?hyb59 (by with_reducible assumption) ?restb59
            case hib59 => (simp only [List.getElem?_toArray, List.getElem?_cons_succ, List.getElem?_cons_zero]; try rfl)
            case hyb59 => (refine Or.inl ⟨by rfl, ?_⟩; intro w hSw; go_simp; (try with_reducible rfl))
            try simp only [Act.put, List.setIfInBounds_toArray, List.set_cons_zero, List.set_cons_succ]
            refine wpAnyH_take (i := 59) (oi := ?oib60) (v := ?vb60) ?hib60 (by kernel_rfl) (by kernel_rfl) (by kernel_rfl) (fun _ _ _ h => h) ?hyb60 (by with_reducible assumption) ?restb60
            case hib60 => (simp only [List.getElem?_toArray, List.getElem?_cons_succ, List.getElem?_cons_zero]; try rfl)
            case hyb60 => (refine Or.inl ⟨by rfl, ?_⟩; intro w hSw; go_simp; (try with_reducible rfl))
            try simp only [Act.put, List.setIfInBounds_toArray, List.set_cons_zero, List.set_cons_succ]
            refine wpAnyH_done (by kernel_rfl) ?_ _
            refine NoPanic.normal ?_
            go_wp2_with fail
            go_ret
            exact ⟨rfl, HBE.out.trans (hHeld.mono HBE.out.size)⟩

end Go.Proofs.Ytlljepgfecodoaa.tasksRoom
