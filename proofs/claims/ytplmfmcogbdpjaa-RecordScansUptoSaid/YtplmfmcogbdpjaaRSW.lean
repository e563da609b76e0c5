/- The walk of RecordScans: the Go text returns true, and writes nothing that was there. -/
import Derived.Test.YtplmfmcogbdpjaaAllSum
import Derived.Test.YtplmfmcogbdpjaaRowsA
import Derived.Test.YtplmfmcogbdpjaaRecV
import Derived.Test.YtplmfmcogbdpjaaWithin
namespace Go.Proofs.Ytplmfmcogbdpjaa.recordScans
open Go.ChangeShapes Go.WideShapes Go.ChangeAt Go.RowKit
set_option linter.unusedVariables false
open Go Go.RowKit Go.Proofs.Ytplmfmcogbdpjaa.Dk Go.Proofs.Ytplmfmcogbdpjaa.Crw Go.Proofs.Ytplmfmcogbdpjaa.Vl Go.Proofs.Ytplmfmcogbdpjaa
set_option maxRecDepth 100000
theorem wkk (w : World) : Calls Try.prog 34 #[] w fun e w' => e = .returned (.bool true) ∧ Below w.heap.size w w' := wakes_34.2.2.2 w
structure ScI (w wx : World) (v : Value) (n : Nat) (l : List Int) : Prop where
  own : wx.ownsRow w.heap.size 5 1 v n (bsV l)
  by_ : ∀ z ∈ l, 0 ≤ z ∧ z ≤ 255
  bel : Below w.heap.size w wx
theorem ScI.len {w wx : World} {v : Value} {n : Nat} {l : List Int} (h : ScI w wx v n l) : l.length = n := by have := h.own.1; simpa [bsV] using this
theorem packB {y : List Int} (h1 : y.length ≤ 200) (h2 : ∀ z ∈ y, 0 ≤ z ∧ z ≤ 255) : ∀ z ∈ packL y, 0 ≤ z ∧ z ≤ 255 := by
  intro z hz
  unfold packL at hz
  simp at hz
  rcases hz with rfl | h | rfl
  · omega
  · exact h2 z h
  · omega
theorem bel_vol {w w1 w2 : World} {U : Nat → Prop} (h : Below w.heap.size w w1) (hv : Vol U w1 w2) (hU : ∀ b, U b → w.heap.size ≤ b) : Below w.heap.size w w2 :=
  ⟨hv.os.trans h.os, hv.tape.trans h.tape, hv.output.trans h.output, Nat.le_trans h.size hv.size, fun b hb => (hv.block b (Nat.lt_of_lt_of_le hb h.size) (fun e => by have := hU b e; omega)).trans (h.block b hb)⟩
set_option maxHeartbeats 32000000 in
theorem walk (A0 : Option Addr) (n0 c0 : Nat) (x0 : List (List Int)) (A1 : Option Addr) (n1 c1 : Nat) (x1 : List Int) (a2 : Int) (a3 : Int) (a4 : Bool) (a5 : Int) (w : World) (b0 : ByteRows w A0 n0 c0 x0) (b1 : IntRow .u8 w A1 n1 c1 x1) (z1 : n1 ≤ 1048576) (b2 : -9223372036854775808 ≤ a2 ∧ a2 ≤ 9223372036854775807) (b3 : -9223372036854775808 ≤ a3 ∧ a3 ≤ 9223372036854775807) (b5 : -9223372036854775808 ≤ a5 ∧ a5 ≤ 9223372036854775807) :
    Calls Try.prog 6 #[.slice A0 n0 c0, .slice A1 n1 c1, .int .i64 a2, .int .i64 a3, .bool a4, .int .i64 a5] w fun e w' => e = .returned (.bool true) ∧ Below w.heap.size w w' := by
  obtain ⟨h01, h02, h03, vs, h04, h05⟩ := b0
  obtain ⟨h11, h12, h13, h14, h15⟩ := b1
  obtain ⟨i0, hi, hz0, hz1, hz2⟩ := info_parts byte_infoD
  have HX0 := Lib.hid h03
  have HRv := Lib.hid h04
  have HEl := Lib.hid h05
  have hc1 : (c1 : Int) ≤ 9223372036854775807 := by unfold maxLen at h12; omega
  have HCj := Lib.hid (fun (wz : World) (hb : Below w.heap.size w wz) => Cut_i 4 (by omega) A1 n1 c1 _ x1 wz (reads_belR h14 (Nat.le_refl _) hb) h11 hc1)
  have HR1 := Lib.hid (And.intro h11 (And.intro h13 (And.intro h14 h15)))
  have HW2 := Lib.hid (fun (N : Nat) (wz : World) (hN : N ≤ 1000000) => Within_any a2 (3 * (N : Int) + 1) wz b2.1 b2.2 (by omega) (by omega))
  have HW3 := Lib.hid (fun (N : Nat) (wz : World) (hN : N ≤ 1000000) => Within_any a3 (20 * (N : Int) + 1) wz b3.1 b3.2 (by omega) (by omega))
  have HW5 := Lib.hid (fun (wz : World) => Within_any a5 240 wz b5.1 b5.2 (by omega) (by omega))
  clear h03 h04 h05 h01 h02 h11 h12 h13 h14 h15 b2 b3 b5
  go_enter Try.func6, Try.ntmps6
  go_upto_if 24 with (fail)
  go_cut [1, 13, 14, 15, 16] from 25 to 81 (fun vb v13 v14 v15 v16 wx => Hid (∃ (A : Option Addr) (n c : Nat) (l : List Int), vb = .slice A n c ∧ n ≤ c ∧ (c : Int) ≤ 9223372036854775807 ∧ n ≤ 1048576 ∧ l.length = n ∧ Reads wx wx.heap.size 1 A n (bsV l) ∧ (∀ z ∈ l, 0 ≤ z ∧ z ≤ 255) ∧ Below w.heap.size w wx ∧ ∃ w7, w7 = wx))
  case first =>
    cases a4 with
    | true =>
      simp only [Bool.not_true]
      go_wp2_with fail
      go_meet
      exact Lib.hid ⟨A1, n1, c1, x1, rfl, HR1.out.1, hc1, z1, HR1.out.2.1, HR1.out.2.2.1, fun z hz => bounds_u8 (HR1.out.2.2.2 z hz), Below.refl _ _, _, rfl⟩
    | false =>
      simp only [Bool.not_false]
      go_upto_block 0 with fail
      go_cut [13, 14] from 25 to 42 (fun vc vi wx => Hid (∃ (N : Nat) (l : List Int), N ≤ 256 ∧ ScI w wx vc N l ∧ ∃ w7, w7 = wx))
      case first =>
        go_wp2_with fail
        go_loopw [13, 14] (fun vc vi wr => Hid (∃ (k N : Nat) (l : List Int), vi = .int .i64 k ∧ k ≤ n0 ∧ k ≤ 8 ∧ N ≤ 32 * k ∧ ScI w wr vc N l ∧ ∃ w7, w7 = wr)) (fun _ vi _ => 8 - (intOf vi).toNat)
        case atStart => exact Lib.hid ⟨0, 0, [], rfl, by omega, by omega, by omega, ⟨⟨by simp, .inl ⟨rfl, rfl⟩⟩, fun z hz => by simp at hz, Below.refl _ _⟩, _, rfl⟩
        case round =>
          obtain ⟨k, N, l, rfl, hk, hk8, hN, hI, wr, hwr⟩ := hrel.out
          subst hwr
          have HI := Lib.hid hI
          obtain ⟨Ac, cc, rfl, -, -⟩ := own_slice hI.own
          clear hrel hI
          by_cases hall : (k : Int) < (n0 : Int) ∧ (k : Int) < 8
          · obtain ⟨g1, g2⟩ := hall
            have hkn : k < n0 := by omega
            have hkx : k < x0.length := by rw [HX0.out]; exact hkn
            obtain ⟨ad, u, rfl, -, hu, hc⟩ := (reads_belR HRv.out (Nat.le_refl _) HI.out.bel).at_ hkn
            obtain ⟨x, hx⟩ : ∃ x, x0[k]? = some x := ⟨_, List.getElem?_eq_getElem hkx⟩
            obtain ⟨A', n', c', e1, hn', hc', hl', hr', hwf⟩ := HEl.out k x hx
            rw [e1] at hu
            injection hu with hu
            subst hu
            have hCut := Cut_i 30 (by omega) A' n' c' _ x wr (reads_belR hr' (Nat.le_refl _) HI.out.bel) hn' (by unfold maxLen at hc'; omega)
            obtain ⟨y, hy⟩ : ∃ y, y = x.take 30 := ⟨_, rfl⟩
            rw [← hy] at hCut
            have hyl : y.length ≤ 30 := by rw [hy, List.length_take]; omega
            have hyb : ∀ z ∈ y, 0 ≤ z ∧ z ≤ 255 := fun z hz => bounds_u8 (hwf z (by rw [hy] at hz; exact List.mem_of_mem_take hz))
            have HPB := Lib.hid (packB (by omega) hyb)
            clear hx e1 hn' hc' hl' hr' hwf hy hyb
            go_wp2_with fail
            refine hCut.mono ?_
            rintro r w3 ⟨vy, rfl, hoy, hb3⟩
            obtain ⟨Ay, cy, rfl, -, -⟩ := own_slice hoy
            have HP := Lib.hid (RefRecord_yes (c := cy) (own_reads hoy) (Nat.le_refl _) (by omega))
            have HB3 := Lib.hid hb3
            clear hoy hb3 hCut
            go_wp2_with fail
            refine HP.out.mono ?_
            rintro r w4 ⟨vp, rfl, hop, hb4⟩
            have hpl : (packL y).length = y.length + 2 := packL_len y
            rw [hpl] at hop
            obtain ⟨Ap, cp, rfl, -, -⟩ := own_slice hop
            have HOP := Lib.hid hop
            have hb34 : Below wr.heap.size wr w4 := HB3.out.trans (hb4.mono HB3.out.size)
            have HB4 := Lib.hid hb34
            clear hop hb4 HP hpl hb34
            go_wp2_with (at_builtin; refine wpList_append_any _ rfl _ _ 28 rfl w.heap.size 5 i0 (.int .u8 0) 1 1 Try.underlying28 hi hz0 hz1 hz2 rfl (by decide) (.slice Ac N cc) N (bsV l) rfl (own_keep HI.out.own HB4.out) w4.heap.size Ap (y.length + 2) cp (bsV (packL y)) rfl (own_reads HOP.out) (bsV_one _) (by simp only [maxLen]; omega) (by omega) (by have h1 := HI.out.bel.size; have h2 := HB4.out.size; omega) ?_; intro v5 w5 hown5 hg5 _hne; clear _hne; have HO5 := Lib.hid hown5; have HG5 := Lib.hid hg5; clear hown5 hg5)
            go_roundw
            case rel =>
              have hb4 : Below w.heap.size w w4 := HI.out.bel.trans (HB4.out.mono HI.out.bel.size)
              refine Lib.hid ⟨k + 1, N + (y.length + 2), l ++ packL y, by go_num, by omega, by omega, by omega, ⟨by rw [← bsV_app]; exact HO5.out, fun z hz => (List.mem_append.1 hz).elim (HI.out.by_ z) (HPB.out z), hb4.grown HG5.out hb4.size (fun b hb => (HI.out.own.lt b hb).1)⟩, _, rfl⟩
            case measure => simp [intOf]; omega
          · have hall2 : ¬ (k : Int) < (n0 : Int) ∨ ((k : Int) < (n0 : Int) ∧ ¬ (k : Int) < 8) := by omega
            clear hall
            rcases hall2 with g1 | ⟨g1, g2⟩
            all_goals
              go_wp2_with fail
              go_meet
              exact Lib.hid ⟨N, l, by omega, HI.out, _, rfl⟩
      case rest =>
        obtain ⟨N, l, hN, hI, w3, hw3⟩ := hcut.out
        subst hw3
        obtain ⟨Ac, cc, hvc, hcc1, hcc2⟩ := own_slice hI.own
        subst hvc
        have HI := Lib.hid hI
        have hcci : (cc : Int) ≤ 9223372036854775807 := by unfold maxLen at hcc2; omega
        clear hcut hI hcc2
        go_wp2_with fail
        refine (HW2.out N _ (by omega)).mono ?_
        rintro r w4 ⟨rfl, rfl⟩
        have k1 := Int.emod_nonneg a2 (show 3 * (N : Int) + 1 ≠ 0 by omega)
        have k2 := Int.emod_lt_of_pos a2 (show (0 : Int) < 3 * (N : Int) + 1 by omega)
        obtain ⟨q, hq⟩ : ∃ q : Nat, a2 % (3 * (N : Int) + 1) = (q : Int) := ⟨(a2 % (3 * (N : Int) + 1)).toNat, by omega⟩
        simp only [hq]
        clear k1 k2 hq
        rcases Nat.lt_or_ge q N with hqN | hqN
        · have HS : Hid (ScI w w3 (.slice Ac q cc) q (l.take q)) := Lib.hid ⟨by have h := own_take HI.out.own (Nat.le_of_lt hqN); simpa [bsV, List.map_take] using h, fun z hz => HI.out.by_ z (List.mem_of_mem_take hz), HI.out.bel⟩
          have g3 : (q : Int) < (N : Int) := by omega
          have qc : (q : Int) ≤ (cc : Int) := by omega
          have qc2 : q ≤ cc := by omega
          go_wp2_with fail
          refine (HW3.out q _ (by omega)).mono ?_
          rintro r w4 ⟨rfl, rfl⟩
          have k1 := Int.emod_nonneg a3 (show 20 * (q : Int) + 1 ≠ 0 by omega)
          have k2 := Int.emod_lt_of_pos a3 (show (0 : Int) < 20 * (q : Int) + 1 by omega)
          obtain ⟨f, hf⟩ : ∃ f : Nat, a3 % (20 * (q : Int) + 1) = (f : Int) := ⟨(a3 % (20 * (q : Int) + 1)).toNat, by omega⟩
          have hfb : f ≤ 10000 := by omega
          simp only [hf]
          clear k1 k2 hf
          by_cases hfl : f < 8 * q
          · have g4 : (f : Int) < 8 * (q : Int) := by omega
            obtain ⟨g, rfl⟩ := own_some HS.out.own (by omega)
            obtain ⟨i, m, hfi, hm⟩ : ∃ i m : Nat, f = 8 * i + m ∧ m < 8 := ⟨f / 8, f % 8, by omega, by omega⟩
            have hiN : i < q := by omega
            have e1 : (f : Int).tdiv 8 = (i : Int) := by rw [Int.tdiv_eq_ediv_of_nonneg (by omega)]; omega
            have e2 : (f : Int).tmod 8 = (m : Int) := by rw [Int.tmod_eq_emod_of_nonneg (by omega)]; omega
            obtain ⟨z, hz⟩ : ∃ z, (l.take q)[i]? = some z := ⟨_, List.getElem?_eq_getElem (by have := HS.out.len; omega)⟩
            have c0 : w3.cell? ⟨g, i, none⟩ = some (.int .u8 z) := by
              rw [HS.out.own.cellAt i (by omega), bsV, List.getElem?_map, hz]
              rfl
            have f0 : w3.frozen? ⟨g, i, none⟩ = false := HS.out.own.frozenAt _
            have iN : (i : Int) < (q : Int) := by omega
            have hm8 : (m : Int) < 8 := by omega
            clear hz hfi hfl
            go_wp2_with fail
            obtain ⟨z2, hz2⟩ : ∃ z2, z2 = bits .xor .u8 z (2 ^ m % 256) := ⟨_, rfl⟩
            have hzb : 0 ≤ z2 ∧ z2 ≤ 255 := by rw [hz2]; exact bounds_u8 (wf_bits _ _ _ _)
            rw [← hz2]
            obtain ⟨wz, hwz⟩ : ∃ wz, wz = w3.setCell ⟨g, i, none⟩ (.int .u8 z2) := ⟨_, rfl⟩
            have HT0 : Hid (ScI w wz (.slice (some ⟨g, 0, none⟩) q cc) q ((l.take q).set i z2)) := Lib.hid (by
              rw [hwz]
              exact ⟨own_setO HS.out.own i z2, fun y hy => (List.mem_or_eq_of_mem_set hy).elim (HS.out.by_ y) (fun h => by rw [h]; exact hzb), bel_vol HS.out.bel (own_setR HS.out.own i z2).2 (fun b e => by rw [e]; exact (HS.out.own.lt g rfl).1)⟩)
            obtain ⟨LL, hLL⟩ : ∃ LL, LL = (l.take q).set i z2 := ⟨_, rfl⟩
            rw [← hLL] at HT0
            have HT := HT0
            rw [← hwz]
            clear hz2 hwz hLL HT0
            refine (HCj.out _ HT.out.bel).mono ?_
            rintro r w5 ⟨vj, rfl, hoj, hb5⟩
            obtain ⟨Aj, cj, rfl, -, -⟩ := own_slice hoj
            have hjl : (x1.take 4).length ≤ 4 := by rw [List.length_take]; omega
            have HOJ := Lib.hid hoj
            have HB5 := Lib.hid hb5
            obtain ⟨J, hJ⟩ : ∃ J, J = (x1.take 4).length := ⟨_, rfl⟩
            rw [← hJ] at HOJ hjl ⊢
            clear hoj hb5 hJ
            go_wp2_with (at_builtin; refine wpList_append_any _ rfl _ _ 28 rfl w.heap.size 5 i0 (.int .u8 0) 1 1 Try.underlying28 hi hz0 hz1 hz2 rfl (by decide) (.slice (some ⟨g, 0, none⟩) q cc) q (bsV LL) rfl (own_keep HT.out.own HB5.out) w5.heap.size Aj J cj (bsV (x1.take 4)) rfl (own_reads HOJ.out) (bsV_one _) (by simp only [maxLen]; omega) (by omega) (by have h1 := HT.out.bel.size; have h2 := HB5.out.size; omega) ?_; intro v6 w6 hown6 hg6 _hne; clear _hne; have HO6 := Lib.hid hown6; have HG6 := Lib.hid hg6; clear hown6 hg6)
            go_meet
            obtain ⟨A6, c6, rfl, hc61, hc62⟩ := own_slice HO6.out
            have hb5 : Below w.heap.size w w5 := HT.out.bel.trans (HB5.out.mono HT.out.bel.size)
            have hr6 := own_reads HO6.out
            rw [bsV_app] at hr6
            exact Lib.hid ⟨A6, q + J, c6, _, rfl, hc61, by unfold maxLen at hc62; omega, by omega, by have := hr6.1; simpa [bsV] using this, hr6, fun y hy => (List.mem_append.1 hy).elim (HT.out.by_ y) (fun h => bounds_u8 (HR1.out.2.2.2 y (List.mem_of_mem_take h))), hb5.grown HG6.out hb5.size (fun b hb => (HT.out.own.lt b hb).1), _, rfl⟩
          · have g4 : ¬ (f : Int) < 8 * (q : Int) := by omega
            go_wp2_with fail
            obtain ⟨LL, hLL⟩ : ∃ LL, LL = l.take q := ⟨_, rfl⟩
            have HT := HS
            rw [← hLL] at HT
            clear hLL
            refine (HCj.out _ HT.out.bel).mono ?_
            rintro r w5 ⟨vj, rfl, hoj, hb5⟩
            obtain ⟨Aj, cj, rfl, -, -⟩ := own_slice hoj
            have hjl : (x1.take 4).length ≤ 4 := by rw [List.length_take]; omega
            have HOJ := Lib.hid hoj
            have HB5 := Lib.hid hb5
            obtain ⟨J, hJ⟩ : ∃ J, J = (x1.take 4).length := ⟨_, rfl⟩
            rw [← hJ] at HOJ hjl ⊢
            clear hoj hb5 hJ
            go_wp2_with (at_builtin; refine wpList_append_any _ rfl _ _ 28 rfl w.heap.size 5 i0 (.int .u8 0) 1 1 Try.underlying28 hi hz0 hz1 hz2 rfl (by decide) (.slice Ac q cc) q (bsV LL) rfl (own_keep HT.out.own HB5.out) w5.heap.size Aj J cj (bsV (x1.take 4)) rfl (own_reads HOJ.out) (bsV_one _) (by simp only [maxLen]; omega) (by omega) (by have h1 := HT.out.bel.size; have h2 := HB5.out.size; omega) ?_; intro v6 w6 hown6 hg6 _hne; clear _hne; have HO6 := Lib.hid hown6; have HG6 := Lib.hid hg6; clear hown6 hg6)
            go_meet
            obtain ⟨A6, c6, rfl, hc61, hc62⟩ := own_slice HO6.out
            have hb5 : Below w.heap.size w w5 := HT.out.bel.trans (HB5.out.mono HT.out.bel.size)
            have hr6 := own_reads HO6.out
            rw [bsV_app] at hr6
            exact Lib.hid ⟨A6, q + J, c6, _, rfl, hc61, by unfold maxLen at hc62; omega, by omega, by have := hr6.1; simpa [bsV] using this, hr6, fun y hy => (List.mem_append.1 hy).elim (HT.out.by_ y) (fun h => bounds_u8 (HR1.out.2.2.2 y (List.mem_of_mem_take h))), hb5.grown HG6.out hb5.size (fun b hb => (HT.out.own.lt b hb).1), _, rfl⟩
        · have HS : Hid (ScI w w3 (.slice Ac N cc) N l) := HI
          have g3 : ¬ (q : Int) < (N : Int) := by omega
          go_wp2_with fail
          refine (HW3.out N _ (by omega)).mono ?_
          rintro r w4 ⟨rfl, rfl⟩
          have k1 := Int.emod_nonneg a3 (show 20 * (N : Int) + 1 ≠ 0 by omega)
          have k2 := Int.emod_lt_of_pos a3 (show (0 : Int) < 20 * (N : Int) + 1 by omega)
          obtain ⟨f, hf⟩ : ∃ f : Nat, a3 % (20 * (N : Int) + 1) = (f : Int) := ⟨(a3 % (20 * (N : Int) + 1)).toNat, by omega⟩
          have hfb : f ≤ 10000 := by omega
          simp only [hf]
          clear k1 k2 hf
          by_cases hfl : f < 8 * N
          · have g4 : (f : Int) < 8 * (N : Int) := by omega
            obtain ⟨g, rfl⟩ := own_some HS.out.own (by omega)
            obtain ⟨i, m, hfi, hm⟩ : ∃ i m : Nat, f = 8 * i + m ∧ m < 8 := ⟨f / 8, f % 8, by omega, by omega⟩
            have hiN : i < N := by omega
            have e1 : (f : Int).tdiv 8 = (i : Int) := by rw [Int.tdiv_eq_ediv_of_nonneg (by omega)]; omega
            have e2 : (f : Int).tmod 8 = (m : Int) := by rw [Int.tmod_eq_emod_of_nonneg (by omega)]; omega
            obtain ⟨z, hz⟩ : ∃ z, (l)[i]? = some z := ⟨_, List.getElem?_eq_getElem (by have := HS.out.len; omega)⟩
            have c0 : w3.cell? ⟨g, i, none⟩ = some (.int .u8 z) := by
              rw [HS.out.own.cellAt i (by omega), bsV, List.getElem?_map, hz]
              rfl
            have f0 : w3.frozen? ⟨g, i, none⟩ = false := HS.out.own.frozenAt _
            have iN : (i : Int) < (N : Int) := by omega
            have hm8 : (m : Int) < 8 := by omega
            clear hz hfi hfl
            go_wp2_with fail
            obtain ⟨z2, hz2⟩ : ∃ z2, z2 = bits .xor .u8 z (2 ^ m % 256) := ⟨_, rfl⟩
            have hzb : 0 ≤ z2 ∧ z2 ≤ 255 := by rw [hz2]; exact bounds_u8 (wf_bits _ _ _ _)
            rw [← hz2]
            obtain ⟨wz, hwz⟩ : ∃ wz, wz = w3.setCell ⟨g, i, none⟩ (.int .u8 z2) := ⟨_, rfl⟩
            have HT0 : Hid (ScI w wz (.slice (some ⟨g, 0, none⟩) N cc) N ((l).set i z2)) := Lib.hid (by
              rw [hwz]
              exact ⟨own_setO HS.out.own i z2, fun y hy => (List.mem_or_eq_of_mem_set hy).elim (HS.out.by_ y) (fun h => by rw [h]; exact hzb), bel_vol HS.out.bel (own_setR HS.out.own i z2).2 (fun b e => by rw [e]; exact (HS.out.own.lt g rfl).1)⟩)
            obtain ⟨LL, hLL⟩ : ∃ LL, LL = (l).set i z2 := ⟨_, rfl⟩
            rw [← hLL] at HT0
            have HT := HT0
            rw [← hwz]
            clear hz2 hwz hLL HT0
            refine (HCj.out _ HT.out.bel).mono ?_
            rintro r w5 ⟨vj, rfl, hoj, hb5⟩
            obtain ⟨Aj, cj, rfl, -, -⟩ := own_slice hoj
            have hjl : (x1.take 4).length ≤ 4 := by rw [List.length_take]; omega
            have HOJ := Lib.hid hoj
            have HB5 := Lib.hid hb5
            obtain ⟨J, hJ⟩ : ∃ J, J = (x1.take 4).length := ⟨_, rfl⟩
            rw [← hJ] at HOJ hjl ⊢
            clear hoj hb5 hJ
            go_wp2_with (at_builtin; refine wpList_append_any _ rfl _ _ 28 rfl w.heap.size 5 i0 (.int .u8 0) 1 1 Try.underlying28 hi hz0 hz1 hz2 rfl (by decide) (.slice (some ⟨g, 0, none⟩) N cc) N (bsV LL) rfl (own_keep HT.out.own HB5.out) w5.heap.size Aj J cj (bsV (x1.take 4)) rfl (own_reads HOJ.out) (bsV_one _) (by simp only [maxLen]; omega) (by omega) (by have h1 := HT.out.bel.size; have h2 := HB5.out.size; omega) ?_; intro v6 w6 hown6 hg6 _hne; clear _hne; have HO6 := Lib.hid hown6; have HG6 := Lib.hid hg6; clear hown6 hg6)
            go_meet
            obtain ⟨A6, c6, rfl, hc61, hc62⟩ := own_slice HO6.out
            have hb5 : Below w.heap.size w w5 := HT.out.bel.trans (HB5.out.mono HT.out.bel.size)
            have hr6 := own_reads HO6.out
            rw [bsV_app] at hr6
            exact Lib.hid ⟨A6, N + J, c6, _, rfl, hc61, by unfold maxLen at hc62; omega, by omega, by have := hr6.1; simpa [bsV] using this, hr6, fun y hy => (List.mem_append.1 hy).elim (HT.out.by_ y) (fun h => bounds_u8 (HR1.out.2.2.2 y (List.mem_of_mem_take h))), hb5.grown HG6.out hb5.size (fun b hb => (HT.out.own.lt b hb).1), _, rfl⟩
          · have g4 : ¬ (f : Int) < 8 * (N : Int) := by omega
            go_wp2_with fail
            obtain ⟨LL, hLL⟩ : ∃ LL, LL = l := ⟨_, rfl⟩
            have HT := HS
            rw [← hLL] at HT
            clear hLL
            refine (HCj.out _ HT.out.bel).mono ?_
            rintro r w5 ⟨vj, rfl, hoj, hb5⟩
            obtain ⟨Aj, cj, rfl, -, -⟩ := own_slice hoj
            have hjl : (x1.take 4).length ≤ 4 := by rw [List.length_take]; omega
            have HOJ := Lib.hid hoj
            have HB5 := Lib.hid hb5
            obtain ⟨J, hJ⟩ : ∃ J, J = (x1.take 4).length := ⟨_, rfl⟩
            rw [← hJ] at HOJ hjl ⊢
            clear hoj hb5 hJ
            go_wp2_with (at_builtin; refine wpList_append_any _ rfl _ _ 28 rfl w.heap.size 5 i0 (.int .u8 0) 1 1 Try.underlying28 hi hz0 hz1 hz2 rfl (by decide) (.slice Ac N cc) N (bsV LL) rfl (own_keep HT.out.own HB5.out) w5.heap.size Aj J cj (bsV (x1.take 4)) rfl (own_reads HOJ.out) (bsV_one _) (by simp only [maxLen]; omega) (by omega) (by have h1 := HT.out.bel.size; have h2 := HB5.out.size; omega) ?_; intro v6 w6 hown6 hg6 _hne; clear _hne; have HO6 := Lib.hid hown6; have HG6 := Lib.hid hg6; clear hown6 hg6)
            go_meet
            obtain ⟨A6, c6, rfl, hc61, hc62⟩ := own_slice HO6.out
            have hb5 : Below w.heap.size w w5 := HT.out.bel.trans (HB5.out.mono HT.out.bel.size)
            have hr6 := own_reads HO6.out
            rw [bsV_app] at hr6
            exact Lib.hid ⟨A6, N + J, c6, _, rfl, hc61, by unfold maxLen at hc62; omega, by omega, by have := hr6.1; simpa [bsV] using this, hr6, fun y hy => (List.mem_append.1 hy).elim (HT.out.by_ y) (fun h => bounds_u8 (HR1.out.2.2.2 y (List.mem_of_mem_take h))), hb5.grown HG6.out hb5.size (fun b hb => (HT.out.own.lt b hb).1), _, rfl⟩
  case rest =>
    obtain ⟨A, n, c, l, hvb, hnc, hci, hn, hl, hr, hby, hbel, wj, hwj⟩ := hcut.out
    subst hwj
    subst hvb
    have hu8 := u8L_bytes hby
    have hul : (u8L l).length = n := by rw [u8L, List.length_map]; exact hl
    have HR := Lib.hid hr
    have HBy := Lib.hid hby
    have HBel := Lib.hid hbel
    have HU8 := Lib.hid hu8
    have HUL := Lib.hid hul
    have HLe := Lib.hid (Lend_any A n c _ (u8L l) wj (by rw [hu8]; exact hr) (Nat.le_refl _) (by omega))
    clear hcut hr hby hbel hu8 hul HRv HEl HX0 HCj HR1 HW2 HW3 hl z1
    go_wp2_with fail
    refine HLe.out.mono ?_
    rintro r w2 ⟨g, rfl, hg, hgb, hb2⟩
    have hrl : Reads w2 w2.heap.size 1 (some ⟨g, 0, none⟩) n (bsV l) := by rw [← HU8.out]; exact lent_reads hgb HUL.out
    have HSc := Lib.hid (Scan2_ (w := w2) (c := n + 3) hrl (Nat.le_refl _) (by omega) (by omega) (by omega) HBy.out)
    have HG := Lib.hid (And.intro hg (And.intro hgb hb2))
    clear hg hgb hb2 hrl HLe
    go_wp2_with fail
    refine HSc.out.mono ?_
    rintro r w3 ⟨v3, X, t3, rfl, hbs3, hbad3, hX3, hrw3, hb3⟩
    obtain ⟨A3, c3, rfl, -, -⟩ := hrw3.shape
    have hb13 : Below wj.heap.size wj w3 := HG.out.2.2.trans (hb3.mono HG.out.2.2.size)
    have HRS := Lib.hid (RefScan_ (w := w3) (c := c) (reads_belR HR.out (Nat.le_refl _) hb13) hb13.size (by omega) hnc hci HBy.out)
    have HA3 := Lib.hid (And.intro hbs3 (And.intro hbad3 (And.intro hX3 (And.intro hrw3 hb3))))
    have HB13 := Lib.hid hb13
    clear hbs3 hbad3 hX3 hrw3 hb3 hb13 HSc
    go_wp2_with fail
    refine HRS.out.mono ?_
    rintro r w4 ⟨v4, Y, t4, rfl, hbs4, hbad4, hX4, hrw4, hb4⟩
    have hXY : X = Y := by
      obtain ⟨hbs3, hbad3, hX3, -, -⟩ := HA3.out
      exact (scan_uniq hX3 hX4 hbad3 hbad4 (by rw [← hbs3]; exact hbs4)).1
    subst hXY
    obtain ⟨A4, c4, rfl, -, -⟩ := hrw4.shape
    have hXn : X.length ≤ 2000000 := by
      have h1 := congrArg List.length hbs4
      have h2 : ∀ X : List (List Int), X.length ≤ (catL X).length := by
        intro X
        induction X with
        | nil => simp [catL]
        | cons x X ih => rw [catL_cons, List.length_append, packL_len, List.length_cons]; omega
      have h3 := h2 X
      have h4 : l.length = n := by have := HR.out.1; simpa [bsV] using this
      rw [List.length_append] at h1
      omega
    obtain ⟨hbs3, hbad3, hX3, hrw3, hb3⟩ := HA3.out
    have HS := Lib.hid (fun (wz : World) (hb : Below w4.heap.size w4 wz) => Same_rows2 (w := wz) ((hrw3.keep hb4).keep hb).rd (hrw4.keep hb).rd (Nat.le_refl _) (Nat.le_refl _) hXn (fun x hx => by have := hX3 x hx; omega))
    have hb14 : Below wj.heap.size wj w4 := HB13.out.trans (hb4.mono HB13.out.size)
    have hgb4 : Below w2.heap.size w2 w4 := hb3.trans (hb4.mono hb3.size)
    have HB14 := Lib.hid hb14
    have HGB := Lib.hid (HG.out.2.1.below hgb4 HG.out.2.1.lt)
    obtain ⟨N, hN⟩ : ∃ N, N = (catL X).length := ⟨_, rfl⟩
    rw [← hN]
    clear hbs3 hbad3 hX3 hrw3 hb3 hbs4 hbad4 hX4 hrw4 hb4 hb14 hgb4 HRS HA3 HB13 hN hXn
    go_wp2_with fail
    refine (HW5.out _).mono ?_
    rintro r w5 ⟨rfl, rfl⟩
    have k1 := Int.emod_nonneg a5 (show (240 : Int) ≠ 0 by omega)
    have k2 := Int.emod_lt_of_pos a5 (show (0 : Int) < 240 by omega)
    obtain ⟨L, hL⟩ : ∃ L : Nat, a5 % 240 = (L : Int) := ⟨(a5 % 240).toNat, by omega⟩
    have hLb : L ≤ 240 := by omega
    rw [hL]
    clear k1 k2 hL HW5
    obtain ⟨wm, hwm⟩ : ∃ wm, wm = w4.alloc (.cells (madeCells #[.int .u8 0] L) 5) := ⟨_, rfl⟩
    have hmk : (Instr.makeSlice 28 (.int .i64 (L : Int)) (.int .i64 (L : Int))).run Try.prog w4 = .ok (.slice (some ⟨w4.heap.size, 0, none⟩) L L) wm := by rw [hwm]; exact mk_made L (by omega) w4
    have hrm : Reads wm wm.heap.size 1 (some ⟨w4.heap.size, 0, none⟩) L (bsV (List.replicate L 0)) := by rw [hwm]; exact reads_mk w4 L
    have hbm : Below w4.heap.size w4 wm := by rw [hwm]; exact (Below.refl _ _).alloc (Nat.le_refl _) _
    have HRm := Lib.hid hrm
    have HBm := Lib.hid hbm
    have hnn : ((N : Int) == (N : Int)) = true := by simp
    obtain ⟨gm, hgm⟩ : ∃ gm, gm = w4.heap.size := ⟨_, rfl⟩
    rw [← hgm] at hmk HRm
    clear hwm hrm hbm hgm
    go_wp2_with fail
    refine (HS.out wm HBm.out).mono ?_
    rintro r w6 ⟨rfl, hb6⟩
    have hb46 : Below w4.heap.size w4 w6 := HBm.out.trans (hb6.mono HBm.out.size)
    have HIn := Lib.hid (Intact_any g A n c wj.heap.size (u8L l) w6 (HGB.out.below hb46 HGB.out.lt) (by rw [HU8.out]; exact reads_belR HR.out (Nat.le_refl _) (HB14.out.trans (hb46.mono HB14.out.size))) (by omega))
    have HB6 := Lib.hid (And.intro hb6 hb46)
    clear hb6 hb46 hmk HS
    go_wp2_with fail
    refine HIn.out.mono ?_
    rintro r w7 ⟨rfl, kd, hw7⟩
    have hb67 : Below wm.heap.size wm w7 := by rw [hw7]; exact below_drewN HB6.out.1 _
    have HB7 := Lib.hid hb67
    clear hw7 hb67 HIn
    rcases Nat.lt_or_ge 200 L with hL2 | hL2
    · go_wp2_with fail
      refine (Pack_no (w := w7) (n := L) (c := L) (A := some ⟨gm, 0, none⟩) hL2).mono ?_
      rintro r w8 ⟨rfl, hb8⟩
      have HB8 := Lib.hid hb8
      clear hb8
      go_wp2_with fail
      refine (RefRecord_no (w := w8) (n := L) (c := L) (A := some ⟨gm, 0, none⟩) hL2).mono ?_
      rintro r w9 ⟨rfl, hb9⟩
      have HB9 := Lib.hid hb9
      clear hb9
      have HSm := Lib.hid (SameByte_int none none 0 0 0 0 [] [] 0 0 w9 (Nat.zero_le _) (Nat.zero_le _) ⟨by simp, fun h => absurd h (by omega)⟩ ⟨by simp, fun h => absurd h (by omega)⟩ (by omega) (by omega))
      go_wp2_with fail
      refine HSm.out.mono ?_
      rintro r w10 ⟨hr, hb10⟩
      have hr2 : r = .returned (.bool true) := by rw [hr]; simp
      clear hr
      subst hr2
      have HB10 := Lib.hid hb10
      clear hb10 HSm
      go_wp2_with fail
      refine (wkk _).mono ?_
      rintro r w11 ⟨rfl, hb11⟩
      go_wp2_with fail
      go_ret
      have j1 := HBel.out.trans (HB14.out.mono HBel.out.size)
      have j2 := j1.trans (HBm.out.mono j1.size)
      have j3 := j2.trans (HB7.out.mono j2.size)
      have j4 := j3.trans (HB8.out.mono j3.size)
      have j5 := j4.trans (HB9.out.mono j4.size)
      have j6 := j5.trans (HB10.out.mono j5.size)
      exact ⟨rfl, j6.trans (hb11.mono j6.size)⟩
    · have HP := Lib.hid (Pack_yes (w := w7) (c := L) (reads_belR HRm.out (Nat.le_refl _) HB7.out) HB7.out.size hL2)
      go_wp2_with fail
      refine HP.out.mono ?_
      rintro r w8 ⟨v8, rfl, ho8, hb8⟩
      obtain ⟨A8, c8, rfl, -, -⟩ := own_slice ho8
      have HB8 := Lib.hid hb8
      have hb78 : Below wm.heap.size wm w8 := HB7.out.trans (hb8.mono HB7.out.size)
      have HP2 := Lib.hid (RefRecord_yes (w := w8) (c := L) (reads_belR HRm.out (Nat.le_refl _) hb78) hb78.size hL2)
      have HO8 := Lib.hid ho8
      clear hb8 hb78 ho8 HP
      go_wp2_with fail
      refine HP2.out.mono ?_
      rintro r w9 ⟨v9, rfl, ho9, hb9⟩
      obtain ⟨A9, c9, rfl, -, -⟩ := own_slice ho9
      have hpl : (packL (List.replicate L 0)).length = L + 2 := by rw [packL_len, List.length_replicate]
      have HB9 := Lib.hid hb9
      have HSm := Lib.hid (SameByte_int A8 A9 (packL (List.replicate L 0)).length c8 (packL (List.replicate L 0)).length c9 _ _ _ _ w9 (Nat.le_refl _) (Nat.le_refl _) (own_reads (own_keep HO8.out hb9)) (own_reads ho9) (by rw [hpl]; omega) (by rw [hpl]; omega))
      clear hb9 ho9 HP2 hpl
      go_wp2_with fail
      refine HSm.out.mono ?_
      rintro r w10 ⟨hr, hb10⟩
      have hr2 : r = .returned (.bool true) := by rw [hr]; simp
      clear hr
      subst hr2
      have HB10 := Lib.hid hb10
      clear hb10 HSm
      go_wp2_with fail
      refine (wkk _).mono ?_
      rintro r w11 ⟨rfl, hb11⟩
      go_wp2_with fail
      go_ret
      have j1 := HBel.out.trans (HB14.out.mono HBel.out.size)
      have j2 := j1.trans (HBm.out.mono j1.size)
      have j3 := j2.trans (HB7.out.mono j2.size)
      have j4 := j3.trans (HB8.out.mono j3.size)
      have j5 := j4.trans (HB9.out.mono j4.size)
      have j6 := j5.trans (HB10.out.mono j5.size)
      exact ⟨rfl, j6.trans (hb11.mono j6.size)⟩

end Go.Proofs.Ytplmfmcogbdpjaa.recordScans
