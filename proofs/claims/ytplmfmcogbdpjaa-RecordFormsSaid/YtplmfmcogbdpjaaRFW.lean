/- The walk of RecordForms: the Go text returns true, and writes nothing that was there. -/
import Derived.Test.YtplmfmcogbdpjaaAllSum
import Derived.Test.YtplmfmcogbdpjaaRowsA
import Derived.Test.YtplmfmcogbdpjaaRecF
import Derived.Test.YtplmfmcogbdpjaaWithin
namespace Go.Proofs.Ytplmfmcogbdpjaa.recordForms
open Go.ChangeShapes Go.WideShapes Go.ChangeAt Go.RowKit
set_option linter.unusedVariables false
open Go Go.RowKit Go.Proofs.Ytplmfmcogbdpjaa.Dk Go.Proofs.Ytplmfmcogbdpjaa.Crw Go.Proofs.Ytplmfmcogbdpjaa.Vl Go.Proofs.Ytplmfmcogbdpjaa
set_option maxRecDepth 100000
theorem wkk (w : World) : Calls Try.prog 34 #[] w fun e w' => e = .returned (.bool true) ∧ Below w.heap.size w w' := wakes_34.2.2.2 w
theorem int_infoF : (Try.prog.info? 3).map (fun i => (i.zero, i.size, i.bytes)) = some (some (.int .i64 0), 1, 8) := by kernel_rfl
theorem bel_vol {w w1 w2 : World} {U : Nat → Prop} (h : Below w.heap.size w w1) (hv : Vol U w1 w2) (hU : ∀ b, U b → w.heap.size ≤ b) : Below w.heap.size w w2 :=
  ⟨hv.os.trans h.os, hv.tape.trans h.tape, hv.output.trans h.output, Nat.le_trans h.size hv.size, fun b hb => (hv.block b (Nat.lt_of_lt_of_le hb h.size) (fun e => by have := hU b e; omega)).trans (h.block b hb)⟩
theorem vol_g {w w5 : World} {v : Value} (h : w.grownBy w5 v.ownBlock) : Vol (fun b => v.ownBlock = some b) w w5 := (Vol.refl w).grown h (fun b hb => .inl hb)
theorem vol_ga {w w5 : World} {v : Value} {o : Obj} (h : (w.alloc o).grownBy w5 v.ownBlock) : Vol (fun b => v.ownBlock = some b) w w5 := ((Vol.refl w).alloc _).grown h (fun b hb => .inl hb)
structure FmI (w wx : World) (vb vw ve : Value) (W : List (List Int)) : Prop where
  ob : wx.ownsRow w.heap.size 5 1 vb (catL W).length (bsV (catL W))
  ow : RwV wx (fun b => vb.ownBlock = some b) w.heap.size vw W
  oe : wx.ownsRow w.heap.size 3 1 ve W.length (intsF (endsL W))
  bel : Below w.heap.size w wx
set_option maxHeartbeats 32000000 in
theorem walk (A0 : Option Addr) (n0 c0 : Nat) (x0 : List (List Int)) (a1 : Int) (w : World) (b0 : ByteRows w A0 n0 c0 x0) (b1 : -9223372036854775808 ≤ a1 ∧ a1 ≤ 9223372036854775807) :
    Calls Try.prog 5 #[.slice A0 n0 c0, .int .i64 a1] w fun e w' => e = .returned (.bool true) ∧ Below w.heap.size w w' := by
  obtain ⟨h01, h02, h03, vs, h04, h05⟩ := b0
  obtain ⟨i0, hi, hz0, hz1, hz2⟩ := info_parts byte_infoD
  obtain ⟨i1, hi1, hy0, hy1, hy2⟩ := info_parts row_infoD
  obtain ⟨i2, hi2, hx0, hx1, hx2⟩ := info_parts int_infoF
  have HX0 := Lib.hid h03
  have HRv := Lib.hid h04
  have HEl := Lib.hid h05
  have HA1 := Lib.hid b1
  have HI0 := Lib.hid (show FmI w w (.slice none 0 0) (.slice none 0 0) (.slice none 0 0) [] from ⟨⟨by simp [catL], .inl ⟨rfl, rfl⟩⟩, RwV.nil _, ⟨by simp [endsL], .inl ⟨rfl, rfl⟩⟩, Below.refl _ _⟩)
  clear h03 h04 h05 h01 h02 b1
  go_enter Try.func5, Try.ntmps5
  go_upto_block 0 with fail
  go_cut [5, 6, 7, 8, 9, 10] from 20 to 72 (fun vb vw ve v8 v9 v10 wx => Hid (∃ (W : List (List Int)), W.length ≤ 8 ∧ Wok 200 W ∧ FmI w wx vb vw ve W ∧ ∃ w7, w7 = wx))
  case first =>
    go_wp2_with fail
    go_loopw [5, 6, 7, 8] (fun vb vw ve vi wr => Hid (∃ (k : Nat), k ≤ n0 ∧ k ≤ 8 ∧ vi = .int .i64 k ∧ FmI w wr vb vw ve ((x0.take k).map (List.take 200)) ∧ Wok 200 ((x0.take k).map (List.take 200)) ∧ ∃ w7, w7 = wr)) (fun _ _ _ vi _ => 8 - (intOf vi).toNat)
    case atStart => exact Lib.hid ⟨0, by omega, by omega, rfl, HI0.out, Wok.nil, _, rfl⟩
    case round =>
      obtain ⟨k, hk, hk8, rfl, hI, hok, wr, hwr⟩ := hrel.out
      subst hwr
      have HI1 := Lib.hid hI
      have HOK := Lib.hid hok
      clear hrel hI hok HI0
      have hlenW : ((x0.take k).map (List.take 200)).length = k := by
        have := HX0.out
        rw [List.length_map, List.length_take]
        omega
      obtain ⟨N, hN⟩ : ∃ N, N = (catL ((x0.take k).map (List.take 200))).length := ⟨_, rfl⟩
      have hcl : N ≤ 202 * k := by have := HOK.out.len; rw [hlenW, ← hN] at this; exact this
      obtain ⟨W, hW⟩ : ∃ W, W = (x0.take k).map (List.take 200) := ⟨_, rfl⟩
      rw [← hW] at HI1 HOK hlenW hN
      have HW := Lib.hid hW
      have HLW := Lib.hid hlenW
      have HNN := Lib.hid hN
      obtain ⟨Ab, cb, rfl, -, -⟩ := own_slice HI1.out.ob
      obtain ⟨Aw, cw, rfl, -, -⟩ := HI1.out.ow.rw.shape
      obtain ⟨Ae, ce, rfl, -, -⟩ := own_slice HI1.out.oe
      clear hW hlenW hN
      by_cases hall : (k : Int) < (n0 : Int) ∧ (k : Int) < 8
      · obtain ⟨g1, g2⟩ := hall
        have hkn : k < n0 := by omega
        have hkx : k < x0.length := by rw [HX0.out]; exact hkn
        obtain ⟨ad, u, rfl, -, hu, hc⟩ := (reads_belR HRv.out (Nat.le_refl _) HI1.out.bel).at_ hkn
        obtain ⟨x, hx⟩ : ∃ x, x0[k]? = some x := ⟨_, List.getElem?_eq_getElem hkx⟩
        obtain ⟨A', n', c', e1, hn', hc', hl', hr', hwf⟩ := HEl.out k x hx
        rw [e1] at hu
        injection hu with hu
        subst hu
        have hCut := Cut_i 200 (by omega) A' n' c' _ x wr (reads_belR hr' (Nat.le_refl _) HI1.out.bel) hn' (by unfold maxLen at hc'; omega)
        obtain ⟨y, hy⟩ : ∃ y, y = x.take 200 := ⟨_, rfl⟩
        rw [← hy] at hCut
        have hyl : y.length ≤ 200 := by rw [hy, List.length_take]; omega
        have hyb : ∀ z ∈ y, 0 ≤ z ∧ z ≤ 255 := fun z hz => bounds_u8 (hwf z (by rw [hy] at hz; exact List.mem_of_mem_take hz))
        have HYB := Lib.hid hyb
        have HWk : Hid ((x0.take (k + 1)).map (List.take 200) = W ++ [y]) := Lib.hid (by
          rw [List.take_add_one, hx, HW.out, hy]
          simp)
        clear hx e1 hn' hc' hl' hr' hwf hy hyb
        rw [HLW.out, ← HNN.out]
        go_wp2_with fail
        refine hCut.mono ?_
        rintro r w3 ⟨vy, rfl, hoy, hb3⟩
        obtain ⟨Ay, cy, rfl, -, -⟩ := own_slice hoy
        have HOY := Lib.hid hoy
        have HB3 := Lib.hid hb3
        have HP := Lib.hid (Pack_yes (c := cy) (own_reads hoy) (Nat.le_refl _) hyl)
        clear hoy hb3 hCut
        go_wp2_with fail
        refine HP.out.mono ?_
        rintro r w4 ⟨vp, rfl, hop, hb4⟩
        have hpl : (packL y).length = y.length + 2 := packL_len y
        rw [hpl] at hop
        obtain ⟨Ap, cp, rfl, -, -⟩ := own_slice hop
        obtain ⟨ap, u0, rfl, -, hu0, hcp0⟩ := (own_reads hop).at_ (k := 0) (by omega)
        obtain ⟨ap2, u1, e2, -, hu1, hcp1⟩ := (own_reads hop).at_ (k := y.length + 1) (by omega)
        injection e2 with e2
        subst e2
        have hv0 : u0 = .int .u8 (y.length : Int) := by simpa [packL, bsV] using hu0.symm
        have hv1 : u1 = .int .u8 165 := by
          have h := hu1.symm
          unfold packL bsV at h
          rw [List.map_cons, List.getElem?_cons_succ, List.map_append, List.getElem?_append_right (by simp)] at h
          simpa using h
        subst hv0 hv1
        have HOP := Lib.hid hop
        have HB4 := Lib.hid hb4
        have hcp0' : w4.cell? ap = some (.int .u8 (y.length : Int)) := hcp0
        have hcp1' := addr_cell hcp1 (by omega)
        clear hop hb4 HP hpl hu0 hu1 hcp0 hcp1
        have hlr : w.heap.size ≤ wr.heap.size := HI1.out.bel.size
        have hs3 := HB3.out.size
        have hb4 : Below wr.heap.size wr w4 := HB3.out.trans (HB4.out.mono hs3)
        have HBel4 := Lib.hid (HI1.out.bel.trans (hb4.mono hlr))
        have HOB4 := Lib.hid (show w4.ownsRow w.heap.size 5 1 (.slice Ab N cb) N (bsV (catL W)) by have h := own_keep HI1.out.ob hb4; rw [← HNN.out] at h; exact h)
        obtain ⟨ws, hws, hnw, hew⟩ := HI1.out.ow.keep hb4
        rw [HLW.out] at hws hnw
        rw [← HNN.out] at hnw hew
        have HWS := Lib.hid hws
        have HEW := Lib.hid (And.intro hnw hew)
        have HOE := Lib.hid (show w4.ownsRow w.heap.size 3 1 (.slice Ae k ce) k (intsF (endsL W)) by have h := own_keep HI1.out.oe hb4; rw [HLW.out] at h; exact h)
        have hs4 := HB4.out.size
        clear hb4 hws hnw hew
        go_wp2_with (first | (at_builtin; refine wpList_append_any _ rfl _ _ 45 rfl w.heap.size 3 i2 (.int .i64 0) 1 8 Try.underlying45 hi2 hx0 hx1 hx2 rfl (by decide) (.slice Ae k ce) k (intsF (endsL W)) rfl ((own_vol (own_vol HOE.out (vol_g HG5.out.1) (own_apart HOB4.out HOE.out (by decide))) (vol_ga HG6.out.1) (own_apart HWS.out HOE.out (by decide))).alloc _) (w6.alloc (.cells #[.int .i64 ((N : Int) + ((y.length : Int) + 2))] 3)).heap.size (some ⟨w6.heap.size, 0, none⟩) 1 1 [.int .i64 ((N : Int) + ((y.length : Int) + 2))] rfl (reads_one w6 (.int .i64 ((N : Int) + ((y.length : Int) + 2))) 3) (by simp [Value.oneCell']) (by simp only [maxLen]; omega) (by omega) (by have h1 := HBel4.out.size; have h2 := HG5.out.1.size; have h3 := HG6.out.1.size; simp at h3 ⊢; omega) ?_; intro v7 w7 hown7 hg7 hne7; have HO7 := Lib.hid hown7; have HG7 := Lib.hid (And.intro hg7 hne7); clear hown7 hg7 hne7) | (at_builtin; refine wpList_append_any _ rfl _ _ 44 rfl w.heap.size 28 i1 (.slice none 0 0) 1 24 Try.underlying44 hi1 hy0 hy1 hy2 rfl (by decide) (.slice Aw k cw) k ws rfl ((own_vol HWS.out (vol_g HG5.out.1) (own_apart HOB4.out HWS.out (by decide))).alloc _) (w5.alloc (.cells #[.slice Ay y.length cy] 28)).heap.size (some ⟨w5.heap.size, 0, none⟩) 1 1 [.slice Ay y.length cy] rfl (reads_one w5 (.slice Ay y.length cy) 28) (by simp [Value.oneCell']) (by simp only [maxLen]; omega) (by omega) (by have h1 := HBel4.out.size; have h2 := HG5.out.1.size; simp; omega) ?_; intro v6 w6 hown6 hg6 hne6; have HO6 := Lib.hid hown6; have HG6 := Lib.hid (And.intro hg6 hne6); obtain ⟨A6, c6, rfl, -, -⟩ := own_slice hown6; clear hown6 hg6 hne6) | (at_builtin; refine wpList_append_any _ rfl _ _ 28 rfl w.heap.size 5 i0 (.int .u8 0) 1 1 Try.underlying28 hi hz0 hz1 hz2 rfl (by decide) (.slice Ab N cb) N (bsV (catL W)) rfl HOB4.out w4.heap.size (some ap) (y.length + 2) cp (bsV (packL y)) rfl (own_reads HOP.out) (bsV_one _) (by simp only [maxLen]; omega) (by omega) (by have := HBel4.out.size; exact this) ?_; intro v5 w5 hown5 hg5 hne5; have HO5 := Lib.hid hown5; have HG5 := Lib.hid (And.intro hg5 hne5); obtain ⟨A5, c5, rfl, -, -⟩ := own_slice hown5; clear hown5 hg5 hne5))
        go_roundw
        case rel =>
          obtain ⟨hg5, hne5⟩ := HG5.out
          obtain ⟨hg6, hne6⟩ := HG6.out
          obtain ⟨hg7, hne7⟩ := HG7.out
          obtain ⟨hnw, hew⟩ := HEW.out
          have hv45 := vol_g hg5
          have hv56 := vol_ga hg6
          have hv67 := vol_ga hg7
          have hbb : ∀ b, Value.ownBlock (.slice Ab N cb) = some b → b < wr.heap.size := fun b hb => (by have h := HI1.out.ob; rw [← HNN.out] at h; exact (h.lt b hb).2)
          have hyy : ∀ b, Value.ownBlock (.slice Ay y.length cy) = some b → wr.heap.size ≤ b ∧ b < w4.heap.size := fun b hb => ⟨(HOY.out.lt b hb).1, Nat.lt_of_lt_of_le (HOY.out.lt b hb).2 hs4⟩
          have hy5 : w5.ownsRow w.heap.size 5 1 (.slice Ay y.length cy) y.length (bsV y) := own_lo (own_vol (own_keep HOY.out HB4.out) hv45 (fun b hb e => by have h1 := hyy b hb; have h2 := hbb b e; omega)) hlr
          have h5b : ∀ b, Value.ownBlock (.slice A5 (N + (y.length + 2)) c5) = some b → Value.ownBlock (.slice Ab N cb) = some b ∨ w4.heap.size ≤ b := fun b hb => by
            rcases hne5 with h | h
            · exact .inl (h ▸ hb)
            · right
              rw [h] at hb
              injection hb with hb
              omega
          have hw5 : RwV w5 (fun b => Value.ownBlock (.slice A5 (N + (y.length + 2)) c5) = some b) w.heap.size (.slice Aw k cw) W := RwV.vol (w := w4) ⟨ws, by rw [HLW.out]; exact HWS.out, hnw, hew⟩ hv45 h5b
          obtain ⟨ws', hws5, hnw5, hew5⟩ := hw5
          have hws0 : w5.ownsRow w.heap.size 28 1 (.slice Aw k cw) W.length ws := by rw [HLW.out]; exact own_vol HWS.out hv45 (own_apart HOB4.out HWS.out (by decide))
          have hwe : ws' = ws := by
            rcases hws5.2 with ⟨e, h0⟩ | ⟨g, cap, cur, e, -, hh, -, -, -, hcur⟩
            · have h1 := hws5.1
              have h2 := hws0.1
              have e1 : ws' = [] := List.eq_nil_of_length_eq_zero (by omega)
              have e2 : ws = [] := List.eq_nil_of_length_eq_zero (by omega)
              rw [e1, e2]
            · rcases hws0.2 with ⟨e', -⟩ | ⟨g', cap', cur', e', -, hh', -, -, -, hcur'⟩
              · rw [e] at e'; cases e'
              · rw [e] at e'
                injection e' with e1 e2 e3
                injection e1 with e1
                injection e1 with e1
                subst e1
                rw [hh] at hh'
                injection hh' with hh'
                injection hh' with hh'
                subst hh'
                rw [← hcur, ← hcur']
          subst hwe
          have hpush := RwV.push hws5 hnw5 hew5 hy5 (fun b hb e => by
            have h1 := hyy b hb
            rcases h5b b e with h | h
            · have := hbb b h; omega
            · omega) (fun b hb => (HO5.out.lt b hb).2) (by rw [HLW.out]; exact HO6.out) hg6 hne6
          have hoe6 : w6.ownsRow w.heap.size 3 1 (.slice Ae k ce) k (intsF (endsL W)) := own_vol (own_vol HOE.out hv45 (own_apart HOB4.out HOE.out (by decide))) hv56 (own_apart HWS.out HOE.out (by decide))
          have hob6 : w6.ownsRow w.heap.size 5 1 (.slice A5 (N + (y.length + 2)) c5) (N + (y.length + 2)) (bsV (catL W) ++ bsV (packL y)) := own_vol HO5.out hv56 (own_apart hws5 HO5.out (by decide))
          have hb5 : Below w.heap.size w w5 := HBel4.out.grown hg5 HBel4.out.size (fun b hb => (HOB4.out.lt b hb).1)
          have hb6 : Below w.heap.size w w6 := (hb5.alloc hb5.size _).grown hg6 (by have := hb5.size; simp; omega) (fun b hb => (HWS.out.lt b hb).1)
          have hb7 : Below w.heap.size w w7 := (hb6.alloc hb6.size _).grown hg7 (by have := hb6.size; simp; omega) (fun b hb => (HOE.out.lt b hb).1)
          have ecl : (catL (W ++ [y])).length = N + (y.length + 2) := by rw [catL_snoc, List.length_append, packL_len, ← HNN.out]
          refine Lib.hid ⟨k + 1, by omega, by omega, by go_num, ?_, ?_, _, rfl⟩
          · rw [HWk.out]
            refine ⟨?_, hpush.other hoe6 (by decide) (by decide) hv67, ?_, hb7⟩
            · rw [ecl, catL_snoc, ← bsV_app]
              exact own_vol hob6 hv67 (own_apart hoe6 hob6 (by decide))
            · rw [List.length_append, endsL_snoc, HLW.out, ecl]
              have h := HO7.out
              simpa [intsF] using h
          · rw [HWk.out]
            exact HOK.out.app (Wok.one hyl HYB.out)
        case measure => simp [intOf]; omega
      · have hall2 : ¬ (k : Int) < (n0 : Int) ∨ ((k : Int) < (n0 : Int) ∧ ¬ (k : Int) < 8) := by omega
        clear hall
        have HI2 : Hid (FmI w wr (.slice Ab N cb) (.slice Aw k cw) (.slice Ae k ce) W) := Lib.hid (by have h := HI1.out; rw [← HNN.out, HLW.out] at h; exact h)
        rw [HLW.out, ← HNN.out]
        rcases hall2 with g1 | ⟨g1, g2⟩
        all_goals
          go_wp2_with fail
          go_meet
          refine Lib.hid ⟨W, by rw [HLW.out]; omega, HOK.out, HI2.out, _, rfl⟩
  case rest =>
    obtain ⟨W, hWl, hok, hI, wj, hwj⟩ := hcut.out
    subst hwj
    obtain ⟨N, hN⟩ : ∃ N, N = (catL W).length := ⟨_, rfl⟩
    obtain ⟨Ab, cb, hvb, hcb1, hcb2⟩ := own_slice hI.ob
    obtain ⟨Aw, cw, hvw, hcw1, hcw2⟩ := hI.ow.rw.shape
    obtain ⟨Ae, ce, hve, hce1, hce2⟩ := own_slice hI.oe
    subst hvb hvw hve
    rw [← hN] at hcb1 hI
    have HN := Lib.hid hN
    have hcl : N ≤ 1616 := by have := hok.len; omega
    have HI1 := Lib.hid hI
    have HOK := Lib.hid hok
    have hby : ∀ z ∈ catL W, 0 ≤ z ∧ z ≤ 255 := hok.bytes (by omega)
    have HBY := Lib.hid hby
    have hcbi : (cb : Int) ≤ 9223372036854775807 := by unfold maxLen at hcb2; omega
    have HOB : Hid (wj.ownsRow w.heap.size 5 1 (.slice Ab N cb) N (bsV (catL W))) := Lib.hid (by have h := hI.ob; rw [← hN] at h; exact h)
    have hW200 : ∀ x ∈ W, x.length ≤ 200 := fun x hx => (hok x hx).1
    have HW200 := Lib.hid hW200
    have hSc := Scan_ (own_reads HOB.out) (Nat.le_refl _) (by omega) hcb1 hcbi hby
    have HSc := Lib.hid hSc
    rw [← hN]
    clear hcut hok hI HI0 HRv HEl HX0 hby hW200 hSc hN hcb2 hcw2 hce2
    go_wp2_with fail
    refine HSc.out.mono ?_
    rintro r w2 ⟨v2, X, t2, rfl, hbs2, hbad2, hX2, hrw2, hb2⟩
    have hXW : W = X := (scan_uniq (s := []) HW200.out hX2 badL_nil hbad2 (by rw [List.append_nil]; exact hbs2)).1
    subst hXW
    rw [← HN.out]
    obtain ⟨A2, c2, rfl, -, -⟩ := hrw2.shape
    have HW2 := Lib.hid (HI1.out.ow.rw.keep hb2)
    have HS := Lib.hid (Same_rows hrw2.rd HW2.out.rd (Nat.le_refl _) (Nat.le_refl _) (by omega) (fun x hx => by have := HW200.out x hx; omega))
    have HB2 := Lib.hid hb2
    clear hbs2 hbad2 hX2 hrw2 hb2 HSc
    have hnn : ((N : Int) == (N : Int)) = true := by simp
    go_wp2_with fail
    refine HS.out.mono ?_
    rintro r w3 ⟨rfl, hb3⟩
    have HB3 := Lib.hid (show Below wj.heap.size wj w3 from HB2.out.trans (hb3.mono HB2.out.size))
    clear hb3 HS HB2 HW2
    have h1 := Int.emod_nonneg a1 (show (N : Int) + 1 ≠ 0 by omega)
    have h2 := Int.emod_lt_of_pos a1 (show (0 : Int) < (N : Int) + 1 by omega)
    obtain ⟨K, hK⟩ : ∃ K : Nat, a1 % ((N : Int) + 1) = (K : Int) := ⟨(a1 % ((N : Int) + 1)).toNat, by omega⟩
    have hKN : K ≤ N := by omega
    have hWi := Within_any a1 ((N : Int) + 1) w3 HA1.out.1 HA1.out.2 (by omega) (by omega)
    rw [hK] at hWi
    have HWi := Lib.hid hWi
    clear h1 h2 hK hWi
    go_wp2_with fail
    refine HWi.out.mono ?_
    rintro r w4 ⟨rfl, rfl⟩
    clear HWi
    have HRe := Lib.hid (own_reads (own_keep HI1.out.oe HB3.out))
    go_upto_block 2 with fail
    go_cut [13, 14] from 93 to 110 (fun vj va wx => Hid (∃ (j : Nat), j ≤ W.length ∧ vj = .int .i64 j ∧ va = .int .i64 ((catL (W.take j)).length : Nat) ∧ (catL (W.take j)).length ≤ K ∧ ((j = W.length ∧ K ≤ N) ∨ (j < W.length ∧ K < (catL (W.take (j + 1))).length)) ∧ w3 = wx))
    case first =>
      go_wp2_with fail
      go_loopw [13, 14] (fun vj va wr => Hid (∃ (j : Nat), j ≤ W.length ∧ vj = .int .i64 j ∧ va = .int .i64 ((catL (W.take j)).length : Nat) ∧ (catL (W.take j)).length ≤ K ∧ w3 = wr)) (fun vj _ _ => W.length - (intOf vj).toNat)
      case atStart => exact Lib.hid ⟨0, Nat.zero_le _, rfl, rfl, Nat.zero_le _, rfl⟩
      case round =>
        obtain ⟨j, hj, rfl, rfl, hjK, hwr⟩ := hrel.out
        subst hwr
        clear hrel
        have HJK := Lib.hid hjK
        clear hjK
        by_cases hlt : j < W.length
        · obtain ⟨ae, ue, rfl, -, hue, hce⟩ := HRe.out.at_ hlt
          obtain ⟨E, hE⟩ : ∃ E, E = (catL (W.take (j + 1))).length := ⟨_, rfl⟩
          have hv : ue = .int .i64 (E : Int) := by
            rw [intsF, List.getElem?_map, endsL_get hlt] at hue
            simp at hue
            rw [← hue, hE]
          subst hv
          have HE := Lib.hid hE
          have k1 : (j : Int) < (W.length : Int) := by omega
          clear hue hE
          by_cases hEK : E ≤ K
          · have k2 : (E : Int) ≤ (K : Int) := by omega
            go_wp2_with fail
            go_roundw
            case rel => exact Lib.hid ⟨j + 1, hlt, by go_num, by rw [← HE.out], by rw [← HE.out]; exact hEK, trivial⟩
            case measure => simp [intOf]; omega
          · have k2 : ¬ (E : Int) ≤ (K : Int) := by omega
            go_wp2_with fail
            go_meet
            exact Lib.hid ⟨j, hj, rfl, rfl, HJK.out, .inr ⟨hlt, by rw [← HE.out]; omega⟩, rfl⟩
        · have k1 : ¬ (j : Int) < (W.length : Int) := by omega
          go_wp2_with fail
          go_meet
          exact Lib.hid ⟨j, hj, rfl, rfl, HJK.out, .inl ⟨by omega, hKN⟩, rfl⟩
    case rest =>
      obtain ⟨j, hj, rfl, rfl, hjK, hjc, hwx⟩ := hcut.out
      subst hwx
      have hjl : (W.take j).length = j := by rw [List.length_take]; omega
      obtain ⟨s, hs, hsb⟩ := cut_at hj hjK (hjc.elim (fun h => .inl ⟨h.1, by rw [← HN.out]; exact h.2⟩) .inr)
      have HSc := Lib.hid (Scan_ (w := w3) (n := K) (c := cb) (l := (catL W).take K) (A := Ab) (by have h := reads_take (own_reads (own_keep HOB.out HB3.out)) hKN; simpa [bsV, List.map_take] using h) (Nat.le_refl _) (by omega) (by omega) hcbi (show ∀ z ∈ (catL W).take K, 0 ≤ z ∧ z ≤ 255 from fun z hz => HBY.out z (List.mem_of_mem_take hz)))
      have HS2 := Lib.hid (And.intro hs hsb)
      have hKc : (K : Int) ≤ (cb : Int) := by omega
      have hKc2 : K ≤ cb := by omega
      have hjw : (j : Int) ≤ (cw : Int) := by omega
      have hjw2 : j ≤ cw := by omega
      clear hcut hs hsb hjc
      go_wp2_with fail
      refine HSc.out.mono ?_
      rintro r w5 ⟨v5, Y, t5, rfl, hbs5, hbad5, hX5, hrw5, hb5⟩
      have hYW : W.take j = Y := by
        rw [HS2.out.1] at hbs5
        exact (scan_uniq (fun x hx => HW200.out x (List.mem_of_mem_take hx)) hX5 HS2.out.2 hbad5 hbs5).1
      subst hYW
      obtain ⟨A5, c5, hv5, -, -⟩ := hrw5.shape
      subst hv5
      have HW5 := Lib.hid (((HI1.out.ow.rw.keep HB3.out).keep hb5).rd.take (k := j) hj)
      have HS := Lib.hid (Same_rows hrw5.rd HW5.out (Nat.le_refl _) (Nat.le_refl _) (by omega) (fun x hx => by have := HW200.out x (List.mem_of_mem_take hx); omega))
      rw [hjl] at HS ⊢
      have HB5 := Lib.hid (show Below wj.heap.size wj w5 from HB3.out.trans (hb5.mono HB3.out.size))
      clear hbs5 hbad5 hX5 hrw5 hb5 HSc HW5
      obtain ⟨T, hT⟩ : ∃ T, T = (catL (W.take j)).length := ⟨_, rfl⟩
      rw [← hT]
      clear hT hjK
      go_wp2_with fail
      refine HS.out.mono ?_
      rintro r w6 ⟨rfl, hb6⟩
      have HB6 := Lib.hid (show Below wj.heap.size wj w6 from HB5.out.trans (hb6.mono HB5.out.size))
      clear hb6 HS HB5
      by_cases hN0 : N = 0
      · have hz : ((N : Int) == 0) = true := by simp; omega
        go_wp2_with fail
        refine (wkk _).mono ?_
        rintro r w7 ⟨rfl, hb7⟩
        go_wp2_with fail
        go_ret
        have k1 := HI1.out.bel.trans (HB6.out.mono HI1.out.bel.size)
        exact ⟨rfl, k1.trans (hb7.mono k1.size)⟩
      · have hz : ((N : Int) == 0) = false := by simp; omega
        have HCo := Lib.hid (Copy_i Ab N cb _ (catL W) w6 (own_reads (own_keep HOB.out HB6.out)) (by omega))
        have hex : ∃ x W', W = x :: W' := by
          cases W with
          | nil => exact absurd (show N = 0 by rw [HN.out]; rfl) hN0
          | cons x W' => exact ⟨x, W', rfl⟩
        obtain ⟨x, W', hxW⟩ := hex
        have hxl : x.length ≤ 200 := HW200.out x (by rw [hxW]; simp)
        have hlx : x.length + 2 ≤ N := by rw [HN.out, hxW, catL_cons, List.length_append, packL_len]; omega
        have hoe6 := own_keep HI1.out.oe HB6.out
        have hpos : 0 < W.length := by rw [hxW]; simp
        obtain ⟨ae, ue, rfl, -, hue, hce⟩ := (own_reads hoe6).at_ hpos
        obtain ⟨M, hM⟩ : ∃ M, M = x.length + 1 := ⟨_, rfl⟩
        have hv : ue = .int .i64 ((M : Int) + 1) := by
          rw [intsF, List.getElem?_map, endsL_get hpos, hxW] at hue
          simp only [List.take_succ_cons, List.take_zero, Option.map_some, Option.some.injEq] at hue
          rw [← hue, catL_cons, List.length_append, packL_len, hM]
          simp [catL]
          omega
        subst hv
        have hae : ae.block < w6.heap.size := by
          rcases hoe6.2 with ⟨e, -⟩ | ⟨g, cap, cur, e, -, hh, -⟩
          · cases e
          · injection e with e1
            injection e1 with e1
            subst e1
            exact (Array.getElem?_eq_some_iff.1 hh).1
        have hce6 : w6.cell? ae = some (.int .i64 ((M : Int) + 1)) := hce
        have HCE6 := Lib.hid hce6
        have HXW := Lib.hid hxW
        have HMM := Lib.hid hM
        have hMN : M < N := by omega
        have hM201 : M ≤ 201 := by omega
        clear hue hce hce6 hoe6 hxW hM hlx hxl
        go_wp2_with fail
        refine HCo.out.mono ?_
        rintro r w7 ⟨vc, rfl, hoc, hb7⟩
        obtain ⟨Ac, cc, rfl, hcc1, hcc2⟩ := own_slice hoc
        obtain ⟨g, rfl⟩ := own_some hoc (by omega)
        have hce7 : w7.cell? ae = some (.int .i64 ((M : Int) + 1)) := (hb7.cell (p := ae) hae).trans HCE6.out
        have k0 : w7.cell? ⟨g, M, none⟩ = some (.int .u8 165) := by
          have h := hoc.cellAt M (by omega)
          rw [h, HXW.out, catL_cons, bsV, List.map_append, List.getElem?_append_left (by rw [List.length_map, packL_len]; have := HMM.out; omega), List.getElem?_map]
          unfold packL
          rw [HMM.out, List.getElem?_cons_succ, List.getElem?_append_right (Nat.le_refl _)]
          simp
        have f0 : w7.frozen? ⟨g, M, none⟩ = false := hoc.frozenAt _
        have hg : w6.heap.size ≤ g := (hoc.lt g rfl).1
        obtain ⟨w8, hw8⟩ : ∃ w8, w8 = w7.setCell ⟨g, M, none⟩ (.int .u8 166) := ⟨_, rfl⟩
        obtain ⟨hr8, hv8⟩ := own_setR hoc M 166
        rw [← hw8] at hr8 hv8
        have hb68 : Below w6.heap.size w6 w8 := bel_vol hb7 hv8 (fun b e => by rw [e]; exact hg)
        have HB8 := Lib.hid (show Below wj.heap.size wj w8 from HB6.out.trans (hb68.mono HB6.out.size))
        have hby8 : ∀ z ∈ (catL W).set M 166, 0 ≤ z ∧ z ≤ 255 := fun z hz => by
          rcases List.mem_or_eq_of_mem_set hz with h | h
          · exact HBY.out z h
          · omega
        have HSc := Lib.hid (Scan_ (w := w8) (n := N) (c := cc) hr8 (Nat.le_refl _) (by omega) hcc1 (by unfold maxLen at hcc2; omega) hby8)
        have HBd : Hid (badL ((catL W).set M 166)) := Lib.hid (by rw [HXW.out, catL_cons, HMM.out]; exact bad_spoilt)
        have HW8 := Lib.hid hw8
        have hMc : (M : Int) < (N : Int) := by omega
        clear hoc hb7 hr8 hv8 hb68 hby8 hg hcc1 hcc2 hw8 HCo HCE6 hae
        go_upto_region 28 with fail
        rw [← HW8.out]
        clear hce7 k0 f0 HW8
        go_wp2_with fail
        refine HSc.out.mono ?_
        rintro r w9 ⟨v9, X, t9, rfl, hbs9, hbad9, hX9, hrw9, hb9⟩
        have hX0 : X = [] := scan_bad hX9 HBd.out hbad9 hbs9
        subst hX0
        obtain ⟨A9, c9, rfl, -, -⟩ := hrw9.shape
        have HB9 := Lib.hid (show Below wj.heap.size wj w9 from HB8.out.trans (hb9.mono HB8.out.size))
        clear hbs9 hbad9 hX9 hrw9 hb9 HSc
        have hmk : ∀ W1, (Instr.makeSlice 28 (.int .i64 201) (.int .i64 201)).run Try.prog W1 = .ok (.slice (some ⟨W1.heap.size, 0, none⟩) 201 201) (W1.alloc (.cells (madeCells #[.int .u8 0] 201) 5)) := mk_made 201 (by omega)
        have HPn := Lib.hid (Pack_no (w := w9.alloc (.cells (madeCells #[.int .u8 0] 201) 5)) (n := 201) (c := 201) (A := some ⟨w9.heap.size, 0, none⟩) (by omega))
        obtain ⟨wm, hwm⟩ : ∃ wm, wm = w9.alloc (.cells (madeCells #[.int .u8 0] 201) 5) := ⟨_, rfl⟩
        rw [← hwm] at HPn
        have hmk2 : (Instr.makeSlice 28 (.int .i64 201) (.int .i64 201)).run Try.prog w9 = .ok (.slice (some ⟨w9.heap.size, 0, none⟩) 201 201) wm := by rw [hwm]; exact hmk w9
        have HBm := Lib.hid (show Below wj.heap.size wj wm by rw [hwm]; exact HB9.out.alloc HB9.out.size _)
        clear hmk hwm
        go_wp2_with fail
        refine HPn.out.mono ?_
        rintro r w11 ⟨rfl, hb11⟩
        have HB11 := Lib.hid (show Below wj.heap.size wj w11 from HBm.out.trans (hb11.mono HBm.out.size))
        clear hb11 hmk2 HPn
        go_wp2_with fail
        refine (wkk _).mono ?_
        rintro r w12 ⟨rfl, hb12⟩
        go_wp2_with fail
        go_ret
        have k1 := HI1.out.bel.trans (HB11.out.mono HI1.out.bel.size)
        exact ⟨rfl, k1.trans (hb12.mono k1.size)⟩

end Go.Proofs.Ytplmfmcogbdpjaa.recordForms
