/- The walk of RecordLoads: the Go text returns true, and writes nothing that was there. -/
import Derived.Test.YtplmfmcogbdpjaaAllSum
import Derived.Test.YtplmfmcogbdpjaaRowsA
import Derived.Test.YtplmfmcogbdpjaaRec9
import Derived.Test.YtplmfmcogbdpjaaWithin
namespace Go.Proofs.Ytplmfmcogbdpjaa.recordLoads
open Go.ChangeShapes Go.WideShapes Go.ChangeAt Go.RowKit
set_option linter.unusedVariables false
open Go Go.RowKit Go.Proofs.Ytplmfmcogbdpjaa.Dk Go.Proofs.Ytplmfmcogbdpjaa.Crw Go.Proofs.Ytplmfmcogbdpjaa.Vl Go.Proofs.Ytplmfmcogbdpjaa
set_option maxRecDepth 100000
theorem wkk (w : World) : Calls Try.prog 34 #[] w fun e w' => e = .returned (.bool true) ∧ Below w.heap.size w w' := wakes_34.2.2.2 w
theorem bel_vol {w w1 w2 : World} {U : Nat → Prop} (h : Below w.heap.size w w1) (hv : Vol U w1 w2) (hU : ∀ b, U b → w.heap.size ≤ b) : Below w.heap.size w w2 :=
  ⟨hv.os.trans h.os, hv.tape.trans h.tape, hv.output.trans h.output, Nat.le_trans h.size hv.size, fun b hb => (hv.block b (Nat.lt_of_lt_of_le hb h.size) (fun e => by have := hU b e; omega)).trans (h.block b hb)⟩
structure LdI (w wx : World) (d : Nat) (mb : Nat) (V : Nat → Prop) (F : List Fi) (W : List (List Int)) : Prop where
  dk : DkP wx w.heap.size d mb V ⟨3000, ((catL W).length : Nat), false, 0, false⟩ F
  lg : ∃ fi, isLog F (catL W) (catL W).length fi
  bel : Below w.heap.size w wx
set_option maxHeartbeats 32000000 in
theorem walk (A0 : Option Addr) (n0 c0 : Nat) (x0 : List (List Int)) (A1 : Option Addr) (n1 c1 : Nat) (x1 : List Int) (w : World) (b0 : ByteRows w A0 n0 c0 x0) (b1 : IntRow .u8 w A1 n1 c1 x1) :
    Calls Try.prog 7 #[.slice A0 n0 c0, .slice A1 n1 c1] w fun e w' => e = .returned (.bool true) ∧ Below w.heap.size w w' := by
  obtain ⟨h01, h02, h03, vs, h04, h05⟩ := b0
  obtain ⟨h11, h12, h13, h14, h15⟩ := b1
  obtain ⟨i0, hi, hz0, hz1, hz2⟩ := info_parts byte_infoD
  have HX0 := Lib.hid h03
  have HRv := Lib.hid h04
  have HEl := Lib.hid h05
  have HCj := Lib.hid (fun (w1 : World) (hb : Below w.heap.size w w1) => Cut_i 30 (by omega) A1 n1 c1 _ x1 w1 (reads_belR h14 (Nat.le_refl _) hb) h11 (by unfold maxLen at h12; omega))
  have HBj := Lib.hid h15
  clear h03 h04 h05 h01 h02 h11 h12 h13 h14 h15
  go_enter Try.func7, Try.ntmps7
  go_wp2_with fail
  refine (New_d 3000 (by omega) _).mono ?_
  rintro r w1 ⟨d, mb, V, rfl, hD, hb1⟩
  have HL1 := Lib.hid (Load2_ hD (bs := []) (sy := 0) (fi := false) (.inl ⟨rfl, rfl, rfl, rfl⟩) (Nat.le_refl _) ⟨rfl, rfl⟩ rfl (by simp) (fun z hz => by simp at hz))
  have HD1 := Lib.hid (And.intro hD hb1)
  clear hD hb1
  go_wp2_with fail
  refine HL1.out.mono ?_
  rintro r w2 ⟨v2, X, t2, F2, sy2, fi2, rfl, hbs2, hbad2, hX2, hrw2, hD2, hF2, hlen2, hsy2, hV2⟩
  have hF0 : F2 = [] := List.eq_nil_of_length_eq_zero hlen2
  subst hF0
  have hX0 : X = [] := (scan_uniq (Y := []) (t := []) hX2 (fun x hx => by simp at hx) hbad2 badL_nil (by rw [← hbs2]; rfl)).1
  subst hX0
  obtain ⟨A2, c2, rfl, -, -⟩ := hrw2.shape
  obtain ⟨l, hl, hLi⟩ := List_all hD2 (by simp)
  have hl0 : l = [] := by simpa using hl
  subst hl0
  have HI1 := Lib.hid (show LdI w w2 d mb V [] [] from ⟨hD2, ⟨false, .inl ⟨rfl, rfl, rfl, rfl⟩⟩, bel_vol HD1.out.2 hV2 HD1.out.1.ge⟩)
  have HLi := Lib.hid hLi
  clear hbs2 hbad2 hX2 hrw2 hD2 hF2 hlen2 hsy2 hV2 hl hLi HL1 HD1
  go_wp2_with fail
  refine HLi.out.mono ?_
  rintro r w3 ⟨v3, rfl, hb3, ho3⟩
  obtain ⟨A3, c3, rfl, -, -⟩ := own_slice ho3
  have HI3 := Lib.hid (show LdI w w3 d mb V [] [] from ⟨HI1.out.dk.below hb3, HI1.out.lg, HI1.out.bel.trans (hb3.mono HI1.out.bel.size)⟩)
  clear hb3 ho3 HLi HI1
  go_upto_block 0 with fail
  go_cut [8, 9, 10] from 38 to 61 (fun vn vi v10 wx => Hid (∃ (V : Nat → Prop) (F : List Fi) (W : List (List Int)) (N : Nat), vn = .int .i64 N ∧ N = (catL W).length ∧ W.length ≤ 8 ∧ min (n0 : Int) 8 = (W.length : Int) ∧ Wok 40 W ∧ LdI w wx d mb V F W ∧ ∃ w7, w7 = wx))
  case first =>
    go_wp2_with fail
    go_loopw [8, 9] (fun vn vi wr => Hid (∃ (k : Nat) (V : Nat → Prop) (F : List Fi) (N : Nat), k ≤ n0 ∧ k ≤ 8 ∧ vi = .int .i64 k ∧ vn = .int .i64 N ∧ N = (catL ((x0.take k).map (List.take 40))).length ∧ LdI w wr d mb V F ((x0.take k).map (List.take 40)) ∧ Wok 40 ((x0.take k).map (List.take 40)) ∧ ∃ w7, w7 = wr)) (fun _ vi _ => 8 - (intOf vi).toNat)
    case atStart => exact Lib.hid ⟨0, _, [], 0, by omega, by omega, rfl, rfl, rfl, HI3.out, Wok.nil, _, rfl⟩
    case round =>
      obtain ⟨k, V1, F1, N, hk, hk8, rfl, rfl, hN, hI, hok, wr, hwr⟩ := hrel.out
      subst hwr
      have HI1 := Lib.hid hI
      have HOK := Lib.hid hok
      clear hrel hI hok HI3
      have hlenW : ((x0.take k).map (List.take 40)).length = k := by
        have := HX0.out
        rw [List.length_map, List.length_take]
        omega
      have hcl : N ≤ 42 * k := by have := HOK.out.len; rw [hlenW, ← hN] at this; exact this
      obtain ⟨W, hW⟩ : ∃ W, W = (x0.take k).map (List.take 40) := ⟨_, rfl⟩
      rw [← hW] at HI1 HOK hlenW hN
      have HW := Lib.hid hW
      have HLW := Lib.hid hlenW
      have HNN := Lib.hid hN
      clear hW hlenW hN
      by_cases hall : (k : Int) < (n0 : Int) ∧ (k : Int) < 8
      · obtain ⟨g1, g2⟩ := hall
        have hkn : k < n0 := by omega
        have hkx : k < x0.length := by rw [HX0.out]; exact hkn
        obtain ⟨ad, u, rfl, -, hu, hc⟩ := (reads_belR HRv.out (Nat.le_refl _) HI1.out.bel).at_ hkn
        obtain ⟨x, hx⟩ : ∃ x, x0[k]? = some x := ⟨_, List.getElem?_eq_getElem hkx⟩
        obtain ⟨A', n', c', e1, hn', hc', hl', hr', hwf⟩ := HEl.out k x hx
        rw [e1] at hu
        injection hu with hu
        subst hu
        have hCut := Cut_i 40 (by omega) A' n' c' _ x wr (reads_belR hr' (Nat.le_refl _) HI1.out.bel) hn' (by unfold maxLen at hc'; omega)
        obtain ⟨y, hy⟩ : ∃ y, y = x.take 40 := ⟨_, rfl⟩
        rw [← hy] at hCut
        have hyl : y.length ≤ 40 := by rw [hy, List.length_take]; omega
        have hyb : ∀ z ∈ y, 0 ≤ z ∧ z ≤ 255 := fun z hz => bounds_u8 (hwf z (by rw [hy] at hz; exact List.mem_of_mem_take hz))
        have HYB := Lib.hid hyb
        have HWk : Hid ((x0.take (k + 1)).map (List.take 40) = W ++ [y]) := Lib.hid (by
          rw [List.take_add_one, hx, HW.out, hy]
          simp)
        clear hx e1 hn' hc' hl' hr' hwf hy hyb
        go_wp2_with fail
        refine hCut.mono ?_
        rintro r w3 ⟨vy, rfl, hoy, hb3⟩
        obtain ⟨Ay, cy, rfl, -, -⟩ := own_slice hoy
        have hlr : w.heap.size ≤ wr.heap.size := HI1.out.bel.size
        have hbel3 : Below w.heap.size w w3 := HI1.out.bel.trans (hb3.mono hlr)
        obtain ⟨fi, hfi⟩ := HI1.out.lg
        have hbl : (catL W).length ≤ 65536 := by rw [← HNN.out]; omega
        have hok : Calls Try.prog 40 #[.pointer (some ⟨d, 0, none⟩), .string nmL, .slice Ay y.length cy] w3 fun r w4 => r = .returned (.int .i64 0) ∧ ∃ V4 F4, DkP w4 w.heap.size d mb V4 ⟨3000, ((catL W).length : Nat) + ((y.length + 2 : Nat) : Int), false, 0, false⟩ F4 ∧ isLog F4 (catL W ++ packL y) (catL W ++ packL y).length true ∧ Vol V1 w3 w4 ∧ ∀ b, V4 b → V1 b ∨ w3.heap.size ≤ b :=
          Add_ok (c := cy) (HI1.out.dk.below hb3) hfi rfl (s1 := ⟨3000, ((catL W).length : Nat), false, 0, false⟩) (.inl ⟨rfl, rfl, rfl⟩) rfl rfl (s2 := ⟨3000, ((catL W).length : Nat) + ((y.length + 2 : Nat) : Int), false, 0, false⟩) (.inl ⟨rfl, rfl, rfl⟩) ⟨by show (0 : Int) ≤ 3000; omega, by show (3000 : Int) ≤ 65536; omega⟩ ⟨by show (0 : Int) ≤ ((catL W).length : Nat); omega, by show (((catL W).length : Nat) : Int) ≤ 65536; omega⟩ hbl (own_reads hoy) (Nat.le_refl _) (by omega) (by show ((y.length + 2 : Nat) : Int) ≤ 3000 - (((catL W).length : Nat) : Int); rw [← HNN.out]; omega)
        have HOk := Lib.hid hok
        have HBel3 := Lib.hid hbel3
        clear hok hbl hCut hoy hb3 hbel3 hfi
        go_wp2_with fail
        refine HOk.out.mono ?_
        rintro r w4 ⟨rfl, V4, F4, hD4, hF4, hV4, hg4⟩
        have HD4 := Lib.hid (And.intro hD4 (And.intro hF4 hV4))
        clear hD4 hF4 hV4 hg4 HOk
        go_wp2_with fail
        go_roundw
        case rel =>
          obtain ⟨hD4, hF4, hV4⟩ := HD4.out
          have e : (catL (W ++ [y])).length = (catL W).length + (y.length + 2) := by rw [catL_snoc, List.length_append, packL_len]
          refine Lib.hid ⟨k + 1, V4, F4, N + (y.length + 2), by omega, by omega, by go_num, by go_num, ?_, ?_, ?_, _, rfl⟩
          · rw [HWk.out, e, HNN.out]
          · rw [HWk.out]
            refine ⟨?_, ⟨true, by rw [catL_snoc]; exact hF4⟩, bel_vol HBel3.out hV4 HI1.out.dk.ge⟩
            rw [e]
            exact hD4
          · rw [HWk.out]
            exact HOK.out.app (Wok.one hyl HYB.out)
        case measure => simp [intOf]; omega
      · have hall2 : ¬ (k : Int) < (n0 : Int) ∨ ((k : Int) < (n0 : Int) ∧ ¬ (k : Int) < 8) := by omega
        clear hall
        rcases hall2 with g1 | ⟨g1, g2⟩
        all_goals
          go_wp2_with fail
          go_meet
          refine Lib.hid ⟨V1, F1, W, N, rfl, HNN.out, by rw [HLW.out]; omega, by rw [HLW.out]; omega, HOK.out, HI1.out, _, rfl⟩
  case rest =>
    obtain ⟨V1, F1, W, N, rfl, hN, hWl, hmin, hok, hI, wj, hwj⟩ := hcut.out
    subst hwj
    have HOK := Lib.hid hok
    have HI1 := Lib.hid hI
    have HN := Lib.hid hN
    have hcl : N ≤ 336 := by have := hok.len; omega
    clear hcut hok hI HI3 hN HRv HEl HX0
    obtain ⟨j, hj⟩ : ∃ j, j = x1.take 30 := ⟨_, rfl⟩
    have hjl : j.length ≤ 30 := by rw [hj, List.length_take]; omega
    have HJB : Hid (∀ z ∈ j, 0 ≤ z ∧ z ≤ 255) := Lib.hid (fun z hz => bounds_u8 (HBj.out z (by rw [hj] at hz; exact List.mem_of_mem_take hz)))
    have hCj := HCj.out (wj.alloc (.cells #[.int .u8 200] 5)) (HI1.out.bel.alloc HI1.out.bel.size _)
    rw [← hj] at hCj
    clear hj HCj HBj
    go_wp2_with fail
    refine hCj.mono ?_
    rintro r w5 ⟨vj, rfl, hoj, hb5⟩
    obtain ⟨Aj, cj, rfl, -, -⟩ := own_slice hoj
    have HOJ := Lib.hid hoj
    have hbj5 : Below wj.heap.size wj w5 := ((Below.refl wj.heap.size wj).alloc (Nat.le_refl _) _).trans (hb5.mono (by simp))
    have ho2 : w5.ownsRow wj.heap.size 5 1 (.slice (some ⟨wj.heap.size, 0, none⟩) 1 1) 1 [.int .u8 200] := own_keep ⟨by simp, .inr ⟨wj.heap.size, 1, #[.int .u8 200], rfl, Nat.le_refl _, heap_alloc_new wj _, Nat.le_refl _, by decide, rfl, rfl⟩⟩ hb5
    have HO2 := Lib.hid ho2
    have HB5 := Lib.hid hbj5
    have hs5 := hbj5.size
    clear hoj hb5 ho2 hbj5 hCj
    go_wp2_with (at_builtin; refine wpList_append_any _ rfl _ _ 28 rfl wj.heap.size 5 i0 (.int .u8 0) 1 1 Try.underlying28 hi hz0 hz1 hz2 rfl (by decide) (.slice (some ⟨wj.heap.size, 0, none⟩) 1 1) 1 [.int .u8 200] rfl HO2.out w5.heap.size Aj j.length cj (bsV j) rfl (own_reads HOJ.out) (bsV_one j) (by simp only [maxLen]; omega) (by omega) hs5 ?_; intro v6 w6 hown6 hg6 _hne; clear _hne; obtain ⟨A6, c6, rfl, -, -⟩ := own_slice hown6; have HO6 := Lib.hid hown6; have HG6 := Lib.hid hg6; clear hown6 hg6)
    have hb6 : Below wj.heap.size wj w6 := HB5.out.grown HG6.out hs5 (fun b hb => (HO2.out.lt b hb).1)
    obtain ⟨fi, hfi⟩ := HI1.out.lg
    have ho6 : w6.ownsRow wj.heap.size 5 1 (.slice A6 (1 + j.length) c6) (1 + j.length) (bsV (200 :: j)) := HO6.out
    have hAp := LogApp (HI1.out.dk.below hb6) hfi rfl (s1 := ⟨3000, ((catL W).length : Nat), false, 0, false⟩) (.inl ⟨rfl, rfl, rfl⟩) rfl ⟨by show (0 : Int) ≤ 3000; omega, by show (3000 : Int) ≤ 65536; omega⟩ ⟨by show (0 : Int) ≤ ((catL W).length : Nat); omega, by show (((catL W).length : Nat) : Int) ≤ 65536; rw [← HN.out]; omega⟩ (by rw [← HN.out]; omega) (c := c6) (own_reads ho6) (Nat.le_refl _) (by
      intro ad e hv
      subst e
      have e1 := (ho6.lt ad.block rfl).1
      have e2 := HI1.out.dk.lt _ hv
      omega) (by show ((1 + j.length : Nat) : Int) ≤ 3000 - (((catL W).length : Nat) : Int); rw [← HN.out]; omega)
    have HAp := Lib.hid hAp
    have HB6 := Lib.hid hb6
    clear hAp ho6 hfi hb6
    go_wp2_with fail
    refine HAp.out.mono ?_
    rintro r w7 ⟨rfl, V7, F7, hD7, -, ⟨g, v, rfl⟩, hV7, hg7⟩
    have HSy := Lib.hid (Sync_yesF hD7 (p := nmL) (j := 0) rfl rfl nmL_ne rfl (.inl ⟨rfl, rfl, rfl⟩))
    have HD7 := Lib.hid (And.intro hV7 (And.intro hg7 hD7.ge))
    clear hD7 hV7 hg7 HAp
    go_wp2_with fail
    refine HSy.out.mono ?_
    rintro r w8 ⟨rfl, hD8, hV8⟩
    have hbytes : ∀ z ∈ catL W ++ 200 :: j, 0 ≤ z ∧ z ≤ 255 := by
      intro z hz
      rcases List.mem_append.1 hz with h | h
      · exact HOK.out.bytes (by omega) z h
      · rcases List.mem_cons.1 h with rfl | h
        · omega
        · exact HJB.out z h
    have hlen8 : (catL W ++ 200 :: j).length = N + (1 + j.length) := by rw [List.length_append, ← HN.out, List.length_cons]; omega
    have HLo := Lib.hid (Load2_ hD8 (bs := catL W ++ 200 :: j) (sy := (catL W ++ 200 :: j).length) (fi := true) (.inr ⟨g, v, rfl⟩) (Nat.le_refl _) ⟨rfl, rfl⟩ (by show ((((catL W).length : Nat) : Int) + ((1 + j.length : Nat) : Int)) = _; rw [hlen8, ← HN.out]; omega) (by rw [hlen8]; omega) hbytes)
    have hbel6 : Below w.heap.size w w6 := HI1.out.bel.trans (HB6.out.mono HI1.out.bel.size)
    have hbel8 : Below w.heap.size w w8 := bel_vol (bel_vol hbel6 HD7.out.1 HI1.out.dk.ge) hV8 HD7.out.2.2
    have HBel8 := Lib.hid hbel8
    have HGe := Lib.hid HD7.out.2.2
    have HLt8 := Lib.hid hD8.lt
    clear hbytes hlen8 hbel6 hbel8 hD8 hV8 HSy HD7
    go_wp2_with fail
    refine HLo.out.mono ?_
    rintro r w9 ⟨v9, X, t9, F9, sy9, fi9, rfl, hbs9, hbad9, hX9, hrw9, hD9, hF9, hlen9, hsy9, hV9⟩
    have hbadj : badL (200 :: j) := bad_of (.inr (.inl (by omega)))
    have hXW : W = X := (scan_uniq (fun x hx => by have := (HOK.out x hx).1; omega) hX9 hbadj hbad9 hbs9).1
    subst hXW
    rcases hF9 with ⟨rfl, -⟩ | ⟨g9, u9, rfl⟩
    · simp at hlen9
    obtain ⟨A9, c9, rfl, -, -⟩ := hrw9.shape
    have HRd := Lib.hid (Read_yes hD9 (p := nmL) (j := 0) rfl rfl (show (catL W).length ≤ 65536 by rw [← HN.out]; omega))
    have HD9 := Lib.hid (And.intro hD9 (And.intro hrw9 (And.intro hV9 hsy9)))
    clear hbs9 hbad9 hX9 hrw9 hD9 hsy9 hlen9 hV9 HLo hbadj
    go_wp2_with fail
    refine HRd.out.mono ?_
    rintro r w10 ⟨v10, rfl, ho10, hb10⟩
    obtain ⟨A10, c10, rfl, -, -⟩ := own_slice ho10
    have HB10 := Lib.hid hb10
    have e10 : (catL W).length = N := HN.out.symm
    have HLp := Lib.hid (Load2_ (HD9.out.1.below hb10) (bs := catL W) (sy := sy9) (fi := fi9) (.inr ⟨g9, u9, rfl⟩) HD9.out.2.2.2 ⟨rfl, rfl⟩ rfl (by rw [e10]; omega) (fun z hz => HOK.out.bytes (by omega) z hz))
    clear ho10 hb10 HRd
    simp only [e10]
    clear e10
    have hnn : ((N : Int) == (N : Int)) = true := by simp
    have hwl : ((W.length : Int) == (W.length : Int)) = true := by simp
    go_wp2_with fail
    refine HLp.out.mono ?_
    rintro r w11 ⟨v11, X, t11, F11, sy11, fi11, rfl, hbs11, hbad11, hX11, hrw11, hD11, hF11, hlen11, hsy11, hV11⟩
    have hXW : W = X := (scan_uniq (t := t11) (s := []) (fun x hx => by have := (HOK.out x hx).1; omega) hX11 badL_nil hbad11 (by rw [List.append_nil]; exact hbs11)).1
    subst hXW
    obtain ⟨A11, c11, rfl, -, -⟩ := hrw11.shape
    have hl11 : RwP w11 w8.heap.size (.slice A9 W.length c9) W := (HD9.out.2.1.keep HB10.out).vol hV11 (fun b hb hv => by have := HLt8.out b hv; omega)
    have HS := Lib.hid (Same_rows hl11.rd hrw11.rd (Nat.le_refl _) (Nat.le_refl _) (by omega) (fun x hx => by have := (HOK.out x hx).1; omega))
    have HD11 := Lib.hid (And.intro hD11 hF11)
    have hbel11 : Below w.heap.size w w11 := by
      have k1 := bel_vol HBel8.out HD9.out.2.2.1 HGe.out
      have k2 := k1.trans (HB10.out.mono k1.size)
      exact bel_vol k2 hV11 HGe.out
    have HBel11 := Lib.hid hbel11
    clear hl11 hD11 hF11 hbel11 hV11 hrw11 hbs11 hbad11 hX11 hlen11 hsy11 HLp
    go_wp2_with fail
    refine HS.out.mono ?_
    rintro r w12 ⟨rfl, hb12⟩
    have HB12 := Lib.hid hb12
    have HUs := Lib.hid (Used_ (HD11.out.1.below hb12).blk)
    clear hb12 HS
    go_wp2_with fail
    refine HUs.out.mono ?_
    rintro r w13 ⟨rfl, hb13⟩
    have hb113 : Below w11.heap.size w11 w13 := HB12.out.trans (hb13.mono HB12.out.size)
    have HB13 := Lib.hid hb113
    have HAd := Lib.hid (Add_ok (w := w13) (c := 0) (n := 0) (A := none) (HD11.out.1.below hb113) HD11.out.2 rfl (.inl ⟨rfl, rfl, rfl⟩) rfl rfl (.inl ⟨rfl, rfl, rfl⟩) ⟨by show (0 : Int) ≤ 3000; omega, by show (3000 : Int) ≤ 65536; omega⟩ ⟨by show (0 : Int) ≤ ((catL W).length : Nat); omega, by show (((catL W).length : Nat) : Int) ≤ 65536; rw [← HN.out]; omega⟩ (by rw [← HN.out]; omega) (B' := 0) (xs := []) ⟨by simp, fun h => absurd h (by omega)⟩ (Nat.zero_le _) (by omega) (by show ((0 + 2 : Nat) : Int) ≤ 3000 - (((catL W).length : Nat) : Int); rw [← HN.out]; omega))
    clear hb13 hb113 HUs
    have e10 : (catL W).length = N := HN.out.symm
    simp only [e10]
    clear e10
    go_wp2_with fail
    refine HAd.out.mono ?_
    rintro r w14 ⟨rfl, V14, F14, hD14, hF14, hV14, hg14⟩
    have HV14 := Lib.hid hV14
    clear hD14 hF14 hV14 hg14 HAd
    go_wp2_with fail
    refine (wkk _).mono ?_
    rintro r w15 ⟨rfl, hb15⟩
    go_wp2_with fail
    go_ret
    have k1 := HBel11.out.trans (HB13.out.mono HBel11.out.size)
    have k2 := bel_vol k1 HV14.out HGe.out
    exact ⟨rfl, k2.trans (hb15.mono k2.size)⟩

end Go.Proofs.Ytplmfmcogbdpjaa.recordLoads
