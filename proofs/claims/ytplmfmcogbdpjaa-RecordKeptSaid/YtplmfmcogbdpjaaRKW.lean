/- The walk of RecordKept: the Go text returns true, and writes nothing that was there. -/
import Derived.Test.YtplmfmcogbdpjaaAllSum
import Derived.Test.YtplmfmcogbdpjaaRowsA
import Derived.Test.YtplmfmcogbdpjaaRecM
import Derived.Test.YtplmfmcogbdpjaaWithin
namespace Go.Proofs.Ytplmfmcogbdpjaa.recordKept
open Go.ChangeShapes Go.WideShapes Go.ChangeAt Go.RowKit
set_option linter.unusedVariables false
open Go Go.RowKit Go.Proofs.Ytplmfmcogbdpjaa.Dk Go.Proofs.Ytplmfmcogbdpjaa.Crw Go.Proofs.Ytplmfmcogbdpjaa.Vl Go.Proofs.Ytplmfmcogbdpjaa
set_option maxRecDepth 100000
theorem wkk (w : World) : Calls Try.prog 34 #[] w fun e w' => e = .returned (.bool true) ∧ Below w.heap.size w w' := wakes_34.2.2.2 w
theorem bel_vol {w w1 w2 : World} {U : Nat → Prop} (h : Below w.heap.size w w1) (hv : Vol U w1 w2) (hU : ∀ b, U b → w.heap.size ≤ b) : Below w.heap.size w w2 :=
  ⟨hv.os.trans h.os, hv.tape.trans h.tape, hv.output.trans h.output, Nat.le_trans h.size hv.size, fun b hb => (hv.block b (Nat.lt_of_lt_of_le hb h.size) (fun e => by have := hU b e; omega)).trans (h.block b hb)⟩
structure KpI (w wx : World) (d : Nat) (mb : Nat) (V : Nat → Prop) (F : List Fi) (W : List (List Int)) (vW : Value) (lf : Nat) : Prop where
  dk : DkP wx w.heap.size d mb V ⟨4000, ((catL W).length : Nat), true, lf, false⟩ F
  lg : ∃ fi, isLog F (catL W) (catL W).length fi
  rw : RwV wx V w.heap.size vW W
  bel : Below w.heap.size w wx
def KpJ (w wx : World) (d : Nat) (vW vL : Value) : Prop :=
  ∃ mb V F W Y s, W.length ≤ 10 ∧ Wok 30 W ∧ DkP wx w.heap.size d mb V s F ∧ s.q = 4000 ∧ s.u = ((catL (W ++ Y)).length : Nat) ∧ (∃ fi, isLog F (catL (W ++ Y)) (catL W).length fi) ∧ RwV wx V w.heap.size vW W ∧ Below w.heap.size w wx ∧
    (Y = [] ∨ ∃ y AL cL, Y = [y] ∧ Wok 30 [y] ∧ vL = .slice (some AL) y.length cL ∧ wx.ownsRow w.heap.size 5 1 vL y.length (bsV y) ∧ ∀ b, vL.ownBlock = some b → ¬ V b)
set_option maxHeartbeats 32000000 in
theorem walk (A0 : Option Addr) (n0 c0 : Nat) (x0 : List (List Int)) (a1 : Int) (a2 : Int) (w : World) (b0 : ByteRows w A0 n0 c0 x0) (b1 : -9223372036854775808 ≤ a1 ∧ a1 ≤ 9223372036854775807) (b2 : -9223372036854775808 ≤ a2 ∧ a2 ≤ 9223372036854775807) :
    Calls Try.prog 8 #[.slice A0 n0 c0, .int .i64 a1, .int .i64 a2] w fun e w' => e = .returned (.bool true) ∧ Below w.heap.size w w' := by
  obtain ⟨h01, h02, h03, vs, h04, h05⟩ := b0
  obtain ⟨i0, hi, hz0, hz1, hz2⟩ := info_parts byte_infoD
  obtain ⟨i1, hi1, hy0, hy1, hy2⟩ := info_parts row_infoD
  obtain ⟨f, hf, hf4⟩ : ∃ f : Nat, a1 % 24 = (f : Int) ∧ f ≤ 24 := ⟨(a1 % 24).toNat, by omega, by omega⟩
  obtain ⟨K, hK, hK1⟩ : ∃ K : Nat, a2 % 50 = (K : Int) ∧ K ≤ 50 := ⟨(a2 % 50).toNat, by omega, by omega⟩
  have hW24 := fun (wz : World) => Within_any a1 24 wz b1.1 b1.2 (by omega) (by omega)
  have hW50 := fun (wz : World) => Within_any a2 50 wz b2.1 b2.2 (by omega) (by omega)
  rw [hf] at hW24
  rw [hK] at hW50
  have HW50 := Lib.hid hW50
  have HX0 := Lib.hid h03
  have HRv := Lib.hid h04
  have HEl := Lib.hid h05
  clear hf hK b1 b2 hW50 h03 h04 h05 h01 h02
  go_enter Try.func8, Try.ntmps8
  go_wp2_with fail
  refine (New_d 4000 (by omega) _).mono ?_
  rintro r w1 ⟨d, mb, V, rfl, hD, hb1⟩
  have HD := Lib.hid hD
  have HB1 := Lib.hid hb1
  clear hD hb1
  go_wp2_with fail
  refine (hW24 _).mono ?_
  rintro r w2 ⟨rfl, rfl⟩
  clear hW24
  go_wp2_with fail
  refine (Fuse_ HD.out f (by omega)).mono ?_
  rintro r w2 ⟨⟨u, rfl⟩, hD2, hV2⟩
  have hI : KpI w w2 d mb V [] [] (.slice none 0 0) f := ⟨hD2, ⟨false, .inl ⟨rfl, rfl, rfl, rfl⟩⟩, RwV.nil _, bel_vol HB1.out hV2 HD.out.ge⟩
  have HI := Lib.hid hI
  clear hI hD2 hV2 HD HB1
  go_upto_block 0 with fail
  go_cut [8, 9, 10, 11, 12] from 24 to 52 (fun vW vL v10 v11 v12 wx => Hid (KpJ w wx d vW vL ∧ ∃ w7, w7 = wx))
  case first =>
    go_wp2_with fail
    go_loopw [8, 9, 10] (fun vW vL vi wr => Hid (∃ (k : Nat) (V : Nat → Prop) (F : List Fi) (lf : Nat), k ≤ n0 ∧ k ≤ 10 ∧ lf ≤ 24 ∧ vi = .int .i64 k ∧ vL = .slice none 0 0 ∧ KpI w wr d mb V F ((x0.take k).map (List.take 30)) vW lf ∧ Wok 30 ((x0.take k).map (List.take 30)) ∧ ∃ w7, w7 = wr)) (fun _ _ vi _ => 10 - (intOf vi).toNat)
    case atStart => exact Lib.hid ⟨0, _, [], f, by omega, by omega, by omega, rfl, rfl, HI.out, Wok.nil, _, rfl⟩
    case round =>
      obtain ⟨k, V1, F1, lf, hk, hk10, hlf, rfl, rfl, hI, hok, wr, hwr⟩ := hrel.out
      subst hwr
      obtain ⟨Av, cv, rfl, hcv1, hcv2⟩ := hI.rw.rw.shape
      have HI1 := Lib.hid hI
      have HOK := Lib.hid hok
      clear hrel hI hok HI hcv1 hcv2
      have hlenW : ((x0.take k).map (List.take 30)).length = k := by
        have := HX0.out
        rw [List.length_map, List.length_take]
        omega
      rw [hlenW]
      have hcl : (catL ((x0.take k).map (List.take 30))).length ≤ 32 * k := by have := HOK.out.len; rw [hlenW] at this; exact this
      obtain ⟨W, hW⟩ : ∃ W, W = (x0.take k).map (List.take 30) := ⟨_, rfl⟩
      rw [← hW] at HI1 HOK hlenW hcl
      have HW := Lib.hid hW
      rw [hlenW] at HI1
      clear hW
      have HLW := Lib.hid hlenW
      have HCL := Lib.hid hcl
      clear hlenW hcl
      by_cases hall : (k : Int) < (n0 : Int) ∧ (k : Int) < 10
      · obtain ⟨g1, g2⟩ := hall
        have hkn : k < n0 := by omega
        have hkx : k < x0.length := by rw [HX0.out]; exact hkn
        obtain ⟨ad, u, rfl, -, hu, hc⟩ := (reads_belR HRv.out (Nat.le_refl _) HI1.out.bel).at_ hkn
        obtain ⟨x, hx⟩ : ∃ x, x0[k]? = some x := ⟨_, List.getElem?_eq_getElem hkx⟩
        obtain ⟨A', n', c', e1, hn', hc', hl', hr', hwf⟩ := HEl.out k x hx
        rw [e1] at hu
        injection hu with hu
        subst hu
        have hCut := Cut_i 30 (by omega) A' n' c' _ x wr (reads_belR hr' (Nat.le_refl _) HI1.out.bel) hn' (by unfold maxLen at hc'; omega)
        obtain ⟨y, hy⟩ : ∃ y, y = x.take 30 := ⟨_, rfl⟩
        rw [← hy] at hCut
        have hyl : y.length ≤ 30 := by rw [hy, List.length_take]; omega
        have hyb : ∀ z ∈ y, 0 ≤ z ∧ z ≤ 255 := fun z hz => bounds_u8 (hwf z (by rw [hy] at hz; exact List.mem_of_mem_take hz))
        have HYB := Lib.hid hyb
        have HWk : Hid ((x0.take (k + 1)).map (List.take 30) = W ++ [y]) := Lib.hid (by
          rw [List.take_add_one, hx, HW.out, hy]
          simp)
        clear hx e1 hn' hc' hl' hr' hwf hy hyb
        go_wp2_with fail
        refine hCut.mono ?_
        rintro r w3 ⟨vy, rfl, hoy, hb3⟩
        obtain ⟨Ay, cy, rfl, -, -⟩ := own_slice hoy
        have HOY := Lib.hid hoy
        have HB3 := Lib.hid hb3
        clear hCut hoy hb3
        have hD3 := Lib.hid (HI1.out.dk.below HB3.out)
        have hVy : ∀ b, Value.ownBlock (.slice Ay y.length cy) = some b → ¬ V1 b := fun b hb hv => by
          have := (HOY.out.lt b hb).1
          have := HI1.out.dk.lt b hv
          omega
        have HVY := Lib.hid hVy
        clear hVy
        have hsz3 := HB3.out.size
        have hlr : w.heap.size ≤ wr.heap.size := HI1.out.bel.size
        have hbel3 : Below w.heap.size w w3 := HI1.out.bel.trans (HB3.out.mono hlr)
        have HBel3 := Lib.hid hbel3
        have HRW3 := Lib.hid (HI1.out.rw.keep HB3.out)
        clear hbel3
        obtain ⟨cl, hcl⟩ : ∃ cl, cl = (catL W).length := ⟨_, rfl⟩
        have hclb : cl ≤ 32 * k := by rw [hcl]; exact HCL.out
        have HL := Lib.hid HI1.out.lg
        rw [← hcl] at hD3 HL
        have HCLE := Lib.hid hcl
        clear hcl
        have hq0 : (0 : Int) ≤ 4000 ∧ (4000 : Int) ≤ 65536 := by omega
        have hu0 : (0 : Int) ≤ (cl : Int) ∧ (cl : Int) ≤ 65536 := by omega
        have hn2 : ((y.length + 2 : Nat) : Int) ≤ 4000 - (cl : Int) := by omega
        have hbl : (catL W).length ≤ 65536 := by rw [← HCLE.out]; omega
        by_cases hlf1 : lf ≤ 1
        · have hdie : Calls Try.prog 40 #[.pointer (some ⟨d, 0, none⟩), .string nmL, .slice Ay y.length cy] w3 fun r w4 => r = .returned (.int .i64 7) ∧ ∃ V4 F4 s4 Y4, DkP w4 w.heap.size d mb V4 s4 F4 ∧ s4.q = 4000 ∧ s4.u = ((catL (W ++ Y4)).length : Nat) ∧ (∃ fi, isLog F4 (catL (W ++ Y4)) cl fi) ∧ (Y4 = [] ∨ Y4 = [y]) ∧ Vol V1 w3 w4 ∧ ∀ b, V4 b → V1 b ∨ w3.heap.size ≤ b := by
            obtain ⟨fi, hfi⟩ := HL.out
            rcases Nat.eq_zero_or_pos lf with rfl | hpos
            · refine (Add_die1 (c := cy) hD3.out rfl (s1 := ⟨4000, cl, true, 0, true⟩) (.inr (.inr ⟨rfl, rfl, rfl, rfl⟩)) hq0 hu0 (own_reads HOY.out) (Nat.le_refl _) (by omega) hn2).mono ?_
              rintro r w4 ⟨rfl, hD4, hV4⟩
              exact ⟨rfl, V1, F1, _, [], hD4, rfl, by rw [List.append_nil, ← HCLE.out], ⟨fi, by rw [List.append_nil]; exact hfi⟩, .inl rfl, hV4, fun b hb => .inl hb⟩
            · have hl1 : lf = 1 := by omega
              subst hl1
              refine (Add_die2 (c := cy) hD3.out hfi rfl (s1 := ⟨4000, cl, true, 0, false⟩) (.inr (.inl ⟨rfl, 0, rfl, by omega, rfl, rfl⟩)) rfl rfl (s2 := ⟨4000, cl + ((y.length + 2 : Nat) : Int), true, 0, true⟩) (.inr (.inr ⟨rfl, rfl, rfl, rfl⟩)) hq0 hu0 hbl (own_reads HOY.out) (Nat.le_refl _) (by omega) hn2).mono ?_
              rintro r w4 ⟨rfl, V4, F4, hD4, hF4, hV4, hg4⟩
              exact ⟨rfl, V4, F4, _, [y], hD4, rfl, by rw [catL_snoc, List.length_append, packL_len, ← HCLE.out]; rfl, ⟨fi, by rw [catL_snoc]; exact hF4⟩, .inr rfl, hV4, hg4⟩
          have HDie := Lib.hid hdie
          clear hdie hbl hn2 hu0 hq0
          go_wp2_with fail
          refine HDie.out.mono ?_
          rintro r w4 ⟨rfl, V4, F4, s4, Y4, hD4, hs4, hu4, hF4, hY4, hV4, hg4⟩
          have HD4 := Lib.hid (And.intro hD4 (And.intro hs4 (And.intro hu4 (And.intro hF4 (And.intro hY4 (And.intro hV4 hg4))))))
          have hoy4 := Lib.hid (own_vol HOY.out hV4 HVY.out)
          clear hD4 hs4 hu4 hF4 hY4 hV4 hg4 HDie
          go_wp2_with (at_builtin; refine wpList_append_any _ rfl _ _ 28 rfl w4.heap.size 5 i0 (.int .u8 0) 1 1 Try.underlying28 hi hz0 hz1 hz2 rfl (by decide) (.slice (some ⟨w4.heap.size, 0, none⟩) 0 0) 0 [] rfl ⟨by simp, .inr ⟨w4.heap.size, 0, #[], rfl, Nat.le_refl _, heap_alloc_new w4 _, Nat.le_refl _, by decide, rfl, rfl⟩⟩ w4.heap.size Ay y.length cy (bsV y) rfl (reads_belR (own_reads hoy4.out) (Nat.le_refl _) ((Below.refl _ _).alloc (Nat.le_refl _) _)) (bsV_one y) (by simp only [maxLen]; omega) (by omega) (by simp) ?_; intro v5 w5 hown5 hg5 hne5; have HO5 := Lib.hid hown5; have HG5 := Lib.hid (And.intro hg5 hne5); clear hown5 hg5 hne5)
          go_meet
          obtain ⟨hD4, hs4, hu4, hF4, hY4, hV4, hg4⟩ := HD4.out
          obtain ⟨hg5, hne5⟩ := HG5.out
          have hb5 : Below w4.heap.size w4 w5 := ((Below.refl w4.heap.size w4).alloc (Nat.le_refl _) _).grown hg5 (by simp) (fun k hk => by injection hk with hk; subst hk; exact Nat.le_refl _)
          have hge4 : ∀ b, V4 b → w.heap.size ≤ b := hD4.ge
          have hb4 : Below w.heap.size w w4 := bel_vol HBel3.out hV4 HI1.out.dk.ge
          have ho5 : w5.ownsRow w4.heap.size 5 1 v5 y.length (bsV y) := by have h := HO5.out; rw [Nat.zero_add, List.nil_append] at h; exact h
          obtain ⟨A5, c5, rfl, -, -⟩ := own_slice ho5
          have hA5 : ∃ a5, A5 = some a5 := by
            cases A5 with
            | none => rcases hne5 with h | h <;> simp [Value.ownBlock] at h
            | some a5 => exact ⟨a5, rfl⟩
          obtain ⟨a5, rfl⟩ := hA5
          refine Lib.hid ⟨⟨mb, V4, F4, W, Y4, s4, by rw [HLW.out]; omega, HOK.out, hD4.below hb5, hs4, hu4, by rw [← HCLE.out]; exact hF4, (HRW3.out.vol hV4 hg4).keep hb5, hb4.trans (hb5.mono hb4.size), ?_⟩, _, rfl⟩
          rcases hY4 with h | h
          · exact .inl h
          · exact .inr ⟨y, a5, c5, h, Wok.one hyl HYB.out, rfl, own_lo ho5 hb4.size, fun b hb hv => by
              have h1 := (ho5.lt b hb).1
              have h2 := hD4.lt b hv
              omega⟩
        · obtain ⟨m, rfl⟩ : ∃ m, lf = m + 2 := ⟨lf - 2, by omega⟩
          have hok : Calls Try.prog 40 #[.pointer (some ⟨d, 0, none⟩), .string nmL, .slice Ay y.length cy] w3 fun r w4 => r = .returned (.int .i64 0) ∧ ∃ V4 F4, DkP w4 w.heap.size d mb V4 ⟨4000, cl + ((y.length + 2 : Nat) : Int), true, m, false⟩ F4 ∧ isLog F4 (catL W ++ packL y) (catL W ++ packL y).length true ∧ Vol V1 w3 w4 ∧ ∀ b, V4 b → V1 b ∨ w3.heap.size ≤ b := by
            obtain ⟨fi, hfi⟩ := HL.out
            exact Add_ok (c := cy) hD3.out hfi rfl (s1 := ⟨4000, cl, true, (m : Int) + 1, false⟩) (.inr (.inl ⟨rfl, m + 1, rfl, by omega, rfl, rfl⟩)) rfl rfl (s2 := ⟨4000, cl + ((y.length + 2 : Nat) : Int), true, m, false⟩) (.inr (.inl ⟨rfl, m, rfl, by omega, rfl, rfl⟩)) hq0 hu0 hbl (own_reads HOY.out) (Nat.le_refl _) (by omega) hn2
          have HOk := Lib.hid hok
          clear hok hbl hn2 hu0 hq0
          go_wp2_with fail
          refine HOk.out.mono ?_
          rintro r w4 ⟨rfl, V4, F4, hD4, hF4, hV4, hg4⟩
          have HD4 := Lib.hid (And.intro hD4 (And.intro hF4 (And.intro hV4 hg4)))
          have hoy4 := Lib.hid (own_vol HOY.out hV4 HVY.out)
          have hrw4 := HRW3.out.vol hV4 hg4
          obtain ⟨ws, hws, hnv4, hel4⟩ := hrw4
          rw [HLW.out] at hws
          have HWS := Lib.hid hws
          have HN4 := Lib.hid (And.intro hnv4 hel4)
          have hsz4 := hV4.size
          clear hD4 hF4 hV4 hg4 HOk hws hnv4 hel4
          go_wp2_with (at_builtin; refine wpList_append_any _ rfl _ _ 44 rfl w.heap.size 28 i1 (.slice none 0 0) 1 24 Try.underlying44 hi1 hy0 hy1 hy2 rfl (by decide) (.slice Av k cv) k ws rfl (HWS.out.alloc _) (w4.alloc (.cells #[.slice Ay y.length cy] 28)).heap.size (some ⟨w4.heap.size, 0, none⟩) 1 1 [.slice Ay y.length cy] rfl (reads_one w4 (.slice Ay y.length cy) 28) (by simp [Value.oneCell']) (by simp only [maxLen]; omega) (by omega) (by simp; omega) ?_; intro v5 w5 hown5 hg5 hne5; have HO5 := Lib.hid hown5; have HG5 := Lib.hid (And.intro hg5 hne5); clear hown5 hg5 hne5)
          go_roundw
          case rel =>
            obtain ⟨hD4, hF4, hV4, hg4⟩ := HD4.out
            obtain ⟨hg5, hne5⟩ := HG5.out
            obtain ⟨hnv4, hel4⟩ := HN4.out
            have hb4 : Below w.heap.size w w4 := bel_vol HBel3.out hV4 HI1.out.dk.ge
            have hyn : ∀ b, Value.ownBlock (.slice Ay y.length cy) = some b → ¬ V4 b := fun b hb hv => by
              rcases hg4 b hv with h | h
              · exact HVY.out b hb h
              · have := (HOY.out.lt b hb).2
                omega
            have hpush : RwV w5 V4 w.heap.size v5 (W ++ [y]) := RwV.push (by rw [HLW.out]; exact HWS.out) hnv4 hel4 (own_lo hoy4.out hlr) hyn hD4.lt (by rw [HLW.out]; exact HO5.out) hg5 hne5
            have hvol : Vol (fun b => Value.ownBlock (.slice Av k cv) = some b) w4 w5 := ((Vol.refl w4).alloc _).grown hg5 (fun b hb => .inl hb)
            have hD5 := hD4.vol hvol (fun b hv hb => hnv4 b hb hv)
            have hb5 : Below w.heap.size w w5 := (hb4.alloc hb4.size _).grown hg5 (by simp; have := hb4.size; omega) (fun b hb => (HWS.out.lt b hb).1)
            refine Lib.hid ⟨k + 1, V4, F4, m, by omega, by omega, by omega, by go_num, rfl, ?_, ?_, _, rfl⟩
            · rw [HWk.out]
              refine ⟨?_, ⟨true, by rw [catL_snoc]; exact hF4⟩, hpush, hb5⟩
              have e : ((catL (W ++ [y])).length : Nat) = cl + (y.length + 2) := by rw [catL_snoc, List.length_append, packL_len, ← HCLE.out]
              rw [e]
              exact hD5
            · rw [HWk.out]
              exact HOK.out.app (Wok.one hyl HYB.out)
          case measure => simp [intOf]; omega
      · have hall2 : ¬ (k : Int) < (n0 : Int) ∨ ((k : Int) < (n0 : Int) ∧ ¬ (k : Int) < 10) := by omega
        clear hall
        rcases hall2 with g1 | ⟨g1, g2⟩
        all_goals
          go_wp2_with fail
          go_meet
          refine Lib.hid ⟨⟨mb, V1, F1, W, [], _, by rw [HLW.out]; omega, HOK.out, HI1.out.dk, rfl, by rw [List.append_nil], by rw [List.append_nil]; exact HI1.out.lg, HI1.out.rw, HI1.out.bel, .inl rfl⟩, _, rfl⟩
  case rest =>
    obtain ⟨⟨mb2, V2, F2, W, Y, s2, hWl, hWok, hD2, hsq, hsu, ⟨fi2, hF2⟩, hrw2, hbel2, hY⟩, wj, hwj⟩ := hcut.out
    subst hwj
    obtain ⟨Aw, cw, hvw, hcw1, hcw2⟩ := hrw2.rw.shape
    subst hvw
    have hYok : Wok 30 (W ++ Y) ∧ Y.length ≤ 1 := by
      rcases hY with rfl | ⟨y, AL, cL, rfl, h, -⟩
      · exact ⟨hWok.app Wok.nil, by simp⟩
      · exact ⟨hWok.app h, by simp⟩
    have hcl : (catL (W ++ Y)).length ≤ 352 := by
      have h1 := hYok.1.len
      rw [List.length_append] at h1
      have := hYok.2
      omega
    have hsy2 : (catL W).length ≤ (catL (W ++ Y)).length := by rw [catL_app, List.length_append]; omega
    have HCr := Lib.hid (Log_crash hD2 hF2 hsy2 (by omega) hsu K (by omega))
    have HA2 := Lib.hid (And.intro hWok (And.intro hrw2 (And.intro hbel2 (And.intro hY (And.intro hD2.ge hD2.lt)))))
    have HYok := Lib.hid hYok
    have HSQ := Lib.hid hsq
    clear hcut hWok hD2 hsq hsu hF2 hrw2 hbel2 hY hYok HI HRv HEl HX0 hsy2 hcw1 hcw2
    go_wp2_with fail
    refine (HW50.out _).mono ?_
    rintro r w4 ⟨rfl, rfl⟩
    go_wp2_with fail
    refine HCr.out.mono ?_
    rintro r w5 ⟨⟨u, rfl⟩, F5, m, fi5, hD5, hm1, hm2, hF5, hV5⟩
    have hlt : ((catL (W ++ Y)).take m).length = m := by rw [List.length_take]; omega
    have hby : ∀ z ∈ catL (W ++ Y), 0 ≤ z ∧ z ≤ 255 := HYok.out.1.bytes (by omega)
    have HLo := Lib.hid (Load_ hD5 hF5 (by omega) ⟨rfl, rfl⟩ (by rw [hlt]) (by omega) (fun z hz => hby z (List.mem_of_mem_take hz)))
    have HV5 := Lib.hid hV5
    have HM := Lib.hid (And.intro hm1 hm2)
    have HBy := Lib.hid hby
    clear hD5 hF5 hlt hby hV5 hm1 hm2 HCr
    go_wp2_with fail
    refine HLo.out.mono ?_
    rintro r w6 ⟨v6, X, t6, F6, sy6, fi6, rfl, hbs6, hbad6, hX6, hrw6, hD6, hF6, hsy6, hV6⟩
    obtain ⟨A6, c6, rfl, -, -⟩ := hrw6.shape
    have hcX : (catL X).length ≤ 352 := by
      have h1 := congrArg List.length hbs6
      rw [List.length_append, List.length_take] at h1
      omega
    have HLp := Lib.hid (Load_ hD6 hF6 hsy6 ⟨rfl, rfl⟩ rfl (by omega) (fun z hz => HBy.out z (List.mem_of_mem_take (by rw [hbs6]; exact List.mem_append_left _ hz))))
    have HA6 := Lib.hid (And.intro hbs6 (And.intro hbad6 (And.intro hX6 (And.intro hrw6 hV6))))
    have HCX := Lib.hid hcX
    clear hbs6 hbad6 hX6 hrw6 hD6 hF6 hsy6 hV6 HLo hcX
    go_wp2_with fail
    refine HLp.out.mono ?_
    rintro r w7 ⟨v7, X7, t7, F7, sy7, fi7, rfl, hbs7, hbad7, hX7, hrw7, hD7, hF7, hsy7, hV7⟩
    have hXX : X = X7 := (scan_uniq HA6.out.2.2.1 hX7 badL_nil hbad7 (by rw [List.append_nil]; exact hbs7)).1
    subst hXX
    obtain ⟨A7, c7, rfl, -, -⟩ := hrw7.shape
    clear HLp
    obtain ⟨hWok, hrw2, hbel2, hY, hge2, hlt2⟩ := HA2.out
    obtain ⟨hbs6, hbad6, hX6, hrw6, hV6⟩ := HA6.out
    have hcase : X = W ∨ ∃ y AL cL, u9 = .slice (some AL) y.length cL ∧ X = W ++ [y] ∧ wj.ownsRow w.heap.size 5 1 u9 y.length (bsV y) ∧ (∀ b, u9.ownBlock = some b → ¬ V2 b) := by
      have hW200 : ∀ x ∈ W, x.length ≤ 200 := fun x hx => by have := (hWok x hx).1; omega
      rcases hY with rfl | ⟨y, AL, cL, rfl, hy, hv, hoy, hny⟩
      · left
        rw [List.append_nil] at hbs6
        exact kept_one hW200 hX6 HM.out.1 hbad6 hbs6
      · rcases kept_two hW200 hX6 (by have := (hy y (by simp)).1; omega) HM.out.1 hbad6 hbs6 with h | h
        · exact .inl h
        · exact .inr ⟨y, AL, cL, hv, h, hoy, hny⟩
    have hs5 := HV5.out.size
    have hs6 := hV6.size
    have hs7 := hV7.size
    have hl7 : RwP w7 w5.heap.size (.slice A6 X.length c6) X := hrw6.vol hV7 (fun b hb hv => by have := hlt2 b hv; omega)
    have hw7 : RwP w7 w.heap.size (.slice Aw W.length cw) W := ((((hrw2.vol HV5.out (fun b hb => .inl hb)).vol hV6 (fun b hb => .inl hb)).vol hV7 (fun b hb => .inl hb))).rw
    have HL7 := Lib.hid hl7
    have HW7 := Lib.hid hw7
    have hXb : X.length ≤ 11 := by
      rcases hcase with h | ⟨y, _, _, _, h, _⟩
      · rw [h]; omega
      · rw [h, List.length_append]; simp; omega
    have hX65 : ∀ x ∈ X, x.length ≤ 65536 := fun x hx => by have := hX6 x hx; omega
    have hW65 : ∀ x ∈ W, x.length ≤ 65536 := fun x hx => by have := (hWok x hx).1; omega
    have HS1 := Lib.hid (Same_rows hl7.rd hrw7.rd (Nat.le_refl _) (Nat.le_refl _) (by omega) hX65)
    have hpre : X.take W.length = W := by
      rcases hcase with h | ⟨y, _, _, _, h, _⟩
      · rw [h]; exact List.take_of_length_le (Nat.le_refl _)
      · rw [h]; exact List.take_left
    have hWX : W.length ≤ X.length := by rw [← hpre, List.length_take]; omega
    have HS2 := Lib.hid (fun (w8 : World) (hb : Below w7.heap.size w7 w8) => Same_rows (w := w8) (X := W) (by have h := (hl7.rd.keep (Nat.le_refl _) hb).take hWX; rw [hpre] at h; exact h) (hw7.rd.keep (Nat.le_refl _) hb) hb.size hb.size (by omega) hW65)
    obtain ⟨-, -, -, hc6a, hc6b⟩ : True ∧ True ∧ True ∧ X.length ≤ c6 ∧ c6 ≤ maxLen := by
      obtain ⟨A', c', e, h1, h2⟩ := hl7.shape
      injection e with e1 e2 e3
      subst e3
      exact ⟨trivial, trivial, trivial, h1, h2⟩
    have HD7 := Lib.hid (And.intro hD7 hF7)
    have HV7 := Lib.hid hV7
    have HX65 := Lib.hid hX65
    have hWc : W.length ≤ c6 := by omega
    clear hWok hrw2 hbel2 hY hge2 hlt2 hbs6 hbad6 hX6 hrw6 hV6 hl7 hw7 hrw7 hD7 hF7 hsy7 hV7 hbs7 hbad7 hX7 hX65 hW65 hpre hc6b
    rcases hcase with h | ⟨y, AL, cL, h9, h, hoy, hny⟩
    · have HXW := Lib.hid h
      have hLX : X.length = W.length := by rw [h]
      clear h
      rw [hLX] at HS1 HL7 hc6a ⊢
      have HLX := Lib.hid hLX
      clear hLX hXb hWX hs5 hs6 hs7
      obtain ⟨LW, hLW⟩ : ∃ LW, LW = W.length := ⟨_, rfl⟩
      rw [← hLW] at HS1 HS2 hc6a hWc hWl ⊢
      clear hLW
      go_wp2_with fail
      refine HS1.out.mono ?_
      rintro r w8 ⟨rfl, hb8⟩
      have HB8 := Lib.hid hb8
      clear hb8
      have h1 : (LW : Int) ≤ (c6 : Int) := by omega
      go_wp2_with fail
      refine (HS2.out w8 HB8.out).mono ?_
      rintro r w9 ⟨rfl, hb9⟩
      have HB710 := Lib.hid (show Below w7.heap.size w7 w9 from HB8.out.trans (hb9.mono HB8.out.size))
      clear hb9
      obtain ⟨w10, hw10⟩ : ∃ w10, w10 = w9 := ⟨_, rfl⟩
      subst hw10
      go_wp2_with fail
      have hadd := Add_ok (w := w10.alloc (.cells #[.int .u8 5] 5)) (c := 1) (n := 1) ((HD7.out.1.below HB710.out).below ((Below.refl _ _).alloc (Nat.le_refl _) _)) HD7.out.2 rfl (.inl ⟨rfl, rfl, rfl⟩) rfl rfl (.inl ⟨rfl, rfl, rfl⟩) (by show 0 ≤ s2.q ∧ s2.q ≤ 65536; rw [HSQ.out]; omega) (by show (0 : Int) ≤ ((catL X).length : Nat) ∧ (((catL X).length : Nat) : Int) ≤ 65536; have := HCX.out; omega) (by have := HCX.out; omega) (xs := [5]) (reads_one w10 (.int .u8 5) 5) (Nat.le_refl _) (by omega) (by show ((1 + 2 : Nat) : Int) ≤ s2.q - ((catL X).length : Nat); rw [HSQ.out]; have := HCX.out; omega)
      refine hadd.mono ?_
      rintro r w11 ⟨rfl, V11, F11, hD11, hF11, hV11, hg11⟩
      have HV11 := Lib.hid hV11
      clear hadd hD11 hF11 hV11 hg11
      go_wp2_with fail
      refine (wkk _).mono ?_
      rintro r w12 ⟨rfl, hb12⟩
      go_wp2_with fail
      go_ret
      refine ⟨rfl, ?_⟩
      have hj7 : Below w.heap.size w w7 := bel_vol (bel_vol (bel_vol HA2.out.2.2.1 HV5.out HA2.out.2.2.2.2.1) HA6.out.2.2.2.2 HA2.out.2.2.2.2.1) HV7.out HA2.out.2.2.2.2.1
      have hj10 : Below w.heap.size w w10 := hj7.trans (HB710.out.mono hj7.size)
      have hj11 := bel_vol (hj10.alloc hj10.size _) HV11.out HA2.out.2.2.2.2.1
      exact hj11.trans (hb12.mono hj11.size)
    · have HXW := Lib.hid h
      have hyX : y ∈ X := by rw [h]; simp
      have hyb : y.length ≤ 65536 := HX65.out y hyX
      have hXy : X[W.length]? = some y := by rw [h, List.getElem?_append_right (Nat.le_refl _)]; simp
      have hLX : X.length = W.length + 1 := by rw [h, List.length_append]; rfl
      clear h hyX
      subst h9
      have ho7 : w7.ownsRow w.heap.size 5 1 (.slice (some AL) y.length cL) y.length (bsV y) := own_vol (own_vol (own_vol hoy HV5.out hny) HA6.out.2.2.2.2 hny) HV7.out hny
      have hL7 : ∃ a6 Ai ci, A6 = some a6 ∧ w7.cell? (a6.add W.length) = some (.slice Ai y.length ci) ∧ Reads w7 w7.heap.size 1 Ai y.length (bsV y) ∧ a6.block < w7.heap.size := by
        obtain ⟨vs7, hv7, he7⟩ := HL7.out
        obtain ⟨vi, e1, e2⟩ := he7 W.length y hXy
        obtain ⟨Ai, ci, rfl, -, -⟩ := own_slice e2
        rcases hv7.2 with ⟨e, h0⟩ | ⟨g, cap, cur, e, -, -, -⟩
        · rw [hLX] at h0; omega
        · injection e with e3 e4 e5
          obtain ⟨ad, u, e6, e7, e8, e9⟩ := (own_reads hv7).at_ (k := W.length) (by omega)
          rw [e1] at e8
          injection e8 with e8
          subst e8
          rw [e3] at e6
          injection e6 with e6
          subst e6
          exact ⟨_, Ai, ci, e3, e9, own_reads e2, e7⟩
      obtain ⟨a6, Ai, ci, rfl, hc7, hri7, ha6⟩ := hL7
      have HC7 := Lib.hid hc7
      have HSm := Lib.hid (fun (w9 : World) (hb : Below w7.heap.size w7 w9) => SameByte_int Ai (some AL) y.length ci y.length cL y y _ _ w9 hb.size hb.size (reads_belR hri7 (Nat.le_refl _) hb) (reads_belR (own_reads ho7) (Nat.le_refl _) hb) (by omega) (by omega))
      clear hc7 hri7 ho7 hXy hoy hny
      rw [hLX] at HS1 HL7 hc6a ⊢
      have HLX := Lib.hid hLX
      clear hLX hXb hWX hs5 hs6 hs7
      obtain ⟨LW, hLW⟩ : ∃ LW, LW = W.length := ⟨_, rfl⟩
      rw [← hLW] at HS1 HS2 hc6a hWc hWl HC7 ⊢
      clear hLW
      have heq : ∀ w1, (binOp .eql 28 (.slice (some AL) y.length cL) (.slice none 0 0)).run Try.prog w1 = .ok (.bool false) w1 := fun w1 => Lib.run_eql_slice_nil w1 28 5 (some AL) y.length cL 0 0 Try.underlying28
      go_wp2_with fail
      refine HS1.out.mono ?_
      rintro r w8 ⟨rfl, hb8⟩
      have HB8 := Lib.hid hb8
      clear hb8
      have h1 : (LW : Int) ≤ (c6 : Int) := by omega
      go_wp2_with fail
      refine (HS2.out w8 HB8.out).mono ?_
      rintro r w9 ⟨rfl, hb9⟩
      have HB79 := Lib.hid (show Below w7.heap.size w7 w9 from HB8.out.trans (hb9.mono HB8.out.size))
      clear hb9
      have hc9 : w9.cell? (a6.add LW) = some (.slice Ai y.length ci) := (HB79.out.cell (p := a6.add LW) (by rw [block_of_add]; exact ha6)).trans HC7.out
      go_wp2_with fail
      refine (HSm.out w9 HB79.out).mono ?_
      rintro r w10 ⟨hr, hb10⟩
      have hr2 : r = .returned (.bool true) := by rw [hr]; simp
      clear hr hc9
      subst hr2
      have HB710 := Lib.hid (show Below w7.heap.size w7 w10 from HB79.out.trans (hb10.mono HB79.out.size))
      clear hb10
      go_wp2_with fail
      have hadd := Add_ok (w := w10.alloc (.cells #[.int .u8 5] 5)) (c := 1) (n := 1) ((HD7.out.1.below HB710.out).below ((Below.refl _ _).alloc (Nat.le_refl _) _)) HD7.out.2 rfl (.inl ⟨rfl, rfl, rfl⟩) rfl rfl (.inl ⟨rfl, rfl, rfl⟩) (by show 0 ≤ s2.q ∧ s2.q ≤ 65536; rw [HSQ.out]; omega) (by show (0 : Int) ≤ ((catL X).length : Nat) ∧ (((catL X).length : Nat) : Int) ≤ 65536; have := HCX.out; omega) (by have := HCX.out; omega) (xs := [5]) (reads_one w10 (.int .u8 5) 5) (Nat.le_refl _) (by omega) (by show ((1 + 2 : Nat) : Int) ≤ s2.q - ((catL X).length : Nat); rw [HSQ.out]; have := HCX.out; omega)
      refine hadd.mono ?_
      rintro r w11 ⟨rfl, V11, F11, hD11, hF11, hV11, hg11⟩
      have HV11 := Lib.hid hV11
      clear hadd hD11 hF11 hV11 hg11
      go_wp2_with fail
      refine (wkk _).mono ?_
      rintro r w12 ⟨rfl, hb12⟩
      go_wp2_with fail
      go_ret
      refine ⟨rfl, ?_⟩
      have hj7 : Below w.heap.size w w7 := bel_vol (bel_vol (bel_vol HA2.out.2.2.1 HV5.out HA2.out.2.2.2.2.1) HA6.out.2.2.2.2 HA2.out.2.2.2.2.1) HV7.out HA2.out.2.2.2.2.1
      have hj10 : Below w.heap.size w w10 := hj7.trans (HB710.out.mono hj7.size)
      have hj11 := bel_vol (hj10.alloc hj10.size _) HV11.out HA2.out.2.2.2.2.1
      exact hj11.trans (hb12.mono hj11.size)

end Go.Proofs.Ytplmfmcogbdpjaa.recordKept
