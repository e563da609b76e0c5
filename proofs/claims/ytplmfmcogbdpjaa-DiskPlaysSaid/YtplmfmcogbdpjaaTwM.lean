/- RcA RcB TwA TwB TwC TwD TwE TwF: merged texts. -/
import Derived.Test.YtplmfmcogbdpjaaPlN
import Derived.Test.YtplmfmcogbdpjaaRecM
import Derived.Test.YtplmfmcogbdpjaaDk8
import Derived.Test.YtplmfmcogbdpjaaRecV
namespace Go.Proofs.Ytplmfmcogbdpjaa.Dk
open Go Go.RowKit Go.Proofs.Ytplmfmcogbdpjaa Go.Proofs.Ytplmfmcogbdpjaa.Crw Go.Proofs.Ytplmfmcogbdpjaa.Vl Go.ChangeShapes Go.WideShapes Go.ChangeAt
set_option linter.unusedVariables false
set_option maxRecDepth 100000
section
variable {w w' : World} {B d mb : Nat} {U V : Nat → Prop} {s s' s2 : Ds} {F : List Fi} {p : ByteArray}
set_option maxHeartbeats 4000000 in
theorem Append_dead {A : Option Addr} {n c : Nat} (H : DkP w B d mb V s F) (hs : s.de = true) :
    Calls Try.prog 16 #[.pointer (some ⟨d, 0, none⟩), .string p, .slice A n c] w fun r w' => r = .returned (.int .i64 7) ∧ Below w.heap.size w w' := by
  obtain ⟨W, hW⟩ : ∃ W, W = w.alloc (.cells #[.string p] 9) := ⟨_, rfl⟩
  have hbW : Below w.heap.size w W := by rw [hW]; exact (Below.refl _ _).alloc (Nat.le_refl _) _
  have H1 := H.below hbW
  have hRf := refuse_dead (A := some ⟨w.heap.size, 0, none⟩) (n := 1) (c := 1) H1.blk hs
  have HW := Lib.hid hW
  have HB := Lib.hid hbW
  clear hW H H1 hbW
  go_enter Try.func16, Try.ntmps16
  go_wp2_with fail
  rw [← HW.out]
  refine hRf.mono ?_
  rintro r w1 ⟨rfl, b1⟩
  clear hRf
  go_wp2_with fail
  go_ret
  exact ⟨rfl, HB.out.trans (b1.mono HB.out.size)⟩
set_option maxHeartbeats 4000000 in
theorem find_dead (H : DkP w B d mb V s F) (hs : s.de = true) :
    Calls Try.prog 63 #[.pointer (some ⟨d, 0, none⟩), .string p] w fun r w' => r = .returned (.tuple #[.pointer none, .int .i64 7]) ∧ Below w.heap.size w w' := by
  obtain ⟨W, hW⟩ : ∃ W, W = w.alloc (.cells #[.string p] 9) := ⟨_, rfl⟩
  have hbW : Below w.heap.size w W := by rw [hW]; exact (Below.refl _ _).alloc (Nat.le_refl _) _
  have H1 := H.below hbW
  have hRf := refuse_dead (A := some ⟨w.heap.size, 0, none⟩) (n := 1) (c := 1) H1.blk hs
  have HW := Lib.hid hW
  have HB := Lib.hid hbW
  clear hW H H1 hbW
  go_enter Try.func63, Try.ntmps63
  go_wp2_with fail
  rw [← HW.out]
  refine hRf.mono ?_
  rintro r w1 ⟨rfl, b1⟩
  clear hRf
  go_wp2_with fail
  go_ret2
  exact ⟨rfl, HB.out.trans (b1.mono HB.out.size)⟩
set_option maxHeartbeats 4000000 in
theorem Cut_dead {n : Int} (H : DkP w B d mb V s F) (hs : s.de = true) :
    Calls Try.prog 17 #[.pointer (some ⟨d, 0, none⟩), .string p, .int .i64 n] w fun r w' => r = .returned (.int .i64 7) ∧ Below w.heap.size w w' := by
  have hF := find_dead (p := p) H hs
  clear H
  go_enter Try.func17, Try.ntmps17
  go_wp2_with fail
  refine hF.mono ?_
  rintro r w1 ⟨rfl, b1⟩
  clear hF
  go_wp2_with fail
  go_ret
  exact ⟨rfl, b1⟩
set_option maxHeartbeats 8000000 in
theorem Cut_F (H : DkP w B d mb V s F) {j : Nat} {x : Fi} (hj : F[j]? = some x) (hxp : x.p = p) (hp : p.toList.isEmpty = false) (hs : s.de = false) (hbs : burnS s s2 0) {n : Nat} (hn : n ≤ x.bs.length) (hxl : x.bs.length ≤ 65536) (hu : 0 ≤ s2.u ∧ s2.u ≤ 65536) :
    Calls Try.prog 17 #[.pointer (some ⟨d, 0, none⟩), .string p, .int .i64 n] w fun r w' => r = .returned (.int .i64 0) ∧ ∃ v, DkP w' B d mb V { s2 with u := s2.u - ((x.bs.length : Int) - n) } (F.set j { x with v := v, bs := x.bs.take n, sy := n, fi := true }) ∧ Vol V w w' := by
  have hF := find_yes H hj hxp hp hs
  obtain ⟨A1, c1, hxv, -, -⟩ := own_slice (H.rows j x hj)
  obtain ⟨L, hL⟩ : ∃ L, L = x.bs.length := ⟨_, rfl⟩
  obtain ⟨g, hg⟩ : ∃ g, g = x.g := ⟨_, rfl⟩
  rw [← hL] at hxv
  rw [← hg] at hF
  have n0 : decide ((n : Int) < 0) = false := by simp
  have n1 : decide (L < n) = false := by simp; omega
  have hjl := (List.getElem?_eq_some_iff.1 hj).1
  have HJ := Lib.hid hj
  have HH := Lib.hid H
  have HX := Lib.hid hxv
  have HG := Lib.hid hg
  have HL := Lib.hid hL
  clear hj H hxv hg hL
  go_enter Try.func17, Try.ntmps17
  go_wp2_with fail
  refine hF.mono ?_
  rintro r w1 ⟨rfl, b1⟩
  have H2 := HH.out.below b1
  have hBu := burn_all H2 hbs
  have x0 : w1.cell? ⟨g, 0, none⟩ = some (.slice A1 L c1) := by rw [← HX.out, HG.out]; exact (H2.fls j x HJ.out).cell 0
  have H2' := Lib.hid H2
  clear H2 hF
  go_wp2_with fail
  refine hBu.mono ?_
  rintro r w3 ⟨rfl, H4, v3⟩
  have V3 := Lib.hid v3
  clear v3
  have hCu := cut_ H4 HJ.out hn hxl hu
  rw [← HG.out] at hCu
  clear H4 hBu
  go_wp2_with fail
  refine hCu.mono ?_
  rintro r w4 ⟨⟨u, rfl⟩, v, H5, v5⟩
  have hj5 : (F.set j { x with v := v, bs := x.bs.take n, sy := n })[j]? = some { x with v := v, bs := x.bs.take n, sy := n } := List.getElem?_set_self hjl
  have h6 := H5.firm (j := j) (by rw [HG.out]; exact hj5)
  have y2 : w4.cell? ⟨g, 2, none⟩ = some (.bool x.fi) := by have h := (H5.fls j _ (by rw [HG.out]; exact hj5)).cell 2; rw [← HG.out] at h; exact h
  have f2 : w4.frozen? ⟨g, 2, none⟩ = false := by have h := (H5.fls j _ (by rw [HG.out]; exact hj5)).frozen 2; rw [← HG.out] at h; exact h
  have H6 := Lib.hid h6
  have V5 := Lib.hid v5
  clear hCu H5 v5 h6 hj5
  go_wp2_with fail
  go_ret
  obtain ⟨h7, v7⟩ := H6.out
  have hg' := HG.out
  subst hg'
  simp only [List.set_set] at h7 v7
  refine ⟨rfl, v, h7, (((Vol.of_below b1).trans V3.out (fun b e => .inl e)).trans V5.out (fun b e => .inl e)).trans v7 (fun b e => .inl e)⟩
set_option maxHeartbeats 8000000 in
theorem Cut_dies (H : DkP w B d mb V s F) {j : Nat} {x : Fi} (hj : F[j]? = some x) (hxp : x.p = p) (hp : p.toList.isEmpty = false) (hs : s.de = false) (hbs : burnS s s2 7) {n : Nat} (hn : n ≤ x.bs.length) (hxl : x.bs.length ≤ 65536) (hu : 0 ≤ s.u ∧ s.u ≤ 65536) :
    Calls Try.prog 17 #[.pointer (some ⟨d, 0, none⟩), .string p, .int .i64 n] w fun r w' => r = .returned (.int .i64 7) ∧ DkP w' B d mb V s2 F ∧ Vol V w w' := by
  have hF := find_yes H hj hxp hp hs
  obtain ⟨A1, c1, hxv, -, -⟩ := own_slice (H.rows j x hj)
  obtain ⟨L, hL⟩ : ∃ L, L = x.bs.length := ⟨_, rfl⟩
  obtain ⟨g, hg⟩ : ∃ g, g = x.g := ⟨_, rfl⟩
  rw [← hL] at hxv
  rw [← hg] at hF
  have n0 : decide ((n : Int) < 0) = false := by simp
  have n1 : decide (L < n) = false := by simp; omega
  have hjl := (List.getElem?_eq_some_iff.1 hj).1
  have HJ := Lib.hid hj
  have HH := Lib.hid H
  have HX := Lib.hid hxv
  have HG := Lib.hid hg
  have HL := Lib.hid hL
  clear hj H hxv hg hL
  go_enter Try.func17, Try.ntmps17
  go_wp2_with fail
  refine hF.mono ?_
  rintro r w1 ⟨rfl, b1⟩
  have H2 := HH.out.below b1
  have hBu := burn_all H2 hbs
  have x0 : w1.cell? ⟨g, 0, none⟩ = some (.slice A1 L c1) := by rw [← HX.out, HG.out]; exact (H2.fls j x HJ.out).cell 0
  have H2' := Lib.hid H2
  clear H2 hF
  go_wp2_with fail
  refine hBu.mono ?_
  rintro r w3 ⟨rfl, H4, v3⟩
  have HE := Lib.hid (And.intro H4 v3)
  clear H4 v3 hBu
  go_wp2_with fail
  go_ret
  exact ⟨rfl, HE.out.1, (Vol.of_below b1).trans HE.out.2 fun b e => .inl e⟩
set_option maxHeartbeats 4000000 in
theorem Fuse_g (H : DkP w B d mb V s F) (a : Int) (n : Nat) (ha : max a 0 = (n : Int)) :
    Calls Try.prog 41 #[.pointer (some ⟨d, 0, none⟩), .int .i64 a] w fun r w' => (∃ u, r = .returned u) ∧ DkP w' B d mb V { s with fu := true, lf := n } F ∧ Vol V w w' := by
  have f3 : w.frozen? ⟨d, 3, none⟩ = false := H.blk.frozen 3
  have c3 : w.cell? ⟨d, 3, none⟩ = some (.bool s.fu) := H.blk.cell 3
  have c4 : (w.setCell ⟨d, 3, none⟩ (.bool true)).cell? ⟨d, 4, none⟩ = some (.int .i64 s.lf) := (H.blk.set_ 3 (.bool true)).cell 4
  have f4 : (w.setCell ⟨d, 3, none⟩ (.bool true)).frozen? ⟨d, 4, none⟩ = false := (H.blk.set_ 3 (.bool true)).frozen 4
  have k1 : max (n : Int) 0 = (n : Int) := by omega
  have HH := Lib.hid H
  clear H
  go_enter Try.func41, Try.ntmps41
  go_wp2_with fail
  go_end0
  have v1 : Vol (fun b => b = d) w ((w.setCell ⟨d, 3, none⟩ (.bool true)).setCell ⟨d, 4, none⟩ (.int .i64 n)) := Vol.setCell (V := fun b => b = d) (a := ⟨d, 4, none⟩) (Vol.setCell (V := fun b => b = d) (a := ⟨d, 3, none⟩) (Vol.refl w) (.inl rfl) _) (.inl rfl) _
  exact ⟨⟨_, rfl⟩, HH.out.scal v1 ((HH.out.blk.set_ 3 (.bool true)).set_ 4 (.int .i64 n)), v1.mono (fun b e => by rw [e]; exact HH.out.vm.1)⟩
end
end Go.Proofs.Ytplmfmcogbdpjaa.Dk
namespace Go.Proofs.Ytplmfmcogbdpjaa.Dk
open Go Go.RowKit Go.Proofs.Ytplmfmcogbdpjaa Go.Proofs.Ytplmfmcogbdpjaa.Crw Go.Proofs.Ytplmfmcogbdpjaa.Vl Go.ChangeShapes Go.WideShapes Go.ChangeAt
set_option linter.unusedVariables false
set_option maxRecDepth 100000
section
variable {w w' : World} {B d mb : Nat} {U V : Nat → Prop} {s s' : Ds} {F : List Fi} {p : ByteArray}
set_option maxHeartbeats 32000000 in
theorem Crash_g (H : DkP w B d mb V s F) (hF : F.length ≤ 65536) (hok : ∀ y ∈ F.map Fi.sh, 0 ≤ y.sy ∧ y.sy ≤ y.bs.length ∧ y.bs.length ≤ 65536) (hu : s.u = total (F.map Fi.sh)) (hu2 : total (F.map Fi.sh) ≤ 65536) (a : Int) (K : Nat) (kmax : max a 0 = (K : Int)) (hK : K ≤ 65536) :
    Calls Try.prog 27 #[.pointer (some ⟨d, 0, none⟩), .int .i64 a] w fun r w' => (∃ u, r = .returned u) ∧ ∃ F', DkP w' B d mb V { su s (total (F'.map Fi.sh)) with fu := false, de := false } F' ∧ F'.map Fi.sh = (F.map Fi.sh).filterMap (Sh.cr K) ∧ total (F'.map Fi.sh) ≤ 65536 ∧ Vol V w w' := by
  obtain ⟨l, hl, hList⟩ := List_all H (by omega)
  have hnd := H.nodup
  obtain ⟨Y, hY⟩ : ∃ Y, Y = F.map Fi.sh := ⟨_, rfl⟩
  rw [← hY] at hok hu hu2 hl hnd ⊢
  have hll : l.length ≤ 65536 := by
    have h1 := hl.length_eq
    rw [hY] at h1
    simp at h1
    omega
  have HH := Lib.hid H
  have HY := Lib.hid hY
  have HL := Lib.hid hl
  have HND := Lib.hid hnd
  have HOK := Lib.hid hok
  have HU := Lib.hid hu
  clear H hY hl hnd hok
  go_enter Try.func27, Try.ntmps27
  go_upto_region 2 with (go_at_call 22; refine hList.mono ?_; rintro r w1 ⟨v, rfl, hb1, ho1⟩; obtain ⟨A, c, rfl, -, -⟩ := own_slice ho1)
  have hAV : Hid (∀ ad, A = some ad → ¬ V ad.block) := Lib.hid (by
    intro ad e hv
    subst e
    have h1 := (ho1.lt ad.block rfl).1
    have h2 := HH.out.lt _ hv
    omega)
  have hr1 := own_reads ho1
  have H1 := HH.out.below hb1
  have hs0 : CrR w w1 B d mb V s K Y l A (.int .i64 (0 : Nat)) w1 := by
    refine ⟨0, F, rfl, Nat.zero_le _, ?_, ?_, by rw [← HY.out]; exact hu2, Vol.of_below hb1, hr1, Nat.le_refl _⟩
    · rw [← HY.out, show su s (total Y) = s by unfold su; rw [← HU.out]]
      exact H1
    · rw [← HY.out, List.take_zero, fK_nil]
  have HS0 := Lib.hid hs0
  clear hs0 hr1 H1 ho1 hb1 hList hu
  go_loopw [12] (fun i wr => Hid (CrR w w1 B d mb V s K Y l A i wr)) (fun i _ => l.length - (intOf i).toNat)
  case atStart => exact HS0
  case round =>
    obtain ⟨k, F', rfl, hk, hD, hmap, ht, hvol, hrd, hsz⟩ := hrel.out
    clear hrel
    by_cases hlt : k < l.length
    · have k1 : (k : Int) < (l.length : Int) := by omega
      obtain ⟨nm, hnm⟩ : ∃ nm, l[k]? = some nm := ⟨l[k], List.getElem?_eq_getElem hlt⟩
      obtain ⟨A1, y, A2, hyn, hyY, e1, e2⟩ := fK_step K Y HND.out l HL.out k nm hnm
      rw [e1] at hmap
      obtain ⟨G1, x, G2, hF', hG1, hx, hG2⟩ := map_split hmap
      obtain ⟨o0, o1, o2⟩ := HOK.out y hyY
      have hj : F'[G1.length]? = some x := by rw [hF']; simp
      obtain ⟨ad, u, hA, hadb, hu1, hc1⟩ := hrd.at_ hlt
      subst hA
      have hu2' : u = .string x.p := by
        rw [List.getElem?_map, hnm] at hu1
        injection hu1 with hu1
        rw [← hu1, ← hyn, ← hx]
      subst hu2'
      have c2 : wr.cell? ⟨d, 2, none⟩ = some (.map (some mb)) := hD.blk.cell 2
      have l3 := flook_yes hD hj false
      simp only [Bool.false_eq_true, if_false] at l3
      obtain ⟨A3, c3, hxv, -, -⟩ := own_slice (hD.rows _ x hj)
      obtain ⟨L, hL⟩ : ∃ L, L = x.bs.length := ⟨_, rfl⟩
      obtain ⟨m, hm⟩ : ∃ m, m = y.sy.toNat := ⟨_, rfl⟩
      obtain ⟨N, hN⟩ : ∃ N, N = y.n K := ⟨_, rfl⟩
      obtain ⟨g, hg⟩ : ∃ g, g = x.g := ⟨_, rfl⟩
      obtain ⟨T, hT⟩ : ∃ T, T = total (F'.map Fi.sh) := ⟨_, rfl⟩
      have hxy : x.bs = y.bs ∧ x.sy = y.sy ∧ x.fi = y.fi := by rw [← hx]; exact ⟨rfl, rfl, rfl⟩
      have hLy : L = y.bs.length := by rw [hL, hxy.1]
      have hNL : N ≤ L := by rw [hN, hLy]; exact len_toNat y K o0 o1
      have hNd : (N : Int) = (m : Int) + min (K : Int) ((L : Int) - (m : Int)) := by rw [hN, Sh.n, ← hm, ← hLy]; omega
      rw [← hL] at hxv
      unfold fptr at l3
      rw [← hg] at l3
      rw [← hT] at hD ht
      have x1 : wr.cell? ⟨g, 1, none⟩ = some (.int .i64 m) := by
        have h := (hD.fls _ x hj).cell 1
        rw [← hg] at h
        rw [h]
        show some (Value.int .i64 x.sy) = _
        rw [hxy.2.1, hm, Int.toNat_of_nonneg o0]
      have x0 : wr.cell? ⟨g, 0, none⟩ = some (.slice A3 L c3) := by rw [← hxv, hg]; exact (hD.fls _ x hj).cell 0
      have q1 : IntKind.i64.wrap ((L : Int) - (m : Int)) = (L : Int) - m := IntWalk.i64_in _ (by omega)
      have q2 : IntKind.i64.wrap ((m : Int) + min (K : Int) ((L : Int) - (m : Int))) = (N : Int) := by rw [← hNd]; exact IntWalk.i64_in _ (by omega)
      have hTL : L ≤ T := by
        rw [hT, hmap, total_app, total_cons, hLy]
        omega
      have hC : ∀ wa, DkP wa B d mb V (su s T) F' → Calls Try.prog 64 #[.pointer (some ⟨d, 0, none⟩), .pointer (some ⟨g, 0, none⟩), .int .i64 N] wa fun r w' => (∃ u, r = .returned u) ∧ ∃ v, DkP w' B d mb V (su s (T - (L - N))) (F'.set G1.length { x with v := v, bs := x.bs.take N, sy := N }) ∧ Vol V wa w' := by
        intro wa hwa
        have h := cut_ hwa hj (n := N) (by omega) (by omega) ⟨by show (0 : Int) ≤ (T : Int); omega, by show (T : Int) ≤ 65536; omega⟩
        rw [← hg, ← hL] at h
        rw [show (T : Int) - ((L : Int) - (N : Int)) = ((T - (L - N) : Nat) : Int) by omega] at h
        rw [hg] at h ⊢
        exact h
      have HD := Lib.hid hD
      have HJ := Lib.hid hj
      have HM := Lib.hid hmap
      have HVO := Lib.hid hvol
      have HRD := Lib.hid hrd
      have HSZ := Lib.hid hsz
      have HHX := Lib.hid hx
      have HF' := Lib.hid hF'
      have HG1 := Lib.hid hG1
      have HG2 := Lib.hid hG2
      have HE2 := Lib.hid e2
      have HG := Lib.hid hg
      have HT := Lib.hid hT
      have HL' := Lib.hid hL
      have HN := Lib.hid hN
      have HXY := Lib.hid hxy
      clear hD hj hmap hvol hrd hsz hx hF' hG1 hG2 e1 e2 hg hT hL hN hxy hm hNd hLy hxv hyn hyY hnm hu1 hadb HS0
      go_upto_region 5 with fail
      go_cut [] from 22 to 42 (fun wx => Hid (∃ v, DkP wx B d mb V (su s (T - (L - N))) (F'.set G1.length { x with v := v, bs := x.bs.take N, sy := N }) ∧ Vol V wr wx))
      case first =>
        go_region_with (go_at_call 64; refine (hC _ (by first | exact HD.out | exact HD.out.below (Below.refl _ _).drew)).mono ?_; rintro r wb ⟨⟨u, rfl⟩, v', Hb, vb⟩)
        all_goals
          go_wp2_with fail
          go_meet
          exact Lib.hid ⟨v', by first | exact Hb | exact Hb.below (Below.refl _ _).drew, by first | exact vb | exact ((Vol.refl wr).drew.trans vb (fun b e => .inl e)) | exact vb.drew | exact ((Vol.refl wr).drew.trans vb (fun b e => .inl e)).drew⟩
      case rest =>
        obtain ⟨v', Hb, vb⟩ := hcut.out
        obtain ⟨x2, hx2⟩ : ∃ x2 : Fi, x2 = { x with v := v', bs := x.bs.take N, sy := N } := ⟨_, rfl⟩
        rw [← hx2] at Hb
        have hjl : G1.length < F'.length := (List.getElem?_eq_some_iff.1 HJ.out).1
        have hj2 : (F'.set G1.length x2)[G1.length]? = some x2 := by rw [List.getElem?_set_self hjl]
        have hln : x2.bs.length = N := by rw [hx2]; show (x.bs.take N).length = N; rw [List.length_take, ← HL'.out]; omega
        have hg2 : g = x2.g := by rw [hx2]; exact HG.out
        obtain ⟨A4, c4, hv4, -, -⟩ := own_slice (Hb.rows _ x2 hj2)
        rw [hln] at hv4
        have z0 : wc.cell? ⟨g, 0, none⟩ = some (.slice A4 N c4) := by rw [← hv4, hg2]; exact (Hb.fls _ x2 hj2).cell 0
        have z2 : wc.cell? ⟨g, 2, none⟩ = some (.bool y.fi) := by
          have h := (Hb.fls _ x2 hj2).cell 2
          rw [← hg2] at h
          rw [h, hx2, ← HXY.out.2.2]
          rfl
        have HB := Lib.hid Hb
        have HVB := Lib.hid vb
        have HX2 := Lib.hid hx2
        have HJ2 := Lib.hid hj2
        have HLN := Lib.hid hln
        have hrm := fun (hfl : y.fi = false) => remove_yes Hb hj2 (p := x.p) (by rw [hx2]) (by omega) ⟨by show (0 : Int) ≤ ((T - (L - N) : Nat) : Int); omega, by show ((T - (L - N) : Nat) : Int) ≤ 65536; omega⟩
        have fin : ∀ (wz : World) (F2 : List Fi), DkP wz B d mb V (su s (total (F2.map Fi.sh))) F2 → F2.map Fi.sh = A1 ++ ((Sh.cr K y).toList ++ A2) → total (F2.map Fi.sh) ≤ T → Vol V wr wz → Hid (CrR w w1 B d mb V s K Y l (some ad) (.int .i64 ((k : Int) + 1)) wz) := by
          intro wz F2 h1 h2 h3 h4
          exact Lib.hid ⟨k + 1, F2, by rw [Int.natCast_add]; rfl, hlt, h1, by rw [h2, HE2.out], Nat.le_trans h3 ht, HVO.out.trans h4 (fun b e => .inl e), reads_vol HRD.out HSZ.out h4 hAV.out, Nat.le_trans HSZ.out h4.size⟩
        have sz : ∀ F2 : List Fi, F2.map Fi.sh = A1 ++ ((Sh.cr K y).toList ++ A2) → ((Sh.cr K y).toList.map fun z => z.bs.length).sum = N → total (F2.map Fi.sh) = T - (L - N) := by
          intro F2 h1 h2
          rw [h1, total_app, total_app, HT.out, HM.out, total_app, total_cons]
          have e1 : total (Sh.cr K y).toList = N := h2
          have e2 : y.bs.length = L := by rw [HL'.out, HXY.out.1]
          omega
        have FIN := Lib.hid fin
        have SZ := Lib.hid sz
        clear hcut Hb vb hx2 hj2 hjl hln hg2 hv4 fin sz x0 x1 l3 c2 hc1 hC
        by_cases hN0 : N = 0
        · cases hfi : y.fi with
          | false =>
            have hr := hrm hfi
            rw [hfi] at z2
            clear hrm
            subst hN0
            go_wp2_with (go_at_call 66; refine hr.mono ?_; rintro r wd ⟨⟨u, rfl⟩, Hd, vd⟩)
            have hcr : Sh.cr K y = none := by unfold Sh.cr; rw [if_pos ⟨HN.out.symm, hfi⟩]
            have hs2 : ((F'.set G1.length x2).eraseIdx G1.length).map Fi.sh = A1 ++ ((Sh.cr K y).toList ++ A2) := by
              rw [hcr, HF'.out, set_mid, erase_mid, List.map_append, HG1.out, HG2.out]
              rfl
            have ht2 := SZ.out _ hs2 (by rw [hcr]; rfl)
            have e : ((T - (L - 0) : Nat) : Int) - (x2.bs.length : Int) = (total (((F'.set G1.length x2).eraseIdx G1.length).map Fi.sh) : Int) := by rw [HLN.out, ht2]; simp
            have Hd' : DkP wd B d mb V (su s (total (((F'.set G1.length x2).eraseIdx G1.length).map Fi.sh))) ((F'.set G1.length x2).eraseIdx G1.length) := by
              have h : DkP wd B d mb V ⟨s.q, ((T - (L - 0) : Nat) : Int) - (x2.bs.length : Int), s.fu, s.lf, s.de⟩ ((F'.set G1.length x2).eraseIdx G1.length) := Hd
              rw [e] at h
              exact h
            exact ⟨FIN.out wd _ Hd' hs2 (by rw [ht2]; omega) (HVB.out.trans vd (fun b e => .inl e)), by simp [intOf]; omega⟩
          | true =>
            rw [hfi] at z2
            clear hrm
            subst hN0
            go_wp2_with fail
            have hcr : Sh.cr K y = some ⟨y.p, y.bs.take 0, 0, y.fi⟩ := by unfold Sh.cr; rw [if_neg (fun h => by rw [hfi] at h; exact absurd h.2 (by decide)), ← HN.out]; rfl
            have hsh : x2.sh = ⟨y.p, y.bs.take 0, 0, y.fi⟩ := by rw [HX2.out, ← HHX.out]; rfl
            have hs2 : (F'.set G1.length x2).map Fi.sh = A1 ++ ((Sh.cr K y).toList ++ A2) := by
              rw [hcr, HF'.out, set_mid, List.map_append, List.map_cons, HG1.out, HG2.out, hsh]
              rfl
            have ht2 := SZ.out _ hs2 (by rw [hcr]; rfl)
            exact ⟨FIN.out wc _ (by rw [ht2]; exact HB.out) hs2 (by rw [ht2]; omega) HVB.out, by simp [intOf]; omega⟩
        · have hnz : ((N : Int) == 0) = false := by simpa using hN0
          clear hrm
          go_wp2_with fail
          have hcr : Sh.cr K y = some ⟨y.p, y.bs.take N, N, y.fi⟩ := by unfold Sh.cr; rw [if_neg (fun h => hN0 (HN.out.trans h.1)), ← HN.out]
          have hsh : x2.sh = ⟨y.p, y.bs.take N, N, y.fi⟩ := by rw [HX2.out, ← HHX.out]
          have hs2 : (F'.set G1.length x2).map Fi.sh = A1 ++ ((Sh.cr K y).toList ++ A2) := by
            rw [hcr, HF'.out, set_mid, List.map_append, List.map_cons, HG1.out, HG2.out, hsh]
            rfl
          have ht2 := SZ.out _ hs2 (by rw [hcr]; show (y.bs.take N).length + 0 = N; rw [← HXY.out.1, List.length_take, ← HL'.out]; omega)
          exact ⟨FIN.out wc _ (by rw [ht2]; exact HB.out) hs2 (by rw [ht2]; omega) HVB.out, by simp [intOf]; omega⟩
    · have hke : k = l.length := by omega
      have hD3 := hD.blk
      have z5 : wr.frozen? ⟨d, 5, none⟩ = false := hD3.frozen 5
      have c5 : wr.cell? ⟨d, 5, none⟩ = some (.bool s.de) := hD3.cell 5
      have y3 : (wr.setCell ⟨d, 5, none⟩ (.bool false)).cell? ⟨d, 3, none⟩ = some (.bool s.fu) := (hD3.set_ 5 (.bool false)).cell 3
      have y3f : (wr.setCell ⟨d, 5, none⟩ (.bool false)).frozen? ⟨d, 3, none⟩ = false := (hD3.set_ 5 (.bool false)).frozen 3
      have k1 : decide ((k : Int) < (l.length : Int)) = false := by simp; omega
      have HD := Lib.hid hD
      have HM := Lib.hid hmap
      have HVO := Lib.hid hvol
      clear hD hD3 hmap hvol hrd hsz HS0
      go_wp2_with fail
      go_end0
      have vF : Vol (fun b => b = d) wr ((wr.setCell ⟨d, 5, none⟩ (.bool false)).setCell ⟨d, 3, none⟩ (.bool false)) :=
        Vol.setCell (V := fun b => b = d) (a := ⟨d, 3, none⟩) (Vol.setCell (V := fun b => b = d) (a := ⟨d, 5, none⟩) (Vol.refl wr) (.inl rfl) _) (.inl rfl) _
      refine ⟨⟨_, rfl⟩, F', HD.out.scal vF ((HD.out.blk.set_ 5 (.bool false)).set_ 3 (.bool false)), ?_, ht, HVO.out.trans vF (fun b e => .inl (by rw [e]; exact HD.out.vm.1))⟩
      rw [HM.out, hke, List.take_length]
      exact fK_all K l Y (fun y hy => HL.out.mem_iff.2 (List.mem_map.2 ⟨y, hy, rfl⟩))
end
end Go.Proofs.Ytplmfmcogbdpjaa.Dk
namespace Go.Proofs.Ytplmfmcogbdpjaa.Dk
open Go Go.RowKit Go.Proofs.Ytplmfmcogbdpjaa Go.Proofs.Ytplmfmcogbdpjaa.Crw Go.Proofs.Ytplmfmcogbdpjaa.Vl Go.ChangeShapes Go.WideShapes Go.ChangeAt
set_option linter.unusedVariables false
set_option maxRecDepth 100000
/-- The numbers of both disks say the same; k acts ago they were new. -/
structure Lk (s : Ds) (sp : Ps) (k : Nat) : Prop where
  de : s.de = sp.de
  q : s.q = sp.q
  qb : 0 ≤ s.q ∧ s.q ≤ 65536
  fu : s.fu = sp.ar
  lf : s.fu = true → s.lf = sp.n ∧ 0 ≤ s.lf ∧ s.lf ≤ 1000
  n : -(k : Int) ≤ sp.n ∧ sp.n ≤ 1000
theorem Lk.step {s : Ds} {sp : Ps} {k : Nat} (h : Lk s sp k) :
    (∃ s2 sp2, burnS s s2 0 ∧ stopS sp sp2 false ∧ Lk s2 sp2 (k + 1) ∧ s2.u = s.u ∧ s2.de = s.de) ∨ (∃ s2 sp2, burnS s s2 7 ∧ stopS sp sp2 true ∧ Lk s2 sp2 (k + 1) ∧ s2.u = s.u ∧ s2.de = true) := by
  obtain ⟨q, u, fu, lf, de⟩ := s
  obtain ⟨q', de', ar, n⟩ := sp
  obtain ⟨h1, h2, h3, h4, h5, h6⟩ := h
  simp only at h1 h2 h3 h4 h5 h6
  subst h1 h2 h4
  cases fu with
  | false =>
    left
    exact ⟨⟨q, u, false, lf, de⟩, ⟨q, de, false, n - 1⟩, .inl ⟨rfl, rfl, rfl⟩, .inr ⟨.inl rfl, rfl, rfl⟩, ⟨rfl, rfl, h3, rfl, (fun e => by cases e), by simp only; omega⟩, rfl, rfl⟩
  | true =>
    obtain ⟨e1, e2, e3⟩ := h5 rfl
    subst e1
    rcases Int.lt_or_le 0 lf with hp | hp
    · left
      obtain ⟨m, hm⟩ : ∃ m : Nat, lf = (m : Int) + 1 := ⟨(lf - 1).toNat, by omega⟩
      refine ⟨⟨q, u, true, m, de⟩, ⟨q, de, true, lf - 1⟩, .inr (.inl ⟨rfl, m, hm, by omega, rfl, rfl⟩), .inr ⟨.inr (by simp only; omega), rfl, rfl⟩, ⟨rfl, rfl, h3, rfl, fun _ => ⟨by simp only; omega, by simp only; omega, by simp only; omega⟩, by simp only; omega⟩, rfl, rfl⟩
    · right
      have hz : lf = 0 := by omega
      subst hz
      exact ⟨⟨q, u, true, 0, true⟩, ⟨q, true, true, 0⟩, .inr (.inr ⟨rfl, rfl, rfl, rfl⟩), .inl ⟨rfl, rfl, rfl, rfl⟩, ⟨rfl, rfl, h3, rfl, fun _ => ⟨rfl, by simp, by simp⟩, by simp only; omega⟩, rfl, rfl⟩
end Go.Proofs.Ytplmfmcogbdpjaa.Dk
namespace Go.Proofs.Ytplmfmcogbdpjaa.Dk
open Go Go.RowKit Go.Proofs.Ytplmfmcogbdpjaa Go.Proofs.Ytplmfmcogbdpjaa.Crw Go.Proofs.Ytplmfmcogbdpjaa.Vl Go.ChangeShapes Go.WideShapes Go.ChangeAt
set_option linter.unusedVariables false
set_option maxRecDepth 100000
/-- The plain disk's files are a log alone, or none. -/
def isLogR (G : List Pf) (bs : List Int) (sy : Int) (fi : Bool) : Prop := (G = [] ∧ bs = [] ∧ sy = 0 ∧ fi = false) ∨ ∃ A c, G = [⟨nmL, A, c, bs, sy, fi⟩]
theorem isLogR.tot {G : List Pf} {bs : List Int} {sy : Int} {fi : Bool} (h : isLogR G bs sy fi) : totP G = bs.length := by
  rcases h with ⟨rfl, rfl, -⟩ | ⟨A, c, rfl⟩ <;> simp [totP]
theorem isLogR.len {G : List Pf} {bs : List Int} {sy : Int} {fi : Bool} (h : isLogR G bs sy fi) : G.length ≤ 1 := by
  rcases h with ⟨rfl, -⟩ | ⟨A, c, rfl⟩ <;> simp
section
variable {w w' : World} {B r : Nat} {U Z : Nat → Prop} {v : Value} {s s1 s2 : Ps} {G : List Pf}
set_option maxHeartbeats 4000000 in
theorem RLogApp {A : Option Addr} {n c B' : Nat} {bs xs : List Int} {sy : Int} {fi : Bool} (h : RfP w B r Z v s G) (hG : isLogR G bs sy fi) (hd : s.de = false) (hbl : bs.length ≤ 65536) (hq : 0 ≤ s.q ∧ s.q ≤ 65536) (hn : (n : Int) ≤ s.q - (bs.length : Nat)) (hs : stopS s s2 false) (hN : -1000000 ≤ s.n ∧ s.n ≤ 1000000)
    (hr : Reads w B' 1 A n (bsV xs)) (hB' : B' ≤ w.heap.size) (hA : ∀ ad, A = some ad → ¬ Z ad.block) (hB : B ≤ w.heap.size) :
    Calls Try.prog 49 #[.pointer (some ⟨r, 0, none⟩), .string nmL, .slice A n c] w fun e w' => e = .returned (.int .i64 0) ∧ ∃ Z' v' A' c', RfP w' B r Z' v' s2 [⟨nmL, A', c', bs ++ xs, sy, fi⟩] ∧ Vol Z w w' ∧ ∀ b, Z' b → Z b ∨ w.heap.size ≤ b := by
  have ht := hG.tot
  have hl := hG.len
  rcases hG with ⟨rfl, rfl, rfl, rfl⟩ | ⟨A0, c0, rfl⟩
  · refine (RApp_new h hd nmL_ne (by simp) (by omega) hq (by rw [ht]; exact hn) hs hN (fun i y hy => by simp at hy) hr hB' hA hB).mono ?_
    rintro e w1 ⟨rfl, Z', v', A', c', h1, h2, h3⟩
    exact ⟨rfl, Z', v', A', c', by simpa [putF] using h1, h2, h3⟩
  · refine (RApp_old h hd nmL_ne (by simp) (by omega) hq (by rw [ht]; exact hn) hs hN (j := 0) rfl rfl (fun i y hi hy => by omega) (by simp only; omega) hr hB' hA hB).mono ?_
    rintro e w1 ⟨rfl, Z', v', A', c', h1, h2, h3⟩
    refine ⟨rfl, Z', v', A', c', ?_, h2, h3⟩
    have e1 : putF ⟨nmL, A', c', bs ++ xs, sy, fi⟩ [⟨nmL, A0, c0, bs, sy, fi⟩] false = [⟨nmL, A', c', bs ++ xs, sy, fi⟩] := by
      unfold putF
      rw [if_pos (by simp [eqF])]
      simp [putF]
    rw [e1] at h1
    exact h1
set_option maxHeartbeats 4000000 in
theorem RAdd_dead {A : Option Addr} {n c B' : Nat} {xs : List Int} (h : RfP w B r Z v s G) (hr : Reads w B' 1 A n (bsV xs)) (hB' : B' ≤ w.heap.size) (hn2 : n ≤ 200) (hd : s.de = true) :
    Calls Try.prog 46 #[.pointer (some ⟨r, 0, none⟩), .string nmL, .slice A n c] w fun e w' => e = .returned (.int .i64 7) ∧ Below w.heap.size w w' := by
  have hbl0 : xs.length = n := by have := hr.1; simpa [bsV] using this
  have hpl : (packL xs).length = n + 2 := by rw [packL_len, hbl0]
  have hP := RefRecord_yes (c := c) hr hB' hn2
  have hle : ¬ 200 < (n : Int) := by omega
  have HPL := Lib.hid hpl
  have HX := Lib.hid (fun (w1 : World) (A1 : Option Addr) (c1 : Nat) (ho1 : w1.ownsRow w.heap.size 5 1 (.slice A1 (n + 2) c1) (n + 2) (bsV (packL xs))) (hb1 : Below w.heap.size w w1) => RApp_dead (p := nmL) (A := A1) (n := n + 2) (c := c1) (h.below hb1) hd)
  clear h hr hpl hbl0 hd
  go_enter Try.func46, Try.ntmps46
  go_wp2_with fail
  refine hP.mono ?_
  rintro e w1 ⟨v1, rfl, ho1, hb1⟩
  rw [HPL.out] at ho1
  obtain ⟨A1, c1, rfl, -, -⟩ := own_slice ho1
  have HO1 := Lib.hid ho1
  have HB1 := Lib.hid hb1
  clear hP ho1 hb1
  go_wp2_with fail
  refine (HX.out w1 A1 c1 HO1.out HB1.out).mono ?_
  rintro e w2 ⟨rfl, hb2⟩
  go_wp2_with fail
  go_ret
  exact ⟨rfl, HB1.out.trans (hb2.mono HB1.out.size)⟩
set_option maxHeartbeats 4000000 in
theorem RAdd_full {A : Option Addr} {n c B' : Nat} {xs : List Int} (h : RfP w B r Z v s G) (hr : Reads w B' 1 A n (bsV xs)) (hB' : B' ≤ w.heap.size) (hn2 : n ≤ 200) {bs : List Int} {sy : Int} {fi : Bool} (hG : isLogR G bs sy fi) (hd : s.de = false) (hbl : bs.length ≤ 65536) (hq : 0 ≤ s.q ∧ s.q ≤ 65536) (hN : -1000 ≤ s.n ∧ s.n ≤ 1000) (hB : B ≤ w.heap.size) (hfull : s.q - (bs.length : Nat) < ((n + 2 : Nat) : Int)) :
    Calls Try.prog 46 #[.pointer (some ⟨r, 0, none⟩), .string nmL, .slice A n c] w fun e w' => e = .returned (.int .i64 6) ∧ Below w.heap.size w w' := by
  have hbl0 : xs.length = n := by have := hr.1; simpa [bsV] using this
  have hpl : (packL xs).length = n + 2 := by rw [packL_len, hbl0]
  have hP := RefRecord_yes (c := c) hr hB' hn2
  have hle : ¬ 200 < (n : Int) := by omega
  have HPL := Lib.hid hpl
  have HX := Lib.hid (fun (w1 : World) (A1 : Option Addr) (c1 : Nat) (ho1 : w1.ownsRow w.heap.size 5 1 (.slice A1 (n + 2) c1) (n + 2) (bsV (packL xs))) (hb1 : Below w.heap.size w w1) => RApp_full (p := nmL) (A := A1) (n := n + 2) (c := c1) (h.below hb1) hd nmL_ne (Nat.le_trans hG.len (by omega)) (by rw [hG.tot]; omega) hq (by rw [hG.tot]; exact hfull))
  clear h hr hpl hbl0 hG hd hbl hq hN hB hfull
  go_enter Try.func46, Try.ntmps46
  go_wp2_with fail
  refine hP.mono ?_
  rintro e w1 ⟨v1, rfl, ho1, hb1⟩
  rw [HPL.out] at ho1
  obtain ⟨A1, c1, rfl, -, -⟩ := own_slice ho1
  have HO1 := Lib.hid ho1
  have HB1 := Lib.hid hb1
  clear hP ho1 hb1
  go_wp2_with fail
  refine (HX.out w1 A1 c1 HO1.out HB1.out).mono ?_
  rintro e w2 ⟨rfl, hb2⟩
  go_wp2_with fail
  go_ret
  exact ⟨rfl, HB1.out.trans (hb2.mono HB1.out.size)⟩
set_option maxHeartbeats 4000000 in
theorem RAdd_stop1 {A : Option Addr} {n c B' : Nat} {xs : List Int} (h : RfP w B r Z v s G) (hr : Reads w B' 1 A n (bsV xs)) (hB' : B' ≤ w.heap.size) (hn2 : n ≤ 200) {bs : List Int} {sy : Int} {fi : Bool} (hG : isLogR G bs sy fi) (hd : s.de = false) (hbl : bs.length ≤ 65536) (hq : 0 ≤ s.q ∧ s.q ≤ 65536) (hN : -1000 ≤ s.n ∧ s.n ≤ 1000) (hB : B ≤ w.heap.size) (hfit : ((n + 2 : Nat) : Int) ≤ s.q - (bs.length : Nat)) (hs : stopS s s1 true) :
    Calls Try.prog 46 #[.pointer (some ⟨r, 0, none⟩), .string nmL, .slice A n c] w fun e w' => e = .returned (.int .i64 7) ∧ RfP w' B r Z v s1 G ∧ Vol Z w w' := by
  have hbl0 : xs.length = n := by have := hr.1; simpa [bsV] using this
  have hpl : (packL xs).length = n + 2 := by rw [packL_len, hbl0]
  have hP := RefRecord_yes (c := c) hr hB' hn2
  have hle : ¬ 200 < (n : Int) := by omega
  have HPL := Lib.hid hpl
  have HX := Lib.hid (fun (w1 : World) (A1 : Option Addr) (c1 : Nat) (ho1 : w1.ownsRow w.heap.size 5 1 (.slice A1 (n + 2) c1) (n + 2) (bsV (packL xs))) (hb1 : Below w.heap.size w w1) => RApp_stop (p := nmL) (A := A1) (n := n + 2) (c := c1) (h.below hb1) hd nmL_ne (Nat.le_trans hG.len (by omega)) (by rw [hG.tot]; omega) hq (by rw [hG.tot]; exact hfit) hs (by omega))
  clear h hr hpl hbl0 hG hd hbl hq hN hB hfit hs
  go_enter Try.func46, Try.ntmps46
  go_wp2_with fail
  refine hP.mono ?_
  rintro e w1 ⟨v1, rfl, ho1, hb1⟩
  rw [HPL.out] at ho1
  obtain ⟨A1, c1, rfl, -, -⟩ := own_slice ho1
  have HO1 := Lib.hid ho1
  have HB1 := Lib.hid hb1
  clear hP ho1 hb1
  go_wp2_with fail
  refine (HX.out w1 A1 c1 HO1.out HB1.out).mono ?_
  rintro e w2 ⟨rfl, hR2, hV2⟩
  have HE := Lib.hid (And.intro hR2 hV2)
  clear hR2 hV2
  go_wp2_with fail
  go_ret
  exact ⟨rfl, HE.out.1, (Vol.of_below HB1.out).trans HE.out.2 fun b hb => .inl hb⟩
set_option maxHeartbeats 4000000 in
theorem RAdd_stop2 {A : Option Addr} {n c B' : Nat} {xs : List Int} (h : RfP w B r Z v s G) (hr : Reads w B' 1 A n (bsV xs)) (hB' : B' ≤ w.heap.size) (hn2 : n ≤ 200) {bs : List Int} {sy : Int} {fi : Bool} (hG : isLogR G bs sy fi) (hd : s.de = false) (hbl : bs.length ≤ 65536) (hq : 0 ≤ s.q ∧ s.q ≤ 65536) (hN : -1000 ≤ s.n ∧ s.n ≤ 1000) (hB : B ≤ w.heap.size) (hfit : ((n + 2 : Nat) : Int) ≤ s.q - (bs.length : Nat)) (hs : stopS s s1 false) (hd1 : s1.de = false) (hN1 : -1001 ≤ s1.n ∧ s1.n ≤ 1000) (hs2 : stopS s1 s2 true) :
    Calls Try.prog 46 #[.pointer (some ⟨r, 0, none⟩), .string nmL, .slice A n c] w fun e w' => e = .returned (.int .i64 7) ∧ ∃ Z' v' A' c', RfP w' B r Z' v' s2 [⟨nmL, A', c', bs ++ packL xs, sy, fi⟩] ∧ Vol Z w w' ∧ ∀ b, Z' b → Z b ∨ w.heap.size ≤ b := by
  have hbl0 : xs.length = n := by have := hr.1; simpa [bsV] using this
  have hpl : (packL xs).length = n + 2 := by rw [packL_len, hbl0]
  have hP := RefRecord_yes (c := c) hr hB' hn2
  have hle : ¬ 200 < (n : Int) := by omega
  have HPL := Lib.hid hpl
  have HX := Lib.hid (fun (w1 : World) (A1 : Option Addr) (c1 : Nat) (ho1 : w1.ownsRow w.heap.size 5 1 (.slice A1 (n + 2) c1) (n + 2) (bsV (packL xs))) (hb1 : Below w.heap.size w w1) => RLogApp (h.below hb1) hG hd hbl hq hfit hs (by omega) (c := c1) (own_reads ho1) (Nat.le_refl _) (fun ad e hz => by subst e; have e1 := (ho1.lt ad.block rfl).1; have e2 := h.lt _ hz; omega) (Nat.le_trans hB hb1.size))
  clear h hr hpl hbl0 hG hd hq hN hB hfit hs
  go_enter Try.func46, Try.ntmps46
  go_wp2_with fail
  refine hP.mono ?_
  rintro e w1 ⟨v1, rfl, ho1, hb1⟩
  rw [HPL.out] at ho1
  obtain ⟨A1, c1, rfl, -, -⟩ := own_slice ho1
  have HO1 := Lib.hid ho1
  have HB1 := Lib.hid hb1
  clear hP ho1 hb1
  go_wp2_with fail
  refine (HX.out w1 A1 c1 HO1.out HB1.out).mono ?_
  rintro e w2 ⟨rfl, Z2, v2, A2, c2, hR2, hV2, hz2⟩
  have HE := Lib.hid (And.intro hR2 (And.intro hV2 hz2))
  have HSy := Lib.hid (RSync_stop hR2 hd1 nmL_ne (j := 0) rfl rfl (fun i y hi hy => by omega) (by simp) (by omega) hs2)
  clear hR2 hV2 hz2 hs2 hd1 hN1
  go_wp2_with fail
  refine HSy.out.mono ?_
  rintro e w3 ⟨rfl, hR3, hV3⟩
  have HF := Lib.hid (And.intro hR3 hV3)
  clear hR3 hV3 HSy
  go_wp2_with fail
  go_ret
  obtain ⟨hR2, hV2, hz2⟩ := HE.out
  have hs1 := HB1.out.size
  exact ⟨rfl, Z2, v2, A2, c2, HF.out.1, ((Vol.of_below HB1.out).trans hV2 fun b hb => .inl hb).trans HF.out.2 fun b hb => by
    rcases hz2 b hb with h | h
    · exact .inl h
    · right; omega, fun b hb => by
    rcases hz2 b hb with h | h
    · exact .inl h
    · right; omega⟩
set_option maxHeartbeats 4000000 in
theorem RAdd_ok {A : Option Addr} {n c B' : Nat} {xs : List Int} (h : RfP w B r Z v s G) (hr : Reads w B' 1 A n (bsV xs)) (hB' : B' ≤ w.heap.size) (hn2 : n ≤ 200) {bs : List Int} {sy : Int} {fi : Bool} (hG : isLogR G bs sy fi) (hd : s.de = false) (hbl : bs.length ≤ 65536) (hq : 0 ≤ s.q ∧ s.q ≤ 65536) (hN : -1000 ≤ s.n ∧ s.n ≤ 1000) (hB : B ≤ w.heap.size) (hfit : ((n + 2 : Nat) : Int) ≤ s.q - (bs.length : Nat)) (hs : stopS s s1 false) (hd1 : s1.de = false) (hN1 : -1001 ≤ s1.n ∧ s1.n ≤ 1000) (hs2 : stopS s1 s2 false) :
    Calls Try.prog 46 #[.pointer (some ⟨r, 0, none⟩), .string nmL, .slice A n c] w fun e w' => e = .returned (.int .i64 0) ∧ ∃ Z' v' A' c', RfP w' B r Z' v' s2 [⟨nmL, A', c', bs ++ packL xs, (bs ++ packL xs).length, true⟩] ∧ Vol Z w w' ∧ ∀ b, Z' b → Z b ∨ w.heap.size ≤ b := by
  have hbl0 : xs.length = n := by have := hr.1; simpa [bsV] using this
  have hpl : (packL xs).length = n + 2 := by rw [packL_len, hbl0]
  have hP := RefRecord_yes (c := c) hr hB' hn2
  have hle : ¬ 200 < (n : Int) := by omega
  have HPL := Lib.hid hpl
  have HX := Lib.hid (fun (w1 : World) (A1 : Option Addr) (c1 : Nat) (ho1 : w1.ownsRow w.heap.size 5 1 (.slice A1 (n + 2) c1) (n + 2) (bsV (packL xs))) (hb1 : Below w.heap.size w w1) => RLogApp (h.below hb1) hG hd hbl hq hfit hs (by omega) (c := c1) (own_reads ho1) (Nat.le_refl _) (fun ad e hz => by subst e; have e1 := (ho1.lt ad.block rfl).1; have e2 := h.lt _ hz; omega) (Nat.le_trans hB hb1.size))
  clear h hr hpl hbl0 hG hd hq hN hB hfit hs
  go_enter Try.func46, Try.ntmps46
  go_wp2_with fail
  refine hP.mono ?_
  rintro e w1 ⟨v1, rfl, ho1, hb1⟩
  rw [HPL.out] at ho1
  obtain ⟨A1, c1, rfl, -, -⟩ := own_slice ho1
  have HO1 := Lib.hid ho1
  have HB1 := Lib.hid hb1
  clear hP ho1 hb1
  go_wp2_with fail
  refine (HX.out w1 A1 c1 HO1.out HB1.out).mono ?_
  rintro e w2 ⟨rfl, Z2, v2, A2, c2, hR2, hV2, hz2⟩
  have HE := Lib.hid (And.intro hR2 (And.intro hV2 hz2))
  have HSy := Lib.hid (RSync_ok hR2 hd1 nmL_ne (j := 0) rfl rfl (fun i y hi hy => by omega) (by simp) (by omega) hs2 (by simp only [List.length_append, packL_len]; have := HPL.out; rw [packL_len] at this; omega))
  clear hR2 hV2 hz2 hs2 hd1 hN1
  go_wp2_with fail
  refine HSy.out.mono ?_
  rintro e w3 ⟨rfl, hR3, hV3⟩
  have HF := Lib.hid (And.intro hR3 hV3)
  clear hR3 hV3 HSy
  go_wp2_with fail
  go_ret
  obtain ⟨hR2, hV2, hz2⟩ := HE.out
  have hs1 := HB1.out.size
  exact ⟨rfl, Z2, v2, A2, c2, HF.out.1, ((Vol.of_below HB1.out).trans hV2 fun b hb => .inl hb).trans HF.out.2 fun b hb => by
    rcases hz2 b hb with h | h
    · exact .inl h
    · right; omega, fun b hb => by
    rcases hz2 b hb with h | h
    · exact .inl h
    · right; omega⟩
end
end Go.Proofs.Ytplmfmcogbdpjaa.Dk
namespace Go.Proofs.Ytplmfmcogbdpjaa.Dk
open Go Go.RowKit Go.Proofs.Ytplmfmcogbdpjaa Go.Proofs.Ytplmfmcogbdpjaa.Crw Go.Proofs.Ytplmfmcogbdpjaa.Vl Go.ChangeShapes Go.WideShapes Go.ChangeAt
set_option linter.unusedVariables false
set_option maxRecDepth 100000
section
variable {w w' : World} {B d mb : Nat} {U V : Nat → Prop} {s s1 s2 : Ds} {F : List Fi}
set_option maxHeartbeats 4000000 in
theorem Add_dead {B' n c : Nat} {A : Option Addr} {xs : List Int} (H : DkP w B d mb V s F) (hr : Reads w B' 1 A n (bsV xs)) (hB : B' ≤ w.heap.size) (hn : n ≤ 200) (hde : s.de = true) :
    Calls Try.prog 40 #[.pointer (some ⟨d, 0, none⟩), .string nmL, .slice A n c] w fun r w' => r = .returned (.int .i64 7) ∧ Below w.heap.size w w' := by
  have hlen : xs.length = n := by have := hr.1; simpa [bsV] using this
  have hP := Pack_yes (c := c) hr hB hn
  have hle : ¬ 200 < (n : Int) := by omega
  have hpl : (packL xs).length = n + 2 := by rw [packL_len, hlen]
  have HAP := Lib.hid (fun (w1 : World) (A1 : Option Addr) (c1 : Nat) (hb1 : Below w.heap.size w w1) => Append_dead (p := nmL) (A := A1) (n := (packL xs).length) (c := c1) (H.below hb1) hde)
  clear H hr hpl hlen hde
  go_enter Try.func40, Try.ntmps40
  go_wp2_with fail
  refine hP.mono ?_
  rintro r w1 ⟨v1, rfl, ho1, hb1⟩
  obtain ⟨A1, c1, rfl, -, -⟩ := own_slice ho1
  have hAp := HAP.out w1 A1 c1 hb1
  have HBe := Lib.hid hb1
  clear hP ho1 HAP hb1
  go_wp2_with fail
  refine hAp.mono ?_
  rintro r w2 ⟨rfl, hb2⟩
  clear hAp
  go_wp2_with fail
  go_ret
  exact ⟨rfl, HBe.out.trans (hb2.mono HBe.out.size)⟩
set_option maxHeartbeats 4000000 in
theorem Add_full {B' n c : Nat} {A : Option Addr} {xs : List Int} (H : DkP w B d mb V s F) (hr : Reads w B' 1 A n (bsV xs)) (hB : B' ≤ w.heap.size) (hn : n ≤ 200) (hde : s.de = false) (hq : 0 ≤ s.q ∧ s.q ≤ 65536) (hu : 0 ≤ s.u ∧ s.u ≤ 65536) (hfull : s.q - s.u < ((n + 2 : Nat) : Int)) :
    Calls Try.prog 40 #[.pointer (some ⟨d, 0, none⟩), .string nmL, .slice A n c] w fun r w' => r = .returned (.int .i64 6) ∧ Below w.heap.size w w' := by
  have hlen : xs.length = n := by have := hr.1; simpa [bsV] using this
  have hP := Pack_yes (c := c) hr hB hn
  have hle : ¬ 200 < (n : Int) := by omega
  have hpl : (packL xs).length = n + 2 := by rw [packL_len, hlen]
  have HAP := Lib.hid (fun (w1 : World) (A1 : Option Addr) (c1 : Nat) (hb1 : Below w.heap.size w w1) => Append_full (p := nmL) (A := A1) (n := (packL xs).length) (c := c1) (H.below hb1) nmL_ne hde hq hu (by rw [hpl]; exact hfull))
  clear H hr hpl hlen hde hq hu hfull
  go_enter Try.func40, Try.ntmps40
  go_wp2_with fail
  refine hP.mono ?_
  rintro r w1 ⟨v1, rfl, ho1, hb1⟩
  obtain ⟨A1, c1, rfl, -, -⟩ := own_slice ho1
  have hAp := HAP.out w1 A1 c1 hb1
  have HBe := Lib.hid hb1
  clear hP ho1 HAP hb1
  go_wp2_with fail
  refine hAp.mono ?_
  rintro r w2 ⟨rfl, hb2⟩
  clear hAp
  go_wp2_with fail
  go_ret
  exact ⟨rfl, HBe.out.trans (hb2.mono HBe.out.size)⟩
set_option maxHeartbeats 4000000 in
theorem Add_arg {n c : Nat} {A : Option Addr} (hn : 200 < n) :
    Calls Try.prog 40 #[.pointer (some ⟨d, 0, none⟩), .string nmL, .slice A n c] w fun r w' => r = .returned (.int .i64 1) ∧ Below w.heap.size w w' := by
  have hle : 200 < (n : Int) := by omega
  go_enter Try.func40, Try.ntmps40
  go_wp2_with fail
  go_ret
  exact ⟨rfl, Below.refl _ _⟩
set_option maxHeartbeats 4000000 in
theorem RAdd_arg {n c r : Nat} {A : Option Addr} (hn : 200 < n) :
    Calls Try.prog 46 #[.pointer (some ⟨r, 0, none⟩), .string nmL, .slice A n c] w fun r w' => r = .returned (.int .i64 1) ∧ Below w.heap.size w w' := by
  have hle : 200 < (n : Int) := by omega
  go_enter Try.func46, Try.ntmps46
  go_wp2_with fail
  go_ret
  exact ⟨rfl, Below.refl _ _⟩
set_option maxHeartbeats 4000000 in
theorem Load_none (H : DkP w B d mb V s []) :
    Calls Try.prog 39 #[.pointer (some ⟨d, 0, none⟩), .string nmL] w fun r w' => ∃ v, r = .returned (.tuple #[v, .int .i64 0]) ∧ RwP w' w.heap.size v [] ∧ Below w.heap.size w w' := by
  have hRd := Read_no H (p := nmL) (fun k x hx => by simp at hx)
  have hSc : ∀ w1, _ := fun (w1 : World) => Scan_ (w := w1) (B' := 0) (n := 0) (c := 0) (A := none) (l := []) ⟨by simp, fun h => absurd h (by omega)⟩ (Nat.zero_le _) (by omega) (Nat.le_refl _) (by omega) (fun x hx => by simp at hx)
  clear H
  go_enter Try.func39, Try.ntmps39
  go_wp2_with fail
  refine hRd.mono ?_
  rintro r w1 ⟨rfl, hb1⟩
  have HB1 := Lib.hid hb1
  clear hRd hb1
  go_wp2_with fail
  refine (hSc w1).mono ?_
  rintro r w2 ⟨v, X, t, rfl, hl, hbad, hX, hrw, hb2⟩
  have hX0 : X = [] := (scan_uniq (Y := []) (t := []) hX (fun x hx => by simp at hx) hbad badL_nil (by rw [← hl]; rfl)).1
  subst hX0
  have HX := Lib.hid (And.intro hrw hb2)
  obtain ⟨Av, cv, rfl, -, -⟩ := hrw.shape
  rw [catL_nil]
  clear hl hbad hX hrw hb2
  go_wp2_with fail
  go_ret2
  obtain ⟨hrw, hb2⟩ := HX.out
  have hz1 := HB1.out.size
  obtain ⟨vs, h1, h2⟩ := hrw
  exact ⟨_, rfl, ⟨vs, own_lo h1 hz1, fun i x hx => by obtain ⟨vi, h3, h4⟩ := h2 i x hx; exact ⟨vi, h3, own_lo h4 hz1⟩⟩, HB1.out.trans (hb2.mono hz1)⟩
set_option maxHeartbeats 4000000 in
theorem Load_keep {g : Nat} {v : Value} {bs t : List Int} {X : List (List Int)} {sy : Int} {fi : Bool} (H : DkP w B d mb V s [⟨nmL, g, v, bs, sy, fi⟩]) (hbs : bs = catL X ++ t) (hbad : badL t) (hX : ∀ x ∈ X, x.length ≤ 200) (hbl : bs.length ≤ 65536) (hb : ∀ x ∈ bs, 0 ≤ x ∧ x ≤ 255) (ht : t = []) :
    Calls Try.prog 39 #[.pointer (some ⟨d, 0, none⟩), .string nmL] w fun r w' => ∃ v, r = .returned (.tuple #[v, .int .i64 0]) ∧ RwP w' w.heap.size v X ∧ Below w.heap.size w w' := by
  have hRd := Read_yes H (p := nmL) (j := 0) rfl rfl hbl
  have HSc := Lib.hid (fun (w1 : World) (A1 : Option Addr) (c1 : Nat) (ho : w1.ownsRow w.heap.size 5 1 (.slice A1 bs.length c1) bs.length (bsV bs)) (h1 : bs.length ≤ c1) (h2 : (c1 : Int) ≤ 9223372036854775807) => Scan_ (own_reads ho) (Nat.le_refl _) hbl h1 h2 hb)
  have hVlt := Lib.hid H.lt
  have HBS := Lib.hid (And.intro hbs (And.intro hbad hX))
  obtain ⟨n, hn⟩ : ∃ n, n = bs.length := ⟨_, rfl⟩
  have HN := Lib.hid hn
  simp only [← hn] at hRd
  clear H hb hbs hbad hX hbl hn 
  go_enter Try.func39, Try.ntmps39
  go_wp2_with fail
  refine hRd.mono ?_
  rintro r w1 ⟨v1, rfl, ho1, hb1⟩
  obtain ⟨A1, c1, rfl, hc1, hc2⟩ := own_slice ho1
  have hSc := HSc.out w1 A1 c1 (HN.out ▸ ho1) (HN.out ▸ hc1) (by unfold maxLen at hc2; omega)
  rw [← HN.out] at hSc
  have HB1 := Lib.hid hb1
  clear hRd hb1 ho1 HSc hc1 hc2
  go_wp2_with fail
  refine hSc.mono ?_
  rintro r w2 ⟨v2, X2, t2, rfl, hl2, hbad2, hX2, hrw2, hb2⟩
  obtain ⟨hXX, htt⟩ := scan_uniq HBS.out.2.2 hX2 HBS.out.2.1 hbad2 (by rw [← HBS.out.1]; exact hl2)
  subst hXX
  subst htt
  obtain ⟨m, hm⟩ : ∃ m, m = (catL X).length := ⟨_, rfl⟩
  rw [← hm]
  have hmn : m + t.length = n := by rw [HN.out, HBS.out.1, List.length_append, hm]
  have hz1 := HB1.out.size
  have hB12 : Below w.heap.size w w2 := HB1.out.trans (hb2.mono hz1)
  have hlo : RwP w2 w.heap.size v2 X := by
    obtain ⟨vs, h1, h2⟩ := hrw2
    exact ⟨vs, own_lo h1 hz1, fun i x hx => by obtain ⟨vi, h3, h4⟩ := h2 i x hx; exact ⟨vi, h3, own_lo h4 hz1⟩⟩
  obtain ⟨Av, cv, rfl, -, -⟩ := hrw2.shape
  have HM := Lib.hid hm
  have HX := Lib.hid (And.intro hlo hB12)
  clear hl2 hbad2 hX2 hrw2 hb2 hm hlo hB12 hSc
  have hlt : ¬ (m : Int) < (n : Int) := by rw [ht] at hmn; simp at hmn; omega
  clear hmn
  go_wp2_with fail
  go_ret2
  exact ⟨_, rfl, HX.out.1, HX.out.2⟩
set_option maxHeartbeats 4000000 in
theorem Load_dead {g : Nat} {v : Value} {bs t : List Int} {X : List (List Int)} {sy : Int} {fi : Bool} (H : DkP w B d mb V s [⟨nmL, g, v, bs, sy, fi⟩]) (hbs : bs = catL X ++ t) (hbad : badL t) (hX : ∀ x ∈ X, x.length ≤ 200) (hbl : bs.length ≤ 65536) (hb : ∀ x ∈ bs, 0 ≤ x ∧ x ≤ 255) (ht : t ≠ []) (hs : s.de = true) :
    Calls Try.prog 39 #[.pointer (some ⟨d, 0, none⟩), .string nmL] w fun r w' => r = .returned (.tuple #[.slice none 0 0, .int .i64 7]) ∧ Below w.heap.size w w' := by
  have hRd := Read_yes H (p := nmL) (j := 0) rfl rfl hbl
  have HSc := Lib.hid (fun (w1 : World) (A1 : Option Addr) (c1 : Nat) (ho : w1.ownsRow w.heap.size 5 1 (.slice A1 bs.length c1) bs.length (bsV bs)) (h1 : bs.length ≤ c1) (h2 : (c1 : Int) ≤ 9223372036854775807) => Scan_ (own_reads ho) (Nat.le_refl _) hbl h1 h2 hb)
  have hVlt := Lib.hid H.lt
  have HBS := Lib.hid (And.intro hbs (And.intro hbad hX))
  have HCut := Lib.hid (fun (w2 : World) (m : Nat) (hb2 : Below w.heap.size w w2) (hm : m ≤ bs.length) => Cut_dead (p := nmL) (n := (m : Int)) (H.below hb2) hs)
  obtain ⟨n, hn⟩ : ∃ n, n = bs.length := ⟨_, rfl⟩
  have HN := Lib.hid hn
  simp only [← hn] at hRd
  clear H hb hbs hbad hX hbl hn hs
  go_enter Try.func39, Try.ntmps39
  go_wp2_with fail
  refine hRd.mono ?_
  rintro r w1 ⟨v1, rfl, ho1, hb1⟩
  obtain ⟨A1, c1, rfl, hc1, hc2⟩ := own_slice ho1
  have hSc := HSc.out w1 A1 c1 (HN.out ▸ ho1) (HN.out ▸ hc1) (by unfold maxLen at hc2; omega)
  rw [← HN.out] at hSc
  have HB1 := Lib.hid hb1
  clear hRd hb1 ho1 HSc hc1 hc2
  go_wp2_with fail
  refine hSc.mono ?_
  rintro r w2 ⟨v2, X2, t2, rfl, hl2, hbad2, hX2, hrw2, hb2⟩
  obtain ⟨hXX, htt⟩ := scan_uniq HBS.out.2.2 hX2 HBS.out.2.1 hbad2 (by rw [← HBS.out.1]; exact hl2)
  subst hXX
  subst htt
  obtain ⟨m, hm⟩ : ∃ m, m = (catL X).length := ⟨_, rfl⟩
  rw [← hm]
  have hmn : m + t.length = n := by rw [HN.out, HBS.out.1, List.length_append, hm]
  have hz1 := HB1.out.size
  have hB12 : Below w.heap.size w w2 := HB1.out.trans (hb2.mono hz1)
  have hlo : RwP w2 w.heap.size v2 X := by
    obtain ⟨vs, h1, h2⟩ := hrw2
    exact ⟨vs, own_lo h1 hz1, fun i x hx => by obtain ⟨vi, h3, h4⟩ := h2 i x hx; exact ⟨vi, h3, own_lo h4 hz1⟩⟩
  obtain ⟨Av, cv, rfl, -, -⟩ := hrw2.shape
  have HM := Lib.hid hm
  have HX := Lib.hid (And.intro hlo hB12)
  clear hl2 hbad2 hX2 hrw2 hb2 hm hlo hB12 hSc
  have htl : 0 < t.length := List.length_pos_iff.2 ht
  have hlt : (m : Int) < (n : Int) := by omega
  have hmb : m ≤ bs.length := by rw [← HN.out]; omega
  have hC := HCut.out w2 m HX.out.2 hmb
  clear hmn HCut hmb
  go_wp2_with fail
  refine hC.mono ?_
  rintro r w3 ⟨rfl, hb3⟩
  clear hC
  go_wp2_with fail
  go_ret2
  exact ⟨rfl, HX.out.2.trans (hb3.mono HX.out.2.size)⟩
set_option maxHeartbeats 4000000 in
theorem Load_dies {g : Nat} {v : Value} {bs t : List Int} {X : List (List Int)} {sy : Int} {fi : Bool} (H : DkP w B d mb V s [⟨nmL, g, v, bs, sy, fi⟩]) (hbs : bs = catL X ++ t) (hbad : badL t) (hX : ∀ x ∈ X, x.length ≤ 200) (hbl : bs.length ≤ 65536) (hb : ∀ x ∈ bs, 0 ≤ x ∧ x ≤ 255) (ht : t ≠ []) (hs : s.de = false) (hbs2 : burnS s s2 7) (hu : 0 ≤ s.u ∧ s.u ≤ 65536) :
    Calls Try.prog 39 #[.pointer (some ⟨d, 0, none⟩), .string nmL] w fun r w' => r = .returned (.tuple #[.slice none 0 0, .int .i64 7]) ∧ DkP w' B d mb V s2 [⟨nmL, g, v, bs, sy, fi⟩] ∧ Vol V w w' := by
  have hRd := Read_yes H (p := nmL) (j := 0) rfl rfl hbl
  have HSc := Lib.hid (fun (w1 : World) (A1 : Option Addr) (c1 : Nat) (ho : w1.ownsRow w.heap.size 5 1 (.slice A1 bs.length c1) bs.length (bsV bs)) (h1 : bs.length ≤ c1) (h2 : (c1 : Int) ≤ 9223372036854775807) => Scan_ (own_reads ho) (Nat.le_refl _) hbl h1 h2 hb)
  have hVlt := Lib.hid H.lt
  have HBS := Lib.hid (And.intro hbs (And.intro hbad hX))
  have HCut := Lib.hid (fun (w2 : World) (m : Nat) (hb2 : Below w.heap.size w w2) (hm : m ≤ bs.length) => Cut_dies (H.below hb2) (p := nmL) (j := 0) (n := m) rfl rfl nmL_ne hs hbs2 hm hbl hu)
  obtain ⟨n, hn⟩ : ∃ n, n = bs.length := ⟨_, rfl⟩
  have HN := Lib.hid hn
  simp only [← hn] at hRd
  clear H hb hbs hbad hX hbl hn hs hbs2 hu
  go_enter Try.func39, Try.ntmps39
  go_wp2_with fail
  refine hRd.mono ?_
  rintro r w1 ⟨v1, rfl, ho1, hb1⟩
  obtain ⟨A1, c1, rfl, hc1, hc2⟩ := own_slice ho1
  have hSc := HSc.out w1 A1 c1 (HN.out ▸ ho1) (HN.out ▸ hc1) (by unfold maxLen at hc2; omega)
  rw [← HN.out] at hSc
  have HB1 := Lib.hid hb1
  clear hRd hb1 ho1 HSc hc1 hc2
  go_wp2_with fail
  refine hSc.mono ?_
  rintro r w2 ⟨v2, X2, t2, rfl, hl2, hbad2, hX2, hrw2, hb2⟩
  obtain ⟨hXX, htt⟩ := scan_uniq HBS.out.2.2 hX2 HBS.out.2.1 hbad2 (by rw [← HBS.out.1]; exact hl2)
  subst hXX
  subst htt
  obtain ⟨m, hm⟩ : ∃ m, m = (catL X).length := ⟨_, rfl⟩
  rw [← hm]
  have hmn : m + t.length = n := by rw [HN.out, HBS.out.1, List.length_append, hm]
  have hz1 := HB1.out.size
  have hB12 : Below w.heap.size w w2 := HB1.out.trans (hb2.mono hz1)
  have hlo : RwP w2 w.heap.size v2 X := by
    obtain ⟨vs, h1, h2⟩ := hrw2
    exact ⟨vs, own_lo h1 hz1, fun i x hx => by obtain ⟨vi, h3, h4⟩ := h2 i x hx; exact ⟨vi, h3, own_lo h4 hz1⟩⟩
  obtain ⟨Av, cv, rfl, -, -⟩ := hrw2.shape
  have HM := Lib.hid hm
  have HX := Lib.hid (And.intro hlo hB12)
  clear hl2 hbad2 hX2 hrw2 hb2 hm hlo hB12 hSc
  have htl : 0 < t.length := List.length_pos_iff.2 ht
  have hlt : (m : Int) < (n : Int) := by omega
  have hmb : m ≤ bs.length := by rw [← HN.out]; omega
  have hC := HCut.out w2 m HX.out.2 hmb
  clear hmn HCut hmb
  go_wp2_with fail
  refine hC.mono ?_
  rintro r w3 ⟨rfl, hD3, hV3⟩
  have HE := Lib.hid (And.intro hD3 hV3)
  clear hC hD3 hV3
  go_wp2_with fail
  go_ret2
  exact ⟨rfl, HE.out.1, (Vol.of_below HX.out.2).trans HE.out.2 fun b hb => .inl hb⟩
set_option maxHeartbeats 4000000 in
theorem Load_cut {g : Nat} {v : Value} {bs t : List Int} {X : List (List Int)} {sy : Int} {fi : Bool} (H : DkP w B d mb V s [⟨nmL, g, v, bs, sy, fi⟩]) (hbs : bs = catL X ++ t) (hbad : badL t) (hX : ∀ x ∈ X, x.length ≤ 200) (hbl : bs.length ≤ 65536) (hb : ∀ x ∈ bs, 0 ≤ x ∧ x ≤ 255) (ht : t ≠ []) (hs : s.de = false) (hbs2 : burnS s s2 0) (hu : s2.u = bs.length) :
    Calls Try.prog 39 #[.pointer (some ⟨d, 0, none⟩), .string nmL] w fun r w' => ∃ v', r = .returned (.tuple #[v', .int .i64 0]) ∧ RwP w' w.heap.size v' X ∧ (∃ v3, DkP w' B d mb V { s2 with u := ((catL X).length : Nat) } [⟨nmL, g, v3, catL X, ((catL X).length : Nat), true⟩]) ∧ Vol V w w' := by
  have hRd := Read_yes H (p := nmL) (j := 0) rfl rfl hbl
  have HSc := Lib.hid (fun (w1 : World) (A1 : Option Addr) (c1 : Nat) (ho : w1.ownsRow w.heap.size 5 1 (.slice A1 bs.length c1) bs.length (bsV bs)) (h1 : bs.length ≤ c1) (h2 : (c1 : Int) ≤ 9223372036854775807) => Scan_ (own_reads ho) (Nat.le_refl _) hbl h1 h2 hb)
  have hVlt := Lib.hid H.lt
  have HBS := Lib.hid (And.intro hbs (And.intro hbad hX))
  have HCut := Lib.hid (fun (w2 : World) (m : Nat) (hb2 : Below w.heap.size w w2) (hm : m ≤ bs.length) => Cut_F (H.below hb2) (p := nmL) (j := 0) (n := m) rfl rfl nmL_ne hs hbs2 hm hbl (by rw [hu]; omega))
  have HU := Lib.hid hu
  obtain ⟨n, hn⟩ : ∃ n, n = bs.length := ⟨_, rfl⟩
  have HN := Lib.hid hn
  simp only [← hn] at hRd
  clear H hb hbs hbad hX hbl hn hs hbs2 hu
  go_enter Try.func39, Try.ntmps39
  go_wp2_with fail
  refine hRd.mono ?_
  rintro r w1 ⟨v1, rfl, ho1, hb1⟩
  obtain ⟨A1, c1, rfl, hc1, hc2⟩ := own_slice ho1
  have hSc := HSc.out w1 A1 c1 (HN.out ▸ ho1) (HN.out ▸ hc1) (by unfold maxLen at hc2; omega)
  rw [← HN.out] at hSc
  have HB1 := Lib.hid hb1
  clear hRd hb1 ho1 HSc hc1 hc2
  go_wp2_with fail
  refine hSc.mono ?_
  rintro r w2 ⟨v2, X2, t2, rfl, hl2, hbad2, hX2, hrw2, hb2⟩
  obtain ⟨hXX, htt⟩ := scan_uniq HBS.out.2.2 hX2 HBS.out.2.1 hbad2 (by rw [← HBS.out.1]; exact hl2)
  subst hXX
  subst htt
  obtain ⟨m, hm⟩ : ∃ m, m = (catL X).length := ⟨_, rfl⟩
  rw [← hm]
  have hmn : m + t.length = n := by rw [HN.out, HBS.out.1, List.length_append, hm]
  have hz1 := HB1.out.size
  have hB12 : Below w.heap.size w w2 := HB1.out.trans (hb2.mono hz1)
  have hlo : RwP w2 w.heap.size v2 X := by
    obtain ⟨vs, h1, h2⟩ := hrw2
    exact ⟨vs, own_lo h1 hz1, fun i x hx => by obtain ⟨vi, h3, h4⟩ := h2 i x hx; exact ⟨vi, h3, own_lo h4 hz1⟩⟩
  obtain ⟨Av, cv, rfl, -, -⟩ := hrw2.shape
  have HM := Lib.hid hm
  have HX := Lib.hid (And.intro hlo hB12)
  clear hl2 hbad2 hX2 hrw2 hb2 hm hlo hB12 hSc
  have htl : 0 < t.length := List.length_pos_iff.2 ht
  have hlt : (m : Int) < (n : Int) := by omega
  have hmb : m ≤ bs.length := by rw [← HN.out]; omega
  have hC := HCut.out w2 m HX.out.2 hmb
  clear hmn HCut hmb
  go_wp2_with fail
  refine hC.mono ?_
  rintro r w3 ⟨rfl, v3, hD3, hV3⟩
  have HE := Lib.hid (And.intro hD3 hV3)
  clear hC hD3 hV3
  go_wp2_with fail
  go_ret2
  have hbs : catL X = bs.take m := by rw [HBS.out.1, HM.out, List.take_left]
  refine ⟨_, rfl, HX.out.1.vol HE.out.2 (fun b hb hv => by have := hVlt.out b hv; omega), ⟨v3, ?_⟩, (Vol.of_below HX.out.2).trans HE.out.2 fun b hb => .inl hb⟩
  have hD := HE.out.1
  have hu0 := HU.out
  obtain ⟨sq, su0, sf, sl, sd⟩ := s2
  simp only at hu0 hD
  subst hu0
  have e : (bs.length : Int) - ((bs.length : Int) - (m : Int)) = (m : Int) := by omega
  rw [e] at hD
  rw [← HM.out, hbs]
  exact hD
end
end Go.Proofs.Ytplmfmcogbdpjaa.Dk
namespace Go.Proofs.Ytplmfmcogbdpjaa.Dk
open Go Go.RowKit Go.Proofs.Ytplmfmcogbdpjaa Go.Proofs.Ytplmfmcogbdpjaa.Crw Go.Proofs.Ytplmfmcogbdpjaa.Vl Go.ChangeShapes Go.WideShapes Go.ChangeAt
set_option linter.unusedVariables false
set_option maxRecDepth 100000
section
variable {w w' : World} {B r : Nat} {U Z : Nat → Prop} {v : Value} {s s1 s2 : Ps} {G : List Pf}
set_option maxHeartbeats 4000000 in
theorem RLoad_none (H : RfP w B r Z v s []) :
    Calls Try.prog 47 #[.pointer (some ⟨r, 0, none⟩), .string nmL] w fun e w' => ∃ v, e = .returned (.tuple #[v, .int .i64 0]) ∧ RwP w' w.heap.size v [] ∧ Below w.heap.size w w' := by
  have hRd := RRead_no H (p := nmL) (fun i y hy => by simp at hy) (by simp)
  have hSc : ∀ w1, _ := fun (w1 : World) => RefScan_ (w := w1) (B' := 0) (n := 0) (c := 0) (A := none) (l := []) ⟨by simp, fun h => absurd h (by omega)⟩ (Nat.zero_le _) (by omega) (Nat.le_refl _) (by omega) (fun x hx => by simp at hx)
  clear H
  go_enter Try.func47, Try.ntmps47
  go_wp2_with fail
  refine hRd.mono ?_
  rintro r w1 ⟨rfl, hb1⟩
  have HB1 := Lib.hid hb1
  clear hRd hb1
  go_wp2_with fail
  refine (hSc w1).mono ?_
  rintro r w2 ⟨v, X, t, rfl, hl, hbad, hX, hrw, hb2⟩
  have hX0 : X = [] := (scan_uniq (Y := []) (t := []) hX (fun x hx => by simp at hx) hbad badL_nil (by rw [← hl]; rfl)).1
  subst hX0
  have HX := Lib.hid (And.intro hrw hb2)
  obtain ⟨Av, cv, rfl, -, -⟩ := hrw.shape
  rw [catL_nil]
  clear hl hbad hX hrw hb2
  go_wp2_with fail
  go_ret2
  obtain ⟨hrw, hb2⟩ := HX.out
  have hz1 := HB1.out.size
  obtain ⟨vs, h1, h2⟩ := hrw
  exact ⟨_, rfl, ⟨vs, own_lo h1 hz1, fun i x hx => by obtain ⟨vi, h3, h4⟩ := h2 i x hx; exact ⟨vi, h3, own_lo h4 hz1⟩⟩, HB1.out.trans (hb2.mono hz1)⟩
set_option maxHeartbeats 4000000 in
theorem RLoad_keep {A : Option Addr} {c : Nat} {bs t : List Int} {X : List (List Int)} {sy : Int} {fi : Bool} (H : RfP w B r Z v s [⟨nmL, A, c, bs, sy, fi⟩]) (hbs : bs = catL X ++ t) (hbad : badL t) (hX : ∀ x ∈ X, x.length ≤ 200) (hbl : bs.length ≤ 65536) (hb : ∀ x ∈ bs, 0 ≤ x ∧ x ≤ 255) (ht : t = []) :
    Calls Try.prog 47 #[.pointer (some ⟨r, 0, none⟩), .string nmL] w fun e w' => ∃ v, e = .returned (.tuple #[v, .int .i64 0]) ∧ RwP w' w.heap.size v X ∧ Below w.heap.size w w' := by
  have hRd := RRead_yes H (p := nmL) (j := 0) rfl rfl (fun i y hi hy => by omega) (by simp)
  have hby := H.byt 0 _ rfl
  have hcc : c ≤ maxLen := hby.2.1
  have HSc := Lib.hid (fun (w1 : World) (hb1 : Below w.heap.size w w1) => RefScan_ (w := w1) (c := c) (reads_belP hby.reads (Nat.le_refl _) hb1) hb1.size (show bs.length ≤ 2000000 by omega) hby.1 (by have := hcc; simp only [maxLen] at this; omega) hb)
  have hVlt := Lib.hid H.lt
  have HBS := Lib.hid (And.intro hbs (And.intro hbad hX))
  obtain ⟨n, hn⟩ : ∃ n, n = bs.length := ⟨_, rfl⟩
  have HN := Lib.hid hn
  simp only [Pf.v, ← hn] at hRd
  clear H hb hbs hbad hX hbl hn hby hcc 
  go_enter Try.func47, Try.ntmps47
  go_wp2_with fail
  refine hRd.mono ?_
  rintro r w1 ⟨rfl, hb1⟩
  have hSc := HSc.out w1 hb1
  simp only [← HN.out] at hSc
  have HB1 := Lib.hid hb1
  clear hRd hb1 HSc
  go_wp2_with fail
  refine hSc.mono ?_
  rintro r w2 ⟨v2, X2, t2, rfl, hl2, hbad2, hX2, hrw2, hb2⟩
  obtain ⟨hXX, htt⟩ := scan_uniq HBS.out.2.2 hX2 HBS.out.2.1 hbad2 (by rw [← HBS.out.1]; exact hl2)
  subst hXX
  subst htt
  obtain ⟨m, hm⟩ : ∃ m, m = (catL X).length := ⟨_, rfl⟩
  rw [← hm]
  have hmn : m + t.length = n := by rw [HN.out, HBS.out.1, List.length_append, hm]
  have hz1 := HB1.out.size
  have hB12 : Below w.heap.size w w2 := HB1.out.trans (hb2.mono hz1)
  have hlo : RwP w2 w.heap.size v2 X := by
    obtain ⟨vs, h1, h2⟩ := hrw2
    exact ⟨vs, own_lo h1 hz1, fun i x hx => by obtain ⟨vi, h3, h4⟩ := h2 i x hx; exact ⟨vi, h3, own_lo h4 hz1⟩⟩
  obtain ⟨Av, cv, rfl, -, -⟩ := hrw2.shape
  have HM := Lib.hid hm
  have HX := Lib.hid (And.intro hlo hB12)
  clear hl2 hbad2 hX2 hrw2 hb2 hm hlo hB12 hSc
  have hlt : ¬ (m : Int) < (n : Int) := by rw [ht] at hmn; simp at hmn; omega
  clear hmn
  go_wp2_with fail
  go_ret2
  exact ⟨_, rfl, HX.out.1, HX.out.2⟩
set_option maxHeartbeats 4000000 in
theorem RLoad_dead {A : Option Addr} {c : Nat} {bs t : List Int} {X : List (List Int)} {sy : Int} {fi : Bool} (H : RfP w B r Z v s [⟨nmL, A, c, bs, sy, fi⟩]) (hbs : bs = catL X ++ t) (hbad : badL t) (hX : ∀ x ∈ X, x.length ≤ 200) (hbl : bs.length ≤ 65536) (hb : ∀ x ∈ bs, 0 ≤ x ∧ x ≤ 255) (ht : t ≠ []) (hs : s.de = true) :
    Calls Try.prog 47 #[.pointer (some ⟨r, 0, none⟩), .string nmL] w fun e w' => e = .returned (.tuple #[.slice none 0 0, .int .i64 7]) ∧ Below w.heap.size w w' := by
  have hRd := RRead_yes H (p := nmL) (j := 0) rfl rfl (fun i y hi hy => by omega) (by simp)
  have hby := H.byt 0 _ rfl
  have hcc : c ≤ maxLen := hby.2.1
  have HSc := Lib.hid (fun (w1 : World) (hb1 : Below w.heap.size w w1) => RefScan_ (w := w1) (c := c) (reads_belP hby.reads (Nat.le_refl _) hb1) hb1.size (show bs.length ≤ 2000000 by omega) hby.1 (by have := hcc; simp only [maxLen] at this; omega) hb)
  have hVlt := Lib.hid H.lt
  have HBS := Lib.hid (And.intro hbs (And.intro hbad hX))
  have HCut := Lib.hid (fun (w2 : World) (m : Nat) (hb2 : Below w.heap.size w w2) (hm : m ≤ bs.length) => RCut_dead (p := nmL) (n := (m : Int)) (H.below hb2) hs)
  obtain ⟨n, hn⟩ : ∃ n, n = bs.length := ⟨_, rfl⟩
  have HN := Lib.hid hn
  simp only [Pf.v, ← hn] at hRd
  clear H hb hbs hbad hX hbl hn hby hcc hs
  go_enter Try.func47, Try.ntmps47
  go_wp2_with fail
  refine hRd.mono ?_
  rintro r w1 ⟨rfl, hb1⟩
  have hSc := HSc.out w1 hb1
  simp only [← HN.out] at hSc
  have HB1 := Lib.hid hb1
  clear hRd hb1 HSc
  go_wp2_with fail
  refine hSc.mono ?_
  rintro r w2 ⟨v2, X2, t2, rfl, hl2, hbad2, hX2, hrw2, hb2⟩
  obtain ⟨hXX, htt⟩ := scan_uniq HBS.out.2.2 hX2 HBS.out.2.1 hbad2 (by rw [← HBS.out.1]; exact hl2)
  subst hXX
  subst htt
  obtain ⟨m, hm⟩ : ∃ m, m = (catL X).length := ⟨_, rfl⟩
  rw [← hm]
  have hmn : m + t.length = n := by rw [HN.out, HBS.out.1, List.length_append, hm]
  have hz1 := HB1.out.size
  have hB12 : Below w.heap.size w w2 := HB1.out.trans (hb2.mono hz1)
  have hlo : RwP w2 w.heap.size v2 X := by
    obtain ⟨vs, h1, h2⟩ := hrw2
    exact ⟨vs, own_lo h1 hz1, fun i x hx => by obtain ⟨vi, h3, h4⟩ := h2 i x hx; exact ⟨vi, h3, own_lo h4 hz1⟩⟩
  obtain ⟨Av, cv, rfl, -, -⟩ := hrw2.shape
  have HM := Lib.hid hm
  have HX := Lib.hid (And.intro hlo hB12)
  clear hl2 hbad2 hX2 hrw2 hb2 hm hlo hB12 hSc
  have htl : 0 < t.length := List.length_pos_iff.2 ht
  have hlt : (m : Int) < (n : Int) := by omega
  have hmb : m ≤ bs.length := by rw [← HN.out]; omega
  have hC := HCut.out w2 m HX.out.2 hmb
  clear hmn HCut hmb
  go_wp2_with fail
  refine hC.mono ?_
  rintro r w3 ⟨rfl, hb3⟩
  clear hC
  go_wp2_with fail
  go_ret2
  exact ⟨rfl, HX.out.2.trans (hb3.mono HX.out.2.size)⟩
set_option maxHeartbeats 4000000 in
theorem RLoad_dies {A : Option Addr} {c : Nat} {bs t : List Int} {X : List (List Int)} {sy : Int} {fi : Bool} (H : RfP w B r Z v s [⟨nmL, A, c, bs, sy, fi⟩]) (hbs : bs = catL X ++ t) (hbad : badL t) (hX : ∀ x ∈ X, x.length ≤ 200) (hbl : bs.length ≤ 65536) (hb : ∀ x ∈ bs, 0 ≤ x ∧ x ≤ 255) (ht : t ≠ []) (hs : s.de = false) (hN : -1000 ≤ s.n ∧ s.n ≤ 1000) (hst : stopS s s2 true) :
    Calls Try.prog 47 #[.pointer (some ⟨r, 0, none⟩), .string nmL] w fun e w' => e = .returned (.tuple #[.slice none 0 0, .int .i64 7]) ∧ RfP w' B r Z v s2 [⟨nmL, A, c, bs, sy, fi⟩] ∧ Vol Z w w' := by
  have hRd := RRead_yes H (p := nmL) (j := 0) rfl rfl (fun i y hi hy => by omega) (by simp)
  have hby := H.byt 0 _ rfl
  have hcc : c ≤ maxLen := hby.2.1
  have HSc := Lib.hid (fun (w1 : World) (hb1 : Below w.heap.size w w1) => RefScan_ (w := w1) (c := c) (reads_belP hby.reads (Nat.le_refl _) hb1) hb1.size (show bs.length ≤ 2000000 by omega) hby.1 (by have := hcc; simp only [maxLen] at this; omega) hb)
  have hVlt := Lib.hid H.lt
  have HBS := Lib.hid (And.intro hbs (And.intro hbad hX))
  have HCut := Lib.hid (fun (w2 : World) (m : Nat) (hb2 : Below w.heap.size w w2) (hm : m ≤ bs.length) => RCut_stop (n := m) (H.below hb2) hs (p := nmL) nmL_ne (j := 0) rfl rfl (fun i y hi hy => by omega) (by simp) (by omega) hst hm (by simp only; omega))
  obtain ⟨n, hn⟩ : ∃ n, n = bs.length := ⟨_, rfl⟩
  have HN := Lib.hid hn
  simp only [Pf.v, ← hn] at hRd
  clear H hb hbs hbad hX hbl hn hby hcc hs hN hst
  go_enter Try.func47, Try.ntmps47
  go_wp2_with fail
  refine hRd.mono ?_
  rintro r w1 ⟨rfl, hb1⟩
  have hSc := HSc.out w1 hb1
  simp only [← HN.out] at hSc
  have HB1 := Lib.hid hb1
  clear hRd hb1 HSc
  go_wp2_with fail
  refine hSc.mono ?_
  rintro r w2 ⟨v2, X2, t2, rfl, hl2, hbad2, hX2, hrw2, hb2⟩
  obtain ⟨hXX, htt⟩ := scan_uniq HBS.out.2.2 hX2 HBS.out.2.1 hbad2 (by rw [← HBS.out.1]; exact hl2)
  subst hXX
  subst htt
  obtain ⟨m, hm⟩ : ∃ m, m = (catL X).length := ⟨_, rfl⟩
  rw [← hm]
  have hmn : m + t.length = n := by rw [HN.out, HBS.out.1, List.length_append, hm]
  have hz1 := HB1.out.size
  have hB12 : Below w.heap.size w w2 := HB1.out.trans (hb2.mono hz1)
  have hlo : RwP w2 w.heap.size v2 X := by
    obtain ⟨vs, h1, h2⟩ := hrw2
    exact ⟨vs, own_lo h1 hz1, fun i x hx => by obtain ⟨vi, h3, h4⟩ := h2 i x hx; exact ⟨vi, h3, own_lo h4 hz1⟩⟩
  obtain ⟨Av, cv, rfl, -, -⟩ := hrw2.shape
  have HM := Lib.hid hm
  have HX := Lib.hid (And.intro hlo hB12)
  clear hl2 hbad2 hX2 hrw2 hb2 hm hlo hB12 hSc
  have htl : 0 < t.length := List.length_pos_iff.2 ht
  have hlt : (m : Int) < (n : Int) := by omega
  have hmb : m ≤ bs.length := by rw [← HN.out]; omega
  have hC := HCut.out w2 m HX.out.2 hmb
  clear hmn HCut hmb
  go_wp2_with fail
  refine hC.mono ?_
  rintro r w3 ⟨rfl, hD3, hV3⟩
  have HE := Lib.hid (And.intro hD3 hV3)
  clear hC hD3 hV3
  go_wp2_with fail
  go_ret2
  exact ⟨rfl, HE.out.1, (Vol.of_below HX.out.2).trans HE.out.2 fun b hb => .inl hb⟩
set_option maxHeartbeats 4000000 in
theorem RLoad_cut {A : Option Addr} {c : Nat} {bs t : List Int} {X : List (List Int)} {sy : Int} {fi : Bool} (H : RfP w B r Z v s [⟨nmL, A, c, bs, sy, fi⟩]) (hbs : bs = catL X ++ t) (hbad : badL t) (hX : ∀ x ∈ X, x.length ≤ 200) (hbl : bs.length ≤ 65536) (hb : ∀ x ∈ bs, 0 ≤ x ∧ x ≤ 255) (ht : t ≠ []) (hs : s.de = false) (hN : -1000 ≤ s.n ∧ s.n ≤ 1000) (hst : stopS s s2 false) :
    Calls Try.prog 47 #[.pointer (some ⟨r, 0, none⟩), .string nmL] w fun e w' => ∃ v', e = .returned (.tuple #[v', .int .i64 0]) ∧ RwP w' w.heap.size v' X ∧ (∃ A' c', RfP w' B r Z v s2 [⟨nmL, A', c', catL X, ((catL X).length : Nat), true⟩]) ∧ Vol Z w w' := by
  have hRd := RRead_yes H (p := nmL) (j := 0) rfl rfl (fun i y hi hy => by omega) (by simp)
  have hby := H.byt 0 _ rfl
  have hcc : c ≤ maxLen := hby.2.1
  have HSc := Lib.hid (fun (w1 : World) (hb1 : Below w.heap.size w w1) => RefScan_ (w := w1) (c := c) (reads_belP hby.reads (Nat.le_refl _) hb1) hb1.size (show bs.length ≤ 2000000 by omega) hby.1 (by have := hcc; simp only [maxLen] at this; omega) hb)
  have hVlt := Lib.hid H.lt
  have HBS := Lib.hid (And.intro hbs (And.intro hbad hX))
  have HCut := Lib.hid (fun (w2 : World) (m : Nat) (hb2 : Below w.heap.size w w2) (hm : m ≤ bs.length) => RCut_ok (n := m) (H.below hb2) hs (p := nmL) nmL_ne (j := 0) rfl rfl (fun i y hi hy => by omega) (by simp) (by omega) hst hm (by simp only; omega))
  obtain ⟨n, hn⟩ : ∃ n, n = bs.length := ⟨_, rfl⟩
  have HN := Lib.hid hn
  simp only [Pf.v, ← hn] at hRd
  clear H hb hbs hbad hX hbl hn hby hcc hs hN hst
  go_enter Try.func47, Try.ntmps47
  go_wp2_with fail
  refine hRd.mono ?_
  rintro r w1 ⟨rfl, hb1⟩
  have hSc := HSc.out w1 hb1
  simp only [← HN.out] at hSc
  have HB1 := Lib.hid hb1
  clear hRd hb1 HSc
  go_wp2_with fail
  refine hSc.mono ?_
  rintro r w2 ⟨v2, X2, t2, rfl, hl2, hbad2, hX2, hrw2, hb2⟩
  obtain ⟨hXX, htt⟩ := scan_uniq HBS.out.2.2 hX2 HBS.out.2.1 hbad2 (by rw [← HBS.out.1]; exact hl2)
  subst hXX
  subst htt
  obtain ⟨m, hm⟩ : ∃ m, m = (catL X).length := ⟨_, rfl⟩
  rw [← hm]
  have hmn : m + t.length = n := by rw [HN.out, HBS.out.1, List.length_append, hm]
  have hz1 := HB1.out.size
  have hB12 : Below w.heap.size w w2 := HB1.out.trans (hb2.mono hz1)
  have hlo : RwP w2 w.heap.size v2 X := by
    obtain ⟨vs, h1, h2⟩ := hrw2
    exact ⟨vs, own_lo h1 hz1, fun i x hx => by obtain ⟨vi, h3, h4⟩ := h2 i x hx; exact ⟨vi, h3, own_lo h4 hz1⟩⟩
  obtain ⟨Av, cv, rfl, -, -⟩ := hrw2.shape
  have HM := Lib.hid hm
  have HX := Lib.hid (And.intro hlo hB12)
  clear hl2 hbad2 hX2 hrw2 hb2 hm hlo hB12 hSc
  have htl : 0 < t.length := List.length_pos_iff.2 ht
  have hlt : (m : Int) < (n : Int) := by omega
  have hmb : m ≤ bs.length := by rw [← HN.out]; omega
  have hC := HCut.out w2 m HX.out.2 hmb
  clear hmn HCut hmb
  go_wp2_with fail
  refine hC.mono ?_
  rintro r w3 ⟨rfl, ⟨y, hR3, y1, y2, y3, y4⟩, hV3⟩
  have HE := Lib.hid (And.intro hR3 hV3)
  clear hC hR3 hV3
  go_wp2_with fail
  go_ret2
  have hbs : catL X = bs.take m := by rw [HBS.out.1, HM.out, List.take_left]
  refine ⟨_, rfl, HX.out.1.vol HE.out.2 (fun b hb hv => by have := hVlt.out b hv; omega), ⟨y.A, y.c, ?_⟩, (Vol.of_below HX.out.2).trans HE.out.2 fun b hb => .inl hb⟩
  have hR := HE.out.1
  obtain ⟨yp, yA, yc, yb, ys, yf⟩ := y
  simp only at y1 y2 y3 y4
  subst y1 y2 y3 y4
  rw [← HM.out, hbs]
  exact hR
end
end Go.Proofs.Ytplmfmcogbdpjaa.Dk
namespace Go.Proofs.Ytplmfmcogbdpjaa.Dk
open Go Go.RowKit Go.Proofs.Ytplmfmcogbdpjaa Go.Proofs.Ytplmfmcogbdpjaa.Crw Go.Proofs.Ytplmfmcogbdpjaa.Vl Go.ChangeShapes Go.WideShapes Go.ChangeAt
set_option linter.unusedVariables false
set_option maxRecDepth 100000
theorem vol_bel {w w' : World} {V : Nat → Prop} {B : Nat} (hv : Vol V w w') (hV : ∀ b, V b → B ≤ b) (hB : B ≤ w.heap.size) : Below B w w' :=
  ⟨hv.os, hv.tape, hv.output, hv.size, fun b hb => hv.block b (by omega) (fun e => by have := hV b e; omega)⟩
/-- Both disks hold the same log, or none. -/
def Lg (F : List Fi) (G : List Pf) (u q : Int) : Prop :=
  ∃ (bs : List Int) (sy : Nat) (fi fi' : Bool), isLog F bs sy fi ∧ isLogR G bs (sy : Nat) fi' ∧ (F = [] ↔ G = []) ∧ (fi = fi' ∨ (fi' = true ∧ 0 < sy)) ∧ sy ≤ bs.length ∧ (∀ x ∈ bs, 0 ≤ x ∧ x ≤ 255) ∧ u = (bs.length : Nat) ∧ ((bs.length : Nat) : Int) ≤ q
structure TwP (w : World) (B d r mb : Nat) (V Z : Nat → Prop) (v : Value) (s : Ds) (sp : Ps) (F : List Fi) (G : List Pf) (k : Nat) : Prop where
  dk : DkP w B d mb V s F
  rf : RfP w B r Z v sp G
  dis : ∀ b, V b → ¬ Z b
  lk : Lk s sp k
  lg : Lg F G s.u s.q
/-- Both disks, with all that they own below lo. -/
def Tw (w : World) (B lo d r k : Nat) : Prop := ∃ mb V Z v s sp F G, TwP w B d r mb V Z v s sp F G k ∧ ∀ b, V b ∨ Z b → b < lo
theorem Lk.mono {s : Ds} {sp : Ps} {k k' : Nat} (h : Lk s sp k) (hk : k ≤ k') : Lk s sp k' := ⟨h.de, h.q, h.qb, h.fu, h.lf, by have := h.n; omega⟩
theorem Lk.setu {s : Ds} {sp : Ps} {k : Nat} (h : Lk s sp k) (u : Int) : Lk { s with u := u } sp k := ⟨h.de, h.q, h.qb, h.fu, h.lf, h.n⟩
section
variable {w w' w1 w2 : World} {B d r mb k k' lo lo' : Nat} {V V' Z Z' : Nat → Prop} {v v' : Value} {s s2 : Ds} {sp sp2 : Ps} {F F' : List Fi} {G G' : List Pf}
theorem TwP.below (h : TwP w B d r mb V Z v s sp F G k) (hb : Below w.heap.size w w') : TwP w' B d r mb V Z v s sp F G k := ⟨h.dk.below hb, h.rf.below hb, h.dis, h.lk, h.lg⟩
theorem Tw.below (h : Tw w B lo d r k) (hb : Below w.heap.size w w') : Tw w' B lo d r k := by
  obtain ⟨mb, V, Z, v, s, sp, F, G, h1, h2⟩ := h
  exact ⟨mb, V, Z, v, s, sp, F, G, h1.below hb, h2⟩
theorem Tw.mono (h : Tw w B lo d r k) (hk : k ≤ k') (hl : lo ≤ lo') : Tw w B lo' d r k' := by
  obtain ⟨mb, V, Z, v, s, sp, F, G, h1, h2⟩ := h
  exact ⟨mb, V, Z, v, s, sp, F, G, ⟨h1.dk, h1.rf, h1.dis, h1.lk.mono hk, h1.lg⟩, fun b hb => Nat.lt_of_lt_of_le (h2 b hb) hl⟩
/-- The first disk has turned, then the second one. -/
theorem tw_mk {s' : Ds} {sp' : Ps} (h : TwP w B d r mb V Z v s sp F G k) (hv : Vol V w w1) (h1 : DkP w1 B d mb V' s' F') (hV : ∀ b, V' b → V b ∨ w.heap.size ≤ b) (hz : Vol Z w1 w2) (h2 : RfP w2 B r Z' v' sp' G') (hZ : ∀ b, Z' b → Z b ∨ w1.heap.size ≤ b) (hk : Lk s' sp' k') (hl : Lg F' G' s'.u s'.q) : Tw w2 B w2.heap.size d r k' := by
  have hd : ∀ b, V' b → ¬ Z b := fun b hb hzb => by
    rcases hV b hb with e | e
    · exact h.dis b e hzb
    · have := h.rf.lt b hzb; omega
  refine ⟨mb, V', Z', v', s', sp', F', G', ⟨h1.vol hz hd, h2, fun b hb hzb => ?_, hk, hl⟩, fun b hb => ?_⟩
  · rcases hZ b hzb with e | e
    · exact hd b hb e
    · have := h1.lt b hb; omega
  · rcases hb with e | e
    · exact Nat.lt_of_lt_of_le (h1.lt b e) hz.size
    · exact h2.lt b e
/-- The second disk behind the first one's turn. -/
theorem TwP.rf1 (h : TwP w B d r mb V Z v s sp F G k) (hv : Vol V w w1) : RfP w1 B r Z v sp G := h.rf.vol hv (fun b hz hb => h.dis b hb hz)
theorem TwP.belV (h : TwP w B d r mb V Z v s sp F G k) (hB : B ≤ w.heap.size) (hv : Vol V w w1) : Below B w w1 := vol_bel hv h.dk.ge hB
theorem TwP.belZ (h : TwP w B d r mb V Z v s sp F G k) (hB : B ≤ w1.heap.size) (hv : Vol Z w1 w2) : Below B w1 w2 := vol_bel hv h.rf.ge hB
theorem lg_app {x : List Int} {sy : Nat} {fi fi' : Bool} {u q : Int} (h1 : isLog F' x sy fi) (h2 : ∃ A c, G' = [⟨nmL, A, c, x, (sy : Nat), fi'⟩]) (hx : F' ≠ []) (hf : fi = fi' ∨ (fi' = true ∧ 0 < sy)) (hs : sy ≤ x.length) (hb : ∀ y ∈ x, 0 ≤ y ∧ y ≤ 255) (hu : u = (x.length : Nat)) (hq : ((x.length : Nat) : Int) ≤ q) : Lg F' G' u q :=
  ⟨x, sy, fi, fi', h1, .inr h2, ⟨fun e => absurd e hx, fun e => by obtain ⟨A, c, e2⟩ := h2; rw [e2] at e; cases e⟩, hf, hs, hb, hu, hq⟩
theorem pack_bytes {xs : List Int} (hb : ∀ x ∈ xs, 0 ≤ x ∧ x ≤ 255) (hn : xs.length ≤ 200) : ∀ x ∈ packL xs, 0 ≤ x ∧ x ≤ 255 := by
  intro x hx
  unfold packL at hx
  simp only [List.mem_cons, List.mem_append, List.not_mem_nil, or_false] at hx
  rcases hx with e | e | e
  · rw [e]; omega
  · exact hb x e
  · rw [e]; omega
theorem isLog.ne {x : List Int} {sy : Nat} {fi : Bool} (h : isLog F x sy fi) (hx : x ≠ []) : F ≠ [] := by
  rcases h with ⟨-, e, -⟩ | ⟨g, v, e⟩
  · exact absurd e hx
  · rw [e]; simp
set_option maxHeartbeats 4000000 in
theorem TwAdd {A : Option Addr} {n c : Nat} {xs : List Int} (H : Tw w B lo d r k) (hk : k ≤ 100) (ho : w.ownsRow lo 5 1 (.slice A n c) n (bsV xs)) (hB : B ≤ w.heap.size) (hn : n ≤ 200) (hx : ∀ x ∈ xs, 0 ≤ x ∧ x ≤ 255) :
    Calls Try.prog 40 #[.pointer (some ⟨d, 0, none⟩), .string nmL, .slice A n c] w fun e w1 => ∃ t : Int, e = .returned (.int .i64 t) ∧ Below B w w1 ∧
      Calls Try.prog 46 #[.pointer (some ⟨r, 0, none⟩), .string nmL, .slice A n c] w1 fun e w2 => e = .returned (.int .i64 t) ∧ Below B w1 w2 ∧ Tw w2 B w2.heap.size d r (k + 2) := by
  obtain ⟨mb, V, Z, v, s, sp, F, G, h, hlt⟩ := H
  have hlen : xs.length = n := by have := ho.1; simpa [bsV] using this
  have hr := own_reads ho
  have hA : ∀ (U : Nat → Prop), (∀ b, U b → b < lo) → ∀ ad, A = some ad → ¬ U ad.block := fun U hU ad e hu => by
    subst e
    have e1 := (ho.lt ad.block rfl).1
    have e2 := hU _ hu
    omega
  have hAV := hA V (fun b hb => hlt b (.inl hb))
  have hAZ := hA Z (fun b hb => hlt b (.inr hb))
  obtain ⟨bs, sy, fi, fi', hF, hG, hFG, hfi, hsy, hbs, hu, hq⟩ := h.lg
  have hqb := h.lk.qb
  have hbl : bs.length ≤ 65536 := by omega
  have hub : 0 ≤ s.u ∧ s.u ≤ 65536 := by omega
  have hqq := h.lk.q
  have hqp : 0 ≤ sp.q ∧ sp.q ≤ 65536 := by rw [← hqq]; exact hqb
  have hN : -1000 ≤ sp.n ∧ sp.n ≤ 1000 := by have := h.lk.n; omega
  have hde := h.lk.de
  have hpl : (packL xs).length = n + 2 := by rw [packL_len, hlen]
  have hpb := pack_bytes hx (by omega)
  cases hd : s.de with
  | true =>
    refine (Add_dead (c := c) h.dk hr (Nat.le_refl _) hn hd).mono ?_
    rintro e w1 ⟨rfl, hb1⟩
    refine ⟨7, rfl, hb1.mono hB, ?_⟩
    have h1 := h.below hb1
    refine (RAdd_dead (c := c) h1.rf (reads_belR hr (Nat.le_refl _) hb1) hb1.size hn (by rw [← hde]; exact hd)).mono ?_
    rintro e w2 ⟨rfl, hb2⟩
    exact ⟨rfl, hb2.mono (Nat.le_trans hB hb1.size), tw_mk h1 (Vol.refl _) h1.dk (fun b e => .inl e) (Vol.of_below hb2) (h1.rf.below hb2) (fun b e => .inl e) (h.lk.mono (by omega)) h.lg⟩
  | false =>
    have hdp : sp.de = false := by rw [← hde]; exact hd
    rcases Int.lt_or_le (s.q - s.u) ((n + 2 : Nat) : Int) with hfull | hfit
    · refine (Add_full (c := c) h.dk hr (Nat.le_refl _) hn hd hqb hub hfull).mono ?_
      rintro e w1 ⟨rfl, hb1⟩
      refine ⟨6, rfl, hb1.mono hB, ?_⟩
      have h1 := h.below hb1
      refine (RAdd_full (c := c) h1.rf (reads_belR hr (Nat.le_refl _) hb1) hb1.size hn hG hdp hbl hqp hN (Nat.le_trans hB hb1.size) (by rw [← hqq, ← hu]; exact hfull)).mono ?_
      rintro e w2 ⟨rfl, hb2⟩
      exact ⟨rfl, hb2.mono (Nat.le_trans hB hb1.size), tw_mk h1 (Vol.refl _) h1.dk (fun b e => .inl e) (Vol.of_below hb2) (h1.rf.below hb2) (fun b e => .inl e) (h.lk.mono (by omega)) h.lg⟩
    · have hfp : ((n + 2 : Nat) : Int) ≤ sp.q - (bs.length : Nat) := by rw [← hqq, ← hu]; exact hfit
      rcases h.lk.step with ⟨s1, sp1, hs1, hp1, hk1, hu1, hd1⟩ | ⟨s1, sp1, hs1, hp1, hk1, hu1, hd1⟩
      · have hd1' : s1.de = false := by rw [hd1]; exact hd
        have hdp1 : sp1.de = false := by rw [← hk1.de]; exact hd1'
        have hN1 : -1001 ≤ sp1.n ∧ sp1.n ≤ 1000 := by have := hk1.n; omega
        have hs1q : s1.q = s.q := by
          rcases hs1 with ⟨-, e, -⟩ | ⟨-, m, -, -, e, -⟩ | ⟨-, -, e, -⟩ <;> rw [e]
        have hne : bs ++ packL xs ≠ [] := by simp [packL]
        have hbb : ∀ y ∈ bs ++ packL xs, 0 ≤ y ∧ y ≤ 255 := fun y hy => by
          rcases List.mem_append.1 hy with e | e
          · exact hbs y e
          · exact hpb y e
        have hll : ((bs ++ packL xs).length : Nat) = bs.length + (n + 2) := by rw [List.length_append, hpl]
        rcases (hk1.setu (s1.u + ((n + 2 : Nat) : Int))).step with ⟨s2, sp2, hs2, hp2, hk2, hu2, hd2⟩ | ⟨s2, sp2, hs2, hp2, hk2, hu2, hd2⟩
        · have hs2q : s2.q = s.q := by
            rcases hs2 with ⟨-, e, -⟩ | ⟨-, m, -, -, e, -⟩ | ⟨-, -, e, -⟩ <;> rw [e] <;> exact hs1q
          refine (Add_ok (c := c) h.dk hF hd hs1 hu1 hd1' hs2 hqb hub hbl hr (Nat.le_refl _) hn hfit).mono ?_
          rintro e w1 ⟨rfl, V', F', hD1, hF1, hv1, hV1⟩
          refine ⟨0, rfl, h.belV hB hv1, ?_⟩
          refine (RAdd_ok (c := c) (h.rf1 hv1) (reads_vol hr (Nat.le_refl _) hv1 hAV) hv1.size hn hG hdp hbl hqp hN (Nat.le_trans hB hv1.size) hfp hp1 hdp1 hN1 hp2).mono ?_
          rintro e w2 ⟨rfl, Z', v', A', c', hR2, hv2, hZ2⟩
          refine ⟨rfl, h.belZ (Nat.le_trans hB hv1.size) hv2, tw_mk h hv1 hD1 hV1 hv2 hR2 hZ2 hk2 (lg_app hF1 ⟨A', c', rfl⟩ (hF1.ne hne) (.inl rfl) (Nat.le_refl _) hbb (by rw [hu2]; simp only; rw [hu1, hu, hll]; omega) (by rw [hs2q, hll]; omega))⟩
        · have hs2q : s2.q = s.q := by
            rcases hs2 with ⟨-, e, -⟩ | ⟨-, m, -, -, e, -⟩ | ⟨-, -, e, -⟩ <;> rw [e] <;> exact hs1q
          refine (Add_die2 (c := c) h.dk hF hd hs1 hu1 hd1' hs2 hqb hub hbl hr (Nat.le_refl _) hn hfit).mono ?_
          rintro e w1 ⟨rfl, V', F', hD1, hF1, hv1, hV1⟩
          refine ⟨7, rfl, h.belV hB hv1, ?_⟩
          refine (RAdd_stop2 (c := c) (h.rf1 hv1) (reads_vol hr (Nat.le_refl _) hv1 hAV) hv1.size hn hG hdp hbl hqp hN (Nat.le_trans hB hv1.size) hfp hp1 hdp1 hN1 hp2).mono ?_
          rintro e w2 ⟨rfl, Z', v', A', c', hR2, hv2, hZ2⟩
          refine ⟨rfl, h.belZ (Nat.le_trans hB hv1.size) hv2, tw_mk h hv1 hD1 hV1 hv2 hR2 hZ2 hk2 (lg_app hF1 ⟨A', c', rfl⟩ (hF1.ne hne) hfi (by rw [hll]; omega) hbb (by rw [hu2]; simp only; rw [hu1, hu, hll]; omega) (by rw [hs2q, hll]; omega))⟩
      · have hs1q : s1.q = s.q := by
          rcases hs1 with ⟨-, e, -⟩ | ⟨-, m, -, -, e, -⟩ | ⟨-, -, e, -⟩ <;> rw [e]
        refine (Add_die1 (c := c) h.dk hd hs1 hqb hub hr (Nat.le_refl _) hn hfit).mono ?_
        rintro e w1 ⟨rfl, hD1, hv1⟩
        refine ⟨7, rfl, h.belV hB hv1, ?_⟩
        refine (RAdd_stop1 (c := c) (h.rf1 hv1) (reads_vol hr (Nat.le_refl _) hv1 hAV) hv1.size hn hG hdp hbl hqp hN (Nat.le_trans hB hv1.size) hfp hp1).mono ?_
        rintro e w2 ⟨rfl, hR2, hv2⟩
        exact ⟨rfl, h.belZ (Nat.le_trans hB hv1.size) hv2, tw_mk h hv1 hD1 (fun b e => .inl e) hv2 hR2 (fun b e => .inl e) (hk1.mono (by omega)) (by rw [hu1, hs1q]; exact h.lg)⟩
set_option maxHeartbeats 4000000 in
theorem TwApp {A : Option Addr} {n c : Nat} {xs : List Int} (H : Tw w B lo d r k) (hk : k ≤ 100) (ho : w.ownsRow lo 5 1 (.slice A n c) n (bsV xs)) (hB : B ≤ w.heap.size) (hn : n ≤ 200) (hx : ∀ x ∈ xs, 0 ≤ x ∧ x ≤ 255) :
    Calls Try.prog 16 #[.pointer (some ⟨d, 0, none⟩), .string nmL, .slice A n c] w fun e w1 => (∃ t : Int, e = .returned (.int .i64 t)) ∧ Below B w w1 ∧
      Calls Try.prog 49 #[.pointer (some ⟨r, 0, none⟩), .string nmL, .slice A n c] w1 fun e w2 => (∃ t : Int, e = .returned (.int .i64 t)) ∧ Below B w1 w2 ∧ Tw w2 B w2.heap.size d r (k + 1) := by
  obtain ⟨mb, V, Z, v, s, sp, F, G, h, hlt⟩ := H
  have hlen : xs.length = n := by have := ho.1; simpa [bsV] using this
  have hr := own_reads ho
  have hA : ∀ (U : Nat → Prop), (∀ b, U b → b < lo) → ∀ ad, A = some ad → ¬ U ad.block := fun U hU ad e hu => by
    subst e
    have e1 := (ho.lt ad.block rfl).1
    have e2 := hU _ hu
    omega
  have hAV := hA V (fun b hb => hlt b (.inl hb))
  have hAZ := hA Z (fun b hb => hlt b (.inr hb))
  obtain ⟨bs, sy, fi, fi', hF, hG, hFG, hfi, hsy, hbs, hu, hq⟩ := h.lg
  have hqb := h.lk.qb
  have hbl : bs.length ≤ 65536 := by omega
  have hub : 0 ≤ s.u ∧ s.u ≤ 65536 := by omega
  have hqq := h.lk.q
  have hqp : 0 ≤ sp.q ∧ sp.q ≤ 65536 := by rw [← hqq]; exact hqb
  have hN : -1000000 ≤ sp.n ∧ sp.n ≤ 1000000 := by have := h.lk.n; omega
  have hde := h.lk.de
  have hGl : G.length ≤ 1000 := Nat.le_trans hG.len (by omega)
  have hGt : totP G ≤ 1000000 := by rw [hG.tot]; omega
  cases hd : s.de with
  | true =>
    refine (Append_dead (p := nmL) (A := A) (n := n) (c := c) h.dk hd).mono ?_
    rintro e w1 ⟨rfl, hb1⟩
    refine ⟨⟨7, rfl⟩, hb1.mono hB, ?_⟩
    have h1 := h.below hb1
    refine (RApp_dead (p := nmL) (A := A) (n := n) (c := c) h1.rf (by rw [← hde]; exact hd)).mono ?_
    rintro e w2 ⟨rfl, hb2⟩
    exact ⟨⟨7, rfl⟩, hb2.mono (Nat.le_trans hB hb1.size), tw_mk h1 (Vol.refl _) h1.dk (fun b e => .inl e) (Vol.of_below hb2) (h1.rf.below hb2) (fun b e => .inl e) (h.lk.mono (by omega)) h.lg⟩
  | false =>
    have hdp : sp.de = false := by rw [← hde]; exact hd
    rcases Int.lt_or_le (s.q - s.u) (n : Int) with hfull | hfit
    · refine (Append_full (A := A) (n := n) (c := c) h.dk nmL_ne hd hqb hub hfull).mono ?_
      rintro e w1 ⟨rfl, hb1⟩
      refine ⟨⟨6, rfl⟩, hb1.mono hB, ?_⟩
      have h1 := h.below hb1
      refine (RApp_full (A := A) (n := n) (c := c) h1.rf hdp nmL_ne hGl hGt hqp (by rw [hG.tot, ← hqq, ← hu]; exact hfull)).mono ?_
      rintro e w2 ⟨rfl, hb2⟩
      exact ⟨⟨6, rfl⟩, hb2.mono (Nat.le_trans hB hb1.size), tw_mk h1 (Vol.refl _) h1.dk (fun b e => .inl e) (Vol.of_below hb2) (h1.rf.below hb2) (fun b e => .inl e) (h.lk.mono (by omega)) h.lg⟩
    · have hfp : (n : Int) ≤ sp.q - (bs.length : Nat) := by rw [← hqq, ← hu]; exact hfit
      rcases h.lk.step with ⟨s1, sp1, hs1, hp1, hk1, hu1, hd1⟩ | ⟨s1, sp1, hs1, hp1, hk1, hu1, hd1⟩
      · have hs1q : s1.q = s.q := by
          rcases hs1 with ⟨-, e, -⟩ | ⟨-, m, -, -, e, -⟩ | ⟨-, -, e, -⟩ <;> rw [e]
        have hbb : ∀ y ∈ bs ++ xs, 0 ≤ y ∧ y ≤ 255 := fun y hy => by
          rcases List.mem_append.1 hy with e | e
          · exact hbs y e
          · exact hx y e
        have hll : ((bs ++ xs).length : Nat) = bs.length + n := by rw [List.length_append, hlen]
        refine (LogApp (c := c) h.dk hF hd hs1 hu1 hqb hub hbl hr (Nat.le_refl _) hAV hfit).mono ?_
        rintro e w1 ⟨rfl, V', F', hD1, hF1, ⟨g1, v1, rfl⟩, hv1, hV1⟩
        refine ⟨⟨0, rfl⟩, h.belV hB hv1, ?_⟩
        refine (RLogApp (c := c) (h.rf1 hv1) hG hdp hbl hqp hfp hp1 hN (reads_vol hr (Nat.le_refl _) hv1 hAV) hv1.size hAZ (Nat.le_trans hB hv1.size)).mono ?_
        rintro e w2 ⟨rfl, Z', v', A', c', hR2, hv2, hZ2⟩
        refine ⟨⟨0, rfl⟩, h.belZ (Nat.le_trans hB hv1.size) hv2, tw_mk h hv1 hD1 hV1 hv2 hR2 hZ2 (hk1.setu _) (lg_app hF1 ⟨A', c', rfl⟩ (by simp) hfi (by rw [hll]; omega) hbb (by simp only; rw [hu1, hu, hll]; omega) (by simp only; rw [hs1q, hll]; omega))⟩
      · have hs1q : s1.q = s.q := by
          rcases hs1 with ⟨-, e, -⟩ | ⟨-, m, -, -, e, -⟩ | ⟨-, -, e, -⟩ <;> rw [e]
        refine (Append_dies (A := A) (n := n) (c := c) h.dk nmL_ne hd hs1 hqb hub hfit).mono ?_
        rintro e w1 ⟨rfl, hD1, hv1⟩
        refine ⟨⟨7, rfl⟩, h.belV hB hv1, ?_⟩
        refine (RApp_stop (A := A) (n := n) (c := c) (h.rf1 hv1) hdp nmL_ne hGl hGt hqp (by rw [hG.tot]; exact hfp) hp1 hN).mono ?_
        rintro e w2 ⟨rfl, hR2, hv2⟩
        exact ⟨⟨7, rfl⟩, h.belZ (Nat.le_trans hB hv1.size) hv2, tw_mk h hv1 hD1 (fun b e => .inl e) hv2 hR2 (fun b e => .inl e) hk1 (by rw [hu1, hs1q]; exact h.lg)⟩
end
end Go.Proofs.Ytplmfmcogbdpjaa.Dk
namespace Go.Proofs.Ytplmfmcogbdpjaa.Dk
open Go Go.RowKit Go.Proofs.Ytplmfmcogbdpjaa Go.Proofs.Ytplmfmcogbdpjaa.Crw Go.Proofs.Ytplmfmcogbdpjaa.Vl Go.ChangeShapes Go.WideShapes Go.ChangeAt
set_option linter.unusedVariables false
set_option maxRecDepth 100000
/-- Any bytes are records, and a rest that begins with none. -/
theorem cat_ex : ∀ (m : Nat) (l : List Int), l.length ≤ m → ∃ X t, l = catL X ++ t ∧ badL t ∧ (∀ x ∈ X, x.length ≤ 200) ∧ X.length ≤ l.length
  | 0, l, hl => by
    have : l = [] := List.length_eq_zero_iff.1 (by omega)
    subst this
    exact ⟨[], [], rfl, badL_nil, fun x hx => by simp at hx, Nat.le_refl _⟩
  | m + 1, l, hl => by
    by_cases h : ∃ x t, x.length ≤ 200 ∧ l = packL x ++ t
    · obtain ⟨x, t, hx, rfl⟩ := h
      have hp := packL_len x
      rw [List.length_append] at hl
      obtain ⟨X, t', e, hb, hX, hXl⟩ := cat_ex m t (by omega)
      refine ⟨x :: X, t', ?_, hb, fun y hy => ?_, ?_⟩
      · rw [catL_cons, List.append_assoc, ← e]
      · rcases List.mem_cons.1 hy with rfl | hy
        · exact hx
        · exact hX y hy
      · rw [List.length_append, List.length_cons]; omega
    · refine ⟨[], l, rfl, fun x t hx e => h ⟨x, t, hx, e⟩, fun x hx => by simp at hx, Nat.zero_le _⟩
section
variable {w w' w1 w2 : World} {B d r mb k k' lo lo' : Nat} {V V' Z Z' : Nat → Prop} {v v' : Value} {s s2 : Ds} {sp sp2 : Ps} {F F' : List Fi} {G G' : List Pf}
set_option maxHeartbeats 4000000 in
theorem New_g (a m q : Int) (h1 : max a 0 = m) (h2 : min m 65536 = q) (w : World) :
    Calls Try.prog 14 #[.int .i64 a] w fun r w' => ∃ d mb V, r = .returned (.pointer (some ⟨d, 0, none⟩)) ∧ DkP w' w.heap.size d mb V ⟨q, 0, false, 0, false⟩ [] ∧ Below w.heap.size w w' := by
  have hmk : ∀ w1, (Instr.makeMap 78 none).run Try.prog w1 = .ok (.map (some w1.heap.size)) (w1.alloc (.map #[] 0)) := fun w1 => run_makeMap_plain w1 _
  go_enter Try.func14, Try.ntmps14
  go_wp2_with fail
  go_ret
  have hb1 : Below w.heap.size w (w.alloc (.map #[] 0)) := (Below.refl _ _).alloc (Nat.le_refl _) _
  have hs1 : (w.alloc (.map #[] 0)).heap.size = w.heap.size + 1 := by simp
  have hb2 : ∀ o, Below w.heap.size w ((w.alloc (.map #[] 0)).alloc o) := fun o => hb1.alloc (by rw [hs1]; omega) _
  have hb3 : ∀ o, Below (w.alloc (.map #[] 0)).heap.size (w.alloc (.map #[] 0)) ((w.alloc (.map #[] 0)).alloc o) := fun o => (Below.refl _ _).alloc (Nat.le_refl _) _
  have hs2 : ∀ o, ((w.alloc (.map #[] 0)).alloc o).heap.size = w.heap.size + 2 := fun o => by simp
  refine ⟨(w.alloc (.map #[] 0)).heap.size, w.heap.size, fun b => b = w.heap.size ∨ b = w.heap.size + 1, by rw [hs1]; rfl, ⟨Blk.new _ _ _, ?_, ?_, ?_, ?_, ?_, ?_, ⟨.inr hs1, .inl rfl⟩, ?_, ?_, ?_⟩, hb2 _⟩
  · exact (MapB.made w).keep ((hb3 _).block _ (by rw [hs1]; omega))
  · intro k x hx; cases hx
  · intro k x hx; cases hx
  · intro j k x y hx; cases hx
  · intro j k x y hx; cases hx
  · intro j k x y hx; cases hx
  · intro k x hx; cases hx
  · intro b hb
    rw [hs2]
    omega
  · intro b hb
    omega
set_option maxHeartbeats 4000000 in
theorem TwLoad (H : Tw w B lo d r k) (hk : k ≤ 100) (hB : B ≤ w.heap.size) :
    Calls Try.prog 39 #[.pointer (some ⟨d, 0, none⟩), .string nmL] w fun e w1 => ∃ (v1 : Value) (t : Int) (X : List (List Int)), e = .returned (.tuple #[v1, .int .i64 t]) ∧ X.length ≤ 65536 ∧ (∀ x ∈ X, x.length ≤ 65536) ∧ Below B w w1 ∧
      Calls Try.prog 47 #[.pointer (some ⟨r, 0, none⟩), .string nmL] w1 fun e w2 => ∃ v2, e = .returned (.tuple #[v2, .int .i64 t]) ∧ RdP w2 w2.heap.size v1 X ∧ RdP w2 w2.heap.size v2 X ∧ Below B w1 w2 ∧ Tw w2 B w2.heap.size d r (k + 1) := by
  obtain ⟨mb, V, Z, v, s, sp, F, G, h, hlt⟩ := H
  obtain ⟨bs, sy, fi, fi', hF, hG, hFG, hfi, hsy, hbs, hu, hq⟩ := h.lg
  have hqb := h.lk.qb
  have hbl : bs.length ≤ 65536 := by omega
  have hub : 0 ≤ s.u ∧ s.u ≤ 65536 := by omega
  have hqq := h.lk.q
  have hN : -1000 ≤ sp.n ∧ sp.n ≤ 1000 := by have := h.lk.n; omega
  have hde := h.lk.de
  have hZw : ∀ b, w.heap.size ≤ b → ¬ Z b := fun b hb hz => by have := h.rf.lt b hz; omega
  rcases hF with ⟨hF0, hbs0, hsy0, hfi0⟩ | ⟨g, v0, hF1⟩
  · have hG0 := hFG.1 hF0
    subst hF0 hG0
    refine (Load_none h.dk).mono ?_
    rintro e w1 ⟨v1, rfl, hw1, hb1⟩
    refine ⟨v1, 0, [], rfl, by simp, fun x hx => by simp at hx, hb1.mono hB, ?_⟩
    have h1 := h.below hb1
    refine (RLoad_none h1.rf).mono ?_
    rintro e w2 ⟨v2, rfl, hw2, hb2⟩
    exact ⟨v2, rfl, (hw1.keep hb2).rd, hw2.rd, hb2.mono (Nat.le_trans hB hb1.size), tw_mk h1 (Vol.refl _) h1.dk (fun b e => .inl e) (Vol.of_below hb2) (h1.rf.below hb2) (fun b e => .inl e) (h.lk.mono (by omega)) h.lg⟩
  · obtain ⟨A0, c0, hG1⟩ : ∃ A c, G = [⟨nmL, A, c, bs, (sy : Nat), fi'⟩] := by
      rcases hG with ⟨e, -⟩ | e
      · exact absurd (hFG.2 e) (by rw [hF1]; simp)
      · exact e
    subst hF1 hG1
    obtain ⟨X, t, hbX, hbad, hX, hXl⟩ := cat_ex bs.length bs (Nat.le_refl _)
    have hXs : ∀ x ∈ X, x.length ≤ 65536 := fun x hx => Nat.le_trans (hX x hx) (by omega)
    by_cases ht : t = []
    · refine (Load_keep h.dk hbX hbad hX hbl hbs ht).mono ?_
      rintro e w1 ⟨v1, rfl, hw1, hb1⟩
      refine ⟨v1, 0, X, rfl, by omega, hXs, hb1.mono hB, ?_⟩
      have h1 := h.below hb1
      refine (RLoad_keep h1.rf hbX hbad hX hbl hbs ht).mono ?_
      rintro e w2 ⟨v2, rfl, hw2, hb2⟩
      exact ⟨v2, rfl, (hw1.keep hb2).rd, hw2.rd, hb2.mono (Nat.le_trans hB hb1.size), tw_mk h1 (Vol.refl _) h1.dk (fun b e => .inl e) (Vol.of_below hb2) (h1.rf.below hb2) (fun b e => .inl e) (h.lk.mono (by omega)) h.lg⟩
    · cases hd : s.de with
      | true =>
        refine (Load_dead h.dk hbX hbad hX hbl hbs ht hd).mono ?_
        rintro e w1 ⟨rfl, hb1⟩
        refine ⟨_, 7, [], rfl, by simp, fun x hx => by simp at hx, hb1.mono hB, ?_⟩
        have h1 := h.below hb1
        refine (RLoad_dead h1.rf hbX hbad hX hbl hbs ht (by rw [← hde]; exact hd)).mono ?_
        rintro e w2 ⟨rfl, hb2⟩
        exact ⟨_, rfl, (RwP.nil w2.heap.size).rd, (RwP.nil w2.heap.size).rd, hb2.mono (Nat.le_trans hB hb1.size), tw_mk h1 (Vol.refl _) h1.dk (fun b e => .inl e) (Vol.of_below hb2) (h1.rf.below hb2) (fun b e => .inl e) (h.lk.mono (by omega)) h.lg⟩
      | false =>
        have hdp : sp.de = false := by rw [← hde]; exact hd
        rcases h.lk.step with ⟨s1, sp1, hs1, hp1, hk1, hu1, hd1⟩ | ⟨s1, sp1, hs1, hp1, hk1, hu1, hd1⟩
        · have hs1q : s1.q = s.q := by
            rcases hs1 with ⟨-, e, -⟩ | ⟨-, m, -, -, e, -⟩ | ⟨-, -, e, -⟩ <;> rw [e]
          refine (Load_cut h.dk hbX hbad hX hbl hbs ht hd hs1 (by rw [hu1, hu])).mono ?_
          rintro e w1 ⟨v1, rfl, hw1, ⟨v3, hD1⟩, hv1⟩
          refine ⟨v1, 0, X, rfl, by omega, hXs, h.belV hB hv1, ?_⟩
          refine (RLoad_cut (h.rf1 hv1) hbX hbad hX hbl hbs ht hdp hN hp1).mono ?_
          rintro e w2 ⟨v2, rfl, hw2, ⟨A', c', hR2⟩, hv2⟩
          have hcl : (catL X).length ≤ bs.length := by rw [hbX, List.length_append]; omega
          have hlg : Lg [⟨nmL, g, v3, catL X, ((catL X).length : Nat), true⟩] [⟨nmL, A', c', catL X, ((catL X).length : Nat), true⟩] ((catL X).length : Nat) s1.q :=
            ⟨catL X, (catL X).length, true, true, .inr ⟨g, v3, rfl⟩, .inr ⟨A', c', rfl⟩, by simp, .inl rfl, Nat.le_refl _, fun x hx => hbs x (by rw [hbX]; exact List.mem_append_left _ hx), rfl, by rw [hs1q]; omega⟩
          exact ⟨v2, rfl, (hw1.vol hv2 hZw).rd, hw2.rd, h.belZ (Nat.le_trans hB hv1.size) hv2, tw_mk h hv1 hD1 (fun b e => .inl e) hv2 hR2 (fun b e => .inl e) (hk1.setu _) hlg⟩
        · have hs1q : s1.q = s.q := by
            rcases hs1 with ⟨-, e, -⟩ | ⟨-, m, -, -, e, -⟩ | ⟨-, -, e, -⟩ <;> rw [e]
          refine (Load_dies h.dk hbX hbad hX hbl hbs ht hd hs1 hub).mono ?_
          rintro e w1 ⟨rfl, hD1, hv1⟩
          refine ⟨_, 7, [], rfl, by simp, fun x hx => by simp at hx, h.belV hB hv1, ?_⟩
          refine (RLoad_dies (h.rf1 hv1) hbX hbad hX hbl hbs ht hdp hN hp1).mono ?_
          rintro e w2 ⟨rfl, hR2, hv2⟩
          exact ⟨_, rfl, (RwP.nil w2.heap.size).rd, (RwP.nil w2.heap.size).rd, h.belZ (Nat.le_trans hB hv1.size) hv2, tw_mk h hv1 hD1 (fun b e => .inl e) hv2 hR2 (fun b e => .inl e) hk1 (by rw [hu1, hs1q]; exact h.lg)⟩
theorem TwFuse (H : Tw w B lo d r k) (hB : B ≤ w.heap.size) (a : Int) (n : Nat) (ha : max a 0 = (n : Int)) (hn : n ≤ 1000) :
    Calls Try.prog 41 #[.pointer (some ⟨d, 0, none⟩), .int .i64 a] w fun e w1 => (∃ u, e = .returned u) ∧ Below B w w1 ∧ Vol (fun b => B ≤ b ∧ b < lo) w w1 ∧
      Calls Try.prog 48 #[.pointer (some ⟨r, 0, none⟩), .int .i64 a] w1 fun e w2 => (∃ u, e = .returned u) ∧ Below B w1 w2 ∧ Tw w2 B w2.heap.size d r k := by
  obtain ⟨mb, V, Z, v, s, sp, F, G, h, hlt⟩ := H
  refine (Fuse_g h.dk a n ha).mono ?_
  rintro e w1 ⟨⟨u, rfl⟩, hD1, hv1⟩
  refine ⟨⟨u, rfl⟩, h.belV hB hv1, hv1.mono (fun b hb => ⟨h.dk.ge b hb, hlt b (.inl hb)⟩), ?_⟩
  refine (RFuse (h.rf1 hv1) a n ha).mono ?_
  rintro e w2 ⟨⟨u, rfl⟩, hR2, hv2⟩
  exact ⟨⟨u, rfl⟩, h.belZ (Nat.le_trans hB hv1.size) hv2, tw_mk h hv1 hD1 (fun b e => .inl e) hv2 hR2 (fun b e => .inl e) ⟨h.lk.de, h.lk.q, h.lk.qb, rfl, fun _ => ⟨rfl, by simp only; omega, by simp only; omega⟩, by simp only; omega⟩ h.lg⟩
set_option maxHeartbeats 4000000 in
theorem TwCrash (H : Tw w B lo d r k) (hB : B ≤ w.heap.size) (a : Int) (n : Nat) (ha : max a 0 = (n : Int)) (hn : n ≤ 1000) :
    Calls Try.prog 27 #[.pointer (some ⟨d, 0, none⟩), .int .i64 a] w fun e w1 => (∃ u, e = .returned u) ∧ Below B w w1 ∧ Vol (fun b => B ≤ b ∧ b < lo) w w1 ∧
      Calls Try.prog 50 #[.pointer (some ⟨r, 0, none⟩), .int .i64 a] w1 fun e w2 => (∃ u, e = .returned u) ∧ Below B w1 w2 ∧ Tw w2 B w2.heap.size d r k := by
  obtain ⟨mb, V, Z, v, s, sp, F, G, h, hlt⟩ := H
  obtain ⟨bs, sy, fi, fi', hF, hG, hFG, hfi, hsy, hbs, hu, hq⟩ := h.lg
  have hqb := h.lk.qb
  have hbl : bs.length ≤ 65536 := by omega
  have hlk : ∀ u : Int, Lk { s with u := u, fu := false, de := false } { sp with de := false, ar := false } k := fun u => ⟨rfl, h.lk.q, h.lk.qb, rfl, (fun e => by cases e), h.lk.n⟩
  rcases hF with ⟨hF0, hbs0, hsy0, hfi0⟩ | ⟨g, v0, hF1⟩
  · have hG0 := hFG.1 hF0
    subst hF0 hG0
    refine (Crash_g h.dk (by simp) (fun y hy => by simp at hy) (by rw [hu, hbs0]; rfl) (by simp [total]) a n ha (by omega)).mono ?_
    rintro e w1 ⟨⟨u, rfl⟩, F', hD1, hF', ht, hv1⟩
    have hF0 : F' = [] := by simpa using hF'
    subst hF0
    refine ⟨⟨u, rfl⟩, h.belV hB hv1, hv1.mono (fun b hb => ⟨h.dk.ge b hb, hlt b (.inl hb)⟩), ?_⟩
    refine (RCrash (h.rf1 hv1) (by simp) (fun y hy => by simp at hy) a n ha (by omega) (Nat.le_trans hB hv1.size)).mono ?_
    rintro e w2 ⟨⟨u, rfl⟩, Z', v', G', hR2, hG', hv2, hZ'⟩
    have hG0 : G' = [] := by simpa using hG'
    subst hG0
    exact ⟨⟨u, rfl⟩, h.belZ (Nat.le_trans hB hv1.size) hv2, tw_mk h hv1 hD1 (fun b e => .inl e) hv2 hR2 hZ' (hlk _) ⟨[], 0, false, false, .inl ⟨rfl, rfl, rfl, rfl⟩, .inl ⟨rfl, rfl, rfl, rfl⟩, by simp, .inl rfl, Nat.le_refl _, fun x hx => by simp at hx, by simp [total], by simp; exact h.lk.qb.1⟩⟩
  · obtain ⟨A0, c0, hG1⟩ : ∃ A c, G = [⟨nmL, A, c, bs, (sy : Nat), fi'⟩] := by
      rcases hG with ⟨e, -⟩ | e
      · exact absurd (hFG.2 e) (by rw [hF1]; simp)
      · exact e
    subst hF1 hG1
    obtain ⟨m, hm⟩ : ∃ m, m = sy + min n (bs.length - sy) := ⟨_, rfl⟩
    have hmn : Sh.n n ⟨nmL, bs, (sy : Nat), fi⟩ = m := by simp only [Sh.n, Int.toNat_natCast]; exact hm.symm
    have hmn' : Sh.n n ⟨nmL, bs, (sy : Nat), fi'⟩ = m := by simp only [Sh.n, Int.toNat_natCast]; exact hm.symm
    have hml : m ≤ bs.length := by omega
    have htl : (bs.take m).length = m := by rw [List.length_take]; omega
    refine (Crash_g h.dk (by simp) (fun y hy => by simp at hy; subst hy; exact ⟨by simp only; omega, by simp only; omega, hbl⟩) (by rw [hu]; simp [total]) (by simpa [total] using hbl) a n ha (by omega)).mono ?_
    rintro e w1 ⟨⟨u, rfl⟩, F', hD1, hF', ht, hv1⟩
    refine ⟨⟨u, rfl⟩, h.belV hB hv1, hv1.mono (fun b hb => ⟨h.dk.ge b hb, hlt b (.inl hb)⟩), ?_⟩
    refine (RCrash (h.rf1 hv1) (by simp) (fun y hy => by simp at hy; subst hy; exact ⟨by simp only; omega, by simp only; omega, by simp only; omega⟩) a n ha (by omega) (Nat.le_trans hB hv1.size)).mono ?_
    rintro e w2 ⟨⟨u, rfl⟩, Z', v', G', hR2, hG', hv2, hZ'⟩
    refine ⟨⟨u, rfl⟩, h.belZ (Nat.le_trans hB hv1.size) hv2, tw_mk h hv1 hD1 (fun b e => .inl e) hv2 hR2 hZ' (hlk _) ?_⟩
    have hF2 : F'.map Fi.sh = (Sh.cr n ⟨nmL, bs, (sy : Nat), fi⟩).toList := by rw [hF']; cases hcr : Sh.cr n ⟨nmL, bs, (sy : Nat), fi⟩ <;> simp [Fi.sh, hcr]
    have hG2 : G'.map Pf.sh = (crR n ⟨nmL, bs, (sy : Nat), fi'⟩).toList := by rw [hG']; cases hcr : crR n ⟨nmL, bs, (sy : Nat), fi'⟩ <;> simp [Pf.sh, hcr]
    simp only [Sh.cr, hmn] at hF2
    simp only [crR, hmn'] at hG2
    by_cases hz : m = 0 ∧ fi = false
    · have hz' : m = 0 ∧ fi' = false := ⟨hz.1, by
        rcases hfi with e | ⟨-, e⟩
        · rw [← e]; exact hz.2
        · omega⟩
      rw [if_pos hz] at hF2
      rw [if_pos hz'] at hG2
      have hF0 : F' = [] := by simpa using hF2
      have hG0 : G' = [] := by simpa using hG2
      subst hF0 hG0
      exact ⟨[], 0, false, false, .inl ⟨rfl, rfl, rfl, rfl⟩, .inl ⟨rfl, rfl, rfl, rfl⟩, by simp, .inl rfl, Nat.le_refl _, fun x hx => by simp at hx, by simp [total], by simp; exact h.lk.qb.1⟩
    · have hz' : ¬ (m = 0 ∧ fi' = false) := fun e => hz ⟨e.1, by
        rcases hfi with e2 | ⟨e2, -⟩
        · rw [e2]; exact e.2
        · rw [e2] at e; cases e.2⟩
      rw [if_neg hz] at hF2
      rw [if_neg hz'] at hG2
      simp only [Option.toList_some] at hF2 hG2
      obtain ⟨x, hx, hx2⟩ : ∃ x, F' = [x] ∧ x.sh = ⟨nmL, bs.take m, (m : Nat), fi⟩ := by
        cases F' with
        | nil => simp at hF2
        | cons x T => cases T with
          | nil => exact ⟨x, rfl, by simpa using hF2⟩
          | cons y T => simp at hF2
      obtain ⟨y, hy, hy2⟩ : ∃ y, G' = [y] ∧ y.sh = ⟨nmL, bs.take m, (m : Nat), true⟩ := by
        cases G' with
        | nil => simp at hG2
        | cons x T => cases T with
          | nil => exact ⟨x, rfl, by simpa using hG2⟩
          | cons y T => simp at hG2
      obtain ⟨xp, xg, xv, xb, xs, xf⟩ := x
      obtain ⟨yp, yA, yc, yb, ys, yf⟩ := y
      simp only [Fi.sh, Sh.mk.injEq] at hx2
      simp only [Pf.sh, Sh.mk.injEq] at hy2
      obtain ⟨rfl, rfl, rfl, rfl⟩ := hx2
      obtain ⟨rfl, rfl, rfl, rfl⟩ := hy2
      subst hx hy
      refine ⟨bs.take m, m, _, true, .inr ⟨_, _, rfl⟩, .inr ⟨_, _, rfl⟩, by simp, ?_, by omega, fun x hx => hbs x (List.mem_of_mem_take hx), by simp [total], by simp only [htl]; omega⟩
      rcases hfi with e | ⟨-, e⟩
      · cases hxf : xf with
        | true => exact .inl rfl
        | false => exact .inr ⟨rfl, by
            rcases Nat.eq_zero_or_pos m with e0 | e0
            · exact absurd ⟨e0, hxf⟩ hz
            · exact e0⟩
      · exact .inr ⟨rfl, by omega⟩
theorem TwSame (H : Tw w B lo d r k) :
    Calls Try.prog 51 #[.pointer (some ⟨d, 0, none⟩), .pointer (some ⟨r, 0, none⟩)] w fun e w' => e = .returned (.bool true) ∧ Below w.heap.size w w' := by
  obtain ⟨mb, V, Z, v, s, sp, F, G, h, hlt⟩ := H
  obtain ⟨bs, sy, fi, fi', hF, hG, hFG, hfi, hsy, hbs, hu, hq⟩ := h.lg
  have hqb := h.lk.qb
  refine Same_log h.dk h.rf ?_ h.lk.de (by rw [hG.tot]; exact hu) h.lk.q hqb (by rw [hG.tot]; omega) ?_
  · rcases hF with ⟨hF0, -⟩ | ⟨g, v0, hF1⟩
    · exact .inl ⟨hF0, hFG.1 hF0⟩
    · rcases hG with ⟨e, -⟩ | ⟨A, c, e⟩
      · exact absurd (hFG.2 e) (by rw [hF1]; simp)
      · exact .inr ⟨_, _, hF1, e, rfl, rfl, by simp only; omega⟩
  · rcases hG with ⟨e, -⟩ | ⟨A, c, e⟩ <;> rw [e] <;> intro y hy <;> simp at hy
    subst hy
    simp only [show nmL.size = 3 from by decide +kernel]
    omega
theorem TwNew (q : Nat) (hq : q ≤ 65536) (w : World) :
    Calls Try.prog 14 #[.int .i64 q] w fun e w1 => ∃ d, e = .returned (.pointer (some ⟨d, 0, none⟩)) ∧ Below w.heap.size w w1 ∧
      Calls Try.prog 45 #[.int .i64 q] w1 fun e w2 => ∃ r, e = .returned (.pointer (some ⟨r, 0, none⟩)) ∧ Below w.heap.size w1 w2 ∧ Tw w2 w.heap.size w2.heap.size d r 0 := by
  refine (New_g q q q (by omega) (by omega) w).mono ?_
  rintro e w1 ⟨d, mb, V, rfl, hD, hb1⟩
  refine ⟨d, rfl, hb1, ?_⟩
  refine (RNew q q q (by omega) (by omega) w1).mono ?_
  rintro e w2 ⟨r, Z, rfl, hR, hb2⟩
  refine ⟨r, rfl, hb2.mono hb1.size, mb, V, Z, _, _, _, _, _, ⟨hD.below hb2, ⟨hR.blk, ⟨by simp, .inl ⟨rfl, rfl⟩⟩, hR.byt, hR.zr, hR.lt, fun b hb => Nat.le_trans hb1.size (hR.ge b hb)⟩, fun b hb hz => ?_, ⟨rfl, rfl, by simp only; omega, rfl, (fun e => by cases e), by simp⟩, ⟨[], 0, false, false, .inl ⟨rfl, rfl, rfl, rfl⟩, .inl ⟨rfl, rfl, rfl, rfl⟩, by simp, .inl rfl, Nat.le_refl _, fun x hx => by simp at hx, rfl, by simp⟩⟩, fun b hb => ?_⟩
  · have h1 := hD.lt b hb
    have h2 := hR.ge b hz
    omega
  · rcases hb with e | e
    · exact Nat.lt_of_lt_of_le (hD.lt b e) hb2.size
    · exact hR.lt b e
end
end Go.Proofs.Ytplmfmcogbdpjaa.Dk
