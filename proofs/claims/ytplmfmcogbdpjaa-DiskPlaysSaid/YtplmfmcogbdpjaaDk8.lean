/- A disk: a crash. -/
import Derived.Test.YtplmfmcogbdpjaaDk7
import Derived.Deep.RegionWith
import Derived.Deep.LoopGhost
namespace Go.Proofs.Ytplmfmcogbdpjaa.Dk
open Go Go.RowKit Go.Proofs.Ytplmfmcogbdpjaa Go.Proofs.Ytplmfmcogbdpjaa.Crw Go.Proofs.Ytplmfmcogbdpjaa.Vl Go.ChangeShapes Go.WideShapes Go.ChangeAt
set_option linter.unusedVariables false
set_option maxRecDepth 100000
abbrev su (s : Ds) (t : Nat) : Ds := ⟨s.q, t, s.fu, s.lf, s.de⟩
section
variable {w w' : World} {B d mb : Nat} {U V : Nat → Prop} {s s' : Ds} {F : List Fi} {p : ByteArray}
def CrR (w w1 : World) (B d mb : Nat) (V : Nat → Prop) (s : Ds) (K : Nat) (Y : List Sh) (l : List (List UInt8)) (A : Option Addr) (i : Value) (wr : World) : Prop :=
  ∃ k F', i = .int .i64 (k : Nat) ∧ k ≤ l.length ∧ DkP wr B d mb V (su s (total (F'.map Fi.sh))) F' ∧ F'.map Fi.sh = Y.filterMap (fK K (l.take k)) ∧ total (F'.map Fi.sh) ≤ 65536 ∧ Vol V w wr ∧ Reads wr w1.heap.size 1 A l.length (l.map encStr) ∧ w1.heap.size ≤ wr.heap.size
theorem set_mid {α : Type} (G1 G2 : List α) (x x2 : α) : (G1 ++ x :: G2).set G1.length x2 = G1 ++ x2 :: G2 := by
  rw [List.set_append_right _ _ (Nat.le_refl _), Nat.sub_self]; rfl
theorem erase_mid {α : Type} (G1 G2 : List α) (x : α) : (G1 ++ x :: G2).eraseIdx G1.length = G1 ++ G2 := by
  rw [List.eraseIdx_append_of_length_le (Nat.le_refl _), Nat.sub_self]; rfl
theorem len_toNat (y : Sh) (K : Nat) (h0 : 0 ≤ y.sy) (h1 : y.sy ≤ y.bs.length) : y.n K ≤ y.bs.length := by
  unfold Sh.n; omega
set_option maxHeartbeats 32000000 in
theorem Crash_ (H : DkP w B d mb V s F) (hF : F.length ≤ 65536) (hok : ∀ y ∈ F.map Fi.sh, 0 ≤ y.sy ∧ y.sy ≤ y.bs.length ∧ y.bs.length ≤ 65536) (hu : s.u = total (F.map Fi.sh)) (hu2 : total (F.map Fi.sh) ≤ 65536) (K : Nat) (hK : K ≤ 65536) :
    Calls Try.prog 27 #[.pointer (some ⟨d, 0, none⟩), .int .i64 K] w fun r w' => (∃ u, r = .returned u) ∧ ∃ F', DkP w' B d mb V { su s (total (F'.map Fi.sh)) with fu := false, de := false } F' ∧ F'.map Fi.sh = (F.map Fi.sh).filterMap (Sh.cr K) ∧ total (F'.map Fi.sh) ≤ 65536 ∧ Vol V w w' := by
  obtain ⟨l, hl, hList⟩ := List_all H (by omega)
  have hnd := H.nodup
  obtain ⟨Y, hY⟩ : ∃ Y, Y = F.map Fi.sh := ⟨_, rfl⟩
  rw [← hY] at hok hu hu2 hl hnd ⊢
  have hll : l.length ≤ 65536 := by
    have h1 := hl.length_eq
    rw [hY] at h1
    simp at h1
    omega
  have kmax : max (K : Int) 0 = (K : Int) := by omega
  have HH := Lib.hid H
  have HY := Lib.hid hY
  have HL := Lib.hid hl
  have HND := Lib.hid hnd
  have HOK := Lib.hid hok
  have HU := Lib.hid hu
  clear H hY hl hnd hok
  go_enter Try.func27, Try.ntmps27
  go_upto_region 2 with (go_at_call 22; refine hList.mono ?_; rintro r w1 ⟨v, rfl, hb1, ho1⟩; obtain ⟨A, c, rfl, -, -⟩ := own_slice ho1)
  have hAV : Hid (∀ ad, A = some ad → ¬ V ad.block) := Lib.hid (by
    intro ad e hv
    subst e
    have h1 := (ho1.lt ad.block rfl).1
    have h2 := HH.out.lt _ hv
    omega)
  have hr1 := own_reads ho1
  have H1 := HH.out.below hb1
  have hs0 : CrR w w1 B d mb V s K Y l A (.int .i64 (0 : Nat)) w1 := by
    refine ⟨0, F, rfl, Nat.zero_le _, ?_, ?_, by rw [← HY.out]; exact hu2, Vol.of_below hb1, hr1, Nat.le_refl _⟩
    · rw [← HY.out, show su s (total Y) = s by unfold su; rw [← HU.out]]
      exact H1
    · rw [← HY.out, List.take_zero, fK_nil]
  have HS0 := Lib.hid hs0
  clear hs0 hr1 H1 ho1 hb1 hList hu
  go_loopw [12] (fun i wr => Hid (CrR w w1 B d mb V s K Y l A i wr)) (fun i _ => l.length - (intOf i).toNat)
  case atStart => exact HS0
  case round =>
    obtain ⟨k, F', rfl, hk, hD, hmap, ht, hvol, hrd, hsz⟩ := hrel.out
    clear hrel
    by_cases hlt : k < l.length
    · have k1 : (k : Int) < (l.length : Int) := by omega
      obtain ⟨nm, hnm⟩ : ∃ nm, l[k]? = some nm := ⟨l[k], List.getElem?_eq_getElem hlt⟩
      obtain ⟨A1, y, A2, hyn, hyY, e1, e2⟩ := fK_step K Y HND.out l HL.out k nm hnm
      rw [e1] at hmap
      obtain ⟨G1, x, G2, hF', hG1, hx, hG2⟩ := map_split hmap
      obtain ⟨o0, o1, o2⟩ := HOK.out y hyY
      have hj : F'[G1.length]? = some x := by rw [hF']; simp
      obtain ⟨ad, u, hA, hadb, hu1, hc1⟩ := hrd.at_ hlt
      subst hA
      have hu2' : u = .string x.p := by
        rw [List.getElem?_map, hnm] at hu1
        injection hu1 with hu1
        rw [← hu1, ← hyn, ← hx]
      subst hu2'
      have c2 : wr.cell? ⟨d, 2, none⟩ = some (.map (some mb)) := hD.blk.cell 2
      have l3 := flook_yes hD hj false
      simp only [Bool.false_eq_true, if_false] at l3
      obtain ⟨A3, c3, hxv, -, -⟩ := own_slice (hD.rows _ x hj)
      obtain ⟨L, hL⟩ : ∃ L, L = x.bs.length := ⟨_, rfl⟩
      obtain ⟨m, hm⟩ : ∃ m, m = y.sy.toNat := ⟨_, rfl⟩
      obtain ⟨N, hN⟩ : ∃ N, N = y.n K := ⟨_, rfl⟩
      obtain ⟨g, hg⟩ : ∃ g, g = x.g := ⟨_, rfl⟩
      obtain ⟨T, hT⟩ : ∃ T, T = total (F'.map Fi.sh) := ⟨_, rfl⟩
      have hxy : x.bs = y.bs ∧ x.sy = y.sy ∧ x.fi = y.fi := by rw [← hx]; exact ⟨rfl, rfl, rfl⟩
      have hLy : L = y.bs.length := by rw [hL, hxy.1]
      have hNL : N ≤ L := by rw [hN, hLy]; exact len_toNat y K o0 o1
      have hNd : (N : Int) = (m : Int) + min (K : Int) ((L : Int) - (m : Int)) := by rw [hN, Sh.n, ← hm, ← hLy]; omega
      rw [← hL] at hxv
      unfold fptr at l3
      rw [← hg] at l3
      rw [← hT] at hD ht
      have x1 : wr.cell? ⟨g, 1, none⟩ = some (.int .i64 m) := by
        have h := (hD.fls _ x hj).cell 1
        rw [← hg] at h
        rw [h]
        show some (Value.int .i64 x.sy) = _
        rw [hxy.2.1, hm, Int.toNat_of_nonneg o0]
      have x0 : wr.cell? ⟨g, 0, none⟩ = some (.slice A3 L c3) := by rw [← hxv, hg]; exact (hD.fls _ x hj).cell 0
      have q1 : IntKind.i64.wrap ((L : Int) - (m : Int)) = (L : Int) - m := IntWalk.i64_in _ (by omega)
      have q2 : IntKind.i64.wrap ((m : Int) + min (K : Int) ((L : Int) - (m : Int))) = (N : Int) := by rw [← hNd]; exact IntWalk.i64_in _ (by omega)
      have hTL : L ≤ T := by
        rw [hT, hmap, total_app, total_cons, hLy]
        omega
      have hC : ∀ wa, DkP wa B d mb V (su s T) F' → Calls Try.prog 64 #[.pointer (some ⟨d, 0, none⟩), .pointer (some ⟨g, 0, none⟩), .int .i64 N] wa fun r w' => (∃ u, r = .returned u) ∧ ∃ v, DkP w' B d mb V (su s (T - (L - N))) (F'.set G1.length { x with v := v, bs := x.bs.take N, sy := N }) ∧ Vol V wa w' := by
        intro wa hwa
        have h := cut_ hwa hj (n := N) (by omega) (by omega) ⟨by show (0 : Int) ≤ (T : Int); omega, by show (T : Int) ≤ 65536; omega⟩
        rw [← hg, ← hL] at h
        rw [show (T : Int) - ((L : Int) - (N : Int)) = ((T - (L - N) : Nat) : Int) by omega] at h
        rw [hg] at h ⊢
        exact h
      have HD := Lib.hid hD
      have HJ := Lib.hid hj
      have HM := Lib.hid hmap
      have HVO := Lib.hid hvol
      have HRD := Lib.hid hrd
      have HSZ := Lib.hid hsz
      have HHX := Lib.hid hx
      have HF' := Lib.hid hF'
      have HG1 := Lib.hid hG1
      have HG2 := Lib.hid hG2
      have HE2 := Lib.hid e2
      have HG := Lib.hid hg
      have HT := Lib.hid hT
      have HL' := Lib.hid hL
      have HN := Lib.hid hN
      have HXY := Lib.hid hxy
      clear hD hj hmap hvol hrd hsz hx hF' hG1 hG2 e1 e2 hg hT hL hN hxy hm hNd hLy hxv hyn hyY hnm hu1 hadb HS0
      go_upto_region 5 with fail
      go_cut [] from 22 to 42 (fun wx => Hid (∃ v, DkP wx B d mb V (su s (T - (L - N))) (F'.set G1.length { x with v := v, bs := x.bs.take N, sy := N }) ∧ Vol V wr wx))
      case first =>
        go_region_with (go_at_call 64; refine (hC _ (by first | exact HD.out | exact HD.out.below (Below.refl _ _).drew)).mono ?_; rintro r wb ⟨⟨u, rfl⟩, v', Hb, vb⟩)
        all_goals
          go_wp2_with fail
          go_meet
          exact Lib.hid ⟨v', by first | exact Hb | exact Hb.below (Below.refl _ _).drew, by first | exact vb | exact ((Vol.refl wr).drew.trans vb (fun b e => .inl e)) | exact vb.drew | exact ((Vol.refl wr).drew.trans vb (fun b e => .inl e)).drew⟩
      case rest =>
        obtain ⟨v', Hb, vb⟩ := hcut.out
        obtain ⟨x2, hx2⟩ : ∃ x2 : Fi, x2 = { x with v := v', bs := x.bs.take N, sy := N } := ⟨_, rfl⟩
        rw [← hx2] at Hb
        have hjl : G1.length < F'.length := (List.getElem?_eq_some_iff.1 HJ.out).1
        have hj2 : (F'.set G1.length x2)[G1.length]? = some x2 := by rw [List.getElem?_set_self hjl]
        have hln : x2.bs.length = N := by rw [hx2]; show (x.bs.take N).length = N; rw [List.length_take, ← HL'.out]; omega
        have hg2 : g = x2.g := by rw [hx2]; exact HG.out
        obtain ⟨A4, c4, hv4, -, -⟩ := own_slice (Hb.rows _ x2 hj2)
        rw [hln] at hv4
        have z0 : wc.cell? ⟨g, 0, none⟩ = some (.slice A4 N c4) := by rw [← hv4, hg2]; exact (Hb.fls _ x2 hj2).cell 0
        have z2 : wc.cell? ⟨g, 2, none⟩ = some (.bool y.fi) := by
          have h := (Hb.fls _ x2 hj2).cell 2
          rw [← hg2] at h
          rw [h, hx2, ← HXY.out.2.2]
          rfl
        have HB := Lib.hid Hb
        have HVB := Lib.hid vb
        have HX2 := Lib.hid hx2
        have HJ2 := Lib.hid hj2
        have HLN := Lib.hid hln
        have hrm := fun (hfl : y.fi = false) => remove_yes Hb hj2 (p := x.p) (by rw [hx2]) (by omega) ⟨by show (0 : Int) ≤ ((T - (L - N) : Nat) : Int); omega, by show ((T - (L - N) : Nat) : Int) ≤ 65536; omega⟩
        have fin : ∀ (wz : World) (F2 : List Fi), DkP wz B d mb V (su s (total (F2.map Fi.sh))) F2 → F2.map Fi.sh = A1 ++ ((Sh.cr K y).toList ++ A2) → total (F2.map Fi.sh) ≤ T → Vol V wr wz → Hid (CrR w w1 B d mb V s K Y l (some ad) (.int .i64 ((k : Int) + 1)) wz) := by
          intro wz F2 h1 h2 h3 h4
          exact Lib.hid ⟨k + 1, F2, by rw [Int.natCast_add]; rfl, hlt, h1, by rw [h2, HE2.out], Nat.le_trans h3 ht, HVO.out.trans h4 (fun b e => .inl e), reads_vol HRD.out HSZ.out h4 hAV.out, Nat.le_trans HSZ.out h4.size⟩
        have sz : ∀ F2 : List Fi, F2.map Fi.sh = A1 ++ ((Sh.cr K y).toList ++ A2) → ((Sh.cr K y).toList.map fun z => z.bs.length).sum = N → total (F2.map Fi.sh) = T - (L - N) := by
          intro F2 h1 h2
          rw [h1, total_app, total_app, HT.out, HM.out, total_app, total_cons]
          have e1 : total (Sh.cr K y).toList = N := h2
          have e2 : y.bs.length = L := by rw [HL'.out, HXY.out.1]
          omega
        have FIN := Lib.hid fin
        have SZ := Lib.hid sz
        clear hcut Hb vb hx2 hj2 hjl hln hg2 hv4 fin sz x0 x1 l3 c2 hc1 hC
        by_cases hN0 : N = 0
        · cases hfi : y.fi with
          | false =>
            have hr := hrm hfi
            rw [hfi] at z2
            clear hrm
            subst hN0
            go_wp2_with (go_at_call 66; refine hr.mono ?_; rintro r wd ⟨⟨u, rfl⟩, Hd, vd⟩)
            have hcr : Sh.cr K y = none := by unfold Sh.cr; rw [if_pos ⟨HN.out.symm, hfi⟩]
            have hs2 : ((F'.set G1.length x2).eraseIdx G1.length).map Fi.sh = A1 ++ ((Sh.cr K y).toList ++ A2) := by
              rw [hcr, HF'.out, set_mid, erase_mid, List.map_append, HG1.out, HG2.out]
              rfl
            have ht2 := SZ.out _ hs2 (by rw [hcr]; rfl)
            have e : ((T - (L - 0) : Nat) : Int) - (x2.bs.length : Int) = (total (((F'.set G1.length x2).eraseIdx G1.length).map Fi.sh) : Int) := by rw [HLN.out, ht2]; simp
            have Hd' : DkP wd B d mb V (su s (total (((F'.set G1.length x2).eraseIdx G1.length).map Fi.sh))) ((F'.set G1.length x2).eraseIdx G1.length) := by
              have h : DkP wd B d mb V ⟨s.q, ((T - (L - 0) : Nat) : Int) - (x2.bs.length : Int), s.fu, s.lf, s.de⟩ ((F'.set G1.length x2).eraseIdx G1.length) := Hd
              rw [e] at h
              exact h
            exact ⟨FIN.out wd _ Hd' hs2 (by rw [ht2]; omega) (HVB.out.trans vd (fun b e => .inl e)), by simp [intOf]; omega⟩
          | true =>
            rw [hfi] at z2
            clear hrm
            subst hN0
            go_wp2_with fail
            have hcr : Sh.cr K y = some ⟨y.p, y.bs.take 0, 0, y.fi⟩ := by unfold Sh.cr; rw [if_neg (fun h => by rw [hfi] at h; exact absurd h.2 (by decide)), ← HN.out]; rfl
            have hsh : x2.sh = ⟨y.p, y.bs.take 0, 0, y.fi⟩ := by rw [HX2.out, ← HHX.out]; rfl
            have hs2 : (F'.set G1.length x2).map Fi.sh = A1 ++ ((Sh.cr K y).toList ++ A2) := by
              rw [hcr, HF'.out, set_mid, List.map_append, List.map_cons, HG1.out, HG2.out, hsh]
              rfl
            have ht2 := SZ.out _ hs2 (by rw [hcr]; rfl)
            exact ⟨FIN.out wc _ (by rw [ht2]; exact HB.out) hs2 (by rw [ht2]; omega) HVB.out, by simp [intOf]; omega⟩
        · have hnz : ((N : Int) == 0) = false := by simpa using hN0
          clear hrm
          go_wp2_with fail
          have hcr : Sh.cr K y = some ⟨y.p, y.bs.take N, N, y.fi⟩ := by unfold Sh.cr; rw [if_neg (fun h => hN0 (HN.out.trans h.1)), ← HN.out]
          have hsh : x2.sh = ⟨y.p, y.bs.take N, N, y.fi⟩ := by rw [HX2.out, ← HHX.out]
          have hs2 : (F'.set G1.length x2).map Fi.sh = A1 ++ ((Sh.cr K y).toList ++ A2) := by
            rw [hcr, HF'.out, set_mid, List.map_append, List.map_cons, HG1.out, HG2.out, hsh]
            rfl
          have ht2 := SZ.out _ hs2 (by rw [hcr]; show (y.bs.take N).length + 0 = N; rw [← HXY.out.1, List.length_take, ← HL'.out]; omega)
          exact ⟨FIN.out wc _ (by rw [ht2]; exact HB.out) hs2 (by rw [ht2]; omega) HVB.out, by simp [intOf]; omega⟩
    · have hke : k = l.length := by omega
      have hD3 := hD.blk
      have z5 : wr.frozen? ⟨d, 5, none⟩ = false := hD3.frozen 5
      have c5 : wr.cell? ⟨d, 5, none⟩ = some (.bool s.de) := hD3.cell 5
      have y3 : (wr.setCell ⟨d, 5, none⟩ (.bool false)).cell? ⟨d, 3, none⟩ = some (.bool s.fu) := (hD3.set_ 5 (.bool false)).cell 3
      have y3f : (wr.setCell ⟨d, 5, none⟩ (.bool false)).frozen? ⟨d, 3, none⟩ = false := (hD3.set_ 5 (.bool false)).frozen 3
      have k1 : decide ((k : Int) < (l.length : Int)) = false := by simp; omega
      have HD := Lib.hid hD
      have HM := Lib.hid hmap
      have HVO := Lib.hid hvol
      clear hD hD3 hmap hvol hrd hsz HS0
      go_wp2_with fail
      go_end0
      have vF : Vol (fun b => b = d) wr ((wr.setCell ⟨d, 5, none⟩ (.bool false)).setCell ⟨d, 3, none⟩ (.bool false)) :=
        Vol.setCell (V := fun b => b = d) (a := ⟨d, 3, none⟩) (Vol.setCell (V := fun b => b = d) (a := ⟨d, 5, none⟩) (Vol.refl wr) (.inl rfl) _) (.inl rfl) _
      refine ⟨⟨_, rfl⟩, F', HD.out.scal vF ((HD.out.blk.set_ 5 (.bool false)).set_ 3 (.bool false)), ?_, ht, HVO.out.trans vF (fun b e => .inl (by rw [e]; exact HD.out.vm.1))⟩
      rw [HM.out, hke, List.take_length]
      exact fK_all K l Y (fun y hy => HL.out.mem_iff.2 (List.mem_map.2 ⟨y, hy, rfl⟩))
end
end Go.Proofs.Ytplmfmcogbdpjaa.Dk
