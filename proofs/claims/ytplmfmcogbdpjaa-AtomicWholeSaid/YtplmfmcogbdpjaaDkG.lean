/- A disk with a fuse: Append onto a file, Sync, Rename; the act that dies. -/
import Derived.Test.YtplmfmcogbdpjaaDkF
namespace Go.Proofs.Ytplmfmcogbdpjaa.Dk
open Go Go.RowKit Go.Proofs.Ytplmfmcogbdpjaa Go.Proofs.Ytplmfmcogbdpjaa.Crw Go.Proofs.Ytplmfmcogbdpjaa.Vl Go.ChangeShapes Go.WideShapes Go.ChangeAt
set_option linter.unusedVariables false
set_option maxRecDepth 100000
section
variable {w w' : World} {B d mb : Nat} {U V : Nat → Prop} {s s' : Ds} {F : List Fi} {p q : ByteArray}
set_option maxHeartbeats 16000000 in
theorem Append_oldF (H : DkP w B d mb V s F) {j : Nat} {x : Fi} (hj : F[j]? = some x) (hxp : x.p = p) (hp : p.toList.isEmpty = false) (hs : s.de = false) {s2 : Ds} (hbs : burnS s s2 0) (hqu : s2.u = s.u) (hq : 0 ≤ s.q ∧ s.q ≤ 65536) (hu : 0 ≤ s.u ∧ s.u ≤ 65536) (hxl : x.bs.length ≤ 65536)
    {B' n c : Nat} {A : Option Addr} {bs : List Int} (hr : Reads w B' 1 A n (bsV bs)) (hB : B' ≤ w.heap.size) (hA : ∀ ad, A = some ad → ¬ V ad.block) (hn : (n : Int) ≤ s.q - s.u) :
    Calls Try.prog 16 #[.pointer (some ⟨d, 0, none⟩), .string p, .slice A n c] w fun r w' => r = .returned (.int .i64 0) ∧ ∃ V' v, DkP w' B d mb V' { s2 with u := s2.u + n } (F.set j { x with v := v, bs := x.bs ++ bs }) ∧ Vol V w w' ∧ (∀ b, V' b → V b ∨ w.heap.size ≤ b) := by
  obtain ⟨i0, hi, hz0, hz1, hz2⟩ := info_parts byte_infoD
  obtain ⟨W, hW⟩ : ∃ W, W = w.alloc (.cells #[.string p] 9) := ⟨_, rfl⟩
  have hbW : Below w.heap.size w W := by rw [hW]; exact (Below.refl _ _).alloc (Nat.le_refl _) _
  have hkW : Blk W w.heap.size 9 #[.string p] := by rw [hW]; exact Blk.new _ _ _
  have H1 := H.below hbW
  have hRf := refuse1 H1.blk hs hkW hp
  have k1 : decide (s.q - s.u < (n : Int)) = false := by simpa using hn
  have k2 : IntKind.i64.wrap (s2.u + (n : Int)) = s2.u + n := IntWalk.i64_in _ (by omega)
  have hv := (H.rows j x hj)
  obtain ⟨L, hL⟩ : ∃ L, L = x.bs.length := ⟨_, rfl⟩
  obtain ⟨A1, c1, hxv, -, -⟩ := own_slice hv
  rw [← hL] at hxv hxl
  obtain ⟨g, hg⟩ : ∃ g, g = x.g := ⟨_, rfl⟩
  have HW := Lib.hid hW
  have HJ := Lib.hid hj
  have HP := Lib.hid hxp
  have HR := Lib.hid hr
  have HH := Lib.hid H1
  have HB := Lib.hid hbW
  have HL := Lib.hid hL
  have HXV := Lib.hid hxv
  have HG := Lib.hid hg
  clear hW hj hr H H1 hbW hkW hxp hL hxv hv hg
  go_enter Try.func16, Try.ntmps16
  go_upto_region 13 with (first | (go_at_call 61; rw [← HW.out]; refine hRf.mono ?_; rintro r w1 ⟨rfl, b1⟩; have H2 := HH.out.below b1; have hRm := Room_ H2.blk hq hu; have H2' := Lib.hid H2; clear H2) | (go_at_call 15; refine hRm.mono ?_; rintro r w2 ⟨rfl, b2⟩; have H3 := H2'.out.below b2; have hBu := burn_all H3 hbs; have H3' := Lib.hid H3; clear H3) | (go_at_call 62; refine hBu.mono ?_; rintro r w3 ⟨rfl, H4, b3⟩; have c2 : w3.cell? ⟨d, 2, none⟩ = some (.map (some mb)) := H4.blk.cell 2; have l3 := flook_yes H4 HJ.out true; rw [HP.out] at l3; unfold fptr at l3; rw [← HG.out] at l3; have H4' := Lib.hid H4; clear H4))
  have bw3 : Vol V w w3 := ((Vol.of_below ((HB.out.trans (b1.mono HB.out.size)).trans (b2.mono (Nat.le_trans HB.out.size b1.size)))).trans b3 (fun b e => .inl e))
  have hk1 : Blk w3 g 86 (fiC x) := by rw [HG.out]; exact H4'.out.fls j x HJ.out
  have hd1 := H4'.out.blk
  have ho1 : w3.ownsRow B 5 1 (.slice A1 L c1) L (bsV x.bs) := by have h := H4'.out.rows j x HJ.out; rw [HXV.out, ← HL.out] at h; exact h
  have hr1 : Reads w3 B' 1 A n (bsV bs) := reads_vol HR.out hB bw3 hA
  have x0 : w3.cell? ⟨g, 0, none⟩ = some (.slice A1 L c1) := by rw [← HXV.out]; exact hk1.cell 0
  have hgo : Hid (some g ≠ (Value.slice A1 L c1).ownBlock) := Lib.hid (fun e => own_blk_ne ho1 hk1 (by decide) e.symm)
  have hdo : Hid (some d ≠ (Value.slice A1 L c1).ownBlock) := Lib.hid (fun e => own_blk_ne ho1 hd1 (by decide) e.symm)
  have HK1 := Lib.hid hk1
  have HD1 := Lib.hid hd1
  have HR1 := Lib.hid hr1
  have HBW := Lib.hid bw3
  have HO1 := Lib.hid ho1
  have hBd : Hid (B ≤ w3.heap.size) := Lib.hid (Nat.le_trans (H4'.out.ge d H4'.out.vm.1) (Nat.le_of_lt hd1.lt))
  clear bw3 hk1 hd1 hr1 ho1 b1 b2 b3 HR HB HW hRf hRm hBu l3 c2
  go_upto_region 14 with (at_builtin; refine wpList_append_any _ rfl _ _ 28 rfl B 5 i0 (.int .u8 0) 1 1 Try.underlying28 hi hz0 hz1 hz2 rfl (by decide) (.slice A1 L c1) L (bsV x.bs) rfl HO1.out B' A n c (bsV bs) rfl HR1.out (bsV_one bs) (by simp only [maxLen]; omega) (by omega) hBd.out ?_; intro v2 d2 hown2 hg2 hn2; obtain ⟨A2, c2', rfl, -, -⟩ := own_slice hown2; have hk2 := HK1.out.grown hg2 hgo.out; have f2 : d2.frozen? ⟨g, 0, none⟩ = false := hk2.frozen 0; have c20 : d2.cell? ⟨g, 0, none⟩ = some (.slice A1 L c1) := (by rw [← HXV.out]; exact hk2.cell 0); have HK2 := Lib.hid hk2; have HO2 := Lib.hid hown2; have HG2 := Lib.hid hg2; have HN2 := Lib.hid hn2; clear hk2 hown2 hg2 hn2)
  obtain ⟨d3, hd3⟩ : ∃ d3, d3 = d2.setCell ⟨g, 0, none⟩ (.slice A2 (L + n) c2') := ⟨_, rfl⟩
  rw [← hd3]
  have hdg : d ≠ g := HD1.out.ne_ HK1.out (by decide)
  have hk3 := HK2.out.set_ 0 (.slice A2 (L + n) c2')
  have hd30 := (HD1.out.grown HG2.out hdo.out).far (fun e => hdg e) (p := ⟨g, 0, none⟩) (.slice A2 (L + n) c2')
  have ho3 := own_far (i := 0) (u := .slice A2 (L + n) c2') HO2.out HK2.out (by decide)
  have v3 : Vol (fun b => b = g ∨ x.v.ownBlock = some b) w3 d3 := by
    rw [hd3]
    exact Vol.setCell (V := fun b => b = g ∨ x.v.ownBlock = some b) (a := ⟨g, 0, none⟩) ((Vol.refl w3).grown HG2.out (fun k hk => .inl (.inr (by rw [HXV.out]; exact hk)))) (.inl (.inl rfl)) _
  rw [← hd3] at hk3 hd30 ho3
  have y1 : d3.cell? ⟨d, 1, none⟩ = some (.int .i64 s2.u) := hd30.cell 1
  have f3 : d3.frozen? ⟨d, 1, none⟩ = false := hd30.frozen 1
  have HK3 := Lib.hid hk3
  have HD3 := Lib.hid hd30
  have HO3 := Lib.hid ho3
  have HV3 := Lib.hid v3
  have HDG := Lib.hid hdg
  clear hk3 hd30 ho3 v3 hdg f2 c20 hd3 x0
  go_wp2_with fail
  go_ret
  rw [← hqu]
  obtain ⟨dF, hdF⟩ : ∃ dF, dF = d3.setCell ⟨d, 1, none⟩ (.int .i64 (s2.u + n)) := ⟨_, rfl⟩
  rw [← hdF]
  have vF : Vol (fun b => b = d) d3 dF := by rw [hdF]; exact Vol.setCell (V := fun b => b = d) (a := ⟨d, 1, none⟩) (Vol.refl d3) (.inl rfl) _
  have vF3 : Vol (fun b => b = d ∨ b = x.g ∨ x.v.ownBlock = some b) w3 dF := (HV3.out.mono (fun b e => .inr (e.imp (fun e => by rw [e, HG.out]) id))).trans vF (fun b e => .inl (.inl e))
  have hkF := HK3.out.far (fun e => HDG.out e.symm) (p := ⟨d, 1, none⟩) (.int .i64 (s2.u + n))
  have hdF' := HD3.out.set_ 1 (.int .i64 (s2.u + n))
  have hoF := own_far (i := 1) (u := .int .i64 (s2.u + n)) HO3.out HD3.out (by decide)
  rw [← hdF] at hkF hdF' hoF
  have hsw : w.heap.size ≤ w3.heap.size := HBW.out.size
  have hl : bs.length = n := by have := HR1.out.1; simpa using this
  refine ⟨rfl, _, .slice A2 (L + n) c2', H4'.out.turn (s' := { s2 with u := s2.u + n }) (x' := { x with v := .slice A2 (L + n) c2', bs := x.bs ++ bs }) HJ.out rfl rfl vF3 (by simpa using hdF') (by rw [← HG.out]; simpa using hkF) ?_ ?_, ?_, ?_⟩
  · show dF.ownsRow B 5 1 (.slice A2 (L + n) c2') (x.bs ++ bs).length (bsV (x.bs ++ bs))
    rw [List.length_append, hl, ← HL.out, ← bsV_app]
    exact hoF
  · intro b hb
    rcases HN2.out with h1 | h1
    · exact .inl (by rw [HXV.out, ← h1]; exact hb)
    · rw [hb] at h1
      injection h1 with h1
      exact .inr (by rw [h1]; exact Nat.le_refl _)
  · refine HBW.out.trans vF3 ?_
    rintro b (e | e | e)
    · exact .inl (by rw [e]; exact H4'.out.vm.1)
    · exact .inl (by rw [e]; exact (H4'.out.vx j x HJ.out).1)
    · exact .inl ((H4'.out.vx j x HJ.out).2 b e)
  · rintro b (e | ⟨e, _⟩)
    · exact .inl e
    · exact .inr (Nat.le_trans hsw e)
set_option maxHeartbeats 4000000 in
theorem Sync_yesF (H : DkP w B d mb V s F) {j : Nat} {x : Fi} (hj : F[j]? = some x) (hxp : x.p = p) (hp : p.toList.isEmpty = false) (hs : s.de = false) {s2 : Ds} (hbs : burnS s s2 0) :
    Calls Try.prog 25 #[.pointer (some ⟨d, 0, none⟩), .string p] w fun r w' => r = .returned (.int .i64 0) ∧ DkP w' B d mb V s2 (F.set j { x with sy := x.bs.length, fi := true }) ∧ Vol V w w' := by
  have hF := find_yes H hj hxp hp hs
  have HJ := Lib.hid hj
  have HH := Lib.hid H
  obtain ⟨A1, c1, hxv, -, -⟩ := own_slice (H.rows j x hj)
  have HX := Lib.hid hxv
  clear hj H hxv
  go_enter Try.func25, Try.ntmps25
  go_wp2_with (first | (go_at_call 63; refine hF.mono ?_; rintro r w1 ⟨rfl, b1⟩; have H2 := HH.out.below b1; have hBu := burn_all H2 hbs; have H2' := Lib.hid H2; clear H2) | (go_at_call 62; refine hBu.mono ?_; rintro r w3 ⟨rfl, H4, b3⟩; have hSe := settle_ (H4.fls j x HJ.out) A1 _ c1 HX.out; have H4' := Lib.hid H4; clear H4) | (go_at_call 65; refine hSe.mono ?_; rintro r w4 ⟨⟨u, rfl⟩, hb4, hv4⟩))
  go_ret
  have hvv : Vol (fun b => b = d ∨ b = x.g ∨ x.v.ownBlock = some b) w3 w4 := hv4.mono (fun b e => .inr (.inl e))
  have hT := H4'.out.turn (s' := s2) (x' := { x with sy := x.bs.length, fi := true }) HJ.out rfl rfl hvv (blk_vol H4'.out.blk hv4 (fun e => blk_ne (H4'.out.fls j x HJ.out) H4'.out.blk (by decide) e.symm)) hb4 (own_vol (H4'.out.rows j x HJ.out) hv4 (fun b hb e => own_blk_ne (H4'.out.rows j x HJ.out) (H4'.out.fls j x HJ.out) (by decide) (by rw [hb, e]))) (fun b e => .inl e)
  refine ⟨rfl, ?_, ?_⟩
  · refine hT.weaken ?_ (fun b e => Nat.lt_of_lt_of_le (H4'.out.lt b e) hv4.size) H4'.out.ge
    rintro b (e | ⟨e1, e2⟩)
    · exact e
    · exact ((H4'.out.vx j x HJ.out).2 b e2)
  · exact ((Vol.of_below b1).trans b3 (fun b e => .inl e)).trans hv4 (fun b e => .inl (by rw [e]; exact (H4'.out.vx j x HJ.out).1))
set_option maxHeartbeats 8000000 in
/-- Rename onto a name; j, the file's place behind 'remove'. -/
theorem Rename_F (H : DkP w B d mb V s F) {j : Nat} {x : Fi} (hj : F[j]? = some x) (hxp : x.p = p) (hp : p.toList.isEmpty = false) (hq : q.toList.isEmpty = false) (hpq : (p.toList == q.toList) = false) (hs : s.de = false) {s2 : Ds} (hbs : burnS s s2 0) {G : List Fi} {i t : Nat} (hi : G[i]? = some { x with sy := x.bs.length, fi := true })
    (hrm : ∀ wa, DkP wa B d mb V s2 (F.set j { x with sy := x.bs.length, fi := true }) → Calls Try.prog 66 #[.pointer (some ⟨d, 0, none⟩), .string q] wa fun r w' => (∃ u, r = .returned u) ∧ Gone wa w' B d mb V s2 (F.set j { x with sy := x.bs.length, fi := true }) G t q) :
    Calls Try.prog 19 #[.pointer (some ⟨d, 0, none⟩), .string p, .string q] w fun r w' => r = .returned (.int .i64 0) ∧ DkP w' B d mb V { s2 with u := s2.u - t } (G.eraseIdx i ++ [{ x with sy := x.bs.length, fi := true, p := q }]) ∧ Vol V w w' := by
  obtain ⟨W, hW⟩ : ∃ W, W = w.alloc (.cells #[.string p, .string q] 9) := ⟨_, rfl⟩
  have hbW : Below w.heap.size w W := by rw [hW]; exact (Below.refl _ _).alloc (Nat.le_refl _) _
  have hkW : Blk W w.heap.size 9 #[.string p, .string q] := by rw [hW]; exact Blk.new _ _ _
  have H1 := H.below hbW
  have hRf := refuse2 H1.blk hs hkW hp hq
  obtain ⟨A1, c1, hxv, -, -⟩ := own_slice (H.rows j x hj)
  obtain ⟨g, hg⟩ : ∃ g, g = x.g := ⟨_, rfl⟩
  have HW := Lib.hid hW
  have HJ := Lib.hid hj
  have HP := Lib.hid hxp
  have HI := Lib.hid hi
  have HX := Lib.hid hxv
  have HG := Lib.hid hg
  have HH := Lib.hid H1
  have HB := Lib.hid hbW
  clear hW hj H H1 hbW hkW hxp hi hxv hg
  go_enter Try.func19, Try.ntmps19
  go_wp2_with fail
  rw [← HW.out]
  refine hRf.mono ?_
  rintro r w1 ⟨rfl, b1⟩
  have H2 := HH.out.below b1
  have hF := find_yes H2 HJ.out HP.out hp hs
  rw [← HG.out] at hF
  have H2' := Lib.hid H2
  clear H2 hRf
  go_wp2_with fail
  refine hF.mono ?_
  rintro r w2 ⟨rfl, b2⟩
  have H3 := H2'.out.below b2
  have hBu := burn_all H3 hbs
  have H3' := Lib.hid H3
  clear H3 hF
  go_wp2_with fail
  refine hBu.mono ?_
  rintro r w3 ⟨rfl, H4, b3⟩
  have hSe := settle_ (H4.fls j x HJ.out) A1 _ c1 HX.out
  rw [← HG.out] at hSe
  have H4' := Lib.hid H4
  clear H4 hBu
  go_wp2_with fail
  refine hSe.mono ?_
  rintro r w4 ⟨⟨u4, rfl⟩, hb4, hv4⟩
  clear hSe
  have H5 : DkP w4 B d mb V s2 (F.set j { x with sy := x.bs.length, fi := true }) ∧ Vol V w3 w4 := H4'.out.settled HJ.out (by rw [← HG.out]; exact hb4) (by rw [← HG.out]; exact hv4)
  have hR := hrm w4 H5.1
  have V45 := Lib.hid H5.2
  clear H5 hb4 hv4 hrm
  go_wp2_with fail
  refine hR.mono ?_
  rintro r w5 ⟨⟨u5, rfl⟩, hG⟩
  have y2 : w5.cell? ⟨d, 2, none⟩ = some (.map (some mb)) := hG.dk.blk.cell 2
  obtain ⟨d2, e2, hm2, hg2⟩ := fdel_yes hG.dk HI.out 0
  have e2' : (Builtin.delete_ #[78, 9] 0 #[.map (some mb), .string p]).run Try.prog w5 = .ok (.tuple #[]) d2 := by rw [← HP.out]; exact e2
  have vol2 : Vol (fun b => b = mb) w5 d2 := (Vol.refl w5).grown hg2 (fun k hk => .inl (by injection hk with hk; exact hk.symm))
  have H7 := hG.dk.erase i (vol2.mono (fun b e => .inr e)) (blk_vol hG.dk.blk vol2 (fun e => blk_map_ne hG.dk.blk hG.dk.mp e)) hm2
  have y3 : d2.cell? ⟨d, 2, none⟩ = some (.map (some mb)) := H7.blk.cell 2
  obtain ⟨d3, e3, hm3, hg3⟩ := fput_no H7 (p := q) (fun k y hy => by
    obtain ⟨k', hk, _⟩ := fget_erase hy
    exact hG.no k' y hk) g
  have vol3 : Vol (fun b => b = mb) d2 d3 := (Vol.refl d2).grown hg3 (fun k hk => .inl (by injection hk with hk; exact hk.symm))
  have vol53 : Vol (fun b => b = d ∨ b = mb) w5 d3 := Vol.trans (V := fun b => b = d ∨ b = mb) (vol2.mono (fun b e => .inr e)) vol3 (fun b e => .inl (.inr e))
  have hM := hG.dk.move (q := q) (s' := { s2 with u := s2.u - t }) HI.out (fun k y hy _ => hG.no k y hy) vol53 (blk_vol H7.blk vol3 (fun e => blk_map_ne H7.blk H7.mp e)) (by
    rw [List.map_append]
    show MapB d3 mb ((G.eraseIdx i).map fiE ++ [(.string q, .pointer (some ⟨x.g, 0, none⟩))])
    rw [← HG.out]
    exact hm3)
  have HM := Lib.hid hM
  have HG' := Lib.hid hG
  have V53 := Lib.hid vol53
  clear hR hG e2 hm2 hg2 vol2 H7 hm3 hg3 vol3 vol53 hM
  go_wp2_with fail
  go_ret
  refine ⟨rfl, HM.out, ?_⟩
  have z1 : Vol V w w3 := ((Vol.of_below ((HB.out.trans (b1.mono HB.out.size)).trans (b2.mono (Nat.le_trans HB.out.size b1.size)))).trans b3 (fun b e => .inl e))
  refine ((z1.trans V45.out (fun b e => .inl e)).trans HG'.out.vol (fun b e => .inl e)).trans V53.out ?_
  rintro b (e | e)
  · exact .inl (by rw [e]; exact HG'.out.dk.vm.1)
  · exact .inl (by rw [e]; exact HG'.out.dk.vm.2)
set_option maxHeartbeats 8000000 in
theorem Append_dies (H : DkP w B d mb V s F) (hp : p.toList.isEmpty = false) (hs : s.de = false) {s2 : Ds} (hbs : burnS s s2 7) (hq : 0 ≤ s.q ∧ s.q ≤ 65536) (hu : 0 ≤ s.u ∧ s.u ≤ 65536) {n c : Nat} {A : Option Addr} (hn : (n : Int) ≤ s.q - s.u) :
    Calls Try.prog 16 #[.pointer (some ⟨d, 0, none⟩), .string p, .slice A n c] w fun r w' => r = .returned (.int .i64 7) ∧ DkP w' B d mb V s2 F ∧ Vol V w w' := by
  obtain ⟨W, hW⟩ : ∃ W, W = w.alloc (.cells #[.string p] 9) := ⟨_, rfl⟩
  have hbW : Below w.heap.size w W := by rw [hW]; exact (Below.refl _ _).alloc (Nat.le_refl _) _
  have hkW : Blk W w.heap.size 9 #[.string p] := by rw [hW]; exact Blk.new _ _ _
  have H1 := H.below hbW
  have hRf := refuse1 H1.blk hs hkW hp
  have k1 : decide (s.q - s.u < (n : Int)) = false := by simpa using hn
  have HW := Lib.hid hW
  have HH := Lib.hid H1
  have HB := Lib.hid hbW
  clear hW H H1 hbW hkW
  go_enter Try.func16, Try.ntmps16
  go_wp2_with fail
  rw [← HW.out]
  refine hRf.mono ?_
  rintro r w1 ⟨rfl, b1⟩
  have H2 := HH.out.below b1
  have hRm := Room_ H2.blk hq hu
  have H2' := Lib.hid H2
  clear hRf H2
  go_wp2_with fail
  refine hRm.mono ?_
  rintro r w2 ⟨rfl, b2⟩
  have hBu := burn_all (H2'.out.below b2) hbs
  clear hRm
  go_wp2_with fail
  refine hBu.mono ?_
  rintro r w3 ⟨rfl, H4, b3⟩
  clear hBu
  go_wp2_with fail
  go_ret
  exact ⟨rfl, H4, (Vol.of_below ((HB.out.trans (b1.mono HB.out.size)).trans (b2.mono (Nat.le_trans HB.out.size b1.size)))).trans b3 (fun b e => .inl e)⟩
set_option maxHeartbeats 8000000 in
theorem Sync_dies (H : DkP w B d mb V s F) {j : Nat} {x : Fi} (hj : F[j]? = some x) (hxp : x.p = p) (hp : p.toList.isEmpty = false) (hs : s.de = false) {s2 : Ds} (hbs : burnS s s2 7) :
    Calls Try.prog 25 #[.pointer (some ⟨d, 0, none⟩), .string p] w fun r w' => r = .returned (.int .i64 7) ∧ DkP w' B d mb V s2 F ∧ Vol V w w' := by
  have hF := find_yes H hj hxp hp hs
  have HH := Lib.hid H
  clear hj H
  go_enter Try.func25, Try.ntmps25
  go_wp2_with fail
  refine hF.mono ?_
  rintro r w1 ⟨rfl, b1⟩
  have hBu := burn_all (HH.out.below b1) hbs
  clear hF
  go_wp2_with fail
  refine hBu.mono ?_
  rintro r w3 ⟨rfl, H4, b3⟩
  clear hBu
  go_wp2_with fail
  go_ret
  exact ⟨rfl, H4, (Vol.of_below b1).trans b3 (fun b e => .inl e)⟩
set_option maxHeartbeats 8000000 in
theorem Rename_dies {q : ByteArray} (H : DkP w B d mb V s F) {j : Nat} {x : Fi} (hj : F[j]? = some x) (hxp : x.p = p) (hp : p.toList.isEmpty = false) (hq : q.toList.isEmpty = false) (hs : s.de = false) {s2 : Ds} (hbs : burnS s s2 7) :
    Calls Try.prog 19 #[.pointer (some ⟨d, 0, none⟩), .string p, .string q] w fun r w' => r = .returned (.int .i64 7) ∧ DkP w' B d mb V s2 F ∧ Vol V w w' := by
  obtain ⟨W, hW⟩ : ∃ W, W = w.alloc (.cells #[.string p, .string q] 9) := ⟨_, rfl⟩
  have hbW : Below w.heap.size w W := by rw [hW]; exact (Below.refl _ _).alloc (Nat.le_refl _) _
  have hkW : Blk W w.heap.size 9 #[.string p, .string q] := by rw [hW]; exact Blk.new _ _ _
  have H1 := H.below hbW
  have hRf := refuse2 H1.blk hs hkW hp hq
  have HW := Lib.hid hW
  have HJ := Lib.hid hj
  have HH := Lib.hid H1
  have HB := Lib.hid hbW
  clear hW hj H H1 hbW hkW
  go_enter Try.func19, Try.ntmps19
  go_wp2_with fail
  rw [← HW.out]
  refine hRf.mono ?_
  rintro r w1 ⟨rfl, b1⟩
  have H2 := HH.out.below b1
  have hF := find_yes H2 HJ.out hxp hp hs
  have H2' := Lib.hid H2
  clear H2 hRf
  go_wp2_with fail
  refine hF.mono ?_
  rintro r w2 ⟨rfl, b2⟩
  have hBu := burn_all (H2'.out.below b2) hbs
  clear hF
  go_wp2_with fail
  refine hBu.mono ?_
  rintro r w3 ⟨rfl, H4, b3⟩
  clear hBu
  go_wp2_with fail
  go_ret
  exact ⟨rfl, H4, (Vol.of_below ((HB.out.trans (b1.mono HB.out.size)).trans (b2.mono (Nat.le_trans HB.out.size b1.size)))).trans b3 (fun b e => .inl e)⟩
end
end Go.Proofs.Ytplmfmcogbdpjaa.Dk
