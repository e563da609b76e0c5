/- A disk: Append onto a file that is there. -/
import Derived.Test.YtplmfmcogbdpjaaDk3
namespace Go.Proofs.Ytplmfmcogbdpjaa.Dk
open Go Go.RowKit Go.Proofs.Ytplmfmcogbdpjaa Go.Proofs.Ytplmfmcogbdpjaa.Crw Go.Proofs.Ytplmfmcogbdpjaa.Vl Go.ChangeShapes Go.WideShapes Go.ChangeAt
set_option linter.unusedVariables false
set_option maxRecDepth 100000
section
variable {w w' : World} {B d mb : Nat} {U V : Nat → Prop} {s s' : Ds} {F : List Fi} {p : ByteArray}
set_option maxHeartbeats 16000000 in
theorem Append_old (H : DkP w B d mb V s F) {j : Nat} {x : Fi} (hj : F[j]? = some x) (hxp : x.p = p) (hp : p.toList.isEmpty = false) (hs : s.de = false ∧ s.fu = false) (hq : 0 ≤ s.q ∧ s.q ≤ 65536) (hu : 0 ≤ s.u ∧ s.u ≤ 65536) (hxl : x.bs.length ≤ 65536)
    {B' n c : Nat} {A : Option Addr} {bs : List Int} (hr : Reads w B' 1 A n (bsV bs)) (hB : B' ≤ w.heap.size) (hA : ∀ ad, A = some ad → ¬ V ad.block) (hn : (n : Int) ≤ s.q - s.u) :
    Calls Try.prog 16 #[.pointer (some ⟨d, 0, none⟩), .string p, .slice A n c] w fun r w' => r = .returned (.int .i64 0) ∧ ∃ V' v, DkP w' B d mb V' { s with u := s.u + n } (F.set j { x with v := v, bs := x.bs ++ bs }) ∧ Vol V w w' ∧ (∀ b, V' b → V b ∨ w.heap.size ≤ b) := by
  obtain ⟨i0, hi, hz0, hz1, hz2⟩ := info_parts byte_infoD
  obtain ⟨W, hW⟩ : ∃ W, W = w.alloc (.cells #[.string p] 9) := ⟨_, rfl⟩
  have hbW : Below w.heap.size w W := by rw [hW]; exact (Below.refl _ _).alloc (Nat.le_refl _) _
  have hkW : Blk W w.heap.size 9 #[.string p] := by rw [hW]; exact Blk.new _ _ _
  have H1 := H.below hbW
  have hRf := refuse1 H1.blk hs.1 hkW hp
  have k1 : decide (s.q - s.u < (n : Int)) = false := by simpa using hn
  have k2 : IntKind.i64.wrap (s.u + (n : Int)) = s.u + n := IntWalk.i64_in _ (by omega)
  have hv := (H.rows j x hj)
  obtain ⟨L, hL⟩ : ∃ L, L = x.bs.length := ⟨_, rfl⟩
  obtain ⟨A1, c1, hxv, -, -⟩ := own_slice hv
  rw [← hL] at hxv hxl
  obtain ⟨g, hg⟩ : ∃ g, g = x.g := ⟨_, rfl⟩
  have HW := Lib.hid hW
  have HJ := Lib.hid hj
  have HP := Lib.hid hxp
  have HR := Lib.hid hr
  have HH := Lib.hid H1
  have HB := Lib.hid hbW
  have HL := Lib.hid hL
  have HXV := Lib.hid hxv
  have HG := Lib.hid hg
  clear hW hj hr H H1 hbW hkW hxp hL hxv hv hg
  go_enter Try.func16, Try.ntmps16
  go_upto_region 13 with (first | (go_at_call 61; rw [← HW.out]; refine hRf.mono ?_; rintro r w1 ⟨rfl, b1⟩; have H2 := HH.out.below b1; have hRm := Room_ H2.blk hq hu; have H2' := Lib.hid H2; clear H2) | (go_at_call 15; refine hRm.mono ?_; rintro r w2 ⟨rfl, b2⟩; have H3 := H2'.out.below b2; have hBu := burn0 H3.blk hs.2; have H3' := Lib.hid H3; clear H3) | (go_at_call 62; refine hBu.mono ?_; rintro r w3 ⟨rfl, b3⟩; have H4 := H3'.out.below b3; have c2 : w3.cell? ⟨d, 2, none⟩ = some (.map (some mb)) := H4.blk.cell 2; have l3 := flook_yes H4 HJ.out true; rw [HP.out] at l3; unfold fptr at l3; rw [← HG.out] at l3; have H4' := Lib.hid H4; clear H4))
  have bw3 : Below w.heap.size w w3 := ((HB.out.trans (b1.mono HB.out.size)).trans (b2.mono (Nat.le_trans HB.out.size b1.size))).trans (b3.mono (Nat.le_trans HB.out.size (Nat.le_trans b1.size b2.size)))
  have hk1 : Blk w3 g 86 (fiC x) := by rw [HG.out]; exact H4'.out.fls j x HJ.out
  have hd1 := H4'.out.blk
  have ho1 : w3.ownsRow B 5 1 (.slice A1 L c1) L (bsV x.bs) := by have h := H4'.out.rows j x HJ.out; rw [HXV.out, ← HL.out] at h; exact h
  have hr1 : Reads w3 B' 1 A n (bsV bs) := reads_vol (U := fun _ => False) HR.out hB (Vol.of_below bw3) (fun _ _ h => h)
  have x0 : w3.cell? ⟨g, 0, none⟩ = some (.slice A1 L c1) := by rw [← HXV.out]; exact hk1.cell 0
  have hgo : Hid (some g ≠ (Value.slice A1 L c1).ownBlock) := Lib.hid (fun e => own_blk_ne ho1 hk1 (by decide) e.symm)
  have hdo : Hid (some d ≠ (Value.slice A1 L c1).ownBlock) := Lib.hid (fun e => own_blk_ne ho1 hd1 (by decide) e.symm)
  have HK1 := Lib.hid hk1
  have HD1 := Lib.hid hd1
  have HR1 := Lib.hid hr1
  have HBW := Lib.hid bw3
  have HO1 := Lib.hid ho1
  have hBd : Hid (B ≤ w3.heap.size) := Lib.hid (Nat.le_trans (H4'.out.ge d H4'.out.vm.1) (Nat.le_of_lt hd1.lt))
  clear bw3 hk1 hd1 hr1 ho1 b1 b2 b3 HR HB HW hRf hRm hBu l3 c2
  go_upto_region 14 with (at_builtin; refine wpList_append_any _ rfl _ _ 28 rfl B 5 i0 (.int .u8 0) 1 1 Try.underlying28 hi hz0 hz1 hz2 rfl (by decide) (.slice A1 L c1) L (bsV x.bs) rfl HO1.out B' A n c (bsV bs) rfl HR1.out (bsV_one bs) (by simp only [maxLen]; omega) (by omega) hBd.out ?_; intro v2 d2 hown2 hg2 hn2; obtain ⟨A2, c2', rfl, -, -⟩ := own_slice hown2; have hk2 := HK1.out.grown hg2 hgo.out; have f2 : d2.frozen? ⟨g, 0, none⟩ = false := hk2.frozen 0; have c20 : d2.cell? ⟨g, 0, none⟩ = some (.slice A1 L c1) := (by rw [← HXV.out]; exact hk2.cell 0); have HK2 := Lib.hid hk2; have HO2 := Lib.hid hown2; have HG2 := Lib.hid hg2; have HN2 := Lib.hid hn2; clear hk2 hown2 hg2 hn2)
  obtain ⟨d3, hd3⟩ : ∃ d3, d3 = d2.setCell ⟨g, 0, none⟩ (.slice A2 (L + n) c2') := ⟨_, rfl⟩
  rw [← hd3]
  have hdg : d ≠ g := HD1.out.ne_ HK1.out (by decide)
  have hk3 := HK2.out.set_ 0 (.slice A2 (L + n) c2')
  have hd30 := (HD1.out.grown HG2.out hdo.out).far (fun e => hdg e) (p := ⟨g, 0, none⟩) (.slice A2 (L + n) c2')
  have ho3 := own_far (i := 0) (u := .slice A2 (L + n) c2') HO2.out HK2.out (by decide)
  have v3 : Vol (fun b => b = g ∨ x.v.ownBlock = some b) w3 d3 := by
    rw [hd3]
    exact Vol.setCell (V := fun b => b = g ∨ x.v.ownBlock = some b) (a := ⟨g, 0, none⟩) ((Vol.refl w3).grown HG2.out (fun k hk => .inl (.inr (by rw [HXV.out]; exact hk)))) (.inl (.inl rfl)) _
  rw [← hd3] at hk3 hd30 ho3
  have y1 : d3.cell? ⟨d, 1, none⟩ = some (.int .i64 s.u) := hd30.cell 1
  have f3 : d3.frozen? ⟨d, 1, none⟩ = false := hd30.frozen 1
  have HK3 := Lib.hid hk3
  have HD3 := Lib.hid hd30
  have HO3 := Lib.hid ho3
  have HV3 := Lib.hid v3
  have HDG := Lib.hid hdg
  clear hk3 hd30 ho3 v3 hdg f2 c20 hd3 x0
  go_wp2_with fail
  go_ret
  obtain ⟨dF, hdF⟩ : ∃ dF, dF = d3.setCell ⟨d, 1, none⟩ (.int .i64 (s.u + n)) := ⟨_, rfl⟩
  rw [← hdF]
  have vF : Vol (fun b => b = d) d3 dF := by rw [hdF]; exact Vol.setCell (V := fun b => b = d) (a := ⟨d, 1, none⟩) (Vol.refl d3) (.inl rfl) _
  have vF3 : Vol (fun b => b = d ∨ b = x.g ∨ x.v.ownBlock = some b) w3 dF := (HV3.out.mono (fun b e => .inr (e.imp (fun e => by rw [e, HG.out]) id))).trans vF (fun b e => .inl (.inl e))
  have hkF := HK3.out.far (fun e => HDG.out e.symm) (p := ⟨d, 1, none⟩) (.int .i64 (s.u + n))
  have hdF' := HD3.out.set_ 1 (.int .i64 (s.u + n))
  have hoF := own_far (i := 1) (u := .int .i64 (s.u + n)) HO3.out HD3.out (by decide)
  rw [← hdF] at hkF hdF' hoF
  have hsw : w.heap.size ≤ w3.heap.size := HBW.out.size
  have hl : bs.length = n := by have := HR1.out.1; simpa using this
  refine ⟨rfl, _, .slice A2 (L + n) c2', H4'.out.turn (s' := { s with u := s.u + n }) (x' := { x with v := .slice A2 (L + n) c2', bs := x.bs ++ bs }) HJ.out rfl rfl vF3 (by simpa using hdF') (by rw [← HG.out]; simpa using hkF) ?_ ?_, ?_, ?_⟩
  · show dF.ownsRow B 5 1 (.slice A2 (L + n) c2') (x.bs ++ bs).length (bsV (x.bs ++ bs))
    rw [List.length_append, hl, ← HL.out, ← bsV_app]
    exact hoF
  · intro b hb
    rcases HN2.out with h1 | h1
    · exact .inl (by rw [HXV.out, ← h1]; exact hb)
    · rw [hb] at h1
      injection h1 with h1
      exact .inr (by rw [h1]; exact Nat.le_refl _)
  · refine (Vol.of_below HBW.out).trans vF3 ?_
    rintro b (e | e | e)
    · exact .inl (by rw [e]; exact H4'.out.vm.1)
    · exact .inl (by rw [e]; exact (H4'.out.vx j x HJ.out).1)
    · exact .inl ((H4'.out.vx j x HJ.out).2 b e)
  · rintro b (e | ⟨e, _⟩)
    · exact .inl e
    · exact .inr (Nat.le_trans hsw e)
end
end Go.Proofs.Ytplmfmcogbdpjaa.Dk
