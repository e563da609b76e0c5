/- A disk: Append, of a new file and of one that is there. -/
import Derived.Test.YtplmfmcogbdpjaaDk2
namespace Go.Proofs.Ytplmfmcogbdpjaa.Dk
open Go Go.RowKit Go.Proofs.Ytplmfmcogbdpjaa Go.Proofs.Ytplmfmcogbdpjaa.Crw Go.Proofs.Ytplmfmcogbdpjaa.Vl Go.ChangeShapes Go.WideShapes Go.ChangeAt
set_option linter.unusedVariables false
set_option maxRecDepth 100000
theorem byte_infoD : (Try.prog.info? 5).map (fun i => (i.zero, i.size, i.bytes)) = some (some (.int .u8 0), 1, 1) := by kernel_rfl
theorem bsV_one (l : List Int) : ∀ u ∈ bsV l, u.oneCell' = true := by
  intro u hu
  obtain ⟨x, _, rfl⟩ := List.mem_map.1 hu
  rfl
theorem bsV_app (l m : List Int) : bsV l ++ bsV m = bsV (l ++ m) := by simp [bsV]
section
variable {w w' : World} {B d mb : Nat} {U V : Nat → Prop} {s s' : Ds} {F : List Fi} {p : ByteArray}
theorem reads_vol {z n B' : Nat} {A : Option Addr} {xs : List Value} (h : Reads w B' z A n xs) (hB : B' ≤ w.heap.size) (hv : Vol U w w') (hn : ∀ ad, A = some ad → ¬ U ad.block) : Reads w' B' z A n xs :=
  ⟨h.1, fun hp => by
    obtain ⟨ad, e, hb, hc⟩ := h.2 hp
    exact ⟨ad, e, hb, fun j u hu => (World.cell?_of_block (by rw [block_of_add]; exact hv.block _ (Nat.lt_of_lt_of_le hb hB) (hn ad e))).trans (hc j u hu)⟩⟩
set_option maxHeartbeats 16000000 in
theorem Append_new (H : DkP w B d mb V s F) (hno : ∀ (k : Nat) (x : Fi), F[k]? = some x → hitP p x = false) (hp : p.toList.isEmpty = false) (hs : s.de = false ∧ s.fu = false) (hq : 0 ≤ s.q ∧ s.q ≤ 65536) (hu : 0 ≤ s.u ∧ s.u ≤ 65536)
    {B' n c : Nat} {A : Option Addr} {bs : List Int} (hr : Reads w B' 1 A n (bsV bs)) (hB : B' ≤ w.heap.size) (hA : ∀ ad, A = some ad → ¬ V ad.block) (hn : (n : Int) ≤ s.q - s.u) :
    Calls Try.prog 16 #[.pointer (some ⟨d, 0, none⟩), .string p, .slice A n c] w fun r w' => r = .returned (.int .i64 0) ∧ ∃ V' g v, DkP w' B d mb V' { s with u := s.u + n } (F ++ [⟨p, g, v, bs, 0, false⟩]) ∧ Vol V w w' ∧ (∀ b, V' b → V b ∨ w.heap.size ≤ b) := by
  obtain ⟨i0, hi, hz0, hz1, hz2⟩ := info_parts byte_infoD
  obtain ⟨W, hW⟩ : ∃ W, W = w.alloc (.cells #[.string p] 9) := ⟨_, rfl⟩
  have hbW : Below w.heap.size w W := by rw [hW]; exact (Below.refl _ _).alloc (Nat.le_refl _) _
  have hkW : Blk W w.heap.size 9 #[.string p] := by rw [hW]; exact Blk.new _ _ _
  have H1 := H.below hbW
  have hRf := refuse1 H1.blk hs.1 hkW hp
  have k1 : decide (s.q - s.u < (n : Int)) = false := by simpa using hn
  have k2 : IntKind.i64.wrap (s.u + (n : Int)) = s.u + n := IntWalk.i64_in _ (by omega)
  have HW := Lib.hid hW
  have HN := Lib.hid hno
  have HR := Lib.hid hr
  have HH := Lib.hid H1
  have HB := Lib.hid hbW
  clear hW hno hr H H1 hbW hkW
  go_enter Try.func16, Try.ntmps16
  go_upto_region 12 with (first | (go_at_call 61; rw [← HW.out]; refine hRf.mono ?_; rintro r w1 ⟨rfl, b1⟩; have H2 := HH.out.below b1; have hRm := Room_ H2.blk hq hu; have H2' := Lib.hid H2; clear H2) | (go_at_call 15; refine hRm.mono ?_; rintro r w2 ⟨rfl, b2⟩; have H3 := H2'.out.below b2; have hBu := burn0 H3.blk hs.2; have H3' := Lib.hid H3; clear H3) | (go_at_call 62; refine hBu.mono ?_; rintro r w3 ⟨rfl, b3⟩; have H4 := H3'.out.below b3; have c2 : w3.cell? ⟨d, 2, none⟩ = some (.map (some mb)) := H4.blk.cell 2; have l3 := flook_no H4 HN.out true; have H4' := Lib.hid H4; clear H4))
  obtain ⟨W4, hW4⟩ : ∃ W4, W4 = w3.alloc (.cells #[.slice none 0 0, .int .i64 0, .bool false] 86) := ⟨_, rfl⟩
  obtain ⟨g, hg⟩ : ∃ g, g = w3.heap.size := ⟨_, rfl⟩
  have b4 : Below w3.heap.size w3 W4 := by rw [hW4]; exact (Below.refl _ _).alloc (Nat.le_refl _) _
  have hk4 : Blk W4 g 86 #[.slice none 0 0, .int .i64 0, .bool false] := by rw [hW4, hg]; exact Blk.new _ _ _
  have H5 := H4'.out.below b4
  have HB4 := Lib.hid b4
  have c24 : W4.cell? ⟨d, 2, none⟩ = some (.map (some mb)) := H5.blk.cell 2
  obtain ⟨d1, e1, hmp, hg1⟩ := fput_no H5 HN.out g
  rw [← hW4, ← hg]
  have bw4 : Below w.heap.size w W4 := (((HB.out.trans (b1.mono HB.out.size)).trans (b2.mono (Nat.le_trans HB.out.size b1.size))).trans (b3.mono (Nat.le_trans HB.out.size (Nat.le_trans b1.size b2.size)))).trans (b4.mono (Nat.le_trans HB.out.size (Nat.le_trans b1.size (Nat.le_trans b2.size b3.size))))
  have hgw : w.heap.size ≤ g := by rw [hg]; exact Nat.le_trans HB.out.size (Nat.le_trans b1.size (Nat.le_trans b2.size b3.size))
  have hv1 : Vol (fun b => b = mb) W4 d1 := (Vol.refl W4).grown hg1 (fun k hk => .inl (by injection hk with hk; exact hk.symm))
  have hk1 := blk_vol hk4 hv1 (blk_map_ne hk4 H5.mp)
  have hd1 := blk_vol H5.blk hv1 (blk_map_ne H5.blk H5.mp)
  have hr1 : Reads d1 B' 1 A n (bsV bs) := reads_vol (reads_vol (U := fun _ => False) HR.out hB (Vol.of_below bw4) (fun _ _ h => h)) (Nat.le_trans hB bw4.size) hv1 (fun ad e h => hA ad e (by rw [h]; exact H5.vm.2))
  have x0 : d1.cell? ⟨g, 0, none⟩ = some (.slice none 0 0) := hk1.cell 0
  have HG := Lib.hid hg
  have H5' := Lib.hid H5
  have HK1 := Lib.hid hk1
  have HD1 := Lib.hid hd1
  have HR1 := Lib.hid hr1
  have HV1 := Lib.hid hv1
  have HBW := Lib.hid bw4
  have HMP := Lib.hid hmp
  have HGW := Lib.hid hgw
  have hBd : Hid (B ≤ d1.heap.size) := Lib.hid (Nat.le_trans (H5'.out.ge d H5'.out.vm.1) (Nat.le_of_lt hd1.lt))
  clear hg hW4 b4 hk4 H5 hg1 bw4 hgw hv1 hk1 hd1 hr1 hmp b1 b2 b3 HR HB HW hRf hRm hBu l3
  go_upto_region 14 with (at_builtin; refine wpList_append_any _ rfl _ _ 28 rfl B 5 i0 (.int .u8 0) 1 1 Try.underlying28 hi hz0 hz1 hz2 rfl (by decide) (.slice none 0 0) 0 [] rfl ⟨by simp, .inl ⟨rfl, rfl⟩⟩ B' A n c (bsV bs) rfl HR1.out (bsV_one bs) (by simp only [maxLen]; omega) (by omega) hBd.out ?_; intro v2 d2 hown2 hg2 hn2; rw [Nat.zero_add, List.nil_append] at hown2; obtain ⟨A2, c2', rfl, -, -⟩ := own_slice hown2; have hk2 := HK1.out.grown hg2 (by simp [Value.ownBlock]); have f2 : d2.frozen? ⟨g, 0, none⟩ = false := hk2.frozen 0; have c20 : d2.cell? ⟨g, 0, none⟩ = some (.slice none 0 0) := hk2.cell 0; have HK2 := Lib.hid hk2; have HO2 := Lib.hid hown2; have HG2 := Lib.hid hg2; have HN2 := Lib.hid hn2; clear hk2 hown2 hg2 hn2)
  obtain ⟨d3, hd3⟩ : ∃ d3, d3 = d2.setCell ⟨g, 0, none⟩ (.slice A2 n c2') := ⟨_, rfl⟩
  rw [← hd3]
  have hdg : d ≠ g := HD1.out.ne_ HK1.out (by decide)
  have hk3 := HK2.out.set_ 0 (.slice A2 n c2')
  have hd30 := (HD1.out.grown HG2.out (by simp [Value.ownBlock])).far (fun e => hdg e) (p := ⟨g, 0, none⟩) (.slice A2 n c2')
  have ho3 := own_far (i := 0) (u := .slice A2 n c2') HO2.out HK2.out (by decide)
  have v3 : Vol (fun b => b = g) d1 d3 := by
    rw [hd3]
    exact Vol.setCell (V := fun b => b = g) (a := ⟨g, 0, none⟩) ((Vol.refl d1).grown HG2.out (fun k hk => by simp [Value.ownBlock] at hk)) (.inl rfl) _
  rw [← hd3] at hk3 hd30 ho3
  have y1 : d3.cell? ⟨d, 1, none⟩ = some (.int .i64 s.u) := hd30.cell 1
  have f3 : d3.frozen? ⟨d, 1, none⟩ = false := hd30.frozen 1
  have HK3 := Lib.hid hk3
  have HD3 := Lib.hid hd30
  have HO3 := Lib.hid ho3
  have HV3 := Lib.hid v3
  have HDG := Lib.hid hdg
  clear hk3 hd30 ho3 v3 hdg f2 c20 hd3 e1 c24 x0
  go_wp2_with fail
  go_ret
  obtain ⟨dF, hdF⟩ : ∃ dF, dF = d3.setCell ⟨d, 1, none⟩ (.int .i64 (s.u + n)) := ⟨_, rfl⟩
  rw [← hdF]
  have vF : Vol (fun b => b = d) d3 dF := by rw [hdF]; exact Vol.setCell (V := fun b => b = d) (a := ⟨d, 1, none⟩) (Vol.refl d3) (.inl rfl) _
  have vF1 : Vol (fun b => b = d ∨ b = g) d1 dF := (HV3.out.mono (fun b e => .inr e)).trans vF (fun b e => .inl (.inl e))
  have vF4 : Vol (fun b => b = d ∨ b = mb ∨ b = g) W4 dF := (HV1.out.mono (fun b e => .inr (.inl e))).trans vF1 (fun b e => .inl (e.elim .inl (fun e => .inr (.inr e))))
  have vF3 : Vol (fun b => b = d ∨ b = mb) w3 dF := (Vol.of_below HB4.out).trans vF4 (fun b e => e.elim (fun e => .inl (.inl e)) (fun e => e.elim (fun e => .inl (.inr e)) (fun e => .inr (by rw [e, HG.out]; exact Nat.le_refl _))))
  have hkF := HK3.out.far (fun e => HDG.out e.symm) (p := ⟨d, 1, none⟩) (.int .i64 (s.u + n))
  have hdF' := HD3.out.set_ 1 (.int .i64 (s.u + n))
  have hoF := own_far (i := 1) (u := .int .i64 (s.u + n)) HO3.out HD3.out (by decide)
  rw [← hdF] at hkF hdF' hoF
  have hmF := HMP.out.keep (vF1.block _ HMP.out.lt (fun e => e.elim (fun e => blk_map_ne HD1.out HMP.out.at_ e.symm) (fun e => blk_map_ne HK1.out HMP.out.at_ e.symm)))
  have hsz : w3.heap.size ≤ d1.heap.size := Nat.le_trans HB4.out.size HV1.out.size
  have hsw : w.heap.size ≤ w3.heap.size := by rw [← HG.out]; exact HGW.out
  refine ⟨rfl, _, g, .slice A2 n c2', H4'.out.push (s' := { s with u := s.u + n }) ⟨p, g, .slice A2 n c2', bs, 0, false⟩ HN.out vF3 (by simpa using hdF') (by simpa using hmF) (by rw [HG.out]; exact Nat.le_refl _) (by simpa using hkF) ?_ ?_, ?_, ?_⟩
  · have hl : bs.length = n := by have := HR1.out.1; simpa using this
    rw [← hl] at hoF
    rw [hl] at hoF
    show dF.ownsRow B 5 1 (.slice A2 n c2') bs.length (bsV bs)
    rw [hl]
    exact hoF
  · intro b hb
    rcases HN2.out with h1 | h1
    · rw [hb] at h1; simp [Value.ownBlock] at h1
    · rw [hb] at h1
      injection h1 with h1
      rw [h1]
      exact hsz
  · refine (Vol.of_below HBW.out).trans vF4 ?_
    rintro b (e | e | e)
    · exact .inl (by rw [e]; exact H4'.out.vm.1)
    · exact .inl (by rw [e]; exact H4'.out.vm.2)
    · exact .inr (by rw [e]; exact HGW.out)
  · rintro b (e | ⟨e, _⟩)
    · exact .inl e
    · exact .inr (Nat.le_trans hsw e)
end
end Go.Proofs.Ytplmfmcogbdpjaa.Dk
