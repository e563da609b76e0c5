/- The hands: a run that is started for the first time. -/
import Derived.Test.YtiflhfhonhbcpaaHan2
namespace Go.Proofs.Ytiflhfhonhbcpaa.Han
open Go Go.RowKit Go.Proofs.Ytiflhfhonhbcpaa Go.Proofs.Ytiflhfhonhbcpaa.Crw Go.Proofs.Ytiflhfhonhbcpaa.Mas Go.ChangeShapes Go.WideShapes Go.ChangeAt
set_option linter.unusedVariables false
set_option maxRecDepth 100000
section
variable {w w' : World} {B h xb sb kb : Nat} {V U : Nat → Prop} {R : List Pr} {S : List Int} {v : Value}
theorem prp_info : (Try.prog.info? 94).map (fun i => (i.zero, i.size, i.bytes)) = some (some (.pointer none), 1, 8) := by kernel_rfl
set_option maxHeartbeats 16000000 in
theorem Start_no (H : HnP w B h xb sb kb V R S v) {n : Int} (hn : n ∉ S) (hl : R.length ≤ 100) :
    Calls Try.prog 44 #[.pointer (some ⟨h, 0, none⟩), rk n] w fun r w' => ∃ c V' v' g, r = .returned (.slice (some ⟨c, 0, none⟩) 1 1) ∧ Blk w' c 30 (abC 7 n) ∧ w.heap.size ≤ c ∧ ¬ V' c ∧ HnP w' B h xb sb kb V' (R ++ [⟨g, n⟩]) (S ++ [n]) v' ∧ (∀ b, V b → V' b) ∧ (∀ b, V' b → V b ∨ w.heap.size ≤ b) ∧ Vol V w w' := by
  obtain ⟨A0, c0, hv0, hc0, -⟩ := own_slice H.row
  obtain ⟨i0, hi0, hz0, hz1, hz2⟩ := info_parts prp_info
  obtain ⟨W, hW⟩ : ∃ W, W = w.alloc (.cells #[.string rF, .string rE, .int .i64 n] 90) := ⟨_, rfl⟩
  obtain ⟨gr, hgr⟩ : ∃ gr, gr = w.heap.size := ⟨_, rfl⟩
  have hb : Below w.heap.size w W := by rw [hW]; exact (Below.refl _ _).alloc (Nat.le_refl _) _
  have hk : Blk W gr 90 #[.string rF, .string rE, .int .i64 n] := by rw [hW, hgr]; exact Blk.new _ _ _
  have HW := Lib.hid hW
  have HG := Lib.hid hgr
  have HN := Lib.hid hn
  have HVl := Lib.hid H.lt
  have hl0 : ∀ {wa : World}, HnP wa B h xb sb kb V R S v → (Instr.lookup 84 (.map (some sb)) (rk n) true).run Try.prog wa = .ok (.tuple #[.agg #[], .bool false]) wa := fun H => sd_no H.sd hn
  have keep : ∀ {wa wb : World}, (wa.cell? ⟨h, 2, none⟩ = some (.map (some sb)) ∧ wa.cell? ⟨gr, 0, none⟩ = some (.string rF) ∧ wa.cell? ⟨gr, 1, none⟩ = some (.string rE) ∧ wa.cell? ⟨gr, 2, none⟩ = some (.int .i64 n) ∧ (Instr.lookup 84 (.map (some sb)) (rk n) true).run Try.prog wa = .ok (.tuple #[.agg #[], .bool false]) wa ∧ (HnP wa B h xb sb kb V R S v ∧ Blk wa gr 90 #[.string rF, .string rE, .int .i64 n] ∧ Below w.heap.size w wa)) → Below wa.heap.size wa wb → (wb.cell? ⟨h, 2, none⟩ = some (.map (some sb)) ∧ wb.cell? ⟨gr, 0, none⟩ = some (.string rF) ∧ wb.cell? ⟨gr, 1, none⟩ = some (.string rE) ∧ wb.cell? ⟨gr, 2, none⟩ = some (.int .i64 n) ∧ (Instr.lookup 84 (.map (some sb)) (rk n) true).run Try.prog wb = .ok (.tuple #[.agg #[], .bool false]) wb ∧ (HnP wb B h xb sb kb V R S v ∧ Blk wb gr 90 #[.string rF, .string rE, .int .i64 n] ∧ Below w.heap.size w wb)) := fun k hb => by
    obtain ⟨_, _, _, _, _, k6, k7, k8⟩ := k
    have j6 := k6.below hb
    have j7 := k7.below hb k7.lt
    exact ⟨j6.blk.cell 2, j7.cell 0, j7.cell 1, j7.cell 2, hl0 j6, j6, j7, k8.trans (hb.mono k8.size)⟩
  have hD : ∀ {wa : World}, Below wa.heap.size wa wa.drew := (Below.refl _ _).drew
  have hA : ∀ {wa : World} {o : Obj}, Below wa.heap.size wa (wa.alloc o) := (Below.refl _ _).alloc (Nat.le_refl _) _
  have h7 := H.below hb
  have hS0 : (W.cell? ⟨h, 2, none⟩ = some (.map (some sb)) ∧ W.cell? ⟨gr, 0, none⟩ = some (.string rF) ∧ W.cell? ⟨gr, 1, none⟩ = some (.string rE) ∧ W.cell? ⟨gr, 2, none⟩ = some (.int .i64 n) ∧ (Instr.lookup 84 (.map (some sb)) (rk n) true).run Try.prog W = .ok (.tuple #[.agg #[], .bool false]) W ∧ (HnP W B h xb sb kb V R S v ∧ Blk W gr 90 #[.string rF, .string rE, .int .i64 n] ∧ Below w.heap.size w W)) := ⟨h7.blk.cell 2, hk.cell 0, hk.cell 1, hk.cell 2, hl0 h7, h7, hk, hb⟩
  clear hW hgr hb hk h7 hl0 H hn
  go_enter Try.func44, Try.ntmps44
  go_upto_region 1 with fail
  rw [← HW.out, ← HG.out]
  go_cut [6] from 5 to 16 (fun v6 wx => Hid (v6 = .bool false ∧ HnP wx B h xb sb kb V R S v ∧ Blk wx gr 90 #[.string rF, .string rE, .int .i64 n] ∧ Below w.heap.size w wx ∧ ∃ w9, w9 = wx))
  case first =>
    go_region_held3 (fun wa => wa.cell? ⟨h, 2, none⟩ = some (.map (some sb)) ∧ wa.cell? ⟨gr, 0, none⟩ = some (.string rF) ∧ wa.cell? ⟨gr, 1, none⟩ = some (.string rE) ∧ wa.cell? ⟨gr, 2, none⟩ = some (.int .i64 n) ∧ (Instr.lookup 84 (.map (some sb)) (rk n) true).run Try.prog wa = .ok (.tuple #[.agg #[], .bool false]) wa ∧ (HnP wa B h xb sb kb V R S v ∧ Blk wa gr 90 #[.string rF, .string rE, .int .i64 n] ∧ Below w.heap.size w wa)) (first | assumption | exact keep (by assumption) (by assumption) | exact keep (by assumption) hD | exact keep (by assumption) hA | exact keep (keep (by assumption) hD) hA) (first | fail)
    all_goals
      rename_i hHeld
      go_wp2_with fail
      go_meet
      exact Lib.hid ⟨rfl, hHeld.2.2.2.2.2.1, hHeld.2.2.2.2.2.2.1, hHeld.2.2.2.2.2.2.2, _, rfl⟩
  case rest =>
    obtain ⟨rfl, h9, hk9, hb9, w9, hw9⟩ := hcut.out
    subst hw9
    clear hcut hS0 keep hD hA
    have k0 : w9.cell? ⟨gr, 0, none⟩ = some (.string rF) := hk9.cell 0
    have k1 : w9.cell? ⟨gr, 1, none⟩ = some (.string rE) := hk9.cell 1
    have k2 : w9.cell? ⟨gr, 2, none⟩ = some (.int .i64 n) := hk9.cell 2
    have H9 := Lib.hid h9
    have HK9 := Lib.hid hk9
    have HB9 := Lib.hid hb9
    clear h9 hk9 hb9
    go_upto_region 5 with fail
    clear k0 k1 k2
    obtain ⟨g, hg⟩ : ∃ g, g = w9.heap.size := ⟨_, rfl⟩
    obtain ⟨d0, hd0⟩ : ∃ d0, d0 = w9.alloc (Obj.cells (prC n) 98) := ⟨_, rfl⟩
    rw [← hd0, ← hg]
    have hb0 : Below w9.heap.size w9 d0 := by rw [hd0]; exact (Below.refl _ _).alloc (Nat.le_refl _) _
    have hp0 : Blk d0 g 98 (prC n) := by rw [hd0, hg]; exact Blk.new _ _ _
    have h0 := H9.out.below hb0
    have hk0 := HK9.out.below hb0 HK9.out.lt
    have a1 : d0.cell? ⟨h, 2, none⟩ = some (.map (some sb)) := h0.blk.cell 2
    have a2 : d0.cell? ⟨gr, 0, none⟩ = some (.string rF) := hk0.cell 0
    have a3 : d0.cell? ⟨gr, 1, none⟩ = some (.string rE) := hk0.cell 1
    have a4 : d0.cell? ⟨gr, 2, none⟩ = some (.int .i64 n) := hk0.cell 2
    obtain ⟨d1, e1, hs1, hg1⟩ := sd_put (w := d0.drew) h0.sd HN.out
    have HP0 := Lib.hid hp0
    have H0 := Lib.hid h0
    have HK0 := Lib.hid hk0
    have HB0 := Lib.hid hb0
    have HS1 := Lib.hid hs1
    have HG1 := Lib.hid hg1
    have HGG := Lib.hid hg
    have HV0 := Lib.hid hv0
    clear hp0 h0 hk0 hb0 hs1 hg1 hd0 hg hv0
    go_region
    have v1 : Vol (fun b => b = sb) d0 d1 := (Vol.refl d0).drew.grown HG1.out (fun k hk => .inl (by injection hk with hk; exact hk.symm))
    have bh1 := blk_vol H0.out.blk v1 (blk_map_ne H0.out.blk H0.out.sd)
    have bk1 := blk_vol HK0.out v1 (blk_map_ne HK0.out H0.out.sd)
    have bp1 := blk_vol HP0.out v1 (blk_map_ne HP0.out H0.out.sd)
    have br1 := own_vol H0.out.row v1 (fun b hb e => own_map_ne H0.out.row H0.out.sd (by rw [hb, e]))
    have bx1 := H0.out.ex.keep (v1.block _ H0.out.ex.lt H0.out.ne)
    obtain ⟨d2, e2, hx2, hg2⟩ := ex_put (w := d1.drew) (n := n) bx1 (fun k p hp e => HN.out (by rw [← e]; exact H0.out.sub k p hp)) g
    have a5 : d1.cell? ⟨h, 1, none⟩ = some (.map (some xb)) := bh1.cell 1
    have a6 : d1.cell? ⟨gr, 0, none⟩ = some (.string rF) := bk1.cell 0
    have a7 : d1.cell? ⟨gr, 1, none⟩ = some (.string rE) := bk1.cell 1
    have a8 : d1.cell? ⟨gr, 2, none⟩ = some (.int .i64 n) := bk1.cell 2
    have HV1 := Lib.hid v1
    have HH1 := Lib.hid bh1
    have HK1 := Lib.hid bk1
    have HP1 := Lib.hid bp1
    have HR1 := Lib.hid br1
    have HX1 := Lib.hid bx1
    have HX2 := Lib.hid hx2
    have HG2 := Lib.hid hg2
    clear v1 bh1 bk1 bp1 br1 bx1 hx2 hg2 a1 a2 a3 a4 e1
    go_upto_region 6 with fail
    go_region
    have v2 : Vol (fun b => b = xb) d1 d2 := (Vol.refl d1).drew.grown HG2.out (fun k hk => .inl (by injection hk with hk; exact hk.symm))
    have bh2 := blk_vol HH1.out v2 (blk_map_ne HH1.out HX1.out)
    have bk2 := blk_vol HK1.out v2 (blk_map_ne HK1.out HX1.out)
    have bp2 := blk_vol HP1.out v2 (blk_map_ne HP1.out HX1.out)
    have br2 := own_vol HR1.out v2 (fun b hb e => own_map_ne HR1.out HX1.out (by rw [hb, e]))
    have bs2 := HS1.out.keep (v2.block _ HS1.out.lt (fun e => H0.out.ne e.symm))
    obtain ⟨L, hL⟩ : ∃ L, L = R.length := ⟨_, rfl⟩
    have hl2 : L ≤ 100 := by omega
    have a9 : d2.cell? ⟨h, 0, none⟩ = some (.slice A0 L c0) := by rw [hL, ← HV0.out]; exact bh2.cell 0
    rw [HV0.out, ← hL] at br2
    rw [← hL] at hc0
    have b1 : d2.cell? ⟨gr, 0, none⟩ = some (.string rF) := bk2.cell 0
    have b2 : d2.cell? ⟨gr, 1, none⟩ = some (.string rE) := bk2.cell 1
    have b3 : d2.cell? ⟨gr, 2, none⟩ = some (.int .i64 n) := bk2.cell 2
    have HV2 := Lib.hid v2
    have HH2 := Lib.hid bh2
    have HK2 := Lib.hid bk2
    have HP2 := Lib.hid bp2
    have HR2 := Lib.hid br2
    have HS2 := Lib.hid bs2
    have HL := Lib.hid hL
    clear v2 bh2 bk2 bp2 br2 bs2 a5 a6 a7 a8 e2 hL hl
    go_upto_region 8 with (at_builtin; refine wpList_append_any _ rfl _ _ 86 rfl B 94 i0 (.pointer none) 1 8 Try.underlying86 hi0 hz0 hz1 hz2 rfl (by decide) _ _ (R.map ptr) rfl (HR2.out.alloc _) (d2.alloc (.cells #[.pointer (some ⟨g, 0, none⟩)] 94)).heap.size (some ⟨d2.heap.size, 0, none⟩) 1 1 [.pointer (some ⟨g, 0, none⟩)] rfl (reads_one d2 (.pointer (some ⟨g, 0, none⟩)) 94) (by simp [Value.oneCell']) (by simp only [maxLen]; omega) (by omega) (by have := H9.out.ge h H9.out.vm.1; have := HH2.out.lt; simp; omega) ?_; intro v7 w7 hown7 hg7 hn7; obtain ⟨A7, c7, rfl, hc7, -⟩ := own_slice hown7; have hg7 : (d2.alloc (.cells #[.pointer (some ⟨g, 0, none⟩)] 94)).grownBy w7 (Value.slice A0 L c0).ownBlock := hg7; have bh7 := (HH2.out.alloc (.cells #[.pointer (some ⟨g, 0, none⟩)] 94)).grown hg7 (fun e => own_blk_ne HR2.out HH2.out (by decide) e.symm); have f7 : w7.frozen? ⟨h, 0, none⟩ = false := bh7.frozen 0; have c70 : w7.cell? ⟨h, 0, none⟩ = some (.slice A0 L c0) := by (rw [HL.out, ← HV0.out]; exact bh7.cell 0))
    have bk7 := (HK2.out.alloc (.cells #[.pointer (some ⟨g, 0, none⟩)] 94)).grown hg7 (fun e => own_blk_ne HR2.out HK2.out (by decide) e.symm)
    have bp7 := (HP2.out.alloc (.cells #[.pointer (some ⟨g, 0, none⟩)] 94)).grown hg7 (fun e => own_blk_ne HR2.out HP2.out (by decide) e.symm)
    obtain ⟨w8, hw8⟩ : ∃ w8, w8 = w7.setCell ⟨h, 0, none⟩ (.slice A7 (L + 1) c7) := ⟨_, rfl⟩
    rw [← hw8]
    have hgk : h ≠ gr := bh7.ne_ bk7 (by decide)
    have hgp : h ≠ g := bh7.ne_ bp7 (by decide)
    have v78 : Vol (fun b => b = h ∨ v.ownBlock = some b) d2 w8 := by
      rw [hw8]
      refine (((Vol.refl d2).alloc _).grown hg7 (fun k hk => .inl (.inr ?_))).setCell (.inl (.inl rfl)) _
      rw [HV0.out, ← HL.out]
      exact hk
    have bh8 := bh7.set_ 0 (.slice A7 (L + 1) c7)
    have bk8 := bk7.far (fun e => hgk e.symm) (p := ⟨h, 0, none⟩) (.slice A7 (L + 1) c7)
    have bp8 := bp7.far (fun e => hgp e.symm) (p := ⟨h, 0, none⟩) (.slice A7 (L + 1) c7)
    rw [← hw8] at bh8 bk8 bp8
    have vol : Vol (fun b => b = h ∨ b = xb ∨ b = sb ∨ v.ownBlock = some b) w9 w8 := by
      have u0 : Vol (fun b => b = h ∨ b = xb ∨ b = sb ∨ v.ownBlock = some b) w9 d0 := Vol.of_below HB0.out
      have u1 := u0.trans HV1.out (fun b e => .inl (.inr (.inr (.inl e))))
      have u2 := u1.trans HV2.out (fun b e => .inl (.inr (.inl e)))
      exact u2.trans v78 (fun b e => .inl (e.elim .inl (fun e => .inr (.inr (.inr e)))))
    have row8 : w8.ownsRow B 94 1 (.slice A7 (L + 1) c7) (L + 1) (R.map ptr ++ [.pointer (some ⟨g, 0, none⟩)]) := by rw [hw8]; exact own_far hown7 bh7 (by decide)
    have nv : ∀ b, v.ownBlock = some b → (Value.slice A0 L c0).ownBlock = some b := fun b e => by rw [HL.out, ← HV0.out]; exact e
    have hx8 := HX2.out.keep (v78.block _ HX2.out.lt (fun e => e.elim (fun e => blk_map_ne HH2.out HX2.out e.symm) (fun e => own_map_ne HR2.out HX2.out (nv _ e))))
    have hs8 := HS2.out.keep (v78.block _ HS2.out.lt (fun e => e.elim (fun e => blk_map_ne HH2.out HS2.out e.symm) (fun e => own_map_ne HR2.out HS2.out (nv _ e))))
    have hn7 : (Value.slice A7 (L + 1) c7).ownBlock = (Value.slice A0 L c0).ownBlock ∨ (Value.slice A7 (L + 1) c7).ownBlock = some (d2.alloc (.cells #[.pointer (some ⟨g, 0, none⟩)] 94)).heap.size := hn7
    have H8 := H9.out.push (v' := .slice A7 (L + 1) c7) ⟨g, n⟩ HN.out vol (by simpa using bh8) hx8 hs8 bp8 (by
      have e1 : (R ++ [Pr.mk g n]).length = L + 1 := by rw [HL.out]; simp
      rw [e1, List.map_append]
      exact row8) (Nat.le_of_eq HGG.out.symm) (fun b e => by
      rcases hn7 with e1 | e1
      · left
        rw [HV0.out, ← HL.out, ← e1]
        exact e
      · right
        rw [e] at e1
        injection e1 with e1
        have s0 := HB0.out.size
        have s1 := HV1.out.size
        have s2 := HV2.out.size
        rw [e1]
        simp
        omega)
    have k80 : w8.cell? ⟨gr, 0, none⟩ = some (.string rF) := bk8.cell 0
    have k81 : w8.cell? ⟨gr, 1, none⟩ = some (.string rE) := bk8.cell 1
    have k82 : w8.cell? ⟨gr, 2, none⟩ = some (.int .i64 n) := bk8.cell 2
    have H8' := Lib.hid H8
    have VOL := Lib.hid vol
    clear H8 vol hn7 hx8 hs8 nv row8 bh8 bk8 bp8 v78 hgk hgp hw8 bh7 bk7 bp7 hg7 hown7 f7 c70 a9 b1 b2 b3
    go_wp2_with (go_at_call 48; refine (About 7 n _).mono ?_; rintro r wA ⟨rfl, hbA⟩)
    go_ret
    have hz := H8'.out.below hbA
    refine ⟨wA.heap.size, _, _, g, rfl, Blk.new wA 30 (abC 7 n), ?_, fun e => absurd (hz.lt _ e) (Nat.lt_irrefl _), hz.below ((Below.refl _ _).alloc (Nat.le_refl _) _), fun b e => .inl e, fun b e => e.imp id (fun e => Nat.le_trans HB9.out.size e.1), ?_⟩
    · exact Nat.le_trans HB9.out.size (Nat.le_trans VOL.out.size hbA.size)
    · have u0 : Vol V w w9 := Vol.of_below HB9.out
      refine ((u0.trans VOL.out (fun b e => ?_)).below hbA).alloc _
      rcases e with rfl | rfl | rfl | e
      · exact .inl H9.out.vm.1
      · exact .inl H9.out.vm.2.1
      · exact .inl H9.out.vm.2.2
      · exact .inl (H9.out.vr b e)
end
end Go.Proofs.Ytiflhfhonhbcpaa.Han
