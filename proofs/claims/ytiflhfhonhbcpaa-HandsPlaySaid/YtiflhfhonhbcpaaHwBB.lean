/- The hands: start, stop, the end of a task. -/
import Derived.Test.YtiflhfhonhbcpaaHwAA
import Derived.Shelf.RegionOpenPlain
import Derived.WalkKit
import Derived.Deep.LoopGhost
import Derived.Deep.RegionLaw
import Derived.Lib.Walk
import Derived.Sort.WalkB12
import Derived.Lib.SliceRun
import Derived.Lib.SlicesDelete
import Derived.Lib.OwnBridge
import Derived.Laws.StructEq
namespace Go.Proofs.Ytiflhfhonhbcpaa.Hw
open Go Go.RowKit Go.Proofs.Ytiflhfhonhbcpaa Go.Proofs.Ytiflhfhonhbcpaa.Crw Go.Proofs.Ytiflhfhonhbcpaa.Vl Go.ChangeShapes Go.WideShapes Go.ChangeAt
set_option linter.unusedVariables false
set_option maxRecDepth 100000
section
variable {w w' : World} {B h xb sb kb : Nat} {V U : Nat → Prop} {R : List Pr} {S : List Pm} {K : List Ky} {v lv : Value}
set_option maxHeartbeats 8000000 in
/-- A run that came before. -/
theorem Start_yes (H : HqP w B h xb sb kb V R S K v lv) {r : Pm} (hn : r ∈ S) :
    Calls Try.prog 44 #[.pointer (some ⟨h, 0, none⟩), rkV r] w fun e9 w' => e9 = .returned (.slice none 0 0) ∧ Below w.heap.size w w' := by
  obtain ⟨W, hW⟩ : ∃ W, W = w.alloc (.cells #[.string r.f, .string r.e, .int .i64 r.n] 90) := ⟨_, rfl⟩
  obtain ⟨gr, hgr⟩ : ∃ gr, gr = w.heap.size := ⟨_, rfl⟩
  have hb : Below w.heap.size w W := by rw [hW]; exact (Below.refl _ _).alloc (Nat.le_refl _) _
  have hk : Blk W gr 90 #[.string r.f, .string r.e, .int .i64 r.n] := by rw [hW, hgr]; exact Blk.new _ _ _
  have HW := Lib.hid hW
  have HG := Lib.hid hgr
  have hl : ∀ {wa : World}, HqP wa B h xb sb kb V R S K v lv → (Instr.lookup 84 (.map (some sb)) (rkV r) true).run Try.prog wa = .ok (.tuple #[.agg #[], .bool true]) wa := fun H => by exact sd_yes H.sd hn
  have keep : ∀ {wa wb : World}, (wa.cell? ⟨h, 2, none⟩ = some (.map (some sb)) ∧ wa.cell? ⟨gr, 0, none⟩ = some (.string r.f) ∧ wa.cell? ⟨gr, 1, none⟩ = some (.string r.e) ∧ wa.cell? ⟨gr, 2, none⟩ = some (.int .i64 r.n) ∧ (Instr.lookup 84 (.map (some sb)) (rkV r) true).run Try.prog wa = .ok (.tuple #[.agg #[], .bool true]) wa ∧ (HqP wa B h xb sb kb V R S K v lv ∧ Blk wa gr 90 #[.string r.f, .string r.e, .int .i64 r.n] ∧ Below w.heap.size w wa)) → Below wa.heap.size wa wb → (wb.cell? ⟨h, 2, none⟩ = some (.map (some sb)) ∧ wb.cell? ⟨gr, 0, none⟩ = some (.string r.f) ∧ wb.cell? ⟨gr, 1, none⟩ = some (.string r.e) ∧ wb.cell? ⟨gr, 2, none⟩ = some (.int .i64 r.n) ∧ (Instr.lookup 84 (.map (some sb)) (rkV r) true).run Try.prog wb = .ok (.tuple #[.agg #[], .bool true]) wb ∧ (HqP wb B h xb sb kb V R S K v lv ∧ Blk wb gr 90 #[.string r.f, .string r.e, .int .i64 r.n] ∧ Below w.heap.size w wb)) := fun k hb => by
    obtain ⟨_, _, _, _, _, k6, k7, k8⟩ := k
    have j6 := k6.below hb
    have j7 := k7.below hb k7.lt
    exact ⟨j6.blk.cell 2, j7.cell 0, j7.cell 1, j7.cell 2, hl j6, j6, j7, k8.trans (hb.mono k8.size)⟩
  have hD : ∀ {wa : World}, Below wa.heap.size wa wa.drew := (Below.refl _ _).drew
  have hA : ∀ {wa : World} {o : Obj}, Below wa.heap.size wa (wa.alloc o) := (Below.refl _ _).alloc (Nat.le_refl _) _
  have h7 := H.below hb
  have hS0 : (W.cell? ⟨h, 2, none⟩ = some (.map (some sb)) ∧ W.cell? ⟨gr, 0, none⟩ = some (.string r.f) ∧ W.cell? ⟨gr, 1, none⟩ = some (.string r.e) ∧ W.cell? ⟨gr, 2, none⟩ = some (.int .i64 r.n) ∧ (Instr.lookup 84 (.map (some sb)) (rkV r) true).run Try.prog W = .ok (.tuple #[.agg #[], .bool true]) W ∧ (HqP W B h xb sb kb V R S K v lv ∧ Blk W gr 90 #[.string r.f, .string r.e, .int .i64 r.n] ∧ Below w.heap.size w W)) := ⟨h7.blk.cell 2, hk.cell 0, hk.cell 1, hk.cell 2, hl h7, h7, hk, hb⟩
  clear hW hgr hb hk h7 hl H
  go_enter Try.func44, Try.ntmps44
  go_upto_region 1 with fail
  rw [← HW.out, ← HG.out]
  go_region_held3 (fun wa => wa.cell? ⟨h, 2, none⟩ = some (.map (some sb)) ∧ wa.cell? ⟨gr, 0, none⟩ = some (.string r.f) ∧ wa.cell? ⟨gr, 1, none⟩ = some (.string r.e) ∧ wa.cell? ⟨gr, 2, none⟩ = some (.int .i64 r.n) ∧ (Instr.lookup 84 (.map (some sb)) (rkV r) true).run Try.prog wa = .ok (.tuple #[.agg #[], .bool true]) wa ∧ (HqP wa B h xb sb kb V R S K v lv ∧ Blk wa gr 90 #[.string r.f, .string r.e, .int .i64 r.n] ∧ Below w.heap.size w wa)) (first | assumption | exact keep (by assumption) (by assumption) | exact keep (by assumption) hD | exact keep (by assumption) hA | exact keep (keep (by assumption) hD) hA) (first | fail)
  all_goals
    rename_i hHeld
    go_wp2_with fail
    go_ret
    exact ⟨rfl, hHeld.2.2.2.2.2.2.2⟩
theorem prp_info : (Try.prog.info? 94).map (fun i => (i.zero, i.size, i.bytes)) = some (some (.pointer none), 1, 8) := by kernel_rfl
set_option maxHeartbeats 16000000 in
theorem Start_no (H : HqP w B h xb sb kb V R S K v lv) {r : Pm} (hn : r ∉ S) (hl : R.length ≤ 100) :
    Calls Try.prog 44 #[.pointer (some ⟨h, 0, none⟩), rkV r] w fun e9 w' => ∃ c V' v' p, e9 = .returned (.slice (some ⟨c, 0, none⟩) 1 1) ∧ Blk w' c 30 (msA ⟨7, r, noB, 0⟩) ∧ w.heap.size ≤ c ∧ ¬ V' c ∧ p.r = r ∧ p.ts = [] ∧ HqP w' B h xb sb kb V' (R ++ [p]) (S ++ [r]) K v' lv ∧ (∀ b, V b → V' b) ∧ (∀ b, V' b → V b ∨ w.heap.size ≤ b) ∧ Vol V w w' := by
  obtain ⟨A0, c0, hv0, hc0, -⟩ := own_slice H.row
  obtain ⟨i0, hi0, hz0, hz1, hz2⟩ := info_parts prp_info
  obtain ⟨W, hW⟩ : ∃ W, W = w.alloc (.cells #[.string r.f, .string r.e, .int .i64 r.n] 90) := ⟨_, rfl⟩
  obtain ⟨gr, hgr⟩ : ∃ gr, gr = w.heap.size := ⟨_, rfl⟩
  have hb : Below w.heap.size w W := by rw [hW]; exact (Below.refl _ _).alloc (Nat.le_refl _) _
  have hk : Blk W gr 90 #[.string r.f, .string r.e, .int .i64 r.n] := by rw [hW, hgr]; exact Blk.new _ _ _
  have HW := Lib.hid hW
  have HG := Lib.hid hgr
  have HN := Lib.hid hn
  have HVl := Lib.hid H.lt
  have hl0 : ∀ {wa : World}, HqP wa B h xb sb kb V R S K v lv → (Instr.lookup 84 (.map (some sb)) (rkV r) true).run Try.prog wa = .ok (.tuple #[.agg #[], .bool false]) wa := fun H => sd_no H.sd hn
  have keep : ∀ {wa wb : World}, (wa.cell? ⟨h, 2, none⟩ = some (.map (some sb)) ∧ wa.cell? ⟨gr, 0, none⟩ = some (.string r.f) ∧ wa.cell? ⟨gr, 1, none⟩ = some (.string r.e) ∧ wa.cell? ⟨gr, 2, none⟩ = some (.int .i64 r.n) ∧ (Instr.lookup 84 (.map (some sb)) (rkV r) true).run Try.prog wa = .ok (.tuple #[.agg #[], .bool false]) wa ∧ (HqP wa B h xb sb kb V R S K v lv ∧ Blk wa gr 90 #[.string r.f, .string r.e, .int .i64 r.n] ∧ Below w.heap.size w wa)) → Below wa.heap.size wa wb → (wb.cell? ⟨h, 2, none⟩ = some (.map (some sb)) ∧ wb.cell? ⟨gr, 0, none⟩ = some (.string r.f) ∧ wb.cell? ⟨gr, 1, none⟩ = some (.string r.e) ∧ wb.cell? ⟨gr, 2, none⟩ = some (.int .i64 r.n) ∧ (Instr.lookup 84 (.map (some sb)) (rkV r) true).run Try.prog wb = .ok (.tuple #[.agg #[], .bool false]) wb ∧ (HqP wb B h xb sb kb V R S K v lv ∧ Blk wb gr 90 #[.string r.f, .string r.e, .int .i64 r.n] ∧ Below w.heap.size w wb)) := fun k hb => by
    obtain ⟨_, _, _, _, _, k6, k7, k8⟩ := k
    have j6 := k6.below hb
    have j7 := k7.below hb k7.lt
    exact ⟨j6.blk.cell 2, j7.cell 0, j7.cell 1, j7.cell 2, hl0 j6, j6, j7, k8.trans (hb.mono k8.size)⟩
  have hD : ∀ {wa : World}, Below wa.heap.size wa wa.drew := (Below.refl _ _).drew
  have hA : ∀ {wa : World} {o : Obj}, Below wa.heap.size wa (wa.alloc o) := (Below.refl _ _).alloc (Nat.le_refl _) _
  have h7 := H.below hb
  have hS0 : (W.cell? ⟨h, 2, none⟩ = some (.map (some sb)) ∧ W.cell? ⟨gr, 0, none⟩ = some (.string r.f) ∧ W.cell? ⟨gr, 1, none⟩ = some (.string r.e) ∧ W.cell? ⟨gr, 2, none⟩ = some (.int .i64 r.n) ∧ (Instr.lookup 84 (.map (some sb)) (rkV r) true).run Try.prog W = .ok (.tuple #[.agg #[], .bool false]) W ∧ (HqP W B h xb sb kb V R S K v lv ∧ Blk W gr 90 #[.string r.f, .string r.e, .int .i64 r.n] ∧ Below w.heap.size w W)) := ⟨h7.blk.cell 2, hk.cell 0, hk.cell 1, hk.cell 2, hl0 h7, h7, hk, hb⟩
  clear hW hgr hb hk h7 hl0 H hn
  go_enter Try.func44, Try.ntmps44
  go_upto_region 1 with fail
  rw [← HW.out, ← HG.out]
  go_cut [6] from 5 to 16 (fun v6 wx => Hid (v6 = .bool false ∧ HqP wx B h xb sb kb V R S K v lv ∧ Blk wx gr 90 #[.string r.f, .string r.e, .int .i64 r.n] ∧ Below w.heap.size w wx ∧ ∃ w9, w9 = wx))
  case first =>
    go_region_held3 (fun wa => wa.cell? ⟨h, 2, none⟩ = some (.map (some sb)) ∧ wa.cell? ⟨gr, 0, none⟩ = some (.string r.f) ∧ wa.cell? ⟨gr, 1, none⟩ = some (.string r.e) ∧ wa.cell? ⟨gr, 2, none⟩ = some (.int .i64 r.n) ∧ (Instr.lookup 84 (.map (some sb)) (rkV r) true).run Try.prog wa = .ok (.tuple #[.agg #[], .bool false]) wa ∧ (HqP wa B h xb sb kb V R S K v lv ∧ Blk wa gr 90 #[.string r.f, .string r.e, .int .i64 r.n] ∧ Below w.heap.size w wa)) (first | assumption | exact keep (by assumption) (by assumption) | exact keep (by assumption) hD | exact keep (by assumption) hA | exact keep (keep (by assumption) hD) hA) (first | fail)
    all_goals
      rename_i hHeld
      go_wp2_with fail
      go_meet
      exact Lib.hid ⟨rfl, hHeld.2.2.2.2.2.1, hHeld.2.2.2.2.2.2.1, hHeld.2.2.2.2.2.2.2, _, rfl⟩
  case rest =>
    obtain ⟨rfl, h9, hk9, hb9, w9, hw9⟩ := hcut.out
    subst hw9
    clear hcut hS0 keep hD hA
    have k0 : w9.cell? ⟨gr, 0, none⟩ = some (.string r.f) := hk9.cell 0
    have k1 : w9.cell? ⟨gr, 1, none⟩ = some (.string r.e) := hk9.cell 1
    have k2 : w9.cell? ⟨gr, 2, none⟩ = some (.int .i64 r.n) := hk9.cell 2
    have H9 := Lib.hid h9
    have HK9 := Lib.hid hk9
    have HB9 := Lib.hid hb9
    clear h9 hk9 hb9
    go_upto_region 5 with fail
    clear k0 k1 k2
    obtain ⟨g, hg⟩ : ∃ g, g = w9.heap.size := ⟨_, rfl⟩
    obtain ⟨d0, hd0⟩ : ∃ d0, d0 = w9.alloc (Obj.cells #[.string r.f, .string r.e, .int .i64 r.n, .slice none 0 0] 98) := ⟨_, rfl⟩
    rw [← hd0, ← hg]
    have hb0 : Below w9.heap.size w9 d0 := by rw [hd0]; exact (Below.refl _ _).alloc (Nat.le_refl _) _
    have hp0 : Blk d0 g 98 #[.string r.f, .string r.e, .int .i64 r.n, .slice none 0 0] := by rw [hd0, hg]; exact Blk.new _ _ _
    have h0 := H9.out.below hb0
    have hk0 := HK9.out.below hb0 HK9.out.lt
    have a1 : d0.cell? ⟨h, 2, none⟩ = some (.map (some sb)) := h0.blk.cell 2
    have a2 : d0.cell? ⟨gr, 0, none⟩ = some (.string r.f) := hk0.cell 0
    have a3 : d0.cell? ⟨gr, 1, none⟩ = some (.string r.e) := hk0.cell 1
    have a4 : d0.cell? ⟨gr, 2, none⟩ = some (.int .i64 r.n) := hk0.cell 2
    obtain ⟨d1, e1, hs1, hg1⟩ := sd_put (w := d0.drew) h0.sd HN.out
    have HP0 := Lib.hid hp0
    have H0 := Lib.hid h0
    have HK0 := Lib.hid hk0
    have HB0 := Lib.hid hb0
    have HS1 := Lib.hid hs1
    have HG1 := Lib.hid hg1
    have HGG := Lib.hid hg
    have HV0 := Lib.hid hv0
    clear hp0 h0 hk0 hb0 hs1 hg1 hd0 hg hv0
    go_region
    have v1 : Vol (fun b => b = sb) d0 d1 := (Vol.refl d0).drew.grown HG1.out (fun k hk => .inl (by injection hk with hk; exact hk.symm))
    have bh1 := blk_vol H0.out.blk v1 (blk_map_ne H0.out.blk H0.out.sd)
    have bk1 := blk_vol HK0.out v1 (blk_map_ne HK0.out H0.out.sd)
    have bp1 := blk_vol HP0.out v1 (blk_map_ne HP0.out H0.out.sd)
    have br1 := own_vol H0.out.row v1 (fun b hb e => own_map_ne H0.out.row H0.out.sd (by rw [hb, e]))
    have bx1 := H0.out.ex.keep (v1.block _ H0.out.ex.lt H0.out.ne.1)
    obtain ⟨d2, e2, hx2, hg2⟩ := ex_put (w := d1.drew) (r := r) bx1 (fun k p hp e => HN.out (by rw [← e]; exact H0.out.sub k p hp)) ⟨g, r, true, .slice none 0 0, []⟩ rfl
    have a5 : d1.cell? ⟨h, 1, none⟩ = some (.map (some xb)) := bh1.cell 1
    have a6 : d1.cell? ⟨gr, 0, none⟩ = some (.string r.f) := bk1.cell 0
    have a7 : d1.cell? ⟨gr, 1, none⟩ = some (.string r.e) := bk1.cell 1
    have a8 : d1.cell? ⟨gr, 2, none⟩ = some (.int .i64 r.n) := bk1.cell 2
    have HV1 := Lib.hid v1
    have HH1 := Lib.hid bh1
    have HK1 := Lib.hid bk1
    have HP1 := Lib.hid bp1
    have HR1 := Lib.hid br1
    have HX1 := Lib.hid bx1
    have HX2 := Lib.hid hx2
    have HG2 := Lib.hid hg2
    clear v1 bh1 bk1 bp1 br1 bx1 hx2 hg2 a1 a2 a3 a4 e1
    go_upto_region 6 with fail
    go_region
    have v2 : Vol (fun b => b = xb) d1 d2 := (Vol.refl d1).drew.grown HG2.out (fun k hk => .inl (by injection hk with hk; exact hk.symm))
    have bh2 := blk_vol HH1.out v2 (blk_map_ne HH1.out HX1.out)
    have bk2 := blk_vol HK1.out v2 (blk_map_ne HK1.out HX1.out)
    have bp2 := blk_vol HP1.out v2 (blk_map_ne HP1.out HX1.out)
    have br2 := own_vol HR1.out v2 (fun b hb e => own_map_ne HR1.out HX1.out (by rw [hb, e]))
    have bs2 := HS1.out.keep (v2.block _ HS1.out.lt (fun e => H0.out.ne.1 e.symm))
    obtain ⟨L, hL⟩ : ∃ L, L = R.length := ⟨_, rfl⟩
    have hl2 : L ≤ 100 := by omega
    have a9 : d2.cell? ⟨h, 0, none⟩ = some (.slice A0 L c0) := by rw [hL, ← HV0.out]; exact bh2.cell 0
    rw [HV0.out, ← hL] at br2
    rw [← hL] at hc0
    have b1 : d2.cell? ⟨gr, 0, none⟩ = some (.string r.f) := bk2.cell 0
    have b2 : d2.cell? ⟨gr, 1, none⟩ = some (.string r.e) := bk2.cell 1
    have b3 : d2.cell? ⟨gr, 2, none⟩ = some (.int .i64 r.n) := bk2.cell 2
    have HV2 := Lib.hid v2
    have HH2 := Lib.hid bh2
    have HK2 := Lib.hid bk2
    have HP2 := Lib.hid bp2
    have HR2 := Lib.hid br2
    have HS2 := Lib.hid bs2
    have HL := Lib.hid hL
    clear v2 bh2 bk2 bp2 br2 bs2 a5 a6 a7 a8 e2 hL hl
    go_upto_region 8 with (at_builtin; refine wpList_append_any _ rfl _ _ 86 rfl B 94 i0 (.pointer none) 1 8 Try.underlying86 hi0 hz0 hz1 hz2 rfl (by decide) _ _ (R.map ptr) rfl (HR2.out.alloc _) (d2.alloc (.cells #[.pointer (some ⟨g, 0, none⟩)] 94)).heap.size (some ⟨d2.heap.size, 0, none⟩) 1 1 [.pointer (some ⟨g, 0, none⟩)] rfl (reads_one d2 (.pointer (some ⟨g, 0, none⟩)) 94) (by simp [Value.oneCell']) (by simp only [maxLen]; omega) (by omega) (by have := H9.out.ge h H9.out.vm.1; have := HH2.out.lt; simp; omega) ?_; intro v7 w7 hown7 hg7 hn7; obtain ⟨A7, c7, rfl, hc7, -⟩ := own_slice hown7; have hg7 : (d2.alloc (.cells #[.pointer (some ⟨g, 0, none⟩)] 94)).grownBy w7 (Value.slice A0 L c0).ownBlock := hg7; have bh7 := (HH2.out.alloc (.cells #[.pointer (some ⟨g, 0, none⟩)] 94)).grown hg7 (fun e => own_blk_ne HR2.out HH2.out (by decide) e.symm); have f7 : w7.frozen? ⟨h, 0, none⟩ = false := bh7.frozen 0; have c70 : w7.cell? ⟨h, 0, none⟩ = some (.slice A0 L c0) := by (rw [HL.out, ← HV0.out]; exact bh7.cell 0))
    have bk7 := (HK2.out.alloc (.cells #[.pointer (some ⟨g, 0, none⟩)] 94)).grown hg7 (fun e => own_blk_ne HR2.out HK2.out (by decide) e.symm)
    have bp7 := (HP2.out.alloc (.cells #[.pointer (some ⟨g, 0, none⟩)] 94)).grown hg7 (fun e => own_blk_ne HR2.out HP2.out (by decide) e.symm)
    obtain ⟨w8, hw8⟩ : ∃ w8, w8 = w7.setCell ⟨h, 0, none⟩ (.slice A7 (L + 1) c7) := ⟨_, rfl⟩
    rw [← hw8]
    have hgk : h ≠ gr := bh7.ne_ bk7 (by decide)
    have hgp : h ≠ g := bh7.ne_ bp7 (by decide)
    have v78 : Vol (fun b => b = h ∨ v.ownBlock = some b) d2 w8 := by
      rw [hw8]
      refine (((Vol.refl d2).alloc _).grown hg7 (fun k hk => .inl (.inr ?_))).setCell (.inl (.inl rfl)) _
      rw [HV0.out, ← HL.out]
      exact hk
    have bh8 := bh7.set_ 0 (.slice A7 (L + 1) c7)
    have bk8 := bk7.far (fun e => hgk e.symm) (p := ⟨h, 0, none⟩) (.slice A7 (L + 1) c7)
    have bp8 := bp7.far (fun e => hgp e.symm) (p := ⟨h, 0, none⟩) (.slice A7 (L + 1) c7)
    rw [← hw8] at bh8 bk8 bp8
    have vol : Vol (fun b => b = h ∨ b = xb ∨ b = sb ∨ v.ownBlock = some b) w9 w8 := by
      have u0 : Vol (fun b => b = h ∨ b = xb ∨ b = sb ∨ v.ownBlock = some b) w9 d0 := Vol.of_below HB0.out
      have u1 := u0.trans HV1.out (fun b e => .inl (.inr (.inr (.inl e))))
      have u2 := u1.trans HV2.out (fun b e => .inl (.inr (.inl e)))
      exact u2.trans v78 (fun b e => .inl (e.elim .inl (fun e => .inr (.inr (.inr e)))))
    have row8 : w8.ownsRow B 94 1 (.slice A7 (L + 1) c7) (L + 1) (R.map ptr ++ [.pointer (some ⟨g, 0, none⟩)]) := by rw [hw8]; exact own_far hown7 bh7 (by decide)
    have nv : ∀ b, v.ownBlock = some b → (Value.slice A0 L c0).ownBlock = some b := fun b e => by rw [HL.out, ← HV0.out]; exact e
    have hx8 := HX2.out.keep (v78.block _ HX2.out.lt (fun e => e.elim (fun e => blk_map_ne HH2.out HX2.out e.symm) (fun e => own_map_ne HR2.out HX2.out (nv _ e))))
    have hs8 := HS2.out.keep (v78.block _ HS2.out.lt (fun e => e.elim (fun e => blk_map_ne HH2.out HS2.out e.symm) (fun e => own_map_ne HR2.out HS2.out (nv _ e))))
    have hn7 : (Value.slice A7 (L + 1) c7).ownBlock = (Value.slice A0 L c0).ownBlock ∨ (Value.slice A7 (L + 1) c7).ownBlock = some (d2.alloc (.cells #[.pointer (some ⟨g, 0, none⟩)] 94)).heap.size := hn7
    have H8 := H9.out.push (v' := .slice A7 (L + 1) c7) ⟨g, r, true, .slice none 0 0, []⟩ HN.out vol (by simpa using bh8) hx8 hs8 bp8 (by
      have e1 : (R ++ [Pr.mk g r true (.slice none 0 0) []]).length = L + 1 := by rw [HL.out]; simp
      rw [e1, List.map_append]
      exact row8) (Nat.le_of_eq HGG.out.symm) rfl rfl rfl (fun b e => by
      rcases hn7 with e1 | e1
      · left
        rw [HV0.out, ← HL.out, ← e1]
        exact e
      · right
        rw [e] at e1
        injection e1 with e1
        have s0 := HB0.out.size
        have s1 := HV1.out.size
        have s2 := HV2.out.size
        rw [e1]
        simp
        omega)
    have k80 : w8.cell? ⟨gr, 0, none⟩ = some (.string r.f) := bk8.cell 0
    have k81 : w8.cell? ⟨gr, 1, none⟩ = some (.string r.e) := bk8.cell 1
    have k82 : w8.cell? ⟨gr, 2, none⟩ = some (.int .i64 r.n) := bk8.cell 2
    have H8' := Lib.hid H8
    have VOL := Lib.hid vol
    clear H8 vol hn7 hx8 hs8 nv row8 bh8 bk8 bp8 v78 hgk hgp hw8 bh7 bk7 bp7 hg7 hown7 f7 c70 a9 b1 b2 b3
    go_wp2_with (go_at_call 48; refine (About 7 r _).mono ?_; rintro e9 wA ⟨rfl, hbA⟩)
    go_ret
    have hz := H8'.out.below hbA
    refine ⟨wA.heap.size, _, _, ⟨g, r, true, .slice none 0 0, []⟩, rfl, Blk.new wA 30 (msA ⟨7, r, noB, 0⟩), ?_, fun e => absurd (hz.lt _ e) (Nat.lt_irrefl _), rfl, rfl, hz.below ((Below.refl _ _).alloc (Nat.le_refl _) _), fun b e => .inl (.inl e), fun b e => e.elim (fun e => e.imp id (fun e => by rw [e, HGG.out]; exact HB9.out.size)) (fun e => .inr (Nat.le_trans HB9.out.size e.1)), ?_⟩
    · exact Nat.le_trans HB9.out.size (Nat.le_trans VOL.out.size hbA.size)
    · have u0 : Vol V w w9 := Vol.of_below HB9.out
      refine ((u0.trans VOL.out (fun b e => ?_)).below hbA).alloc _
      rcases e with rfl | rfl | rfl | e
      · exact .inl H9.out.vm.1
      · exact .inl H9.out.vm.2.1
      · exact .inl H9.out.vm.2.2.1
      · exact .inl (H9.out.vr b e)
end
end Go.Proofs.Ytiflhfhonhbcpaa.Hw
namespace Go.Proofs.Ytiflhfhonhbcpaa.Hw
open Go Go.RowKit Go.Proofs.Ytiflhfhonhbcpaa Go.Proofs.Ytiflhfhonhbcpaa.Crw Go.Proofs.Ytiflhfhonhbcpaa.Vl Go.ChangeShapes Go.WideShapes Go.ChangeAt Go.Lib Go.Sort
set_option linter.unusedVariables false
set_option maxRecDepth 1000000
abbrev encP : Option Addr → Value := Value.pointer
set_option maxHeartbeats 4000000 in
theorem Delete_arr (blk off cap i : Nat) (d : Array (Option Addr)) (w : World) (hH : Holds encP w blk off d) (hcap : d.size ≤ cap) (hm : cap ≤ 9223372036854775807) (hj : i + 1 ≤ d.size) :
    Calls Try.prog 68 #[.slice (some ⟨blk, off, none⟩) d.size cap, .int .i64 i, .int .i64 ((i : Int) + 1)] w fun e w' => e = .returned (.slice (some ⟨blk, off, none⟩) (d.size - 1) cap) ∧ ∃ q, w' = putRow encP (Sort.ahead w q) blk off (d.toList.take i ++ d.toList.drop (i + 1) ++ List.replicate 1 none).toArray := by
  have mixed : Try.prog.follows .mixedOrders = true := by kernel_rfl
  obtain ⟨i0, hi0, hz0, hz1, hz2⟩ := info_parts prp_info
  have t22 := Try.underlying86
  have v23 : ∀ w, (zeroValue 94).run Try.prog w = .ok (.pointer none) w := fun w => rfl
  obtain ⟨j, hjd⟩ : ∃ j, j = i + 1 := ⟨_, rfl⟩
  rw [← hjd] at hj ⊢
  rw [show (i : Int) + 1 = (j : Int) by omega]
  have hlt : i < j := by omega
  obtain ⟨news, hnews⟩ : ∃ news, news = (d.toList.drop j).map encP := ⟨_, rfl⟩
  have hlen : news.length = d.size - j := by rw [hnews]; simp
  have hget : ∀ t, t < d.size - j → news[t]? = some (encP d[j + t]!) := by
    intro t ht
    rw [hnews, List.getElem?_map, List.getElem?_drop, Array.getElem?_toList, getElem!_pos d (j + t) (by omega), Array.getElem?_eq_getElem (by omega)]
    rfl
  obtain ⟨A, hA, hsrc⟩ : ∃ A : Addr, (if cap = j then some (⟨blk, off, none⟩ : Addr) else some ⟨blk, off + j, none⟩) = some A ∧ Hid (∀ t u, news[t]? = some u → w.drew.cell? (A.add t) = some u) := by
    by_cases h : cap = j
    · refine ⟨⟨blk, off, none⟩, by simp [h], Lib.hid fun t u hu => ?_⟩
      have h0 : news.length = 0 := by rw [hlen]; omega
      rw [List.length_eq_zero_iff.1 h0] at hu
      simp at hu
    · refine ⟨⟨blk, off + j, none⟩, by simp [h], Lib.hid fun t u hu => ?_⟩
      have ht : t < d.size - j := by
        have := (List.getElem?_eq_some_iff.1 hu).1
        rwa [hlen] at this
      rw [hget t ht] at hu
      rw [Addr.add_lit, show off + j + t = off + (j + t) by omega]
      exact (hH (j + t) (by omega)).1.trans hu
  have s1 : Hid (news.length = (d.size - j) * 1) := Lib.hid (by rw [Nat.mul_one]; exact hlen)
  have s2 : Hid (∀ u ∈ news, u.oneCell' = true) := Lib.hid (by
    intro u hu
    rw [hnews] at hu
    obtain ⟨x, _, rfl⟩ := List.mem_map.1 hu
    rfl)
  have s3 : Hid (∀ t, t < news.length → (w.drew.cell? ⟨blk, off + i * 1 + t, none⟩).isSome = true ∧ w.drew.frozen? ⟨blk, off + i * 1 + t, none⟩ = false) := Lib.hid (by
    intro t ht
    rw [hlen] at ht
    rw [Nat.mul_one, Nat.add_assoc]
    exact ⟨by show (w.cell? _).isSome = true; rw [(hH (i + t) (by omega)).1]; rfl, (hH (i + t) (by omega)).2⟩)
  obtain ⟨W1, hW1⟩ : ∃ W1, W1 = w.drew.setCells blk (off + i * 1) news := ⟨_, rfl⟩
  have hW1' : W1 = putRow encP (Sort.ahead w 1) blk off (lay d i (d.toList.drop j)) := by
    rw [hW1, hnews, Nat.mul_one, ← putRow_setCells encP (Sort.ahead w 1) blk off _ d i (by simp; omega), putRow_self encP (Sort.ahead w 1) blk off d (holds_ahead encP w 1 blk off d hH)]
    rfl
  have hH1 : Holds encP W1 blk off (lay d i (d.toList.drop j)) := by rw [hW1']; exact holds_putRow encP _ blk off d _ (holds_ahead encP w 1 blk off d hH) (lay_size _ _ _)
  have hcl : ∀ ty, (Builtin.clear_ #[86] ty #[.slice (some ⟨blk, off + (i + (d.size - j)), none⟩) (d.size - (i + (d.size - j))) (cap - (i + (d.size - j)))]).run Try.prog W1 = .ok (.tuple #[]) (W1.setCells blk (off + (i + (d.size - j))) (List.replicate (d.size - (i + (d.size - j))) (encP none))) :=
    fun ty => Lib.run_clear_slice W1 _ _ ty _ t22 v23 rfl rfl blk (off + (i + (d.size - j))) _ _ (by omega) (fun t ht => by rw [show off + (i + (d.size - j)) + t = off + (i + (d.size - j) + t) by omega, (hH1 _ (by rw [lay_size]; omega)).1]; rfl) (fun t ht => by rw [show off + (i + (d.size - j)) + t = off + (i + (d.size - j) + t) by omega]; exact (hH1 _ (by rw [lay_size]; omega)).2)
  have X : Hid (W1 = putRow encP (Sort.ahead w 1) blk off (lay d i (d.toList.drop j))) := Lib.hid hW1'
  have hW : Hid (W1 = w.drew.setCells blk (off + i * 1) news) := Lib.hid hW1
  have hic : i ≤ cap := by omega
  have hjc : j ≤ cap := by omega
  have HD := Lib.hid hjd
  clear hW1 hW1' hH1 hH hget hnews hlen hjd
  go_enter Try.func68, Try.ntmps68
  go_wp2_with fail
  go_region_law_o (refine step_append_room rfl (.tmp 22) (.tmp 25) 86 rfl 94 i0 1 t22 hi0 hz1 blk off i cap (by simp [Act.eval, Act.put]) A (d.size - j) (cap - j) news (by simp [Act.eval, Act.put]) s1.out hsrc.out s2.out (by omega) s3.out ?_; rw [← hW.out])
  go_wp2
  go_ret
  have hjd := HD.out
  refine ⟨by rw [show d.size - 1 = i + (d.size - j) by omega]; rfl, 1, ?_⟩
  have hda := delete_arr d i j none (by omega) hj
  rw [show j - i = 1 by omega] at hda
  rw [← hda, ← putRow_setCells encP _ blk off _ _ (i + (d.size - j)) (by rw [lay_size]; simp; omega), ← X.out, List.map_replicate, show d.size - (i + (d.size - j)) = 1 by omega]
theorem grown_put {w : World} {g n : Nat} (d : Array (Option Addr)) : w.grownBy (putRow encP (Sort.ahead w n) g 0 d) (some g) := by
  refine ⟨rfl, rfl, rfl, by simp [putRow, mapBlock, Sort.ahead], fun k hk hne => ?_⟩
  have : g ≠ k := fun e => hne (by rw [e])
  simp [putRow, mapBlock, Sort.ahead, Array.getElem?_modify, this]
abbrev adr (R : List Pr) : List (Option Addr) := R.map fun (r : Pr) => some (⟨r.g, 0, none⟩ : Addr)
theorem adr_ptrs (R : List Pr) : (adr R).map encP = (R.map ptr) := by simp [adr]
/-- One pointer less in an own row. -/
theorem Delete_p {B u c k : Nat} {R : List Pr} (w : World) (h : w.ownsRow B 94 1 (.slice (some ⟨u, 0, none⟩) R.length c) R.length ((R.map ptr))) (hk : k < R.length) :
    Calls Try.prog 68 #[.slice (some ⟨u, 0, none⟩) R.length c, .int .i64 k, .int .i64 ((k : Int) + 1)] w fun e w' => e = .returned (.slice (some ⟨u, 0, none⟩) (R.length - 1) c) ∧ w'.ownsRow B 94 1 (.slice (some ⟨u, 0, none⟩) (R.length - 1) c) (R.length - 1) (((R.eraseIdx k).map ptr)) ∧ w.grownBy w' (some u) := by
  have h' := h
  rw [← adr_ptrs] at h'
  obtain ⟨g, cap, e1, hb, hg, hn, hm, hl, hH⟩ := Lib.holds_of_ownsRow h' (by intro e; injection e with e _ _; cases e)
  injection e1 with e1 _ e3
  injection e1 with e1
  injection e1 with e1
  subst e1
  subst e3
  have hd := Delete_arr u 0 c k (adr R).toArray w hH (by simpa using hn) (by unfold maxLen at hm; omega) (by simp; omega)
  rw [show (adr R).toArray.size = R.length by simp] at hd
  refine hd.mono ?_
  rintro e w' ⟨rfl, q, rfl⟩
  refine ⟨rfl, ?_, grown_put _⟩
  have h2 := Lib.ownsRow_putRow (q := q) (k := R.length - 1) (ys := (adr R).take k ++ (adr R).drop (k + 1) ++ List.replicate 1 none) h' (by simp; omega) (by omega)
  have e : (((adr R).take k ++ (adr R).drop (k + 1) ++ List.replicate 1 none).take (R.length - 1)).map encP = ((R.eraseIdx k).map ptr) := by
    rw [List.take_left' (by simp; omega), List.eraseIdx_eq_take_drop_succ, ← List.map_take, ← List.map_drop, ← List.map_append, adr_ptrs]
  rw [e] at h2
  exact h2
end Go.Proofs.Ytiflhfhonhbcpaa.Hw
namespace Go.Proofs.Ytiflhfhonhbcpaa.Hw
open Go Go.RowKit Go.Proofs.Ytiflhfhonhbcpaa Go.Proofs.Ytiflhfhonhbcpaa.Crw Go.Proofs.Ytiflhfhonhbcpaa.Vl Go.ChangeShapes Go.WideShapes Go.ChangeAt
set_option linter.unusedVariables false
set_option maxRecDepth 1000000
section
variable {w w' : World} {B h xb sb kb : Nat} {V U : Nat → Prop} {R : List Pr} {S : List Pm} {K : List Ky} {v lv : Value}
def rkB (r r' : Pm) : Bool := (r.f.toList == r'.f.toList) && ((r.e.toList == r'.e.toList) && (r.n == r'.n))
theorem rkB_yes {r r' : Pm} (h : r = r') : rkB r r' = true := by subst h; simp [rkB]
theorem bytes_eq {a b : ByteArray} (h : a.toList = b.toList) : a = b := by
  obtain ⟨⟨a⟩⟩ := a
  obtain ⟨⟨b⟩⟩ := b
  have h : a = b := by simpa using h
  rw [h]
theorem rkB_no {r r' : Pm} (h : ¬ r = r') : rkB r r' = false := by
  cases hh : rkB r r' with
  | false => rfl
  | true =>
    unfold rkB at hh
    simp only [Bool.and_eq_true, beq_iff_eq] at hh
    obtain ⟨h1, h2, h3⟩ := hh
    refine absurd ?_ h
    obtain ⟨f, e, n⟩ := r
    obtain ⟨f', e', n'⟩ := r'
    have h1 := bytes_eq h1
    have h2 := bytes_eq h2
    simp only at h1 h2 h3
    rw [h1, h2, h3]
theorem run_eql (w : World) (r r' : Pm) : (binOp .eql 90 (rkV r) (rkV r')).run Try.prog w = .ok (.bool (rkB r r')) w := by
  rw [run_eql_struct, run_equalIn_agg (P := Try.prog) w 9999 90 _ _ (by kernel_rfl) (by kernel_rfl)]
  have hk : (Try.prog.fieldsOf 90).toList.map (fun x => (decide (x.name = "_"), x.offset, x.type)) = [(false, 0, 9), (false, 1, 9), (false, 2, 3)] := by kernel_rfl
  generalize (Try.prog.fieldsOf 90).toList = l at hk ⊢
  rcases l with _ | ⟨x, _ | ⟨y, _ | ⟨z, _ | ⟨u, l⟩⟩⟩⟩
  · simp at hk
  · simp at hk
  · simp at hk
  · simp only [List.map_cons, List.map_nil, List.cons.injEq, Prod.mk.injEq, and_true] at hk
    obtain ⟨⟨n1, h1, h2⟩, ⟨n2, h3, h4⟩, n3, h5, h6⟩ := hk
    have n1' := of_decide_eq_false n1
    have n2' := of_decide_eq_false n2
    have n3' := of_decide_eq_false n3
    have hpk : Try.prog.plainKey 9 = true := by kernel_rfl
    have hpi : Try.prog.plainKey 3 = true := by kernel_rfl
    have hus := Try.underlying9
    have hui := Try.underlying3
    unfold Op.eqFields
    rw [if_pos n1', h1, h2, Sem.run_bind, run_part_plain _ hpk (v := .string r.f) rfl, Result.andThen_ok, Sem.run_bind, run_part_plain _ hpk (v := .string r'.f) rfl, Result.andThen_ok, Sem.run_bind, run_equalIn_string w _ _ r.f r'.f hus, Result.andThen_ok]
    unfold rkB
    cases hf : (r.f.toList == r'.f.toList)
    · simp [Sem.run_pure]
    · simp only [Bool.not_true, Bool.false_eq_true, if_false, Bool.true_and]
      unfold Op.eqFields
      rw [if_pos n2', h3, h4, Sem.run_bind, run_part_plain _ hpk (v := .string r.e) rfl, Result.andThen_ok, Sem.run_bind, run_part_plain _ hpk (v := .string r'.e) rfl, Result.andThen_ok, Sem.run_bind, run_equalIn_string w _ _ r.e r'.e hus, Result.andThen_ok]
      cases he : (r.e.toList == r'.e.toList)
      · simp [Sem.run_pure]
      · simp only [Bool.not_true, Bool.false_eq_true, if_false, Bool.true_and]
        unfold Op.eqFields
        rw [if_pos n3', h5, h6, Sem.run_bind, run_part_plain _ hpi (v := .int .i64 r.n) rfl, Result.andThen_ok, Sem.run_bind, run_part_plain _ hpi (v := .int .i64 r'.n) rfl, Result.andThen_ok, Sem.run_bind, run_equalIn_int w _ _ _ _ r.n r'.n hui, Result.andThen_ok]
        cases hn : (r.n == r'.n)
        · simp [Sem.run_pure]
        · unfold Op.eqFields
          simp [Sem.run_pure]
  · simp at hk
set_option maxHeartbeats 4000000 in
theorem Is_run {g gr : Nat} {p : Pr} {r : Pm} (hp : Blk w g 98 (prC p)) (hk : Blk w gr 90 (rkC r)) :
    Calls Try.prog 67 #[.pointer (some ⟨g, 0, none⟩), .pointer (some ⟨gr, 0, none⟩)] w fun e9 w' => e9 = .returned (.bool (rkB p.r r)) ∧ ∃ k, w' = w.drewN k := by
  have p0 : w.cell? ⟨g, 0, none⟩ = some (.string p.r.f) := hp.cell 0
  have p1 : w.cell? ⟨g, 1, none⟩ = some (.string p.r.e) := hp.cell 1
  have p2 : w.cell? ⟨g, 2, none⟩ = some (.int .i64 p.r.n) := hp.cell 2
  have k0 : w.cell? ⟨gr, 0, none⟩ = some (.string r.f) := hk.cell 0
  have k1 : w.cell? ⟨gr, 1, none⟩ = some (.string r.e) := hk.cell 1
  have k2 : w.cell? ⟨gr, 2, none⟩ = some (.int .i64 r.n) := hk.cell 2
  have heg : Try.prog.eqGuardType Try.prog.depth 90 = false := by kernel_rfl
  have heq := fun wa => run_eql wa p.r r
  clear hp hk
  generalize rkB p.r r = b at heq ⊢
  go_enter Try.func67, Try.ntmps67
  go_wp2_with fail
  go_quiet (fail)
  go_wp2_with fail
  go_ret
  exact ⟨rfl, _, rfl⟩
set_option maxHeartbeats 8000000 in
/-- Where a run's process stands. -/
theorem Index_run (hrow : w.ownsRow B 94 1 v R.length (R.map ptr)) (hprs : ∀ (k : Nat) (p : Pr), R[k]? = some p → Blk w p.g 98 (prC p)) (hu : ∀ (j k : Nat) (p q : Pr), R[j]? = some p → R[k]? = some q → p.r = q.r → j = k) {gr : Nat} {r : Pm} (hk : Blk w gr 90 #[.string r.f, .string r.e, .int .i64 r.n]) (hl : R.length ≤ 100) {j : Nat} {p : Pr} (hj : R[j]? = some p) (hp : p.r = r) :
    Calls Try.prog 66 #[v, .func (.func 67) #[] #[.pointer (some ⟨gr, 0, none⟩)]] w fun e9 w' => e9 = .returned (.int .i64 j) ∧ ∃ k, w' = w.drewN k := by
  obtain ⟨A0, c0, rfl, hc0, -⟩ := own_slice hrow
  have hjl := (List.getElem?_eq_some_iff.1 hj).1
  obtain ⟨u, rfl⟩ := own_some hrow (by omega)
  obtain ⟨L, hL⟩ : ∃ L, L = R.length := ⟨_, rfl⟩
  rw [← hL] at hrow hc0 hl hjl ⊢
  have HH := Lib.hid (And.intro hprs (And.intro hu hk))
  have HR := Lib.hid hrow
  have HL := Lib.hid hL
  have HJ := Lib.hid hj
  have HP := Lib.hid hp
  clear hprs hu hk hrow hL hj hp
  go_enter Try.func66, Try.ntmps66
  go_wp2_with fail
  go_loopw [8] (fun vi wx => Hid (∃ i k : Nat, vi = .int .i64 i ∧ i ≤ j ∧ wx = w.drewN k)) (fun vi _ => j + 1 - (intOf vi).toNat)
  case atStart => exact Lib.hid ⟨0, 0, rfl, by omega, rfl⟩
  case round =>
    obtain ⟨i, k, rfl, hi, rfl⟩ := hrel.out
    clear hrel
    have hlt : (i : Int) < L := by omega
    obtain ⟨q, hq⟩ : ∃ q, R[i]? = some q := ⟨R[i]'(by have := HL.out; omega), List.getElem?_eq_getElem _⟩
    have ci : (w.drewN k).cell? ⟨u, i, none⟩ = some (ptr q) := (HR.out.cellAt i (by omega)).trans (by rw [List.getElem?_map, hq]; rfl)
    have hC := Is_run ((HH.out.1 i q hq).drewN k) (HH.out.2.2.drewN k)
    rcases Classical.em (q.r = r) with e | e
    · have hij : Hid (i = j) := Lib.hid (HH.out.2.1 i j q p hq HJ.out (e.trans HP.out.symm))
      have e2 : rkB q.r r = true := rkB_yes e
      rw [e2] at hC
      clear e e2 hq
      go_wp2_with (go_at_call 67; refine hC.mono ?_; rintro e9 w1 ⟨rfl, k1, rfl⟩)
      go_ret
      exact ⟨by have h := hij.out; subst h; rfl, _, rfl⟩
    · have hij : i ≠ j := by
        rintro rfl
        rw [HJ.out] at hq
        injection hq with hq
        rw [← hq] at e
        exact e HP.out
      have e2 : rkB q.r r = false := rkB_no e
      rw [e2] at hC
      clear e e2 hq
      go_wp2_with (go_at_call 67; refine hC.mono ?_; rintro e9 w1 ⟨rfl, k1, rfl⟩)
      refine ⟨?_, by simp [intOf]; omega⟩
      exact Lib.hid ⟨i + 1, k + k1, by simp, by omega, rfl⟩
end
end Go.Proofs.Ytiflhfhonhbcpaa.Hw
namespace Go.Proofs.Ytiflhfhonhbcpaa.Hw
open Go Go.RowKit Go.Proofs.Ytiflhfhonhbcpaa Go.Proofs.Ytiflhfhonhbcpaa.Crw Go.Proofs.Ytiflhfhonhbcpaa.Vl Go.ChangeShapes Go.WideShapes Go.ChangeAt
set_option linter.unusedVariables false
set_option maxRecDepth 1000000
section
variable {w w' : World} {B h xb sb kb : Nat} {V U : Nat → Prop} {R : List Pr} {S : List Pm} {K : List Ky} {v lv : Value}
set_option maxHeartbeats 8000000 in
/-- A run that is not there. -/
theorem Stop_no (H : HqP w B h xb sb kb V R S K v lv) {r : Pm} (hn : ∀ (k : Nat) (p : Pr), R[k]? = some p → p.r ≠ r) :
    Calls Try.prog 47 #[.pointer (some ⟨h, 0, none⟩), rkV r] w fun e9 w' => e9 = .returned (.slice none 0 0) ∧ Below w.heap.size w w' := by
  obtain ⟨W, hW⟩ : ∃ W, W = w.alloc (.cells #[.string r.f, .string r.e, .int .i64 r.n] 90) := ⟨_, rfl⟩
  obtain ⟨gr, hgr⟩ : ∃ gr, gr = w.heap.size := ⟨_, rfl⟩
  have hb : Below w.heap.size w W := by rw [hW]; exact (Below.refl _ _).alloc (Nat.le_refl _) _
  have hk : Blk W gr 90 #[.string r.f, .string r.e, .int .i64 r.n] := by rw [hW, hgr]; exact Blk.new _ _ _
  have HW := Lib.hid hW
  have HG := Lib.hid hgr
  have hl0 : ∀ {wa : World}, HqP wa B h xb sb kb V R S K v lv → (Instr.lookup 83 (.map (some xb)) (rkV r) true).run Try.prog wa = .ok (.tuple #[.pointer none, .bool false]) wa := fun H => ex_no H.ex hn
  have keep : ∀ {wa wb : World}, (wa.cell? ⟨h, 1, none⟩ = some (.map (some xb)) ∧ wa.cell? ⟨gr, 0, none⟩ = some (.string r.f) ∧ wa.cell? ⟨gr, 1, none⟩ = some (.string r.e) ∧ wa.cell? ⟨gr, 2, none⟩ = some (.int .i64 r.n) ∧ (Instr.lookup 83 (.map (some xb)) (rkV r) true).run Try.prog wa = .ok (.tuple #[.pointer none, .bool false]) wa ∧ (HqP wa B h xb sb kb V R S K v lv ∧ Blk wa gr 90 #[.string r.f, .string r.e, .int .i64 r.n] ∧ Below w.heap.size w wa)) → Below wa.heap.size wa wb → (wb.cell? ⟨h, 1, none⟩ = some (.map (some xb)) ∧ wb.cell? ⟨gr, 0, none⟩ = some (.string r.f) ∧ wb.cell? ⟨gr, 1, none⟩ = some (.string r.e) ∧ wb.cell? ⟨gr, 2, none⟩ = some (.int .i64 r.n) ∧ (Instr.lookup 83 (.map (some xb)) (rkV r) true).run Try.prog wb = .ok (.tuple #[.pointer none, .bool false]) wb ∧ (HqP wb B h xb sb kb V R S K v lv ∧ Blk wb gr 90 #[.string r.f, .string r.e, .int .i64 r.n] ∧ Below w.heap.size w wb)) := fun k hb => by
    obtain ⟨_, _, _, _, _, k6, k7, k8⟩ := k
    have j6 := k6.below hb
    have j7 := k7.below hb k7.lt
    exact ⟨j6.blk.cell 1, j7.cell 0, j7.cell 1, j7.cell 2, hl0 j6, j6, j7, k8.trans (hb.mono k8.size)⟩
  have hD : ∀ {wa : World}, Below wa.heap.size wa wa.drew := (Below.refl _ _).drew
  have h7 := H.below hb
  have hS0 : (W.cell? ⟨h, 1, none⟩ = some (.map (some xb)) ∧ W.cell? ⟨gr, 0, none⟩ = some (.string r.f) ∧ W.cell? ⟨gr, 1, none⟩ = some (.string r.e) ∧ W.cell? ⟨gr, 2, none⟩ = some (.int .i64 r.n) ∧ (Instr.lookup 83 (.map (some xb)) (rkV r) true).run Try.prog W = .ok (.tuple #[.pointer none, .bool false]) W ∧ (HqP W B h xb sb kb V R S K v lv ∧ Blk W gr 90 #[.string r.f, .string r.e, .int .i64 r.n] ∧ Below w.heap.size w W)) := ⟨h7.blk.cell 1, hk.cell 0, hk.cell 1, hk.cell 2, hl0 h7, h7, hk, hb⟩
  clear hW hgr hb hk h7 hl0 H hn
  go_enter Try.func47, Try.ntmps47
  go_upto_region 1 with fail
  rw [← HW.out, ← HG.out]
  go_region_held3 (fun wa => wa.cell? ⟨h, 1, none⟩ = some (.map (some xb)) ∧ wa.cell? ⟨gr, 0, none⟩ = some (.string r.f) ∧ wa.cell? ⟨gr, 1, none⟩ = some (.string r.e) ∧ wa.cell? ⟨gr, 2, none⟩ = some (.int .i64 r.n) ∧ (Instr.lookup 83 (.map (some xb)) (rkV r) true).run Try.prog wa = .ok (.tuple #[.pointer none, .bool false]) wa ∧ (HqP wa B h xb sb kb V R S K v lv ∧ Blk wa gr 90 #[.string r.f, .string r.e, .int .i64 r.n] ∧ Below w.heap.size w wa)) (first | assumption | exact keep (by assumption) (by assumption) | exact keep (by assumption) hD) (first | fail)
  all_goals
    rename_i hHeld
    go_wp2_with fail
    go_ret
    exact ⟨rfl, hHeld.2.2.2.2.2.2.2⟩
set_option maxHeartbeats 16000000 in
theorem Stop_run (H : HqP w B h xb sb kb V R S K v lv) {j : Nat} {p : Pr} (hj : R[j]? = some p) {r : Pm} (hp : p.r = r) (hl : R.length ≤ 100) :
    Calls Try.prog 47 #[.pointer (some ⟨h, 0, none⟩), rkV r] w fun e9 w' => ∃ c v', e9 = .returned (.slice (some ⟨c, 0, none⟩) 1 1) ∧ Blk w' c 30 (msA ⟨9, r, noB, 0⟩) ∧ w.heap.size ≤ c ∧ ¬ V c ∧ HqP w' B h xb sb kb V (R.eraseIdx j) S K v' lv ∧ Vol V w w' := by
  obtain ⟨W, hW⟩ : ∃ W, W = w.alloc (.cells #[.string r.f, .string r.e, .int .i64 r.n] 90) := ⟨_, rfl⟩
  obtain ⟨gr, hgr⟩ : ∃ gr, gr = w.heap.size := ⟨_, rfl⟩
  have hb : Below w.heap.size w W := by rw [hW]; exact (Below.refl _ _).alloc (Nat.le_refl _) _
  have hk : Blk W gr 90 #[.string r.f, .string r.e, .int .i64 r.n] := by rw [hW, hgr]; exact Blk.new _ _ _
  have HW := Lib.hid hW
  have HG := Lib.hid hgr
  have HJ := Lib.hid hj
  have HP := Lib.hid hp
  have hl0 : ∀ {wa : World}, HqP wa B h xb sb kb V R S K v lv → (Instr.lookup 83 (.map (some xb)) (rkV r) true).run Try.prog wa = .ok (.tuple #[ptr p, .bool true]) wa := fun H => ex_yes H.ex H.ps.uniq hj hp
  have keep : ∀ {wa wb : World}, (wa.cell? ⟨h, 1, none⟩ = some (.map (some xb)) ∧ wa.cell? ⟨gr, 0, none⟩ = some (.string r.f) ∧ wa.cell? ⟨gr, 1, none⟩ = some (.string r.e) ∧ wa.cell? ⟨gr, 2, none⟩ = some (.int .i64 r.n) ∧ (Instr.lookup 83 (.map (some xb)) (rkV r) true).run Try.prog wa = .ok (.tuple #[ptr p, .bool true]) wa ∧ (HqP wa B h xb sb kb V R S K v lv ∧ Blk wa gr 90 #[.string r.f, .string r.e, .int .i64 r.n] ∧ Below w.heap.size w wa)) → Below wa.heap.size wa wb → (wb.cell? ⟨h, 1, none⟩ = some (.map (some xb)) ∧ wb.cell? ⟨gr, 0, none⟩ = some (.string r.f) ∧ wb.cell? ⟨gr, 1, none⟩ = some (.string r.e) ∧ wb.cell? ⟨gr, 2, none⟩ = some (.int .i64 r.n) ∧ (Instr.lookup 83 (.map (some xb)) (rkV r) true).run Try.prog wb = .ok (.tuple #[ptr p, .bool true]) wb ∧ (HqP wb B h xb sb kb V R S K v lv ∧ Blk wb gr 90 #[.string r.f, .string r.e, .int .i64 r.n] ∧ Below w.heap.size w wb)) := fun k hb => by
    obtain ⟨_, _, _, _, _, k6, k7, k8⟩ := k
    have j6 := k6.below hb
    have j7 := k7.below hb k7.lt
    exact ⟨j6.blk.cell 1, j7.cell 0, j7.cell 1, j7.cell 2, hl0 j6, j6, j7, k8.trans (hb.mono k8.size)⟩
  have hD : ∀ {wa : World}, Below wa.heap.size wa wa.drew := (Below.refl _ _).drew
  have h7 := H.below hb
  have hS0 : (W.cell? ⟨h, 1, none⟩ = some (.map (some xb)) ∧ W.cell? ⟨gr, 0, none⟩ = some (.string r.f) ∧ W.cell? ⟨gr, 1, none⟩ = some (.string r.e) ∧ W.cell? ⟨gr, 2, none⟩ = some (.int .i64 r.n) ∧ (Instr.lookup 83 (.map (some xb)) (rkV r) true).run Try.prog W = .ok (.tuple #[ptr p, .bool true]) W ∧ (HqP W B h xb sb kb V R S K v lv ∧ Blk W gr 90 #[.string r.f, .string r.e, .int .i64 r.n] ∧ Below w.heap.size w W)) := ⟨h7.blk.cell 1, hk.cell 0, hk.cell 1, hk.cell 2, hl0 h7, h7, hk, hb⟩
  have HVl := Lib.hid H.lt
  clear hW hgr hb hk h7 hl0 H hj hp
  go_enter Try.func47, Try.ntmps47
  go_upto_region 1 with fail
  rw [← HW.out, ← HG.out]
  go_cut [6] from 5 to 16 (fun v6 wx => Hid (v6 = .bool true ∧ HqP wx B h xb sb kb V R S K v lv ∧ Blk wx gr 90 #[.string r.f, .string r.e, .int .i64 r.n] ∧ Below w.heap.size w wx ∧ ∃ w9, w9 = wx))
  case first =>
    go_region_held3 (fun wa => wa.cell? ⟨h, 1, none⟩ = some (.map (some xb)) ∧ wa.cell? ⟨gr, 0, none⟩ = some (.string r.f) ∧ wa.cell? ⟨gr, 1, none⟩ = some (.string r.e) ∧ wa.cell? ⟨gr, 2, none⟩ = some (.int .i64 r.n) ∧ (Instr.lookup 83 (.map (some xb)) (rkV r) true).run Try.prog wa = .ok (.tuple #[ptr p, .bool true]) wa ∧ (HqP wa B h xb sb kb V R S K v lv ∧ Blk wa gr 90 #[.string r.f, .string r.e, .int .i64 r.n] ∧ Below w.heap.size w wa)) (first | assumption | exact keep (by assumption) (by assumption) | exact keep (by assumption) hD) (first | fail)
    all_goals
      rename_i hHeld
      go_wp2_with fail
      go_meet
      exact Lib.hid ⟨rfl, hHeld.2.2.2.2.2.1, hHeld.2.2.2.2.2.2.1, hHeld.2.2.2.2.2.2.2, _, rfl⟩
  case rest =>
    obtain ⟨rfl, h9, hk9, hb9, w9, hw9⟩ := hcut.out
    subst hw9
    clear hcut hS0 keep hD
    have a1 : w9.cell? ⟨h, 1, none⟩ = some (.map (some xb)) := h9.blk.cell 1
    have a2 : w9.cell? ⟨gr, 0, none⟩ = some (.string r.f) := hk9.cell 0
    have a3 : w9.cell? ⟨gr, 1, none⟩ = some (.string r.e) := hk9.cell 1
    have a4 : w9.cell? ⟨gr, 2, none⟩ = some (.int .i64 r.n) := hk9.cell 2
    have e0 := fun ty => ex_del (w := w9.drew) h9.ex h9.ps.uniq HJ.out HP.out ty
    have H9 := Lib.hid h9
    have HK9 := Lib.hid hk9
    have HB9 := Lib.hid hb9
    clear h9 hk9 hb9
    go_upto_region 4 with fail
    obtain ⟨d1, e1, hx1, hg1⟩ := e0 0
    clear e0
    have HX1 := Lib.hid hx1
    have HG1 := Lib.hid hg1
    clear hx1 hg1
    go_region
    have v1 : Vol (fun b => b = xb) w9 d1 := (Vol.refl w9).drew.grown HG1.out (fun k hk => .inl (by injection hk with hk; exact hk.symm))
    have bh1 := blk_vol H9.out.blk v1 (blk_map_ne H9.out.blk H9.out.ex)
    have bk1 := blk_vol HK9.out v1 (blk_map_ne HK9.out H9.out.ex)
    have bp1 : ∀ (k : Nat) (p : Pr), R[k]? = some p → Blk d1 p.g 98 (prC p) := fun k q hq => blk_vol (H9.out.ps.prs k q hq) v1 (blk_map_ne (H9.out.ps.prs k q hq) H9.out.ex)
    have br1 := own_vol H9.out.row v1 (fun b hb e => own_map_ne H9.out.row H9.out.ex (by rw [hb, e]))
    have hI := Index_run br1 bp1 H9.out.ps.uniq bk1 hl HJ.out HP.out
    have b1 : d1.cell? ⟨h, 0, none⟩ = some v := bh1.cell 0
    have hmf : ∀ (fn : Fn) (first cap : Array Value) (w : World), (Instr.makeFunc fn first cap).run Try.prog w = .ok (.func fn first cap) w := fun _ _ _ _ => rfl
    have HV1 := Lib.hid v1
    have HH1 := Lib.hid bh1
    have HK1 := Lib.hid bk1
    have HR1 := Lib.hid br1
    clear v1 bh1 bk1 bp1 br1 a1 a2 a3 a4 e1
    go_upto_region 6 with (go_at_call 66; refine hI.mono ?_; rintro e9 d2 ⟨rfl, k2, rfl⟩)
    have hjl := (List.getElem?_eq_some_iff.1 HJ.out).1
    obtain ⟨A0, c0, hv0, hc0, -⟩ := own_slice HR1.out
    have hr1 := HR1.out
    rw [hv0] at hr1
    obtain ⟨u, hu⟩ := own_some hr1 (by omega)
    subst hu
    have hdn : Below d1.heap.size d1 (d1.drewN k2) := below_drewN (Below.refl _ _) k2
    obtain ⟨d2, hd2⟩ : ∃ d2, d2 = d1.drewN k2 := ⟨_, rfl⟩
    rw [← hd2] at hdn ⊢
    have hr2 := own_keep hr1 hdn
    have bh2 := HH1.out.below hdn HH1.out.lt
    have bk2 := HK1.out.below hdn HK1.out.lt
    have hx2 := HX1.out.keep (hdn.block _ HX1.out.lt)
    have hE := Delete_p d2 hr2 hjl
    obtain ⟨L, hL⟩ : ∃ L, L = R.length := ⟨_, rfl⟩
    rw [← hL] at hE hr2 hl hjl
    have c0' : d2.cell? ⟨h, 0, none⟩ = some (.slice (some ⟨u, 0, none⟩) L c0) := by rw [hL, ← hv0]; exact bh2.cell 0
    have hw1 : IntKind.i64.wrap ((j : Int) + 1) = (j : Int) + 1 := IntWalk.i64_in _ (by omega)
    have HV0 := Lib.hid hv0
    have HL := Lib.hid hL
    have HDN := Lib.hid hdn
    have HR2 := Lib.hid hr2
    have HH2 := Lib.hid bh2
    have HK2 := Lib.hid bk2
    have HX2 := Lib.hid hx2
    clear hv0 hL hdn hr2 bh2 bk2 hx2 hr1 b1 hd2 hI
    go_upto_region 7 with (go_at_call 68; refine hE.mono ?_; rintro e9 d3 ⟨rfl, hr3, hg3⟩; have bh3 := HH2.out.grown hg3 (fun e => own_blk_ne HR2.out HH2.out (by decide) e.symm); have f3 : d3.frozen? ⟨h, 0, none⟩ = false := bh3.frozen 0; have c30 : d3.cell? ⟨h, 0, none⟩ = some (.slice (some ⟨u, 0, none⟩) L c0) := by (rw [HL.out, ← HV0.out]; exact bh3.cell 0))
    have bk3 := HK2.out.grown hg3 (fun e => own_blk_ne HR2.out HK2.out (by decide) e.symm)
    obtain ⟨d4, hd4⟩ : ∃ d4, d4 = d3.setCell ⟨h, 0, none⟩ (.slice (some ⟨u, 0, none⟩) (L - 1) c0) := ⟨_, rfl⟩
    rw [← hd4]
    have hgk : h ≠ gr := bh3.ne_ bk3 (by decide)
    have v34 : Vol (fun b => b = h ∨ v.ownBlock = some b) d2 d4 := by
      rw [hd4]
      refine ((Vol.refl d2).grown hg3 (fun k hk => .inl (.inr ?_))).setCell (.inl (.inl rfl)) _
      rw [HV0.out]
      exact hk
    have bh4 := bh3.set_ 0 (.slice (some ⟨u, 0, none⟩) (L - 1) c0)
    have bk4 := bk3.far (fun e => hgk e.symm) (p := ⟨h, 0, none⟩) (.slice (some ⟨u, 0, none⟩) (L - 1) c0)
    rw [← hd4] at bh4 bk4
    have row4 : d4.ownsRow B 94 1 (.slice (some ⟨u, 0, none⟩) (L - 1) c0) (L - 1) ((R.eraseIdx j).map ptr) := by rw [hd4, HL.out]; rw [HL.out] at hr3; exact own_far hr3 bh3 (by decide)
    have vol : Vol (fun b => b = h ∨ b = xb ∨ v.ownBlock = some b) w9 d4 := by
      have u1 : Vol (fun b => b = h ∨ b = xb ∨ v.ownBlock = some b) w9 d2 := (HV1.out.mono (fun b e => .inr (.inl e))).below HDN.out
      exact u1.trans v34 (fun b e => .inl (e.elim .inl (fun e => .inr (.inr e))))
    have ex4 := HX2.out.keep (v34.block _ HX2.out.lt (fun e => e.elim (fun e => blk_map_ne HH2.out HX2.out e.symm) (fun e => own_map_ne HR2.out HX2.out (by rw [HV0.out] at e; exact e))))
    have H4 := H9.out.erase (v' := .slice (some ⟨u, 0, none⟩) (L - 1) c0) j vol (by simpa using bh4) ex4 (by
      have e1 : (R.eraseIdx j).length = L - 1 := by rw [List.length_eraseIdx, if_pos (by have := HL.out; omega), HL.out]
      rw [e1]
      exact row4) (fun b e => by rw [HV0.out]; exact e)
    have k80 : d4.cell? ⟨gr, 0, none⟩ = some (.string r.f) := bk4.cell 0
    have k81 : d4.cell? ⟨gr, 1, none⟩ = some (.string r.e) := bk4.cell 1
    have k82 : d4.cell? ⟨gr, 2, none⟩ = some (.int .i64 r.n) := bk4.cell 2
    have H4' := Lib.hid H4
    have VOL := Lib.hid vol
    clear H4 vol ex4 row4 bh4 bk4 v34 hgk hd4 bh3 bk3 hg3 hr3 f3 c30 c0' hmf hw1 hE
    go_wp2_with (go_at_call 48; refine (About 9 r _).mono ?_; rintro e9 wA ⟨rfl, hbA⟩)
    go_ret
    have hz := H4'.out.below hbA
    refine ⟨wA.heap.size, _, rfl, Blk.new wA 30 (msA ⟨9, r, noB, 0⟩), ?_, fun e => absurd (hz.lt _ e) (Nat.lt_irrefl _), hz.below ((Below.refl _ _).alloc (Nat.le_refl _) _), ?_⟩
    · exact Nat.le_trans HB9.out.size (Nat.le_trans VOL.out.size hbA.size)
    · have u0 : Vol V w w9 := Vol.of_below HB9.out
      refine ((u0.trans VOL.out (fun b e => ?_)).below hbA).alloc _
      rcases e with rfl | rfl | e
      · exact .inl H9.out.vm.1
      · exact .inl H9.out.vm.2.1
      · exact .inl (H9.out.vr b e)
end
end Go.Proofs.Ytiflhfhonhbcpaa.Hw
namespace Go.Proofs.Ytiflhfhonhbcpaa.Hw
open Go Go.RowKit Go.Proofs.Ytiflhfhonhbcpaa Go.Proofs.Ytiflhfhonhbcpaa.Crw Go.Proofs.Ytiflhfhonhbcpaa.Vl Go.ChangeShapes Go.WideShapes Go.ChangeAt Go.Lib
set_option linter.unusedVariables false
set_option maxRecDepth 1000000
theorem tsk_info : (Try.prog.info? 110).map (fun i => (i.zero, i.size, i.bytes)) = some (some (.agg #[.string ⟨#[]⟩, .bool false]), 2, 24) := by kernel_rfl
abbrev tkZ : Value := .agg #[.string ⟨#[]⟩, .bool false]
theorem cell_row {w : World} {g : Nat} {cs : Array Value} {t : TypeId} (h : w.heap[g]? = some (.cells cs t (0, 0))) (i : Nat) : w.cell? ⟨g, i, none⟩ = cs[i]? := (show Blk w g t cs from h).cell i
theorem row_delW {cur xs z : List Value} {n c i o : Nat} (hs : o + c * 2 ≤ cur.length) (hx : (cur.drop o).take (n * 2) = xs) (hi : i < n) (hc : n ≤ c) :
    let R := cur.take (o + i * 2) ++ xs.drop ((i + 1) * 2) ++ cur.drop (o + i * 2 + (xs.drop ((i + 1) * 2)).length)
    ((R.take (o + (n - 1) * 2) ++ z ++ R.drop (o + (n - 1) * 2 + z.length)).drop o).take ((n - 1) * 2) = xs.take (i * 2) ++ xs.drop ((i + 1) * 2) := by
  intro R
  have hxl : xs.length = n * 2 := by rw [← hx, List.length_take, List.length_drop]; omega
  have hdl : (xs.drop ((i + 1) * 2)).length = (n - (i + 1)) * 2 := by rw [List.length_drop, hxl]; omega
  have h1 : (cur.take (o + i * 2)).length = o + i * 2 := by rw [List.length_take]; omega
  have hRl : (R.take (o + (n - 1) * 2)).length = o + (n - 1) * 2 := by
    rw [List.length_take]
    show min _ (cur.take (o + i * 2) ++ xs.drop ((i + 1) * 2) ++ _).length = _
    simp only [List.length_append, h1, hdl]
    omega
  rw [List.append_assoc, List.drop_append_of_le_length (by omega), List.take_append_of_le_length (by rw [List.length_drop]; omega), List.drop_take, Nat.add_sub_cancel_left, List.take_take, Nat.min_self]
  show (List.drop o (cur.take (o + i * 2) ++ xs.drop ((i + 1) * 2) ++ _)).take _ = _
  rw [List.append_assoc, List.drop_append_of_le_length (by omega), ← List.append_assoc, List.drop_take, Nat.add_sub_cancel_left]
  have h2 : (List.take (i * 2) (cur.drop o)).length = i * 2 := by rw [List.length_take, List.length_drop]; omega
  rw [List.take_append_of_le_length (by simp only [List.length_append, h2, hdl]; omega), List.take_of_length_le (by simp only [List.length_append, h2, hdl]; omega)]
  congr 1
  rw [← hx, List.take_take]
  congr 1
  omega
abbrev DelPost (B n i g o c : Nat) (xs : List Value) (w : World) (e : Ending) (w' : World) : Prop := e = .returned (.slice (some ⟨g, o, none⟩) (n - 1) c) ∧ Win w' B 110 2 (.slice (some ⟨g, o, none⟩) (n - 1) c) (n - 1) (xs.take (i * 2) ++ xs.drop ((i + 1) * 2)) ∧ w.grownBy w' (some g)
set_option maxHeartbeats 8000000 in
theorem Delete_win {B n c i g o : Nat} {xs : List Value} (w : World) (h : Win w B 110 2 (.slice (some ⟨g, o, none⟩) n c) n xs) (hi : i < n) (h1x : ∀ u ∈ xs, u.oneCell' = true) :
    Calls Try.prog 65 #[.slice (some ⟨g, o, none⟩) n c, .int .i64 i, .int .i64 ((i : Int) + 1)] w (DelPost B n i g o c xs w) := by
  have t67 := Try.underlying96
  obtain ⟨i0, hi0, hz0, hzs, hzb⟩ := info_parts tsk_info
  have hxl : xs.length = n * 2 := h.1
  obtain ⟨cur, hB, hg, hnc, hc, hcs, hcx⟩ : ∃ cur, B ≤ g ∧ w.heap[g]? = some (.cells cur 110 (0, 0)) ∧ n ≤ c ∧ c ≤ maxLen ∧ o + c * 2 ≤ cur.size ∧ (cur.toList.drop o).take (n * 2) = xs := by
    obtain ⟨A, c', e1, h3, h4, _⟩ := h.form
    injection e1 with _ _ e1
    subst e1
    obtain ⟨g', o', cur, e1, k2, k3, k4, k5⟩ := h.open_
    injection e1 with e1 e2
    subst e1 e2
    exact ⟨cur, k2, k3, h3, h4, k4, k5⟩
  have hb : Blk w g 110 cur := hg
  obtain ⟨news, hnews⟩ : ∃ news, news = xs.drop ((i + 1) * 2) := ⟨_, rfl⟩
  have hdl : news.length = (n - (i + 1)) * 2 := by rw [hnews, List.length_drop, hxl]; omega
  have s2 : ∀ u ∈ news, u.oneCell' = true := fun u hu => h1x u (List.mem_of_mem_drop (by rw [← hnews]; exact hu))
  obtain ⟨A, hA, hsrc⟩ : ∃ A : Addr, (if c = i + 1 then some (⟨g, o, none⟩ : Addr) else some ⟨g, o + (i + 1) * 2, none⟩) = some A ∧ Hid (∀ t u, news[t]? = some u → w.drew.cell? (A.add t) = some u) := by
    by_cases h : c = i + 1
    · refine ⟨⟨g, o, none⟩, by simp [h], Lib.hid fun t u hu => ?_⟩
      have h0 : news.length = 0 := by rw [hdl]; omega
      rw [List.length_eq_zero_iff.1 h0] at hu
      simp at hu
    · refine ⟨⟨g, o + (i + 1) * 2, none⟩, by simp [h], Lib.hid fun t u hu => ?_⟩
      rw [Addr.add_lit]
      show w.cell? _ = _
      rw [cell_row hg]
      rw [hnews, List.getElem?_drop, ← hcx, List.getElem?_take, List.getElem?_drop] at hu
      split at hu
      · rw [← Nat.add_assoc] at hu
        simpa using hu
      · cases hu
  obtain ⟨R1, hR1⟩ : ∃ R1 : Array Value, R1 = (cur.toList.take (o + i * 2) ++ news ++ cur.toList.drop (o + i * 2 + news.length)).toArray := ⟨_, rfl⟩
  have hR1s : R1.size = cur.size := by rw [hR1]; simp [hdl]; omega
  obtain ⟨W1, hW1⟩ : ∃ W1, W1 = w.drew.setCells g (o + i * 2) news := ⟨_, rfl⟩
  have hW1' : W1 = w.drew.setRow g R1 := by
    rw [hW1, hR1]
    exact setCells_row (P := Try.prog) w.drew g (o + i * 2) _ news cur hg (by rw [hdl]; omega) s2
  have hg1 : W1.heap[g]? = some (.cells R1 110 (0, 0)) := by rw [hW1']; exact setRow_heap w.drew g cur R1 _ _ hg
  have s3 : Hid (∀ t, t < news.length → (w.drew.cell? ⟨g, o + i * 2 + t, none⟩).isSome = true ∧ w.drew.frozen? ⟨g, o + i * 2 + t, none⟩ = false) := Lib.hid (by
    intro t ht
    refine ⟨?_, hb.frozen _⟩
    show (w.cell? _).isSome = true
    rw [cell_row hg, Array.getElem?_eq_getElem (by omega)]
    rfl)
  obtain ⟨R2, hR2⟩ : ∃ R2 : Array Value, R2 = (R1.toList.take (o + (n - 1) * 2) ++ tkZ.cells.toList ++ R1.toList.drop (o + (n - 1) * 2 + tkZ.cells.toList.length)).toArray := ⟨_, rfl⟩
  have hin1 : i + (n - (i + 1)) = n - 1 := by omega
  have hcl : ∀ ty, (Builtin.clear_ #[96] ty #[.slice (some ⟨g, o + (i + (n - (i + 1))) * 2, none⟩) (n - (i + (n - (i + 1)))) (c - (i + (n - (i + 1))))]).run Try.prog W1 = .ok (.tuple #[]) (W1.setRow g R2) := fun ty => by
    rw [hR2, hin1, show n - (n - 1) = 1 by omega]
    exact run_clear_z W1 _ _ ty tkZ t67 (fun w => by kernel_rfl) (by decide) g _ _ 110 R1 hg1 (by rw [hR1s]; show _ + 2 ≤ _; omega) (by kernel_rfl)
  have hfin : DelPost B n i g o c xs w (.returned (.slice (some ⟨g, o, none⟩) (i + (n - (i + 1))) c)) (W1.setRow g R2) := by
    rw [hin1]
    refine ⟨rfl, ?_, ?_⟩
    · refine ⟨by rw [List.length_append, List.length_take, List.length_drop, hxl]; omega, _, c, rfl, by omega, hc, fun _ => by simp, fun a ha => ?_⟩
      injection ha with ha
      refine ⟨g, o, R2, ha.symm, hB, setRow_heap W1 g R1 R2 _ _ hg1, by rw [hR2]; simp [Value.cells, hR1s]; omega, ?_⟩
      rw [hR2, hR1, hnews]
      exact row_delW (by simpa using hcs) hcx hi hnc
    · have k1 : w.grownBy W1 (some g) := by rw [hW1']; exact (let k := grown_setRow w.drew g R1; ⟨k.os, k.tape, k.output, k.size, k.block⟩)
      have k2 := grown_setRow W1 g R2
      exact ⟨k2.os.trans k1.os, k2.tape.trans k1.tape, k2.output.trans k1.output, Nat.le_trans k1.size k2.size, fun k hk hne => (k2.block k (Nat.lt_of_lt_of_le hk k1.size) hne).trans (k1.block k hk hne)⟩
  have s1 : Hid (news.length = (n - (i + 1)) * 2) := Lib.hid hdl
  have S2 := Lib.hid s2
  have HFIN := Lib.hid hfin
  have hW : Hid (W1 = w.drew.setCells g (o + i * 2) news) := Lib.hid hW1
  have mixed : Try.prog.follows .mixedOrders = true := by kernel_rfl
  obtain ⟨j, hjd⟩ : ∃ j, j = i + 1 := ⟨_, rfl⟩
  have hlt : i < j := by omega
  have hjn : j ≤ n := by omega
  have hic : i ≤ c := by omega
  have hjc : j ≤ c := by omega
  unfold maxLen at hc
  rw [show (i : Int) + 1 = (j : Int) by omega]
  rw [← hjd] at hA hcl s1
  have HFIN2 : Hid (DelPost B n i g o c xs w (.returned (.slice (some ⟨g, o, none⟩) (i + (n - j)) c)) (W1.setRow g R2)) := Lib.hid (by rw [hjd]; exact HFIN.out)
  clear HFIN hfin hW1 hW1' hR1 hR2 hg1 hg hb hcx hcs hR1s hnews hdl hxl h s2 hjd hin1 h1x
  go_enter Try.func65, Try.ntmps65
  go_wp2_with fail
  go_region_law_o (refine step_append_room rfl (.tmp 22) (.tmp 25) 96 rfl 110 i0 2 t67 hi0 hzs g o i c (by simp [Act.eval, Act.put]) A (n - j) (c - j) news (by simp [Act.eval, Act.put]) s1.out hsrc.out S2.out (by omega) s3.out ?_; rw [← hW.out])
  go_wp2
  go_ret
  exact HFIN2.out
end Go.Proofs.Ytiflhfhonhbcpaa.Hw
namespace Go.Proofs.Ytiflhfhonhbcpaa.Hw
open Go Go.RowKit Go.Proofs.Ytiflhfhonhbcpaa Go.Proofs.Ytiflhfhonhbcpaa.Crw Go.Proofs.Ytiflhfhonhbcpaa.Vl Go.ChangeShapes Go.WideShapes Go.ChangeAt
set_option linter.unusedVariables false
set_option maxRecDepth 1000000
/-- The first task of this name. -/
def FirstT (ts : List Tq) (t : ByteArray) (i : Nat) : Prop := ∃ x, ts[i]? = some x ∧ x.t = t ∧ ∀ (m : Nat) (y : Tq), m < i → ts[m]? = some y → ¬ y.t = t
def NoT (ts : List Tq) (t : ByteArray) : Prop := ∀ (m : Nat) (y : Tq), ts[m]? = some y → ¬ y.t = t
def At1 (ts : List Tq) (t : ByteArray) (ri : Int) : Prop := (∃ i : Nat, ri = i ∧ FirstT ts t i) ∨ (ri = -1 ∧ NoT ts t)
section
variable {w w' : World} {B : Nat} {v : Value} {ts : List Tq}
set_option maxHeartbeats 4000000 in
theorem Is_task {gt : Nat} {a t : ByteArray} {b : Bool} (ht : w.cell? ⟨gt, 0, none⟩ = some (.string t)) :
    Calls Try.prog 64 #[.agg #[.string a, .bool b], .pointer (some ⟨gt, 0, none⟩)] w fun e9 w' => e9 = .returned (.bool (a.toList == t.toList)) ∧ Below w.heap.size w w' := by
  have hlt : gt < w.heap.size := by
    unfold World.cell? at ht
    rcases Nat.lt_or_ge gt w.heap.size with h' | h'
    · exact h'
    · rw [Array.getElem?_eq_none h'] at ht; cases ht
  have ht2 : (w.alloc (.cells #[.string a, .bool b] 110)).cell? ⟨gt, 0, none⟩ = some (.string t) := (World.cell?_alloc_lt w _ ⟨gt, 0, none⟩ hlt).trans ht
  clear ht hlt
  go_enter Try.func64, Try.ntmps64
  go_wp2
  go_ret
  exact ⟨rfl, (Below.refl _ _).alloc (Nat.le_refl _) _⟩
theorem toList_ne {a b : ByteArray} : (a.toList == b.toList) = true ↔ a = b := by
  constructor
  · intro h
    exact bytes_eq (by simpa using h)
  · rintro rfl
    simp
set_option maxHeartbeats 8000000 in
theorem Index_task (hw : Win w B 110 2 v ts.length (tqV ts)) {gt : Nat} {t : ByteArray} (ht : w.cell? ⟨gt, 0, none⟩ = some (.string t)) (hlt : gt < w.heap.size) (hl : ts.length ≤ 100) :
    Calls Try.prog 63 #[v, .func (.func 64) #[] #[.pointer (some ⟨gt, 0, none⟩)]] w fun e9 w' => ∃ ri, e9 = .returned (.int .i64 ri) ∧ At1 ts t ri ∧ Below w.heap.size w w' := by
  obtain ⟨A0, c0, rfl, hc0, hcm, hA0⟩ := hw.form
  obtain ⟨L, hL⟩ : ∃ L, L = ts.length := ⟨_, rfl⟩
  rw [← hL] at hw hc0 hl ⊢
  have HW := Lib.hid hw
  have HL := Lib.hid hL
  have HT := Lib.hid ht
  have HA := Lib.hid hA0
  clear hw hL ht hA0 hcm
  go_enter Try.func63, Try.ntmps63
  go_wp2_with fail
  go_loopw [8] (fun vi wx => Hid (∃ i : Nat, vi = .int .i64 i ∧ i ≤ L ∧ (∀ (m : Nat) (y : Tq), m < i → ts[m]? = some y → ¬ y.t = t) ∧ Below w.heap.size w wx ∧ ∃ w7, w7 = wx)) (fun vi _ => L + 1 - (intOf vi).toNat)
  case atStart => exact Lib.hid ⟨0, rfl, by omega, fun m y h => by omega, Below.refl _ _, _, rfl⟩
  case round =>
    obtain ⟨i, rfl, hi, hno, hb, w7, hw7⟩ := hrel.out
    subst hw7
    clear hrel
    have HN := Lib.hid hno
    have HB := Lib.hid hb
    clear hno hb
    by_cases hlt2 : (i : Int) < L
    · obtain ⟨q, hq⟩ : ∃ q, ts[i]? = some q := ⟨ts[i]'(by have := HL.out; omega), List.getElem?_eq_getElem _⟩
      obtain ⟨g, o, c, hv, -, -⟩ := HW.out.at (by omega)
      injection hv with hv _ hv2
      subst hv hv2
      have h7 := HW.out.below HB.out
      have i0 : w7.cell? ⟨g, o + i * 2, none⟩ = some (.string q.t) := by
        have := h7.cell (i := i * 2) (by omega)
        rw [this, show i * 2 = i * 2 + 0 by rfl, tqV_get ts i q hq 0 (by omega)]
        rfl
      have i1 : w7.cell? ⟨g, o + i * 2 + 1, none⟩ = some (.bool q.b) := by
        have := h7.cell (i := i * 2 + 1) (by omega)
        rw [Nat.add_assoc, this, tqV_get ts i q hq 1 (by omega)]
        rfl
      have hC := Is_task (w := w7) (a := q.t) (b := q.b) ((HB.out.cell (p := ⟨gt, 0, none⟩) hlt).trans HT.out)
      have HQ := Lib.hid hq
      obtain ⟨bq, hbq⟩ : ∃ bq, bq = (q.t.toList == t.toList) := ⟨_, rfl⟩
      rw [← hbq] at hC
      have HE := Lib.hid hbq
      clear hq h7 hbq
      cases bq
      · go_wp2_with (go_at_call 64; refine hC.mono ?_; rintro e9 w8 ⟨rfl, hb8⟩)
        refine ⟨?_, by simp [intOf]; omega⟩
        refine Lib.hid ⟨i + 1, by simp, by omega, fun m y hm hy => ?_, HB.out.trans (hb8.mono HB.out.size), _, rfl⟩
        rcases Nat.lt_or_ge m i with h | h
        · exact HN.out m y h hy
        · obtain rfl : m = i := by omega
          rw [HQ.out] at hy
          injection hy with hy
          subst hy
          intro e
          have := toList_ne.2 e
          rw [← HE.out] at this
          cases this
      · go_wp2_with (go_at_call 64; refine hC.mono ?_; rintro e9 w8 ⟨rfl, hb8⟩)
        go_ret
        exact ⟨i, rfl, .inl ⟨i, rfl, q, HQ.out, toList_ne.1 HE.out.symm, HN.out⟩, HB.out.trans (hb8.mono HB.out.size)⟩
    · go_wp2_with fail
      go_ret
      refine ⟨-1, rfl, .inr ⟨rfl, fun m y hy => HN.out m y ?_ hy⟩, HB.out⟩
      have := (List.getElem?_eq_some_iff.1 hy).1
      have := HL.out
      omega
end
end Go.Proofs.Ytiflhfhonhbcpaa.Hw
namespace Go.Proofs.Ytiflhfhonhbcpaa.Hw
open Go Go.RowKit Go.Proofs.Ytiflhfhonhbcpaa Go.Proofs.Ytiflhfhonhbcpaa.Crw Go.Proofs.Ytiflhfhonhbcpaa.Vl Go.ChangeShapes Go.WideShapes Go.ChangeAt
set_option linter.unusedVariables false
set_option maxRecDepth 1000000
section
variable {w w' : World} {B h xb sb kb : Nat} {V U : Nat → Prop} {R : List Pr} {S : List Pm} {K : List Ky} {v lv : Value}
set_option maxHeartbeats 8000000 in
/-- A task of a run that is not there ends. -/
theorem End_no (H : HqP w B h xb sb kb V R S K v lv) {r : Pm} (hn : ∀ (k : Nat) (p : Pr), R[k]? = some p → p.r ≠ r) (t : ByteArray) :
    Calls Try.prog 46 #[.pointer (some ⟨h, 0, none⟩), rkV r, .string t] w fun e9 w' => e9 = .returned (.slice none 0 0) ∧ Below w.heap.size w w' := by
  obtain ⟨gr, hgr⟩ : ∃ gr, gr = w.heap.size := ⟨_, rfl⟩
  obtain ⟨gt, hgt⟩ : ∃ gt, gt = w.heap.size + 1 := ⟨_, rfl⟩
  obtain ⟨W, hW⟩ : ∃ W, W = (w.alloc (.cells #[.string r.f, .string r.e, .int .i64 r.n] 90)).alloc (.cells #[.string t] 9) := ⟨_, rfl⟩
  have hb : Below w.heap.size w W := by rw [hW]; exact ((Below.refl _ _).alloc (Nat.le_refl _) _).alloc (by simp) _
  have hk : Blk W gr 90 (rkC r) := by rw [hW, hgr]; exact (Blk.new w _ _).alloc _
  have hkt : Blk W gt 9 #[.string t] := by
    rw [hW, hgt]
    have := Blk.new (w.alloc (.cells #[.string r.f, .string r.e, .int .i64 r.n] 90)) 9 #[.string t]
    simpa using this
  have HW := Lib.hid hW
  have HG := Lib.hid (And.intro hgr hgt)
  have hl0 : ∀ {wa : World}, HqP wa B h xb sb kb V R S K v lv → (Instr.lookup 83 (.map (some xb)) (rkV r) true).run Try.prog wa = .ok (.tuple #[.pointer none, .bool false]) wa := fun H => ex_no H.ex hn
  have keep : ∀ {wa wb : World}, (wa.cell? ⟨h, 1, none⟩ = some (.map (some xb)) ∧ wa.cell? ⟨gr, 0, none⟩ = some (.string r.f) ∧ wa.cell? ⟨gr, 1, none⟩ = some (.string r.e) ∧ wa.cell? ⟨gr, 2, none⟩ = some (.int .i64 r.n) ∧ (Instr.lookup 83 (.map (some xb)) (rkV r) true).run Try.prog wa = .ok (.tuple #[.pointer none, .bool false]) wa ∧ (HqP wa B h xb sb kb V R S K v lv ∧ Blk wa gr 90 (rkC r) ∧ Blk wa gt 9 #[.string t] ∧ Below w.heap.size w wa)) → Below wa.heap.size wa wb → (wb.cell? ⟨h, 1, none⟩ = some (.map (some xb)) ∧ wb.cell? ⟨gr, 0, none⟩ = some (.string r.f) ∧ wb.cell? ⟨gr, 1, none⟩ = some (.string r.e) ∧ wb.cell? ⟨gr, 2, none⟩ = some (.int .i64 r.n) ∧ (Instr.lookup 83 (.map (some xb)) (rkV r) true).run Try.prog wb = .ok (.tuple #[.pointer none, .bool false]) wb ∧ (HqP wb B h xb sb kb V R S K v lv ∧ Blk wb gr 90 (rkC r) ∧ Blk wb gt 9 #[.string t] ∧ Below w.heap.size w wb)) := fun k hb => by
    obtain ⟨_, _, _, _, _, k6, k7, k9, k8⟩ := k
    have j6 := k6.below hb
    have j7 := k7.below hb k7.lt
    exact ⟨j6.blk.cell 1, j7.cell 0, j7.cell 1, j7.cell 2, hl0 j6, j6, j7, k9.below hb k9.lt, k8.trans (hb.mono k8.size)⟩
  have hD : ∀ {wa : World}, Below wa.heap.size wa wa.drew := (Below.refl _ _).drew
  have h7 := H.below hb
  have hS0 : (W.cell? ⟨h, 1, none⟩ = some (.map (some xb)) ∧ W.cell? ⟨gr, 0, none⟩ = some (.string r.f) ∧ W.cell? ⟨gr, 1, none⟩ = some (.string r.e) ∧ W.cell? ⟨gr, 2, none⟩ = some (.int .i64 r.n) ∧ (Instr.lookup 83 (.map (some xb)) (rkV r) true).run Try.prog W = .ok (.tuple #[.pointer none, .bool false]) W ∧ (HqP W B h xb sb kb V R S K v lv ∧ Blk W gr 90 (rkC r) ∧ Blk W gt 9 #[.string t] ∧ Below w.heap.size w W)) := ⟨h7.blk.cell 1, hk.cell 0, hk.cell 1, hk.cell 2, hl0 h7, h7, hk, hkt, hb⟩
  clear hW hgr hgt hb hk hkt h7 hl0 H hn
  go_enter Try.func46, Try.ntmps46
  go_upto_region 1 with fail
  rw [← HW.out, ← HG.out.2, ← HG.out.1]
  go_region_held3 (fun wa => wa.cell? ⟨h, 1, none⟩ = some (.map (some xb)) ∧ wa.cell? ⟨gr, 0, none⟩ = some (.string r.f) ∧ wa.cell? ⟨gr, 1, none⟩ = some (.string r.e) ∧ wa.cell? ⟨gr, 2, none⟩ = some (.int .i64 r.n) ∧ (Instr.lookup 83 (.map (some xb)) (rkV r) true).run Try.prog wa = .ok (.tuple #[.pointer none, .bool false]) wa ∧ (HqP wa B h xb sb kb V R S K v lv ∧ Blk wa gr 90 (rkC r) ∧ Blk wa gt 9 #[.string t] ∧ Below w.heap.size w wa)) (first | assumption | exact keep (by assumption) (by assumption) | exact keep (by assumption) hD) (first | fail)
  all_goals
    rename_i hHeld
    go_wp2_with fail
    go_ret
    exact ⟨rfl, hHeld.2.2.2.2.2.2.2.2⟩
theorem tqV_erase (L : List Tq) (i : Nat) : (tqV L).take (i * 2) ++ (tqV L).drop ((i + 1) * 2) = tqV (L.eraseIdx i) := by
  rw [tqV_take, tqV_drop, ← tqV_append, List.eraseIdx_eq_take_drop_succ]
/-- What the end of a task makes. -/
def EndP (w : World) (B h xb sb kb : Nat) (V : Nat → Prop) (R : List Pr) (S : List Pm) (K : List Ky) (v lv : Value) (j : Nat) (p : Pr) (t : ByteArray) (e9 : Ending) (w' : World) : Prop :=
  (NoT p.ts t ∧ e9 = .returned (.slice none 0 0) ∧ Below w.heap.size w w') ∨
  ∃ i c V' tv, FirstT p.ts t i ∧ e9 = .returned (.slice (some ⟨c, 0, none⟩) 1 1) ∧ Blk w' c 30 (msA ⟨8, p.r, t, 5⟩) ∧ w.heap.size ≤ c ∧ ¬ V' c ∧ HqP w' B h xb sb kb V' (R.set j ⟨p.g, p.r, p.lv, tv, p.ts.eraseIdx i⟩) S K v lv ∧ (∀ b, V b → V' b) ∧ (∀ b, V' b → V b ∨ w.heap.size ≤ b) ∧ Vol V w w'
set_option maxHeartbeats 16000000 in
theorem End_yes (H : HqP w B h xb sb kb V R S K v lv) {j : Nat} {p : Pr} (hj : R[j]? = some p) {r : Pm} (hp : p.r = r) (hl : p.ts.length ≤ 100) (t : ByteArray) :
    Calls Try.prog 46 #[.pointer (some ⟨h, 0, none⟩), rkV r, .string t] w (EndP w B h xb sb kb V R S K v lv j p t) := by
  obtain ⟨gr, hgr⟩ : ∃ gr, gr = w.heap.size := ⟨_, rfl⟩
  obtain ⟨gt, hgt⟩ : ∃ gt, gt = w.heap.size + 1 := ⟨_, rfl⟩
  obtain ⟨W, hW⟩ : ∃ W, W = (w.alloc (.cells #[.string r.f, .string r.e, .int .i64 r.n] 90)).alloc (.cells #[.string t] 9) := ⟨_, rfl⟩
  have hb : Below w.heap.size w W := by rw [hW]; exact ((Below.refl _ _).alloc (Nat.le_refl _) _).alloc (by simp) _
  have hk : Blk W gr 90 (rkC r) := by rw [hW, hgr]; exact (Blk.new w _ _).alloc _
  have hkt : Blk W gt 9 #[.string t] := by
    rw [hW, hgt]
    have := Blk.new (w.alloc (.cells #[.string r.f, .string r.e, .int .i64 r.n] 90)) 9 #[.string t]
    simpa using this
  have HW := Lib.hid hW
  have HG := Lib.hid (And.intro hgr hgt)
  have HJ := Lib.hid hj
  have HP := Lib.hid hp
  have HVl := Lib.hid H.lt
  have hl0 : ∀ {wa : World}, HqP wa B h xb sb kb V R S K v lv → (Instr.lookup 83 (.map (some xb)) (rkV r) true).run Try.prog wa = .ok (.tuple #[ptr p, .bool true]) wa := fun H => ex_yes H.ex H.ps.uniq hj hp
  have keep : ∀ {wa wb : World}, (wa.cell? ⟨h, 1, none⟩ = some (.map (some xb)) ∧ wa.cell? ⟨gr, 0, none⟩ = some (.string r.f) ∧ wa.cell? ⟨gr, 1, none⟩ = some (.string r.e) ∧ wa.cell? ⟨gr, 2, none⟩ = some (.int .i64 r.n) ∧ (Instr.lookup 83 (.map (some xb)) (rkV r) true).run Try.prog wa = .ok (.tuple #[ptr p, .bool true]) wa ∧ (HqP wa B h xb sb kb V R S K v lv ∧ Blk wa gr 90 (rkC r) ∧ Blk wa gt 9 #[.string t] ∧ Below w.heap.size w wa)) → Below wa.heap.size wa wb → (wb.cell? ⟨h, 1, none⟩ = some (.map (some xb)) ∧ wb.cell? ⟨gr, 0, none⟩ = some (.string r.f) ∧ wb.cell? ⟨gr, 1, none⟩ = some (.string r.e) ∧ wb.cell? ⟨gr, 2, none⟩ = some (.int .i64 r.n) ∧ (Instr.lookup 83 (.map (some xb)) (rkV r) true).run Try.prog wb = .ok (.tuple #[ptr p, .bool true]) wb ∧ (HqP wb B h xb sb kb V R S K v lv ∧ Blk wb gr 90 (rkC r) ∧ Blk wb gt 9 #[.string t] ∧ Below w.heap.size w wb)) := fun k hb => by
    obtain ⟨_, _, _, _, _, k6, k7, k9, k8⟩ := k
    have j6 := k6.below hb
    have j7 := k7.below hb k7.lt
    exact ⟨j6.blk.cell 1, j7.cell 0, j7.cell 1, j7.cell 2, hl0 j6, j6, j7, k9.below hb k9.lt, k8.trans (hb.mono k8.size)⟩
  have hD : ∀ {wa : World}, Below wa.heap.size wa wa.drew := (Below.refl _ _).drew
  have h7 := H.below hb
  have hS0 : (W.cell? ⟨h, 1, none⟩ = some (.map (some xb)) ∧ W.cell? ⟨gr, 0, none⟩ = some (.string r.f) ∧ W.cell? ⟨gr, 1, none⟩ = some (.string r.e) ∧ W.cell? ⟨gr, 2, none⟩ = some (.int .i64 r.n) ∧ (Instr.lookup 83 (.map (some xb)) (rkV r) true).run Try.prog W = .ok (.tuple #[ptr p, .bool true]) W ∧ (HqP W B h xb sb kb V R S K v lv ∧ Blk W gr 90 (rkC r) ∧ Blk W gt 9 #[.string t] ∧ Below w.heap.size w W)) := ⟨h7.blk.cell 1, hk.cell 0, hk.cell 1, hk.cell 2, hl0 h7, h7, hk, hkt, hb⟩
  clear hW hgr hgt hb hk hkt h7 hl0 H hj hp
  go_enter Try.func46, Try.ntmps46
  go_upto_region 1 with fail
  rw [← HW.out, ← HG.out.2, ← HG.out.1]
  go_cut [7, 8] from 7 to 18 (fun v7 v8 wx => Hid (v7 = ptr p ∧ v8 = .bool true ∧ HqP wx B h xb sb kb V R S K v lv ∧ Blk wx gr 90 (rkC r) ∧ Blk wx gt 9 #[.string t] ∧ Below w.heap.size w wx ∧ ∃ w9, w9 = wx))
  case first =>
    go_region_held3 (fun wa => wa.cell? ⟨h, 1, none⟩ = some (.map (some xb)) ∧ wa.cell? ⟨gr, 0, none⟩ = some (.string r.f) ∧ wa.cell? ⟨gr, 1, none⟩ = some (.string r.e) ∧ wa.cell? ⟨gr, 2, none⟩ = some (.int .i64 r.n) ∧ (Instr.lookup 83 (.map (some xb)) (rkV r) true).run Try.prog wa = .ok (.tuple #[ptr p, .bool true]) wa ∧ (HqP wa B h xb sb kb V R S K v lv ∧ Blk wa gr 90 (rkC r) ∧ Blk wa gt 9 #[.string t] ∧ Below w.heap.size w wa)) (first | assumption | exact keep (by assumption) (by assumption) | exact keep (by assumption) hD) (first | fail)
    all_goals
      rename_i hHeld
      go_wp2_with fail
      go_meet
      exact Lib.hid ⟨rfl, rfl, hHeld.2.2.2.2.2.1, hHeld.2.2.2.2.2.2.1, hHeld.2.2.2.2.2.2.2.1, hHeld.2.2.2.2.2.2.2.2, _, rfl⟩
  case rest =>
    obtain ⟨rfl, rfl, h9, hk9, ht9, hb9, w9, hw9⟩ := hcut.out
    subst hw9
    clear hcut hS0 keep hD
    have hwin := h9.ps.tks j p HJ.out
    have hpr := h9.ps.prs j p HJ.out
    have hI := Index_task hwin (ht9.cell 0) ht9.lt hl
    obtain ⟨A0, c0, hv0, hc0, hcm, hA0⟩ := hwin.form
    have a3 : w9.cell? ⟨p.g, 3, none⟩ = some (.slice A0 p.ts.length c0) := by rw [← hv0]; exact hpr.cell 3
    rw [hv0] at hI
    obtain ⟨L, hL⟩ : ∃ L, L = p.ts.length := ⟨_, rfl⟩
    rw [← hL] at hI a3 hl hc0
    have hmf : ∀ (fn : Fn) (first cap : Array Value) (w : World), (Instr.makeFunc fn first cap).run Try.prog w = .ok (.func fn first cap) w := fun _ _ _ _ => rfl
    have HL := Lib.hid hL
    have HV0 := Lib.hid hv0
    have H9 := Lib.hid h9
    have HK9 := Lib.hid hk9
    have HT9 := Lib.hid ht9
    have HB9 := Lib.hid hb9
    have HA0 := Lib.hid hA0
    have HCM := Lib.hid hcm
    clear h9 hk9 ht9 hb9 hwin hpr hL hv0 hA0 hcm
    go_upto_region 5 with (go_at_call 63; refine hI.mono ?_; rintro e9 w2 ⟨ri, rfl, hat, hb2⟩)
    have HAT := Lib.hid hat
    have HB2 := Lib.hid hb2
    clear hI hmf a3 hat hb2
    rcases HAT.out with ⟨i, hri, hf⟩ | ⟨hri, hno⟩
    · subst hri
      obtain ⟨x, hx, hxt, hfst⟩ := hf
      have hil : i < L := by rw [HL.out]; exact (List.getElem?_eq_some_iff.1 hx).1
      have hneg : ¬ ((i : Int) < 0) := by omega
      have HF := Lib.hid (show FirstT p.ts t i from ⟨x, hx, hxt, hfst⟩)
      clear hx hxt hfst x
      have h2 := H9.out.below HB2.out
      have hk2 := HK9.out.below HB2.out HK9.out.lt
      have ht2 := HT9.out.below HB2.out HT9.out.lt
      have hpr2 := h2.ps.prs j p HJ.out
      have hwin2 := h2.ps.tks j p HJ.out
      rw [HV0.out, ← HL.out] at hwin2
      obtain ⟨g, o, c, hv, -, -⟩ := hwin2.at (by omega)
      injection hv with hv _ hv2
      subst hv hv2
      have a3 : w2.cell? ⟨p.g, 3, none⟩ = some (.slice (some ⟨g, o, none⟩) L c0) := by rw [HL.out, ← HV0.out]; exact hpr2.cell 3
      have hD := Delete_win w2 hwin2 hil (tqV_one p.ts)
      have hw1 : IntKind.i64.wrap ((i : Int) + 1) = (i : Int) + 1 := IntWalk.i64_in _ (by omega)
      have hgne : p.g ≠ g := fun e => hwin2.blk_ne hpr2 nPT.symm (by rw [e]; rfl)
      have H2 := Lib.hid h2
      have HK2 := Lib.hid hk2
      have HT2 := Lib.hid ht2
      have HPR2 := Lib.hid hpr2
      have HWN2 := Lib.hid hwin2
      have HGN := Lib.hid hgne
      clear h2 hk2 ht2 hpr2 hwin2 hgne hneg
      go_upto_region 7 with fail
      go_upto_region 8 with (go_at_call 65; refine hD.mono ?_; rintro e9 d3 ⟨rfl, hw3, hg3⟩; have bp3 := HPR2.out.grown hg3 (by intro e; injection e with e; exact HGN.out e); have f3 : d3.frozen? ⟨p.g, 3, none⟩ = false := bp3.frozen 3; have c30 : d3.cell? ⟨p.g, 3, none⟩ = some (.slice (some ⟨g, o, none⟩) L c0) := by (rw [HL.out, ← HV0.out]; exact bp3.cell 3))
      obtain ⟨d4, hd4⟩ : ∃ d4, d4 = d3.setCell ⟨p.g, 3, none⟩ (.slice (some ⟨g, o, none⟩) (L - 1) c0) := ⟨_, rfl⟩
      rw [← hd4]
      have hol : ∀ b, p.tv.ownBlock = some b ↔ some b = some g := fun b => by rw [HV0.out]; exact ⟨fun e => e.symm, fun e => e.symm⟩
      have v34 : Vol (fun b => b = p.g ∨ p.tv.ownBlock = some b) w2 d4 := by
        rw [hd4]
        exact ((Vol.refl w2).grown hg3 (fun k hk => .inl (.inr ((hol k).2 hk.symm)))).setCell (.inl (.inl rfl)) _
      have bp4 := bp3.set_ 3 (.slice (some ⟨g, o, none⟩) (L - 1) c0)
      have hw4 : Win d4 B 110 2 (.slice (some ⟨g, o, none⟩) (L - 1) c0) (L - 1) (tqV (p.ts.eraseIdx i)) := by
        rw [← tqV_erase, hd4]
        exact hw3.vol (U := fun b => b = p.g) (Vol.setCell (V := fun b => b = p.g) (a := ⟨p.g, 3, none⟩) (Vol.refl d3) (.inl rfl) _) (fun b hb e => hw3.blk_ne bp3 nPT.symm (by rw [hb, e]))
      rw [← hd4] at bp4
      have hle : (p.ts.eraseIdx i).length = L - 1 := by rw [List.length_eraseIdx, if_pos (by have := HL.out; omega), HL.out]
      have H4 := H2.out.turn (p' := ⟨p.g, p.r, p.lv, .slice (some ⟨g, o, none⟩) (L - 1) c0, p.ts.eraseIdx i⟩) HJ.out rfl rfl rfl v34 (by simpa using bp4) (by rw [hle]; exact hw4) (fun b e => .inl ((hol b).2 e.symm))
      have far : ∀ {b : Nat} {ty : TypeId} {cs : Array Value}, Blk w2 b ty cs → 98 ≠ ty → 110 ≠ ty → Blk d4 b ty cs := fun hb n1 n2 => blk_vol hb v34 (fun e => by
        have := H2.out.ps.far_blk hb n1 n2 HJ.out
        exact e.elim (fun e => this.1 e.symm) this.2)
      have bk4 := far HK2.out (by decide) (by decide)
      have bt4 := far HT2.out (by decide) (by decide)
      have k80 : d4.cell? ⟨gr, 0, none⟩ = some (.string r.f) := bk4.cell 0
      have k81 : d4.cell? ⟨gr, 1, none⟩ = some (.string r.e) := bk4.cell 1
      have k82 : d4.cell? ⟨gr, 2, none⟩ = some (.int .i64 r.n) := bk4.cell 2
      have k83 : d4.cell? ⟨gt, 0, none⟩ = some (.string t) := bt4.cell 0
      have H4' := Lib.hid H4
      have V34 := Lib.hid v34
      have HOL := Lib.hid hol
      clear H4 v34 far bk4 bt4 bp4 hw4 hle hd4 bp3 hw3 hg3 f3 c30 a3 hw1 hD hol
      go_wp2_with (go_at_call 53; refine (Report r t 5 _).mono ?_; rintro e9 wA ⟨rfl, hbA⟩)
      go_ret
      refine .inr ⟨i, wA.heap.size, _, .slice (some ⟨g, o, none⟩) (L - 1) c0, HF.out, rfl, ?_, ?_, fun e => ?_, (H4'.out.below hbA).below ((Below.refl _ _).alloc (Nat.le_refl _) _), fun b => .inl, fun b e => e.elim .inl (fun e => .inr (Nat.le_trans HB9.out.size (Nat.le_trans HB2.out.size e.1))), ?_⟩
      · rw [HP.out]; exact Blk.new wA 30 (msA ⟨8, r, t, 5⟩)
      · exact Nat.le_trans HB9.out.size (Nat.le_trans HB2.out.size (Nat.le_trans V34.out.size hbA.size))
      · exact absurd ((H4'.out.below hbA).lt _ e) (Nat.lt_irrefl _)
      · have u0 : Vol V w w2 := Vol.of_below (HB9.out.trans (HB2.out.mono HB9.out.size))
        refine ((u0.trans V34.out (fun b e => .inl ?_)).below hbA).alloc _
        rcases e with rfl | e
        · exact (H9.out.ps.vp j p HJ.out).1
        · exact (H9.out.ps.vp j p HJ.out).2 b e
    · subst hri
      go_wp2_with fail
      go_ret
      exact .inl ⟨hno, rfl, HB9.out.trans (HB2.out.mono HB9.out.size)⟩
end
end Go.Proofs.Ytiflhfhonhbcpaa.Hw
