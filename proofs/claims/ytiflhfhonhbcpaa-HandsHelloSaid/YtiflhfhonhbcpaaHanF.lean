/- The hands: a run that ends. -/
import Derived.Test.YtiflhfhonhbcpaaHanE
namespace Go.Proofs.Ytiflhfhonhbcpaa.Han
open Go Go.RowKit Go.Proofs.Ytiflhfhonhbcpaa Go.Proofs.Ytiflhfhonhbcpaa.Crw Go.Proofs.Ytiflhfhonhbcpaa.Mas Go.ChangeShapes Go.WideShapes Go.ChangeAt
set_option linter.unusedVariables false
set_option maxRecDepth 100000
section
variable {w w' : World} {B h xb sb kb : Nat} {V U : Nat → Prop} {R : List Pr} {S : List Int} {v : Value}
theorem get_erase {R : List Pr} {j k : Nat} {p : Pr} (h : (R.eraseIdx j)[k]? = some p) : ∃ k', R[k']? = some p ∧ k' ≠ j ∧ ((k < j ∧ k' = k) ∨ (j ≤ k ∧ k' = k + 1)) := by
  rw [List.getElem?_eraseIdx] at h
  split at h
  · exact ⟨k, h, by omega, .inl ⟨by omega, rfl⟩⟩
  · exact ⟨k + 1, h, by omega, .inr ⟨by omega, rfl⟩⟩
theorem HnP.erase {v' : Value} (H : HnP w B h xb sb kb V R S v) (j : Nat) (hvol : Vol (fun b => b = h ∨ b = xb ∨ v.ownBlock = some b) w w') (hblk : Blk w' h 88 #[v', .map (some xb), .map (some sb), .slice none 0 0, .map (some kb)])
    (hex : MapAt w' xb ((R.eraseIdx j).map exE)) (hrow : w'.ownsRow B 94 1 v' (R.eraseIdx j).length ((R.eraseIdx j).map ptr)) (hv : ∀ b, v'.ownBlock = some b → v.ownBlock = some b) : HnP w' B h xb sb kb V (R.eraseIdx j) S v' := by
  refine ⟨hblk, hex, H.sd.keep (hvol.block _ H.sd.lt (fun e => ?_)), fun k y hy => ?_, hrow, fun k y hy => ?_, fun i k y z hy hz e => ?_, fun i k y z hy hz e => ?_, H.ne, H.vm, fun k y hy => ?_, fun b hb => H.vr b (hv b hb), fun b hb => Nat.lt_of_lt_of_le (H.lt b hb) hvol.size, H.ge⟩
  · rcases e with e | e | e
    · exact blk_map_ne H.blk H.sd e.symm
    · exact H.ne e.symm
    · exact own_map_ne H.row H.sd e
  · obtain ⟨k', hk, _, _⟩ := get_erase hy
    have hb := H.prs k' y hk
    refine blk_vol hb hvol (fun e => ?_)
    rcases e with e | e | e
    · exact H.blk.ne_ hb (by decide) e.symm
    · exact blk_map_ne hb H.ex e
    · exact own_blk_ne H.row hb (by decide) e
  · obtain ⟨k', hk, _, _⟩ := get_erase hy
    exact H.sub k' y hk
  · obtain ⟨i', hi, _, h1⟩ := get_erase hy
    obtain ⟨k', hk, _, h2⟩ := get_erase hz
    have := H.uniq i' k' y z hi hk e
    omega
  · obtain ⟨i', hi, _, h1⟩ := get_erase hy
    obtain ⟨k', hk, _, h2⟩ := get_erase hz
    have := H.apart i' k' y z hi hk e
    omega
  · obtain ⟨k', hk, _, _⟩ := get_erase hy
    exact H.vp k' y hk
theorem ex_del (hm : MapAt w xb (R.map exE)) (hu : ∀ (j k : Nat) (p q : Pr), R[j]? = some p → R[k]? = some q → p.n = q.n → j = k) {j : Nat} {p : Pr} (hj : R[j]? = some p) (ty : TypeId) :
    ∃ w', (Builtin.delete_ #[83, 90] ty #[.map (some xb), rk p.n]).run Try.prog w = .ok (.tuple #[]) w' ∧ MapAt w' xb ((R.eraseIdx j).map exE) ∧ w.grownBy w' (some xb) := by
  letI : Toks := ⟨fun _ => 0⟩
  obtain ⟨w', h1, h2, h3⟩ := hm.del_yes (P := Try.prog) (j := j) (u := ptr p) (k := rk p.n) Try.underlying83 ex_kv (by rw [List.getElem?_map, hj]; rfl) (by rw [beq_rk]; simp) (fun m q hm hq => by
    rw [List.getElem?_map] at hq
    cases hx : R[m]? with
    | none => rw [hx] at hq; cases hq
    | some x =>
      rw [hx] at hq
      injection hq with hq
      subst hq
      rw [beq_rk]
      exact decide_eq_false (fun e => absurd (hu j m p x hj hx e) (by omega))) ty
  exact ⟨w', h1, by rw [show (R.eraseIdx j).map exE = (R.map exE).eraseIdx j by rw [List.eraseIdx_eq_take_drop_succ, List.eraseIdx_eq_take_drop_succ, List.map_append, List.map_take, List.map_drop]]; exact h2, h3⟩
set_option maxHeartbeats 16000000 in
theorem Stop_run (H : HnP w B h xb sb kb V R S v) {j : Nat} {p : Pr} (hj : R[j]? = some p) {n : Int} (hp : p.n = n) (hl : R.length ≤ 100) :
    Calls Try.prog 47 #[.pointer (some ⟨h, 0, none⟩), rk n] w fun r w' => ∃ c v', r = .returned (.slice (some ⟨c, 0, none⟩) 1 1) ∧ Blk w' c 30 (abC 9 n) ∧ w.heap.size ≤ c ∧ ¬ V c ∧ HnP w' B h xb sb kb V (R.eraseIdx j) S v' ∧ Vol V w w' := by
  obtain ⟨W, hW⟩ : ∃ W, W = w.alloc (.cells #[.string rF, .string rE, .int .i64 n] 90) := ⟨_, rfl⟩
  obtain ⟨gr, hgr⟩ : ∃ gr, gr = w.heap.size := ⟨_, rfl⟩
  have hb : Below w.heap.size w W := by rw [hW]; exact (Below.refl _ _).alloc (Nat.le_refl _) _
  have hk : Blk W gr 90 #[.string rF, .string rE, .int .i64 n] := by rw [hW, hgr]; exact Blk.new _ _ _
  have HW := Lib.hid hW
  have HG := Lib.hid hgr
  have HJ := Lib.hid hj
  have HP := Lib.hid hp
  have hl0 : ∀ {wa : World}, HnP wa B h xb sb kb V R S v → (Instr.lookup 83 (.map (some xb)) (rk n) true).run Try.prog wa = .ok (.tuple #[ptr p, .bool true]) wa := fun H => by rw [← hp]; exact ex_yes H.ex H.uniq hj
  have keep : ∀ {wa wb : World}, (wa.cell? ⟨h, 1, none⟩ = some (.map (some xb)) ∧ wa.cell? ⟨gr, 0, none⟩ = some (.string rF) ∧ wa.cell? ⟨gr, 1, none⟩ = some (.string rE) ∧ wa.cell? ⟨gr, 2, none⟩ = some (.int .i64 n) ∧ (Instr.lookup 83 (.map (some xb)) (rk n) true).run Try.prog wa = .ok (.tuple #[ptr p, .bool true]) wa ∧ (HnP wa B h xb sb kb V R S v ∧ Blk wa gr 90 #[.string rF, .string rE, .int .i64 n] ∧ Below w.heap.size w wa)) → Below wa.heap.size wa wb → (wb.cell? ⟨h, 1, none⟩ = some (.map (some xb)) ∧ wb.cell? ⟨gr, 0, none⟩ = some (.string rF) ∧ wb.cell? ⟨gr, 1, none⟩ = some (.string rE) ∧ wb.cell? ⟨gr, 2, none⟩ = some (.int .i64 n) ∧ (Instr.lookup 83 (.map (some xb)) (rk n) true).run Try.prog wb = .ok (.tuple #[ptr p, .bool true]) wb ∧ (HnP wb B h xb sb kb V R S v ∧ Blk wb gr 90 #[.string rF, .string rE, .int .i64 n] ∧ Below w.heap.size w wb)) := fun k hb => by
    obtain ⟨_, _, _, _, _, k6, k7, k8⟩ := k
    have j6 := k6.below hb
    have j7 := k7.below hb k7.lt
    exact ⟨j6.blk.cell 1, j7.cell 0, j7.cell 1, j7.cell 2, hl0 j6, j6, j7, k8.trans (hb.mono k8.size)⟩
  have hD : ∀ {wa : World}, Below wa.heap.size wa wa.drew := (Below.refl _ _).drew
  have h7 := H.below hb
  have hS0 : (W.cell? ⟨h, 1, none⟩ = some (.map (some xb)) ∧ W.cell? ⟨gr, 0, none⟩ = some (.string rF) ∧ W.cell? ⟨gr, 1, none⟩ = some (.string rE) ∧ W.cell? ⟨gr, 2, none⟩ = some (.int .i64 n) ∧ (Instr.lookup 83 (.map (some xb)) (rk n) true).run Try.prog W = .ok (.tuple #[ptr p, .bool true]) W ∧ (HnP W B h xb sb kb V R S v ∧ Blk W gr 90 #[.string rF, .string rE, .int .i64 n] ∧ Below w.heap.size w W)) := ⟨h7.blk.cell 1, hk.cell 0, hk.cell 1, hk.cell 2, hl0 h7, h7, hk, hb⟩
  have HVl := Lib.hid H.lt
  clear hW hgr hb hk h7 hl0 H hj hp
  go_enter Try.func47, Try.ntmps47
  go_upto_region 1 with fail
  rw [← HW.out, ← HG.out]
  go_cut [6] from 5 to 16 (fun v6 wx => Hid (v6 = .bool true ∧ HnP wx B h xb sb kb V R S v ∧ Blk wx gr 90 #[.string rF, .string rE, .int .i64 n] ∧ Below w.heap.size w wx ∧ ∃ w9, w9 = wx))
  case first =>
    go_region_held3 (fun wa => wa.cell? ⟨h, 1, none⟩ = some (.map (some xb)) ∧ wa.cell? ⟨gr, 0, none⟩ = some (.string rF) ∧ wa.cell? ⟨gr, 1, none⟩ = some (.string rE) ∧ wa.cell? ⟨gr, 2, none⟩ = some (.int .i64 n) ∧ (Instr.lookup 83 (.map (some xb)) (rk n) true).run Try.prog wa = .ok (.tuple #[ptr p, .bool true]) wa ∧ (HnP wa B h xb sb kb V R S v ∧ Blk wa gr 90 #[.string rF, .string rE, .int .i64 n] ∧ Below w.heap.size w wa)) (first | assumption | exact keep (by assumption) (by assumption) | exact keep (by assumption) hD) (first | fail)
    all_goals
      rename_i hHeld
      go_wp2_with fail
      go_meet
      exact Lib.hid ⟨rfl, hHeld.2.2.2.2.2.1, hHeld.2.2.2.2.2.2.1, hHeld.2.2.2.2.2.2.2, _, rfl⟩
  case rest =>
    obtain ⟨rfl, h9, hk9, hb9, w9, hw9⟩ := hcut.out
    subst hw9
    clear hcut hS0 keep hD
    have a1 : w9.cell? ⟨h, 1, none⟩ = some (.map (some xb)) := h9.blk.cell 1
    have a2 : w9.cell? ⟨gr, 0, none⟩ = some (.string rF) := hk9.cell 0
    have a3 : w9.cell? ⟨gr, 1, none⟩ = some (.string rE) := hk9.cell 1
    have a4 : w9.cell? ⟨gr, 2, none⟩ = some (.int .i64 n) := hk9.cell 2
    have e0 := fun ty => ex_del (w := w9.drew) h9.ex h9.uniq HJ.out ty
    rw [HP.out] at e0
    have H9 := Lib.hid h9
    have HK9 := Lib.hid hk9
    have HB9 := Lib.hid hb9
    clear h9 hk9 hb9
    go_upto_region 4 with fail
    obtain ⟨d1, e1, hx1, hg1⟩ := e0 0
    clear e0
    have HX1 := Lib.hid hx1
    have HG1 := Lib.hid hg1
    clear hx1 hg1
    go_region
    have v1 : Vol (fun b => b = xb) w9 d1 := (Vol.refl w9).drew.grown HG1.out (fun k hk => .inl (by injection hk with hk; exact hk.symm))
    have bh1 := blk_vol H9.out.blk v1 (blk_map_ne H9.out.blk H9.out.ex)
    have bk1 := blk_vol HK9.out v1 (blk_map_ne HK9.out H9.out.ex)
    have bp1 : ∀ (k : Nat) (p : Pr), R[k]? = some p → Blk d1 p.g 98 (prC p.n) := fun k q hq => blk_vol (H9.out.prs k q hq) v1 (blk_map_ne (H9.out.prs k q hq) H9.out.ex)
    have br1 := own_vol H9.out.row v1 (fun b hb e => own_map_ne H9.out.row H9.out.ex (by rw [hb, e]))
    have hI := Index_run br1 bp1 H9.out.uniq bk1 hl HJ.out HP.out
    have b1 : d1.cell? ⟨h, 0, none⟩ = some v := bh1.cell 0
    have hmf : ∀ (fn : Fn) (first cap : Array Value) (w : World), (Instr.makeFunc fn first cap).run Try.prog w = .ok (.func fn first cap) w := fun _ _ _ _ => rfl
    have HV1 := Lib.hid v1
    have HH1 := Lib.hid bh1
    have HK1 := Lib.hid bk1
    have HR1 := Lib.hid br1
    clear v1 bh1 bk1 bp1 br1 a1 a2 a3 a4 e1
    go_upto_region 6 with (go_at_call 66; refine hI.mono ?_; rintro r d2 ⟨rfl, k2, rfl⟩)
    have hjl := (List.getElem?_eq_some_iff.1 HJ.out).1
    obtain ⟨A0, c0, hv0, hc0, -⟩ := own_slice HR1.out
    have hr1 := HR1.out
    rw [hv0] at hr1
    obtain ⟨u, hu⟩ := own_some hr1 (by omega)
    subst hu
    have hdn : Below d1.heap.size d1 (d1.drewN k2) := below_drewN (Below.refl _ _) k2
    obtain ⟨d2, hd2⟩ : ∃ d2, d2 = d1.drewN k2 := ⟨_, rfl⟩
    rw [← hd2] at hdn ⊢
    have hr2 := own_keep hr1 hdn
    have bh2 := HH1.out.below hdn HH1.out.lt
    have bk2 := HK1.out.below hdn HK1.out.lt
    have hx2 := HX1.out.keep (hdn.block _ HX1.out.lt)
    have hE := Delete_p d2 hr2 hjl
    obtain ⟨L, hL⟩ : ∃ L, L = R.length := ⟨_, rfl⟩
    rw [← hL] at hE hr2 hl hjl
    have c0' : d2.cell? ⟨h, 0, none⟩ = some (.slice (some ⟨u, 0, none⟩) L c0) := by rw [hL, ← hv0]; exact bh2.cell 0
    have hw1 : IntKind.i64.wrap ((j : Int) + 1) = (j : Int) + 1 := IntWalk.i64_in _ (by omega)
    have HV0 := Lib.hid hv0
    have HL := Lib.hid hL
    have HDN := Lib.hid hdn
    have HR2 := Lib.hid hr2
    have HH2 := Lib.hid bh2
    have HK2 := Lib.hid bk2
    have HX2 := Lib.hid hx2
    clear hv0 hL hdn hr2 bh2 bk2 hx2 hr1 b1 hd2 hI
    go_upto_region 7 with (go_at_call 68; refine hE.mono ?_; rintro r d3 ⟨rfl, hr3, hg3⟩; have bh3 := HH2.out.grown hg3 (fun e => own_blk_ne HR2.out HH2.out (by decide) e.symm); have f3 : d3.frozen? ⟨h, 0, none⟩ = false := bh3.frozen 0; have c30 : d3.cell? ⟨h, 0, none⟩ = some (.slice (some ⟨u, 0, none⟩) L c0) := by (rw [HL.out, ← HV0.out]; exact bh3.cell 0))
    have bk3 := HK2.out.grown hg3 (fun e => own_blk_ne HR2.out HK2.out (by decide) e.symm)
    obtain ⟨d4, hd4⟩ : ∃ d4, d4 = d3.setCell ⟨h, 0, none⟩ (.slice (some ⟨u, 0, none⟩) (L - 1) c0) := ⟨_, rfl⟩
    rw [← hd4]
    have hgk : h ≠ gr := bh3.ne_ bk3 (by decide)
    have v34 : Vol (fun b => b = h ∨ v.ownBlock = some b) d2 d4 := by
      rw [hd4]
      refine ((Vol.refl d2).grown hg3 (fun k hk => .inl (.inr ?_))).setCell (.inl (.inl rfl)) _
      rw [HV0.out]
      exact hk
    have bh4 := bh3.set_ 0 (.slice (some ⟨u, 0, none⟩) (L - 1) c0)
    have bk4 := bk3.far (fun e => hgk e.symm) (p := ⟨h, 0, none⟩) (.slice (some ⟨u, 0, none⟩) (L - 1) c0)
    rw [← hd4] at bh4 bk4
    have row4 : d4.ownsRow B 94 1 (.slice (some ⟨u, 0, none⟩) (L - 1) c0) (L - 1) ((R.eraseIdx j).map ptr) := by rw [hd4, HL.out]; rw [HL.out] at hr3; exact own_far hr3 bh3 (by decide)
    have vol : Vol (fun b => b = h ∨ b = xb ∨ v.ownBlock = some b) w9 d4 := by
      have u1 : Vol (fun b => b = h ∨ b = xb ∨ v.ownBlock = some b) w9 d2 := (HV1.out.mono (fun b e => .inr (.inl e))).below HDN.out
      exact u1.trans v34 (fun b e => .inl (e.elim .inl (fun e => .inr (.inr e))))
    have ex4 := HX2.out.keep (v34.block _ HX2.out.lt (fun e => e.elim (fun e => blk_map_ne HH2.out HX2.out e.symm) (fun e => own_map_ne HR2.out HX2.out (by rw [HV0.out] at e; exact e))))
    have H4 := H9.out.erase (v' := .slice (some ⟨u, 0, none⟩) (L - 1) c0) j vol (by simpa using bh4) ex4 (by
      have e1 : (R.eraseIdx j).length = L - 1 := by rw [List.length_eraseIdx, if_pos (by have := HL.out; omega), HL.out]
      rw [e1]
      exact row4) (fun b e => by rw [HV0.out]; exact e)
    have k80 : d4.cell? ⟨gr, 0, none⟩ = some (.string rF) := bk4.cell 0
    have k81 : d4.cell? ⟨gr, 1, none⟩ = some (.string rE) := bk4.cell 1
    have k82 : d4.cell? ⟨gr, 2, none⟩ = some (.int .i64 n) := bk4.cell 2
    have H4' := Lib.hid H4
    have VOL := Lib.hid vol
    clear H4 vol ex4 row4 bh4 bk4 v34 hgk hd4 bh3 bk3 hg3 hr3 f3 c30 c0' hmf hw1 hE
    go_wp2_with (go_at_call 48; refine (About 9 n _).mono ?_; rintro r wA ⟨rfl, hbA⟩)
    go_ret
    have hz := H4'.out.below hbA
    refine ⟨wA.heap.size, _, rfl, Blk.new wA 30 (abC 9 n), ?_, fun e => absurd (hz.lt _ e) (Nat.lt_irrefl _), hz.below ((Below.refl _ _).alloc (Nat.le_refl _) _), ?_⟩
    · exact Nat.le_trans HB9.out.size (Nat.le_trans VOL.out.size hbA.size)
    · have u0 : Vol V w w9 := Vol.of_below HB9.out
      refine ((u0.trans VOL.out (fun b e => ?_)).below hbA).alloc _
      rcases e with rfl | rfl | e
      · exact .inl H9.out.vm.1
      · exact .inl H9.out.vm.2.1
      · exact .inl (H9.out.vr b e)
end
end Go.Proofs.Ytiflhfhonhbcpaa.Han
