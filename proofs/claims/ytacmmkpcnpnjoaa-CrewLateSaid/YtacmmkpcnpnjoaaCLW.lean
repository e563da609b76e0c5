/- The walk of CrewLate: the Go text returns true, and writes nothing that was there. -/
import Derived.Test.YtacmmkpcnpnjoaaCrewM
import Derived.Test.YtacmmkpcnpnjoaaBoolA
import Derived.Test.YtacmmkpcnpnjoaaAllSum
import Derived.Deep.CutRange
import Derived.Deep.DeepCutAuto
import Derived.Deep.CutBlock
import Derived.Lib.Builder
namespace Go.Proofs.Ytacmmkpcnpnjoaa.crewLate
open Go.Proofs.Ytacmmkpcnpnjoaa.Crw Go.ChangeShapes Go.WideShapes Go.ChangeAt Go.RowKit
set_option linter.unusedVariables false
set_option maxRecDepth 100000
theorem bools_u {w : World} {v : Value} (h : BoolsArg w v) : ∃ (A : Option Addr) (n c : Nat), v = .slice A n c ∧ n ≤ c ∧ ∀ k, k < n → ∃ (b off : Nat) (x : Bool), A = some ⟨b, off, none⟩ ∧ b < w.heap.size ∧ w.cell? ⟨b, off + k, none⟩ = some (.bool x) := by
  rcases h with rfl | ⟨b, off, n, c, cs, el, fz, xs, rfl, hnc, hw, hlen, hx⟩
  · exact ⟨_, _, _, rfl, Nat.le_refl _, fun k hk => by omega⟩
  · refine ⟨_, _, _, rfl, hnc, fun k hk => ?_⟩
    obtain ⟨x, hx2⟩ : ∃ x, xs[k]? = some x := ⟨xs[k]'(by omega), List.getElem?_eq_getElem _⟩
    refine ⟨b, off, x, rfl, (Array.getElem?_eq_some_iff.1 hw).1, ?_⟩
    rw [cell_of_row w b (off + k) cs el fz hw]
    exact hx k x hx2
theorem ptr_same (g : Nat) : ∀ w, (binOp .neq 50 (.pointer (some ⟨g, 0, none⟩)) (.pointer (some ⟨g, 0, none⟩))).run Try.prog w = .ok (.bool false) w := fun w => by
  obtain ⟨j, hj⟩ := Option.isSome_iff_exists.1 (show (Try.prog.info? 124).isSome = true by kernel_rfl)
  exact Lib.run_neq_ptr_same _ _ Try.underlying50 hj
structure ClI (w wr : World) (gc : Nat) (now : Int) (R : List Rn) (v vw : Value) : Prop where
  cr : CrL wr w.heap.size gc v R
  wn : wr.ownsRow w.heap.size 3 1 vw (lateR now R 0).length ((lateR now R 0).map fun q => Value.int .i64 ((q.1 : Int) + 1))
  bel : Below w.heap.size w wr
theorem int_info : (Try.prog.info? 3).map (fun i => (i.zero, i.size, i.bytes)) = some (some (.int .i64 0), 1, 8) := by kernel_rfl
set_option maxHeartbeats 20000000 in
theorem walk (A0 : Option Addr) (n0 c0 : Nat) (x0 : List Int) (v1 : Value) (a2 : Int) (w : World) (b0 : IntRow .i64 w A0 n0 c0 x0) (b1 : BoolsArg w v1) (b2 : -9223372036854775808 ≤ a2 ∧ a2 ≤ 9223372036854775807) :
    Calls Try.prog 6 #[.slice A0 n0 c0, v1, .int .i64 a2] w fun e w' => e = .returned (.bool true) ∧ Below w.heap.size w w' := by
  obtain ⟨hc0, hm0, hl0, hr0, hw0⟩ := b0
  obtain ⟨A1, n1, c1, rfl, hc1, hB⟩ := bools_u b1
  clear b1
  unfold maxLen at hm0
  have HR0 := Lib.hid hr0
  have HW0 := Lib.hid hw0
  have HB := Lib.hid hB
  clear hr0 hw0 hB
  have m1 := Int.emod_nonneg a2 (show (20 : Int) ≠ 0 by omega)
  have m2 := Int.emod_lt_of_pos a2 (show (0 : Int) < 20 by omega)
  have hNow : ∀ w, Calls Try.prog 12 #[.int .i64 a2, .int .i64 20] w fun e w' => e = .returned (.int .i64 (a2 % 20)) ∧ w = w' := fun w => Within_any a2 20 w (by omega) (by omega) (by omega) (by omega)
  generalize a2 % 20 = now at *
  obtain ⟨ii, hii, hi0, hi1, hi2⟩ := info_parts int_info
  go_enter Try.func6, Try.ntmps6
  go_wp2_with fail
  refine (CNew_ok _).mono ?_
  rintro e w1 ⟨rfl, hcb, hb1⟩
  have HI : Hid (ClI w w1 w.heap.size now [] (.slice none 0 0) (.slice none 0 0)) := Lib.hid ⟨⟨Nat.le_refl _, hcb, ⟨by simp, .inl ⟨rfl, rfl⟩⟩, (fun k r h => by simp at h), (fun k r h => by simp at h), (fun j k r s h => by simp at h), by simp⟩, ⟨by simp [lateR], .inl ⟨rfl, rfl⟩⟩, hb1⟩
  clear hcb hb1
  go_upto_block 0 with (go_at_call 12; refine (hNow _).mono ?_; rintro e w' ⟨rfl, rfl⟩)
  go_cut [8] from 9 to 106 (fun vw wx => Hid (∃ R v, ClI w wx w.heap.size now R v vw))
  case first =>
    go_wp2_with fail
    go_loopw [8, 9] (fun vw vi wr => Hid (∃ R v, vi = .int .i64 R.length ∧ ClI w wr w.heap.size now R v vw)) (fun _ vi _ => 9 - (intOf vi).toNat)
    case atStart => exact Lib.hid ⟨[], _, rfl, HI.out⟩
    case round =>
      obtain ⟨R, v, rfl, hI⟩ := hrel.out
      clear hrel HI hNow
      have hk9 := hI.cr.len
      obtain ⟨k, hk⟩ : ∃ k, k = R.length := ⟨_, rfl⟩
      rw [← hk] at hk9 ⊢
      have HK := Lib.hid hk
      have HI := Lib.hid hI
      clear hk hI
      by_cases h1 : (k : Int) < n0
      · by_cases h2 : (k : Int) < 9
        · obtain ⟨ad0, u0, rfl, hab0, hx0, hcx0⟩ := HR0.out.at_ (k := k) (by omega)
          rw [List.getElem?_map, Option.map_eq_some_iff] at hx0
          obtain ⟨z, hz, rfl⟩ := hx0
          have hzb := bounds_i64 (HW0.out z (List.mem_of_getElem? hz))
          clear hz
          have m3 := Int.emod_nonneg z (show (20 : Int) ≠ 0 by omega)
          have m4 := Int.emod_lt_of_pos z (show (0 : Int) < 20 by omega)
          go_wp2_with fail
          refine (RNew_ok (eK k) ((k : Int) + 1) _).mono ?_
          rintro e w2 ⟨rfl, hrb, hb2⟩
          obtain ⟨gr, hgr⟩ : ∃ gr, gr = wr.heap.size := ⟨_, rfl⟩
          have hC2 := HI.out.cr.below hb2
          have hwn2 := own_keep HI.out.wn hb2
          have hbe2 := HI.out.bel.trans (hb2.mono HI.out.bel.size)
          have hBg : w.heap.size ≤ gr := by rw [hgr]; exact HI.out.bel.size
          rw [← hgr] at hrb ⊢
          have hfr : ∀ (j : Nat) (s : Rn), R[j]? = some s → s.g ≠ gr := fun j s hj => by have := (HI.out.cr.runs j s hj).lt; omega
          clear hb2 hgr
          have hAdd := Add_ok gr hC2 (by rw [← HK.out]; exact hrb) (by have := HK.out; omega) hBg hfr
          clear hrb hfr
          go_wp2_with fail
          refine hAdd.mono ?_
          rintro e w3 ⟨rfl, v3, hC3, hb3, hz3, hkeep⟩
          have hwn3 := hkeep _ _ _ hwn2
          have hbe3 := hbe2.trans hb3
          have hcx3 : w3.cell? (ad0.add k) = some (.int .i64 z) := (hbe3.cell (by rw [block_of_add]; exact hab0)).trans hcx0
          have hC4 := hC3.below ((Below.refl w3.heap.size w3).alloc (Nat.le_refl _) (.cells #[.int .i64 1, .int .i64 4] 3))
          have hwn4 := hwn3.alloc (.cells #[.int .i64 1, .int .i64 4] 3)
          have hbe4 := hbe3.alloc hbe3.size (.cells #[.int .i64 1, .int .i64 4] 3)
          have hp0 := (Blk.new w3 3 #[.int .i64 1, .int .i64 4]).cell 0
          have hp1 := (Blk.new w3 3 #[.int .i64 1, .int .i64 4]).cell 1
          have hk0 : (R ++ [(⟨gr, 0, false, 0⟩ : Rn)])[k]? = some ⟨gr, 0, false, 0⟩ := by rw [HK.out]; simp
          have hset : ∀ r' : Rn, (R ++ [(⟨gr, 0, false, 0⟩ : Rn)]).set k r' = R ++ [r'] := fun r' => by rw [HK.out]; simp
          have hfind : findV (R ++ [(⟨gr, 0, false, 0⟩ : Rn)]) k = .pointer (some ⟨gr, 0, none⟩) := by unfold findV; rw [hk0]
          have hX := Exact_k k ((k : Int) + 1) (by omega) hC4
          rw [if_pos rfl, hfind] at hX
          have hblk := fun kd => (hC4.drewN kd).runs k _ hk0
          have HCELL : ∀ w6, Below w.heap.size w w6 → ∀ (h : k < n1), ∃ (b off : Nat) (x : Bool), A1 = some ⟨b, off, none⟩ ∧ w6.cell? ⟨b, off + k, none⟩ = some (.bool x) := fun w6 hb h => by
            obtain ⟨b, off, x, h1, h2, h3⟩ := HB.out k h
            exact ⟨b, off, x, h1, (hb.cell (p := ⟨b, off + k, none⟩) h2).trans h3⟩
          have HB4 := Lib.hid hb3
          clear hAdd hC2 hwn2 hbe2 hkeep hb3 hcx0 hfind
          have hDu : ∀ w, Calls Try.prog 12 #[.int .i64 z, .int .i64 20] w fun e w' => e = .returned (.int .i64 (z % 20)) ∧ w = w' := fun w => Within_any z 20 w (by omega) (by omega) (by omega) (by omega)
          generalize z % 20 = d at *
          have hpar : (k : Int) % 2 = 0 ∨ (k : Int) % 2 = 1 := by omega
          have hsn := fun r' => lateR_snoc now r' R 0
          rw [← HK.out] at hsn
          have hlr := lateR_len now R 0
          have hll : (lateR now R 0).length ≤ 9 := by have := HK.out; omega
          have HSN := Lib.hid hsn
          clear hsn hlr
          have hneq := ptr_same gr
          rcases hpar with hpar | hpar
          · go_wp2_with fail
            refine (hDu _).mono ?_
            rintro e w' ⟨rfl, rfl⟩
            go_wp2_with fail
            generalize (w3.alloc (.cells #[.int .i64 1, .int .i64 4] 3)) = w4 at *
            clear hDu hp0 hp1 hpar
            refine hX.mono ?_
            rintro e w5 ⟨rfl, kd, rfl⟩
            clear hX
            go_wp2_with fail
            refine (Begin_ok 1 d (by decide) (hblk kd)).mono ?_
            rintro e w6 ⟨rfl, hb6, hg6⟩
            have hC6 := (hC4.drewN kd).turn hk0 hg6 (r' := ⟨gr, 1, true, d⟩) rfl hb6
            rw [hset] at hC6
            have hbe6 := (below_drewN hbe4 kd).grown hg6 (by have := hbe4.size; exact this) (fun q hq => by injection hq with hq; omega)
            have hwn6 := (show (w4.drewN kd).ownsRow w.heap.size 3 1 u8 (lateR now R 0).length ((lateR now R 0).map fun q => Value.int .i64 ((q.1 : Int) + 1)) from hwn4).kept hg6 (.inr (own_blk_ne (w := w4.drewN kd) hwn4 (hblk kd) (by decide)))
            have hbc6 := HCELL w6 hbe6
            clear hC4 hwn4 hbe4 hblk hg6 hk0 HCELL hC3 hbe3 hwn3 hcx3
            have hdn : d ≤ now ∨ ¬ d ≤ now := by omega
            have hk6 : ∀ r' : Rn, (R ++ [r'])[k]? = some r' := fun r' => by rw [HK.out]; simp
            have hset6 : ∀ r' r'' : Rn, (R ++ [r']).set k r'' = R ++ [r''] := fun r' r'' => by rw [HK.out]; simp
            have hlen6 : ∀ r' : Rn, ((R ++ [r']).length : Int) = (k : Int) + 1 := fun r' => by rw [HK.out]; simp
            by_cases hk1 : k < n1
            · obtain ⟨b, off, x, rfl, hcb⟩ := hbc6 hk1
              have hk1i : (k : Int) < (n1 : Int) := by omega
              cases x with
              | true =>
                have hHe := Hello_ok (by decide) hb6
                go_wp2_with (go_at_call 30; refine hHe.mono ?_; rintro e w7 ⟨rfl, hb7, hg7⟩)
                have hC7 := hC6.turn (hk6 _) hg7 (r' := ⟨gr, 2, false, 0⟩) rfl hb7
                rw [hset6] at hC7
                have hbe7 := hbe6.grown hg7 hbe6.size (fun q hq => by injection hq with hq; omega)
                have hwn7 := hwn6.kept hg7 (.inr (own_blk_ne hwn6 hb6 (by decide)))
                refine ⟨?_, by simp [intOf]; omega⟩
                refine Lib.hid ⟨R ++ [⟨gr, 2, false, 0⟩], v3, by rw [hlen6], ⟨hC7, ?_, hbe7⟩⟩
                rw [HSN.out]
                simpa using hwn7
              | false =>
                rcases hdn with hdn | hdn
                · go_wp2_with (at_builtin; refine wpList_append_own _ rfl _ _ 22 rfl w.heap.size 3 ii (.int .i64 0) 1 8 Try.underlying22 hii hi0 hi1 hi2 rfl (by decide) _ _ _ rfl (hwn6.alloc _) ⟨w6.heap.size, 0, none⟩ 1 1 [.int .i64 ((k : Int) + 1)] rfl rfl (cell_one_new _ _ _) (one_cell_int _ _) (by simp only [maxLen]; omega) (by omega) (by have := hbe6.size; simp; omega) ?_; intro v8 w8 hown8 hg8 _hne; clear _hne)
                  have hbe8 := push_below hbe6 hbe6.size hwn6 _ hg8
                  have hC8 := (hC6.below ((Below.refl w6.heap.size w6).alloc (Nat.le_refl _) _)).kept8 hg8 (hwn6.alloc _)
                  refine ⟨?_, by simp [intOf]; omega⟩
                  refine Lib.hid ⟨R ++ [⟨gr, 1, true, d⟩], v3, by rw [hlen6], ⟨hC8, ?_, hbe8⟩⟩
                  rw [HSN.out, if_pos (by simpa using hdn)]
                  simpa using hown8
                · go_wp2
                  refine ⟨?_, by simp [intOf]; omega⟩
                  refine Lib.hid ⟨R ++ [⟨gr, 1, true, d⟩], v3, by rw [hlen6], ⟨hC6, ?_, hbe6⟩⟩
                  rw [HSN.out, if_neg (by simpa using hdn)]
                  simpa using hwn6
            · have hk1i : ¬ (k : Int) < (n1 : Int) := by omega
              rcases hdn with hdn | hdn
              · go_wp2_with (at_builtin; refine wpList_append_own _ rfl _ _ 22 rfl w.heap.size 3 ii (.int .i64 0) 1 8 Try.underlying22 hii hi0 hi1 hi2 rfl (by decide) _ _ _ rfl (hwn6.alloc _) ⟨w6.heap.size, 0, none⟩ 1 1 [.int .i64 ((k : Int) + 1)] rfl rfl (cell_one_new _ _ _) (one_cell_int _ _) (by simp only [maxLen]; omega) (by omega) (by have := hbe6.size; simp; omega) ?_; intro v8 w8 hown8 hg8 _hne; clear _hne)
                have hbe8 := push_below hbe6 hbe6.size hwn6 _ hg8
                have hC8 := (hC6.below ((Below.refl w6.heap.size w6).alloc (Nat.le_refl _) _)).kept8 hg8 (hwn6.alloc _)
                refine ⟨?_, by simp [intOf]; omega⟩
                refine Lib.hid ⟨R ++ [⟨gr, 1, true, d⟩], v3, by rw [hlen6], ⟨hC8, ?_, hbe8⟩⟩
                rw [HSN.out, if_pos (by simpa using hdn)]
                simpa using hown8
              · go_wp2
                refine ⟨?_, by simp [intOf]; omega⟩
                refine Lib.hid ⟨R ++ [⟨gr, 1, true, d⟩], v3, by rw [hlen6], ⟨hC6, ?_, hbe6⟩⟩
                rw [HSN.out, if_neg (by simpa using hdn)]
                simpa using hwn6
          · go_wp2_with fail
            refine (hDu _).mono ?_
            rintro e w' ⟨rfl, rfl⟩
            go_wp2_with fail
            generalize (w3.alloc (.cells #[.int .i64 1, .int .i64 4] 3)) = w4 at *
            clear hDu hp0 hp1 hpar
            refine hX.mono ?_
            rintro e w5 ⟨rfl, kd, rfl⟩
            clear hX
            go_wp2_with fail
            refine (Begin_ok 4 d (by decide) (hblk kd)).mono ?_
            rintro e w6 ⟨rfl, hb6, hg6⟩
            have hC6 := (hC4.drewN kd).turn hk0 hg6 (r' := ⟨gr, 4, true, d⟩) rfl hb6
            rw [hset] at hC6
            have hbe6 := (below_drewN hbe4 kd).grown hg6 (by have := hbe4.size; exact this) (fun q hq => by injection hq with hq; omega)
            have hwn6 := (show (w4.drewN kd).ownsRow w.heap.size 3 1 u8 (lateR now R 0).length ((lateR now R 0).map fun q => Value.int .i64 ((q.1 : Int) + 1)) from hwn4).kept hg6 (.inr (own_blk_ne (w := w4.drewN kd) hwn4 (hblk kd) (by decide)))
            have hbc6 := HCELL w6 hbe6
            clear hC4 hwn4 hbe4 hblk hg6 hk0 HCELL hC3 hbe3 hwn3 hcx3
            have hdn : d ≤ now ∨ ¬ d ≤ now := by omega
            have hk6 : ∀ r' : Rn, (R ++ [r'])[k]? = some r' := fun r' => by rw [HK.out]; simp
            have hset6 : ∀ r' r'' : Rn, (R ++ [r']).set k r'' = R ++ [r''] := fun r' r'' => by rw [HK.out]; simp
            have hlen6 : ∀ r' : Rn, ((R ++ [r']).length : Int) = (k : Int) + 1 := fun r' => by rw [HK.out]; simp
            by_cases hk1 : k < n1
            · obtain ⟨b, off, x, rfl, hcb⟩ := hbc6 hk1
              have hk1i : (k : Int) < (n1 : Int) := by omega
              cases x with
              | true =>
                have hHe := Hello_ok (by decide) hb6
                go_wp2_with (go_at_call 30; refine hHe.mono ?_; rintro e w7 ⟨rfl, hb7, hg7⟩)
                have hC7 := hC6.turn (hk6 _) hg7 (r' := ⟨gr, 2, false, 0⟩) rfl hb7
                rw [hset6] at hC7
                have hbe7 := hbe6.grown hg7 hbe6.size (fun q hq => by injection hq with hq; omega)
                have hwn7 := hwn6.kept hg7 (.inr (own_blk_ne hwn6 hb6 (by decide)))
                refine ⟨?_, by simp [intOf]; omega⟩
                refine Lib.hid ⟨R ++ [⟨gr, 2, false, 0⟩], v3, by rw [hlen6], ⟨hC7, ?_, hbe7⟩⟩
                rw [HSN.out]
                simpa using hwn7
              | false =>
                rcases hdn with hdn | hdn
                · go_wp2_with (at_builtin; refine wpList_append_own _ rfl _ _ 22 rfl w.heap.size 3 ii (.int .i64 0) 1 8 Try.underlying22 hii hi0 hi1 hi2 rfl (by decide) _ _ _ rfl (hwn6.alloc _) ⟨w6.heap.size, 0, none⟩ 1 1 [.int .i64 ((k : Int) + 1)] rfl rfl (cell_one_new _ _ _) (one_cell_int _ _) (by simp only [maxLen]; omega) (by omega) (by have := hbe6.size; simp; omega) ?_; intro v8 w8 hown8 hg8 _hne; clear _hne)
                  have hbe8 := push_below hbe6 hbe6.size hwn6 _ hg8
                  have hC8 := (hC6.below ((Below.refl w6.heap.size w6).alloc (Nat.le_refl _) _)).kept8 hg8 (hwn6.alloc _)
                  refine ⟨?_, by simp [intOf]; omega⟩
                  refine Lib.hid ⟨R ++ [⟨gr, 4, true, d⟩], v3, by rw [hlen6], ⟨hC8, ?_, hbe8⟩⟩
                  rw [HSN.out, if_pos (by simpa using hdn)]
                  simpa using hown8
                · go_wp2
                  refine ⟨?_, by simp [intOf]; omega⟩
                  refine Lib.hid ⟨R ++ [⟨gr, 4, true, d⟩], v3, by rw [hlen6], ⟨hC6, ?_, hbe6⟩⟩
                  rw [HSN.out, if_neg (by simpa using hdn)]
                  simpa using hwn6
            · have hk1i : ¬ (k : Int) < (n1 : Int) := by omega
              rcases hdn with hdn | hdn
              · go_wp2_with (at_builtin; refine wpList_append_own _ rfl _ _ 22 rfl w.heap.size 3 ii (.int .i64 0) 1 8 Try.underlying22 hii hi0 hi1 hi2 rfl (by decide) _ _ _ rfl (hwn6.alloc _) ⟨w6.heap.size, 0, none⟩ 1 1 [.int .i64 ((k : Int) + 1)] rfl rfl (cell_one_new _ _ _) (one_cell_int _ _) (by simp only [maxLen]; omega) (by omega) (by have := hbe6.size; simp; omega) ?_; intro v8 w8 hown8 hg8 _hne; clear _hne)
                have hbe8 := push_below hbe6 hbe6.size hwn6 _ hg8
                have hC8 := (hC6.below ((Below.refl w6.heap.size w6).alloc (Nat.le_refl _) _)).kept8 hg8 (hwn6.alloc _)
                refine ⟨?_, by simp [intOf]; omega⟩
                refine Lib.hid ⟨R ++ [⟨gr, 4, true, d⟩], v3, by rw [hlen6], ⟨hC8, ?_, hbe8⟩⟩
                rw [HSN.out, if_pos (by simpa using hdn)]
                simpa using hown8
              · go_wp2
                refine ⟨?_, by simp [intOf]; omega⟩
                refine Lib.hid ⟨R ++ [⟨gr, 4, true, d⟩], v3, by rw [hlen6], ⟨hC6, ?_, hbe6⟩⟩
                rw [HSN.out, if_neg (by simpa using hdn)]
                simpa using hwn6
        · go_wp2_with fail
          go_meet
          exact Lib.hid ⟨R, v, HI.out⟩
      · go_wp2_with fail
        go_meet
        exact Lib.hid ⟨R, v, HI.out⟩
  case rest =>
    obtain ⟨R, v, hI⟩ := hcut.out
    clear hcut hNow HI
    have hlr := lateR_len now R 0
    have hl9 := hI.cr.len
    have hCl := CLate_ok now hI.cr
    have hwn0 := hI.wn
    have HI := Lib.hid hI
    clear hI
    have hmem := fun i g h => lateR_mem now R 0 i g h
    generalize lateR now R 0 = L at *
    go_wp2_with fail
    refine hCl.mono ?_
    rintro e w2 ⟨v2, rfl, ho2, hb2⟩
    obtain ⟨A5, c5, rfl, -, -⟩ := own_slice ho2
    have hC2 := Lib.hid (HI.out.cr.below hb2)
    have hwn2 := own_keep hwn0 hb2
    obtain ⟨A6, c6, hv6, -, -⟩ := own_slice hwn2
    subst hv6
    have hbe2 := HI.out.bel.trans (hb2.mono HI.out.bel.size)
    have HO := Lib.hid (And.intro ho2 hwn2)
    have HM := Lib.hid hmem
    clear hb2 hCl ho2 hwn2 hmem hwn0
    obtain ⟨M, hM⟩ : ∃ M, M = L.length := ⟨_, rfl⟩
    rw [← hM] at hlr ⊢
    have HL := Lib.hid hM
    clear hM
    go_wp2_with fail
    go_loopw [117] (fun i wr => Hid (∃ j m : Nat, j ≤ M ∧ i = .int .i64 j ∧ wr = w2.drewN m)) (fun i _ => M - (intOf i).toNat)
    case atStart => exact Lib.hid ⟨0, 0, by omega, rfl, rfl⟩
    case round =>
      obtain ⟨j, m, hj, rfl, rfl⟩ := hrel.out
      clear hrel
      by_cases hlt : j < M
      · obtain ⟨q, hq⟩ : ∃ q, L[j]? = some q := ⟨L[j]'(by have := HL.out; omega), List.getElem?_eq_getElem _⟩
        obtain ⟨-, r, hr, hrg⟩ := HM.out q.1 q.2 (List.mem_of_getElem? hq)
        rw [Nat.sub_zero] at hr
        obtain ⟨u5, rfl⟩ := own_some HO.out.1 (by have := HL.out; omega)
        obtain ⟨u6, rfl⟩ := own_some HO.out.2 (by have := HL.out; omega)
        have key : ∀ gg, ((⟨gg, 0, none⟩ : Addr).add j) = ⟨gg, j, none⟩ := fun gg => by unfold Addr.add; split <;> simp_all
        have k5 := HO.out.1.cells rfl j (.pointer (some ⟨q.2, 0, none⟩)) (by unfold latV; rw [List.getElem?_map, hq]; rfl)
        have k6 := HO.out.2.cells rfl j (.int .i64 ((q.1 : Int) + 1)) (by rw [List.getElem?_map, hq]; rfl)
        rw [key] at k5 k6
        have k5 : (w2.drewN m).cell? ⟨u5, j, none⟩ = some (.pointer (some ⟨q.2, 0, none⟩)) := k5
        have k6 : ∀ kd, (w2.drewN kd).cell? ⟨u6, j, none⟩ = some (.int .i64 ((q.1 : Int) + 1)) := fun kd => k6
        have hW := Who_ok ((hC2.out.runs q.1 r hr).drewN m)
        rw [hrg] at hW
        have hji : (j : Int) < (M : Int) := by omega
        generalize eK q.1 = eq at *
        clear key hq hr hrg
        go_wp2_with (go_at_call 32; refine hW.mono ?_; rintro e w3 ⟨rfl, kd, rfl⟩)
        refine ⟨?_, by simp [intOf]; omega⟩
        exact Lib.hid ⟨j + 1, m + kd, by omega, by simp, by first | rfl | rw [World.drewN_drewN]⟩
      · have hF := fun kd => Find_g (hC2.out.drewN kd)
        have hX := fun kd => Exact_k 0 99 (by omega) (hC2.out.drewN kd)
        have hD := fun kd => Drop_none (hC2.out.drewN kd)
        rw [show eK 0 = ⟨#[101, 49]⟩ by decide +kernel] at hX
        simp only [show ¬ (99 : Int) = ((0 : Nat) : Int) + 1 by omega, if_false] at hX
        go_wp2_with (first | (go_at_call 33; refine (hF _).mono ?_; rintro e w3 ⟨rfl, k1, rfl⟩) | (go_at_call 28; refine (hX _).mono ?_; rintro e w4 ⟨rfl, k2, rfl⟩) | (go_at_call 34; refine (hD _).mono ?_; rintro e w5 ⟨rfl, k3, rfl⟩) | (go_at_call 35; refine (wakes_35.2.2.2 _).mono ?_; rintro e w6 ⟨rfl, hb6⟩))
        go_ret
        have hbf := below_drewN hbe2 (m + k1 + k2 + k3)
        exact ⟨rfl, hbf.trans (hb6.mono (by have := hbf.size; exact this))⟩

end Go.Proofs.Ytacmmkpcnpnjoaa.crewLate
