/- Launches of one executor: the same ones? -/
import Derived.Test.YticmldkgkfcoeaaWaI
import Derived.Laws.StructEq
namespace Go.Proofs.Yticmldkgkfcoeaa.Wa
open Go Go.RowKit Go.Proofs.Yticmldkgkfcoeaa Go.Proofs.Yticmldkgkfcoeaa.Crw Go.ChangeShapes Go.WideShapes Go.ChangeAt
set_option linter.unusedVariables false
set_option maxRecDepth 100000
abbrev one_ : Value := .complex .f64 4607182418800017408 0
theorem run_equalIn_cx (w : World) (d : Nat) (t : TypeId) (k : FloatKind) (a b : Nat) (hu : Try.prog.underlying t = some (.complex k)) (h1 : Op.floatEq .f64 a a = true) (h2 : Op.floatEq .f64 b b = true) : (Op.equalIn (d + 1) t (.complex .f64 a b) (.complex .f64 a b)).run Try.prog w = .ok true w := by
  simp [Op.equalIn, run_underlying hu, h1, h2, Sem.run_pure]
theorem run_part_cx (w : World) {t : TypeId} {k : FloatKind} (hu : Try.prog.underlying t = some (.complex k)) {xs : Array Value} {off : Nat} {v : Value} (hx : xs[off]? = some v) : (part t xs off).run Try.prog w = .ok v w := by
  unfold part isAgg
  simp [Sem.run_bind, run_underlying hu, Sem.run_pure, hx]
theorem item_eqI (w : World) (t t' : ByteArray) : (Op.equalIn 10000 43 (.agg #[.string t, one_]) (.agg #[.string t', one_])).run Try.prog w = .ok (t.toList == t'.toList) w := by
  rw [run_equalIn_agg (P := Try.prog) w 9999 43 _ _ (by kernel_rfl) (by kernel_rfl)]
  have hk : (Try.prog.fieldsOf 43).toList.map (fun x => (decide (x.name = "_"), x.offset, x.type)) = [(false, 0, 9), (false, 1, 41)] := by kernel_rfl
  generalize (Try.prog.fieldsOf 43).toList = l at hk ⊢
  rcases l with _ | ⟨x, _ | ⟨y, _ | ⟨z, r⟩⟩⟩
  · simp at hk
  · simp at hk
  · simp only [List.map_cons, List.map_nil, List.cons.injEq, Prod.mk.injEq, and_true] at hk
    obtain ⟨⟨n1, h1, h2⟩, n2, h3, h4⟩ := hk
    have n1' := of_decide_eq_false n1
    have n2' := of_decide_eq_false n2
    have hpk : Try.prog.plainKey 9 = true := by kernel_rfl
    have hus := Try.underlying9
    unfold Op.eqFields
    rw [if_pos n1', h1, h2, Sem.run_bind, run_part_plain _ hpk (v := .string t) rfl, Result.andThen_ok, Sem.run_bind, run_part_plain _ hpk (v := .string t') rfl, Result.andThen_ok, Sem.run_bind, run_equalIn_string w _ _ t t' hus, Result.andThen_ok]
    unfold Op.eqFields
    rw [if_pos n2', h3, h4]
    cases hf : (t.toList == t'.toList)
    · simp [Sem.run_pure]
    · simp only [Bool.not_true, Bool.false_eq_true, if_false, Sem.run_bind]
      rw [run_part_cx w Try.underlying41 (v := one_) rfl, Result.andThen_ok, run_part_cx w Try.underlying41 (v := one_) rfl, Result.andThen_ok, run_equalIn_cx w _ _ _ _ _ Try.underlying41 (by kernel_rfl) (by kernel_rfl), Result.andThen_ok]
      unfold Op.eqFields
      simp [Sem.run_pure]
  · simp at hk
theorem item_neq (w : World) (t t' : ByteArray) : (binOp .neq 43 (.agg #[.string t, one_]) (.agg #[.string t', one_])).run Try.prog w = .ok (.bool (!(t.toList == t'.toList))) w := by
  rw [run_neq_struct, item_eqI]
  rfl
abbrev itC (t : ByteArray) : Array Value := #[.string t, one_]
abbrev laC (n : Int) (g : Nat) : Array Value := #[.int .i64 14, .string ⟨#[102]⟩, .string ⟨#[120]⟩, .string ⟨#[]⟩, .int .i64 n, .int .i64 0, .int .i64 0, .int .i64 0, .slice (some ⟨g, 0, none⟩) 1 1]
set_option maxHeartbeats 4000000 in
theorem EqI (g g' : Nat) (t t' : ByteArray) (w : World) (h : Blk w g 43 (itC t)) (h' : Blk w g' 43 (itC t')) :
    Calls Try.prog 20 #[.slice (some ⟨g, 0, none⟩) 1 1, .slice (some ⟨g', 0, none⟩) 1 1] w fun e w' => e = .returned (.bool (t.toList == t'.toList)) ∧ Below w.heap.size w w' := by
  have heq := item_neq
  have heg : Try.prog.eqGuardType Try.prog.depth 43 = false := by kernel_rfl
  have H := Lib.hid h
  have H' := Lib.hid h'
  clear h h'
  go_enter Try.func20, Try.ntmps20
  go_wp2_with fail
  go_loopw [13] (fun v13 wx => Hid (∃ (k : Nat), v13 = .int .i64 k ∧ k ≤ 1 ∧ (k = 1 → (t.toList == t'.toList) = true) ∧ Below w.heap.size w wx ∧ ∃ w7, w7 = wx)) (fun v13 _ => 1 - (intOf v13).toNat)
  case atStart => exact Lib.hid ⟨0, rfl, by omega, fun h => by omega, Below.refl _ _, _, rfl⟩
  case round =>
    obtain ⟨k, rfl, hk, he, hb, w7, hw7⟩ := hrel.out
    subst hw7
    clear hrel
    have HE := Lib.hid he
    have HB := Lib.hid hb
    have h7 := H.out.below hb H.out.lt
    have h7' := H'.out.below hb H'.out.lt
    clear he hb
    by_cases hlt : (k : Int) < (1 : Nat)
    · obtain rfl : k = 0 := by omega
      clear hk hlt
      have q0 : w7.cell? ⟨g, 0, none⟩ = some (.string t) := h7.cell 0
      have q1 : w7.cell? ⟨g, 1, none⟩ = some one_ := h7.cell 1
      have r0 : w7.cell? ⟨g', 0, none⟩ = some (.string t') := h7'.cell 0
      have r1 : w7.cell? ⟨g', 1, none⟩ = some one_ := h7'.cell 1
      clear h7 h7'
      obtain ⟨bq, hbq⟩ : ∃ bq, bq = (t.toList == t'.toList) := ⟨_, rfl⟩
      rw [← hbq]
      cases bq with
      | true =>
        have hcn : (!t.toList == t'.toList) = false := by rw [← hbq]; rfl
        have HC := Lib.hid hbq
        clear hbq
        go_wp2_with fail
        go_quiet (fail)
        go_wp2_with fail
        refine ⟨?_, by simp [intOf]⟩
        exact Lib.hid ⟨1, by simp, by omega, fun _ => by first | exact HC.out.symm | trivial, below_drewN HB.out _, _, rfl⟩
      | false =>
        have hcn : (!t.toList == t'.toList) = true := by rw [← hbq]; rfl
        have HC := Lib.hid hbq
        clear hbq
        go_wp2_with fail
        go_quiet (fail)
        go_wp2_with fail
        go_ret
        exact ⟨by rw [← HC.out]; rfl, below_drewN HB.out _⟩
    · have hk1 : k = 1 := by omega
      have he := HE.out hk1
      have HE2 := Lib.hid he
      clear he
      go_wp2_with fail
      go_ret
      exact ⟨by rw [HE2.out]; rfl, HB.out⟩
set_option maxHeartbeats 8000000 in
/-- Two launches: the same? The program's. -/
theorem SameP (n n' : Int) (g g' : Nat) (t t' : ByteArray) (w : World) (h : Blk w g 43 (itC t)) (h' : Blk w g' 43 (itC t')) :
    Calls Try.prog 16 #[.agg (laC n g), .agg (laC n' g')] w fun e w' => e = .returned (.bool (n == n' && t.toList == t'.toList)) ∧ Below w.heap.size w w' := by
  obtain ⟨W, hW⟩ : ∃ W, W = (w.alloc (.cells (laC n g) 40)).alloc (.cells (laC n' g') 40) := ⟨_, rfl⟩
  have hb : Below w.heap.size w W := by rw [hW]; exact ((Below.refl _ _).alloc (Nat.le_refl _) _).alloc (by simp) _
  have hk1 : Blk W w.heap.size 40 (laC n g) := by rw [hW]; exact (Blk.new w 40 (laC n g)).below ((Below.refl _ _).alloc (Nat.le_refl _) _) (Blk.new w 40 (laC n g)).lt
  have hk2 : Blk W (w.heap.size + 1) 40 (laC n' g') := by
    rw [hW]
    have := Blk.new (w.alloc (.cells (laC n g) 40)) 40 (laC n' g')
    simpa using this
  have hq := EqI g g' t t' W (h.below hb h.lt) (h'.below hb h'.lt)
  have a0 : W.cell? ⟨w.heap.size, 0, none⟩ = some (.int .i64 14) := hk1.cell 0
  have a1 : W.cell? ⟨w.heap.size, 1, none⟩ = some (.string ⟨#[102]⟩) := hk1.cell 1
  have a2 : W.cell? ⟨w.heap.size, 2, none⟩ = some (.string ⟨#[120]⟩) := hk1.cell 2
  have a3 : W.cell? ⟨w.heap.size, 3, none⟩ = some (.string ⟨#[]⟩) := hk1.cell 3
  have a4 : W.cell? ⟨w.heap.size, 4, none⟩ = some (.int .i64 n) := hk1.cell 4
  have a5 : W.cell? ⟨w.heap.size, 5, none⟩ = some (.int .i64 0) := hk1.cell 5
  have a6 : W.cell? ⟨w.heap.size, 6, none⟩ = some (.int .i64 0) := hk1.cell 6
  have a7 : W.cell? ⟨w.heap.size, 7, none⟩ = some (.int .i64 0) := hk1.cell 7
  have a8 : W.cell? ⟨w.heap.size, 8, none⟩ = some (.slice (some ⟨g, 0, none⟩) 1 1) := hk1.cell 8
  have b0 : W.cell? ⟨w.heap.size + 1, 0, none⟩ = some (.int .i64 14) := hk2.cell 0
  have b1 : W.cell? ⟨w.heap.size + 1, 1, none⟩ = some (.string ⟨#[102]⟩) := hk2.cell 1
  have b2 : W.cell? ⟨w.heap.size + 1, 2, none⟩ = some (.string ⟨#[120]⟩) := hk2.cell 2
  have b3 : W.cell? ⟨w.heap.size + 1, 3, none⟩ = some (.string ⟨#[]⟩) := hk2.cell 3
  have b4 : W.cell? ⟨w.heap.size + 1, 4, none⟩ = some (.int .i64 n') := hk2.cell 4
  have b5 : W.cell? ⟨w.heap.size + 1, 5, none⟩ = some (.int .i64 0) := hk2.cell 5
  have b6 : W.cell? ⟨w.heap.size + 1, 6, none⟩ = some (.int .i64 0) := hk2.cell 6
  have b7 : W.cell? ⟨w.heap.size + 1, 7, none⟩ = some (.int .i64 0) := hk2.cell 7
  have b8 : W.cell? ⟨w.heap.size + 1, 8, none⟩ = some (.slice (some ⟨g', 0, none⟩) 1 1) := hk2.cell 8
  have HB := Lib.hid hb
  have HW := Lib.hid hW
  clear hb hk1 hk2 hW h h'
  cases hn : (n == n') with
  | true =>
    go_enter Try.func16, Try.ntmps16
    go_upto_region 1 with fail
    rw [← HW.out]
    go_wp2_with (go_at_call 20; refine hq.mono ?_; rintro e w' ⟨rfl, hb5⟩; clear hq)
    go_ret
    exact ⟨rfl, HB.out.trans (hb5.mono HB.out.size)⟩
  | false =>
    clear hq
    go_enter Try.func16, Try.ntmps16
    go_upto_region 1 with fail
    rw [← HW.out]
    go_wp2_with fail
    go_ret
    exact ⟨rfl, HB.out⟩
set_option maxHeartbeats 8000000 in
/-- The plain answer's. -/
theorem SameR (n n' : Int) (g g' : Nat) (t t' : ByteArray) (w : World) (h : Blk w g 43 (itC t)) (h' : Blk w g' 43 (itC t')) :
    Calls Try.prog 17 #[.agg (laC n g), .agg (laC n' g')] w fun e w' => e = .returned (.bool (n == n' && t.toList == t'.toList)) ∧ Below w.heap.size w w' := by
  have heq := item_neq
  have heg : Try.prog.eqGuardType Try.prog.depth 43 = false := by kernel_rfl
  obtain ⟨W, hW⟩ : ∃ W, W = (w.alloc (.cells (laC n g) 40)).alloc (.cells (laC n' g') 40) := ⟨_, rfl⟩
  have hb : Below w.heap.size w W := by rw [hW]; exact ((Below.refl _ _).alloc (Nat.le_refl _) _).alloc (by simp) _
  have hk1 : Blk W w.heap.size 40 (laC n g) := by rw [hW]; exact (Blk.new w 40 (laC n g)).below ((Below.refl _ _).alloc (Nat.le_refl _) _) (Blk.new w 40 (laC n g)).lt
  have hk2 : Blk W (w.heap.size + 1) 40 (laC n' g') := by
    rw [hW]
    have := Blk.new (w.alloc (.cells (laC n g) 40)) 40 (laC n' g')
    simpa using this
  have hi1 := h.below hb h.lt
  have hi2 := h'.below hb h'.lt
  have a0 : W.cell? ⟨w.heap.size, 0, none⟩ = some (.int .i64 14) := hk1.cell 0
  have a1 : W.cell? ⟨w.heap.size, 1, none⟩ = some (.string ⟨#[102]⟩) := hk1.cell 1
  have a2 : W.cell? ⟨w.heap.size, 2, none⟩ = some (.string ⟨#[120]⟩) := hk1.cell 2
  have a3 : W.cell? ⟨w.heap.size, 3, none⟩ = some (.string ⟨#[]⟩) := hk1.cell 3
  have a4 : W.cell? ⟨w.heap.size, 4, none⟩ = some (.int .i64 n) := hk1.cell 4
  have a5 : W.cell? ⟨w.heap.size, 5, none⟩ = some (.int .i64 0) := hk1.cell 5
  have a6 : W.cell? ⟨w.heap.size, 6, none⟩ = some (.int .i64 0) := hk1.cell 6
  have a7 : W.cell? ⟨w.heap.size, 7, none⟩ = some (.int .i64 0) := hk1.cell 7
  have a8 : W.cell? ⟨w.heap.size, 8, none⟩ = some (.slice (some ⟨g, 0, none⟩) 1 1) := hk1.cell 8
  have b0 : W.cell? ⟨w.heap.size + 1, 0, none⟩ = some (.int .i64 14) := hk2.cell 0
  have b1 : W.cell? ⟨w.heap.size + 1, 1, none⟩ = some (.string ⟨#[102]⟩) := hk2.cell 1
  have b2 : W.cell? ⟨w.heap.size + 1, 2, none⟩ = some (.string ⟨#[120]⟩) := hk2.cell 2
  have b3 : W.cell? ⟨w.heap.size + 1, 3, none⟩ = some (.string ⟨#[]⟩) := hk2.cell 3
  have b4 : W.cell? ⟨w.heap.size + 1, 4, none⟩ = some (.int .i64 n') := hk2.cell 4
  have b5 : W.cell? ⟨w.heap.size + 1, 5, none⟩ = some (.int .i64 0) := hk2.cell 5
  have b6 : W.cell? ⟨w.heap.size + 1, 6, none⟩ = some (.int .i64 0) := hk2.cell 6
  have b7 : W.cell? ⟨w.heap.size + 1, 7, none⟩ = some (.int .i64 0) := hk2.cell 7
  have b8 : W.cell? ⟨w.heap.size + 1, 8, none⟩ = some (.slice (some ⟨g', 0, none⟩) 1 1) := hk2.cell 8
  have HB := Lib.hid hb
  have HW := Lib.hid hW
  have H1 := Lib.hid hk1
  have H2 := Lib.hid hk2
  have HI1 := Lib.hid hi1
  have HI2 := Lib.hid hi2
  clear hb hk1 hk2 hW h h' hi1 hi2
  cases hn : (n == n') with
  | true =>
    have hn2 : (n != n') = false := by simpa [bne] using hn
    go_enter Try.func17, Try.ntmps17
    go_upto_region 1 with fail
    rw [← HW.out]
    go_wp2_with fail
    clear a0 a1 a2 a3 a4 a5 a6 a7 b0 b1 b2 b3 b4 b5 b6 b7 hn hn2
    go_loopw [72] (fun v13 wx => Hid (∃ (k : Nat), v13 = .int .i64 k ∧ k ≤ 1 ∧ (k = 1 → (t.toList == t'.toList) = true) ∧ Below W.heap.size W wx ∧ ∃ w7, w7 = wx)) (fun v13 _ => 1 - (intOf v13).toNat)
    case atStart => exact Lib.hid ⟨0, rfl, by omega, fun h => by omega, Below.refl _ _, _, rfl⟩
    case round =>
      obtain ⟨k, rfl, hk, he, hb, w7, hw7⟩ := hrel.out
      subst hw7
      clear hrel
      have HE := Lib.hid he
      have HB7 := Lib.hid (HB.out.trans (hb.mono HB.out.size))
      have HBW := Lib.hid hb
      have h7 := HI1.out.below hb HI1.out.lt
      have h7' := HI2.out.below hb HI2.out.lt
      have a8 := (H1.out.below hb H1.out.lt).cell 8
      have b8 := (H2.out.below hb H2.out.lt).cell 8
      clear he hb
      by_cases hlt : (k : Int) < (1 : Nat)
      · obtain rfl : k = 0 := by omega
        clear hk hlt
        have q0 : w7.cell? ⟨g, 0, none⟩ = some (.string t) := h7.cell 0
        have q1 : w7.cell? ⟨g, 1, none⟩ = some one_ := h7.cell 1
        have r0 : w7.cell? ⟨g', 0, none⟩ = some (.string t') := h7'.cell 0
        have r1 : w7.cell? ⟨g', 1, none⟩ = some one_ := h7'.cell 1
        clear h7 h7'
        obtain ⟨bq, hbq⟩ : ∃ bq, bq = (t.toList == t'.toList) := ⟨_, rfl⟩
        rw [← hbq]
        cases bq with
        | true =>
          have hcn : (!t.toList == t'.toList) = false := by rw [← hbq]; rfl
          have HC := Lib.hid hbq
          clear hbq
          go_wp2_with fail
          go_quiet (fail)
          go_wp2_with fail
          refine ⟨?_, by simp [intOf]⟩
          exact Lib.hid ⟨1, by simp, by omega, fun _ => by first | exact HC.out.symm | trivial, below_drewN HBW.out _, _, rfl⟩
        | false =>
          have hcn : (!t.toList == t'.toList) = true := by rw [← hbq]; rfl
          have HC := Lib.hid hbq
          clear hbq
          go_wp2_with fail
          go_quiet (fail)
          go_wp2_with fail
          go_ret
          exact ⟨by rw [← HC.out]; rfl, below_drewN HB7.out _⟩
      · have hk1 : k = 1 := by omega
        have he := HE.out hk1
        have HE2 := Lib.hid he
        clear he
        go_wp2_with fail
        go_ret
        exact ⟨by rw [HE2.out]; rfl, HB7.out⟩
  | false =>
    have hn2 : (n != n') = true := by simpa [bne] using hn
    go_enter Try.func17, Try.ntmps17
    go_upto_region 1 with fail
    rw [← HW.out]
    go_wp2_with fail
    go_ret
    exact ⟨rfl, HB.out⟩
end Go.Proofs.Yticmldkgkfcoeaa.Wa
