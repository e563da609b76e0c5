/- Rows of what was said, and the numbers of one task's updates. -/
import Derived.Test.YticmldkgkfcoeaaWaD
namespace Go.Proofs.Yticmldkgkfcoeaa.Wa
open Go Go.RowKit Go.Proofs.Yticmldkgkfcoeaa Go.Proofs.Yticmldkgkfcoeaa.Crw Go.ChangeShapes Go.WideShapes Go.ChangeAt
set_option linter.unusedVariables false
set_option maxRecDepth 100000
/-- What was said: a message, and when. -/
structure Sd where
  kd : Int
  F : ByteArray
  E : ByteArray
  T : ByteArray
  nn : Int
  st : Int
  nu : Int
  ep : Int
  A : Option Addr
  ni : Nat
  ci : Nat
  me : Int
  at_ : Int
  it : ByteArray := ⟨#[]⟩
  ig : Nat := 0
abbrev sd11 (x : Sd) : List Value := [.int .i64 x.kd, .string x.F, .string x.E, .string x.T, .int .i64 x.nn, .int .i64 x.st, .int .i64 x.nu, .int .i64 x.ep, .slice x.A x.ni x.ci, .int .i64 x.me, .int .i64 x.at_]
abbrev sdV (L : List Sd) : List Value := L.flatMap sd11
theorem sdV_len (L : List Sd) : (sdV L).length = L.length * 11 := by
  induction L with
  | nil => rfl
  | cons x L ih => simp only [sdV, List.flatMap_cons, List.length_append, List.length_cons, List.length_nil] at ih ⊢; omega
theorem sdV_get (L : List Sd) (k : Nat) (x : Sd) (h : L[k]? = some x) (j : Nat) (hj : j < 11) : (sdV L)[k * 11 + j]? = (sd11 x)[j]? := by
  induction L generalizing k with
  | nil => simp at h
  | cons y L ih =>
    rcases k with _ | k
    · simp at h
      subst h
      rw [Nat.zero_mul, Nat.zero_add]
      show (sd11 y ++ sdV L)[j]? = _
      rw [List.getElem?_append_left (by show j < 11; exact hj)]
    · show (sd11 y ++ sdV L)[(k + 1) * 11 + j]? = _
      rw [List.getElem?_append_right (by show 11 ≤ _; omega)]
      have : (k + 1) * 11 + j - (sd11 y).length = k * 11 + j := by show (k + 1) * 11 + j - 11 = _; omega
      rw [this]
      exact ih k (by simpa using h)
/-- An update of this task. -/
def sel (f t : ByteArray) (x : Sd) : Bool := (x.kd == 11) && (x.F.toList == f.toList) && (x.T.toList == t.toList)
/-- The task's numbers, repeats left out. -/
def nums (f t : ByteArray) (L : List Sd) : List Int := sent [] ((L.filter (sel f t)).map (·.nu))
theorem nums_no {f t : ByteArray} {L : List Sd} {k : Nat} {x : Sd} (h : L[k]? = some x) (hs : sel f t x = false) : nums f t (L.take (k + 1)) = nums f t (L.take k) := by
  unfold nums
  rw [List.take_add_one, h, List.filter_append]
  simp [hs]
theorem nums_yes {f t : ByteArray} {L : List Sd} {k : Nat} {x : Sd} (h : L[k]? = some x) (hs : sel f t x = true) : nums f t (L.take (k + 1)) = if (nums f t (L.take k))[(nums f t (L.take k)).length - 1]? = some x.nu then nums f t (L.take k) else nums f t (L.take k) ++ [x.nu] := by
  unfold nums
  rw [List.take_add_one, h, List.filter_append]
  simp only [Option.toList_some, List.filter_cons, hs, List.filter_nil, if_true, List.map_append, List.map_cons, List.map_nil]
  exact sent_snoc _ _ _
theorem sent_len (acc l : List Int) : (sent acc l).length ≤ acc.length + l.length := by
  induction l generalizing acc with
  | nil => simp [sent]
  | cons a l ih =>
    simp only [sent]
    split
    · have := ih acc; simp; omega
    · have := ih (acc ++ [a]); simp at this ⊢; omega
theorem nums_len (f t : ByteArray) (L : List Sd) : (nums f t L).length ≤ L.length := by
  have h := sent_len [] ((L.filter (sel f t)).map (·.nu))
  have h2 := List.length_filter_le (sel f t) L
  simp at h
  unfold nums
  omega
theorem blk_grown {w w' : World} {g : Nat} {ty : TypeId} {cs : Array Value} {row : Option Nat} (h : Blk w g ty cs) (hg : w.grownBy w' row) (hne : row ≠ some g) : Blk w' g ty cs := (hg.block g h.lt (fun e => hne e.symm)).trans h
set_option maxHeartbeats 8000000 in
theorem Sent_p (v : Value) (n B : Nat) (L : List Sd) (f t : ByteArray) (w : World) (hr : w.ownsRow B 45 11 v n (sdV L)) (hn : n ≤ 400) :
    Calls Try.prog 7 #[v, .agg #[.string f, .string t]] w fun e w' => ∃ v', e = .returned v' ∧ w'.ownsRow w.heap.size 3 1 v' (nums f t L).length ((nums f t L).map (Value.int .i64)) ∧ Below w.heap.size w w' := by
  obtain ⟨A, c, rfl, hc, -⟩ := own_slice hr
  have hl : L.length = n := by have := hr.1; rw [sdV_len] at this; omega
  obtain ⟨W, hW⟩ : ∃ W, W = w.alloc (.cells #[.string f, .string t] 30) := ⟨_, rfl⟩
  have hb : Below w.heap.size w W := by rw [hW]; exact (Below.refl _ _).alloc (Nat.le_refl _) _
  have hg : Blk W w.heap.size 30 #[.string f, .string t] := by rw [hW]; exact Blk.new _ _ _
  have HR := Lib.hid hr
  have HB := Lib.hid hb
  have HG := Lib.hid hg
  have HW := Lib.hid hW
  have HL := Lib.hid hl
  clear hr hb hg hW hl
  go_enter Try.func7, Try.ntmps7
  go_upto_region 1 with fail
  rw [← HW.out]
  go_wp2_with fail
  go_loopw [5, 12] (fun v5 v12 wx => Hid (∃ (k : Nat), v12 = .int .i64 k ∧ k ≤ n ∧ wx.ownsRow w.heap.size 3 1 v5 (nums f t (L.take k)).length ((nums f t (L.take k)).map (Value.int .i64)) ∧ Below w.heap.size w wx ∧ Blk wx w.heap.size 30 #[.string f, .string t] ∧ ∃ w7, w7 = wx)) (fun _ v12 _ => n - (intOf v12).toNat)
  case atStart => exact Lib.hid ⟨0, rfl, by omega, ⟨by simp, .inl ⟨rfl, rfl⟩⟩, HB.out, HG.out, _, rfl⟩
  case round =>
    obtain ⟨k, rfl, hk, ho, hb, hgk, w7, hw7⟩ := hrel.out
    subst hw7
    clear hrel
    have hO := Lib.hid ho
    have HB7 := Lib.hid hb
    have HG7 := Lib.hid hgk
    obtain ⟨Ao, co, rfl, hco, -⟩ := own_slice ho
    have hr7 := own_keep HR.out hb
    clear ho hb hgk
    by_cases hlt : (k : Int) < n
    · obtain ⟨x, hx⟩ : ∃ x, L[k]? = some x := ⟨L[k]'(by have := HL.out; omega), List.getElem?_eq_getElem _⟩
      obtain ⟨u, rfl⟩ := own_some hr7 (by omega)
      have cc : ∀ j, j < 11 → w7.cell? ⟨u, k * 11 + j, none⟩ = (sd11 x)[j]? := fun j hj => (hr7.cellAt (k * 11 + j) (by omega)).trans (sdV_get L k x hx j hj)
      have q0 : w7.cell? ⟨u, k * 11, none⟩ = some (.int .i64 x.kd) := cc 0 (by omega)
      have q1 : w7.cell? ⟨u, k * 11 + 1, none⟩ = some (.string x.F) := cc 1 (by omega)
      have q2 : w7.cell? ⟨u, k * 11 + 2, none⟩ = some (.string x.E) := cc 2 (by omega)
      have q3 : w7.cell? ⟨u, k * 11 + 3, none⟩ = some (.string x.T) := cc 3 (by omega)
      have q4 : w7.cell? ⟨u, k * 11 + 4, none⟩ = some (.int .i64 x.nn) := cc 4 (by omega)
      have q5 : w7.cell? ⟨u, k * 11 + 5, none⟩ = some (.int .i64 x.st) := cc 5 (by omega)
      have q6 : w7.cell? ⟨u, k * 11 + 6, none⟩ = some (.int .i64 x.nu) := cc 6 (by omega)
      have q7 : w7.cell? ⟨u, k * 11 + 7, none⟩ = some (.int .i64 x.ep) := cc 7 (by omega)
      have q8 : w7.cell? ⟨u, k * 11 + 8, none⟩ = some (.slice x.A x.ni x.ci) := cc 8 (by omega)
      have q9 : w7.cell? ⟨u, k * 11 + 9, none⟩ = some (.int .i64 x.me) := cc 9 (by omega)
      have q10 : w7.cell? ⟨u, k * 11 + 10, none⟩ = some (.int .i64 x.at_) := cc 10 (by omega)
      have hk0 : (0 : Int) ≤ (k : Int) := by omega
      have HX := Lib.hid hx
      clear cc hr7 hx
      go_upto_region 5 with fail
      obtain ⟨w6, hw6⟩ : ∃ w6, w6 = w7.alloc (.cells #[.int .i64 x.kd, .string x.F, .string x.E, .string x.T, .int .i64 x.nn, .int .i64 x.st, .int .i64 x.nu, .int .i64 x.ep, .slice x.A x.ni x.ci, .int .i64 x.me, .int .i64 x.at_] 45) := ⟨_, rfl⟩
      obtain ⟨g6, hg6⟩ : ∃ g, g = w7.heap.size := ⟨_, rfl⟩
      rw [← hw6, ← hg6]
      have hbx : Blk w6 g6 45 #[.int .i64 x.kd, .string x.F, .string x.E, .string x.T, .int .i64 x.nn, .int .i64 x.st, .int .i64 x.nu, .int .i64 x.ep, .slice x.A x.ni x.ci, .int .i64 x.me, .int .i64 x.at_] := by rw [hw6, hg6]; exact Blk.new _ _ _
      have hb6 : Below w7.heap.size w7 w6 := by rw [hw6]; exact (Below.refl _ _).alloc (Nat.le_refl _) _
      have b0 := hbx.cell 0
      have b1 := hbx.cell 1
      have b2 := hbx.cell 2
      have b3 := hbx.cell 3
      have b4 := hbx.cell 4
      have b5 := hbx.cell 5
      have b6 := hbx.cell 6
      have b7 := hbx.cell 7
      have b8 := hbx.cell 8
      clear q0 q1 q2 q3 q4 q5 q6 q7 q8 q9 q10 hw6 hg6 hbx
      go_upto_region 6 with fail
      obtain ⟨w8, hw8⟩ : ∃ w8, w8 = w6.alloc (.cells #[.int .i64 x.kd, .string x.F, .string x.E, .string x.T, .int .i64 x.nn, .int .i64 x.st, .int .i64 x.nu, .int .i64 x.ep, .slice x.A x.ni x.ci] 40) := ⟨_, rfl⟩
      obtain ⟨g8, hg8⟩ : ∃ g, g = w6.heap.size := ⟨_, rfl⟩
      rw [← hw8, ← hg8]
      have hbm : Blk w8 g8 40 #[.int .i64 x.kd, .string x.F, .string x.E, .string x.T, .int .i64 x.nn, .int .i64 x.st, .int .i64 x.nu, .int .i64 x.ep, .slice x.A x.ni x.ci] := by rw [hw8, hg8]; exact Blk.new _ _ _
      have hb8 : Below w7.heap.size w7 w8 := by rw [hw8]; exact hb6.alloc (by have := hb6.size; omega) _
      have hk8 := HG7.out.below hb8 HG7.out.lt
      have HB8 := Lib.hid (HB7.out.trans (hb8.mono HB7.out.size))
      have HO8 := Lib.hid (own_keep hO.out hb8)
      have k0 := hk8.cell 0
      have k1 := hk8.cell 1
      have m0 := hbm.cell 0
      have m1 := hbm.cell 1
      have m3 := hbm.cell 3
      have m6 := hbm.cell 6
      have HK8 := Lib.hid hk8
      have HM8 := Lib.hid hbm
      clear b0 b1 b2 b3 b4 b5 b6 b7 b8 hw8 hg8 hbm hb6 hb8 hk8
      have hno : ∀ (_ : sel f t x = false), Hid (∃ (k' : Nat), Value.int .i64 ((k : Int) + 1) = .int .i64 k' ∧ k' ≤ n ∧ w8.ownsRow w.heap.size 3 1 (.slice Ao (nums f t (L.take k)).length co) (nums f t (L.take k')).length ((nums f t (L.take k')).map (Value.int .i64)) ∧ Below w.heap.size w w8 ∧ Blk w8 w.heap.size 30 #[.string f, .string t] ∧ ∃ w7, w7 = w8) := fun hs => Lib.hid ⟨k + 1, by simp, by omega, by rw [nums_no HX.out hs]; exact HO8.out, HB8.out, HK8.out, _, rfl⟩
      have hcs : (¬ x.kd = 11) ∨ (x.kd = 11 ∧ (x.F.toList == f.toList) = false) ∨ (x.kd = 11 ∧ (x.F.toList == f.toList) = true ∧ (x.T.toList == t.toList) = false) ∨ (x.kd = 11 ∧ (x.F.toList == f.toList) = true ∧ (x.T.toList == t.toList) = true) := by
        by_cases h1 : x.kd = 11
        · cases h2 : (x.F.toList == f.toList)
          · exact .inr (.inl ⟨h1, rfl⟩)
          · cases h3 : (x.T.toList == t.toList)
            · exact .inr (.inr (.inl ⟨h1, rfl, rfl⟩))
            · exact .inr (.inr (.inr ⟨h1, rfl, rfl⟩))
        · exact .inl h1
      rcases hcs with h1 | ⟨h1, h2⟩ | ⟨h1, h2, h3⟩ | ⟨h1, h2, h3⟩
      · have hn := Lib.hid (hno (by unfold sel; simp [h1]))
        clear hno
        go_wp2_with fail
        refine ⟨?_, by simp [intOf]; omega⟩
        exact hn.out
      · have hn := Lib.hid (hno (by unfold sel; simp [h1, h2]))
        clear hno
        rw [h1] at m0
        go_wp2_with fail
        refine ⟨?_, by simp [intOf]; omega⟩
        exact hn.out
      · have hn := Lib.hid (hno (by unfold sel; simp [h1, h2, h3]))
        clear hno
        rw [h1] at m0
        go_wp2_with fail
        refine ⟨?_, by simp [intOf]; omega⟩
        exact hn.out
      · clear hno
        have HS := Lib.hid (show sel f t x = true by unfold sel; simp [h1, h2, h3])
        rw [h1] at m0
        go_upto_region 8 with fail
        obtain ⟨M, eM⟩ : ∃ M, M = nums f t (L.take k) := ⟨_, rfl⟩
        have hM : M.length ≤ 400 := by rw [eM]; exact Nat.le_trans (nums_len _ _ _) (by rw [List.length_take]; omega)
        have hny := nums_yes HX.out HS.out
        rw [← eM] at hny
        have HE := Lib.hid eM
        have HN := Lib.hid hny
        have HO9 := HO8.out
        rw [← eM] at HO9 ⊢
        have HOM := Lib.hid HO9
        clear eM hny HO9 HO8 hO
        have HML := Lib.hid hM
        have HO9 := Lib.hid (own_keep HOM.out (Below.refl _ _).drew)
        have HKd := Lib.hid (HK8.out.below (Below.refl _ _).drew HK8.out.lt)
        have m6d : w8.drew.cell? ⟨g8, 6, none⟩ = some (.int .i64 x.nu) := m6
        clear hM
        rcases Nat.eq_zero_or_pos M.length with h0 | hpos
        · obtain rfl : M = [] := List.length_eq_zero_iff.1 h0
          clear h0
          go_region
          obtain ⟨i0, hi, hz0, hz1, hz2⟩ := info_parts int_infoW
          go_wp2_with (at_builtin; refine wpList_append_any _ rfl _ _ 22 rfl w.heap.size 3 i0 (.int .i64 0) 1 8 Try.underlying22 hi hz0 hz1 hz2 rfl (by decide) _ _ ([].map (Value.int .i64)) rfl (HO9.out.alloc _) _ (some ⟨w8.drew.heap.size, 0, none⟩) 1 1 [.int .i64 x.nu] rfl (reads_one w8.drew (.int .i64 x.nu) 3) (by simp [Value.oneCell']) (by have := HML.out; simp only [maxLen]; omega) (by have := HML.out; omega) (by have := HB8.out.size; simp; omega) ?_; intro v4 w4 hown4 hg4 hn4; obtain ⟨A4, c4', rfl, -, -⟩ := own_slice hown4)
          refine ⟨?_, by simp [intOf]; omega⟩
          have hpb := push_below HB8.out.drew (show w.heap.size ≤ w8.drew.heap.size from HB8.out.size) HO9.out _ hg4
          have hbk := own_blk_ne HO9.out HKd.out (by decide)
          have hkk : Blk w4 w.heap.size 30 #[.string f, .string t] := blk_grown (HKd.out.below ((Below.refl _ _).alloc (Nat.le_refl _) (.cells #[.int .i64 x.nu] 3)) HKd.out.lt) hg4 hbk
          have e2 : nums f t (L.take (k + 1)) = [] ++ [x.nu] := by rw [HN.out]; simp
          exact Lib.hid ⟨k + 1, by simp, by omega, by rw [e2, List.length_append, List.map_append]; exact hown4, hpb, hkk, _, rfl⟩
        · obtain ⟨z, hz⟩ : ∃ z, M.length = z + 1 := ⟨M.length - 1, by omega⟩
          obtain ⟨ux, rfl⟩ := own_some HOM.out hpos
          obtain ⟨la, hla⟩ : ∃ la, M[z]? = some la := ⟨M[z]'(by omega), List.getElem?_eq_getElem _⟩
          have l8 : w8.cell? ⟨ux, z, none⟩ = some (.int .i64 la) := (HOM.out.cellAt z (by show z < M.length * 1; omega)).trans (by rw [List.getElem?_map, hla]; rfl)
          have hz9 : z ≤ 400 := by have := HML.out; omega
          rw [hz]
          have z1 : IntKind.i64.wrap (z : Int) = z := by rw [IntKind.wrap_i64]; omega
          have z2 : ¬ ((z : Int) + 1 = 0) := by omega
          have z3 : (0 : Int) ≤ (z : Int) := by omega
          have z4 : (z : Int) < (z : Int) + 1 := by omega
          have HZ := Lib.hid hz
          have HLA := Lib.hid hla
          have l8d : w8.drew.cell? ⟨ux, z, none⟩ = some (.int .i64 la) := l8
          clear hz hla hpos
          cases hc : (la == x.nu) with
          | true =>
            have hc2 : (la != x.nu) = false := by simpa [bne] using hc
            have HC := Lib.hid hc
            go_region_held3 (fun wa => wa.cell? ⟨ux, z, none⟩ = some (.int .i64 la) ∧ wa.cell? ⟨g8, 6, none⟩ = some (.int .i64 x.nu)) (first | with_reducible assumption | with_reducible exact ⟨l8, m6⟩ | with_reducible exact ⟨l8d, m6d⟩) (fail)
            go_wp2_with fail
            refine ⟨?_, by simp [intOf]; omega⟩
            have e2 : nums f t (L.take (k + 1)) = M := by
              rw [HN.out, if_pos]
              rw [HZ.out, Nat.add_sub_cancel, HLA.out]
              exact congrArg some (by simpa using HC.out)
            have hoz := HO9.out
            rw [HZ.out] at hoz
            exact Lib.hid ⟨k + 1, by simp, by omega, by rw [e2, HZ.out]; exact hoz, HB8.out.drew, HKd.out, _, rfl⟩
          | false =>
            have hc2 : (la != x.nu) = true := by simpa [bne] using hc
            have HC := Lib.hid hc
            go_region_held3 (fun wa => wa.cell? ⟨ux, z, none⟩ = some (.int .i64 la) ∧ wa.cell? ⟨g8, 6, none⟩ = some (.int .i64 x.nu)) (first | with_reducible assumption | with_reducible exact ⟨l8, m6⟩ | with_reducible exact ⟨l8d, m6d⟩) (fail)
            have hoz := HO9.out
            rw [HZ.out] at hoz
            have HO10 := Lib.hid hoz
            clear hoz
            obtain ⟨i0, hi, hz0, hz1, hz2⟩ := info_parts int_infoW
            go_wp2_with (at_builtin; refine wpList_append_any _ rfl _ _ 22 rfl w.heap.size 3 i0 (.int .i64 0) 1 8 Try.underlying22 hi hz0 hz1 hz2 rfl (by decide) _ _ (M.map (Value.int .i64)) rfl (HO10.out.alloc _) _ (some ⟨w8.drew.heap.size, 0, none⟩) 1 1 [.int .i64 x.nu] rfl (reads_one w8.drew (.int .i64 x.nu) 3) (by simp [Value.oneCell']) (by simp only [maxLen]; omega) (by omega) (by have := HB8.out.size; simp; omega) ?_; intro v4 w4 hown4 hg4 hn4; obtain ⟨A4, c4', rfl, -, -⟩ := own_slice hown4)
            refine ⟨?_, by simp [intOf]; omega⟩
            have hpb := push_below HB8.out.drew (show w.heap.size ≤ w8.drew.heap.size from HB8.out.size) HO10.out _ hg4
            have hbk := own_blk_ne HO10.out HKd.out (by decide)
            have hkk : Blk w4 w.heap.size 30 #[.string f, .string t] := blk_grown (HKd.out.below ((Below.refl _ _).alloc (Nat.le_refl _) (.cells #[.int .i64 x.nu] 3)) HKd.out.lt) hg4 hbk
            have e2 : nums f t (L.take (k + 1)) = M ++ [x.nu] := by
              rw [HN.out, if_neg]
              rw [HZ.out, Nat.add_sub_cancel, HLA.out]
              intro e
              have h9 := HC.out
              injection e with e
              rw [e] at h9
              simp at h9
            exact Lib.hid ⟨k + 1, by simp, by omega, by rw [e2, List.length_append, List.map_append, HZ.out]; exact hown4, hpb, hkk, _, rfl⟩
    · go_wp2_with fail
      go_ret
      have e : L.take k = L := List.take_of_length_le (by have := HL.out; omega)
      have ho := hO.out
      rw [e] at ho
      have hv : (nums f t (L.take k)).length = (nums f t L).length := by rw [e]
      exact ⟨_, rfl, by rw [hv]; exact ho, HB7.out⟩
end Go.Proofs.Yticmldkgkfcoeaa.Wa
