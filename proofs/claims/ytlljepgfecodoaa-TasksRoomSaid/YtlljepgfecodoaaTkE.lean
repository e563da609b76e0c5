/- The rows of entries of one item each. -/
import Derived.Test.YtlljepgfecodoaaTkD
namespace Go.Proofs.Ytlljepgfecodoaa.Tk
open Go Go.RowKit Go.Proofs.Ytlljepgfecodoaa Go.Proofs.Ytlljepgfecodoaa.Crw Go.ChangeShapes Go.WideShapes Go.ChangeAt
set_option linter.unusedVariables false
set_option maxRecDepth 100000
attribute [local go_sem] run_store_complex
theorem fw0 : fw 0 = 0 := by decide +kernel
set_option maxHeartbeats 4000000 in
theorem Fits_nil (w : World) : Calls Try.prog 11 #[.complex .f64 0 0, .complex .f64 0 0, .slice none 0 0] w fun e w' => e = .returned (.bool true) ∧ Below w.heap.size w w' := by
  obtain ⟨gu, egu⟩ : ∃ g, g = w.heap.size := ⟨_, rfl⟩
  obtain ⟨W, hW⟩ : ∃ W, W = w.alloc (.cells #[.complex .f64 0 0] 25) := ⟨_, rfl⟩
  have hb : Below w.heap.size w W := by rw [hW]; exact (Below.refl _ _).alloc (Nat.le_refl _) _
  have ho : W.ownsRow w.heap.size 25 1 (.slice (some ⟨gu, 0, none⟩) 1 1) 1 ((([(0, 0)] : List (Nat × Nat))).map cv) := by
    have e : (([(0, 0)] : List (Nat × Nat))).map cv = [.complex .f64 0 0] := by simp only [List.map_cons, List.map_nil, cv, fw0]
    rw [hW, egu, e]
    exact own_new1 _ _ _
  have hS := Sum_any (some ⟨gu, 0, none⟩) 1 1 [(0, 0)] W.heap.size W (Nat.le_refl _) (Reads.of_own ho) (by omega) (by simp [sA]) (by simp [sB])
  have e1 : sA [(0, 0)] = 0 := by simp [sA]
  have e2 : sB [(0, 0)] = 0 := by simp [sB]
  rw [e1, e2, fw0] at hS
  have HW := Lib.hid (And.intro hW egu)
  have HB := Lib.hid hb
  clear hW egu hb ho e1 e2
  go_enter Try.func11, Try.ntmps11
  go_upto_region 2 with fail
  rw [← HW.out.1, ← HW.out.2]
  go_wp2_with fail
  go_loopw [7, 14] (fun v7 v14 wx => v7 = .slice (some ⟨gu, 0, none⟩) 1 1 ∧ v14 = .int .i64 0 ∧ wx = W) (fun _ _ _ => 0)
  case atStart => exact ⟨rfl, rfl, rfl⟩
  case round =>
    obtain ⟨rfl, rfl, rfl⟩ := hrel
    go_wp2_with fail
    refine hS.mono ?_
    rintro e w9 ⟨rfl, hb9⟩
    have hF := Fits_any 0 0 0 0 w9
    have h0 : leF 0 0 = true := by have := leF_fw (a := 0) (b := 0) (by omega) (by omega); rw [fw0] at this; simpa using this
    rw [h0] at hF
    have HB9 := Lib.hid (HB.out.trans (hb9.mono HB.out.size))
    clear hS hb9 h0
    go_wp2_with fail
    refine hF.mono ?_
    rintro e w10 ⟨rfl, rfl⟩
    go_wp2_with fail
    go_ret
    exact ⟨rfl, HB9.out⟩
/-- An entry: its row, and where its item stands. -/
structure En where
  x : Tr
  g : Nat
abbrev en4 (e : En) : List Value := [.string ⟨#[102]⟩, .string ⟨#[120]⟩, .int .i64 e.x.n, .slice (some ⟨e.g, 0, none⟩) 1 1]
abbrev enV (L : List En) : List Value := L.flatMap en4
theorem enV_len (L : List En) : (enV L).length = L.length * 4 := by
  induction L with
  | nil => rfl
  | cons x L ih => simp only [enV, List.flatMap_cons, List.length_append, List.length_cons, List.length_nil] at ih ⊢; omega
theorem enV_get (L : List En) (k : Nat) (x : En) (h : L[k]? = some x) (j : Nat) (hj : j < 4) : (enV L)[k * 4 + j]? = (en4 x)[j]? := by
  induction L generalizing k with
  | nil => simp at h
  | cons y L ih =>
    rcases k with _ | k
    · simp at h
      subst h
      rw [Nat.zero_mul, Nat.zero_add]
      show (en4 y ++ enV L)[j]? = _
      rw [List.getElem?_append_left (by show j < 4; exact hj)]
    · show (en4 y ++ enV L)[(k + 1) * 4 + j]? = _
      rw [List.getElem?_append_right (by show 4 ≤ _; omega)]
      have : (k + 1) * 4 + j - (en4 y).length = k * 4 + j := by show (k + 1) * 4 + j - 4 = _; omega
      rw [this]
      exact ih k (by simpa using h)
abbrev itC (x : Tr) : Array Value := #[.string x.t, .complex .f64 (fw x.p) (fw x.q)]
set_option maxHeartbeats 8000000 in
theorem Rows_any (A : Option Addr) (n c B : Nat) (L : List En) (w : World) (hB : B ≤ w.heap.size) (hr : w.ownsRow B 31 4 (.slice A n c) n (enV L)) (hn : n ≤ 100)
    (hg : ∀ (k : Nat) (e : En), L[k]? = some e → Blk w e.g 28 (itC e.x)) :
    Calls Try.prog 6 #[.slice A n c] w fun e w' => ∃ v, e = .returned v ∧ w'.ownsRow w.heap.size 49 5 v n (rwV (L.map (·.x))) ∧ Below w.heap.size w w' := by
  have hl : L.length = n := by have := hr.1; rw [enV_len] at this; omega
  have HL := Lib.hid hl
  have HR := Lib.hid hr
  have HG := Lib.hid hg
  clear hr hl hg
  go_enter Try.func6, Try.ntmps6
  go_wp2_with fail
  go_loopw [3, 10] (fun v3 v10 wx => Hid (∃ (k : Nat), v10 = .int .i64 k ∧ k ≤ n ∧ wx.ownsRow w.heap.size 49 5 v3 k (rwV ((L.take k).map (·.x))) ∧ Below w.heap.size w wx ∧ ∃ w7, w7 = wx)) (fun _ v10 _ => n - (intOf v10).toNat)
  case atStart => exact Lib.hid ⟨0, rfl, by omega, ⟨by simp, .inl ⟨rfl, rfl⟩⟩, Below.refl _ _, _, rfl⟩
  case round =>
    obtain ⟨k, rfl, hk, ho, hb, w7, hw7⟩ := hrel.out
    subst hw7
    clear hrel
    have HO := Lib.hid ho
    have HB7 := Lib.hid hb
    obtain ⟨Ao, co, rfl, hco, -⟩ := own_slice ho
    have hr7 := own_keep HR.out hb
    clear ho hb
    by_cases hlt : (k : Int) < n
    · obtain ⟨e, hx⟩ : ∃ e, L[k]? = some e := ⟨L[k]'(by have := HL.out; omega), List.getElem?_eq_getElem _⟩
      obtain ⟨u, rfl⟩ := own_some hr7 (by omega)
      have cc : ∀ j, j < 4 → w7.cell? ⟨u, k * 4 + j, none⟩ = (en4 e)[j]? := fun j hj => (hr7.cellAt (k * 4 + j) (by omega)).trans (enV_get L k e hx j hj)
      have hit := (HG.out k e hx).below HB7.out (HG.out k e hx).lt
      obtain ⟨x, ge⟩ := e
      have q0 : w7.cell? ⟨u, k * 4, none⟩ = some (.string ⟨#[102]⟩) := cc 0 (by omega)
      have q1 : w7.cell? ⟨u, k * 4 + 1, none⟩ = some (.string ⟨#[120]⟩) := cc 1 (by omega)
      have q2 : w7.cell? ⟨u, k * 4 + 2, none⟩ = some (.int .i64 x.n) := cc 2 (by omega)
      have q3 : w7.cell? ⟨u, k * 4 + 3, none⟩ = some (.slice (some ⟨ge, 0, none⟩) 1 1) := cc 3 (by omega)
      have hk0 : (0 : Int) ≤ (k : Int) := by omega
      have htk : (L.take (k + 1)).map (·.x) = (L.take k).map (·.x) ++ [x] := by rw [List.take_add_one, hx]; simp
      have HX := Lib.hid htk
      have HI := Lib.hid hit
      clear cc hr7 hx htk hit
      go_upto_region 5 with fail
      obtain ⟨g8, hg8⟩ : ∃ g, g = w7.heap.size := ⟨_, rfl⟩
      obtain ⟨w8, hw8⟩ : ∃ w8, w8 = w7.alloc (.cells #[.string ⟨#[102]⟩, .string ⟨#[120]⟩, .int .i64 x.n, .slice (some ⟨ge, 0, none⟩) 1 1] 31) := ⟨_, rfl⟩
      rw [← hw8, ← hg8]
      have hbx : Blk w8 g8 31 #[.string ⟨#[102]⟩, .string ⟨#[120]⟩, .int .i64 x.n, .slice (some ⟨ge, 0, none⟩) 1 1] := by rw [hw8, hg8]; exact Blk.new _ _ _
      have hb8 : Below w7.heap.size w7 w8 := by rw [hw8]; exact (Below.refl _ _).alloc (Nat.le_refl _) _
      have b3 := hbx.cell 3
      have HO8 := Lib.hid (own_keep HO.out hb8)
      have HB8 := Lib.hid (HB7.out.trans (hb8.mono HB7.out.size))
      have HX8 := Lib.hid hbx
      have HI8 := Lib.hid (HI.out.below hb8 HI.out.lt)
      clear hw8 hg8 hbx hb8 q0 q1 q2 q3
      go_wp2_with fail
      clear b3
      go_loopw [3, 17] (fun v3 v17 wx => Hid (∃ (j : Nat), v17 = .int .i64 j ∧ j ≤ 1 ∧ wx.ownsRow w.heap.size 49 5 v3 (k + j) (rwV ((L.take (k + j)).map (·.x))) ∧ Below w.heap.size w wx ∧ (j = 0 → wx = w8) ∧ ∃ w7, w7 = wx)) (fun _ v17 _ => 1 - (intOf v17).toNat)
      case atStart => exact Lib.hid ⟨0, rfl, by omega, HO8.out, HB8.out, fun _ => rfl, _, rfl⟩
      case round =>
        obtain ⟨j, rfl, hj, ho, hb, he, w9, hw9⟩ := hrel.out
        subst hw9
        clear hrel
        have HO9 := Lib.hid ho
        have HB9 := Lib.hid hb
        have HE9 := Lib.hid he
        obtain ⟨A9, c9, rfl, hc9, -⟩ := own_slice ho
        clear ho hb he
        rcases Nat.lt_or_ge j 1 with hjl | hjg
        · obtain rfl : j = 0 := by omega
          have hx9 : Blk w9 g8 31 #[.string ⟨#[102]⟩, .string ⟨#[120]⟩, .int .i64 x.n, .slice (some ⟨ge, 0, none⟩) 1 1] := by rw [HE9.out rfl]; exact HX8.out
          have hi9 : Blk w9 ge 28 #[.string x.t, .complex .f64 (fw x.p) (fw x.q)] := by rw [HE9.out rfl]; exact HI8.out
          have p0 : w9.cell? ⟨ge, 0, none⟩ = some (.string x.t) := hi9.cell 0
          have p1 : w9.cell? ⟨ge, 1, none⟩ = some (.complex .f64 (fw x.p) (fw x.q)) := hi9.cell 1
          go_upto_region 8 with fail
          obtain ⟨ga, hga⟩ : ∃ g, g = w9.heap.size := ⟨_, rfl⟩
          obtain ⟨wa, hwa⟩ : ∃ wa, wa = w9.alloc (.cells #[.string x.t, .complex .f64 (fw x.p) (fw x.q)] 28) := ⟨_, rfl⟩
          rw [← hwa, ← hga]
          have hba : Below w9.heap.size w9 wa := by rw [hwa]; exact (Below.refl _ _).alloc (Nat.le_refl _) _
          have hka : Blk wa ga 28 #[.string x.t, .complex .f64 (fw x.p) (fw x.q)] := by rw [hwa, hga]; exact Blk.new _ _ _
          have hxa := hx9.below hba hx9.lt
          have b0 := hxa.cell 0
          have b1 := hxa.cell 1
          have b2 := hxa.cell 2
          have d0 := hka.cell 0
          have d1 := hka.cell 1
          have HOa := Lib.hid (own_keep HO9.out hba)
          have HBw := Lib.hid (HB9.out.trans (hba.mono HB9.out.size))
          obtain ⟨i0, hi, hz0, hz1, hz2⟩ := info_parts row_info
          clear hwa hga hba hka hxa hx9 hi9 p0 p1
          go_wp2_with (at_builtin; refine wpList_append_any _ rfl _ _ 32 rfl w.heap.size 49 i0 (.agg #[.string ⟨#[]⟩, .string ⟨#[]⟩, .string ⟨#[]⟩, .int .i64 0, .complex .f64 0 0]) 5 72 Try.underlying32 hi hz0 hz1 hz2 rfl (by decide) _ (k + 0) (rwV ((L.take (k + 0)).map (·.x))) rfl (HOa.out.alloc _) _ (some ⟨wa.heap.size, 0, none⟩) 1 1 (rw5 x) rfl (reads_newN wa (rw5 x) 49 rfl) (by simp [Value.oneCell']) (by simp only [maxLen]; omega) (by omega) (by have := HBw.out.size; simp; omega) ?_; intro v4 w4 hown4 hg4 hn4; obtain ⟨A4, c4', rfl, -, -⟩ := own_slice hown4)
          have hpb := push_below HBw.out HBw.out.size HOa.out _ hg4
          refine ⟨?_, by simp [intOf]⟩
          refine Lib.hid ⟨1, by simp, by omega, ?_, hpb, fun h => absurd h (by omega), _, rfl⟩
          have e1 : rwV ((L.take k).map (·.x) ++ [x]) = rwV ((L.take k).map (·.x)) ++ rw5 x := by simp [rwV]
          rw [HX.out, e1]
          exact hown4
        · obtain rfl : j = 1 := by omega
          clear hjg
          go_wp2_with fail
          refine ⟨?_, by simp [intOf]; omega⟩
          exact Lib.hid ⟨k + 1, by simp, by omega, HO9.out, HB9.out, _, rfl⟩
    · go_wp2_with fail
      go_ret
      have e : L.take k = L := List.take_of_length_le (by have := HL.out; omega)
      have ho := HO.out
      rw [e] at ho
      have hkn : k = n := by omega
      exact ⟨_, rfl, by rw [← hkn]; exact ho, HB7.out⟩
end Go.Proofs.Ytlljepgfecodoaa.Tk
