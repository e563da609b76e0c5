/- What open rows take. -/
import Derived.Test.YtlljepgfecodoaaTkB
import Derived.Test.YtlljepgfecodoaaTkS
namespace Go.Proofs.Ytlljepgfecodoaa.Tk
open Go Go.RowKit Go.Proofs.Ytlljepgfecodoaa Go.Proofs.Ytlljepgfecodoaa.Crw Go.ChangeShapes Go.WideShapes Go.ChangeAt
set_option linter.unusedVariables false
set_option maxRecDepth 100000
attribute [local go_sem] run_store_complex
def nd (x : Tr) : Nat × Nat := (x.p, x.q)
theorem cplx_info : (Try.prog.info? 25).map (fun i => (i.zero, i.size, i.bytes)) = some (some (.complex .f64 0 0), 1, 16) := by kernel_rfl
set_option maxHeartbeats 8000000 in
theorem Used_any0 (A : Option Addr) (n c B : Nat) (L : List Tr) (s : Tr → Int) (w : World) (hB : B ≤ w.heap.size) (hr : w.ownsRow B 49 5 (.slice A n c) n (rwV L)) (hn : n ≤ 100) (h0 : ∀ x ∈ L, x.n ≠ 0)
    (hs : ∀ (wa : World) (x : Tr), Below w.heap.size w wa → x ∈ L → Calls Try.prog 8 #[keyV x] wa fun e w' => e = .returned (.int .i64 (s x)) ∧ Below wa.heap.size wa w')
    (h1 : sA ((L.filter fun x => !overB (s x)).map nd) < 2 ^ 53) (h2 : sB ((L.filter fun x => !overB (s x)).map nd) < 2 ^ 53) :
    Calls Try.prog 7 #[.slice A n c, .func (.func 8) #[] #[]] w fun e w' => e = .returned (.complex .f64 (fw (sA ((L.filter fun x => !overB (s x)).map nd))) (fw (sB ((L.filter fun x => !overB (s x)).map nd)))) ∧ Below w.heap.size w w' := by
  have hO := Open_any0 A n c B L s w hB hr hn h0 hs
  have hml : (L.filter fun x => !overB (s x)).length ≤ 100 := Nat.le_trans (List.length_filter_le _ _) (by have := hr.1; rw [rwV_len] at this; omega)
  obtain ⟨M, hM⟩ : ∃ M, M = L.filter fun x => !overB (s x) := ⟨_, rfl⟩
  rw [← hM] at h1 h2 hO hml ⊢
  have HS := Lib.hid (And.intro h1 h2)
  clear hs h1 h2 hr hM h0
  go_enter Try.func7, Try.ntmps7
  go_wp2_with fail
  refine hO.mono ?_
  rintro e w1 ⟨v1, rfl, ho1, hb1⟩
  obtain ⟨A1, c1, rfl, hc1, -⟩ := own_slice ho1
  have HO := Lib.hid ho1
  have HB1 := Lib.hid hb1
  obtain ⟨m, em⟩ : ∃ m, m = M.length := ⟨_, rfl⟩
  rw [← em] at hml hc1 ⊢
  have HM := Lib.hid em
  clear hO ho1 hb1 em
  go_wp2_with fail
  go_loopw [5, 12] (fun v5 v12 wx => Hid (∃ (k : Nat), v12 = .int .i64 k ∧ k ≤ m ∧ wx.ownsRow w1.heap.size 25 1 v5 k (((M.take k).map nd).map cv) ∧ Below w1.heap.size w1 wx ∧ ∃ w7, w7 = wx)) (fun _ v12 _ => m - (intOf v12).toNat)
  case atStart => exact Lib.hid ⟨0, rfl, by omega, ⟨by simp, .inl ⟨rfl, rfl⟩⟩, Below.refl _ _, _, rfl⟩
  case round =>
    obtain ⟨k, rfl, hk, ho, hb, w7, hw7⟩ := hrel.out
    subst hw7
    clear hrel
    obtain ⟨Ao, co, rfl, hco, -⟩ := own_slice ho
    have hr7 := own_keep HO.out hb
    rw [← HM.out] at hr7
    have HO7 := Lib.hid ho
    have HB7 := Lib.hid hb
    clear ho hb
    by_cases hlt : (k : Int) < m
    · obtain ⟨x, hx⟩ : ∃ x, M[k]? = some x := ⟨M[k]'(by have := HM.out; omega), List.getElem?_eq_getElem _⟩
      obtain ⟨u, rfl⟩ := own_some hr7 (by omega)
      have cc : ∀ j, j < 5 → w7.cell? ⟨u, k * 5 + j, none⟩ = (rw5 x)[j]? := fun j hj => (hr7.cellAt (k * 5 + j) (by omega)).trans (rwV_get M k x hx j hj)
      have q0 : w7.cell? ⟨u, k * 5, none⟩ = some (.string ⟨#[102]⟩) := cc 0 (by omega)
      have q1 : w7.cell? ⟨u, k * 5 + 1, none⟩ = some (.string x.t) := cc 1 (by omega)
      have q2 : w7.cell? ⟨u, k * 5 + 2, none⟩ = some (.string ⟨#[120]⟩) := cc 2 (by omega)
      have q3 : w7.cell? ⟨u, k * 5 + 3, none⟩ = some (.int .i64 x.n) := cc 3 (by omega)
      have q4 : w7.cell? ⟨u, k * 5 + 4, none⟩ = some (.complex .f64 (fw x.p) (fw x.q)) := cc 4 (by omega)
      have hk0 : (0 : Int) ≤ (k : Int) := by omega
      have htk : M.take (k + 1) = M.take k ++ [x] := by rw [List.take_add_one, hx]; rfl
      have HX := Lib.hid (And.intro hx htk)
      clear cc hr7 hx htk
      go_upto_region 5 with fail
      obtain ⟨g, hg⟩ : ∃ g, g = w7.heap.size := ⟨_, rfl⟩
      obtain ⟨w8, hw8⟩ : ∃ w8, w8 = w7.alloc (.cells #[.string ⟨#[102]⟩, .string x.t, .string ⟨#[120]⟩, .int .i64 x.n, .complex .f64 (fw x.p) (fw x.q)] 49) := ⟨_, rfl⟩
      rw [← hw8, ← hg]
      have hbx : Blk w8 g 49 #[.string ⟨#[102]⟩, .string x.t, .string ⟨#[120]⟩, .int .i64 x.n, .complex .f64 (fw x.p) (fw x.q)] := by rw [hw8, hg]; exact Blk.new _ _ _
      have hb8 : Below w7.heap.size w7 w8 := by rw [hw8]; exact (Below.refl _ _).alloc (Nat.le_refl _) _
      have hB8 := HB7.out.trans (hb8.mono HB7.out.size)
      have b4 := hbx.cell 4
      have ho8 := own_keep HO7.out hb8
      have HO8 := Lib.hid ho8
      have HB8 := Lib.hid hB8
      obtain ⟨i0, hi, hz0, hz1, hz2⟩ := info_parts cplx_info
      clear hw8 hg hbx hb8 hB8 q0 q1 q2 q3 q4 ho8
      go_wp2_with (at_builtin; refine wpList_append_any _ rfl _ _ 50 rfl w1.heap.size 25 i0 (.complex .f64 0 0) 1 16 Try.underlying50 hi hz0 hz1 hz2 rfl (by decide) _ k (((M.take k).map nd).map cv) rfl (HO8.out.alloc _) _ (some ⟨w8.heap.size, 0, none⟩) 1 1 [cv (nd x)] rfl (reads_newN w8 [cv (nd x)] 25 rfl) (by simp [Value.oneCell', cv]) (by simp only [maxLen]; omega) (by omega) (by have := HB8.out.size; simp; omega) ?_; intro v4 w4 hown4 hg4 hn4; obtain ⟨A4, c4', rfl, -, -⟩ := own_slice hown4)
      have hpb := push_below HB8.out HB8.out.size HO8.out _ hg4
      refine ⟨?_, by simp [intOf]; omega⟩
      refine Lib.hid ⟨k + 1, by simp, by omega, ?_, hpb, _, rfl⟩
      rw [HX.out.2, List.map_append, List.map_append]
      exact hown4
    · have e : M.take k = M := List.take_of_length_le (by have := HM.out; omega)
      have hro := Reads.of_own HO7.out
      rw [e] at hro
      have hS := Sum_any Ao k co (M.map nd) w7.heap.size w7 (Nat.le_refl _) hro (by omega) HS.out.1 HS.out.2
      have hbb := HB1.out.trans (HB7.out.mono HB1.out.size)
      have HBB := Lib.hid hbb
      clear hro hbb e
      go_wp2_with fail
      refine hS.mono ?_
      rintro e w9 ⟨rfl, hb9⟩
      have HB9 := Lib.hid (HBB.out.trans (hb9.mono HBB.out.size))
      clear hS hb9
      go_wp2_with fail
      go_ret
      exact ⟨rfl, HB9.out⟩
set_option maxHeartbeats 8000000 in
theorem Used_any1 (A : Option Addr) (n c B : Nat) (L : List Tr) (cp : Value) (s : Tr → Int) (w : World) (hB : B ≤ w.heap.size) (hr : w.ownsRow B 49 5 (.slice A n c) n (rwV L)) (hn : n ≤ 100) (h0 : ∀ x ∈ L, x.n ≠ 0)
    (hs : ∀ (wa : World) (x : Tr), Below w.heap.size w wa → x ∈ L → Calls Try.prog 10 #[keyV x, cp] wa fun e w' => e = .returned (.int .i64 (s x)) ∧ Below wa.heap.size wa w')
    (h1 : sA ((L.filter fun x => !overB (s x)).map nd) < 2 ^ 53) (h2 : sB ((L.filter fun x => !overB (s x)).map nd) < 2 ^ 53) :
    Calls Try.prog 7 #[.slice A n c, .func (.func 10) #[] #[cp]] w fun e w' => e = .returned (.complex .f64 (fw (sA ((L.filter fun x => !overB (s x)).map nd))) (fw (sB ((L.filter fun x => !overB (s x)).map nd)))) ∧ Below w.heap.size w w' := by
  have hO := Open_any1 A n c B L cp s w hB hr hn h0 hs
  have hml : (L.filter fun x => !overB (s x)).length ≤ 100 := Nat.le_trans (List.length_filter_le _ _) (by have := hr.1; rw [rwV_len] at this; omega)
  obtain ⟨M, hM⟩ : ∃ M, M = L.filter fun x => !overB (s x) := ⟨_, rfl⟩
  rw [← hM] at h1 h2 hO hml ⊢
  have HS := Lib.hid (And.intro h1 h2)
  clear hs h1 h2 hr hM h0
  go_enter Try.func7, Try.ntmps7
  go_wp2_with fail
  refine hO.mono ?_
  rintro e w1 ⟨v1, rfl, ho1, hb1⟩
  obtain ⟨A1, c1, rfl, hc1, -⟩ := own_slice ho1
  have HO := Lib.hid ho1
  have HB1 := Lib.hid hb1
  obtain ⟨m, em⟩ : ∃ m, m = M.length := ⟨_, rfl⟩
  rw [← em] at hml hc1 ⊢
  have HM := Lib.hid em
  clear hO ho1 hb1 em
  go_wp2_with fail
  go_loopw [5, 12] (fun v5 v12 wx => Hid (∃ (k : Nat), v12 = .int .i64 k ∧ k ≤ m ∧ wx.ownsRow w1.heap.size 25 1 v5 k (((M.take k).map nd).map cv) ∧ Below w1.heap.size w1 wx ∧ ∃ w7, w7 = wx)) (fun _ v12 _ => m - (intOf v12).toNat)
  case atStart => exact Lib.hid ⟨0, rfl, by omega, ⟨by simp, .inl ⟨rfl, rfl⟩⟩, Below.refl _ _, _, rfl⟩
  case round =>
    obtain ⟨k, rfl, hk, ho, hb, w7, hw7⟩ := hrel.out
    subst hw7
    clear hrel
    obtain ⟨Ao, co, rfl, hco, -⟩ := own_slice ho
    have hr7 := own_keep HO.out hb
    rw [← HM.out] at hr7
    have HO7 := Lib.hid ho
    have HB7 := Lib.hid hb
    clear ho hb
    by_cases hlt : (k : Int) < m
    · obtain ⟨x, hx⟩ : ∃ x, M[k]? = some x := ⟨M[k]'(by have := HM.out; omega), List.getElem?_eq_getElem _⟩
      obtain ⟨u, rfl⟩ := own_some hr7 (by omega)
      have cc : ∀ j, j < 5 → w7.cell? ⟨u, k * 5 + j, none⟩ = (rw5 x)[j]? := fun j hj => (hr7.cellAt (k * 5 + j) (by omega)).trans (rwV_get M k x hx j hj)
      have q0 : w7.cell? ⟨u, k * 5, none⟩ = some (.string ⟨#[102]⟩) := cc 0 (by omega)
      have q1 : w7.cell? ⟨u, k * 5 + 1, none⟩ = some (.string x.t) := cc 1 (by omega)
      have q2 : w7.cell? ⟨u, k * 5 + 2, none⟩ = some (.string ⟨#[120]⟩) := cc 2 (by omega)
      have q3 : w7.cell? ⟨u, k * 5 + 3, none⟩ = some (.int .i64 x.n) := cc 3 (by omega)
      have q4 : w7.cell? ⟨u, k * 5 + 4, none⟩ = some (.complex .f64 (fw x.p) (fw x.q)) := cc 4 (by omega)
      have hk0 : (0 : Int) ≤ (k : Int) := by omega
      have htk : M.take (k + 1) = M.take k ++ [x] := by rw [List.take_add_one, hx]; rfl
      have HX := Lib.hid (And.intro hx htk)
      clear cc hr7 hx htk
      go_upto_region 5 with fail
      obtain ⟨g, hg⟩ : ∃ g, g = w7.heap.size := ⟨_, rfl⟩
      obtain ⟨w8, hw8⟩ : ∃ w8, w8 = w7.alloc (.cells #[.string ⟨#[102]⟩, .string x.t, .string ⟨#[120]⟩, .int .i64 x.n, .complex .f64 (fw x.p) (fw x.q)] 49) := ⟨_, rfl⟩
      rw [← hw8, ← hg]
      have hbx : Blk w8 g 49 #[.string ⟨#[102]⟩, .string x.t, .string ⟨#[120]⟩, .int .i64 x.n, .complex .f64 (fw x.p) (fw x.q)] := by rw [hw8, hg]; exact Blk.new _ _ _
      have hb8 : Below w7.heap.size w7 w8 := by rw [hw8]; exact (Below.refl _ _).alloc (Nat.le_refl _) _
      have hB8 := HB7.out.trans (hb8.mono HB7.out.size)
      have b4 := hbx.cell 4
      have ho8 := own_keep HO7.out hb8
      have HO8 := Lib.hid ho8
      have HB8 := Lib.hid hB8
      obtain ⟨i0, hi, hz0, hz1, hz2⟩ := info_parts cplx_info
      clear hw8 hg hbx hb8 hB8 q0 q1 q2 q3 q4 ho8
      go_wp2_with (at_builtin; refine wpList_append_any _ rfl _ _ 50 rfl w1.heap.size 25 i0 (.complex .f64 0 0) 1 16 Try.underlying50 hi hz0 hz1 hz2 rfl (by decide) _ k (((M.take k).map nd).map cv) rfl (HO8.out.alloc _) _ (some ⟨w8.heap.size, 0, none⟩) 1 1 [cv (nd x)] rfl (reads_newN w8 [cv (nd x)] 25 rfl) (by simp [Value.oneCell', cv]) (by simp only [maxLen]; omega) (by omega) (by have := HB8.out.size; simp; omega) ?_; intro v4 w4 hown4 hg4 hn4; obtain ⟨A4, c4', rfl, -, -⟩ := own_slice hown4)
      have hpb := push_below HB8.out HB8.out.size HO8.out _ hg4
      refine ⟨?_, by simp [intOf]; omega⟩
      refine Lib.hid ⟨k + 1, by simp, by omega, ?_, hpb, _, rfl⟩
      rw [HX.out.2, List.map_append, List.map_append]
      exact hown4
    · have e : M.take k = M := List.take_of_length_le (by have := HM.out; omega)
      have hro := Reads.of_own HO7.out
      rw [e] at hro
      have hS := Sum_any Ao k co (M.map nd) w7.heap.size w7 (Nat.le_refl _) hro (by omega) HS.out.1 HS.out.2
      have hbb := HB1.out.trans (HB7.out.mono HB1.out.size)
      have HBB := Lib.hid hbb
      clear hro hbb e
      go_wp2_with fail
      refine hS.mono ?_
      rintro e w9 ⟨rfl, hb9⟩
      have HB9 := Lib.hid (HBB.out.trans (hb9.mono HBB.out.size))
      clear hS hb9
      go_wp2_with fail
      go_ret
      exact ⟨rfl, HB9.out⟩
end Go.Proofs.Ytlljepgfecodoaa.Tk
