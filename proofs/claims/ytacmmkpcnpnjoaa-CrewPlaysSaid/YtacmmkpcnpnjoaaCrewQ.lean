/- The crew's methods, for CrewPlays. -/
import Derived.Test.YtacmmkpcnpnjoaaCrewP
import Derived.Lib.Builder
namespace Go.Proofs.Ytacmmkpcnpnjoaa.Crp
open Go.Proofs.Ytacmmkpcnpnjoaa Go.Proofs.Ytacmmkpcnpnjoaa.Crw Go.ChangeShapes Go.WideShapes Go.ChangeAt Go.RowKit
set_option linter.unusedVariables false
set_option maxRecDepth 100000
theorem ptrs_one (R : List Rp) : ∀ u ∈ ptrs R, u.oneCell' = true := by
  intro u hu
  obtain ⟨x, _, rfl⟩ := List.mem_map.1 hu
  rfl
section
variable {w w' : World} {B gc : Nat} {v : Value} {R : List Rp} {f e : ByteArray}
set_option maxHeartbeats 2000000 in
theorem Find_yes {k : Nat} {s : Rp} (hk : R[k]? = some s) (hh : hit f e s = true) (hu : ∀ (j : Nat) (r : Rp), R[j]? = some r → hit f e r = true → j = k) (h : CrP w B gc v R) :
    Calls Try.prog 33 #[.pointer (some ⟨gc, 0, none⟩), .string f, .string e] w fun e w' => e = .returned (.pointer (some ⟨s.g, 0, none⟩)) ∧ ∃ m, w' = w.drewN m := by
  have hA := At_yes hk hh hu h
  have hlt := (List.getElem?_eq_some_iff.1 hk).1
  obtain ⟨A, c, rfl, hc, _⟩ := own_slice h.row
  obtain ⟨u, rfl⟩ := own_some h.row (by omega)
  have h0 : ∀ m, (w.drewN m).cell? ⟨gc, 0, none⟩ = some (.slice (some ⟨u, 0, none⟩) R.length c) := fun m => h.blk.cell 0
  have h1 : ∀ m, (w.drewN m).cell? ⟨u, k, none⟩ = some (.pointer (some ⟨s.g, 0, none⟩)) := fun m => h.cell hk
  have hki : (k : Int) < (R.length : Int) := by omega
  clear hk hh hu h
  generalize R.length = N at *
  generalize s.g = sg at *
  go_enter Try.func33, Try.ntmps33
  go_wp2_with (go_at_call 59; refine hA.mono ?_; rintro r w2 ⟨rfl, kd, rfl⟩)
  go_ret
  exact ⟨rfl, _, rfl⟩
set_option maxHeartbeats 2000000 in
theorem Find_no (hu : ∀ (j : Nat) (r : Rp), R[j]? = some r → hit f e r = false) (h : CrP w B gc v R) :
    Calls Try.prog 33 #[.pointer (some ⟨gc, 0, none⟩), .string f, .string e] w fun e w' => e = .returned (.pointer none) ∧ ∃ m, w' = w.drewN m := by
  have hA := At_no hu h
  clear h hu
  go_enter Try.func33, Try.ntmps33
  go_wp2_with (go_at_call 59; refine hA.mono ?_; rintro r w2 ⟨rfl, kd, rfl⟩)
  go_ret
  exact ⟨rfl, _, rfl⟩
set_option maxHeartbeats 2000000 in
theorem Exact_no (n : Int) (hu : ∀ (j : Nat) (r : Rp), R[j]? = some r → hit f e r = false) (h : CrP w B gc v R) :
    Calls Try.prog 28 #[.pointer (some ⟨gc, 0, none⟩), .string f, .string e, .int .i64 n] w fun e w' => e = .returned (.pointer none) ∧ ∃ m, w' = w.drewN m := by
  have hF := Find_no hu h
  clear h hu
  go_enter Try.func28, Try.ntmps28
  go_wp2_with (go_at_call 33; refine hF.mono ?_; rintro r w2 ⟨rfl, kd, rfl⟩)
  go_ret
  exact ⟨rfl, _, rfl⟩
set_option maxHeartbeats 2000000 in
theorem Exact_yes {k : Nat} {s : Rp} (n : Int) (hk : R[k]? = some s) (hh : hit f e s = true) (hu : ∀ (j : Nat) (r : Rp), R[j]? = some r → hit f e r = true → j = k) (h : CrP w B gc v R) :
    Calls Try.prog 28 #[.pointer (some ⟨gc, 0, none⟩), .string f, .string e, .int .i64 n] w fun e w' => e = .returned (.pointer (if s.n = n then some ⟨s.g, 0, none⟩ else none)) ∧ ∃ m, w' = w.drewN m := by
  have hF := Find_yes hk hh hu h
  have hW := fun m => Who_p ((h.runs k s hk).drewN m)
  clear h hk hh hu
  obtain ⟨sf, se, sn, sg, sp, st, sd⟩ := s
  simp only at hF hW ⊢
  by_cases hn : sn = n
  · subst hn
    rw [if_pos rfl]
    go_enter Try.func28, Try.ntmps28
    go_wp2_with (first | (go_at_call 33; refine hF.mono ?_; rintro r w2 ⟨rfl, kd, rfl⟩) | (go_at_call 32; refine (hW _).mono ?_; rintro e w2 ⟨rfl, kd2, rfl⟩))
    go_ret
    exact ⟨rfl, kd + kd2, by first | rfl | rw [World.drewN_drewN]⟩
  · rw [if_neg hn]
    have hb : (sn != n) = true := by simpa using hn
    go_enter Try.func28, Try.ntmps28
    go_wp2_with (first | (go_at_call 33; refine hF.mono ?_; rintro r w2 ⟨rfl, kd, rfl⟩) | (go_at_call 32; refine (hW _).mono ?_; rintro e w2 ⟨rfl, kd2, rfl⟩))
    go_ret
    exact ⟨rfl, kd + kd2, by first | rfl | rw [World.drewN_drewN]⟩
set_option maxHeartbeats 4000000 in
theorem CloneR {c : Nat} {A : Option Addr} (w : World) (h : w.ownsRow B 50 1 (.slice A R.length c) R.length (ptrs R)) (hl : R.length ≤ 1000) :
    Calls Try.prog 62 #[.slice A R.length c] w fun e w' => ∃ v', e = .returned v' ∧ w'.ownsRow w.heap.size 50 1 v' R.length (ptrs R) ∧ Below w.heap.size w w' := by
  obtain ⟨i0, hi, hz0, hz1, hz2⟩ := info_parts ptr_info
  have hR := Reads.of_own h
  cases A with
  | none =>
    have hl0 : R.length = 0 := by
      rcases Nat.eq_zero_or_pos R.length with e | e
      · exact e
      · obtain ⟨ad, h, _⟩ := hR.2 e; cases h
    have heq : ∀ w1, (binOp .eql 56 (.slice none R.length c) (.slice none 0 0)).run Try.prog w1 = .ok (.bool true) w1 := fun w1 => Lib.run_eql_slice_nil w1 56 50 none R.length c 0 0 Try.underlying56
    have hv := h.1
    rw [hl0] at *
    go_enter Try.func62, Try.ntmps62
    go_wp2
    go_ret
    exact ⟨_, rfl, ⟨hv, .inl ⟨rfl, rfl⟩⟩, Below.refl _ _⟩
  | some ad =>
    have heq : ∀ w1, (binOp .eql 56 (.slice (some ad) R.length c) (.slice none 0 0)).run Try.prog w1 = .ok (.bool false) w1 := fun w1 => Lib.run_eql_slice_nil w1 56 50 (some ad) R.length c 0 0 Try.underlying56
    have HR := Lib.hid hR
    have HV := Lib.hid (ptrs_one R)
    clear h hR
    go_enter Try.func62, Try.ntmps62
    go_wp2_with (first | (at_builtin; go_must (refine wpList_append_any _ rfl _ _ 56 rfl w.heap.size 50 i0 (.pointer none) 1 8 Try.underlying56 hi hz0 hz1 hz2 rfl (by decide) _ 0 [] rfl ⟨by simp, .inr ⟨w.heap.size, 0, #[], rfl, Nat.le_refl _, heap_alloc_new w _, Nat.le_refl _, by decide, rfl, rfl⟩⟩ w.heap.size (some ad) R.length c (ptrs R) rfl (HR.out.alloc (Nat.le_refl _) _) HV.out (by simp only [maxLen]; omega) (by omega) (by simp) ?_); intro v1 w1 hown1 hg1 _hne; clear _hne; rw [Nat.zero_add, List.nil_append] at hown1))
    go_ret
    exact ⟨v1, rfl, hown1, ((Below.refl w.heap.size w).alloc (Nat.le_refl _) _).grown hg1 (by simp) (fun k hk => by injection hk with hk; subst hk; exact Nat.le_refl _)⟩
set_option maxHeartbeats 4000000 in
theorem All_p (h : CrP w B gc v R) :
    Calls Try.prog 36 #[.pointer (some ⟨gc, 0, none⟩)] w fun e w' => ∃ v', e = .returned v' ∧ w'.ownsRow w.heap.size 50 1 v' R.length (ptrs R) ∧ Below w.heap.size w w' := by
  obtain ⟨A, c, rfl, hc, _⟩ := own_slice h.row
  have h0 : w.cell? ⟨gc, 0, none⟩ = some (.slice A R.length c) := h.blk.cell 0
  have hC := CloneR w h.row (by have := h.len; omega)
  clear h
  go_enter Try.func36, Try.ntmps36
  go_wp2_with (go_at_call 62; refine hC.mono ?_; rintro r w2 ⟨v', rfl, ho, hb⟩)
  go_ret
  exact ⟨_, rfl, ho, hb⟩
/-- One more run. -/
theorem CrP.push {w1 : World} {v1 : Value} (h : CrP w B gc v R) (r : Rp) (hr : Blk w r.g 124 (rpC r)) (hb : B ≤ r.g) (hn : ∀ (k : Nat) (s : Rp), R[k]? = some s → s.g ≠ r.g) (hu : ∀ (k : Nat) (s : Rp), R[k]? = some s → hit r.f r.e s = false) (hl : R.length < 24) (o : Obj) (hg : (w.alloc o).grownBy w1 v.ownBlock)
    (ho : w1.ownsRow B 50 1 v1 (R.length + 1) (ptrs R ++ [Value.pointer (some ⟨r.g, 0, none⟩)])) (h1 : v1.ownBlock ≠ some gc) : CrP (w1.setCell ⟨gc, 0, none⟩ v1) B gc v1 (R ++ [r]) := by
  have hrow := h.row
  have hu2 : ∀ (k : Nat) (s : Rp), R[k]? = some s → hit s.f s.e r = false := fun k s hk => by
    have := hu k s hk
    unfold hit at this ⊢
    rw [Bool.eq_false_iff] at this ⊢
    intro e
    apply this
    simp only [Bool.and_eq_true, beq_iff_eq] at e ⊢
    exact ⟨e.1.symm, e.2.symm⟩
  have hap : ∀ k s, (R ++ [r])[k]? = some s → (R[k]? = some s) ∨ (k = R.length ∧ s = r) := fun k s hk => by
    rw [List.getElem?_append] at hk
    split at hk
    · exact .inl hk
    · rename_i hkl
      right
      have : k - R.length = 0 := by
        have := (List.getElem?_eq_some_iff.1 hk).1
        simp at this; omega
      rw [this] at hk
      simp at hk
      exact ⟨by omega, hk.symm⟩
  have hbk : ∀ {g : Nat} {cs : Array Value}, Blk w g 124 cs → Blk (w1.setCell ⟨gc, 0, none⟩ v1) g 124 cs := fun {g cs} hb => by
    have hne : gc ≠ g := h.blk.ne_ hb (by decide)
    exact ((hb.alloc o).grown hg (fun e => own_blk_ne hrow hb (by decide) e.symm)).far (fun e => hne e.symm) _
  have hcb : Blk w1 gc 122 #[v] := (h.blk.alloc o).grown hg (fun e => own_blk_ne hrow h.blk (by decide) e.symm)
  refine ⟨h.ge, hcb.set_ 0 v1, ?_, ?_, ?_, ?_, ?_, by simp; omega⟩
  · have e : ptrs (R ++ [r]) = ptrs R ++ [Value.pointer (some ⟨r.g, 0, none⟩)] := by simp [ptrs]
    rw [e, List.length_append, List.length_singleton]
    refine ⟨ho.1, ?_⟩
    rcases ho.2 with h2 | ⟨u, cap, cur, e1, e2, e3, e4⟩
    · exact .inl h2
    · exact .inr ⟨u, cap, cur, e1, e2, (Below.heap_setCell _ _ _ _ (by intro e5; subst e5; exact h1 (by rw [e1]; rfl))).trans e3, e4⟩
  · intro k s hk
    rcases hap k s hk with h2 | ⟨rfl, rfl⟩
    · exact hbk (h.runs k s h2)
    · exact hbk hr
  · intro k s hk
    rcases hap k s hk with h2 | ⟨rfl, rfl⟩
    · exact h.base k s h2
    · exact hb
  · intro i j s t hi hj e
    rcases hap i s hi with h2 | ⟨rfl, rfl⟩ <;> rcases hap j t hj with h3 | ⟨rfl, rfl⟩
    · exact h.uniq i j s t h2 h3 e
    · have := hu i s h2; rw [this] at e; cases e
    · have := hu2 j t h3; rw [this] at e; cases e
    · rfl
  · intro i j s t hi hj e
    rcases hap i s hi with h2 | ⟨rfl, rfl⟩ <;> rcases hap j t hj with h3 | ⟨rfl, rfl⟩
    · exact h.apart i j s t h2 h3 e
    · exact absurd e (hn i s h2)
    · exact absurd e.symm (hn j t h3)
    · rfl
set_option maxHeartbeats 4000000 in
theorem Add_there {k : Nat} {s : Rp} (r : Rp) (hk : R[k]? = some s) (hh : hit r.f r.e s = true) (hu : ∀ (j : Nat) (t : Rp), R[j]? = some t → hit r.f r.e t = true → j = k) (h : CrP w B gc v R) (hr : Blk w r.g 124 (rpC r)) :
    Calls Try.prog 27 #[.pointer (some ⟨gc, 0, none⟩), .pointer (some ⟨r.g, 0, none⟩)] w fun e w' => e = .returned (.int .i64 4) ∧ ∃ m, w' = w.drewN m := by
  have hW := Who_p hr
  have hA := fun m => At_yes hk hh hu (h.drewN m)
  clear h hr hk hh hu
  obtain ⟨sf, se, sn, sg, sp, st, sd⟩ := r
  simp only at hW hA ⊢
  go_enter Try.func27, Try.ntmps27
  go_wp2_with (first | (go_at_call 32; refine hW.mono ?_; rintro r w2 ⟨rfl, kd, rfl⟩) | (go_at_call 59; refine (hA _).mono ?_; rintro r w3 ⟨rfl, kd2, rfl⟩))
  go_ret
  exact ⟨rfl, kd + kd2, by first | rfl | rw [World.drewN_drewN]⟩
set_option maxHeartbeats 4000000 in
theorem Add_new (r : Rp) (h : CrP w B gc v R) (hr : Blk w r.g 124 (rpC r)) (hu : ∀ (k : Nat) (s : Rp), R[k]? = some s → hit r.f r.e s = false) (hl9 : R.length < 24) (hg : B ≤ r.g) (hn : ∀ (k : Nat) (s : Rp), R[k]? = some s → s.g ≠ r.g) :
    Calls Try.prog 27 #[.pointer (some ⟨gc, 0, none⟩), .pointer (some ⟨r.g, 0, none⟩)] w fun e w' => e = .returned (.int .i64 0) ∧ ∃ v', CrP w' B gc v' (R ++ [r]) ∧ Below B w w' ∧ w.heap.size ≤ w'.heap.size ∧ ∀ (t : TypeId) (z : Nat) (vw : Value) (n : Nat) (xs : List Value), t ≠ 50 → t ≠ 122 → w.ownsRow B t z vw n xs → w'.ownsRow B t z vw n xs := by
  obtain ⟨i0, hi, hz0, hz1, hz2⟩ := info_parts ptr_info
  have hW := Who_p hr
  have hA := fun m => At_no hu (h.drewN m)
  obtain ⟨A, c, rfl, hc, hcm⟩ := own_slice h.row
  have hsz := Nat.le_trans h.ge (Nat.le_of_lt h.blk.lt)
  have hge := h.ge
  have c0 : ∀ m, (w.drewN m).cell? ⟨gc, 0, none⟩ = some (.slice A R.length c) := fun m => h.blk.cell 0
  have HH := Lib.hid (And.intro h hr)
  have HN := Lib.hid (And.intro hn hu)
  have HP := Lib.hid (fun (m : Nat) o w1 v1 x1 x2 x3 => (h.drewN m).push (w1 := w1) (v1 := v1) r (hr.drewN m) hg hn hu hl9 o x1 x2 x3)
  clear h hr hn hu
  obtain ⟨sf, se, sn, sg, sp, st, sd⟩ := r
  simp only at hW hA hg ⊢
  go_enter Try.func27, Try.ntmps27
  go_wp2_with (first | (go_at_call 32; refine hW.mono ?_; rintro r w2 ⟨rfl, kd, rfl⟩) | (go_at_call 59; refine (hA _).mono ?_; rintro r w3 ⟨rfl, kd2, rfl⟩; have h5 := HH.out.1.drewN (kd + kd2); have r5 := HH.out.2.drewN (kd + kd2)) | (at_builtin; refine wpList_append_own _ rfl _ _ 56 rfl B 50 i0 (.pointer none) 1 8 Try.underlying56 hi hz0 hz1 hz2 rfl (by decide) _ _ _ rfl (h5.row.alloc _) ⟨w.heap.size, 0, none⟩ 1 1 [.pointer (some ⟨sg, 0, none⟩)] rfl rfl (cell_one_new _ _ _) (one_cell_ptr _) (by simp only [maxLen]; omega) (by omega) (by simp; omega) ?_; intro v1 w1 hown1 hg1 _hne; clear _hne; obtain ⟨A9, c9, rfl, -, -⟩ := own_slice hown1; have hcb := (h5.blk.alloc _).grown hg1 (fun e => own_blk_ne h5.row h5.blk (by decide) e.symm); have d0 : w1.cell? ⟨gc, 0, none⟩ = some (.slice A R.length c) := hcb.cell 0; have df : w1.frozen? ⟨gc, 0, none⟩ = false := hcb.frozen 0; have hv1 := own_blk_ne hown1 hcb (by decide)))
  go_ret
  exact ⟨rfl, .slice A9 (R.length + 1) c9, HP.out (kd + kd2) _ _ _ hg1 hown1 hv1, (push_below (below_drewN (Below.refl _ _) (kd + kd2)) hsz h5.row _ hg1).setCell hge _, by have := hg1.size; simp at this ⊢; omega, fun t z vw n xs ht1 ht2 ho => own_far (((show (w.drewN (kd + kd2)).ownsRow B t z vw n xs from ho).alloc _).kept hg1 (own_own_ne ho h5.row ht1)) hcb ht2⟩
/-- Those that are late. -/
def lateP (now : Int) (R : List Rp) : List Rp := R.filter fun r => r.tm && decide (r.du ≤ now)
set_option maxHeartbeats 4000000 in
theorem CLate_p (now : Int) (h : CrP w B gc v R) :
    Calls Try.prog 31 #[.pointer (some ⟨gc, 0, none⟩), .int .i64 now] w fun e w' => ∃ v', e = .returned v' ∧ w'.ownsRow w.heap.size 50 1 v' (lateP now R).length (ptrs (lateP now R)) ∧ Below w.heap.size w w' := by
  obtain ⟨i0, hi, hz0, hz1, hz2⟩ := info_parts ptr_info
  obtain ⟨A, c, rfl, hc, hcm⟩ := own_slice h.row
  have h0 : w.cell? ⟨gc, 0, none⟩ = some (.slice A R.length c) := h.blk.cell 0
  have hl := h.len
  obtain ⟨N, hN⟩ : ∃ N, N = R.length := ⟨_, rfl⟩
  rw [← hN] at h0 hl hc
  have H := Lib.hid h
  have HN := Lib.hid hN
  clear h hN
  go_enter Try.func31, Try.ntmps31
  go_wp2
  go_loopw [5, 13] (fun vl i wr => Hid (∃ j : Nat, j ≤ N ∧ i = .int .i64 j ∧ wr.ownsRow w.heap.size 50 1 vl (lateP now (R.take j)).length (ptrs (lateP now (R.take j))) ∧ Below w.heap.size w wr)) (fun _ i _ => N - (intOf i).toNat)
  case atStart => exact Lib.hid ⟨0, by omega, rfl, ⟨by simp [lateP], .inl ⟨rfl, rfl⟩⟩, Below.refl _ _⟩
  case round =>
    obtain ⟨j, hj, rfl, ho, hb⟩ := hrel.out
    clear hrel
    by_cases hlt : j < N
    · obtain ⟨r, hr⟩ : ∃ r, R[j]? = some r := ⟨R[j]'(by have := HN.out; omega), List.getElem?_eq_getElem _⟩
      obtain ⟨u, rfl⟩ := own_some H.out.row (by have := HN.out; omega)
      have hC := H.out.below hb
      have hcell : wr.cell? ⟨u, j, none⟩ = some (.pointer (some ⟨r.g, 0, none⟩)) := hC.cell hr
      have hL := RLate_p now (hC.runs j r hr)
      have hlti : (j : Int) < (N : Int) := by omega
      have hsz := hb.size
      have hll : (lateP now (R.take j)).length ≤ 24 := by
        have := List.length_filter_le (fun r : Rp => r.tm && decide (r.du ≤ now)) (R.take j)
        rw [List.length_take] at this
        unfold lateP
        omega
      have htk : R.take (j + 1) = R.take j ++ [r] := by rw [List.take_add_one, hr]; rfl
      have HS := Lib.hid (show lateP now (R.take (j + 1)) = lateP now (R.take j) ++ (if (r.tm && decide (r.du ≤ now)) = true then [r] else []) by
        rw [htk]
        unfold lateP
        rw [List.filter_append]
        congr 1
        by_cases h : (r.tm && decide (r.du ≤ now)) = true
        · rw [if_pos h]; simp only [List.filter_cons, h, if_true, List.filter_nil]
        · rw [if_neg h]; simp only [List.filter_cons, h, List.filter_nil]; simp)
      have HOB := Lib.hid (And.intro ho hb)
      clear hr htk hC ho hb
      cases hlate : (r.tm && decide (r.du ≤ now)) with
      | true =>
        rw [hlate] at hL
        have HE := Lib.hid (HS.out.trans (by rw [if_pos hlate]))
        clear hlate HS
        have ho := HOB.out.1
        generalize lateP now (R.take j) = L at *
        go_wp2_with (first | (go_at_call 37; refine hL.mono ?_; rintro r w2 ⟨rfl, rfl⟩) | (at_builtin; refine wpList_append_own _ rfl _ _ 56 rfl w.heap.size 50 i0 (.pointer none) 1 8 Try.underlying56 hi hz0 hz1 hz2 rfl (by decide) _ _ _ rfl (ho.alloc _) ⟨wr.heap.size, 0, none⟩ 1 1 [.pointer (some ⟨r.g, 0, none⟩)] rfl rfl (cell_one_new _ _ _) (one_cell_ptr _) (by simp only [maxLen]; omega) (by omega) (by simp; omega) ?_; intro v1 w1 hown1 hg1 _hne; have hb1 := push_below HOB.out.2 hsz ho _ hg1; clear hg1 _hne))
        refine ⟨?_, by simp [intOf]; omega⟩
        refine Lib.hid ⟨j + 1, by omega, by simp, ?_, hb1⟩
        rw [HE.out]
        simpa [ptrs] using hown1
      | false =>
        rw [hlate] at hL
        have HE := Lib.hid (HS.out.trans (by rw [if_neg (by rw [hlate]; decide), List.append_nil]))
        clear hlate HS
        go_wp2_with (go_at_call 37; refine hL.mono ?_; rintro r w2 ⟨rfl, rfl⟩)
        refine ⟨?_, by simp [intOf]; omega⟩
        refine Lib.hid ⟨j + 1, by omega, by simp, ?_, HOB.out.2⟩
        rw [HE.out]
        exact HOB.out.1
    · have hjN : R.take j = R := List.take_of_length_le (by have := HN.out; omega)
      rw [hjN] at ho
      go_wp2
      go_ret
      exact ⟨_, rfl, ho, hb⟩
end
end Go.Proofs.Ytacmmkpcnpnjoaa.Crp
