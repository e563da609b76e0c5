/- The crew's methods. -/
import Derived.Test.YtacmmkpcnpnjoaaCrew
namespace Go.Proofs.Ytacmmkpcnpnjoaa.Crw
open Go.Proofs.Ytacmmkpcnpnjoaa Go.ChangeShapes Go.WideShapes Go.ChangeAt Go.RowKit
set_option linter.unusedVariables false
set_option maxRecDepth 100000
theorem eK_bne0 : ∀ j k : Fin 9, j.val ≠ k.val → ((eK j.val).toList == (eK k.val).toList) = false := by decide +kernel
theorem eK_bne (j k : Nat) (hj : j < 9) (hk : k < 9) (h : j ≠ k) : ((eK j).toList == (eK k).toList) = false := eK_bne0 ⟨j, hj⟩ ⟨k, hk⟩ h
theorem own_some {w : World} {B : Nat} {e : TypeId} {z n c : Nat} {A : Option Addr} {xs : List Value} (h : w.ownsRow B e z (.slice A n c) n xs) (hn : 0 < n) : ∃ g, A = some ⟨g, 0, none⟩ := by
  rcases h.2 with ⟨h1, _⟩ | ⟨g, cap, cur, h1, _⟩
  · injection h1 with h1 h2 h3
    omega
  · injection h1 with h1 h2 h3
    exact ⟨g, h1⟩
theorem own_own_ne {w w2 : World} {B B' : Nat} {e e' : TypeId} {z z' n n' : Nat} {v v' : Value} {xs xs' : List Value} (h : w.ownsRow B e z v n xs) (h' : w2.ownsRow B' e' z' v' n' xs') (hne : e ≠ e') (heq : w2.heap = w.heap := by rfl) : v.ownBlock = none ∨ v.ownBlock ≠ v'.ownBlock := by
  rcases h.2 with ⟨rfl, _⟩ | ⟨g, cap, cur, rfl, _, hg, _⟩
  · exact .inl rfl
  · refine .inr ?_
    rcases h'.2 with ⟨rfl, _⟩ | ⟨g', cap', cur', rfl, _, hg', _⟩
    · simp [Value.ownBlock]
    · intro he
      have : g = g' := by simpa [Value.ownBlock] using he
      subst this
      rw [heq] at hg'
      exact Blk.ne_ (show Blk w g e cur from hg) (show Blk w g e' cur' from hg') hne rfl
theorem own_keep {w w' : World} {B : Nat} {e : TypeId} {z n : Nat} {v : Value} {xs : List Value} (h : w.ownsRow B e z v n xs) (hb : Below w.heap.size w w') : w'.ownsRow B e z v n xs := h.kept (only_of_below hb none) (Classical.em _)
theorem own_far {w : World} {B g i : Nat} {e t : TypeId} {z n : Nat} {v u : Value} {xs : List Value} {cs : Array Value} (h : w.ownsRow B e z v n xs) (hb : Blk w g t cs) (hne : e ≠ t) : (w.setCell ⟨g, i, none⟩ u).ownsRow B e z v n xs := by
  have h1 := own_blk_ne h hb hne
  refine ⟨h.1, ?_⟩
  rcases h.2 with h2 | ⟨k, cap, cur, e1, e2, e3, e4⟩
  · exact .inl h2
  · exact .inr ⟨k, cap, cur, e1, e2, (Below.heap_setCell _ _ _ _ (by intro e5; subst e5; exact h1 (by rw [e1]; rfl))).trans e3, e4⟩
section
variable {w w' : World} {B gc : Nat} {v : Value} {R : List Rn}
theorem CrL.cell {u n c : Nat} (h : CrL w B gc (.slice (some ⟨u, 0, none⟩) n c) R) {k : Nat} {r : Rn} (hk : R[k]? = some r) : w.cell? ⟨u, k, none⟩ = some (.pointer (some ⟨r.g, 0, none⟩)) := by
  have key : ((⟨u, 0, none⟩ : Addr).add k) = ⟨u, k, none⟩ := by unfold Addr.add; split <;> simp_all
  have h1 := h.row.cells rfl k (.pointer (some ⟨r.g, 0, none⟩)) (by rw [List.getElem?_map, hk]; rfl)
  rwa [key] at h1
/-- Another row grows. -/
theorem CrL.kept8 {vw : Value} {n B2 : Nat} {xs : List Value} (h : CrL w B gc v R) (hg : w.grownBy w' vw.ownBlock) (ho : w.ownsRow B2 3 1 vw n xs) : CrL w' B gc v R :=
  ⟨h.ge, h.blk.grown hg (fun e => own_blk_ne ho h.blk (by decide) e.symm), h.row.kept hg (own_own_ne h.row ho (by decide)), fun k r hk => (h.runs k r hk).grown hg (fun e => own_blk_ne ho (h.runs k r hk) (by decide) e.symm), h.base, h.apart, h.len⟩
/-- Where the executor stands: index, or -1. -/
def atI (R : List Rn) (k : Nat) : Int := if k < R.length then (k : Int) else -1
set_option maxHeartbeats 2000000 in
theorem At_k (k : Nat) (hk9 : k < 9) (h : CrL w B gc v R) :
    Calls Try.prog 59 #[.pointer (some ⟨gc, 0, none⟩), .string ⟨#[102]⟩, .string (eK k)] w fun e w' => e = .returned (.int .i64 (atI R k)) ∧ ∃ m, w' = w.drewN m := by
  obtain ⟨A, c, rfl, hc, _⟩ := own_slice h.row
  have h0 : w.cell? ⟨gc, 0, none⟩ = some (.slice A R.length c) := h.blk.cell 0
  have hl := h.len
  obtain ⟨N, hN⟩ : ∃ N, N = R.length := ⟨_, rfl⟩
  rw [← hN] at h0 hl hc
  have H := Lib.hid h
  have HN := Lib.hid hN
  have HK := Lib.hid hk9
  clear h hN hk9
  go_enter Try.func59, Try.ntmps59
  go_wp2
  go_loopw [17] (fun i wr => ∃ j m : Nat, j ≤ N ∧ i = .int .i64 j ∧ wr = w.drewN m ∧ Hid (j ≤ k)) (fun i _ => N - (intOf i).toNat)
  case atStart => exact ⟨0, 0, by omega, rfl, rfl, Lib.hid (by omega)⟩
  case round =>
    obtain ⟨j, m, hj, rfl, rfl, hjk⟩ := hrel
    by_cases hlt : j < N
    · obtain ⟨r, hr⟩ : ∃ r, R[j]? = some r := ⟨R[j]'(by have := HN.out; omega), List.getElem?_eq_getElem _⟩
      obtain ⟨u, rfl⟩ := own_some H.out.row (by have := HN.out; omega)
      have hcell : (w.drewN m).cell? ⟨u, j, none⟩ = some (.pointer (some ⟨r.g, 0, none⟩)) := H.out.cell hr
      have hW := Who_ok ((H.out.runs j r hr).drewN m)
      have hlti : (j : Int) < (N : Int) := by omega
      clear hr
      by_cases hjk2 : j = k
      · subst hjk2
        have hat : Hid (atI R j = (j : Int)) := Lib.hid (by unfold atI; rw [if_pos (by have := HN.out; omega)])
        go_wp2_with (go_at_call 32; refine hW.mono ?_; rintro e w2 ⟨rfl, kd, rfl⟩)
        go_ret
        rw [hat.out]
        exact ⟨rfl, m + kd, by first | rfl | rw [World.drewN_drewN]⟩
      · have hne : ((eK j).toList == (eK k).toList) = false := eK_bne j k (by omega) HK.out hjk2
        have hne2 : ¬ eK j = eK k := fun e => hjk2 (eK_inj j k (by omega) HK.out e)
        generalize eK j = ej at *
        generalize eK k = ek at *
        go_wp2_with (go_at_call 32; refine hW.mono ?_; rintro e w2 ⟨rfl, kd, rfl⟩)
        refine ⟨?_, by simp [intOf]; omega⟩
        exact ⟨j + 1, m + kd, by omega, by simp, by first | rfl | rw [World.drewN_drewN], Lib.hid (by have := hjk.out; omega)⟩
    · have hat : Hid (atI R k = -1) := Lib.hid (by unfold atI; rw [if_neg (by have := HN.out; have := hjk.out; omega)])
      go_wp2
      go_ret
      rw [hat.out]
      exact ⟨rfl, m, rfl⟩
set_option maxHeartbeats 2000000 in
theorem At_g (h : CrL w B gc v R) :
    Calls Try.prog 59 #[.pointer (some ⟨gc, 0, none⟩), .string ⟨#[103]⟩, .string ⟨#[101, 49]⟩] w fun r w' => r = .returned (.int .i64 (-1)) ∧ ∃ m, w' = w.drewN m := by
  obtain ⟨A, c, rfl, hc, _⟩ := own_slice h.row
  have h0 : w.cell? ⟨gc, 0, none⟩ = some (.slice A R.length c) := h.blk.cell 0
  have hl := h.len
  obtain ⟨N, hN⟩ : ∃ N, N = R.length := ⟨_, rfl⟩
  rw [← hN] at h0 hl hc
  have H := Lib.hid h
  have HN := Lib.hid hN
  clear h hN
  go_enter Try.func59, Try.ntmps59
  go_wp2
  go_loopw [17] (fun i wr => ∃ j m : Nat, j ≤ N ∧ i = .int .i64 j ∧ wr = w.drewN m) (fun i _ => N - (intOf i).toNat)
  case atStart => exact ⟨0, 0, by omega, rfl, rfl⟩
  case round =>
    obtain ⟨j, m, hj, rfl, rfl⟩ := hrel
    by_cases hlt : j < N
    · obtain ⟨r, hr⟩ : ∃ r, R[j]? = some r := ⟨R[j]'(by have := HN.out; omega), List.getElem?_eq_getElem _⟩
      obtain ⟨u, rfl⟩ := own_some H.out.row (by have := HN.out; omega)
      have hcell : (w.drewN m).cell? ⟨u, j, none⟩ = some (.pointer (some ⟨r.g, 0, none⟩)) := H.out.cell hr
      have hW := Who_ok ((H.out.runs j r hr).drewN m)
      have hlti : (j : Int) < (N : Int) := by omega
      generalize eK j = ej at *
      clear hr
      go_wp2_with (go_at_call 32; refine hW.mono ?_; rintro e w2 ⟨rfl, kd, rfl⟩)
      refine ⟨?_, by simp [intOf]; omega⟩
      exact ⟨j + 1, m + kd, by omega, by simp, by first | rfl | rw [World.drewN_drewN]⟩
    · go_wp2
      go_ret
      exact ⟨rfl, m, rfl⟩
theorem eK_none0 : ∀ k : Fin 9, ((eK k.val).toList == (⟨#[110, 111, 110, 101]⟩ : ByteArray).toList) = false ∧ ((eK k.val).toList == [110, 111, 110, 101]) = false := by decide +kernel
set_option maxHeartbeats 2000000 in
theorem At_none (h : CrL w B gc v R) :
    Calls Try.prog 59 #[.pointer (some ⟨gc, 0, none⟩), .string ⟨#[102]⟩, .string ⟨#[110, 111, 110, 101]⟩] w fun r w' => r = .returned (.int .i64 (-1)) ∧ ∃ m, w' = w.drewN m := by
  obtain ⟨A, c, rfl, hc, _⟩ := own_slice h.row
  have h0 : w.cell? ⟨gc, 0, none⟩ = some (.slice A R.length c) := h.blk.cell 0
  have hl := h.len
  obtain ⟨N, hN⟩ : ∃ N, N = R.length := ⟨_, rfl⟩
  rw [← hN] at h0 hl hc
  have H := Lib.hid h
  have HN := Lib.hid hN
  clear h hN
  go_enter Try.func59, Try.ntmps59
  go_wp2
  go_loopw [17] (fun i wr => ∃ j m : Nat, j ≤ N ∧ i = .int .i64 j ∧ wr = w.drewN m) (fun i _ => N - (intOf i).toNat)
  case atStart => exact ⟨0, 0, by omega, rfl, rfl⟩
  case round =>
    obtain ⟨j, m, hj, rfl, rfl⟩ := hrel
    by_cases hlt : j < N
    · obtain ⟨r, hr⟩ : ∃ r, R[j]? = some r := ⟨R[j]'(by have := HN.out; omega), List.getElem?_eq_getElem _⟩
      obtain ⟨u, rfl⟩ := own_some H.out.row (by have := HN.out; omega)
      have hcell : (w.drewN m).cell? ⟨u, j, none⟩ = some (.pointer (some ⟨r.g, 0, none⟩)) := H.out.cell hr
      have hW := Who_ok ((H.out.runs j r hr).drewN m)
      have hlti : (j : Int) < (N : Int) := by omega
      obtain ⟨hne, hne2⟩ := eK_none0 ⟨j, by omega⟩
      simp only at hne hne2
      generalize eK j = ej at *
      clear hr
      go_wp2_with (go_at_call 32; refine hW.mono ?_; rintro e w2 ⟨rfl, kd, rfl⟩)
      refine ⟨?_, by simp [intOf]; omega⟩
      exact ⟨j + 1, m + kd, by omega, by simp, by first | rfl | rw [World.drewN_drewN]⟩
    · go_wp2
      go_ret
      exact ⟨rfl, m, rfl⟩
set_option maxHeartbeats 2000000 in
theorem Find_g (h : CrL w B gc v R) :
    Calls Try.prog 33 #[.pointer (some ⟨gc, 0, none⟩), .string ⟨#[103]⟩, .string ⟨#[101, 49]⟩] w fun r w' => r = .returned (.pointer none) ∧ ∃ m, w' = w.drewN m := by
  have hA := At_g h
  clear h
  go_enter Try.func33, Try.ntmps33
  go_wp2_with (go_at_call 59; refine hA.mono ?_; rintro r w2 ⟨rfl, kd, rfl⟩)
  go_ret
  exact ⟨rfl, _, rfl⟩
set_option maxHeartbeats 2000000 in
theorem Drop_none (h : CrL w B gc v R) :
    Calls Try.prog 34 #[.pointer (some ⟨gc, 0, none⟩), .string ⟨#[102]⟩, .string ⟨#[110, 111, 110, 101]⟩] w fun r w' => r = .returned (.bool false) ∧ ∃ m, w' = w.drewN m := by
  have hA := At_none h
  clear h
  go_enter Try.func34, Try.ntmps34
  go_wp2_with (go_at_call 59; refine hA.mono ?_; rintro r w2 ⟨rfl, kd, rfl⟩)
  go_ret
  exact ⟨rfl, _, rfl⟩
/-- The pointer that Find tells. -/
def findV (R : List Rn) (k : Nat) : Value := match R[k]? with
  | some r => .pointer (some ⟨r.g, 0, none⟩)
  | none => .pointer none
set_option maxHeartbeats 2000000 in
theorem Find_k (k : Nat) (hk9 : k < 9) (h : CrL w B gc v R) :
    Calls Try.prog 33 #[.pointer (some ⟨gc, 0, none⟩), .string ⟨#[102]⟩, .string (eK k)] w fun e w' => e = .returned (findV R k) ∧ ∃ m, w' = w.drewN m := by
  have hA := At_k k hk9 h
  by_cases hlt : k < R.length
  · obtain ⟨r, hr⟩ : ∃ r, R[k]? = some r := ⟨R[k], List.getElem?_eq_getElem hlt⟩
    have hv : findV R k = .pointer (some ⟨r.g, 0, none⟩) := by unfold findV; rw [hr]
    have ha : atI R k = (k : Int) := by unfold atI; rw [if_pos hlt]
    rw [hv]
    rw [ha] at hA
    obtain ⟨A, c, rfl, hc, _⟩ := own_slice h.row
    obtain ⟨u, rfl⟩ := own_some h.row (by omega)
    have h0 : ∀ m, (w.drewN m).cell? ⟨gc, 0, none⟩ = some (.slice (some ⟨u, 0, none⟩) R.length c) := fun m => h.blk.cell 0
    have h1 : ∀ m, (w.drewN m).cell? ⟨u, k, none⟩ = some (.pointer (some ⟨r.g, 0, none⟩)) := fun m => h.cell hr
    have hki : (k : Int) < (R.length : Int) := by omega
    generalize eK k = e at *
    generalize R.length = N at *
    clear h hr
    go_enter Try.func33, Try.ntmps33
    go_wp2_with (go_at_call 59; refine hA.mono ?_; rintro r w2 ⟨rfl, kd, rfl⟩)
    go_ret
    exact ⟨rfl, _, rfl⟩
  · have hv : findV R k = .pointer none := by unfold findV; rw [List.getElem?_eq_none (by omega)]
    have ha : atI R k = -1 := by unfold atI; rw [if_neg hlt]
    rw [hv]
    rw [ha] at hA
    generalize eK k = e at *
    clear h
    go_enter Try.func33, Try.ntmps33
    go_wp2_with (go_at_call 59; refine hA.mono ?_; rintro r w2 ⟨rfl, kd, rfl⟩)
    go_ret
    exact ⟨rfl, _, rfl⟩
set_option maxHeartbeats 2000000 in
theorem Exact_k (k : Nat) (n : Int) (hk9 : k < 9) (h : CrL w B gc v R) :
    Calls Try.prog 28 #[.pointer (some ⟨gc, 0, none⟩), .string ⟨#[102]⟩, .string (eK k), .int .i64 n] w fun e w' => e = .returned (if n = (k : Int) + 1 then findV R k else .pointer none) ∧ ∃ m, w' = w.drewN m := by
  have hF := Find_k k hk9 h
  cases hr : R[k]? with
  | none =>
    have hv : findV R k = .pointer none := by unfold findV; rw [hr]
    rw [hv] at hF ⊢
    have hi : (if n = (k : Int) + 1 then Value.pointer none else Value.pointer none) = .pointer none := by split <;> rfl
    rw [hi]
    generalize eK k = e at *
    clear h
    go_enter Try.func28, Try.ntmps28
    go_wp2_with (go_at_call 33; refine hF.mono ?_; rintro r w2 ⟨rfl, kd, rfl⟩)
    go_ret
    exact ⟨rfl, _, rfl⟩
  | some r =>
    have hv : findV R k = .pointer (some ⟨r.g, 0, none⟩) := by unfold findV; rw [hr]
    rw [hv] at hF ⊢
    have hW := fun m => Who_ok ((h.runs k r hr).drewN m)
    generalize eK k = e at *
    clear h
    by_cases hn : n = (k : Int) + 1
    · subst hn
      rw [if_pos rfl]
      go_enter Try.func28, Try.ntmps28
      go_wp2_with (first | (go_at_call 33; refine hF.mono ?_; rintro r w2 ⟨rfl, kd, rfl⟩) | (go_at_call 32; refine (hW _).mono ?_; rintro e w2 ⟨rfl, kd2, rfl⟩))
      go_ret
      exact ⟨rfl, kd + kd2, by first | rfl | rw [World.drewN_drewN]⟩
    · rw [if_neg hn]
      have hb : ((k : Int) + 1 != n) = true := by simp; omega
      go_enter Try.func28, Try.ntmps28
      go_wp2_with (first | (go_at_call 33; refine hF.mono ?_; rintro r w2 ⟨rfl, kd, rfl⟩) | (go_at_call 32; refine (hW _).mono ?_; rintro e w2 ⟨rfl, kd2, rfl⟩))
      go_ret
      exact ⟨rfl, kd + kd2, by first | rfl | rw [World.drewN_drewN]⟩
theorem ptr_info : (Try.prog.info? 50).map (fun i => (i.zero, i.size, i.bytes)) = some (some (.pointer none), 1, 8) := by kernel_rfl
theorem one_cell_ptr (a : Option Addr) : ∀ u ∈ [Value.pointer a], u.oneCell' = true := by
  intro u hu; simp at hu; subst hu; rfl
set_option maxHeartbeats 4000000 in
theorem Add_ok (g : Nat) (h : CrL w B gc v R) (hr : Blk w g 124 (runC (eK R.length) ((R.length : Int) + 1) 0 false 0)) (hl9 : R.length < 9) (hg : B ≤ g) (hn : ∀ (k : Nat) (s : Rn), R[k]? = some s → s.g ≠ g) :
    Calls Try.prog 27 #[.pointer (some ⟨gc, 0, none⟩), .pointer (some ⟨g, 0, none⟩)] w fun e w' => e = .returned (.int .i64 0) ∧ ∃ v', CrL w' B gc v' (R ++ [⟨g, 0, false, 0⟩]) ∧ Below B w w' ∧ w.heap.size ≤ w'.heap.size ∧ ∀ (vw : Value) (n : Nat) (xs : List Value), w.ownsRow B 3 1 vw n xs → w'.ownsRow B 3 1 vw n xs := by
  obtain ⟨i0, hi, hz0, hz1, hz2⟩ := info_parts ptr_info
  have hW := Who_ok hr
  have hA := fun m => At_k R.length hl9 (h.drewN m)
  have ha : atI R R.length = -1 := by unfold atI; rw [if_neg (by omega)]
  rw [ha] at hA
  obtain ⟨A, c, rfl, hc, hcm⟩ := own_slice h.row
  have hsz := Nat.le_trans h.ge (Nat.le_of_lt h.blk.lt)
  have hge := h.ge
  have c0 : ∀ m, (w.drewN m).cell? ⟨gc, 0, none⟩ = some (.slice A R.length c) := fun m => h.blk.cell 0
  have HH := Lib.hid (And.intro h hr)
  have HN := Lib.hid hn
  generalize eK R.length = e at hW hA
  clear h hr hn ha
  go_enter Try.func27, Try.ntmps27
  go_wp2_with (first | (go_at_call 32; refine hW.mono ?_; rintro r w2 ⟨rfl, kd, rfl⟩) | (go_at_call 59; refine (hA _).mono ?_; rintro r w3 ⟨rfl, kd2, rfl⟩; have h5 := HH.out.1.drewN (kd + kd2); have r5 := HH.out.2.drewN (kd + kd2)) | (at_builtin; refine wpList_append_own _ rfl _ _ 56 rfl B 50 i0 (.pointer none) 1 8 Try.underlying56 hi hz0 hz1 hz2 rfl (by decide) _ _ _ rfl (h5.row.alloc _) ⟨w.heap.size, 0, none⟩ 1 1 [.pointer (some ⟨g, 0, none⟩)] rfl rfl (cell_one_new _ _ _) (one_cell_ptr _) (by simp only [maxLen]; omega) (by omega) (by simp; omega) ?_; intro v1 w1 hown1 hg1 _hne; clear _hne; obtain ⟨A9, c9, rfl, -, -⟩ := own_slice hown1; have hcb := (h5.blk.alloc _).grown hg1 (fun e => own_blk_ne h5.row h5.blk (by decide) e.symm); have d0 : w1.cell? ⟨gc, 0, none⟩ = some (.slice A R.length c) := hcb.cell 0; have df : w1.frozen? ⟨gc, 0, none⟩ = false := hcb.frozen 0; have hv1 := own_blk_ne hown1 hcb (by decide)))
  go_ret
  exact ⟨rfl, .slice A9 (R.length + 1) c9, h5.push ⟨g, 0, false, 0⟩ r5 hg HN.out hl9 _ hg1 hown1 hv1, (push_below (below_drewN (Below.refl _ _) (kd + kd2)) hsz h5.row _ hg1).setCell hge _, by have := hg1.size; simp at this ⊢; omega, fun vw n xs ho => own_far (((show (w.drewN (kd + kd2)).ownsRow B 3 1 vw n xs from ho).alloc _).kept hg1 (own_own_ne ho h5.row (by decide))) hcb (by decide)⟩
/-- Those that are late, with where they stand. -/
def lateR (now : Int) : List Rn → Nat → List (Nat × Nat)
  | [], _ => []
  | r :: R, k => if (r.tm && decide (r.du ≤ now)) = true then (k, r.g) :: lateR now R (k + 1) else lateR now R (k + 1)
theorem lateR_snoc (now : Int) (r : Rn) : ∀ (R : List Rn) (k : Nat), lateR now (R ++ [r]) k = lateR now R k ++ (if (r.tm && decide (r.du ≤ now)) = true then [(k + R.length, r.g)] else [])
  | [], k => by simp [lateR]
  | s :: R, k => by
    have ih := lateR_snoc now r R (k + 1)
    have e : k + 1 + R.length = k + (s :: R).length := by simp; omega
    rw [e] at ih
    simp only [List.cons_append, lateR, ih]
    split <;> simp
theorem lateR_len (now : Int) : ∀ (R : List Rn) (k : Nat), (lateR now R k).length ≤ R.length
  | [], k => by simp [lateR]
  | s :: R, k => by
    have := lateR_len now R (k + 1)
    simp only [lateR]
    split <;> simp <;> omega
theorem lateR_mem (now : Int) : ∀ (R : List Rn) (k i g : Nat), (i, g) ∈ lateR now R k → k ≤ i ∧ ∃ r, R[i - k]? = some r ∧ r.g = g
  | [], k, i, g, h => by simp [lateR] at h
  | s :: R, k, i, g, h => by
    have key : (i, g) ∈ lateR now R (k + 1) → k ≤ i ∧ ∃ r, (s :: R)[i - k]? = some r ∧ r.g = g := fun h => by
      obtain ⟨h1, r, h2, h3⟩ := lateR_mem now R (k + 1) i g h
      refine ⟨by omega, r, ?_, h3⟩
      rw [show i - k = (i - (k + 1)) + 1 by omega]
      simpa using h2
    simp only [lateR] at h
    split at h
    · rcases List.mem_cons.1 h with h | h
      · injection h with h1 h2
        subst h1 h2
        exact ⟨Nat.le_refl _, s, by simp, rfl⟩
      · exact key h
    · exact key h
def latV (l : List (Nat × Nat)) : List Value := l.map fun q => Value.pointer (some ⟨q.2, 0, none⟩)
set_option maxHeartbeats 4000000 in
theorem CLate_ok (now : Int) (h : CrL w B gc v R) :
    Calls Try.prog 31 #[.pointer (some ⟨gc, 0, none⟩), .int .i64 now] w fun e w' => ∃ v', e = .returned v' ∧ w'.ownsRow w.heap.size 50 1 v' (lateR now R 0).length (latV (lateR now R 0)) ∧ Below w.heap.size w w' := by
  obtain ⟨i0, hi, hz0, hz1, hz2⟩ := info_parts ptr_info
  obtain ⟨A, c, rfl, hc, hcm⟩ := own_slice h.row
  have h0 : w.cell? ⟨gc, 0, none⟩ = some (.slice A R.length c) := h.blk.cell 0
  have hl := h.len
  obtain ⟨N, hN⟩ : ∃ N, N = R.length := ⟨_, rfl⟩
  rw [← hN] at h0 hl hc
  have H := Lib.hid h
  have HN := Lib.hid hN
  clear h hN
  go_enter Try.func31, Try.ntmps31
  go_wp2
  go_loopw [5, 13] (fun vl i wr => Hid (∃ j : Nat, j ≤ N ∧ i = .int .i64 j ∧ wr.ownsRow w.heap.size 50 1 vl (lateR now (R.take j) 0).length (latV (lateR now (R.take j) 0)) ∧ Below w.heap.size w wr)) (fun _ i _ => N - (intOf i).toNat)
  case atStart => exact Lib.hid ⟨0, by omega, rfl, ⟨by simp [lateR, latV], .inl ⟨rfl, rfl⟩⟩, Below.refl _ _⟩
  case round =>
    obtain ⟨j, hj, rfl, ho, hb⟩ := hrel.out
    clear hrel
    by_cases hlt : j < N
    · obtain ⟨r, hr⟩ : ∃ r, R[j]? = some r := ⟨R[j]'(by have := HN.out; omega), List.getElem?_eq_getElem _⟩
      obtain ⟨u, rfl⟩ := own_some H.out.row (by have := HN.out; omega)
      have hC := H.out.below hb
      have hcell : wr.cell? ⟨u, j, none⟩ = some (.pointer (some ⟨r.g, 0, none⟩)) := hC.cell hr
      have hL := RLate_ok now (hC.runs j r hr)
      have hlti : (j : Int) < (N : Int) := by omega
      have hsz := hb.size
      have hls := lateR_len now (R.take j) 0
      have hll : (lateR now (R.take j) 0).length ≤ 9 := by rw [List.length_take] at hls; omega
      have htk : R.take (j + 1) = R.take j ++ [r] := by rw [List.take_add_one, hr]; rfl
      have hsn := lateR_snoc now r (R.take j) 0
      rw [← htk] at hsn
      have htl : (R.take j).length = j := by rw [List.length_take]; have := HN.out; omega
      rw [htl] at hsn
      have HS := Lib.hid hsn
      have HOB := Lib.hid (And.intro ho hb)
      clear hr hls htk hsn htl hC ho hb
      cases hlate : (r.tm && decide (r.du ≤ now)) with
      | true =>
        rw [hlate] at hL
        have HE := Lib.hid (HS.out.trans (by rw [if_pos hlate]))
        clear hlate HS
        have ho := HOB.out.1
        generalize lateR now (R.take j) 0 = L at *
        go_wp2_with (first | (go_at_call 37; refine hL.mono ?_; rintro r w2 ⟨rfl, rfl⟩) | (at_builtin; refine wpList_append_own _ rfl _ _ 56 rfl w.heap.size 50 i0 (.pointer none) 1 8 Try.underlying56 hi hz0 hz1 hz2 rfl (by decide) _ _ _ rfl (ho.alloc _) ⟨wr.heap.size, 0, none⟩ 1 1 [.pointer (some ⟨r.g, 0, none⟩)] rfl rfl (cell_one_new _ _ _) (one_cell_ptr _) (by simp only [maxLen]; omega) (by omega) (by simp; omega) ?_; intro v1 w1 hown1 hg1 _hne; have hb1 := push_below HOB.out.2 hsz ho _ hg1; clear hg1 _hne))
        refine ⟨?_, by simp [intOf]; omega⟩
        refine Lib.hid ⟨j + 1, by omega, by simp, ?_, hb1⟩
        rw [HE.out]
        simpa [latV] using hown1
      | false =>
        rw [hlate] at hL
        have HE := Lib.hid (HS.out.trans (by rw [if_neg (by rw [hlate]; decide), List.append_nil]))
        clear hlate HS
        go_wp2_with (go_at_call 37; refine hL.mono ?_; rintro r w2 ⟨rfl, rfl⟩)
        refine ⟨?_, by simp [intOf]; omega⟩
        refine Lib.hid ⟨j + 1, by omega, by simp, ?_, HOB.out.2⟩
        rw [HE.out]
        exact HOB.out.1
    · have hjN : R.take j = R := List.take_of_length_le (by have := HN.out; omega)
      rw [hjN] at ho
      go_wp2
      go_ret
      exact ⟨_, rfl, ho, hb⟩
end
end Go.Proofs.Ytacmmkpcnpnjoaa.Crw
