/- Runs of any name, and their crew, in memory: contracts for CrewPlays. -/
import Derived.Test.YtacmmkpcnpnjoaaCrewM
namespace Go.Proofs.Ytacmmkpcnpnjoaa.Crp
open Go.Proofs.Ytacmmkpcnpnjoaa Go.Proofs.Ytacmmkpcnpnjoaa.Crw Go.ChangeShapes Go.WideShapes Go.ChangeAt Go.RowKit
set_option linter.unusedVariables false
set_option maxRecDepth 100000
structure Rp where
  f : ByteArray
  e : ByteArray
  n : Int
  g : Nat
  ph : Int
  tm : Bool
  du : Int
abbrev rpC (r : Rp) : Array Value := #[.string r.f, .string r.e, .int .i64 r.n, .int .i64 r.ph, .bool r.tm, .int .i64 r.du]
section
variable {w : World} {f e : ByteArray} {n ph du : Int} {g : Nat} {tm : Bool}
set_option maxHeartbeats 1000000 in
theorem Who_p (h : Blk w g 124 #[.string f, .string e, .int .i64 n, .int .i64 ph, .bool tm, .int .i64 du]) :
    Calls Try.prog 32 #[.pointer (some ⟨g, 0, none⟩)] w fun r w' => r = .returned (.tuple #[.string f, .string e, .int .i64 n]) ∧ ∃ k, w' = w.drewN k := by
  have h0 : w.cell? ⟨g, 0, none⟩ = some (.string f) := h.cell 0
  have h1 : w.cell? ⟨g, 1, none⟩ = some (.string e) := h.cell 1
  have h2 : w.cell? ⟨g, 2, none⟩ = some (.int .i64 n) := h.cell 2
  go_enter Try.func32, Try.ntmps32
  go_wp2
  go_quiet (fail)
  go_wp2
  go_ret3
  exact ⟨rfl, _, rfl⟩
set_option maxHeartbeats 1000000 in
theorem enter_p (p d : Int) (t : Bool) (h : Blk w g 124 #[.string f, .string e, .int .i64 n, .int .i64 ph, .bool tm, .int .i64 du]) :
    Calls Try.prog 60 #[.pointer (some ⟨g, 0, none⟩), .int .i64 p, .bool t, .int .i64 d] w fun r w' => r = .returned (.tuple #[]) ∧ Blk w' g 124 #[.string f, .string e, .int .i64 n, .int .i64 p, .bool t, .int .i64 d] ∧ w.grownBy w' (some g) := by
  have h3 : w.cell? ⟨g, 3, none⟩ = some (.int .i64 ph) := h.cell 3
  have h4 : w.cell? ⟨g, 4, none⟩ = some (.bool tm) := h.cell 4
  have h5 : w.cell? ⟨g, 5, none⟩ = some (.int .i64 du) := h.cell 5
  have f3 : w.frozen? ⟨g, 3, none⟩ = false := h.frozen 3
  have f4 : w.frozen? ⟨g, 4, none⟩ = false := h.frozen 4
  have f5 : w.frozen? ⟨g, 5, none⟩ = false := h.frozen 5
  have H := Lib.hid h
  clear h
  go_enter Try.func60, Try.ntmps60
  go_wp2
  go_end0
  exact ⟨rfl, ((H.out.set_ 3 _).set_ 4 _).set_ 5 _, by repeat (first | exact World.grownBy.refl _ _ | refine only_setCell ?_ (.inl rfl) _)⟩
set_option maxHeartbeats 1000000 in
theorem Begin_p (d : Int) (h : Blk w g 124 #[.string f, .string e, .int .i64 n, .int .i64 0, .bool tm, .int .i64 du]) :
    Calls Try.prog 29 #[.pointer (some ⟨g, 0, none⟩), .int .i64 1, .int .i64 d] w fun r w' => r = .returned (.int .i64 0) ∧ Blk w' g 124 #[.string f, .string e, .int .i64 n, .int .i64 1, .bool true, .int .i64 d] ∧ w.grownBy w' (some g) := by
  have h3 : w.cell? ⟨g, 3, none⟩ = some (.int .i64 0) := h.cell 3
  have hE := enter_p 1 d true h
  clear h
  go_enter Try.func29, Try.ntmps29
  go_wp2_with (go_at_call 60; refine hE.mono ?_; rintro r w1 ⟨rfl, hb, hg⟩)
  go_ret
  exact ⟨rfl, hb, hg⟩
set_option maxHeartbeats 1000000 in
theorem RLate_p (now : Int) (h : Blk w g 124 #[.string f, .string e, .int .i64 n, .int .i64 ph, .bool tm, .int .i64 du]) :
    Calls Try.prog 37 #[.pointer (some ⟨g, 0, none⟩), .int .i64 now] w fun r w' => r = .returned (.bool (tm && decide (du ≤ now))) ∧ w = w' := by
  have h4 : w.cell? ⟨g, 4, none⟩ = some (.bool tm) := h.cell 4
  have h5 : w.cell? ⟨g, 5, none⟩ = some (.int .i64 du) := h.cell 5
  clear h
  cases tm
  all_goals
    go_enter Try.func37, Try.ntmps37
    go_wp2
    go_ret
    exact ⟨by simp, rfl⟩
end
set_option maxHeartbeats 1000000 in
theorem RNew_p (f e : ByteArray) (n : Int) (w : World) :
    Calls Try.prog 26 #[.string f, .string e, .int .i64 n] w fun r w' => r = .returned (.pointer (some ⟨w.heap.size, 0, none⟩)) ∧ Blk w' w.heap.size 124 #[.string f, .string e, .int .i64 n, .int .i64 0, .bool false, .int .i64 0] ∧ Below w.heap.size w w' := by
  go_enter Try.func26, Try.ntmps26
  go_wp2
  go_ret
  exact ⟨rfl, Blk.new _ _ _, (Below.refl _ _).alloc (Nat.le_refl _) _⟩
/-! The crew. -/
/-- The executor's name is this. -/
def hit (f e : ByteArray) (r : Rp) : Bool := (r.f.toList == f.toList) && (r.e.toList == e.toList)
abbrev ptrs (R : List Rp) : List Value := R.map fun r => Value.pointer (some ⟨r.g, 0, none⟩)
structure CrP (w : World) (B gc : Nat) (v : Value) (R : List Rp) : Prop where
  ge : B ≤ gc
  blk : Blk w gc 122 #[v]
  row : w.ownsRow B 50 1 v R.length (ptrs R)
  runs : ∀ (k : Nat) (r : Rp), R[k]? = some r → Blk w r.g 124 (rpC r)
  base : ∀ (k : Nat) (r : Rp), R[k]? = some r → B ≤ r.g
  uniq : ∀ (j k : Nat) (r s : Rp), R[j]? = some r → R[k]? = some s → hit s.f s.e r = true → j = k
  apart : ∀ (j k : Nat) (r s : Rp), R[j]? = some r → R[k]? = some s → r.g = s.g → j = k
  len : R.length ≤ 24
section
variable {w w' : World} {B gc : Nat} {v : Value} {R : List Rp} {f e : ByteArray}
theorem CrP.below (h : CrP w B gc v R) (hb : Below w.heap.size w w') : CrP w' B gc v R :=
  ⟨h.ge, h.blk.below hb h.blk.lt, h.row.kept (only_of_below hb none) (Classical.em _), fun k r hk => (h.runs k r hk).below hb (h.runs k r hk).lt, h.base, h.uniq, h.apart, h.len⟩
theorem CrP.drewN (h : CrP w B gc v R) (k : Nat) : CrP (w.drewN k) B gc v R := h.below (below_drewN (Below.refl _ _) k)
theorem CrP.cell {u n c : Nat} (h : CrP w B gc (.slice (some ⟨u, 0, none⟩) n c) R) {k : Nat} {r : Rp} (hk : R[k]? = some r) : w.cell? ⟨u, k, none⟩ = some (.pointer (some ⟨r.g, 0, none⟩)) := by
  have key : ((⟨u, 0, none⟩ : Addr).add k) = ⟨u, k, none⟩ := by unfold Addr.add; split <;> simp_all
  have h1 := h.row.cells rfl k (.pointer (some ⟨r.g, 0, none⟩)) (by rw [List.getElem?_map, hk]; rfl)
  rwa [key] at h1
theorem CrP.kept8 {vw : Value} {z n B2 : Nat} {t : TypeId} {xs : List Value} (h : CrP w B gc v R) (hg : w.grownBy w' vw.ownBlock) (ho : w.ownsRow B2 t z vw n xs) (h1 : t ≠ 122) (h2 : t ≠ 124) (h3 : 50 ≠ t) : CrP w' B gc v R :=
  ⟨h.ge, h.blk.grown hg (fun e => own_blk_ne ho h.blk h1 e.symm), h.row.kept hg (own_own_ne h.row ho h3), fun k r hk => (h.runs k r hk).grown hg (fun e => own_blk_ne ho (h.runs k r hk) h2 e.symm), h.base, h.uniq, h.apart, h.len⟩
set_option maxHeartbeats 4000000 in
/-- Where the executor stands: it is there. -/
theorem At_yes {k : Nat} {s : Rp} (hk : R[k]? = some s) (hh : hit f e s = true) (hu : ∀ (j : Nat) (r : Rp), R[j]? = some r → hit f e r = true → j = k) (h : CrP w B gc v R) :
    Calls Try.prog 59 #[.pointer (some ⟨gc, 0, none⟩), .string f, .string e] w fun e w' => e = .returned (.int .i64 k) ∧ ∃ m, w' = w.drewN m := by
  obtain ⟨A, c, rfl, hc, _⟩ := own_slice h.row
  have h0 : w.cell? ⟨gc, 0, none⟩ = some (.slice A R.length c) := h.blk.cell 0
  have hl := h.len
  have hkl := (List.getElem?_eq_some_iff.1 hk).1
  obtain ⟨N, hN⟩ : ∃ N, N = R.length := ⟨_, rfl⟩
  rw [← hN] at h0 hl hc hkl
  have H := Lib.hid h
  have HN := Lib.hid hN
  have HK := Lib.hid (And.intro hk (And.intro hh hu))
  clear h hN hk hh hu
  go_enter Try.func59, Try.ntmps59
  go_wp2
  go_loopw [17] (fun i wr => ∃ j m : Nat, j ≤ N ∧ i = .int .i64 j ∧ wr = w.drewN m ∧ Hid (j ≤ k)) (fun i _ => N - (intOf i).toNat)
  case atStart => exact ⟨0, 0, by omega, rfl, rfl, Lib.hid (by omega)⟩
  case round =>
    obtain ⟨j, m, hj, rfl, rfl, hjk⟩ := hrel
    have hlt : j < N := by have := hjk.out; omega
    obtain ⟨r, hr⟩ : ∃ r, R[j]? = some r := ⟨R[j]'(by have := HN.out; omega), List.getElem?_eq_getElem _⟩
    obtain ⟨u, rfl⟩ := own_some H.out.row (by have := HN.out; omega)
    have hcell : (w.drewN m).cell? ⟨u, j, none⟩ = some (.pointer (some ⟨r.g, 0, none⟩)) := H.out.cell hr
    have hW := Who_p ((H.out.runs j r hr).drewN m)
    have hlti : (j : Int) < (N : Int) := by omega
    have hsame : Hid (j = k → (r.f.toList == f.toList) = true ∧ (r.e.toList == e.toList) = true) := Lib.hid fun q => by
      subst q
      rw [HK.out.1] at hr
      injection hr with hr
      subst hr
      have := HK.out.2.1
      unfold hit at this
      simpa using this
    have hoth : Hid (j ≠ k → (r.f.toList == f.toList) = true → (r.e.toList == e.toList) = true → False) := Lib.hid fun q a b => q (HK.out.2.2 j r hr (by unfold hit; rw [a, b]; rfl))
    clear hr
    have hjk0 := hjk.out
    clear hjk
    obtain ⟨rf, re, rn, rg, rp, rt, rd⟩ := r
    simp only at hW hcell hsame hoth
    cases hf : (rf.toList == f.toList) with
    | false =>
      have hne : j ≠ k := fun q => by have := (hsame.out q).1; rw [hf] at this; cases this
      have HJ : Hid (j + 1 ≤ k) := Lib.hid (by omega)
      clear hsame hoth hjk0 hne
      go_wp2_with (go_at_call 32; refine hW.mono ?_; rintro e w2 ⟨rfl, kd, rfl⟩)
      refine ⟨?_, by simp [intOf]; omega⟩
      exact ⟨j + 1, m + kd, by omega, by simp, by first | rfl | rw [World.drewN_drewN], HJ⟩
    | true =>
      cases he : (re.toList == e.toList) with
      | false =>
        have hne : j ≠ k := fun q => by have := (hsame.out q).2; rw [he] at this; cases this
        have HJ : Hid (j + 1 ≤ k) := Lib.hid (by omega)
        clear hsame hoth hjk0 hne
        go_wp2_with (go_at_call 32; refine hW.mono ?_; rintro e w2 ⟨rfl, kd, rfl⟩)
        refine ⟨?_, by simp [intOf]; omega⟩
        exact ⟨j + 1, m + kd, by omega, by simp, by first | rfl | rw [World.drewN_drewN], HJ⟩
      | true =>
        have hkj : j = k := Classical.byContradiction fun q => hoth.out q hf he
        clear hsame hoth hjk0
        subst hkj
        go_wp2_with (go_at_call 32; refine hW.mono ?_; rintro e w2 ⟨rfl, kd, rfl⟩)
        go_ret
        exact ⟨rfl, m + kd, by first | rfl | rw [World.drewN_drewN]⟩
set_option maxHeartbeats 4000000 in
/-- .. it is not. -/
theorem At_no (hu : ∀ (j : Nat) (r : Rp), R[j]? = some r → hit f e r = false) (h : CrP w B gc v R) :
    Calls Try.prog 59 #[.pointer (some ⟨gc, 0, none⟩), .string f, .string e] w fun e w' => e = .returned (.int .i64 (-1)) ∧ ∃ m, w' = w.drewN m := by
  obtain ⟨A, c, rfl, hc, _⟩ := own_slice h.row
  have h0 : w.cell? ⟨gc, 0, none⟩ = some (.slice A R.length c) := h.blk.cell 0
  have hl := h.len
  obtain ⟨N, hN⟩ : ∃ N, N = R.length := ⟨_, rfl⟩
  rw [← hN] at h0 hl hc
  have H := Lib.hid h
  have HN := Lib.hid hN
  have HK := Lib.hid hu
  clear h hN hu
  go_enter Try.func59, Try.ntmps59
  go_wp2
  go_loopw [17] (fun i wr => ∃ j m : Nat, j ≤ N ∧ i = .int .i64 j ∧ wr = w.drewN m) (fun i _ => N - (intOf i).toNat)
  case atStart => exact ⟨0, 0, by omega, rfl, rfl⟩
  case round =>
    obtain ⟨j, m, hj, rfl, rfl⟩ := hrel
    by_cases hlt : j < N
    · obtain ⟨r, hr⟩ : ∃ r, R[j]? = some r := ⟨R[j]'(by have := HN.out; omega), List.getElem?_eq_getElem _⟩
      obtain ⟨u, rfl⟩ := own_some H.out.row (by have := HN.out; omega)
      have hcell : (w.drewN m).cell? ⟨u, j, none⟩ = some (.pointer (some ⟨r.g, 0, none⟩)) := H.out.cell hr
      have hW := Who_p ((H.out.runs j r hr).drewN m)
      have hlti : (j : Int) < (N : Int) := by omega
      have hoth : Hid ((r.f.toList == f.toList) = true → (r.e.toList == e.toList) = false) := Lib.hid fun a => by
        have := HK.out j r hr
        unfold hit at this
        rw [a] at this
        simpa using this
      clear hr
      obtain ⟨rf, re, rn, rg, rp, rt, rd⟩ := r
      simp only at hW hcell hoth
      cases hf : (rf.toList == f.toList) with
      | false =>
        clear hoth
        go_wp2_with (go_at_call 32; refine hW.mono ?_; rintro e w2 ⟨rfl, kd, rfl⟩)
        refine ⟨?_, by simp [intOf]; omega⟩
        exact ⟨j + 1, m + kd, by omega, by simp, by first | rfl | rw [World.drewN_drewN]⟩
      | true =>
        have he := hoth.out hf
        clear hoth
        go_wp2_with (go_at_call 32; refine hW.mono ?_; rintro e w2 ⟨rfl, kd, rfl⟩)
        refine ⟨?_, by simp [intOf]; omega⟩
        exact ⟨j + 1, m + kd, by omega, by simp, by first | rfl | rw [World.drewN_drewN]⟩
    · go_wp2
      go_ret
      exact ⟨rfl, m, rfl⟩
end
end Go.Proofs.Ytacmmkpcnpnjoaa.Crp
