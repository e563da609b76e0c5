/- Drop. -/
import Derived.Test.YtacmmkpcnpnjoaaCrewR
namespace Go.Proofs.Ytacmmkpcnpnjoaa.Crp
open Go.Proofs.Ytacmmkpcnpnjoaa Go.Proofs.Ytacmmkpcnpnjoaa.Crw Go.ChangeShapes Go.WideShapes Go.ChangeAt Go.RowKit
set_option linter.unusedVariables false
set_option maxRecDepth 100000
section
variable {w w' : World} {B gc : Nat} {v : Value} {R : List Rp} {f e : ByteArray}
theorem er_get {α : Type} {R : List α} {k j : Nat} {r : α} (h : (R.eraseIdx k)[j]? = some r) : R[if j < k then j else j + 1]? = some r := by
  rw [List.getElem?_eraseIdx] at h
  split at h
  · rename_i h1; rw [if_pos h1]; exact h
  · rename_i h1; rw [if_neg h1]; exact h
theorem er_inj {k j i : Nat} (h : (if i < k then i else i + 1) = (if j < k then j else j + 1)) : i = j := by
  split at h <;> split at h <;> omega
/-- One run less. -/
theorem CrP.erase {w1 : World} {v1 : Value} {k : Nat} (h : CrP w B gc v R) (hk : k < R.length) (hg : w.grownBy w1 v.ownBlock)
    (ho : w1.ownsRow B 50 1 v1 (R.length - 1) (ptrs (R.eraseIdx k))) (h1 : v1.ownBlock ≠ some gc) : CrP (w1.setCell ⟨gc, 0, none⟩ v1) B gc v1 (R.eraseIdx k) := by
  have hrow := h.row
  have hbk : ∀ {g : Nat} {cs : Array Value}, Blk w g 124 cs → Blk (w1.setCell ⟨gc, 0, none⟩ v1) g 124 cs := fun {g cs} hb => by
    have hne : gc ≠ g := h.blk.ne_ hb (by decide)
    exact (hb.grown hg (fun e => own_blk_ne hrow hb (by decide) e.symm)).far (fun e => hne e.symm) _
  have hcb : Blk w1 gc 122 #[v] := h.blk.grown hg (fun e => own_blk_ne hrow h.blk (by decide) e.symm)
  have hlen : (R.eraseIdx k).length = R.length - 1 := by rw [List.length_eraseIdx, if_pos hk]
  refine ⟨h.ge, hcb.set_ 0 v1, ?_, ?_, ?_, ?_, ?_, by have := h.len; omega⟩
  · rw [hlen]
    refine ⟨ho.1, ?_⟩
    rcases ho.2 with h2 | ⟨u, cap, cur, e1, e2, e3, e4⟩
    · exact .inl h2
    · exact .inr ⟨u, cap, cur, e1, e2, (Below.heap_setCell _ _ _ _ (by intro e5; subst e5; exact h1 (by rw [e1]; rfl))).trans e3, e4⟩
  · intro k s hk
    exact hbk (h.runs _ s (er_get hk))
  · intro k s hk
    exact h.base _ s (er_get hk)
  · intro i j s t hi hj e
    exact er_inj (h.uniq _ _ s t (er_get hi) (er_get hj) e)
  · intro i j s t hi hj e
    exact er_inj (h.apart _ _ s t (er_get hi) (er_get hj) e)
set_option maxHeartbeats 4000000 in
theorem Drop_yes {k : Nat} {s : Rp} (hk : R[k]? = some s) (hh : hit f e s = true) (hu : ∀ (j : Nat) (r : Rp), R[j]? = some r → hit f e r = true → j = k) (h : CrP w B gc v R) :
    Calls Try.prog 34 #[.pointer (some ⟨gc, 0, none⟩), .string f, .string e] w fun e w' => e = .returned (.bool true) ∧ ∃ v', CrP w' B gc v' (R.eraseIdx k) ∧ Below B w w' ∧ w.heap.size ≤ w'.heap.size ∧ ∀ (t : TypeId) (z : Nat) (vw : Value) (n : Nat) (xs : List Value), t ≠ 50 → t ≠ 122 → w.ownsRow B t z vw n xs → w'.ownsRow B t z vw n xs := by
  have hA := At_yes hk hh hu h
  have hlt := (List.getElem?_eq_some_iff.1 hk).1
  obtain ⟨A, c, rfl, hc, _⟩ := own_slice h.row
  obtain ⟨u, rfl⟩ := own_some h.row (by omega)
  have h0 : ∀ m, (w.drewN m).cell? ⟨gc, 0, none⟩ = some (.slice (some ⟨u, 0, none⟩) R.length c) := fun m => h.blk.cell 0
  have hD := fun m => Delete_p (w.drewN m) (h.drewN m).row hlt
  have hge := h.ge
  have hub : B ≤ u := (h.row.lt u rfl).1
  have HH := Lib.hid h
  clear hk hh hu h
  have hl := HH.out.len
  go_enter Try.func34, Try.ntmps34
  go_wp2_with (first | (go_at_call 59; refine hA.mono ?_; rintro r w2 ⟨rfl, kd, rfl⟩) | (go_at_call 61; refine (hD _).mono ?_; rintro e w3 ⟨rfl, ho3, hg3⟩; have h5 := HH.out.drewN kd; have hcb := h5.blk.grown hg3 (fun e => own_blk_ne h5.row h5.blk (by decide) e.symm); have d0 : w3.cell? ⟨gc, 0, none⟩ = some (.slice (some ⟨u, 0, none⟩) R.length c) := hcb.cell 0; have df : w3.frozen? ⟨gc, 0, none⟩ = false := hcb.frozen 0))
  go_ret
  have hv1 := own_blk_ne ho3 hcb (by decide)
  exact ⟨rfl, _, h5.erase hlt hg3 ho3 hv1, ((below_drewN (Below.refl _ _) kd).grown hg3 (by have := Nat.le_trans HH.out.ge (Nat.le_of_lt HH.out.blk.lt); exact this) (fun q hq => by injection hq with hq; omega)).setCell hge _, by have := hg3.size; simp at this ⊢; omega, fun t z vw n xs ht1 ht2 ho => own_far ((show (w.drewN kd).ownsRow B t z vw n xs from ho).kept hg3 (own_own_ne ho h5.row ht1)) hcb ht2⟩
set_option maxHeartbeats 2000000 in
theorem Drop_no (hu : ∀ (j : Nat) (r : Rp), R[j]? = some r → hit f e r = false) (h : CrP w B gc v R) :
    Calls Try.prog 34 #[.pointer (some ⟨gc, 0, none⟩), .string f, .string e] w fun e w' => e = .returned (.bool false) ∧ ∃ m, w' = w.drewN m := by
  have hA := At_no hu h
  clear h hu
  go_enter Try.func34, Try.ntmps34
  go_wp2_with (go_at_call 59; refine hA.mono ?_; rintro r w2 ⟨rfl, kd, rfl⟩)
  go_ret
  exact ⟨rfl, _, rfl⟩
end
end Go.Proofs.Ytacmmkpcnpnjoaa.Crp
