/- Runs and their crew in memory: contracts. -/
import Derived.Test.YtacmmkpcnpnjoaaWithin
import Derived.Laws.ResultCell
import Derived.Lib.BufferOwn
namespace Go.Proofs.Ytacmmkpcnpnjoaa.Crw
open Go.Proofs.Ytacmmkpcnpnjoaa Go.ChangeShapes Go.WideShapes Go.ChangeAt Go.RowKit
set_option linter.unusedVariables false
set_option maxRecDepth 100000
/-- A run's cells. -/
abbrev runC (e : ByteArray) (n ph : Int) (tm : Bool) (du : Int) : Array Value := #[.string ⟨#[102]⟩, .string e, .int .i64 n, .int .i64 ph, .bool tm, .int .i64 du]
section
variable {w : World} {g : Nat} {e : ByteArray} {n ph du : Int} {tm : Bool}
set_option maxHeartbeats 1000000 in
theorem Who_ok (h : Blk w g 124 (runC e n ph tm du)) :
    Calls Try.prog 32 #[.pointer (some ⟨g, 0, none⟩)] w fun r w' => r = .returned (.tuple #[.string ⟨#[102]⟩, .string e, .int .i64 n]) ∧ ∃ k, w' = w.drewN k := by
  have h0 : w.cell? ⟨g, 0, none⟩ = some (.string ⟨#[102]⟩) := h.cell 0
  have h1 : w.cell? ⟨g, 1, none⟩ = some (.string e) := h.cell 1
  have h2 : w.cell? ⟨g, 2, none⟩ = some (.int .i64 n) := h.cell 2
  go_enter Try.func32, Try.ntmps32
  go_wp2
  go_quiet (fail)
  go_wp2
  go_ret3
  exact ⟨rfl, _, rfl⟩
set_option maxHeartbeats 1000000 in
theorem enter_ok (p d : Int) (t : Bool) (h : Blk w g 124 (runC e n ph tm du)) :
    Calls Try.prog 60 #[.pointer (some ⟨g, 0, none⟩), .int .i64 p, .bool t, .int .i64 d] w fun r w' => r = .returned (.tuple #[]) ∧ Blk w' g 124 (runC e n p t d) ∧ w.grownBy w' (some g) := by
  have h3 : w.cell? ⟨g, 3, none⟩ = some (.int .i64 ph) := h.cell 3
  have h4 : w.cell? ⟨g, 4, none⟩ = some (.bool tm) := h.cell 4
  have h5 : w.cell? ⟨g, 5, none⟩ = some (.int .i64 du) := h.cell 5
  have f3 : w.frozen? ⟨g, 3, none⟩ = false := h.frozen 3
  have f4 : w.frozen? ⟨g, 4, none⟩ = false := h.frozen 4
  have f5 : w.frozen? ⟨g, 5, none⟩ = false := h.frozen 5
  have H := Lib.hid h
  clear h
  go_enter Try.func60, Try.ntmps60
  go_wp2
  go_end0
  exact ⟨rfl, ((H.out.set_ 3 _).set_ 4 _).set_ 5 _, by repeat (first | exact World.grownBy.refl _ _ | refine only_setCell ?_ (.inl rfl) _)⟩
set_option maxHeartbeats 1000000 in
theorem Begin_ok (p d : Int) (hp : p = 1 ∨ p = 4) (h : Blk w g 124 (runC e n 0 tm du)) :
    Calls Try.prog 29 #[.pointer (some ⟨g, 0, none⟩), .int .i64 p, .int .i64 d] w fun r w' => r = .returned (.int .i64 0) ∧ Blk w' g 124 (runC e n p true d) ∧ w.grownBy w' (some g) := by
  have h3 : w.cell? ⟨g, 3, none⟩ = some (.int .i64 0) := h.cell 3
  have hE := enter_ok p d true h
  clear h
  rcases hp with rfl | rfl
  all_goals
    go_enter Try.func29, Try.ntmps29
    go_wp2_with (go_at_call 60; refine hE.mono ?_; rintro r w1 ⟨rfl, hb, hg⟩)
    go_ret
    exact ⟨rfl, hb, hg⟩
set_option maxHeartbeats 1000000 in
theorem Hello_ok (hp : ph = 1 ∨ ph = 4) (h : Blk w g 124 (runC e n ph tm du)) :
    Calls Try.prog 30 #[.pointer (some ⟨g, 0, none⟩)] w fun r w' => r = .returned (.int .i64 0) ∧ Blk w' g 124 (runC e n 2 false 0) ∧ w.grownBy w' (some g) := by
  have h3 : w.cell? ⟨g, 3, none⟩ = some (.int .i64 ph) := h.cell 3
  have hE := enter_ok 2 0 false h
  clear h
  rcases hp with rfl | rfl
  all_goals
    go_enter Try.func30, Try.ntmps30
    go_wp2_with (go_at_call 60; refine hE.mono ?_; rintro r w1 ⟨rfl, hb, hg⟩)
    go_ret
    exact ⟨rfl, hb, hg⟩
set_option maxHeartbeats 1000000 in
theorem RLate_ok (now : Int) (h : Blk w g 124 (runC e n ph tm du)) :
    Calls Try.prog 37 #[.pointer (some ⟨g, 0, none⟩), .int .i64 now] w fun r w' => r = .returned (.bool (tm && decide (du ≤ now))) ∧ w = w' := by
  have h4 : w.cell? ⟨g, 4, none⟩ = some (.bool tm) := h.cell 4
  have h5 : w.cell? ⟨g, 5, none⟩ = some (.int .i64 du) := h.cell 5
  clear h
  cases tm
  all_goals
    go_enter Try.func37, Try.ntmps37
    go_wp2
    go_ret
    exact ⟨by simp, rfl⟩
end
set_option maxHeartbeats 1000000 in
theorem RNew_ok (e : ByteArray) (n : Int) (w : World) :
    Calls Try.prog 26 #[.string ⟨#[102]⟩, .string e, .int .i64 n] w fun r w' => r = .returned (.pointer (some ⟨w.heap.size, 0, none⟩)) ∧ Blk w' w.heap.size 124 (runC e n 0 false 0) ∧ Below w.heap.size w w' := by
  go_enter Try.func26, Try.ntmps26
  go_wp2
  go_ret
  exact ⟨rfl, Blk.new _ _ _, (Below.refl _ _).alloc (Nat.le_refl _) _⟩
set_option maxHeartbeats 1000000 in
theorem CNew_ok (w : World) :
    Calls Try.prog 25 #[] w fun r w' => r = .returned (.pointer (some ⟨w.heap.size, 0, none⟩)) ∧ Blk w' w.heap.size 122 #[.slice none 0 0] ∧ Below w.heap.size w w' := by
  go_enter Try.func25, Try.ntmps25
  go_wp2
  go_ret
  exact ⟨rfl, Blk.new _ _ _, (Below.refl _ _).alloc (Nat.le_refl _) _⟩
/-! The crew. -/
structure Rn where
  g : Nat
  ph : Int
  tm : Bool
  du : Int
/-- The k-th executor's name. -/
def eK (k : Nat) : ByteArray := ⟨#[101]⟩ ++ ((⟨#[49, 50, 51, 52, 53, 54, 55, 56, 57]⟩ : ByteArray).extract k 9).extract 0 1
theorem eK_inj0 : ∀ j k : Fin 9, (eK j.val).data.toList = (eK k.val).data.toList → j.val = k.val := by decide +kernel
theorem eK_inj (j k : Nat) (hj : j < 9) (hk : k < 9) (h : eK j = eK k) : j = k := eK_inj0 ⟨j, hj⟩ ⟨k, hk⟩ (by show (eK j).data.toList = (eK k).data.toList; rw [h])
abbrev rnC (k : Nat) (r : Rn) : Array Value := runC (eK k) ((k : Int) + 1) r.ph r.tm r.du
structure CrL (w : World) (B gc : Nat) (v : Value) (R : List Rn) : Prop where
  ge : B ≤ gc
  blk : Blk w gc 122 #[v]
  row : w.ownsRow B 50 1 v R.length (R.map fun r => Value.pointer (some ⟨r.g, 0, none⟩))
  runs : ∀ (k : Nat) (r : Rn), R[k]? = some r → Blk w r.g 124 (rnC k r)
  base : ∀ (k : Nat) (r : Rn), R[k]? = some r → B ≤ r.g
  apart : ∀ (j k : Nat) (r s : Rn), R[j]? = some r → R[k]? = some s → r.g = s.g → j = k
  len : R.length ≤ 9
section
variable {w w' : World} {B gc : Nat} {v : Value} {R : List Rn}
theorem CrL.below (h : CrL w B gc v R) (hb : Below w.heap.size w w') : CrL w' B gc v R :=
  ⟨h.ge, h.blk.below hb h.blk.lt, h.row.kept (only_of_below hb none) (Classical.em _), fun k r hk => (h.runs k r hk).below hb (h.runs k r hk).lt, h.base, h.apart, h.len⟩
theorem CrL.drewN (h : CrL w B gc v R) (k : Nat) : CrL (w.drewN k) B gc v R := h.below (below_drewN (Below.refl _ _) k)
/-- A run's turn. -/
theorem CrL.turn (h : CrL w B gc v R) {k : Nat} {r r' : Rn} (hk : R[k]? = some r) (hg : w.grownBy w' (some r.g)) (he : r'.g = r.g) (hb : Blk w' r.g 124 (rnC k r')) : CrL w' B gc v (R.set k r') := by
  have hlt := (List.getElem?_eq_some_iff.1 hk).1
  have hR : (R.set k r').map (fun r => Value.pointer (some ⟨r.g, 0, none⟩)) = R.map fun r => Value.pointer (some ⟨r.g, 0, none⟩) := by
    apply List.ext_getElem?
    intro j
    simp only [List.getElem?_map, List.getElem?_set]
    split
    · rename_i hj
      subst hj
      rw [hk]
      simp [he]
    · rfl
  refine ⟨h.ge, h.blk.grown hg (by intro e; injection e with e; exact h.blk.ne_ (h.runs k r hk) (by decide) e), ?_, ?_, ?_, ?_, by simpa using h.len⟩
  · rw [List.length_set, hR]
    exact h.row.kept hg (.inr (own_blk_ne h.row (h.runs k r hk) (by decide)))
  · intro j s hj
    rw [List.getElem?_set] at hj
    split at hj
    · rename_i e
      subst e
      simp at hj
      subst hj
      rw [he]
      exact hb
    · rename_i e
      exact (h.runs j s hj).grown hg (by intro e2; injection e2 with e2; exact e (h.apart j k s r hj hk e2).symm)
  · intro j s hj
    rw [List.getElem?_set] at hj
    split at hj
    · simp at hj
      subst hj
      rw [he]
      exact h.base k r hk
    · exact h.base j s hj
  · intro i j s t hi hj e
    have key : ∀ (i : Nat) (s : Rn), (R.set k r')[i]? = some s → ∃ s' : Rn, R[i]? = some s' ∧ s'.g = s.g := fun i s hi => by
      rw [List.getElem?_set] at hi
      split at hi
      · rename_i e
        subst e
        simp at hi
        subst hi
        exact ⟨r, hk, he.symm⟩
      · exact ⟨s, hi, rfl⟩
    obtain ⟨s', h1, h2⟩ := key i s hi
    obtain ⟨t', h3, h4⟩ := key j t hj
    exact h.apart i j s' t' h1 h3 (by rw [h2, h4, e])
/-- One more run. -/
theorem CrL.push {w1 : World} {v1 : Value} (h : CrL w B gc v R) (r : Rn) (hr : Blk w r.g 124 (rnC R.length r)) (hb : B ≤ r.g) (hn : ∀ (k : Nat) (s : Rn), R[k]? = some s → s.g ≠ r.g) (hl : R.length < 9) (o : Obj) (hg : (w.alloc o).grownBy w1 v.ownBlock)
    (ho : w1.ownsRow B 50 1 v1 (R.length + 1) (R.map (fun r => Value.pointer (some ⟨r.g, 0, none⟩)) ++ [Value.pointer (some ⟨r.g, 0, none⟩)])) (h1 : v1.ownBlock ≠ some gc) : CrL (w1.setCell ⟨gc, 0, none⟩ v1) B gc v1 (R ++ [r]) := by
  have hrow := h.row
  have hap : ∀ k s, (R ++ [r])[k]? = some s → (R[k]? = some s) ∨ (k = R.length ∧ s = r) := fun k s hk => by
    rw [List.getElem?_append] at hk
    split at hk
    · exact .inl hk
    · rename_i hkl
      right
      have : k - R.length = 0 := by
        have := (List.getElem?_eq_some_iff.1 hk).1
        simp at this; omega
      rw [this] at hk
      simp at hk
      exact ⟨by omega, hk.symm⟩
  have hbk : ∀ {g : Nat} {cs : Array Value}, Blk w g 124 cs → Blk (w1.setCell ⟨gc, 0, none⟩ v1) g 124 cs := fun {g cs} hb => by
    have hne : gc ≠ g := h.blk.ne_ hb (by decide)
    exact ((hb.alloc o).grown hg (fun e => own_blk_ne hrow hb (by decide) e.symm)).far (fun e => hne e.symm) _
  have hcb : Blk w1 gc 122 #[v] := (h.blk.alloc o).grown hg (fun e => own_blk_ne hrow h.blk (by decide) e.symm)
  refine ⟨h.ge, hcb.set_ 0 v1, ?_, ?_, ?_, ?_, by simp; omega⟩
  · have e : (R ++ [r]).map (fun r => Value.pointer (some ⟨r.g, 0, none⟩)) = R.map (fun r => Value.pointer (some ⟨r.g, 0, none⟩)) ++ [Value.pointer (some ⟨r.g, 0, none⟩)] := by simp
    rw [e, List.length_append, List.length_singleton]
    refine ⟨ho.1, ?_⟩
    rcases ho.2 with h2 | ⟨u, cap, cur, e1, e2, e3, e4⟩
    · exact .inl h2
    · exact .inr ⟨u, cap, cur, e1, e2, (Below.heap_setCell _ _ _ _ (by intro e5; subst e5; exact h1 (by rw [e1]; rfl))).trans e3, e4⟩
  · intro k s hk
    rcases hap k s hk with h2 | ⟨rfl, rfl⟩
    · exact hbk (h.runs k s h2)
    · exact hbk hr
  · intro k s hk
    rcases hap k s hk with h2 | ⟨rfl, rfl⟩
    · exact h.base k s h2
    · exact hb
  · intro i j s t hi hj e
    rcases hap i s hi with h2 | ⟨rfl, rfl⟩ <;> rcases hap j t hj with h3 | ⟨rfl, rfl⟩
    · exact h.apart i j s t h2 h3 e
    · exact absurd e (hn i s h2)
    · exact absurd e.symm (hn j t h3)
    · rfl
end
end Go.Proofs.Ytacmmkpcnpnjoaa.Crw
