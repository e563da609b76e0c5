/- Both bins side by side. -/
import Derived.Test.YtiflhfhonhbcpaaRfD
namespace Go.Proofs.Ytiflhfhonhbcpaa.Bin
open Go Go.RowKit Go.Proofs.Ytiflhfhonhbcpaa Go.Proofs.Ytiflhfhonhbcpaa.Crw Go.Proofs.Ytiflhfhonhbcpaa.Mas Go.ChangeShapes Go.WideShapes Go.ChangeAt
set_option linter.unusedVariables false
set_option maxRecDepth 100000
abbrev hitX (a b : Bx) : Bool := hit a.f a.e a.n b
theorem hit_iff {f e : ByteArray} {n : Int} {x : Bx} : hit f e n x = true ↔ x.f.toList = f.toList ∧ x.e.toList = e.toList ∧ x.n = n := by
  unfold hit
  simp
theorem hit_same {f e : ByteArray} {n : Int} {x y : Bx} (h1 : hit f e n x = true) (h2 : hit f e n y = true) : hitX x y = true := by
  obtain ⟨a, b, c⟩ := hit_iff.1 h1
  obtain ⟨a', b', c'⟩ := hit_iff.1 h2
  exact hit_iff.2 ⟨a'.trans a.symm, b'.trans b.symm, c'.trans c.symm⟩
theorem hitX_sym {x y : Bx} (h : hitX x y = false) : hitX y x = false := by
  cases hq : hitX y x with
  | false => rfl
  | true =>
    obtain ⟨a, b, c⟩ := hit_iff.1 hq
    have h' : hit x.f x.e x.n y = false := h
    rw [hit_iff.2 ⟨a.symm, b.symm, c.symm⟩] at h'
    exact h'
def UqB (M : List Bx) : Prop := M.Pairwise (fun a b => hitX a b = false)
theorem UqB.srt {M : List Bx} (h : UqB M) : UqB (srtB M) := by
  induction M using srtB_ind with
  | h0 => exact List.Pairwise.nil
  | h1 M x ih =>
    unfold UqB at h
    rw [List.pairwise_append] at h
    rw [srtB_snoc]
    refine insB_pw (srtB_Srt M) (ih h.1) (fun y hy _ => ?_) (fun y hy _ => ?_)
    · exact h.2.2 y (srtB_mem.1 hy) x (by simp)
    · exact hitX_sym (h.2.2 y (srtB_mem.1 hy) x (by simp))
theorem UqB.only {M : List Bx} (h : UqB M) {f e : ByteArray} {n : Int} {j k : Nat} {x y : Bx} (hj : M[j]? = some x) (hk : M[k]? = some y) (hx : hit f e n x = true) (hy : hit f e n y = true) : j = k := by
  obtain ⟨h1, e1⟩ := List.getElem?_eq_some_iff.1 hj
  obtain ⟨h2, e2⟩ := List.getElem?_eq_some_iff.1 hk
  rcases Nat.lt_trichotomy j k with hlt | heq | hlt
  · have := List.pairwise_iff_getElem.1 h j k h1 h2 hlt
    rw [e1, e2, hit_same hx hy] at this
    cases this
  · exact heq
  · have := List.pairwise_iff_getElem.1 h k j h2 h1 hlt
    rw [e1, e2, hit_same hy hx] at this
    cases this
theorem erase_filter {L : List Bx} {p : Bx → Bool} {k : Nat} {x : Bx} (hk : L[k]? = some x) (hx : p x = true) (hu : ∀ (j : Nat) (y : Bx), L[j]? = some y → p y = true → j = k) : L.eraseIdx k = L.filter (fun y => !p y) := by
  induction L generalizing k with
  | nil => simp at hk
  | cons a r ih =>
    cases k with
    | zero =>
      simp only [List.getElem?_cons_zero, Option.some.injEq] at hk
      subst hk
      rw [List.eraseIdx_cons_zero, List.filter_cons, hx]
      refine (List.filter_eq_self.2 (fun y hy => ?_)).symm
      obtain ⟨j, hj⟩ := List.getElem?_of_mem hy
      cases hp : p y with
      | false => rfl
      | true =>
        have := hu (j + 1) y (by simpa using hj) hp
        omega
    | succ k =>
      have ha : p a = false := by
        cases hp : p a with
        | false => rfl
        | true =>
          have := hu 0 a rfl hp
          omega
      rw [List.eraseIdx_cons_succ, List.filter_cons, ha]
      simp only [Bool.not_false, if_true]
      rw [ih (by simpa using hk) (fun j y hj hy => by have := hu (j + 1) y (by simpa using hj) hy; omega)]
theorem first_hit {L : List Bx} {p : Bx → Bool} (h : ∃ y ∈ L, p y = true) : ∃ (k : Nat) (x : Bx), L[k]? = some x ∧ p x = true ∧ ∀ (j : Nat) (y : Bx), L[j]? = some y → j < k → p y = false := by
  induction L with
  | nil => obtain ⟨y, hy, _⟩ := h; cases hy
  | cons a r ih =>
    cases hp : p a with
    | true => exact ⟨0, a, rfl, hp, fun j y _ h => by omega⟩
    | false =>
      obtain ⟨y, hy, hpy⟩ := h
      rcases List.mem_cons.1 hy with rfl | hy
      · rw [hp] at hpy; cases hpy
      · obtain ⟨k, x, h1, h2, h3⟩ := ih ⟨y, hy, hpy⟩
        refine ⟨k + 1, x, by simpa using h1, h2, fun j z hj hlt => ?_⟩
        cases j with
        | zero =>
          simp only [List.getElem?_cons_zero, Option.some.injEq] at hj
          rw [← hj]; exact hp
        | succ j => exact h3 j z (by simpa using hj) (by omega)
section
variable {w wr w' : World} {B b rb : Nat} {v vr : Value} {L M : List Bx} {f e : ByteArray} {n s : Int}
theorem BnI.rvol (h : BnI w wr b v L) (hr : RbP wr w.heap.size rb vr M) (hv : Vol (OwnB rb vr) wr w') : BnI w w' b v L := by
  refine ⟨h.bn.vol hv (fun e => ?_) (fun q hq e => ?_), ⟨hv.os.trans h.bel.os, hv.tape.trans h.bel.tape, hv.output.trans h.bel.output, Nat.le_trans h.bel.size hv.size, fun q hq => ?_⟩⟩
  · rcases e with e | e
    · exact h.bn.blk.ne_ hr.blk (by decide) e
    · exact own_blk_ne hr.row h.bn.blk (by decide) e
  · rcases e with e | e
    · subst e
      exact own_blk_ne h.bn.row hr.blk (by decide) hq
    · rcases own_own_ne h.bn.row hr.row (by decide) with h1 | h1
      · rw [h1] at hq; cases hq
      · exact h1 (hq.trans e.symm)
  · refine (hv.block q (Nat.lt_of_lt_of_le hq h.bel.size) (fun e => ?_)).trans (h.bel.block q hq)
    rcases e with e | e
    · have := hr.ge; omega
    · have := (hr.row.lt q e).1; omega
theorem RbP.bvol (hr : RbP wr B rb vr M) (h : BnP wr B b v L) (hv : Vol (OwnB b v) wr w') : RbP w' B rb vr M := by
  refine hr.vol hv (fun e => ?_) (fun q hq e => ?_)
  · rcases e with e | e
    · exact hr.blk.ne_ h.blk (by decide) e
    · exact own_blk_ne h.row hr.blk (by decide) e
  · rcases e with e | e
    · subst e
      exact own_blk_ne hr.row h.blk (by decide) hq
    · rcases own_own_ne hr.row h.row (by decide) with h1 | h1
      · rw [h1] at hq; cases hq
      · exact h1 (hq.trans e.symm)
structure BpI (w wr : World) (b rb : Nat) (v vr : Value) (M : List Bx) (i : Nat) : Prop where
  bn : BnI w wr b v (srtB M)
  rn : RbP wr w.heap.size rb vr M
  uq : UqB M
  len : M.length ≤ i
  rs : ∀ x ∈ M, 0 ≤ x.s ∧ x.s ≤ 19
theorem BpI.below {i : Nat} (h : BpI w wr b rb v vr M i) (hb : Below wr.heap.size wr w') : BpI w w' b rb v vr M i := ⟨h.bn.below hb, h.rn.below hb, h.uq, h.len, h.rs⟩
theorem BpI.up {i j : Nat} (h : BpI w wr b rb v vr M i) (hij : i ≤ j) : BpI w wr b rb v vr M j := ⟨h.bn, h.rn, h.uq, Nat.le_trans h.len hij, h.rs⟩
/-- Something done to a clone. -/
theorem Add_any {B c : Nat} {vc : Value} (h : BnP wr B c vc L) (hl : L.length < 100) : Calls Try.prog 32 #[.pointer (some ⟨c, 0, none⟩), .string f, .string e, .int .i64 n, .int .i64 s] wr fun r w' => ∃ t v' L', r = .returned (.bool t) ∧ BnP w' B c v' L' ∧ Vol (OwnB c vc) wr w' ∧ L'.length ≤ L.length + 1 ∧ wr.heap.size ≤ w'.heap.size := by
  by_cases hx : ∃ y ∈ L, hit f e n y = true
  · obtain ⟨k, x, h1, h2, h3⟩ := first_hit hx
    exact (Add_there h h1 h2 h3).mono fun r w' ⟨a, b⟩ => ⟨_, _, _, a, h.below b, Vol.of_below b, by omega, b.size⟩
  · refine (Add_new h (hit_all fun y hy => ?_) hl).mono fun r w' ⟨a, v', b, c, _⟩ => ⟨_, _, _, a, b, c, by rw [insB_len]; omega, c.size⟩
    cases hp : hit f e n y with
    | false => rfl
    | true => exact absurd ⟨y, hy, hp⟩ hx
theorem Take_any {B c : Nat} {vc : Value} (h : BnP wr B c vc L) : Calls Try.prog 35 #[.pointer (some ⟨c, 0, none⟩), .string f, .string e, .int .i64 n] wr fun r w' => ∃ t v' L', r = .returned (.bool t) ∧ BnP w' B c v' L' ∧ Vol (OwnB c vc) wr w' := by
  by_cases hx : ∃ y ∈ L, hit f e n y = true
  · obtain ⟨k, x, h1, h2, h3⟩ := first_hit hx
    exact (Take_yes h h1 h2 h3).mono fun r w' ⟨a, v', b, c, _⟩ => ⟨_, _, _, a, b, c⟩
  · refine (Take_no h (hit_all fun y hy => ?_)).mono fun r w' ⟨a, b⟩ => ⟨_, _, _, a, h.below b, Vol.of_below b⟩
    cases hp : hit f e n y with
    | false => rfl
    | true => exact absurd ⟨y, hy, hp⟩ hx
/-- Both say the same to a box. -/
theorem Add_b {i : Nat} (h : BpI w wr b rb v vr M i) (hi : i < 90) (h0 : 0 ≤ s) (h1 : s ≤ 19) : ∃ t : Bool, Calls Try.prog 32 #[.pointer (some ⟨b, 0, none⟩), .string f, .string e, .int .i64 n, .int .i64 s] wr fun r w2 => r = .returned (.bool t) ∧ Calls Try.prog 37 #[.pointer (some ⟨rb, 0, none⟩), .string f, .string e, .int .i64 n, .int .i64 s] w2 fun r w3 => r = .returned (.bool t) ∧ ∃ v' vr' M', BpI w w3 b rb v' vr' M' (i + 1) := by
  have hl := h.len
  by_cases hx : ∃ y ∈ M, hit f e n y = true
  · obtain ⟨y, hy, hp⟩ := hx
    obtain ⟨k, x, a1, a2, a3⟩ := first_hit ⟨y, srtB_mem.2 hy, hp⟩
    obtain ⟨k', x', c1, c2, c3⟩ := first_hit ⟨y, hy, hp⟩
    refine ⟨false, (Add_there h.bn.bn a1 a2 a3).mono fun r w2 ⟨e1, b2⟩ => ⟨e1, ?_⟩⟩
    have h2 := h.below b2
    exact (RAdd_there h2.rn c1 c2 c3).mono fun r w3 ⟨e2, b3⟩ => ⟨e2, v, vr, M, (h2.below b3).up (Nat.le_succ i)⟩
  · have hno : ∀ y ∈ M, hit f e n y = false := fun y hy => by
      cases hp : hit f e n y with
      | false => rfl
      | true => exact absurd ⟨y, hy, hp⟩ hx
    refine ⟨true, (Add_new h.bn.bn (hit_all fun y hy => hno y (srtB_mem.1 hy)) (by rw [srtB_len]; omega)).mono fun r w2 ⟨e1, v', n2, vo2, _⟩ => ⟨e1, ?_⟩⟩
    have hb2 : BnI w w2 b v' (insB ⟨f, e, n, s⟩ (srtB M)) := h.bn.voln vo2 n2
    have hr2 := h.rn.bvol h.bn.bn vo2
    refine (RAdd_new hr2 (hit_all hno) (by omega)).mono fun r w3 ⟨e2, vr', n3, vo3, _⟩ => ⟨e2, v', vr', M ++ [⟨f, e, n, s⟩], ?_⟩
    refine ⟨by rw [srtB_snoc]; exact hb2.rvol hr2 vo3, n3, ?_, by simp; omega, fun x hx => ?_⟩
    · unfold UqB
      rw [List.pairwise_append]
      refine ⟨h.uq, List.pairwise_singleton _ _, fun a ha c hc => ?_⟩
      rw [List.mem_singleton] at hc
      subst hc
      have := hno a ha
      exact hitX_sym this
    · rcases List.mem_append.1 hx with hx | hx
      · exact h.rs x hx
      · rw [List.mem_singleton] at hx
        subst hx
        exact ⟨h0, h1⟩
theorem Take_b {i : Nat} (h : BpI w wr b rb v vr M i) (hi : i < 90) : ∃ t : Bool, Calls Try.prog 35 #[.pointer (some ⟨b, 0, none⟩), .string f, .string e, .int .i64 n] wr fun r w2 => r = .returned (.bool t) ∧ Calls Try.prog 38 #[.pointer (some ⟨rb, 0, none⟩), .string f, .string e, .int .i64 n] w2 fun r w3 => r = .returned (.bool t) ∧ ∃ v' vr' M', BpI w w3 b rb v' vr' M' (i + 1) := by
  have hl := h.len
  by_cases hx : ∃ y ∈ M, hit f e n y = true
  · obtain ⟨y, hy, hp⟩ := hx
    obtain ⟨k, x, a1, a2, a3⟩ := first_hit ⟨y, srtB_mem.2 hy, hp⟩
    obtain ⟨k', x', c1, c2, c3⟩ := first_hit ⟨y, hy, hp⟩
    refine ⟨true, (Take_yes h.bn.bn a1 a2 a3).mono fun r w2 ⟨e1, v', n2, vo2, _⟩ => ⟨e1, ?_⟩⟩
    have hb2 : BnI w w2 b v' ((srtB M).eraseIdx k) := h.bn.voln vo2 n2
    have hr2 := h.rn.bvol h.bn.bn vo2
    refine (RTake_yes hr2 c1 c2 c3).mono fun r w3 ⟨e2, vr', n3, vo3, _⟩ => ⟨e2, v', vr', M.eraseIdx k', ?_⟩
    have em : M.eraseIdx k' = M.filter (fun y => !hit f e n y) := erase_filter c1 c2 (fun j y hj hy => h.uq.only hj c1 hy c2)
    have es : (srtB M).eraseIdx k = srtB (M.eraseIdx k') := by
      rw [em, ← srtB_filter]
      exact erase_filter a1 a2 (fun j y hj hy => h.uq.srt.only hj a1 hy a2)
    refine ⟨by rw [← es]; exact hb2.rvol hr2 (vo3.mono fun q e => .inl e), n3, ?_, ?_, fun x hx => ?_⟩
    · unfold UqB
      rw [em]
      exact List.Pairwise.filter _ h.uq
    · have : (M.eraseIdx k').length ≤ M.length := by rw [em]; exact List.length_filter_le _ _
      omega
    · rw [em] at hx
      exact h.rs x (List.mem_filter.1 hx).1
  · have hno : ∀ y ∈ M, hit f e n y = false := fun y hy => by
      cases hp : hit f e n y with
      | false => rfl
      | true => exact absurd ⟨y, hy, hp⟩ hx
    refine ⟨false, (Take_no h.bn.bn (hit_all fun y hy => hno y (srtB_mem.1 hy))).mono fun r w2 ⟨e1, b2⟩ => ⟨e1, ?_⟩⟩
    have h2 := h.below b2
    exact (RTake_no h2.rn (hit_all hno)).mono fun r w3 ⟨e2, b3⟩ => ⟨e2, v, vr, M, (h2.below b3).up (Nat.le_succ i)⟩
theorem BpI.other {i Bc c : Nat} {vc : Value} (h : BpI w wr b rb v vr M i) (hb : b < Bc ∧ rb < Bc) (hv : (∀ q, v.ownBlock = some q → q < Bc) ∧ ∀ q, vr.ownBlock = some q → q < Bc) (hBc : w.heap.size ≤ Bc) (hc : BnP wr Bc c vc L) (vol : Vol (OwnB c vc) wr w') : BpI w w' b rb v vr M i := by
  have hU : ∀ q, q < Bc → ¬ OwnB c vc q := fun q hq e => by
    rcases e with e | e
    · have := hc.ge; omega
    · have := (hc.row.lt q e).1; omega
  exact ⟨h.bn.other hb.1 hv.1 hBc hc vol, h.rn.vol vol (hU rb hb.2) (fun q e => hU q (hv.2 q e)), h.uq, h.len, h.rs⟩
theorem BpI.lt {i : Nat} (h : BpI w wr b rb v vr M i) : (b < wr.heap.size ∧ rb < wr.heap.size) ∧ (∀ q, v.ownBlock = some q → q < wr.heap.size) ∧ ∀ q, vr.ownBlock = some q → q < wr.heap.size := ⟨⟨h.bn.bn.blk.lt, h.rn.blk.lt⟩, fun q e => (h.bn.bn.row.lt q e).2, fun q e => (h.rn.row.lt q e).2⟩
end
end Go.Proofs.Ytiflhfhonhbcpaa.Bin
