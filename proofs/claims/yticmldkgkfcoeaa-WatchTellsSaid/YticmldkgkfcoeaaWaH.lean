/- The streams, update by update: what the map is to hold, and the program's 'follow' in one contract. -/
import Derived.Test.YticmldkgkfcoeaaWaG
import Derived.Test.YticmldkgkfcoeaaHeldL
namespace Go.Proofs.Yticmldkgkfcoeaa.Wa
open Go Go.RowKit Go.Proofs.Yticmldkgkfcoeaa Go.Proofs.Yticmldkgkfcoeaa.Crw Go.ChangeShapes Go.WideShapes Go.ChangeAt
set_option linter.unusedVariables false
set_option maxRecDepth 100000
theorem lifeOf_mem {s u : Int} {l : List Int} (h : lifeOf s l = some u) (hs : s ≠ 0) : u ≠ 0 := by
  induction l generalizing s with
  | nil => simp only [lifeOf, Option.some.injEq] at h; rw [← h]; exact hs
  | cons a l ih =>
    simp only [lifeOf] at h
    split at h
    · rename_i hm
      refine ih h ?_
      rintro rfl
      unfold may at hm
      split at hm
      · simp at hm
      · split at hm <;> simp at hm
    · cases h
theorem ofB_ok (l : List Int) : decide (ofB l ≠ 0) = (lifeOf 1 l).isSome := by
  unfold ofB
  cases h : lifeOf 1 l with
  | none => rfl
  | some u =>
    have := lifeOf_mem h (by decide)
    simpa using this
set_option maxHeartbeats 4000000 in
/-- One update more, whatever it is. -/
theorem Follow_any (v : Value) (B : Nat) (sts : List Int) (kd nn st nu ep : Int) (F E T : ByteArray) (Ai : Option Addr) (ni ci : Nat) (w : World) (hB : B ≤ w.heap.size) (ho : w.ownsRow B 3 1 v sts.length (ints sts)) (hn : sts.length ≤ 900) :
    Calls Try.prog 14 #[v, .agg #[.int .i64 kd, .string F, .string E, .string T, .int .i64 nn, .int .i64 st, .int .i64 nu, .int .i64 ep, .slice Ai ni ci]] w
      fun e w' => ∃ v', e = .returned (.tuple #[v', .bool (follow sts (nu, st)).isSome]) ∧ (∀ s2, follow sts (nu, st) = some s2 → w'.ownsRow B 3 1 v' s2.length (ints s2)) ∧ w.grownBy w' v.ownBlock ∧ (∀ g, v'.ownBlock = some g → v.ownBlock = some g ∨ w.heap.size ≤ g) := by
  by_cases hc : nu = (sts.length : Int) ∧ 0 < sts.length
  · obtain ⟨z, hz⟩ : ∃ z, sts.length = z + 1 := ⟨sts.length - 1, by omega⟩
    obtain ⟨A, c, rfl, -, -⟩ := own_slice ho
    have e1 : nu = (z : Int) + 1 := by omega
    subst e1
    have hf : follow sts ((z : Int) + 1, st) = if sts[z]? = some st then some sts else none := by
      unfold follow
      rw [if_pos hc, hz]
      rfl
    have hr : Reads w w.heap.size 1 A (z + 1) (ints sts) := by
      have := Reads.of_own ho
      rwa [hz] at this
    have h1 := Follow_rep A z c w.heap.size sts kd nn st ep F E T Ai ni ci w (Nat.le_refl _) hr (by omega)
    rw [hz]
    refine h1.mono ?_
    rintro e w' ⟨rfl, hb⟩
    refine ⟨.slice A (z + 1) c, ?_, fun s2 h2 => ?_, only_of_below hb _, fun g hg => .inl hg⟩
    · rw [hf]
      by_cases hs : sts[z]? = some st
      · rw [if_pos hs, decide_eq_true hs]; rfl
      · rw [if_neg hs, decide_eq_false hs]; rfl
    · rw [hf] at h2
      split at h2
      · injection h2 with h2
        subst h2
        have := own_keep ho hb
        rwa [hz] at this ⊢
      · cases h2
  · have hc2 : ¬ (nu = (sts.length : Int) ∧ 0 < sts.length) := hc
    have h1 := Follow_new v sts.length B sts kd nn st nu ep F E T Ai ni ci w hB ho hn hc2
    refine h1.mono ?_
    rintro e w' ⟨v', rfl, h2, h3, h4⟩
    have hf : follow sts (nu, st) = if nu = sts.length + 1 ∧ (lifeOf 1 (sts ++ [st])).isSome then some (sts ++ [st]) else none := by
      unfold follow
      rw [if_neg hc]
    refine ⟨v', ?_, fun s2 h5 => ?_, h3, h4⟩
    · rw [hf, ofB_ok]
      by_cases hs : nu = (sts.length : Int) + 1
      · rw [decide_eq_true hs, Bool.true_and]
        cases (lifeOf 1 (sts ++ [st])).isSome with
        | true => rw [if_pos ⟨hs, rfl⟩]; rfl
        | false => rw [if_neg (by simp)]; rfl
      · rw [decide_eq_false hs, if_neg (fun h => hs h.1)]; rfl
    · rw [hf] at h5
      split at h5
      · injection h5 with h5
        subst h5
        rw [List.length_append]
        exact h2
      · cases h5
/-- What the map holds when k messages were taken. -/
structure InvS (E : List En) (L : List Sd) (k : Nat) : Prop where
  inn : ∀ (j : Nat) (x : En), E[j]? = some x → run (some []) (upd x.f x.t (L.take k)) = some x.sts
  out : ∀ f t : ByteArray, (∀ (j : Nat) (x : En), E[j]? = some x → ¬ (x.f = f ∧ x.t = t)) → upd f t (L.take k) = []
theorem InvS.zero (L : List Sd) : InvS [] L 0 := ⟨fun j x h => by simp at h, fun f t _ => by simp [upd]⟩
theorem InvS.skip {E : List En} {L : List Sd} {k : Nat} {x : Sd} (h : InvS E L k) (hx : L[k]? = some x) (hk : ¬ x.kd = 11) : InvS E L (k + 1) := by
  have hs : ∀ f t, sel f t x = false := fun f t => by unfold sel; simp [hk]
  exact ⟨fun j y hy => by rw [upd_no hx (hs _ _)]; exact h.inn j y hy, fun f t ho => by rw [upd_no hx (hs _ _)]; exact h.out f t ho⟩
theorem InvS.fail {L : List Sd} {k : Nat} {x : Sd} {sts : List Int} (hx : L[k]? = some x) (hk : x.kd = 11) (hr : run (some []) (upd x.F x.T (L.take k)) = some sts) (hf : follow sts (x.nu, x.st) = none) : okS L = false := by
  unfold okS
  rw [List.all_eq_false]
  refine ⟨x, List.mem_of_getElem? hx, ?_⟩
  obtain ⟨r, hr2⟩ := upd_split x.F x.T L (k + 1)
  rw [hr2, run_append, upd_yes hx (sel_iff.2 ⟨hk, rfl, rfl⟩), run_append, hr]
  simp only [run, hf, run_none, hk]
  simp
theorem InvS.ends {E : List En} {L : List Sd} (h : InvS E L L.length) : okS L = true := by
  unfold okS
  rw [List.all_eq_true]
  intro x hx
  by_cases hk : x.kd = 11
  · simp only [hk]
    have hu := h.out x.F x.T
    rw [List.take_length] at hu
    by_cases hE : ∃ (j : Nat) (e : En), E[j]? = some e ∧ e.f = x.F ∧ e.t = x.T
    · obtain ⟨j, e, hj, h1, h2⟩ := hE
      have := h.inn j e hj
      rw [List.take_length, h1, h2] at this
      rw [this]
      rfl
    · rw [hu fun j e hj hh => hE ⟨j, e, hj, hh⟩]
      rfl
  · have : (x.kd != 11) = true := by simpa [bne] using hk
    simp [this]
/-- The next update's row, looked up; and what comes of it when it is put back. -/
theorem StP.pick {w : World} {B b : Nat} {E : List En} {L : List Sd} {k : Nat} {x : Sd} (h : StP w B b E) (hI : InvS E L k) (hx : L[k]? = some x) (hk : x.kd = 11) : ∃ v sts,
    (∀ wa, StP wa B b E → (Instr.lookup 47 (.map (some b)) (enK x.F x.T) false).run Try.prog wa = .ok v wa ∧ wa.ownsRow B 3 1 v sts.length (ints sts)) ∧ run (some []) (upd x.F x.T (L.take k)) = some sts ∧
    (∀ (w w' : World) (v' : Value) (s2 : List Int), StP w B b E → B ≤ w.heap.size → w.grownBy w' v.ownBlock → w'.ownsRow B 3 1 v' s2.length (ints s2) → (∀ g, v'.ownBlock = some g → v.ownBlock = some g ∨ w.heap.size ≤ g) → follow sts (x.nu, x.st) = some s2 →
      ∃ w2 E2, (Instr.mapUpdate 47 (.map (some b)) (enK x.F x.T) v').run Try.prog w' = .ok () w2 ∧ StP w2 B b E2 ∧ InvS E2 L (k + 1) ∧ (∀ w0 : World, B = w0.heap.size → Below B w0 w → Below B w0 w2)) := by
  have hself : sel x.F x.T x = true := sel_iff.2 ⟨hk, rfl, rfl⟩
  have hoth : ∀ f t, ¬ (x.F = f ∧ x.T = t) → sel f t x = false := fun f t hne => by
    cases hs : sel f t x with
    | false => rfl
    | true => exact absurd (sel_iff.1 hs).2 hne
  by_cases hE : ∃ (j : Nat) (e : En), E[j]? = some e ∧ e.f = x.F ∧ e.t = x.T
  · obtain ⟨j, e, hj, h1, h2⟩ := hE
    refine ⟨e.v, e.sts, fun wa ha => ⟨by rw [← h1, ← h2]; exact ha.look_yes hj, ha.rows j e hj⟩, by rw [← h1, ← h2]; exact hI.inn j e hj, ?_⟩
    intro w w' v' s2 hw hB hg ho hn hf
    obtain ⟨w2, g1, g2, g3⟩ := hw.turn hB hj hg ho hn
    rw [h1, h2] at g1
    have hjl := (List.getElem?_eq_some_iff.1 hj).1
    refine ⟨w2, _, g1, g2, ⟨?_, ?_⟩, g3⟩
    · intro i y hy
      by_cases ei : j = i
      · subst ei
        rw [List.getElem?_set_self hjl] at hy
        injection hy with hy
        subst hy
        show run _ (upd e.f e.t _) = some s2
        rw [h1, h2, upd_yes hx hself, run_append]
        have := hI.inn j e hj
        rw [h1, h2] at this
        rw [this]
        simp only [run, hf]
      · rw [List.getElem?_set_ne ei] at hy
        have hne : ¬ (x.F = y.f ∧ x.T = y.t) := fun hh => ei (hw.uniq j i e y hj hy (by rw [h1, hh.1]) (by rw [h2, hh.2]))
        rw [upd_no hx (hoth _ _ hne)]
        exact hI.inn i y hy
    · intro f t ho
      have hne : ¬ (x.F = f ∧ x.T = t) := fun hh => ho j _ (List.getElem?_set_self hjl) ⟨by show e.f = f; rw [h1, hh.1], by show e.t = t; rw [h2, hh.2]⟩
      rw [upd_no hx (hoth _ _ hne)]
      refine hI.out f t fun i y hy hh => ?_
      by_cases ei : j = i
      · subst ei
        rw [hj] at hy
        injection hy with hy
        subst hy
        exact hne ⟨by rw [← h1, hh.1], by rw [← h2, hh.2]⟩
      · exact ho i y (by rw [List.getElem?_set_ne ei]; exact hy) hh
  · have hno : ∀ (j : Nat) (e : En), E[j]? = some e → ¬ (e.f = x.F ∧ e.t = x.T) := fun j e hj hh => hE ⟨j, e, hj, hh⟩
    refine ⟨.slice none 0 0, [], fun wa ha => ⟨ha.look_no hno, ⟨by simp, .inl ⟨rfl, rfl⟩⟩⟩, by rw [hI.out _ _ hno]; rfl, ?_⟩
    intro w w' v' s2 hw hB hg ho hn hf
    obtain ⟨w2, g1, g2, g3⟩ := hw.push hB hno hg ho hn
    have get : ∀ (i : Nat) (y : En), (E ++ [⟨x.F, x.T, v', s2⟩])[i]? = some y → y = ⟨x.F, x.T, v', s2⟩ ∨ E[i]? = some y := by
      intro i y hy
      rcases Nat.lt_trichotomy i E.length with hl | rfl | hl
      · rw [List.getElem?_append_left hl] at hy
        exact .inr hy
      · rw [List.getElem?_append_right (Nat.le_refl _), Nat.sub_self] at hy
        exact .inl (by simpa using hy.symm)
      · rw [List.getElem?_eq_none (by simp; omega)] at hy
        cases hy
    refine ⟨w2, _, g1, g2, ⟨?_, ?_⟩, g3⟩
    · intro i y hy
      rcases get i y hy with rfl | hy
      · show run _ (upd x.F x.T _) = some s2
        rw [upd_yes hx hself, run_append, hI.out _ _ hno]
        simp only [run, hf]
      · have hne : ¬ (x.F = y.f ∧ x.T = y.t) := fun hh => hno i y hy ⟨hh.1.symm, hh.2.symm⟩
        rw [upd_no hx (hoth _ _ hne)]
        exact hI.inn i y hy
    · intro f t ho
      have hne : ¬ (x.F = f ∧ x.T = t) := fun hh => ho E.length ⟨x.F, x.T, v', s2⟩ (by rw [List.getElem?_append_right (Nat.le_refl _), Nat.sub_self]; rfl) hh
      rw [upd_no hx (hoth _ _ hne)]
      exact hI.out f t fun i y hy => ho i y (by rw [List.getElem?_append_left (List.getElem?_eq_some_iff.1 hy).1]; exact hy)
end Go.Proofs.Yticmldkgkfcoeaa.Wa
