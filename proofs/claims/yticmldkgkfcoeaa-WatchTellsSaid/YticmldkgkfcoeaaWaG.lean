/- The streams, task by task: the program's map. -/
import Derived.Test.YticmldkgkfcoeaaWaE
import Derived.Test.YticmldkgkfcoeaaMapW
import Derived.OrdersHeld
import Derived.Deep.RegionLaw
namespace Go.Proofs.Yticmldkgkfcoeaa.Wa
open Go Go.RowKit Go.Proofs.Yticmldkgkfcoeaa Go.Proofs.Yticmldkgkfcoeaa.Crw Go.ChangeShapes Go.WideShapes Go.ChangeAt
set_option linter.unusedVariables false
set_option maxRecDepth 100000
theorem byt_inj {a b : ByteArray} (h : (a.toList == b.toList) = true) : a = b := by
  have h1 : a.toList = b.toList := by simpa using h
  rw [ByteArray.toList_eq, ByteArray.toList_eq] at h1
  obtain ⟨⟨x⟩⟩ := a
  obtain ⟨⟨y⟩⟩ := b
  simp only at h1
  rw [h1]
theorem sel_iff {f t : ByteArray} {x : Sd} : sel f t x = true ↔ x.kd = 11 ∧ x.F = f ∧ x.T = t := by
  unfold sel
  simp only [Bool.and_eq_true, beq_iff_eq]
  constructor
  · rintro ⟨⟨h1, h2⟩, h3⟩
    exact ⟨h1, byt_inj (by simpa using h2), byt_inj (by simpa using h3)⟩
  · rintro ⟨h1, rfl, rfl⟩
    exact ⟨⟨h1, rfl⟩, rfl⟩
/-- The task's updates. -/
def upd (f t : ByteArray) (L : List Sd) : List (Int × Int) := (L.filter (sel f t)).map fun x => (x.nu, x.st)
theorem upd_no {f t : ByteArray} {L : List Sd} {k : Nat} {x : Sd} (h : L[k]? = some x) (hs : sel f t x = false) : upd f t (L.take (k + 1)) = upd f t (L.take k) := by
  unfold upd
  rw [List.take_add_one, h, List.filter_append]
  simp [hs]
theorem upd_yes {f t : ByteArray} {L : List Sd} {k : Nat} {x : Sd} (h : L[k]? = some x) (hs : sel f t x = true) : upd f t (L.take (k + 1)) = upd f t (L.take k) ++ [(x.nu, x.st)] := by
  unfold upd
  rw [List.take_add_one, h, List.filter_append]
  simp [hs]
theorem upd_split (f t : ByteArray) (L : List Sd) (k : Nat) : ∃ r, upd f t L = upd f t (L.take k) ++ r := by
  refine ⟨upd f t (L.drop k), ?_⟩
  unfold upd
  rw [← List.map_append, ← List.filter_append, List.take_append_drop]
theorem nums_upd (f t : ByteArray) (L : List Sd) : nums f t L = sent [] ((upd f t L).map (·.1)) := by
  unfold nums upd
  rw [List.map_map]
  rfl
/-- One by one, all may be. -/
def okS (L : List Sd) : Bool := L.all fun x => x.kd != 11 || (run (some []) (upd x.F x.T L)).isSome
structure En where
  f : ByteArray
  t : ByteArray
  v : Value
  sts : List Int
abbrev enK (f t : ByteArray) : Value := .agg #[.string f, .string t]
abbrev enE (x : En) : Value × Value := (enK x.f x.t, x.v)
abbrev ints (l : List Int) : List Value := l.map (Value.int .i64)
theorem beqK (f t f' t' : ByteArray) : beq1 (enK f t) (enK f' t') = (decide (f.data.toList = f'.data.toList) && (decide (t.data.toList = t'.data.toList) && true)) := rfl
theorem beqK_self (f t : ByteArray) : beq1 (enK f t) (enK f t) = true := by rw [beqK]; simp
theorem beqK_eq {f t f' t' : ByteArray} (h : beq1 (enK f t) (enK f' t') = true) : f = f' ∧ t = t' := by
  rw [beqK] at h
  simp only [Bool.and_eq_true, decide_eq_true_eq, and_true] at h
  exact ⟨byt_inj (by rw [ByteArray.toList_eq, ByteArray.toList_eq, h.1]; simp), byt_inj (by rw [ByteArray.toList_eq, ByteArray.toList_eq, h.2]; simp)⟩
structure StP (w : World) (B b : Nat) (E : List En) : Prop where
  mp : MapAt w b (E.map enE)
  ge : B ≤ b
  rows : ∀ (k : Nat) (x : En), E[k]? = some x → w.ownsRow B 3 1 x.v x.sts.length (ints x.sts)
  uniq : ∀ (j k : Nat) (x y : En), E[j]? = some x → E[k]? = some y → y.f = x.f → y.t = x.t → j = k
  apart : ∀ (j k : Nat) (x y : En), E[j]? = some x → E[k]? = some y → j ≠ k → x.v.ownBlock = none ∨ x.v.ownBlock ≠ y.v.ownBlock
section
variable {w w' : World} {B b : Nat} {E : List En}
theorem StP.below (h : StP w B b E) (hb : Below w.heap.size w w') : StP w' B b E :=
  ⟨h.mp.keep (hb.block _ h.mp.lt), h.ge, fun k x hx => own_keep (h.rows k x hx) hb, h.uniq, h.apart⟩
theorem StP.drewN (h : StP w B b E) (n : Nat) : StP (w.drewN n) B b E := h.below (below_drewN (Below.refl _ _) n)
theorem own_map_ne {v : Value} {n : Nat} {xs : List Value} {kvs : List (Value × Value)} {e : TypeId} (ho : w.ownsRow B e 1 v n xs) (hm : MapAt w b kvs) : v.ownBlock ≠ some b := by
  rcases ho.2 with ⟨rfl, _⟩ | ⟨g, cap, cur, rfl, _, hg, _⟩
  · simp [Value.ownBlock]
  · intro e
    have : g = b := by simpa [Value.ownBlock] using e
    subst this
    obtain ⟨es, ck, h1, _⟩ := hm
    rw [h1] at hg
    cases hg
theorem kv_own [Toks] {v : Value} {n : Nat} {xs : List Value} {e : TypeId} (ho : w.ownsRow B e 1 v n xs) : VR1 idR v v := by
  rcases ho.2 with ⟨rfl, _⟩ | ⟨g, cap, cur, rfl, _, _, h1, _⟩
  · exact ⟨rfl, rfl⟩
  · exact ⟨h1, ⟨g, 0, 0⟩, 0, cap, rfl, rfl, Nat.le_refl _, fun _ => rfl, fun _ => rfl, fun h => absurd rfl h⟩
theorem key_fit (f t : ByteArray) : keyFit Try.prog 30 (enK f t) = true := by kernel_rfl
theorem StP.kv [Toks] (h : StP w B b E) : Kv Try.prog 30 (E.map enE) := by
  intro p hp
  obtain ⟨x, hx, rfl⟩ := List.mem_map.1 hp
  obtain ⟨k, hk⟩ := List.getElem?_of_mem hx
  exact ⟨key_fit _ _, kv_own (h.rows k x hk)⟩
theorem zero_ints : zeroP Try.prog 22 = some (.slice none 0 0) := by kernel_rfl
theorem StP.look_yes (h : StP w B b E) {j : Nat} {x : En} (hj : E[j]? = some x) :
    (Instr.lookup 47 (.map (some b)) (enK x.f x.t) false).run Try.prog w = .ok x.v w := by
  letI : Toks := ⟨fun _ => 0⟩
  have := h.mp.look_yes (P := Try.prog) (j := j) (v := x.v) (k := enK x.f x.t) Try.underlying47 h.kv (by rw [List.getElem?_map, hj]; rfl) (beqK_self _ _) (fun i p hi hp => by
    rw [List.getElem?_map] at hp
    cases hy : E[i]? with
    | none => rw [hy] at hp; cases hp
    | some y =>
      rw [hy] at hp
      injection hp with hp
      subst hp
      cases hh : beq1 (enK x.f x.t) (enK y.f y.t) with
      | false => rfl
      | true => exact absurd (h.uniq j i x y hj hy (beqK_eq hh).1.symm (beqK_eq hh).2.symm) (by omega)) false
  simpa using this
theorem StP.look_no (h : StP w B b E) {f t : ByteArray} (hs : ∀ (k : Nat) (x : En), E[k]? = some x → ¬ (x.f = f ∧ x.t = t)) :
    (Instr.lookup 47 (.map (some b)) (enK f t) false).run Try.prog w = .ok (.slice none 0 0) w := by
  letI : Toks := ⟨fun _ => 0⟩
  have := h.mp.look_no (P := Try.prog) (k := enK f t) Try.underlying47 h.kv (key_fit f t) (fun p hp => by
    obtain ⟨y, hy, rfl⟩ := List.mem_map.1 hp
    obtain ⟨k, hk⟩ := List.getElem?_of_mem hy
    cases hh : beq1 (enK f t) (enK y.f y.t) with
    | false => rfl
    | true => exact absurd ⟨(beqK_eq hh).1.symm, (beqK_eq hh).2.symm⟩ (hs k y hk)) zero_ints false
  simpa using this
theorem setter {g : Nat} {row : Option Nat} (h : w.grownBy w' row) (hg : row = none ∨ row = some g) : w.grownBy w' (some g) := by
  rcases hg with rfl | rfl
  · exact ⟨h.os, h.tape, h.output, h.size, fun i hi _ => h.block i hi (by simp)⟩
  · exact h
/-- One task's row has grown, and is put back. -/
theorem StP.turn (h : StP w B b E) (hB : B ≤ w.heap.size) {j : Nat} {x : En} (hj : E[j]? = some x) {v' : Value} {s2 : List Int} (hg : w.grownBy w' x.v.ownBlock) (ho : w'.ownsRow B 3 1 v' s2.length (ints s2)) (hn : ∀ g, v'.ownBlock = some g → x.v.ownBlock = some g ∨ w.heap.size ≤ g) :
    ∃ w2, (Instr.mapUpdate 47 (.map (some b)) (enK x.f x.t) v').run Try.prog w' = .ok () w2 ∧ StP w2 B b (E.set j { x with v := v', sts := s2 }) ∧ (∀ w0 : World, B = w0.heap.size → Below B w0 w → Below B w0 w2) := by
  letI : Toks := ⟨fun _ => 0⟩
  have hxm := own_map_ne (h.rows j x hj) h.mp
  have hm' : MapAt w' b (E.map enE) := h.mp.grown hg (fun e => hxm e.symm)
  obtain ⟨w2, h1, h2, h3⟩ := hm'.put_yes (P := Try.prog) (j := j) (u := x.v) (k := enK x.f x.t) Try.underlying47 h.kv (by rw [List.getElem?_map, hj]; rfl) (beqK_self _ _) (fun i p hi hp => by
    rw [List.getElem?_map] at hp
    cases hy : E[i]? with
    | none => rw [hy] at hp; cases hp
    | some y =>
      rw [hy] at hp
      injection hp with hp
      subst hp
      cases hh : beq1 (enK x.f x.t) (enK y.f y.t) with
      | false => rfl
      | true => exact absurd (h.uniq j i x y hj hy (beqK_eq hh).1.symm (beqK_eq hh).2.symm) (by omega)) v'
  have hjl := (List.getElem?_eq_some_iff.1 hj).1
  have get : ∀ (k : Nat) (y : En), (E.set j { x with v := v', sts := s2 })[k]? = some y → (k = j ∧ y = { x with v := v', sts := s2 }) ∨ (k ≠ j ∧ E[k]? = some y) := by
    intro k y hy
    by_cases e : j = k
    · subst e
      rw [List.getElem?_set_self hjl] at hy
      exact .inl ⟨rfl, by injection hy with hy; exact hy.symm⟩
    · rw [List.getElem?_set_ne e] at hy
      exact .inr ⟨fun e2 => e e2.symm, hy⟩
  have rowk : ∀ (k : Nat) (y : En), k ≠ j → E[k]? = some y → w'.ownsRow B 3 1 y.v y.sts.length (ints y.sts) := fun k y hk hy => (h.rows k y hy).kept hg (h.apart k j y x hy hj hk)
  have far : ∀ (k : Nat) (y : En), k ≠ j → E[k]? = some y → y.v.ownBlock = none ∨ y.v.ownBlock ≠ v'.ownBlock := by
    intro k y hk hy
    rcases hq : y.v.ownBlock with _ | q
    · exact .inl rfl
    · refine .inr fun e => ?_
      rcases hn q e.symm with h5 | h5
      · rcases h.apart k j y x hy hj hk with h6 | h6
        · rw [h6] at hq; cases hq
        · exact h6 (hq.trans h5.symm)
      · have := ((h.rows k y hy).lt q hq).2
        omega
  refine ⟨w2, h1, ⟨?_, h.ge, ?_, ?_, ?_⟩, ?_⟩
  · rw [List.map_set]
    exact h2
  · intro k y hy
    rcases get k y hy with ⟨rfl, rfl⟩ | ⟨hk, hy⟩
    · exact ho.kept h3 (.inr (own_map_ne ho hm'))
    · exact (rowk k y hk hy).kept h3 (.inr (own_map_ne (rowk k y hk hy) hm'))
  · intro i k y z hy hz h5 h6
    rcases get i y hy with ⟨rfl, rfl⟩ | ⟨hki, hyi⟩
    · rcases get k z hz with ⟨rfl, rfl⟩ | ⟨hk, hz⟩
      · rfl
      · exact h.uniq i k x z hj hz h5 h6
    · rcases get k z hz with ⟨rfl, rfl⟩ | ⟨hk, hz⟩
      · exact h.uniq i _ y x hyi hj h5 h6
      · exact h.uniq i k y z hyi hz h5 h6
  · intro i k y z hy hz hne
    rcases get i y hy with ⟨rfl, rfl⟩ | ⟨hki, hyi⟩
    · rcases get k z hz with ⟨rfl, rfl⟩ | ⟨hk, hz⟩
      · exact absurd rfl hne
      · rcases far k z hk hz with h8 | h8
        · rcases hv : v'.ownBlock with _ | q
          · exact .inl rfl
          · exact .inr (by rw [h8]; simp)
        · exact .inr fun e => h8 e.symm
    · rcases get k z hz with ⟨rfl, rfl⟩ | ⟨hk, hz⟩
      · exact far i y hki hyi
      · exact h.apart i k y z hyi hz hne
  · rintro w0 rfl hb0
    exact (hb0.grown hg hb0.size (fun k hk => ((h.rows j x hj).lt k hk).1)).grown h3 (Nat.le_trans hb0.size hg.size) (fun k hk => by injection hk with hk; rw [← hk]; exact h.ge)
/-- One task more. -/
theorem StP.push (h : StP w B b E) (hB : B ≤ w.heap.size) {f t : ByteArray} (hs : ∀ (k : Nat) (x : En), E[k]? = some x → ¬ (x.f = f ∧ x.t = t)) {v' : Value} {s2 : List Int} (hg : w.grownBy w' none) (ho : w'.ownsRow B 3 1 v' s2.length (ints s2)) (hn : ∀ g, v'.ownBlock = some g → none = some g ∨ w.heap.size ≤ g) :
    ∃ w2, (Instr.mapUpdate 47 (.map (some b)) (enK f t) v').run Try.prog w' = .ok () w2 ∧ StP w2 B b (E ++ [⟨f, t, v', s2⟩]) ∧ (∀ w0 : World, B = w0.heap.size → Below B w0 w → Below B w0 w2) := by
  letI : Toks := ⟨fun _ => 0⟩
  have hm' : MapAt w' b (E.map enE) := h.mp.grown hg (by simp)
  obtain ⟨w2, h1, h2, h3⟩ := hm'.put_no (P := Try.prog) (k := enK f t) Try.underlying47 h.kv (key_fit f t) (fun p hp => by
    obtain ⟨y, hy, rfl⟩ := List.mem_map.1 hp
    obtain ⟨k, hk⟩ := List.getElem?_of_mem hy
    cases hh : beq1 (enK f t) (enK y.f y.t) with
    | false => rfl
    | true => exact absurd ⟨(beqK_eq hh).1.symm, (beqK_eq hh).2.symm⟩ (hs k y hk)) v'
  have get : ∀ (k : Nat) (y : En), (E ++ [⟨f, t, v', s2⟩])[k]? = some y → (k = E.length ∧ y = ⟨f, t, v', s2⟩) ∨ (k < E.length ∧ E[k]? = some y) := by
    intro k y hy
    rcases Nat.lt_trichotomy k E.length with hl | rfl | hl
    · rw [List.getElem?_append_left hl] at hy
      exact .inr ⟨hl, hy⟩
    · rw [List.getElem?_append_right (Nat.le_refl _), Nat.sub_self] at hy
      exact .inl ⟨rfl, by simpa using hy.symm⟩
    · rw [List.getElem?_eq_none (by simp; omega)] at hy
      cases hy
  have rowk : ∀ (k : Nat) (y : En), E[k]? = some y → w'.ownsRow B 3 1 y.v y.sts.length (ints y.sts) := fun k y hy => (h.rows k y hy).kept hg (Classical.em _)
  have far : ∀ (k : Nat) (y : En), E[k]? = some y → y.v.ownBlock = none ∨ y.v.ownBlock ≠ v'.ownBlock := by
    intro k y hy
    rcases hq : y.v.ownBlock with _ | q
    · exact .inl rfl
    · refine .inr fun e => ?_
      rcases hn q e.symm with h5 | h5
      · cases h5
      · have := ((h.rows k y hy).lt q hq).2
        omega
  refine ⟨w2, h1, ⟨?_, h.ge, ?_, ?_, ?_⟩, ?_⟩
  · rw [List.map_append]
    exact h2
  · intro k y hy
    rcases get k y hy with ⟨rfl, rfl⟩ | ⟨hk, hy⟩
    · exact ho.kept h3 (.inr (own_map_ne ho hm'))
    · exact (rowk k y hy).kept h3 (.inr (own_map_ne (rowk k y hy) hm'))
  · intro i k y z hy hz h5 h6
    rcases get i y hy with ⟨rfl, rfl⟩ | ⟨hki, hyi⟩
    · rcases get k z hz with ⟨rfl, rfl⟩ | ⟨hk, hz⟩
      · rfl
      · exact absurd ⟨h5, h6⟩ (hs k z hz)
    · rcases get k z hz with ⟨rfl, rfl⟩ | ⟨hk, hz⟩
      · exact absurd ⟨h5.symm, h6.symm⟩ (hs i y hyi)
      · exact h.uniq i k y z hyi hz h5 h6
  · intro i k y z hy hz hne
    rcases get i y hy with ⟨rfl, rfl⟩ | ⟨hki, hyi⟩
    · rcases get k z hz with ⟨rfl, rfl⟩ | ⟨hk, hz⟩
      · exact absurd rfl hne
      · rcases far k z hz with h8 | h8
        · rcases hv : v'.ownBlock with _ | q
          · exact .inl rfl
          · exact .inr (by rw [h8]; simp)
        · exact .inr fun e => h8 e.symm
    · rcases get k z hz with ⟨rfl, rfl⟩ | ⟨hk, hz⟩
      · exact far i y hyi
      · exact h.apart i k y z hyi hz hne
  · rintro w0 rfl hb0
    exact (hb0.grown hg hb0.size (fun k hk => by cases hk)).grown h3 (Nat.le_trans hb0.size hg.size) (fun k hk => by injection hk with hk; rw [← hk]; exact h.ge)
end
end Go.Proofs.Yticmldkgkfcoeaa.Wa
