/- The plain terms say no more than the executor. -/
import Derived.Test.YtdmkogfpaffnhaaGreatDoorDen
namespace Go.Proofs.YtdmkogfpaffnhaaGreatDoor
open Go Go.RowKit

theorem setAll_get (f : Nat → Value) : ∀ (as : List Nat) (T : Tr Value) (i : Nat), (setAll as (as.map f) T).get i = if i ∈ as then some (f i) else T.get i
  | [], T, i => by simp [setAll]
  | a :: as, T, i => by
    simp only [List.map_cons, setAll]
    rw [setAll_get f as, Tr.get_set]
    by_cases h1 : i ∈ as
    · simp [h1]
    · by_cases h2 : i = a
      · subst h2; simp [h1]
      · simp [h1, h2]
theorem getT_setAll (f : Nat → Value) (as : List Nat) (T : Tr Value) (i : Nat) : getT (setAll as (as.map f) T) i = if i ∈ as then f i else getT T i := by
  unfold getT
  rw [setAll_get]
  split <;> rfl
theorem appN_lamN : ∀ (n : Nat) (f : List Value → AHeap → R) (l : List Value) (h : AHeap), l.length = n → appN n (lamN n f) l h = f l h
  | 0, f, [], h, _ => rfl
  | n + 1, f, v :: l, h, hl => by
    simp only [appN, lamN]
    exact appN_lamN n (fun l => f (v :: l)) l h (by simpa using hl)
theorem oRes_ok {r : R} {k : KV} {x : Value × AHeap} (h : oRes r k = some x) : ∃ v h', r = some (v, h') ∧ k v h' = some x := by
  unfold oRes at h
  split at h
  · rename_i r
    exact ⟨r.1, r.2, rfl, h⟩
  · cases h
section
variable {P : Program} {c : XCall}
theorem mem_tmps {l : List Operand} {t : Nat} (h : Operand.tmp t ∈ l) : t ∈ tmpsOf l := by
  unfold tmpsOf
  rw [List.mem_eraseDups, List.mem_filterMap]
  exact ⟨_, h, rfl⟩
theorem genR_eq (o : Oper) (T : Tr Value) (h : AHeap) : genR P c o T h = xop P c o T h := by
  unfold genR oGen
  refine xop_congr c o (fun x hx => ?_) h
  cases x with
  | tmp t =>
    simp only [ev]
    rw [setAll_get, if_pos (mem_tmps (by simpa using hx))]
    rfl
  | _ => rfl
theorem gen_ok {o : Oper} {T : Tr Value} {h : AHeap} {k : KV} {x : Value × AHeap} (hx : gen P c o T h k = some x) : ∃ v h', xop P c o T h = some (v, h') ∧ k v h' = some x := by
  unfold gen at hx
  rw [genR_eq] at hx
  exact oRes_ok hx
theorem oLoad1_ok {t : TypeId} {v : Value} {h : AHeap} {k : KV} {x : Value × AHeap} (ha : isAggP P t = some false) (hx : oLoad1 v h k = some x) : ∃ ad u, v = .pointer (some ad) ∧ aload P h t ad = some u ∧ k u h = some x := by
  unfold oLoad1 at hx
  split at hx
  · rename_i ad
    split at hx
    · cases hx
    · rename_i hs
      split at hx
      · rename_i o ho
        split at hx
        · rename_i u hu
          refine ⟨ad, u, rfl, ?_, hx⟩
          simp [aload, hs, ho, ha, hu]
        · cases hx
      · cases hx
  · cases hx
theorem oLoadN_ok {t : TypeId} {s : Nat} {v : Value} {h : AHeap} {k : KV} {x : Value × AHeap} (ha : isAggP P t = some true) (hs' : sizeP P t = some s) (hx : oLoadN s v h k = some x) : ∃ ad u, v = .pointer (some ad) ∧ aload P h t ad = some u ∧ k u h = some x := by
  unfold oLoadN at hx
  split at hx
  · rename_i ad
    split at hx
    · cases hx
    · rename_i hs
      split at hx
      · rename_i o ho
        split at hx
        · rename_i cs hu
          refine ⟨ad, _, rfl, ?_, hx⟩
          simp [aload, hs, ho, ha, hs', hu]
        · cases hx
      · cases hx
  · cases hx
theorem blt_dec (a b : Nat) : Nat.ble (a + 1) b = decide (a < b) := by
  by_cases h : a < b
  · rw [decide_eq_true h]; exact Nat.ble_eq.mpr h
  · rw [decide_eq_false h, Bool.eq_false_iff]; intro h2; exact h (Nat.ble_eq.mp h2)
theorem beq_dec (a b : Nat) : Nat.beq a b = decide (a = b) := by
  by_cases h : a = b
  · rw [decide_eq_true h]; subst h; exact Nat.beq_refl a
  · rw [decide_eq_false h, Bool.eq_false_iff]; intro h2; exact h (Nat.eq_of_beq_eq_true h2)
theorem dec_congr {p q : Prop} [Decidable p] [Decidable q] (h : p ↔ q) : decide p = decide q := by simp [h]
theorem iLt_ok (a b : Int) : iLt a b = decide (a < b) := by
  cases a with
  | ofNat a =>
    cases b with
    | ofNat b => show Nat.ble (a + 1) b = _; rw [blt_dec]; exact dec_congr (by simp only [Int.ofNat_eq_natCast]; omega)
    | negSucc b => exact (decide_eq_false (by simp only [Int.ofNat_eq_natCast]; omega)).symm
  | negSucc a =>
    cases b with
    | ofNat b => exact (decide_eq_true (by simp only [Int.ofNat_eq_natCast]; omega)).symm
    | negSucc b => show Nat.ble (b + 1) a = _; rw [blt_dec]; exact dec_congr (by omega)
theorem iEq_ok (a b : Int) : iEq a b = decide (a = b) := by
  cases a with
  | ofNat a =>
    cases b with
    | ofNat b => show Nat.beq a b = _; rw [beq_dec]; exact dec_congr (by simp only [Int.ofNat_eq_natCast]; omega)
    | negSucc b => exact (decide_eq_false (by simp only [Int.ofNat_eq_natCast]; omega)).symm
  | negSucc a =>
    cases b with
    | ofNat b => exact (decide_eq_false (by simp only [Int.ofNat_eq_natCast]; omega)).symm
    | negSucc b => show Nat.beq a b = _; rw [beq_dec]; exact dec_congr (by omega)
theorem inK'_ok {k : IntKind} {z : Int} (h : inK' k z = true) : inK k z = true := by
  cases k <;> simp only [inK'] at h <;> try cases h
  · cases z <;> simp only [Nat.blt, Nat.ble_eq] at h <;> simp only [inK, Bool.and_eq_true, decide_eq_true_eq, Int.ofNat_eq_natCast] <;> omega
  · cases z <;> simp only [Nat.blt, Nat.ble_eq] at h <;> first | (cases h; done) | (simp only [inK, Bool.and_eq_true, decide_eq_true_eq, Int.ofNat_eq_natCast]; omega)
theorem intOp_ok {op : BinOp} {f : IntKind → Int → Int → Option Value} (hf : intOp op = some f) {k : IntKind} {a b : Int} {v : Value} (hv : f k a b = some v) : fastB op (.int k a) (.int k b) = some v := by
  have r1 : ∀ a, rng (.int k a) = some (k, a, a) := fun _ => rfl
  have hs : sameTok (.int k a) (.int k b) = none := rfl
  cases op <;> simp only [intOp, Option.some.injEq] at hf <;> first | (cases hf; done) | skip
  all_goals subst hf
  · simp only [fAdd] at hv
    cases hi : inK' k (Int.add a b) with
    | false => rw [hi] at hv; cases hv
    | true =>
      rw [hi] at hv
      have h2 : inK k (a + b) = true := inK'_ok hi
      simp only [fastB, r1, if_true, litV, shiftV]
      rw [if_pos h2]
      exact hv
  · simp only [fSub] at hv
    cases hi : inK' k (Int.add a (Int.neg b)) with
    | false => rw [hi] at hv; cases hv
    | true =>
      rw [hi] at hv
      have h2 : inK k (a + -b) = true := inK'_ok hi
      simp only [fastB, r1, if_true, litV, shiftV]
      rw [if_pos h2]
      exact hv
  all_goals
    simp only [fLss, fLeq, fGtr, fGeq, fEql, fNeq, Option.some.injEq, iLt_ok, iEq_ok] at hv
    subst hv
    simp only [fastB, r1, if_true, hs, cmpR]
    (repeat' split) <;> simp_all <;> omega
theorem den1_ok {o : Oper} {T : Tr Value} {h : AHeap} {k : KV} {x : Value × AHeap} (hx : den1 P c o T h k = some x) : ∃ v h', xop P c o T h = some (v, h') ∧ k v h' = some x := by
  unfold den1 at hx
  simp only [ifH_eq] at hx
  have hg : ∀ {x}, gen P c o T h k = some x → ∃ v h', xop P c o T h = some (v, h') ∧ k v h' = some x := fun h => gen_ok h
  split at hx
  · rename_i y ho
    split at hx
    · exact ⟨_, h, by simp only [xop, ho, atomic, *, Option.bind_some], hx⟩
    · cases hx
  · rename_i y ho
    split at hx
    · exact ⟨_, h, by simp only [xop, ho, atomic, *, Option.bind_some], hx⟩
    · cases hx
  · rename_i q y z ho
    split at hx
    · rename_i vq vy vz e1 e2 e3
      unfold oPick at hx
      split at hx
      · rename_i t
        refine ⟨_, h, ?_, hx⟩
        simp only [xop, ho, e1, e2, e3, atomic]
        cases t <;> rfl
      · cases hx
    · cases hx
  · rename_i y ix ho
    split at hx
    · rename_i v e1
      unfold oExt at hx
      split at hx
      · split at hx
        · rename_i u hu
          exact ⟨u, h, by simp only [xop, ho, e1, atomic, hu, Option.bind_some], hx⟩
        · cases hx
      · cases hx
    · cases hx
  · rename_i y ho
    split at hx
    · rename_i v e1
      unfold oNil at hx
      split at hx
      · exact ⟨_, h, by simp only [xop, ho, e1], hx⟩
      · cases hx
    · cases hx
  · rename_i e ho
    split at hx
    · rename_i z hz
      exact ⟨_, _, by simp only [xop, ho, hz, anew], hx⟩
    · cases hx
  · rename_i e y ho
    split at hx
    · rename_i v e1
      unfold oBox at hx
      split at hx
      · cases hx
      · exact ⟨_, _, by simp only [xop, ho, e1, Option.bind_some, cellsV, Value.cells, anew], hx⟩
      · rename_i hn1 hn2
        refine ⟨_, _, ?_, hx⟩
        have hc : cellsV v = some [v] := by
          unfold cellsV
          split
          · exact absurd rfl (hn1 _)
          · unfold Value.cells
            split
            · exact absurd rfl (hn2 _)
            · rfl
        simp only [xop, ho, e1, Option.bind_some, hc, anew, List.length_singleton]
    · cases hx
  · rename_i t y ho
    split at hx
    · rename_i v e1 ha
      obtain ⟨ad, u, rfl, h1, h2⟩ := oLoad1_ok ha hx
      exact ⟨u, h, by simp only [xop, ho, e1, h1, atomic, Option.bind_some], h2⟩
    · rename_i v e1 ha
      split at hx
      · rename_i s hs
        obtain ⟨ad, u, rfl, h1, h2⟩ := oLoadN_ok ha hs hx
        exact ⟨u, h, by simp only [xop, ho, e1, h1, atomic, Option.bind_some], h2⟩
      · cases hx
    · cases hx
  · rename_i t y z ho
    split at hx
    · rename_i vx vy s e1 e2 hs
      unfold oStore at hx
      split at hx
      · rename_i ad
        split at hx
        · cases hx
        · rename_i hsp
          split at hx
          · rename_i cs hcs
            cases hb : Nat.beq s cs.length with
            | false => rw [hb] at hx; cases hx
            | true =>
              rw [hb] at hx
              simp only [cond_true] at hx
              split at hx
              · rename_i h' hst
                refine ⟨_, h', ?_, hx⟩
                have : s = cs.length := Nat.eq_of_beq_eq_true hb
                simp [xop, ho, e1, e2, hcs, hsp, hs, this, hst]
              · cases hx
          · cases hx
      · cases hx
    · cases hx
  · rename_i t y f ho
    split at hx
    · rename_i fs v hu e1
      split at hx
      · rename_i fd hf
        split at hx
        · rename_i s hs
          split at hx
          · cases hx
          · rename_i hs0
            unfold oField at hx
            split at hx
            · rename_i ad
              split at hx
              · cases hx
              · rename_i hsp
                refine ⟨_, h, ?_, hx⟩
                simp [xop, ho, e1, atomic, afieldAddr, hu, hf, hs, hs0, hsp]
            · cases hx
        · cases hx
      · cases hx
    · cases hx
  · rename_i t y f ho
    split at hx
    · rename_i fs v hu e1
      split at hx
      · rename_i fd hf
        split at hx
        · rename_i ha
          split at hx
          · rename_i s hs
            unfold oPartN at hx
            split at hx
            · refine ⟨_, h, ?_, hx⟩
              simp [xop, ho, e1, atomic, afield, hu, hf, apart, ha, hs]
            · cases hx
          · cases hx
        · rename_i ha
          unfold oPart1 at hx
          split at hx
          · split at hx
            · rename_i u hu'
              refine ⟨u, h, ?_, hx⟩
              simp [xop, ho, e1, atomic, afield, hu, hf, apart, ha, hu']
            · cases hx
          · cases hx
        · cases hx
      · cases hx
    · cases hx
  · rename_i t y i ho
    split at hx
    · rename_i e hu
      split at hx
      · rename_i s vx vi hs e1 e2
        unfold oIdx at hx
        split at hx
        · rename_i ad n cc kk ii
          split at hx
          · rename_i m
            cases hb : Nat.blt m n with
            | false => rw [hb] at hx; cases hx
            | true =>
              rw [hb] at hx
              have hlt : m < n := Nat.ble_eq.mp hb
              refine ⟨_, h, ?_, hx⟩
              have h0 : (0 : Int) ≤ Int.ofNat m ∧ (Int.ofNat m : Int) < n := ⟨Int.natCast_nonneg m, Int.ofNat_lt.2 hlt⟩
              simp only [xop, ho, e1, e2, atomic, aindexAddr, hu, hs, Option.bind_some, if_pos h0]
              rfl
          · cases hx
        · cases hx
      · cases hx
    · exact hg hx
  · rename_i op t y z yt ho
    split at hx
    · rename_i f vx vy hf e1 e2
      unfold oInt2 at hx
      split at hx
      · rename_i p a q b
        split at hx
        · rename_i v hv
          cases hb : (p == q) with
          | false =>
            rw [hb] at hx
            simp only [cond_false] at hx
            rw [genR_eq] at hx
            exact oRes_ok hx
          | true =>
            rw [hb] at hx
            have e : p = q := by simpa using hb
            subst e
            exact ⟨v, h, by simp only [xop, ho, e1, e2, intOp_ok hf hv], hx⟩
        · rw [genR_eq] at hx
          exact oRes_ok hx
      · rw [genR_eq] at hx
        exact oRes_ok hx
    · exact hg hx
  · rename_i q ho
    split at hx
    · rename_i id hcal
      split at hx
      · exact hg hx
      · rename_i hout
        split at hx
        · rename_i args hargs
          unfold oCall at hx
          split at hx
          · rename_i r hr
            refine ⟨r.1, r.2, ?_, hx⟩
            simp only [xop, ho, hcal, ev, hargs, Option.bind_some, hout, Bool.false_eq_true, if_false, List.nil_append, List.append_nil, hr]
          · cases hx
        · cases hx
    · rename_i hcal
      split at hx
      · rename_i t ht
        split at hx
        · rename_i e y hu hargs
          unfold oLen at hx
          split at hx
          · rename_i ad n cc
            refine ⟨_, h, ?_, hx⟩
            simp only [xop, ho, hcal, hargs, Option.bind_some, orPure, xbuiltin, ht, hu]
          · rw [genR_eq] at hx
            exact oRes_ok hx
        · exact hg hx
      · cases hx
    · exact hg hx
  · exact hg hx
end
end Go.Proofs.YtdmkogfpaffnhaaGreatDoor
