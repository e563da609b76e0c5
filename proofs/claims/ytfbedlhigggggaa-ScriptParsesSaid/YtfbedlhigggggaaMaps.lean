/- Maps and texts ranged over, abstract and real side by side. -/
import Derived.Test.YtfbedlhigggggaaFast
import Derived.Laws.StructEq
import Derived.MapKept
namespace Go.Proofs.Ytfbedlhigggggaa
open Go Go.RowKit
variable [Toks]
section keys
variable {P : Program}
omit [Toks]
theorem beq0_eq {a b : Value} (h : beq0 a b = true) : a = b := by
  unfold beq0 at h
  split at h
  case h_5 a b =>
    obtain ⟨a⟩ := a
    obtain ⟨b⟩ := b
    have e : a.toList = b.toList := of_decide_eq_true h
    rw [Array.toList_inj.1 e]
  all_goals simp_all
theorem beqL_eq : ∀ {l m : List Value}, beqL l m = true → l = m
  | [], [], _ => rfl
  | a :: l, b :: m, h => by
    simp only [beqL, Bool.and_eq_true] at h
    rw [beq0_eq h.1, beqL_eq h.2]
  | [], _ :: _, h => by simp [beqL] at h
  | _ :: _, [], h => by simp [beqL] at h
theorem beq1_eq {a b : Value} (h : beq1 a b = true) : a = b := by
  unfold beq1 at h
  split at h
  · rw [Array.toList_inj.1 (beqL_eq h)]
  · exact beq0_eq h
theorem beqT_eq : ∀ {l m : List Value}, beqT l m = true → l = m
  | [], [], _ => rfl
  | a :: l, b :: m, h => by
    simp only [beqT, Bool.and_eq_true] at h
    rw [beq1_eq h.1, beqT_eq h.2]
  | [], _ :: _, h => by simp [beqT] at h
  | _ :: _, [], h => by simp [beqT] at h
theorem beq2_eq {a b : Value} (h : beq2 a b = true) : a = b := by
  unfold beq2 at h
  split at h
  · rw [Array.toList_inj.1 (beqT_eq h)]
  · exact beq1_eq h
theorem beqI_eq {a b : Value} (h : beqI a b = true) : a = b := by
  unfold beqI at h
  split at h
  · simp_all
  · simp_all
  · simp_all
  · exact beq0_eq h
theorem beqIL_eq : ∀ {l m : List Value}, beqIL l m = true → l = m
  | [], [], _ => rfl
  | a :: l, b :: m, h => by
    simp only [beqIL, Bool.and_eq_true] at h
    rw [beqI_eq h.1, beqIL_eq h.2]
  | [], _ :: _, h => by simp [beqIL] at h
  | _ :: _, [], h => by simp [beqIL] at h
theorem beqI1_eq {a b : Value} (h : beqI1 a b = true) : a = b := by
  unfold beqI1 at h
  split at h
  · rw [Array.toList_inj.1 (beqIL_eq h)]
  · exact beqI_eq h
/-- A text or a whole number. -/
inductive Cell (P : Program) (t : TypeId) : Value → Prop where
  | str (s : ByteArray) : P.underlying t = some .string → Cell P t (.string s)
  | int (k : IntKind) (n : Int) : P.underlying t = some (.int k) → Cell P t (.int k n)
theorem keyCell_ok {t : TypeId} {v : Value} (h : keyCell P t v = true) : Cell P t v := by
  unfold keyCell at h
  split at h
  · exact .str _ ‹_›
  · have : ‹IntKind› = ‹IntKind› := rfl
    rename_i k k' n hu
    have e : k = k' := by simpa using h
    subst e
    exact .int _ _ hu
  · cases h
theorem Cell.flat {t : TypeId} {v : Value} (h : Cell P t v) : flat0 v = true := by cases h <;> rfl
theorem Cell.equal {t : TypeId} {a b : Value} (ha : Cell P t a) (hb : Cell P t b) (d : Nat) (w : World) : (Op.equalIn (d + 1) t a b).run P w = .ok (beq0 a b) w := by
  cases ha with
  | str s hu =>
    cases hb with
    | str s' _ =>
      rw [run_equalIn_string w d t s s' hu]
      congr 1
      simp only [beq0, ByteArray.toList_eq]
      by_cases e : s.data.toList = s'.data.toList
      · simp [e]
      · rw [decide_eq_false e]
        exact beq_eq_false_iff_ne.2 e
    | int k n hu' => rw [hu] at hu'; cases hu'
  | int k n hu =>
    cases hb with
    | str s' hu' => rw [hu] at hu'; cases hu'
    | int k' n' hu' =>
      rw [hu] at hu'
      cases hu'
      rw [run_equalIn_int w d t k k n n' hu]
      simp [beq0]
theorem Cell.agg {t : TypeId} {v : Value} (h : Cell P t v) (w : World) : (isAgg t).run P w = .ok false w := by
  cases h with
  | str s hu => simp [isAgg, Sem.run_bind, run_underlying hu]
  | int k n hu => simp [isAgg, Sem.run_bind, run_underlying hu]
theorem Cell.part {t : TypeId} {cs : Array Value} {i : Nat} {v : Value} (hi : cs[i]? = some v) (h : Cell P t v) (w : World) : (part t cs i).run P w = .ok v w := by
  simp only [Go.part, Sem.run_bind, h.agg w, Result.andThen_ok, Bool.false_eq_true, if_false, hi, Sem.run_pure]
theorem Cell.check {t : TypeId} {v : Value} (h : Cell P t v) (em : Bool) (n : Nat) (w : World) : (Instr.checkKey em (n + 1) t v).run P w = .ok () w := by
  cases h with
  | str s hu => simp [Instr.checkKey, Sem.run_bind, run_underlying hu]
  | int k n hu => simp [Instr.checkKey, Sem.run_bind, run_underlying hu]
theorem Cell.bits {t : TypeId} {v : Value} (h : Cell P t v) (n : Nat) : Instr.sameBits n v v = true := by
  cases h <;> cases n <;> simp [Instr.sameBits, beq_toListBytes]

inductive Cells (P : Program) : List Field → Nat → List Value → Prop where
  | nil (i : Nat) : Cells P [] i []
  | cons {f : Field} {fs : List Field} {i : Nat} {v : Value} {vs : List Value} : Cell P f.type v → f.offset = i → f.name ≠ "_" → Cells P fs (i + 1) vs → Cells P (f :: fs) i (v :: vs)
theorem keyCells_ok : ∀ {fs : List Field} {i : Nat} {vs : List Value}, keyCells P fs i vs = true → Cells P fs i vs
  | [], i, [], _ => .nil i
  | f :: fs, i, v :: vs, h => by
    simp only [keyCells, Bool.and_eq_true, bne_iff_ne, ne_eq] at h
    exact .cons (keyCell_ok h.1.1.1) (Nat.eq_of_beq_eq_true h.1.1.2) h.1.2 (keyCells_ok h.2)
  | [], _, _ :: _, h => by simp [keyCells] at h
  | _ :: _, _, [], h => by simp [keyCells] at h
theorem Cells.length {fs : List Field} {i : Nat} {vs : List Value} (h : Cells P fs i vs) : vs.length = fs.length := by induction h <;> simp_all
theorem Cells.flat {fs : List Field} {i : Nat} {vs : List Value} (h : Cells P fs i vs) : vs.all flat0 = true := by
  induction h with
  | nil => rfl
  | cons h1 _ _ _ ih => simp [h1.flat, ih]
theorem Cells.eqFields {fs : List Field} (d : Nat) (w : World) : ∀ {i : Nat} {vs ws : List Value}, Cells P fs i vs → Cells P fs i ws → ∀ {xs ys : Array Value}, (∀ k, vs[k]? ≠ none → xs[i + k]? = vs[k]?) → (∀ k, ws[k]? ≠ none → ys[i + k]? = ws[k]?) →
    (Op.eqFields (d + 1) xs ys fs).run P w = .ok (beqL vs ws) w := by
  induction fs with
  | nil =>
    intro i vs ws h1 h2 xs ys _ _
    cases h1; cases h2
    simp [Op.eqFields, beqL]
  | cons f fs ih =>
    intro i vs ws h1 h2 xs ys hx hy
    cases h1 with
    | cons a1 a2 a3 a4 =>
      cases h2 with
      | cons b1 b2 b3 b4 =>
        rename_i v vs v2 ws
        have e1 : xs[f.offset]? = some v := by rw [a2]; have := hx 0 (by simp); simpa using this
        have e2 : ys[f.offset]? = some v2 := by rw [a2]; have := hy 0 (by simp); simpa using this
        simp only [Op.eqFields, ne_eq, a3, not_false_eq_true, if_true, Sem.run_bind, a1.part e1 w, b1.part e2 w, Result.andThen_ok, a1.equal b1 d w, beqL]
        cases hb : beq0 v v2 with
        | false => simp
        | true =>
          simp only [Bool.not_true, Bool.false_eq_true, if_false, Bool.true_and]
          refine ih a4 b4 (fun k hk => ?_) fun k hk => ?_
          · have := hx (k + 1) (by simpa using hk)
            rw [show i + 1 + k = i + (k + 1) by omega, this]
            simp
          · have := hy (k + 1) (by simpa using hk)
            rw [show i + 1 + k = i + (k + 1) by omega, this]
            simp
/-- A key that fits. -/
inductive KeyOk (P : Program) (t : TypeId) : Value → Prop where
  | cell (v : Value) : Cell P t v → KeyOk P t v
  | agg (fs : Array Field) (cs : Array Value) : P.underlying t = some (.struct fs) → P.stoodInHeld t = false → Cells P fs.toList 0 cs.toList → KeyOk P t (.agg cs)
theorem keyFit_ok {t : TypeId} {v : Value} (h : keyFit P t v = true) : KeyOk P t v := by
  unfold keyFit at h
  split at h
  · split at h
    · rename_i fs hu
      simp only [Bool.and_eq_true, Bool.not_eq_true'] at h
      exact .agg fs _ hu h.1 (keyCells_ok h.2)
    · cases h
  · exact .cell _ (keyCell_ok h)
theorem KeyOk.flat {t : TypeId} {v : Value} (h : KeyOk P t v) : flat1 v = true := by
  cases h with
  | cell _ h => cases h <;> rfl
  | agg fs cs _ _ h => exact h.flat
theorem KeyOk.equal {t : TypeId} {a b : Value} (ha : KeyOk P t a) (hb : KeyOk P t b) (w : World) : (Op.equal t a b).run P w = .ok (beq1 a b) w := by
  cases ha with
  | cell _ ha =>
    cases hb with
    | cell _ hb =>
      have e : beq1 a b = beq0 a b := by cases ha <;> cases hb <;> rfl
      rw [e]
      exact ha.equal hb 9999 w
    | agg fs cs hu _ _ => exfalso; cases ha with
      | str s hu' => rw [hu] at hu'; cases hu'
      | int k n hu' => rw [hu] at hu'; cases hu'
  | agg fs cs hu hst hc =>
    cases hb with
    | cell _ hb => exfalso; cases hb with
      | str s hu' => rw [hu] at hu'; cases hu'
      | int k n hu' => rw [hu] at hu'; cases hu'
    | agg fs' cs' hu' _ hc' =>
      rw [hu] at hu'
      cases hu'
      have hf : P.fieldsOf t = fs := by simp [Program.fieldsOf, hu]
      show (Op.equalIn 10000 t (.agg cs) (.agg cs')).run P w = _
      rw [run_equalIn_struct w 9999 t cs cs' (by rw [hf]; exact hu) hst, hf]
      exact Cells.eqFields 9998 w hc hc' (fun k hk => by simp) fun k hk => by simp
theorem KeyOk.check' {t : TypeId} {v : Value} (h : KeyOk P t v) (em : Bool) (n : Nat) (w : World) : (Instr.checkKey em (n + 2) t v).run P w = .ok () w := by
  cases h with
  | cell _ h => exact h.check em (n + 1) w
  | agg fs cs hu hst hc =>
    rw [Instr.checkKey]
    simp only [Sem.run_bind, run_underlying hu, Result.andThen_ok]
    rw [← Array.forIn_toList]
    have key : ∀ (l : List Field) (i : Nat) (vs : List Value), Cells P l i vs → (∀ k, vs[k]? ≠ none → cs[i + k]? = vs[k]?) →
        (forIn l PUnit.unit fun f _ => do
          if f.name ≠ "_" then do
            let x ← part f.type cs f.offset
            Instr.checkKey em (n + 1) f.type x
            pure (.yield PUnit.unit)
          else pure (.yield PUnit.unit) : Sem PUnit).run P w = .ok PUnit.unit w := by
      intro l
      induction l with
      | nil => intro i vs _ _; simp
      | cons f l ih =>
        intro i vs hcs hx
        cases hcs with
        | cons a1 a2 a3 a4 =>
          rename_i v vs
          have e1 : cs[f.offset]? = some v := by rw [a2]; have := hx 0 (by simp); simpa using this
          simp only [List.forIn_cons, ne_eq, a3, not_false_eq_true, if_true, Sem.run_bind, a1.part e1 w, Result.andThen_ok, a1.check em n w, Sem.run_pure]
          refine ih (i + 1) vs a4 fun k hk => ?_
          have := hx (k + 1) (by simpa using hk)
          rw [show i + 1 + k = i + (k + 1) by omega, this]
          simp
    have := key fs.toList 0 cs.toList hc fun k _ => by simp
    simp at this ⊢
    rw [this]
    rfl
theorem KeyOk.check {t : TypeId} {v : Value} (h : KeyOk P t v) (em : Bool) (w : World) : (Instr.checkKey em 10000 t v).run P w = .ok () w := h.check' em 9998 w
theorem KeyOk.stays {t : TypeId} {v : Value} (h : KeyOk P t v) (w : World) : (Instr.keyThatStays v v).run P w = .ok v w := by
  have hb : Instr.sameBits 10000 v v = true := by
    cases h with
    | cell _ h => exact h.bits _
    | agg fs cs hu hst hc =>
      simp only [Instr.sameBits, beq_self_eq_true, Bool.true_and, List.all_eq_true]
      intro p hp
      have : p.1 = p.2 ∧ p.1 ∈ cs.toList := by
        have h1 : ∀ (l : List Value) (p : Value × Value), p ∈ l.zip l → p.1 = p.2 ∧ p.1 ∈ l := by
          intro l
          induction l with
          | nil => intro p hp; simp at hp
          | cons a l ih =>
            intro p hp
            simp only [List.zip_cons_cons, List.mem_cons] at hp
            rcases hp with rfl | hp
            · simp
            · obtain ⟨a1, a2⟩ := ih p hp; exact ⟨a1, by simp [a2]⟩
        exact h1 _ _ hp
      obtain ⟨e, hm⟩ := this
      rw [← e]
      have hcell : ∀ {fs : List Field} {i : Nat} {vs : List Value}, Cells P fs i vs → ∀ v ∈ vs, ∃ t, Cell P t v := by
        intro fs i vs h
        induction h with
        | nil => intro v hv; simp at hv
        | cons a1 _ _ _ ih =>
          intro v hv
          rcases List.mem_cons.1 hv with rfl | hv
          · exact ⟨_, a1⟩
          · exact ih v hv
      obtain ⟨_, hc⟩ := hcell hc _ hm
      exact hc.bits _
  simp [Instr.keyThatStays, hb]
/-- What stands at a key. -/
theorem find_ok {t : TypeId} {k : Value} (hk : KeyOk P t k) (w : World) : ∀ {l : List Value} {es : List MapEntry} {ρ : Ren} [Toks], LR (EntR ρ) l es → ∀ (i : Nat) {r : Option (Nat × Value)}, findE P t k l i = some r →
    ∃ r', (Instr.findKey t k es).run P w = .ok (r'.map fun p => (p.1 - i, p.2)) w ∧ (∀ p, r' = some p → i ≤ p.1) ∧
      match r with
      | none => r' = none
      | some (j, v) => ∃ v' e, r' = some (j, v') ∧ i ≤ j ∧ l[j - i]? = some (.tuple #[k, v]) ∧ es[j - i]? = some e ∧ e.key = k ∧ e.val = v' ∧ VR1 ρ v v' := by
  intro l es ρ _ hl i r hr
  -- by questions, one behind the other
  have ask : ∀ (l : List Value) (es : List MapEntry), LR (EntR ρ) l es → ∀ (i i0 : Nat) (r : Option (Nat × Value)), findE P t k l i = some r → ∃ r', (Instr.findAsking t k es i0).run P w = .ok (r'.map fun p => (p.1 + i0 - i, p.2)) w ∧ (∀ p, r' = some p → i ≤ p.1) ∧
      match r with
      | none => r' = none
      | some (j, v) => ∃ v' e, r' = some (j, v') ∧ i ≤ j ∧ l[j - i]? = some (.tuple #[k, v]) ∧ es[j - i]? = some e ∧ e.key = k ∧ e.val = v' ∧ VR1 ρ v v' := by
    intro l es hl
    induction hl with
    | nil =>
      intro i i0 r hr
      simp only [findE, Option.some.injEq] at hr
      subst hr
      exact ⟨none, rfl, fun p hp => (by cases hp), rfl⟩
    | cons h1 hl ih =>
      rename_i x e l es
      obtain ⟨a, b, rfl, k1, k2⟩ := h1
      intro i i0 r hr
      simp only [findE] at hr
      split at hr
      · rename_i hfit
        have hka := keyFit_ok hfit
        have ea : e.key = a := VR1.eq hka.flat k1
        split at hr
        · rename_i hb
          injection hr with hr
          subst hr
          have e2 := beq1_eq hb
          subst e2
          refine ⟨some (i, e.val), ?_, fun p hp => (by cases hp; exact Nat.le_refl _), e.val, e, rfl, Nat.le_refl _, by simp, by simp, ea, rfl, k2⟩
          simp only [Instr.findAsking, Sem.run_bind, ea, hka.equal hka w, hb, Result.andThen_ok, if_true, Sem.run_pure, Option.map_some, Nat.add_sub_cancel_left]
        · rename_i hb
          obtain ⟨r', g1, g2, g3⟩ := ih (i + 1) (i0 + 1) r hr
          refine ⟨r', ?_, fun p hp => by have := g2 p hp; omega, ?_⟩
          · simp only [Instr.findAsking, Sem.run_bind, ea, hk.equal hka w, Bool.eq_false_iff.2 hb, Result.andThen_ok, Bool.false_eq_true, if_false, g1]
            congr 1
            cases r' with
            | none => rfl
            | some p => have := g2 p rfl; simp only [Option.map_some]; congr 2; omega
          · cases r with
            | none => exact g3
            | some q =>
              obtain ⟨v', e', q1, q2, q3, q4, q5⟩ := g3
              refine ⟨v', e', q1, by omega, ?_, ?_, q5⟩
              · rw [show q.1 - i = (q.1 - (i + 1)) + 1 by omega]; simpa using q3
              · rw [show q.1 - i = (q.1 - (i + 1)) + 1 by omega]; simpa using q4
      · cases hr
  have now : ∀ (d : TypeDesc), P.underlying t = some d → (∀ v, KeyOk P t v → ∃ t', Cell P t' v) → (∀ a b : Value, KeyOk P t a → KeyOk P t b → Instr.sameNow d a b = some (beq1 a b)) → ∀ (l : List Value) (es : List MapEntry), LR (EntR ρ) l es → ∀ (i i0 : Nat) (r : Option (Nat × Value)), findE P t k l i = some r →
      ∃ r', Instr.findNow d k es i0 = some (r'.map fun p => (p.1 + i0 - i, p.2)) ∧ (∀ p, r' = some p → i ≤ p.1) ∧
      match r with
      | none => r' = none
      | some (j, v) => ∃ v' e, r' = some (j, v') ∧ i ≤ j ∧ l[j - i]? = some (.tuple #[k, v]) ∧ es[j - i]? = some e ∧ e.key = k ∧ e.val = v' ∧ VR1 ρ v v' := by
    intro d hd _ hs l es hl
    induction hl with
    | nil =>
      intro i i0 r hr
      simp only [findE, Option.some.injEq] at hr
      subst hr
      exact ⟨none, rfl, fun p hp => (by cases hp), rfl⟩
    | cons h1 hl ih =>
      rename_i x e l es
      obtain ⟨a, b, rfl, k1, k2⟩ := h1
      intro i i0 r hr
      simp only [findE] at hr
      split at hr
      · rename_i hfit
        have hka := keyFit_ok hfit
        have ea : e.key = a := VR1.eq hka.flat k1
        split at hr
        · rename_i hb
          injection hr with hr
          subst hr
          have e2 := beq1_eq hb
          subst e2
          refine ⟨some (i, e.val), ?_, fun p hp => (by cases hp; exact Nat.le_refl _), e.val, e, rfl, Nat.le_refl _, by simp, by simp, ea, rfl, k2⟩
          simp only [Instr.findNow, ea, hs _ _ hka hka, hb, Option.map_some, Nat.add_sub_cancel_left]
        · rename_i hb
          obtain ⟨r', g1, g2, g3⟩ := ih (i + 1) (i0 + 1) r hr
          refine ⟨r', ?_, fun p hp => by have := g2 p hp; omega, ?_⟩
          · simp only [Instr.findNow, ea, hs _ _ hk hka, Bool.eq_false_iff.2 hb, g1]
            cases r' with
            | none => rfl
            | some p => have := g2 p rfl; simp only [Option.map_some]; congr 3; omega
          · cases r with
            | none => exact g3
            | some q =>
              obtain ⟨v', e', q1, q2, q3, q4, q5⟩ := g3
              refine ⟨v', e', q1, by omega, ?_, ?_, q5⟩
              · rw [show q.1 - i = (q.1 - (i + 1)) + 1 by omega]; simpa using q3
              · rw [show q.1 - i = (q.1 - (i + 1)) + 1 by omega]; simpa using q4
      · cases hr
  have fin : ∀ r' : Option (Nat × Value), (r'.map fun p => (p.1 + 0 - i, p.2)) = r'.map fun p => (p.1 - i, p.2) := fun r' => by simp
  cases hk with
  | cell _ hc =>
    have same : ∀ d, P.underlying t = some d → (∀ a b : Value, KeyOk P t a → KeyOk P t b → Instr.sameNow d a b = some (beq1 a b)) := by
      intro d hd a b ha hb
      have cellOf : ∀ v, KeyOk P t v → Cell P t v := by
        intro v hv
        cases hv with
        | cell _ h => exact h
        | agg fs cs hu _ _ => exfalso; cases hc with
          | str s hu' => rw [hu] at hu'; cases hu'
          | int k n hu' => rw [hu] at hu'; cases hu'
      have ha := cellOf a ha
      have hb := cellOf b hb
      cases ha with
      | str s hu =>
        cases hb with
        | str s' _ =>
          rw [hd] at hu
          cases hu
          simp only [Instr.sameNow, beq1, beq0, beq_toListBytes, ByteArray.toList_eq]
          by_cases e : s.data.toList = s'.data.toList
          · simp [e]
          · rw [decide_eq_false e, beq_eq_false_iff_ne.2 e]
        | int k n hu' => rw [hu] at hu'; cases hu'
      | int k n hu =>
        cases hb with
        | str s' hu' => rw [hu] at hu'; cases hu'
        | int k' n' hu' =>
          rw [hu] at hu'
          cases hu'
          rw [hd] at hu
          cases hu
          simp [Instr.sameNow, beq1, beq0]
    have hu : ∃ d, P.underlying t = some d := by cases hc with
      | str s hu => exact ⟨_, hu⟩
      | int k n hu => exact ⟨_, hu⟩
    obtain ⟨d, hd⟩ := hu
    obtain ⟨r', g1, g2, g3⟩ := now d hd (fun v hv => ⟨t, by
      cases hv with
      | cell _ h => exact h
      | agg fs cs hu _ _ => exfalso; cases hc with
        | str s hu' => rw [hu] at hu'; cases hu'
        | int k n hu' => rw [hu] at hu'; cases hu'⟩) (same d hd) l es hl i 0 r hr
    refine ⟨r', ?_, g2, g3⟩
    rw [fin] at g1
    simp only [Instr.findKey, Sem.run_bind, run_underlying hd, Result.andThen_ok, g1, Sem.run_pure]
  | agg fs cs hu hst hc =>
    obtain ⟨r', g1, g2, g3⟩ := ask l es hl i 0 r hr
    rw [fin] at g1
    refine ⟨r', ?_, g2, g3⟩
    simp only [Instr.findKey, Sem.run_bind, run_underlying hu, Result.andThen_ok]
    cases es with
    | nil =>
      cases hl
      simp only [findE, Option.some.injEq] at hr
      subst hr
      have : r' = none := g3
      subst this
      rfl
    | cons e es =>
      have : Instr.findNow (.struct fs) (.agg cs) (e :: es) 0 = none := by simp [Instr.findNow, Instr.sameNow]
      simp only [this, g1]
end keys
section
variable {P : Program} {M : Nat} {ρ : Ren} {h h' : AHeap} {w : World}
theorem mapOf_ok (s : Sim M ρ h w) {t : TypeId} {r : Nat} {l : Loc} (hl : ρ r = some l) {o : AObj} {kt et : TypeId} (hm : mapOf P h t r = some (o, kt, et)) :
    P.underlying t = some (.map kt et) ∧ h.get r = some o ∧ o.kind = 3 ∧ ∃ es ck, w.heap[l.b]? = some (.map es ck) ∧ LR (EntR ρ) o.cells es.toList ∧ (es.toList.map (·.born)).Nodup ∧ ∀ e ∈ es.toList, e.born < ck := by
  unfold mapOf at hm
  split at hm
  · rename_i kt' et' o' hu ho
    split at hm
    · rename_i hk
      simp only [Option.some.injEq, Prod.mk.injEq] at hm
      obtain ⟨rfl, rfl, rfl⟩ := hm
      exact ⟨hu, ho, hk, (s.ok _ _ l ho hl).map hk⟩
    · cases hm
  · cases hm
omit [Toks] in
theorem run_getObj {b : Nat} {o : Obj} (h : w.heap[b]? = some o) (hc : ∀ c e f, o ≠ .cells c e f) : (getObj b).run P w = .ok o w := by
  simp only [getObj, Sem.run, h]
omit [Toks] in
theorem run_setObj {b : Nat} {o o' : Obj} (h : w.heap[b]? = some o) (hc : ∀ c e f, o ≠ .cells c e f) : (setObj b o').run P w = .ok () { w with heap := w.heap.setIfInBounds b o' } := by
  simp only [setObj, Sem.run, h]
theorem VR.noTup {v v' : Value} (h : VR ρ v v') (hn : noTup v = true) : VR1 ρ v v' := h.no_tuple fun vs e => by subst e; simp [Go.Proofs.Ytfbedlhigggggaa.noTup] at hn
theorem VR.mapv {r : Nat} {v' : Value} (h : VR ρ (.map (some r)) v') : ∃ l, ρ r = some l ∧ v' = .map (some l.b) := h
theorem lookup_ok (s : Sim M ρ h w) {t : TypeId} {r : Nat} {k x' k' v : Value} {ok : Bool} (hx : VR ρ (.map (some r)) x') (hk : VR ρ k k') (hv : alookup P h t r k ok = some v) :
    ∃ v', (Instr.lookup t x' k' ok).run P w = .ok v' w ∧ VR ρ v v' := by
  obtain ⟨l, hl, rfl⟩ := hx.mapv
  unfold alookup at hv
  simp only [Option.bind_eq_some_iff] at hv
  obtain ⟨⟨o, kt, et⟩, hm, hv⟩ := hv
  obtain ⟨hu, ho, h3, es, ck, hw, hle, _⟩ := mapOf_ok s hl hm
  simp only at hv
  split at hv
  · rename_i hfit
    have hK := keyFit_ok hfit
    obtain rfl : k' = k := VR.eq (by cases hK with
      | cell _ h => cases h <;> rfl
      | agg fs cs _ _ h => exact h.flat) hk
    simp only [Option.bind_eq_some_iff] at hv
    obtain ⟨r1, hf, hv⟩ := hv
    obtain ⟨r', g1, g2, g3⟩ := find_ok hK w hle 0 hf
    cases r1 with
    | none =>
      have hr' : r' = none := g3
      subst hr'
      simp only [Option.bind_eq_some_iff, Option.some.injEq] at hv
      obtain ⟨z, hz, rfl⟩ := hv
      obtain ⟨z1, z2⟩ := zeroP_ok hz w
      refine ⟨if ok then .tuple #[z, .bool false] else z, by simp only [Instr.lookup, Sem.run_bind, run_underlying hu, Result.andThen_ok, run_getObj (P := P) hw (by intro _ _ _ e; cases e), Sem.run_pure, hK.check, g1, Option.map_none, z1], ?_⟩
      have hz1 : VR1 ρ z z := by
        cases z with
        | agg cs => exact VR1.flat (by simpa [flat1, Value.cells] using z2)
        | _ => exact VR1.flat (by simpa [flat1, Value.cells] using z2)
      cases ok
      · exact VR.of1 hz1
      · exact ⟨_, rfl, .cons hz1 (.cons (VR1.flat rfl) .nil)⟩
    | some q =>
      obtain ⟨j, v0⟩ := q
      obtain ⟨v', e, hr', _, _, _, _, rfl, hvr⟩ := g3
      subst hr'
      simp only at hv
      split at hv
      · rename_i hnt
        injection hv with hv
        subst hv
        refine ⟨if ok then .tuple #[e.val, .bool true] else e.val, by simp only [Instr.lookup, Sem.run_bind, run_underlying hu, Result.andThen_ok, run_getObj (P := P) hw (by intro _ _ _ e; cases e), Sem.run_pure, hK.check, g1, Option.map_some], ?_⟩
        cases ok
        · exact VR.of1 hvr
        · exact ⟨_, rfl, .cons hvr (.cons (VR1.flat rfl) .nil)⟩
      · cases hv
  · cases hv
omit [Toks] in
theorem getset {A : Array Obj} {b : Nat} {o : Obj} (h : b < A.size) : (A.setIfInBounds b o)[b]? = some o := by simp [h]
/-- A map turned. -/
theorem mapTurn (s : Sim M ρ h w) {r : Nat} {l : Loc} {o : AObj} (hl : ρ r = some l) (ho : h.get r = some o) (h3 : o.kind = 3) {es es' : Array MapEntry} {ck ck' : Nat} (hw : w.heap[l.b]? = some (.map es ck)) {cells : List Value}
    (h1 : LR (EntR ρ) cells es'.toList) (h2 : (es'.toList.map (·.born)).Nodup) (h4 : ∀ e ∈ es'.toList, e.born < ck') :
    (setObj l.b (.map es' ck')).run P w = .ok () { w with heap := w.heap.setIfInBounds l.b (.map es' ck') } ∧
    Ext ρ ρ h (h.put r (some { o with cells := cells })) w { w with heap := w.heap.setIfInBounds l.b (.map es' ck') } ∧ Sim M ρ (h.put r (some { o with cells := cells })) { w with heap := w.heap.setIfInBounds l.b (.map es' ck') } := by
  have hb : l.b < w.heap.size := (Array.getElem?_eq_some_iff.1 hw).1
  have hother : ∀ k, k ≠ l.b → (w.heap.setIfInBounds l.b (.map es' ck'))[k]? = w.heap[k]? := fun k hk => by rw [Array.getElem?_setIfInBounds_ne (fun e => hk e.symm)]
  refine ⟨run_setObj hw (by intro _ _ _ e; cases e), Ext.turn s ho (by omega) hl _ (fun x e => by cases e; show o.kind ≠ 2; omega) hother (by simp) rfl rfl rfl, s.turn ho (by omega) hl _ hother (by simp) ⟨fun e => absurd e (by simp only [h3]; omega), fun _ => ?_, fun e => absurd e (by simp only [h3]; omega)⟩⟩
  exact ⟨es', ck', getset hb, h1, h2, h4⟩
omit [Toks] in
theorem LR.eraseIdx {α β : Type} {R : α → β → Prop} {l : List α} {m : List β} (h : LR R l m) : ∀ i, LR R (l.eraseIdx i) (m.eraseIdx i) := by
  induction h with
  | nil => intro i; simpa using LR.nil
  | cons h1 h2 ih =>
    intro i
    cases i with
    | zero => exact h2
    | succ i => exact .cons h1 (ih i)
theorem update_ok (s : Sim M ρ h w) {t : TypeId} {r : Nat} {k x' k' v v' : Value} (hx : VR ρ (.map (some r)) x') (hk : VR ρ k k') (hv : VR ρ v v') (hu : amapUpdate P h t r k v = some h') :
    ∃ w', (Instr.mapUpdate t x' k' v').run P w = .ok () w' ∧ Ext ρ ρ h h' w w' ∧ Sim M ρ h' w' := by
  obtain ⟨l, hl, rfl⟩ := hx.mapv
  unfold amapUpdate at hu
  simp only [Option.bind_eq_some_iff] at hu
  obtain ⟨⟨o, kt, et⟩, hm, hu⟩ := hu
  obtain ⟨hut, ho, h3, es, ck, hw, hle, hnd, hborn⟩ := mapOf_ok s hl hm
  simp only at hu
  split at hu
  · rename_i hfit
    simp only [Bool.and_eq_true] at hfit
    have hK := keyFit_ok hfit.1
    obtain rfl : k' = k := VR.eq (by cases hK with
      | cell _ h => cases h <;> rfl
      | agg fs cs _ _ h => exact h.flat) hk
    have hv1 := hv.noTup hfit.2
    simp only [Option.bind_eq_some_iff] at hu
    obtain ⟨r1, hf, hu⟩ := hu
    obtain ⟨r', g1, g2, g3⟩ := find_ok hK w hle 0 hf
    have hkk : VR1 ρ k' k' := VR1.flat hK.flat
    cases r1 with
    | none =>
      have hr' : r' = none := g3
      subst hr'
      simp only [Option.some.injEq] at hu
      subst hu
      have hnew : LR (EntR ρ) (o.cells ++ [.tuple #[k', v]]) (es.push ⟨k', v', ck⟩).toList := by
        rw [Array.toList_push]
        exact hle.append (.cons ⟨k', v, rfl, hkk, hv1⟩ .nil)
      obtain ⟨a1, a2, a3⟩ := mapTurn (P := P) s hl ho h3 hw (es' := es.push ⟨k', v', ck⟩) (ck' := ck + 1) hnew (by
        rw [Array.toList_push, List.map_append, List.nodup_append]
        refine ⟨hnd, by simp, fun a ha b hb e => ?_⟩
        simp only [List.map_cons, List.map_nil, List.mem_singleton] at hb
        obtain ⟨e0, he0, rfl⟩ := List.mem_map.1 ha
        have := hborn e0 he0
        omega) (fun e he => by
        rw [Array.toList_push, List.mem_append] at he
        rcases he with he | he
        · have := hborn e he; omega
        · simp only [List.mem_singleton] at he; subst he; exact Nat.lt_succ_self _)
      refine ⟨_, ?_, a2, a3⟩
      simp only [Instr.mapUpdate, Sem.run_bind, run_underlying hut, Result.andThen_ok, run_getObj (P := P) hw (by intro _ _ _ e; cases e), hK.check, g1, Option.map_none]
      exact a1
    | some q =>
      obtain ⟨j, v0⟩ := q
      obtain ⟨v1, e, hr', _, hj1, hj2, he1, rfl, _⟩ := g3
      subst hr'
      simp only [Option.some.injEq, Nat.sub_zero] at hu hj1 hj2
      subst hu
      have hjl : j < es.size := by have := (List.getElem?_eq_some_iff.1 hj2).1; simpa using this
      have hea : es[j]? = some e := by simpa using hj2
      have hmod : (es.modify j fun e => { e with key := k', val := v' }).toList = es.toList.set j { e with key := k', val := v' } := by
        apply List.ext_getElem?
        intro i
        rw [Array.getElem?_toList, Array.getElem?_modify, List.getElem?_set]
        by_cases hij : j = i
        · subst hij
          have he' : es[j] = e := by rw [Array.getElem?_eq_getElem hjl] at hea; exact Option.some.inj hea
          simp [hjl, he']
        · simp [hij]
      have hnew : LR (EntR ρ) (o.cells.set j (.tuple #[k', v])) (es.modify j fun e => { e with key := k', val := v' }).toList := by
        rw [hmod]
        exact hle.set ⟨k', v, rfl, hkk, hv1⟩ j
      have hbm : (es.modify j fun e => { e with key := k', val := v' }).toList.map (·.born) = es.toList.map (·.born) := by
        rw [hmod, List.map_set]
        apply List.ext_getElem?
        intro i
        rw [List.getElem?_set]
        split
        · rename_i hij
          subst hij
          have hlt : j < (es.toList.map (·.born)).length := by simpa using hjl
          rw [if_pos hlt, List.getElem?_map, hj2]
          rfl
        · rfl
      obtain ⟨a1, a2, a3⟩ := mapTurn (P := P) s hl ho h3 hw (es' := es.modify j fun e => { e with key := k', val := v' }) (ck' := ck) hnew (by rw [hbm]; exact hnd) (fun e' he' => by
        have : e'.born ∈ es.toList.map (·.born) := by rw [← hbm]; exact List.mem_map.2 ⟨e', he', rfl⟩
        obtain ⟨e2, h1, h2⟩ := List.mem_map.1 this
        rw [← h2]
        exact hborn e2 h1)
      refine ⟨_, ?_, a2, a3⟩
      have hst := hK.stays (P := P) w
      simp only [Instr.mapUpdate, Sem.run_bind, run_underlying hut, Result.andThen_ok, run_getObj (P := P) hw (by intro _ _ _ e; cases e), hK.check, g1, Option.map_some, Nat.sub_zero, hea, he1, Option.getD_some, hst]
      exact a1
  · cases hu
theorem delete_ok (s : Sim M ρ h w) {types : Array TypeId} {ty t : TypeId} (ht : types[0]? = some t) {r : Nat} {k x' k' : Value} (hx : VR ρ (.map (some r)) x') (hk : VR ρ k k') (hu : amapDelete P h t r k = some h') :
    ∃ w', (Builtin.delete_ types ty #[x', k']).run P w = .ok (.tuple #[]) w' ∧ Ext ρ ρ h h' w w' ∧ Sim M ρ h' w' := by
  obtain ⟨l, hl, rfl⟩ := hx.mapv
  unfold amapDelete at hu
  simp only [Option.bind_eq_some_iff] at hu
  obtain ⟨⟨o, kt, et⟩, hm, hu⟩ := hu
  obtain ⟨hut, ho, h3, es, ck, hw, hle, hnd, hborn⟩ := mapOf_ok s hl hm
  simp only at hu
  split at hu
  · rename_i hfit
    have hK := keyFit_ok hfit
    obtain rfl : k' = k := VR.eq (by cases hK with
      | cell _ h => cases h <;> rfl
      | agg fs cs _ _ h => exact h.flat) hk
    simp only [Option.bind_eq_some_iff] at hu
    obtain ⟨r1, hf, hu⟩ := hu
    obtain ⟨r', g1, g2, g3⟩ := find_ok hK w hle 0 hf
    have e0 : (#[Value.map (some l.b), k'] : Array Value)[0]? = some (.map (some l.b)) := rfl
    have e1 : (#[Value.map (some l.b), k'] : Array Value)[1]? = some k' := rfl
    cases r1 with
    | none =>
      have hr' : r' = none := g3
      subst hr'
      simp only [Option.some.injEq] at hu
      subst hu
      obtain ⟨a1, a2, a3⟩ := mapTurn (P := P) s hl ho h3 hw (es' := es) (ck' := ck) hle hnd hborn
      have hsame : w.heap.setIfInBounds l.b (.map es ck) = w.heap := by
        apply Array.ext_getElem?
        intro i
        rw [Array.getElem?_setIfInBounds]
        split
        · rename_i hi; subst hi
          split
          · exact hw.symm
          · rw [hw] ; simp_all
        · rfl
      rw [hsame] at a1
      refine ⟨w, ?_, Ext.refl _ _ _, s⟩
      simp only [Builtin.delete_, ht, e0, e1, Sem.run_bind, run_underlying hut, Result.andThen_ok, run_getObj (P := P) hw (by intro _ _ _ e; cases e), hK.check, g1, Option.map_none, a1, Sem.run_pure]
    | some q =>
      obtain ⟨j, v0⟩ := q
      obtain ⟨v1, e, hr', _, hj1, hj2, he1, rfl, _⟩ := g3
      subst hr'
      simp only [Option.some.injEq, Nat.sub_zero] at hu hj1 hj2
      subst hu
      have hjl : j < es.size := by have := (List.getElem?_eq_some_iff.1 hj2).1; simpa using this
      have her : (es.eraseIdxIfInBounds j).toList = es.toList.eraseIdx j := by simp [Array.eraseIdxIfInBounds, hjl]
      have hsub : (es.toList.eraseIdx j).Sublist es.toList := List.eraseIdx_sublist _ _
      obtain ⟨a1, a2, a3⟩ := mapTurn (P := P) s hl ho h3 hw (es' := es.eraseIdxIfInBounds j) (ck' := ck) (cells := o.cells.eraseIdx j) (by rw [her]; exact hle.eraseIdx j) (by rw [her]; exact hnd.sublist (hsub.map _)) (fun e' he' => by rw [her] at he'; exact hborn e' (hsub.mem he'))
      refine ⟨_, ?_, a2, a3⟩
      simp only [Builtin.delete_, ht, e0, e1, Sem.run_bind, run_underlying hut, Result.andThen_ok, run_getObj (P := P) hw (by intro _ _ _ e; cases e), hK.check, g1, Option.map_some, Nat.sub_zero, a1, Sem.run_pure]
  · cases hu
theorem len_ok (s : Sim M ρ h w) {types : Array TypeId} {ty t : TypeId} (ht : types[0]? = some t) {r : Nat} {x' : Value} {o : AObj} {kt et : TypeId} (hx : VR ρ (.map (some r)) x') (hm : mapOf P h t r = some (o, kt, et)) :
    (Builtin.len_ types ty #[x']).run P w = .ok (goInt o.cells.length) w := by
  obtain ⟨l, hl, rfl⟩ := hx.mapv
  obtain ⟨hut, ho, h3, es, ck, hw, hle, _⟩ := mapOf_ok s hl hm
  have e0 : (#[Value.map (some l.b)] : Array Value)[0]? = some (.map (some l.b)) := rfl
  have hlen := hle.length
  simp only [Array.length_toList] at hlen
  simp only [Builtin.len_, ht, e0, Sem.run_bind, run_underlying hut, Result.andThen_ok, run_getObj (P := P) hw (by intro _ _ _ e; cases e), Sem.run_pure, hlen]
/-- A new object that is no row of cells. -/
theorem newObj_ok (s : Sim M ρ h w) (hM : h.n < M) (ob : Obj) (o : AObj) (hk2 : o.kind ≠ 2) (hnew : ∀ w' : World, w'.heap = w.heap.push ob → Held (ρ.add h.n ⟨w.heap.size, 0, 0⟩) o ⟨w.heap.size, 0, 0⟩ w') :
    (newObj ob).run P w = .ok w.heap.size { w with heap := w.heap.push ob } ∧ Ext ρ (ρ.add h.n ⟨w.heap.size, 0, 0⟩) h (h.push o) w { w with heap := w.heap.push ob } ∧ Sim M (ρ.add h.n ⟨w.heap.size, 0, 0⟩) (h.push o) { w with heap := w.heap.push ob } :=
  ⟨by simp [newObj, Sem.run], Ext.push s hM o hk2 rfl rfl rfl rfl, s.pushObj hM o rfl (hnew _ rfl)⟩
theorem next_ok (s : Sim M ρ h w) {x' : Value} {a : Addr} {v : Value} {ty : TypeId} (hx : VR ρ (.pointer (some a)) x') (hv : anext h a = some (v, h')) :
    ∃ w', (Instr.next x' true ty).run P w = .ok v w' ∧ Ext ρ ρ h h' w w' ∧ Sim M ρ h' w' ∧ flat2 v = true := by
  obtain ⟨hsp, l, hl, rfl⟩ := hx.ptr
  unfold anext at hv
  split at hv
  · rename_i h0
    split at hv
    · rename_i b pos e es ho
      obtain ⟨b', pos', hc, hw, hl0⟩ := (s.ok _ _ l ho hl).iter rfl
      simp only [goInt, List.cons.injEq, Value.string.injEq, Value.int.injEq, true_and, and_true] at hc
      obtain ⟨rfl, hpos⟩ := hc
      have hpos : pos = pos' := by
        have : (Int.ofNat pos) = (pos' : Int) := hpos
        exact Int.ofNat.inj this
      subst hpos
      split at hv
      · rename_i hlt
        simp only [Option.some.injEq, Prod.mk.injEq] at hv
        obtain ⟨rfl, rfl⟩ := hv
        have hb : l.b < w.heap.size := (Array.getElem?_eq_some_iff.1 hw).1
        have hother : ∀ k, k ≠ l.b → (w.heap.setIfInBounds l.b (.stringIter b (pos + (Utf8.decode b pos).2)))[k]? = w.heap[k]? := fun k hk => by rw [Array.getElem?_setIfInBounds_ne (fun e => hk e.symm)]
        refine ⟨{ w with heap := w.heap.setIfInBounds l.b (.stringIter b (pos + (Utf8.decode b pos).2)) }, ?_, Ext.turn s ho (by show (4 : Nat) ≠ 2; decide) hl _ (fun x e => by cases e; show (4 : Nat) ≠ 2; decide) hother (by simp) rfl rfl rfl, s.turn ho (by show (4 : Nat) ≠ 2; decide) hl _ hother (by simp) ⟨fun e => absurd e (by show ¬ (4 : Nat) < 3; decide), fun e => absurd e (by show ¬ (4 : Nat) = 3; decide), fun _ => ⟨b, _, rfl, getset hb, hl0⟩⟩, rfl⟩
        rw [h0, hl0]
        simp only [Instr.next, Sem.run_bind, run_getObj (P := P) hw (by intro _ _ _ e; cases e), Result.andThen_ok, hlt, if_true, run_setObj (P := P) hw (by intro _ _ _ e; cases e), Sem.run_pure]
      · rename_i hge
        simp only [Option.some.injEq, Prod.mk.injEq] at hv
        obtain ⟨rfl, rfl⟩ := hv
        refine ⟨w, ?_, Ext.refl _ _ _, s, rfl⟩
        rw [h0, hl0]
        simp only [Instr.next, Sem.run_bind, run_getObj (P := P) hw (by intro _ _ _ e; cases e), Result.andThen_ok, hge, if_false, Sem.run_pure]
    · cases hv
  · cases hv
theorem clear_ok (s : Sim M ρ h w) {types : Array TypeId} {ty : TypeId} {d d' : Value} (hd : VR ρ d d') {v : Value} (hv : aclear P types d h = some (v, h')) :
    v = .tuple #[] ∧ ∃ w', (Builtin.clear_ types ty #[d']).run P w = .ok (.tuple #[]) w' ∧ Ext ρ ρ h h' w w' ∧ Sim M ρ h' w' := by
  have e0 : (#[d'] : Array Value)[0]? = some d' := rfl
  unfold aclear at hv
  split at hv
  · rename_i t0 base n c ht
    split at hv
    · rename_i e hu
      split at hv
      · rename_i i z a hi hz
        split at hv
        · cases hv
        · rename_i hc
          simp only [not_or, ne_eq, Decidable.not_not] at hc
          simp only [Option.bind_eq_some_iff, Option.some.injEq, Prod.mk.injEq] at hv
          obtain ⟨h2, hst, rfl, rfl⟩ := hv
          obtain ⟨hnc, l, o', c', hl, rfl, g1, g2, _⟩ := hd.slc
          refine ⟨rfl, ?_⟩
          obtain ⟨z1, z2⟩ := zeroP_ok hz w
          have hz' : Builtin.zeroCells z.cells n = (Array.range (n * i.size)).map (z.cells[· % i.size]!) := by simp only [Builtin.zeroCells, hc.1]
          have hrel : LR (VR0 ρ) ((Array.range (n * i.size)).map (z.cells[· % i.size]!)).toList ((Array.range (n * i.size)).map (z.cells[· % i.size]!)).toList := LR.refl_of fun a ha => VR0.flat (by
            simp only [Array.toList_map, List.mem_map] at ha
            obtain ⟨k, _, rfl⟩ := ha
            exact zeros_flat z2 _)
          obtain ⟨w', k1, k2, k3⟩ := astore_ok (P := P) s hst hl hrel
          by_cases hn : n = 0
          · subst hn
            refine ⟨w', ?_, k2, k3⟩
            have : w' = w := by
              have e : ((Array.range (0 * i.size)).map (z.cells[· % i.size]!)).toList = [] := List.eq_nil_of_length_eq_zero (by simp)
              rw [e] at k1
              simp only [storeCells, Sem.run_pure, Result.ok.injEq, true_and] at k1
              exact k1.symm
            subst this
            simp only [Builtin.clear_, ht, e0, Sem.run_bind, run_underlying hu, Result.andThen_ok, Sem.run_pure]
          · obtain rfl := g2 (by omega)
            refine ⟨w', ?_, k2, k3⟩
            rw [← hz'] at k1
            have : (match n, (Value.slice (some (⟨l.b, a.off, none⟩ : Addr)) n c') with | _, _ => True) := trivial
            cases n with
            | zero => exact absurd rfl hn
            | succ n => simp only [Builtin.clear_, ht, e0, Sem.run_bind, run_underlying hu, Result.andThen_ok, z1, k1, Sem.run_pure]
      · rename_i hz hi
        split at hv
        · rename_i hn
          simp only [Option.some.injEq, Prod.mk.injEq] at hv
          obtain ⟨rfl, rfl⟩ := hv
          have ex := VR.eq (v := .slice none n c) rfl hd
          subst ex
          refine ⟨rfl, w, ?_, Ext.refl _ _ _, s⟩
          simp only [Builtin.clear_, ht, e0, Sem.run_bind, run_underlying hu, Result.andThen_ok, Sem.run_pure]
        · cases hv
      · cases hv
    · cases hv
  · cases hv
end
end Go.Proofs.Ytfbedlhigggggaa
