/- The plain terms say no more than the executor. -/
import Derived.Test.YtolignkahfekbaaGreatDoorDen
namespace Go.Proofs.YtolignkahfekbaaGreatDoor
open Go Go.RowKit

theorem setAll_get (f : Nat → Value) : ∀ (as : List Nat) (T : Tr Value) (i : Nat), (setAll as (as.map f) T).get i = if i ∈ as then some (f i) else T.get i
  | [], T, i => by simp [setAll]
  | a :: as, T, i => by
    simp only [List.map_cons, setAll]
    rw [setAll_get f as, Tr.get_set]
    by_cases h1 : i ∈ as
    · simp [h1]
    · by_cases h2 : i = a
      · subst h2; simp [h1]
      · simp [h1, h2]
theorem getT_setAll (f : Nat → Value) (as : List Nat) (T : Tr Value) (i : Nat) : getT (setAll as (as.map f) T) i = if i ∈ as then f i else getT T i := by
  unfold getT
  rw [setAll_get]
  split <;> rfl
theorem appN_lamN : ∀ (n : Nat) (f : List Value → AHeap → R) (l : List Value) (h : AHeap), l.length = n → appN n (lamN n f) l h = f l h
  | 0, f, [], h, _ => rfl
  | n + 1, f, v :: l, h, hl => by
    simp only [appN, lamN]
    exact appN_lamN n (fun l => f (v :: l)) l h (by simpa using hl)
theorem oRes_ok {r : R} {k : KV} {x : Value × AHeap} (h : oRes r k = some x) : ∃ v h', r = some (v, h') ∧ k v h' = some x := by
  rw [oRes_eq] at h
  unfold pRes at h
  split at h
  · rename_i r
    exact ⟨r.1, r.2, rfl, h⟩
  · cases h
section
variable {P : Program} {c : XCall}
theorem mem_tmps {l : List Operand} {t : Nat} (h : Operand.tmp t ∈ l) : t ∈ tmpsOf l := by
  unfold tmpsOf
  rw [List.mem_eraseDups, List.mem_filterMap]
  exact ⟨_, h, rfl⟩
theorem genR_eq (o : Oper) (T : Tr Value) (h : AHeap) : genR P c o T h = xop P c o T h := by
  unfold genR oGen
  refine xop_congr c o (fun x hx => ?_) h
  cases x with
  | tmp t =>
    simp only [ev]
    rw [setAll_get, if_pos (mem_tmps (by simpa using hx))]
    rfl
  | _ => rfl
theorem gen_ok {o : Oper} {T : Tr Value} {h : AHeap} {k : KV} {x : Value × AHeap} (hx : gen P c o T h k = some x) : ∃ v h', xop P c o T h = some (v, h') ∧ k v h' = some x := by
  unfold gen at hx
  rw [genR_eq] at hx
  first | exact oRes_ok hx | exact oRes_ok ((oRes_eq _ _).trans hx)
theorem oLoad1_ok {t : TypeId} {v : Value} {h : AHeap} {k : KV} {x : Value × AHeap} (ha : isAggP P t = some false) (hx : oLoad1 v h k = some x) : ∃ ad u, v = .pointer (some ad) ∧ aload P h t ad = some u ∧ k u h = some x := by
  rw [oLoad1_eq] at hx
  unfold pLoad1 at hx
  split at hx
  · rename_i ad
    split at hx
    · cases hx
    · rename_i hs
      split at hx
      · rename_i o ho
        split at hx
        · rename_i u hu
          refine ⟨ad, u, rfl, ?_, hx⟩
          simp [aload, hs, ho, ha, hu]
        · cases hx
      · cases hx
  · cases hx
theorem oLoadN_ok {t : TypeId} {s : Nat} {v : Value} {h : AHeap} {k : KV} {x : Value × AHeap} (ha : isAggP P t = some true) (hs' : sizeP P t = some s) (hx : oLoadN s v h k = some x) : ∃ ad u, v = .pointer (some ad) ∧ aload P h t ad = some u ∧ k u h = some x := by
  rw [oLoadN_eq] at hx
  unfold pLoadN at hx
  split at hx
  · rename_i ad
    split at hx
    · cases hx
    · rename_i hs
      split at hx
      · rename_i o ho
        split at hx
        · rename_i cs hu
          refine ⟨ad, _, rfl, ?_, hx⟩
          simp [aload, hs, ho, ha, hs', hu]
        · cases hx
      · cases hx
  · cases hx
theorem blt_dec (a b : Nat) : Nat.ble (a + 1) b = decide (a < b) := by
  by_cases h : a < b
  · rw [decide_eq_true h]; exact Nat.ble_eq.mpr h
  · rw [decide_eq_false h, Bool.eq_false_iff]; intro h2; exact h (Nat.ble_eq.mp h2)
theorem beq_dec (a b : Nat) : Nat.beq a b = decide (a = b) := by
  by_cases h : a = b
  · rw [decide_eq_true h]; subst h; exact Nat.beq_refl a
  · rw [decide_eq_false h, Bool.eq_false_iff]; intro h2; exact h (Nat.eq_of_beq_eq_true h2)
theorem dec_congr {p q : Prop} [Decidable p] [Decidable q] (h : p ↔ q) : decide p = decide q := by simp [h]
theorem iLt_ok (a b : Int) : iLt a b = decide (a < b) := by
  cases a with
  | ofNat a =>
    cases b with
    | ofNat b => show Nat.ble (a + 1) b = _; rw [blt_dec]; exact dec_congr (by simp only [Int.ofNat_eq_natCast]; omega)
    | negSucc b => exact (decide_eq_false (by simp only [Int.ofNat_eq_natCast]; omega)).symm
  | negSucc a =>
    cases b with
    | ofNat b => exact (decide_eq_true (by simp only [Int.ofNat_eq_natCast]; omega)).symm
    | negSucc b => show Nat.ble (b + 1) a = _; rw [blt_dec]; exact dec_congr (by omega)
theorem iEq_ok (a b : Int) : iEq a b = decide (a = b) := by
  cases a with
  | ofNat a =>
    cases b with
    | ofNat b => show Nat.beq a b = _; rw [beq_dec]; exact dec_congr (by simp only [Int.ofNat_eq_natCast]; omega)
    | negSucc b => exact (decide_eq_false (by simp only [Int.ofNat_eq_natCast]; omega)).symm
  | negSucc a =>
    cases b with
    | ofNat b => exact (decide_eq_false (by simp only [Int.ofNat_eq_natCast]; omega)).symm
    | negSucc b => show Nat.beq a b = _; rw [beq_dec]; exact dec_congr (by omega)
theorem inK'_ok {k : IntKind} {z : Int} (h : inK' k z = true) : inK k z = true := by
  cases k <;> simp only [inK'] at h <;> try cases h
  · cases z <;> simp only [Nat.blt, Nat.ble_eq] at h <;> simp only [inK, Bool.and_eq_true, decide_eq_true_eq, Int.ofNat_eq_natCast] <;> omega
  · cases z <;> simp only [Nat.blt, Nat.ble_eq] at h <;> first | (cases h; done) | (simp only [inK, Bool.and_eq_true, decide_eq_true_eq, Int.ofNat_eq_natCast]; omega)
theorem intOp_ok {op : BinOp} {f : IntKind → Int → Int → Option Value} (hf : fOp op = some f) {k : IntKind} {a b : Int} {v : Value} (hv : f k a b = some v) : fastB op (.int k a) (.int k b) = some v := by
  have r1 : ∀ a, rng (.int k a) = some (k, a, a) := fun _ => rfl
  have hs : sameTok (.int k a) (.int k b) = none := rfl
  cases op <;> simp only [fOp, Option.some.injEq] at hf <;> first | (cases hf; done) | skip
  all_goals subst hf
  · simp only [fAdd] at hv
    cases hi : inK' k (Int.add a b) with
    | false => rw [hi] at hv; cases hv
    | true =>
      rw [hi] at hv
      have h2 : inK k (a + b) = true := inK'_ok hi
      simp only [fastB, r1, if_true, litV, shiftV]
      rw [if_pos h2]
      exact hv
  · simp only [fSub] at hv
    cases hi : inK' k (Int.add a (Int.neg b)) with
    | false => rw [hi] at hv; cases hv
    | true =>
      rw [hi] at hv
      have h2 : inK k (a + -b) = true := inK'_ok hi
      simp only [fastB, r1, if_true, litV, shiftV]
      rw [if_pos h2]
      exact hv
  all_goals
    simp only [fLss, fLeq, fGtr, fGeq, fEql, fNeq, Option.some.injEq, iLt_ok, iEq_ok] at hv
    subst hv
    simp only [fastB, r1, if_true, hs, cmpR]
    (repeat' split) <;> simp_all <;> omega
theorem xp_not {o : Oper} {T : Tr Value} {h : AHeap} {t : TypeId} {y : Operand} {b : Bool} (ho : o.op = .unOp .not t y) (e1 : ev T y = some (.bool b)) : xop P c o T h = some (.bool !b, h) := by
  have hop : o.op.operands.toList = [y] := by rw [ho]; rfl
  simp only [xop, ho, e1, Option.bind_some, fastU]
  unfold xpure
  rw [hop]
  simp only [ho, noSel, if_true, evs, e1, Option.bind_some]
  have hf : [Value.bool b].all flat2 = true := rfl
  simp only [hf, if_true]
  have he : execOp (fun x => (ev T x).getD undef) o = (do pure (.value (← Op.unary .not (.bool b)))) := by
    simp only [execOp, ho, e1, Option.getD_some]
  rw [he]
  rfl
theorem xp_str {o : Oper} {T : Tr Value} {h : AHeap} {op : BinOp} {t yt : TypeId} {y z : Operand} {a b : ByteArray} {r : Value} (ho : o.op = .binOp op t y z yt) (e1 : ev T y = some (.string a)) (e2 : ev T z = some (.string b)) (hr : Op.stringOp op a b = pure r) (hfl : flat2 r = true) (hsh : op ≠ .shl ∧ op ≠ .shr) : xop P c o T h = some (r, h) := by
  have hop : o.op.operands.toList = [y, z] := by rw [ho]; rfl
  have hq : aeql P h t (.string a) (.string b) = none := by
    unfold aeql
    split <;> first | rfl | (rename_i h1 h2; cases h1) | (rename_i h1 h2 h3; cases h2) | (rename_i h1 h2 h3; cases h1)
  have hfb : fastB op (.string a) (.string b) = none := rfl
  have hxp : xpure P o T h = some (r, h) := by
    unfold xpure
    rw [hop]
    simp only [ho, noSel, if_true, evs, e1, e2, Option.bind_some]
    have hf : [Value.string a, Value.string b].all flat2 = true := rfl
    simp only [hf, if_true]
    have he : execOp (fun x => (ev T x).getD undef) o = (do pure (.value r)) := by
      simp only [execOp, ho, e1, e2, Option.getD_some]
      have hg : eqGuard op t y z (.string a) (.string b) = pure () := by
        unfold eqGuard
        cases op <;> rfl
      have hb : binOp op t (.string a) (.string b) = pure r := by
        rw [← hr]
        obtain ⟨h1, h2⟩ := hsh
        cases op <;> first | rfl | exact absurd rfl h1 | exact absurd rfl h2
      rw [hg, hb]
      rfl
    rw [he]
    simp only [pureRun, pure, Option.bind_some, nextValue, hfl, if_true]
  simp only [xop, ho, e1, e2, hfb, hq]
  cases op <;> exact hxp
theorem oNot_ok {o : Oper} {T : Tr Value} {h : AHeap} {k : KV} {t : TypeId} {y : Operand} {v : Value} {x : Value × AHeap} (ho : o.op = .unOp .not t y) (e1 : ev T y = some v) (hx : oNot v (genR P c o T h) h k = some x) : ∃ v h', xop P c o T h = some (v, h') ∧ k v h' = some x := by
  unfold oNot at hx
  rw [vBool_eq] at hx
  split at hx
  · rename_i b
    refine ⟨_, h, xp_not ho e1, ?_⟩
    rw [← hx]
    cases b <;> rfl
  · rw [genR_eq] at hx
    exact oRes_ok hx
theorem strOp_ok {o : Oper} {T : Tr Value} {h : AHeap} {k : KV} {op : BinOp} {t yt : TypeId} {y z : Operand} {u v : Value} {x : Value × AHeap} {f : Value → Value → R → AHeap → KV → R} (hf : strOp P t op = some f) (ho : o.op = .binOp op t y z yt) (e1 : ev T y = some u) (e2 : ev T z = some v) (hx : f u v (genR P c o T h) h k = some x) : ∃ v h', xop P c o T h = some (v, h') ∧ k v h' = some x := by
  have els : ∀ {x}, oRes (genR P c o T h) k = some x → ∃ v h', xop P c o T h = some (v, h') ∧ k v h' = some x := by
    intro x hx
    rw [genR_eq] at hx
    exact oRes_ok hx
  unfold strOp at hf
  split at hf
  · split at hf <;> first | (cases hf; done) | (injection hf with hf; subst hf)
    · unfold oSEq at hx
      rw [vStr_eq] at hx
      split at hx
      · rename_i a
        rw [vStr_eq] at hx
        split at hx
        · rename_i b
          refine ⟨_, h, xp_str ho e1 e2 (r := .bool (beqB a.data.toList b.data.toList)) ?_ rfl ⟨by decide, by decide⟩, hx⟩
          simp only [Op.stringOp, beqB_eq, ByteArray.toList_eq]
        · exact els hx
      · exact els hx
    · unfold oSNe at hx
      rw [vStr_eq] at hx
      split at hx
      · rename_i a
        rw [vStr_eq] at hx
        split at hx
        · rename_i b
          refine ⟨_, h, xp_str ho e1 e2 (r := .bool (!(beqB a.data.toList b.data.toList))) ?_ rfl ⟨by decide, by decide⟩, ?_⟩
          · simp only [Op.stringOp, beqB_eq, ByteArray.toList_eq]
          · rw [← hx]
            cases beqB a.data.toList b.data.toList <;> rfl
        · exact els hx
      · exact els hx
    · unfold oSAdd at hx
      rw [vStr_eq] at hx
      split at hx
      · rename_i a
        rw [vStr_eq] at hx
        split at hx
        · rename_i b
          cases hb : Nat.ble (Nat.add (lenR a.data.toList) (lenR b.data.toList)) 1000000000 with
          | false => rw [hb] at hx; exact els hx
          | true =>
            rw [hb] at hx
            have hx : appK a.data.toList b.data.toList (fun l => k (.string ⟨⟨l⟩⟩) h) = some x := hx
            rw [appK_eq] at hx
            have h1 := Nat.ble_eq.mp hb
            rw [lenR_eq, lenR_eq] at h1
            have h2 : a.size + b.size ≤ 1000000000 := h1
            have e : (⟨⟨a.data.toList ++ b.data.toList⟩⟩ : ByteArray) = a ++ b := by
              apply ByteArray.ext
              apply Array.ext'
              simp
            rw [e] at hx
            refine ⟨_, h, xp_str ho e1 e2 (r := .string (a ++ b)) ?_ rfl ⟨by decide, by decide⟩, hx⟩
            have hmx : IntKind.i64.max = 9223372036854775807 := by decide
            simp only [Op.stringOp, hmx]
            rw [if_neg (by omega)]
        · exact els hx
      · exact els hx
  · cases hf
theorem evParts_fst : ∀ {ps : List (Nat × Operand)} {T : Tr Value} {l : List (Nat × Value)}, evParts T ps = some l → l.map (·.1) = ps.map (·.1)
  | [], T, l, h => by simp only [evParts, Option.some.injEq] at h; subst h; rfl
  | (i, y) :: r, T, l, h => by
    simp only [evParts, Option.bind_eq_some_iff, Option.some.injEq] at h
    obtain ⟨v, _, q, h2, rfl⟩ := h
    simp only [List.map_cons, evParts_fst h2]
theorem oBuild_ok {o : Oper} {T : Tr Value} {h : AHeap} {k : KV} {t : TypeId} {ps : Array (Nat × Operand)} {l : List (Nat × Value)} {z : List Value} {pl : List (Nat × Nat)} {x : Value × AHeap} (ho : o.op = .build t ps) (e1 : evParts T ps.toList = some l) (e2 : planOf P t (ps.toList.map (·.1)) = some (z, pl)) (hx : oBuild z pl (l.map (·.2)) h k = some x) : ∃ v h', xop P c o T h = some (v, h') ∧ k v h' = some x := by
  unfold planOf at e2
  split at e2
  · rename_i fields zz hu hz
    split at e2
    · rename_i places hpl
      split at e2
      · rename_i pl' hp
        simp only [Option.some.injEq, Prod.mk.injEq] at e2
        obtain ⟨rfl, rfl⟩ := e2
        have hm := placesOf_ok _ _ _ hp
        rw [← evParts_fst e1, List.map_map] at hm
        unfold oBuild at hx
        obtain ⟨g1, out, g2, g3⟩ := fillK_ok _ l pl' _ hm hx
        refine ⟨_, h, ?_, g3⟩
        have g2' : Instr.fill (places[·]?) zz.cells l = some ⟨out⟩ := g2
        simp only [xop, ho, e1, Option.bind_some, abuild, g1, if_true, hu, hz, hpl, g2', atomic]
      · cases e2
    · cases e2
  · cases e2
theorem oBuildS_ok {o : Oper} {T : Tr Value} {h : AHeap} {k : KV} {t : TypeId} {n : Nat} {ps : Array (Nat × Operand)} {l : List (Nat × Value)} {z : List Value} {pl : List (Nat × Nat)} {e s : Nat} {x : Value × AHeap} (ho : o.op = .buildSlice t n ps) (e1 : evParts T ps.toList = some l) (e2 : planSl P t n (ps.toList.map (·.1)) = some (z, pl, e, s)) (hx : oBuildS z pl e s n (l.map (·.2)) h k = some x) : ∃ v h', xop P c o T h = some (v, h') ∧ k v h' = some x := by
  unfold planSl at e2
  split at e2
  · rename_i e' hu
    split at e2
    · rename_i s' zz hs hz
      split at e2
      · cases e2
      · rename_i hn
        split at e2
        · rename_i pl' hp
          simp only [Option.some.injEq, Prod.mk.injEq] at e2
          obtain ⟨rfl, rfl, rfl, rfl⟩ := e2
          have hm := placesOf_ok _ _ _ hp
          rw [← evParts_fst e1, List.map_map] at hm
          unfold oBuildS at hx
          obtain ⟨g1, out, g2, g3⟩ := fillK_ok (fun k => some (k * s', s')) l pl' _ hm hx
          have g2' : Instr.fill (fun k => some (k * s', s')) ((Array.range (n * s')).map (zz.cells[· % zz.cells.size]!)) l = some ⟨out⟩ := g2
          obtain ⟨m, tt⟩ := h
          refine ⟨.slice (some ⟨m, 0, none⟩) n n, (anew ⟨m, tt⟩ e' 0 s' out).2, ?_, ?_⟩
          · rw [not_or] at hn
            have h3 : ¬ (n * s' > 2 ^ 24 ∨ zz.cells.size = 0 ∨ noTuples l = false) := by
              rintro (h | h | h)
              · exact hn.1 h
              · exact hn.2 h
              · rw [g1] at h; cases h
            simp only [xop, ho, e1, Option.bind_some, abuildSlice, hu, hs, hz]
            rw [if_neg h3, g2']
          · rw [← g3]
            simp only [litK_eq, setR_eq]
            rfl
        · cases e2
    · cases e2
  · cases e2
theorem oApp_ok {o : Oper} {T : Tr Value} {h : AHeap} {k : KV} {q : Call} {e : TypeId} {i : TypeInfo} {u v : Value} {x : Value × AHeap} (ho : o.op = .call q) (hc : q.callee = .builtin .append) (hp : apPlan P q.argTypes = some (e, i)) (ha : evs T q.args.toList = some [u, v]) (hx : oApp e i.size i.bytes u v (genR P c o T h) h k = some x) : ∃ v h', xop P c o T h = some (v, h') ∧ k v h' = some x := by
  have els : ∀ {x}, oRes (genR P c o T h) k = some x → ∃ v h', xop P c o T h = some (v, h') ∧ k v h' = some x := by
    intro x hx
    rw [genR_eq] at hx
    exact oRes_ok hx
  unfold oApp at hx
  rw [vSlice_eq] at hx
  split at hx
  · rename_i base n cc
    rw [vSlice_eq] at hx
    split at hx
    · rename_i yb m c2
      obtain ⟨new, g1, g2, g3⟩ := newK_some (c := c2) hx
      cases hb : Nat.ble (Nat.mul (Nat.add n m) (Nat.succ i.bytes)) 4294967296 with
      | false => rw [hb] at g3; cases g3
      | true =>
        rw [hb] at g3
        obtain ⟨v, h', e1, e2⟩ := oAppTo_ok (i := i) g3
        refine ⟨v, h', ?_, e2⟩
        have hle : (n + m) * (i.bytes + 1) ≤ 4294967296 := Nat.ble_eq.mp hb
        have hle1 : (n + m) * i.bytes ≤ 4294967296 := Nat.le_trans (Nat.mul_le_mul_left _ (Nat.le_succ _)) hle
        have hle2 : n + m ≤ 4294967296 := by
          have := Nat.mul_le_mul_left (n + m) (show 1 ≤ i.bytes + 1 by omega)
          omega
        unfold apPlan at hp
        split at hp
        · rename_i t0 t1 ht0 ht1
          split at hp
          · rename_i e' u1 hu0 hu1
            split at hp
            · rename_i i' hi
              simp only [Option.some.injEq, Prod.mk.injEq] at hp
              obtain ⟨rfl, rfl⟩ := hp
              have hap : aappend P q.argTypes (.slice base n cc) (.slice yb m c2) h = some (v, h') := by
                unfold aappend
                simp only [ht0, ht1, hu0, hu1]
                split
                · rename_i heq1 heq2
                  simp only [Option.some.injEq] at heq2
                  subst heq2
                  cases hi
                · rename_i e2 u2 hn heq1 heq2
                  simp only [Option.some.injEq, TypeDesc.slice.injEq] at heq1 heq2
                  subst heq1 heq2
                  simp only [hi, lenV, g1, Option.bind_some]
                  rw [if_neg (by
                    rintro (h | h | h)
                    · exact absurd h (by omega)
                    · exact absurd h (by omega)
                    · exact h g2), e1]
                · rename_i hn1 hn2
                  exact absurd rfl (hn2 _ _ rfl)
              simp only [xop, ho, hc, ha, Option.bind_some, xbuiltin, hap, orPure]
            · cases hp
          · cases hp
        · cases hp
    · exact els hx
  · exact els hx
theorem den1_ok {o : Oper} {T : Tr Value} {h : AHeap} {k : KV} {x : Value × AHeap} (hx : den1 P c o T h k = some x) : ∃ v h', xop P c o T h = some (v, h') ∧ k v h' = some x := by
  unfold den1 at hx
  simp only [ifH_eq] at hx
  have hg : ∀ {x}, gen P c o T h k = some x → ∃ v h', xop P c o T h = some (v, h') ∧ k v h' = some x := fun h => gen_ok h
  split at hx
  · rename_i y ho
    split at hx
    · exact ⟨_, h, by simp only [xop, atomic, *, Option.bind_some], hx⟩
    · cases hx
  · rename_i y ho
    split at hx
    · exact ⟨_, h, by simp only [xop, atomic, *, Option.bind_some], hx⟩
    · cases hx
  · rename_i q y z ho
    split at hx
    · rename_i vq vy vz e1 e2 e3
      rw [oPick_eq] at hx
      unfold pPick at hx
      split at hx
      · rename_i t
        refine ⟨_, h, ?_, hx⟩
        simp only [xop, ho, e1, e2, e3, atomic]
        cases t <;> rfl
      · cases hx
    · cases hx
  · rename_i y ix ho
    split at hx
    · rename_i v e1
      rw [oExt_eq] at hx
      unfold pExt at hx
      split at hx
      · split at hx
        · rename_i u hu
          exact ⟨u, h, by simp only [xop, ho, e1, atomic, hu, Option.bind_some], hx⟩
        · cases hx
      · cases hx
    · cases hx
  · rename_i y ho
    split at hx
    · rename_i v e1
      rw [oNil_eq] at hx
      unfold pNil at hx
      split at hx
      · exact ⟨_, h, by simp only [xop, ho, e1], hx⟩
      · cases hx
    · cases hx
  · rename_i e ho
    split at hx
    · rename_i z hz
      rw [oNew_eq] at hx
      unfold pNew at hx
      exact ⟨_, _, by simp only [xop, ho, hz, anew], hx⟩
    · cases hx
  · rename_i e y ho
    split at hx
    · rename_i v e1
      rw [oBox_eq] at hx
      unfold pBox at hx
      split at hx
      · cases hx
      · exact ⟨_, _, by simp only [xop, ho, e1, Option.bind_some, cellsV, Value.cells, anew], hx⟩
      · rename_i hn1 hn2
        refine ⟨_, _, ?_, hx⟩
        have hc : cellsV v = some [v] := by
          unfold cellsV
          split
          · exact absurd rfl (hn1 _)
          · unfold Value.cells
            split
            · exact absurd rfl (hn2 _)
            · rfl
        simp only [xop, ho, e1, Option.bind_some, hc, anew, List.length_singleton]
    · cases hx
  · rename_i t y ho
    split at hx
    · rename_i v e1 ha
      obtain ⟨ad, u, rfl, h1, h2⟩ := oLoad1_ok ha hx
      exact ⟨u, h, by simp only [xop, ho, e1, h1, atomic, Option.bind_some], h2⟩
    · rename_i v e1 ha
      split at hx
      · rename_i s hs
        obtain ⟨ad, u, rfl, h1, h2⟩ := oLoadN_ok ha hs hx
        exact ⟨u, h, by simp only [xop, ho, e1, h1, atomic, Option.bind_some], h2⟩
      · cases hx
    · cases hx
  · rename_i t y z ho
    split at hx
    · rename_i vx vy s e1 e2 hs
      rw [oStore_eq] at hx
      unfold pStore at hx
      split at hx
      · rename_i ad
        split at hx
        · cases hx
        · rename_i hsp
          split at hx
          · rename_i cs hcs
            cases hb : Nat.beq s cs.length with
            | false => rw [hb] at hx; cases hx
            | true =>
              rw [hb] at hx
              simp only [cond_true] at hx
              split at hx
              · rename_i h' hst
                refine ⟨_, h', ?_, hx⟩
                have : s = cs.length := Nat.eq_of_beq_eq_true hb
                simp [xop, ho, e1, e2, hcs, hsp, hs, this, hst]
              · cases hx
          · cases hx
      · cases hx
    · cases hx
  · rename_i t y f ho
    split at hx
    · rename_i fs v hu e1
      split at hx
      · rename_i fd hf
        split at hx
        · rename_i s hs
          split at hx
          · cases hx
          · rename_i hs0
            rw [oField_eq] at hx
            unfold pField at hx
            split at hx
            · rename_i ad
              split at hx
              · cases hx
              · rename_i hsp
                refine ⟨_, h, ?_, hx⟩
                simp [xop, ho, e1, atomic, afieldAddr, hu, hf, hs, hs0, hsp]
            · cases hx
        · cases hx
      · cases hx
    · cases hx
  · rename_i t y f ho
    split at hx
    · rename_i fs v hu e1
      split at hx
      · rename_i fd hf
        split at hx
        · rename_i ha
          split at hx
          · rename_i s hs
            have hx := oPartN_le hx
            unfold pPartN at hx
            split at hx
            · refine ⟨_, h, ?_, hx⟩
              simp [xop, ho, e1, atomic, afield, hu, hf, apart, ha, hs]
            · cases hx
          · cases hx
        · rename_i ha
          rw [oPart1_eq] at hx
          unfold pPart1 at hx
          split at hx
          · split at hx
            · rename_i u hu'
              refine ⟨u, h, ?_, hx⟩
              simp [xop, ho, e1, atomic, afield, hu, hf, apart, ha, hu']
            · cases hx
          · cases hx
        · cases hx
      · cases hx
    · cases hx
  · rename_i t y i ho
    split at hx
    · rename_i e hu
      split at hx
      · rename_i s vx vi hs e1 e2
        rw [oIdx_eq] at hx
        unfold pIdx at hx
        split at hx
        · rename_i ad n cc kk ii
          split at hx
          · rename_i m
            cases hb : Nat.blt m n with
            | false => rw [hb] at hx; cases hx
            | true =>
              rw [hb] at hx
              have hlt : m < n := Nat.ble_eq.mp hb
              refine ⟨_, h, ?_, hx⟩
              have h0 : (0 : Int) ≤ Int.ofNat m ∧ (Int.ofNat m : Int) < n := ⟨Int.natCast_nonneg m, Int.ofNat_lt.2 hlt⟩
              simp only [xop, ho, e1, e2, atomic, aindexAddr, hu, hs, Option.bind_some, if_pos h0]
              rfl
          · cases hx
        · cases hx
      · cases hx
    · exact hg hx
  · rename_i op t y z yt ho
    split at hx
    · rename_i f vx vy hf e1 e2
      exact strOp_ok hf ho e1 e2 hx
    · split at hx
      · rename_i g vx vy hg1 e1 e2
        obtain ⟨f, hf, hgf⟩ := intOp_f hg1
        rw [hgf] at hx
        unfold pInt2 at hx
        split at hx
        · rename_i p a q b
          split at hx
          · rename_i v hv
            cases hb : (p == q) with
            | false =>
              rw [hb] at hx
              simp only [cond_false] at hx
              rw [genR_eq] at hx
              first | exact oRes_ok hx | exact oRes_ok ((oRes_eq _ _).trans hx)
            | true =>
              rw [hb] at hx
              have e : p = q := by simpa using hb
              subst e
              exact ⟨v, h, by simp only [xop, ho, e1, e2, intOp_ok hf hv], hx⟩
          · rw [genR_eq] at hx
            first | exact oRes_ok hx | exact oRes_ok ((oRes_eq _ _).trans hx)
        · rw [genR_eq] at hx
          first | exact oRes_ok hx | exact oRes_ok ((oRes_eq _ _).trans hx)
      · exact hg hx
  · rename_i op t y ho
    split at hx
    · rename_i v e1
      exact oNot_ok ho e1 hx
    · exact hg hx
  · rename_i t ps ho
    split at hx
    · rename_i l z pl e1 e2
      exact oBuild_ok ho e1 e2 hx
    · exact hg hx
  · rename_i t n ps ho
    split at hx
    · rename_i l z pl e s e1 e2
      exact oBuildS_ok ho e1 e2 hx
    · exact hg hx
  · rename_i q ho
    split at hx
    · rename_i id hcal
      split at hx
      · exact hg hx
      · rename_i hout
        split at hx
        · rename_i args hargs
          rw [oCall_eq] at hx
          unfold pCall at hx
          split at hx
          · rename_i r hr
            refine ⟨r.1, r.2, ?_, hx⟩
            simp only [xop, ho, hcal, ev, hargs, Option.bind_some, hout, Bool.false_eq_true, if_false, List.nil_append, List.append_nil, hr]
          · cases hx
        · cases hx
    · rename_i hcal
      split at hx
      · rename_i e i u v hp ha
        exact oApp_ok ho hcal hp ha hx
      · exact hg hx
    · rename_i hcal
      split at hx
      · rename_i t ht
        split at hx
        · rename_i e y hu hargs
          rw [oLen_eq] at hx
          unfold pLen at hx
          split at hx
          · rename_i ad n cc
            refine ⟨_, h, ?_, hx⟩
            simp only [xop, ho, hcal, hargs, Option.bind_some, orPure, xbuiltin, ht, hu]
          · rw [genR_eq] at hx
            first | exact oRes_ok hx | exact oRes_ok ((oRes_eq _ _).trans hx)
        · exact hg hx
      · cases hx
    · exact hg hx
  · exact hg hx
end
end Go.Proofs.YtolignkahfekbaaGreatDoor
