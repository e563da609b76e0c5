/- A region that draws, in the text's order: what was looked at while it ran is enough. -/
import Derived.Test.YtdmkogfpaffnhaaGreatDoorDenRun
namespace Go.Proofs.YtdmkogfpaffnhaaGreatDoor
open Go Go.RowKit
section
variable {P : Program} {c : XCall} {ops : Array Oper}
theorem xtrace_of : ∀ {l : List Oper} {st st' : St}, xops P c ops l st = some st' → ∃ ss, xtrace P c ops l st = some ss ∧ ss.getLast? = some st'
  | [], st, st', h => by
    simp only [xops, Option.some.injEq] at h
    subst h
    exact ⟨[st], rfl, rfl⟩
  | o :: l, st, st', h => by
    simp only [xops] at h
    split at h
    · rename_i st1 h1
      obtain ⟨ss, g1, g2⟩ := xtrace_of h
      refine ⟨st :: ss, ?_, ?_⟩
      · simp only [xtrace, h1, g1, Option.bind_some]
      · obtain ⟨_, h0, _⟩ := xtrace_ok g1
        cases ss with
        | nil => simp at h0
        | cons a r => simpa [List.getLast?_cons_cons] using g2
    · cases h
theorem xops_of : ∀ {l : List Oper} {st st' : St} {ss : List St}, xtrace P c ops l st = some ss → ss.getLast? = some st' → xops P c ops l st = some st'
  | [], st, st', ss, h, g => by
    simp only [xtrace, Option.some.injEq] at h
    subst h
    simpa [xops] using g
  | o :: l, st, st', ss, h, g => by
    simp only [xtrace] at h
    split at h
    · rename_i st1 h1
      simp only [Option.bind_eq_some_iff, Option.some.injEq] at h
      obtain ⟨r, hr, rfl⟩ := h
      obtain ⟨_, h0, _⟩ := xtrace_ok hr
      simp only [xops, h1]
      refine xops_of hr ?_
      cases r with
      | nil => simp at h0
      | cons a r => simpa [List.getLast?_cons_cons] using g
    · cases h
theorem xdraw_ops {st st' : St} (h : xdraw P c ops st = some st') : xops P c ops ops.toList st = some st' := by
  unfold xdraw at h
  simp only [Option.bind_eq_some_iff] at h
  obtain ⟨ss, h1, h2⟩ := h
  split at h2
  · exact xops_of h1 h2
  · cases h2
theorem oDraw_ok {r : Option St} {k : St → R} {x : Value × AHeap} (h : oDraw r k = some x) : ∃ st, r = some st ∧ k st = some x := by
  unfold oDraw at h
  split at h
  · exact ⟨_, rfl, h⟩
  · cases h
theorem Chk.at {dr : Bool} : ∀ {l : List Oper} {st : St} {ss : List St}, xtrace P c ops l st = some ss → Chk P c ops dr l st → ∀ (i : Nat) (o : Oper) (s : St), l[i]? = some o → ss[i]? = some s → dr = true → sensitive o = true → wantedX ops o s.tmps = true → ∃ v h', xop P c o s.tmps s.heap = some (v, h') ∧ readOk P o s.tmps v s.heap.n s.heap = true
  | [], _, _, _, _, i, o, s, ho, _, _, _, _ => by simp at ho
  | o0 :: l, st, ss, hx, hc, i, o, s, ho, hs, h1, h2, h3 => by
    simp only [xtrace] at hx
    split at hx
    · rename_i st1 hst
      simp only [Option.bind_eq_some_iff, Option.some.injEq] at hx
      obtain ⟨r, hr, rfl⟩ := hx
      cases i with
      | zero =>
        simp only [List.getElem?_cons_zero, Option.some.injEq] at ho hs
        subst ho hs
        exact hc.1 h1 h2 h3
      | succ i =>
        simp only [List.getElem?_cons_succ] at ho hs
        exact Chk.at hr (hc.2 st1 hst) i o s ho hs h1 h2 h3
    · cases hx
theorem stagesX_inv : ∀ {l : List Oper} {ss : List St} (k : Nat), ss.length = l.length + 1 → ∀ {q : Nat} {H : AHeap}, (q, H) ∈ stagesX ops ss k l → ∃ i s, q = k + i ∧ ss[i]? = some s ∧ H = s.heap ∧ (i = l.length ∨ ∃ o, l[i]? = some o ∧ mover ops q o = true)
  | [], [s], k, _, q, H, h => by
    simp only [stagesX, List.mem_singleton, Prod.mk.injEq] at h
    exact ⟨0, s, h.1, rfl, h.2, .inl rfl⟩
  | [], [], k, hl, _, _, _ => by simp at hl
  | [], _ :: _ :: _, k, hl, _, _, _ => by simp at hl
  | o :: l, [], k, hl, _, _, _ => by simp at hl
  | o :: l, s :: ss, k, hl, q, H, h => by
    have hl' : ss.length = l.length + 1 := by simpa using hl
    have tail : (q, H) ∈ stagesX ops ss (k + 1) l → ∃ i s', q = k + i ∧ (s :: ss)[i]? = some s' ∧ H = s'.heap ∧ (i = (o :: l).length ∨ ∃ o', (o :: l)[i]? = some o' ∧ mover ops q o' = true) := by
      intro h
      obtain ⟨i, s', e1, e2, e3, e4⟩ := stagesX_inv (k + 1) hl' h
      refine ⟨i + 1, s', by omega, by simpa using e2, e3, ?_⟩
      rcases e4 with e4 | ⟨o', e4, e5⟩
      · exact .inl (by simp [e4])
      · exact .inr ⟨o', by simpa using e4, e5⟩
    simp only [stagesX] at h
    split at h
    · rename_i hm
      rcases List.mem_cons.1 h with h | h
      · simp only [Prod.mk.injEq] at h
        obtain ⟨rfl, rfl⟩ := h
        exact ⟨0, s, rfl, rfl, rfl, .inr ⟨o, rfl, hm⟩⟩
      · exact tail h
    · exact tail h
/-- Between two stages only what is new comes to memory. -/
theorem trace_stay {l : List Oper} {st : St} {ss : List St} (hm : CallMono c) (hx : xtrace P c ops l st = some ss) : ∀ (d i : Nat) (s s' : St), ss[i]? = some s → ss[i + d]? = some s' → (∀ j o, i ≤ j → j < i + d → l[j]? = some o → effect o.op = false) → s.heap.n ≤ s'.heap.n ∧ ∀ id, id < s.heap.n → s'.heap.get id = s.heap.get id
  | 0, i, s, s', h1, h2, _ => by
    rw [Nat.add_zero, h1] at h2
    cases h2
    exact ⟨Nat.le_refl _, fun _ _ => rfl⟩
  | d + 1, i, s, s', h1, h2, hn => by
    obtain ⟨hl, h0, hstep⟩ := xtrace_ok hx
    have hlt : i + (d + 1) < ss.length := (List.getElem?_eq_some_iff.1 h2).1
    obtain ⟨sm, hsm⟩ : ∃ sm, ss[i + d]? = some sm := ⟨_, List.getElem?_eq_getElem (by omega)⟩
    obtain ⟨a1, a2⟩ := trace_stay hm hx d i s sm h1 hsm fun j o h3 h4 h5 => hn j o h3 (by omega) h5
    obtain ⟨o, ho⟩ : ∃ o, l[i + d]? = some o := ⟨_, List.getElem?_eq_getElem (by omega)⟩
    obtain ⟨s1, s2, e1, e2, hs⟩ := hstep (i + d) o ho
    have e3 : sm = s1 := by rw [hsm] at e1; exact Option.some.inj e1
    have e4 : s' = s2 := by rw [show i + d + 1 = i + (d + 1) by omega, h2] at e2; exact Option.some.inj e2
    subst e3 e4
    have he := hn (i + d) o (by omega) (by omega) ho
    have key : s'.heap = sm.heap ∨ ∃ ob, s'.heap = sm.heap.push ob := by
      unfold xstep at hs
      split at hs
      · simp only [Option.bind_eq_some_iff] at hs
        obtain ⟨r, hr, hp⟩ := hs
        rw [(putX_n hp).1]
        exact xop_keep he hr
      · exact .inl (putX_n hs).1
    rcases key with e | ⟨ob, e⟩
    · rw [e]; exact ⟨a1, a2⟩
    · rw [e]
      refine ⟨Nat.le_succ_of_le a1, fun id hid => ?_⟩
      rw [AHeap.get_push, if_neg (by omega)]
      exact a2 id hid
theorem xdraw_of (hm : CallMono c) {st st' : St} (hd : drawOk ops = true) (hs : staticReads ops = true) (hx : xops P c ops ops.toList st = some st') (hc : Chk P c ops true ops.toList st) : xdraw P c ops st = some st' := by
  obtain ⟨ss, g1, g2⟩ := xtrace_of hx
  obtain ⟨hl, h0, hstep⟩ := xtrace_ok g1
  unfold xdraw
  rw [g1, Option.bind_some, hd]
  have key : readsOk P ops (stagesX ops ss 0 ops.toList) ss 0 ops.toList = true := by
    have gen : ∀ (l : List Oper) (k : Nat) (ts : List St), ts.length = l.length + 1 → (∀ i, l[i]? = ops.toList[k + i]?) → (∀ i, ts[i]? = ss[k + i]?) → readsOk P ops (stagesX ops ss 0 ops.toList) ts k l = true := by
      intro l
      induction l with
      | nil => intro k ts hts _ _; cases ts with
        | nil => rfl
        | cons a r => cases r <;> rfl
      | cons o l ih =>
        intro k ts hts hl1 hl2
        match ts, hts with
        | s :: s' :: ts, hts =>
          simp only [readsOk, Bool.and_eq_true, Bool.or_eq_true, Bool.not_eq_true']
          refine ⟨?_, ih (k + 1) (s' :: ts) (by simpa using hts) (fun i => by have := hl1 (i + 1); simpa [Nat.add_assoc, Nat.add_comm 1 i] using this) (fun i => by have := hl2 (i + 1); simpa [Nat.add_assoc, Nat.add_comm 1 i] using this)⟩
          cases hw : wantedX ops o s.tmps with
          | false => exact .inl rfl
          | true =>
            right
            rw [List.all_eq_true]
            rintro ⟨q, H⟩ hq
            have ho : ops.toList[k]? = some o := by have := hl1 0; simpa using this.symm
            have hsk : ss[k]? = some s := by have := hl2 0; simpa using this.symm
            have hsk' : ss[k + 1]? = some s' := by have := hl2 1; simpa using this.symm
            simp only [Bool.or_eq_true]
            cases hse : sensitive o with
            | false => exact .inl (sensitive_read hse _ _ _ _)
            | true =>
              obtain ⟨i, sq, e1, e2, e3, e4⟩ := stagesX_inv 0 hl hq
              rw [Nat.zero_add] at e1
              subst e3
              have e1' : q = i := e1
              subst e1'
              have hst := List.all_eq_true.1 hs (o, k) (by
                rw [List.mem_zipIdx_iff_getElem?]
                simpa using ho)
              simp only [hse, Bool.not_true, Bool.false_or, Bool.and_eq_true] at hst
              obtain ⟨hdst, hst⟩ := hst
              rw [List.all_eq_true] at hst
              have hqm : q ∈ moversOf ops ++ [ops.size] := by
                rw [List.mem_append]
                rcases e4 with e4 | ⟨o', e4, e5⟩
                · exact .inr (by simp [e4])
                · left
                  unfold moversOf
                  rw [List.mem_map]
                  refine ⟨(o', q), List.mem_filter.2 ⟨?_, e5⟩, rfl⟩
                  rw [List.mem_zipIdx_iff_getElem?]
                  simpa using e4
              have := hst q hqm
              simp only [Bool.or_eq_true] at this
              rcases this with hn | hn
              · left
                unfold nextAt at hn
                simp only [Bool.and_eq_true, Nat.ble_eq] at hn
                obtain ⟨v, h', x1, x2⟩ := Chk.at g1 hc k o s ho hsk rfl hse hw
                have hv : valAt o s' = v := by
                  obtain ⟨s1, s2, f1, f2, hss⟩ := hstep k o ho
                  have e3 : s = s1 := by rw [hsk] at f1; exact Option.some.inj f1
                  have e4 : s' = s2 := by rw [hsk'] at f2; exact Option.some.inj f2
                  subst e3 e4
                  unfold xstep at hss
                  rw [hw, if_pos rfl, x1, Option.bind_some] at hss
                  unfold valAt
                  cases hd1 : o.dst with
                  | none => rw [hd1] at hdst; cases hdst
                  | some d =>
                    simp only
                    rw [hd1] at hss
                    rw [putX_get hss, if_pos rfl]
                    rfl
                rw [hv]
                have hki : k ≤ q ∧ ∀ j o', k ≤ j → j < q → ops.toList[j]? = some o' → mover ops j o' = false := by
                  refine ⟨hn.1, fun j o' h1 h2 h3 => ?_⟩
                  have := List.all_eq_true.1 hn.2 (o', j) (by
                    rw [List.mem_zipIdx_iff_getElem?]
                    simpa using h3)
                  cases hmv : mover ops j o' with
                  | false => rfl
                  | true =>
                    have a1 : Nat.ble k j = true := Nat.ble_eq.mpr h1
                    have a2 : Nat.blt j q = true := Nat.ble_eq.mpr h2
                    rw [hmv, a1, a2] at this
                    cases this
                obtain ⟨d, hd2⟩ : ∃ d, q = k + d := ⟨q - k, by omega⟩
                subst hd2
                obtain ⟨b1, b2⟩ := trace_stay hm g1 d k s sq hsk e2 fun j o' h3 h4 h5 => mover_effect (hki.2 j o' h3 h4 h5)
                exact readOk_move ⟨s.heap, x2⟩ fun id hid => ⟨s.heap, x2, hid, b2 id hid⟩
              · exact .inr hn
        | [s], hts => simp at hts
        | [], hts => simp at hts
    exact gen ops.toList 0 ss hl (fun i => by rw [Nat.zero_add]) (fun i => by rw [Nat.zero_add])
  rw [key, Bool.and_self, if_pos rfl]
  exact g2
end
end Go.Proofs.YtdmkogfpaffnhaaGreatDoor
