/- A region that draws, in the text's order: what was looked at while it ran is enough. -/
import Derived.Test.YtolignkahfekbaaGreatDoorDenRun
namespace Go.Proofs.YtolignkahfekbaaGreatDoor
open Go Go.RowKit
section
variable {P : Program} {c : XCall} {ops : Array Oper}
theorem xtrace_of : ∀ {l : List Oper} {st st' : St}, xops P c ops l st = some st' → ∃ ss, xtrace P c ops l st = some ss ∧ ss.getLast? = some st'
  | [], st, st', h => by
    simp only [xops, Option.some.injEq] at h
    subst h
    exact ⟨[st], rfl, rfl⟩
  | o :: l, st, st', h => by
    simp only [xops] at h
    split at h
    · rename_i st1 h1
      obtain ⟨ss, g1, g2⟩ := xtrace_of h
      refine ⟨st :: ss, ?_, ?_⟩
      · simp only [xtrace, h1, g1, Option.bind_some]
      · obtain ⟨_, h0, _⟩ := xtrace_ok g1
        cases ss with
        | nil => simp at h0
        | cons a r => simpa [List.getLast?_cons_cons] using g2
    · cases h
theorem xops_of : ∀ {l : List Oper} {st st' : St} {ss : List St}, xtrace P c ops l st = some ss → ss.getLast? = some st' → xops P c ops l st = some st'
  | [], st, st', ss, h, g => by
    simp only [xtrace, Option.some.injEq] at h
    subst h
    simpa [xops] using g
  | o :: l, st, st', ss, h, g => by
    simp only [xtrace] at h
    split at h
    · rename_i st1 h1
      simp only [Option.bind_eq_some_iff, Option.some.injEq] at h
      obtain ⟨r, hr, rfl⟩ := h
      obtain ⟨_, h0, _⟩ := xtrace_ok hr
      simp only [xops, h1]
      refine xops_of hr ?_
      cases r with
      | nil => simp at h0
      | cons a r => simpa [List.getLast?_cons_cons] using g
    · cases h
theorem xdraw_ops {st st' : St} (h : xdraw P c ops st = some st') : xops P c ops ops.toList st = some st' := by
  unfold xdraw at h
  simp only [Option.bind_eq_some_iff] at h
  obtain ⟨ss, h1, h2⟩ := h
  split at h2
  · exact xops_of h1 h2
  · cases h2
theorem oDraw_ok {r : Option St} {k : St → R} {x : Value × AHeap} (h : oDraw r k = some x) : ∃ st, r = some st ∧ k st = some x := by
  cases r with
  | none => cases h
  | some st => exact ⟨st, rfl, h⟩
theorem Chk.at {dr : Bool} : ∀ {l : List Oper} {st : St} {ss : List St}, xtrace P c ops l st = some ss → Chk P c ops dr l st → ∀ (i : Nat) (o : Oper) (s : St), l[i]? = some o → ss[i]? = some s → dr = true → sensitive o = true → wantedX ops o s.tmps = true → ∃ v h', xop P c o s.tmps s.heap = some (v, h') ∧ readOk P o s.tmps v s.heap.n s.heap = true
  | [], _, _, _, _, i, o, s, ho, _, _, _, _ => by simp at ho
  | o0 :: l, st, ss, hx, hc, i, o, s, ho, hs, h1, h2, h3 => by
    simp only [xtrace] at hx
    split at hx
    · rename_i st1 hst
      simp only [Option.bind_eq_some_iff, Option.some.injEq] at hx
      obtain ⟨r, hr, rfl⟩ := hx
      cases i with
      | zero =>
        simp only [List.getElem?_cons_zero, Option.some.injEq] at ho hs
        subst ho hs
        exact hc.1 h1 h2 h3
      | succ i =>
        simp only [List.getElem?_cons_succ] at ho hs
        exact Chk.at hr (hc.2 st1 hst) i o s ho hs h1 h2 h3
    · cases hx
theorem stagesX_inv : ∀ {l : List Oper} {ss : List St} (k : Nat), ss.length = l.length + 1 → ∀ {q : Nat} {H : AHeap}, (q, H) ∈ stagesX ops ss k l → ∃ i s, q = k + i ∧ ss[i]? = some s ∧ H = s.heap ∧ (i = l.length ∨ ∃ o, l[i]? = some o ∧ mover ops q o = true)
  | [], [s], k, _, q, H, h => by
    simp only [stagesX, List.mem_singleton, Prod.mk.injEq] at h
    exact ⟨0, s, h.1, rfl, h.2, .inl rfl⟩
  | [], [], k, hl, _, _, _ => by simp at hl
  | [], _ :: _ :: _, k, hl, _, _, _ => by simp at hl
  | o :: l, [], k, hl, _, _, _ => by simp at hl
  | o :: l, s :: ss, k, hl, q, H, h => by
    have hl' : ss.length = l.length + 1 := by simpa using hl
    have tail : (q, H) ∈ stagesX ops ss (k + 1) l → ∃ i s', q = k + i ∧ (s :: ss)[i]? = some s' ∧ H = s'.heap ∧ (i = (o :: l).length ∨ ∃ o', (o :: l)[i]? = some o' ∧ mover ops q o' = true) := by
      intro h
      obtain ⟨i, s', e1, e2, e3, e4⟩ := stagesX_inv (k + 1) hl' h
      refine ⟨i + 1, s', by omega, by simpa using e2, e3, ?_⟩
      rcases e4 with e4 | ⟨o', e4, e5⟩
      · exact .inl (by simp [e4])
      · exact .inr ⟨o', by simpa using e4, e5⟩
    simp only [stagesX] at h
    split at h
    · rename_i hm
      rcases List.mem_cons.1 h with h | h
      · simp only [Prod.mk.injEq] at h
        obtain ⟨rfl, rfl⟩ := h
        exact ⟨0, s, rfl, rfl, rfl, .inr ⟨o, rfl, hm⟩⟩
      · exact tail h
    · exact tail h
/-- Between two stages only what is new comes to memory. -/
theorem trace_stay {l : List Oper} {st : St} {ss : List St} (hm : CallMono c) (hx : xtrace P c ops l st = some ss) : ∀ (d i : Nat) (s s' : St), ss[i]? = some s → ss[i + d]? = some s' → (∀ j o, i ≤ j → j < i + d → l[j]? = some o → effect o.op = false) → s.heap.n ≤ s'.heap.n ∧ ∀ id, id < s.heap.n → s'.heap.get id = s.heap.get id
  | 0, i, s, s', h1, h2, _ => by
    rw [Nat.add_zero, h1] at h2
    cases h2
    exact ⟨Nat.le_refl _, fun _ _ => rfl⟩
  | d + 1, i, s, s', h1, h2, hn => by
    obtain ⟨hl, h0, hstep⟩ := xtrace_ok hx
    have hlt : i + (d + 1) < ss.length := (List.getElem?_eq_some_iff.1 h2).1
    obtain ⟨sm, hsm⟩ : ∃ sm, ss[i + d]? = some sm := ⟨_, List.getElem?_eq_getElem (by omega)⟩
    obtain ⟨a1, a2⟩ := trace_stay hm hx d i s sm h1 hsm fun j o h3 h4 h5 => hn j o h3 (by omega) h5
    obtain ⟨o, ho⟩ : ∃ o, l[i + d]? = some o := ⟨_, List.getElem?_eq_getElem (by omega)⟩
    obtain ⟨s1, s2, e1, e2, hs⟩ := hstep (i + d) o ho
    have e3 : sm = s1 := by rw [hsm] at e1; exact Option.some.inj e1
    have e4 : s' = s2 := by rw [show i + d + 1 = i + (d + 1) by omega, h2] at e2; exact Option.some.inj e2
    subst e3 e4
    have he := hn (i + d) o (by omega) (by omega) ho
    have key : s'.heap = sm.heap ∨ ∃ ob, s'.heap = sm.heap.push ob := by
      unfold xstep at hs
      split at hs
      · simp only [Option.bind_eq_some_iff] at hs
        obtain ⟨r, hr, hp⟩ := hs
        rw [(putX_n hp).1]
        exact xop_keep he hr
      · exact .inl (putX_n hs).1
    rcases key with e | ⟨ob, e⟩
    · rw [e]; exact ⟨a1, a2⟩
    · rw [e]
      refine ⟨Nat.le_succ_of_le a1, fun id hid => ?_⟩
      rw [AHeap.get_push, if_neg (by omega)]
      exact a2 id hid
theorem xdraw_of (hm : CallMono c) {st st' : St} (hd : drawOk ops = true) (hs : staticReads ops = true) (hx : xops P c ops ops.toList st = some st') (hc : Chk P c ops true ops.toList st) : xdraw P c ops st = some st' := by
  obtain ⟨ss, g1, g2⟩ := xtrace_of hx
  obtain ⟨hl, h0, hstep⟩ := xtrace_ok g1
  unfold xdraw
  rw [g1, Option.bind_some, hd]
  have key : readsOk P ops (stagesX ops ss 0 ops.toList) ss 0 ops.toList = true := by
    have gen : ∀ (l : List Oper) (k : Nat) (ts : List St), ts.length = l.length + 1 → (∀ i, l[i]? = ops.toList[k + i]?) → (∀ i, ts[i]? = ss[k + i]?) → readsOk P ops (stagesX ops ss 0 ops.toList) ts k l = true := by
      intro l
      induction l with
      | nil => intro k ts hts _ _; cases ts with
        | nil => rfl
        | cons a r => cases r <;> rfl
      | cons o l ih =>
        intro k ts hts hl1 hl2
        match ts, hts with
        | s :: s' :: ts, hts =>
          simp only [readsOk, Bool.and_eq_true, Bool.or_eq_true, Bool.not_eq_true']
          refine ⟨?_, ih (k + 1) (s' :: ts) (by simpa using hts) (fun i => by have := hl1 (i + 1); simpa [Nat.add_assoc, Nat.add_comm 1 i] using this) (fun i => by have := hl2 (i + 1); simpa [Nat.add_assoc, Nat.add_comm 1 i] using this)⟩
          cases hw : wantedX ops o s.tmps with
          | false => exact .inl rfl
          | true =>
            right
            rw [List.all_eq_true]
            rintro ⟨q, H⟩ hq
            have ho : ops.toList[k]? = some o := by have := hl1 0; simpa using this.symm
            have hsk : ss[k]? = some s := by have := hl2 0; simpa using this.symm
            have hsk' : ss[k + 1]? = some s' := by have := hl2 1; simpa using this.symm
            simp only [Bool.or_eq_true]
            cases hse : sensitive o with
            | false => exact .inl (sensitive_read hse _ _ _ _)
            | true =>
              obtain ⟨i, sq, e1, e2, e3, e4⟩ := stagesX_inv 0 hl hq
              rw [Nat.zero_add] at e1
              subst e3
              have e1' : q = i := e1
              subst e1'
              have hst := List.all_eq_true.1 hs (o, k) (by
                rw [List.mem_zipIdx_iff_getElem?]
                simpa using ho)
              simp only [hse, Bool.not_true, Bool.false_or, Bool.and_eq_true] at hst
              obtain ⟨hdst, hst⟩ := hst
              rw [List.all_eq_true] at hst
              have hqm : q ∈ moversOf ops ++ [ops.size] := by
                rw [List.mem_append]
                rcases e4 with e4 | ⟨o', e4, e5⟩
                · exact .inr (by simp [e4])
                · left
                  unfold moversOf
                  rw [List.mem_map]
                  refine ⟨(o', q), List.mem_filter.2 ⟨?_, e5⟩, rfl⟩
                  rw [List.mem_zipIdx_iff_getElem?]
                  simpa using e4
              have := hst q hqm
              simp only [Bool.or_eq_true] at this
              rcases this with hn | hn
              · left
                unfold nextAt at hn
                simp only [Bool.and_eq_true, Nat.ble_eq] at hn
                obtain ⟨v, h', x1, x2⟩ := Chk.at g1 hc k o s ho hsk rfl hse hw
                have hv : valAt o s' = v := by
                  obtain ⟨s1, s2, f1, f2, hss⟩ := hstep k o ho
                  have e3 : s = s1 := by rw [hsk] at f1; exact Option.some.inj f1
                  have e4 : s' = s2 := by rw [hsk'] at f2; exact Option.some.inj f2
                  subst e3 e4
                  unfold xstep at hss
                  rw [hw, if_pos rfl, x1, Option.bind_some] at hss
                  unfold valAt
                  cases hd1 : o.dst with
                  | none => rw [hd1] at hdst; cases hdst
                  | some d =>
                    simp only
                    rw [hd1] at hss
                    rw [putX_get hss, if_pos rfl]
                    rfl
                rw [hv]
                have hki : k ≤ q ∧ ∀ j o', k ≤ j → j < q → ops.toList[j]? = some o' → mover ops j o' = false := by
                  refine ⟨hn.1, fun j o' h1 h2 h3 => ?_⟩
                  have := List.all_eq_true.1 hn.2 (o', j) (by
                    rw [List.mem_zipIdx_iff_getElem?]
                    simpa using h3)
                  cases hmv : mover ops j o' with
                  | false => rfl
                  | true =>
                    have a1 : Nat.ble k j = true := Nat.ble_eq.mpr h1
                    have a2 : Nat.blt j q = true := Nat.ble_eq.mpr h2
                    rw [hmv, a1, a2] at this
                    cases this
                obtain ⟨d, hd2⟩ : ∃ d, q = k + d := ⟨q - k, by omega⟩
                subst hd2
                obtain ⟨b1, b2⟩ := trace_stay hm g1 d k s sq hsk e2 fun j o' h3 h4 h5 => mover_effect (hki.2 j o' h3 h4 h5)
                exact readOk_move ⟨s.heap, x2⟩ fun id hid => ⟨s.heap, x2, hid, b2 id hid⟩
              · exact .inr hn
        | [s], hts => simp at hts
        | [], hts => simp at hts
    exact gen ops.toList 0 ss hl (fun i => by rw [Nat.zero_add]) (fun i => by rw [Nat.zero_add])
  rw [key, Bool.and_self, if_pos rfl]
  exact g2
theorem oChk_some {b : Bool} {k : R} {x : Value × AHeap} (h : oChk b k = some x) : b = true ∧ k = some x := by
  cases b with
  | false => cases h
  | true => exact ⟨rfl, h⟩
theorem oChkG_some {g : Value} {want b : Bool} {k : R} {x : Value × AHeap} (h : oChkG g want b k = some x) : (g = .bool want → b = true) ∧ k = some x := by
  unfold oChkG at h
  rw [vBool_eq] at h
  split at h
  · rename_i t
    cases t <;> cases want
    · obtain ⟨h1, h2⟩ := oChk_some h; exact ⟨fun _ => h1, h2⟩
    · exact ⟨(fun e => by cases e), h⟩
    · exact ⟨(fun e => by cases e), h⟩
    · obtain ⟨h1, h2⟩ := oChk_some h; exact ⟨fun _ => h1, h2⟩
  · rename_i hn
    exact ⟨fun e => absurd e (hn want), h⟩
theorem chkAt2_eq {o : Oper} {T : Tr Value} {v : Value} {n : Nat} {H : AHeap} (h : chkAt2 P o (tmpsOf o.op.operands.toList) ((tmpsOf o.op.operands.toList).map (getT T)) v n H = true) : readOk P o T v n H = true := by
  unfold chkAt2 at h
  rwa [readOk_congr (T' := T)] at h
  intro x hx
  cases x with
  | tmp t =>
    simp only [ev]
    rw [setAll_get, if_pos (mem_tmps (by simpa using hx))]
    rfl
  | _ => rfl
def wantedR (r : Rd) : Prop := ∀ g want, r.g = some (g, want) → g = .bool want
theorem chkNow_ok {H : AHeap} {q : Nat} {k : R} {x : Value × AHeap} : ∀ {rs : List Rd}, chkNow P ops H q rs k = some x → (∀ r ∈ rs, q ∈ needQ ops r.i r.o → wantedR r → readOk P r.o r.T r.v r.n H = true) ∧ k = some x
  | [], h => ⟨(fun _ hr => nomatch hr), h⟩
  | r :: rs, h => by
    simp only [chkNow, ifH_eq] at h
    split at h
    · split at h
      · rename_i hg
        obtain ⟨h1, h2⟩ := oChk_some h
        obtain ⟨h3, h4⟩ := chkNow_ok h2
        refine ⟨fun r' hr hq hw => ?_, h4⟩
        rcases List.mem_cons.1 hr with e | hr
        · subst e; exact chkAt2_eq h1
        · exact h3 r' hr hq hw
      · rename_i g want hg
        obtain ⟨h1, h2⟩ := oChkG_some h
        obtain ⟨h3, h4⟩ := chkNow_ok h2
        refine ⟨fun r' hr hq hw => ?_, h4⟩
        rcases List.mem_cons.1 hr with e | hr
        · subst e; exact chkAt2_eq (h1 (hw _ _ hg))
        · exact h3 r' hr hq hw
    · rename_i hn
      obtain ⟨h3, h4⟩ := chkNow_ok h
      refine ⟨fun r' hr hq hw => ?_, h4⟩
      rcases List.mem_cons.1 hr with e | hr
      · subst e; exact absurd (by simpa using hq) hn
      · exact h3 r' hr hq hw
theorem chkOwn_ok {o : Oper} {i : Nat} {T : Tr Value} {v : Value} {n : Nat} {k : R} {x : Value × AHeap} : ∀ {hs : List (Nat × AHeap)}, chkOwn P ops o i T v n hs k = some x → (∀ q H, (q, H) ∈ hs → q ∈ needQ ops i o → readOk P o T v n H = true) ∧ k = some x
  | [], h => ⟨(fun _ _ hr => nomatch hr), h⟩
  | (q, H) :: hs, h => by
    simp only [chkOwn, ifH_eq] at h
    split at h
    · obtain ⟨h1, h2⟩ := oChk_some h
      obtain ⟨h3, h4⟩ := chkOwn_ok h2
      refine ⟨fun q' H' hr hq => ?_, h4⟩
      rcases List.mem_cons.1 hr with e | hr
      · cases e; exact chkAt2_eq h1
      · exact h3 q' H' hr hq
    · rename_i hn
      obtain ⟨h3, h4⟩ := chkOwn_ok h
      refine ⟨fun q' H' hr hq => ?_, h4⟩
      rcases List.mem_cons.1 hr with e | hr
      · cases e; exact absurd (by simpa using hq) hn
      · exact h3 q' H' hr hq
theorem needQ_sens {i q : Nat} {o : Oper} (h : q ∈ needQ ops i o) : sensitive o = true := by
  unfold needQ at h
  split at h
  · assumption
  · cases h
theorem hsAt_sub {b : Bool} {i : Nat} {h : AHeap} {hs : List (Nat × AHeap)} {p : Nat × AHeap} (hp : p ∈ hs) : p ∈ hsAt b i h hs := by
  unfold hsAt
  rw [ifH_eq]
  split
  · exact List.mem_cons_of_mem _ hp
  · exact hp
theorem denOpsC_ok {nt : Nat} : ∀ {l : List Oper} {i : Nat} {T : Tr Value} {h : AHeap} {hs : List (Nat × AHeap)} {rs : List Rd} {k : KT} {x : Value × AHeap}, (∀ o ∈ l, sensitive o = true → o.dst.isSome = true) → denOpsC P c nt ops l i T h hs rs k = some x →
    ∃ ss T' h', xtrace P c ops l ⟨nt, T, h⟩ = some ss ∧ ss.getLast? = some ⟨nt, T', h'⟩ ∧ k T' h' = some x ∧
      (∀ q H, (q, H) ∈ stagesX ops ss i l → ∀ r ∈ rs, q ∈ needQ ops r.i r.o → wantedR r → readOk P r.o r.T r.v r.n H = true) ∧
      (∀ j o s s', l[j]? = some o → ss[j]? = some s → ss[j + 1]? = some s' → wantedX ops o s.tmps = true → ∀ q H, (q, H) ∈ hs ∨ (q, H) ∈ stagesX ops ss i l → q ∈ needQ ops (i + j) o → readOk P o s.tmps (valAt o s') s.heap.n H = true)
  | [], i, T, h, hs, rs, k, x, _, hx => by
    simp only [denOpsC] at hx
    obtain ⟨h1, h2⟩ := chkNow_ok hx
    refine ⟨[⟨nt, T, h⟩], T, h, rfl, rfl, h2, ?_, fun j o s s' h3 => by simp at h3⟩
    intro q H hq
    simp only [stagesX, List.mem_singleton, Prod.mk.injEq] at hq
    obtain ⟨rfl, rfl⟩ := hq
    exact h1
  | o :: l, i, T, h, hs, rs, k, x, hd, hx => by
    simp only [denOpsC] at hx
    have hm : (mover ops i o = true → ∀ r ∈ rs, i ∈ needQ ops r.i r.o → wantedR r → readOk P r.o r.T r.v r.n h = true) ∧ (match o.guard with
        | none => den1 P c o T h fun v h' => chkOwn P ops o i T v h.n (hsAt (mover ops i o) i h hs) (denPut nt o.dst v T fun T' => denOpsC P c nt ops l (i + 1) T' h' (hsAt (mover ops i o) i h hs) (⟨i, o, T, v, h.n, none⟩ :: rs) k)
        | some (j, want) => match (ops[j]?).bind (·.dst) with
          | some d => oGuard (getT T d) want h (fun k => den1 P c o T h fun v h' => chkOwn P ops o i T v h.n (hsAt (mover ops i o) i h hs) (k v h')) fun v h' => denPut nt o.dst v T fun T' => denOpsC P c nt ops l (i + 1) T' h' (hsAt (mover ops i o) i h hs) (⟨i, o, T, v, h.n, some (getT T d, want)⟩ :: rs) k
          | none => none) = some x := by
      unfold atMover at hx
      rw [ifH_eq] at hx
      split at hx
      · obtain ⟨a1, a2⟩ := chkNow_ok hx
        exact ⟨fun _ => a1, a2⟩
      · rename_i hn
        exact ⟨fun e => absurd e hn, hx⟩
    clear hx
    obtain ⟨hA, hx⟩ := hm
    have fin : ∀ (v : Value) (h1 : AHeap) (T1 : Tr Value) (r0 : Rd), xstep P c ops o ⟨nt, T, h⟩ = some ⟨nt, T1, h1⟩ → r0.i = i → r0.o = o → r0.T = T → r0.v = v → r0.n = h.n →
        denOpsC P c nt ops l (i + 1) T1 h1 (hsAt (mover ops i o) i h hs) (r0 :: rs) k = some x →
        (wantedX ops o T = true → wantedR r0 ∧ (∀ q H, (q, H) ∈ hsAt (mover ops i o) i h hs → q ∈ needQ ops i o → readOk P o T v h.n H = true) ∧ ∀ d, o.dst = some d → T1.get d = some v) →
        ∃ ss T' h', xtrace P c ops (o :: l) ⟨nt, T, h⟩ = some ss ∧ ss.getLast? = some ⟨nt, T', h'⟩ ∧ k T' h' = some x ∧
          (∀ q H, (q, H) ∈ stagesX ops ss i (o :: l) → ∀ r ∈ rs, q ∈ needQ ops r.i r.o → wantedR r → readOk P r.o r.T r.v r.n H = true) ∧
          (∀ j o' s s', (o :: l)[j]? = some o' → ss[j]? = some s → ss[j + 1]? = some s' → wantedX ops o' s.tmps = true → ∀ q H, (q, H) ∈ hs ∨ (q, H) ∈ stagesX ops ss i (o :: l) → q ∈ needQ ops (i + j) o' → readOk P o' s.tmps (valAt o' s') s.heap.n H = true) := by
      intro v h1 T1 r0 hst e1 e2 e3 e4 e5 hrec hown
      obtain ⟨ss, T', h', g1, g2, g3, gA, gB⟩ := denOpsC_ok (fun o' ho' => hd o' (List.mem_cons_of_mem _ ho')) hrec
      obtain ⟨q1, q2, _⟩ := xtrace_ok g1
      have hst2 : ∀ q H, (q, H) ∈ stagesX ops (⟨nt, T, h⟩ :: ss) i (o :: l) → (mover ops i o = true ∧ q = i ∧ H = h) ∨ (q, H) ∈ stagesX ops ss (i + 1) l := by
        intro q H hq
        simp only [stagesX] at hq
        split at hq
        · rename_i hmv
          rcases List.mem_cons.1 hq with e | hq
          · cases e; exact .inl ⟨hmv, rfl, rfl⟩
          · exact .inr hq
        · exact .inr hq
      have hin : mover ops i o = true → (i, h) ∈ hsAt (mover ops i o) i h hs := by
        intro hmv
        unfold hsAt
        rw [ifH_eq, if_pos hmv]
        exact List.mem_cons_self ..
      refine ⟨⟨nt, T, h⟩ :: ss, T', h', by simp only [xtrace, hst, g1, Option.bind_some], ?_, g3, ?_, ?_⟩
      · cases ss with
        | nil => simp at q1
        | cons a r => simpa [List.getLast?_cons_cons] using g2
      · intro q H hq r hr hn hw
        rcases hst2 q H hq with ⟨hmv, rfl, rfl⟩ | hq
        · exact hA hmv r hr hn hw
        · exact gA q H hq r (List.mem_cons_of_mem _ hr) hn hw
      · intro j o' s s' a1 a2 a3 a4 q H a5 a6
        cases j with
        | zero =>
          simp only [List.getElem?_cons_zero, Option.some.injEq] at a1 a2
          subst a1 a2
          have a3' : ss[0]? = some s' := by simpa using a3
          rw [q2] at a3'
          simp only [Option.some.injEq] at a3'
          subst a3'
          obtain ⟨w1, w2, w3⟩ := hown a4
          have hval : valAt o ⟨nt, T1, h1⟩ = v := by
            have hsome := hd o (List.mem_cons_self ..) (needQ_sens a6)
            unfold valAt
            cases hdst : o.dst with
            | none => rw [hdst] at hsome; cases hsome
            | some d => simp only [w3 d hdst, Option.getD_some]
          rw [hval]
          have a6' : q ∈ needQ ops i o := a6
          rcases a5 with a5 | a5
          · exact w2 q H (hsAt_sub a5) a6'
          · rcases hst2 q H a5 with ⟨hmv, rfl, rfl⟩ | a5
            · exact w2 _ _ (hin hmv) a6'
            · have := gA q H a5 r0 (List.mem_cons_self ..) (by rw [e1, e2]; exact a6') w1
              rw [e2, e3, e4, e5] at this
              exact this
        | succ j =>
          have a1' : l[j]? = some o' := by simpa using a1
          have a2' : ss[j]? = some s := by simpa using a2
          have a3' : ss[j + 1]? = some s' := by simpa using a3
          refine gB j o' s s' a1' a2' a3' a4 q H ?_ (by rw [Nat.add_assoc, Nat.add_comm 1 j]; exact a6)
          rcases a5 with a5 | a5
          · exact .inl (hsAt_sub a5)
          · rcases hst2 q H a5 with ⟨hmv, rfl, rfl⟩ | a5
            · exact .inl (hin hmv)
            · exact .inr a5
    have got : ∀ {dst : Option Tmp} {v : Value} {h1 : AHeap} {T1 : Tr Value}, putX ⟨nt, T, h⟩ dst v h1 = some ⟨nt, T1, h1⟩ → ∀ d, dst = some d → T1.get d = some v := by
      intro dst v h1 T1 hp d e
      have := putX_get hp d
      simp only at this
      rw [this, if_pos e]
    split at hx
    · rename_i hg
      obtain ⟨v, h1, e1, e2⟩ := den1_ok hx
      obtain ⟨o1, e2⟩ := chkOwn_ok e2
      obtain ⟨T1, e3, e4⟩ := denPut_ok (h := h1) e2
      have hw : wantedX ops o T = true := by unfold wantedX; rw [hg]
      refine fin v h1 T1 _ ?_ rfl rfl rfl rfl rfl e4 fun _ => ⟨(fun _ _ e => by cases e), o1, got (putX_heap e3)⟩
      simp only [xstep, hw, if_true, e1, Option.bind_some, putX_heap e3]
    · rename_i j want hg
      split at hx
      · rename_i d hdd
        rw [oGuard_eq] at hx
        unfold pGuard at hx
        have hgt : getT T d = (T.get d).getD undef := rfl
        have hy : yieldedX ops T j = match getT T d with
            | .bool b => some b
            | _ => none := by
          unfold yieldedX
          rw [hdd, hgt]
          simp only
          cases T.get d with
          | none => rfl
          | some v => cases v <;> rfl
        have other : wantedX ops o T = false → (denPut nt o.dst undef T fun T' => denOpsC P c nt ops l (i + 1) T' h (hsAt (mover ops i o) i h hs) (⟨i, o, T, undef, h.n, some (getT T d, want)⟩ :: rs) k) = some x → (∃ ss T' h', xtrace P c ops (o :: l) ⟨nt, T, h⟩ = some ss ∧ ss.getLast? = some ⟨nt, T', h'⟩ ∧ k T' h' = some x ∧
          (∀ q H, (q, H) ∈ stagesX ops ss i (o :: l) → ∀ r ∈ rs, q ∈ needQ ops r.i r.o → wantedR r → readOk P r.o r.T r.v r.n H = true) ∧
          (∀ j o' s s', (o :: l)[j]? = some o' → ss[j]? = some s → ss[j + 1]? = some s' → wantedX ops o' s.tmps = true → ∀ q H, (q, H) ∈ hs ∨ (q, H) ∈ stagesX ops ss i (o :: l) → q ∈ needQ ops (i + j) o' → readOk P o' s.tmps (valAt o' s') s.heap.n H = true)) := fun hw hx => by
          obtain ⟨T1, e3, e4⟩ := denPut_ok (h := h) hx
          exact fin undef h T1 _ (by simp only [xstep, hw, Bool.false_eq_true, if_false, e3]) rfl rfl rfl rfl rfl e4 fun hw2 => by rw [hw] at hw2; cases hw2
        split at hx
        · rename_i b hb
          rw [hb] at hy
          cases hbw : (b == want) with
          | true =>
            rw [hbw] at hx
            simp only [cond_true] at hx
            have hw : wantedX ops o T = true := by
              unfold wantedX
              rw [hg]
              simp only [hy]
              simpa using hbw
            obtain ⟨v, h1, e1, e2⟩ := den1_ok hx
            obtain ⟨o1, e2⟩ := chkOwn_ok e2
            obtain ⟨T1, e3, e4⟩ := denPut_ok (h := h1) e2
            have hbw' : b = want := by simpa using hbw
            refine fin v h1 T1 _ ?_ rfl rfl rfl rfl rfl e4 fun _ => ⟨(fun g w e => by
              simp only [Option.some.injEq, Prod.mk.injEq] at e
              rw [← e.1, ← e.2, hb, hbw']), o1, got (putX_heap e3)⟩
            simp only [xstep, hw, if_true, e1, Option.bind_some, putX_heap e3]
          | false =>
            rw [hbw] at hx
            simp only [cond_false] at hx
            refine other ?_ hx
            unfold wantedX
            rw [hg]
            simp only [hy]
            simpa using hbw
        · rename_i hnb
          have hy0 : yieldedX ops T j = none := by
            rw [hy]
            split
            · rename_i b hb; exact absurd hb (hnb b)
            · rfl
          refine other ?_ hx
          unfold wantedX
          rw [hg]
          simp only [hy0]
          rfl
      · cases hx
theorem denC_ok {nt : Nat} {T : Tr Value} {h : AHeap} {k : KT} {x : Value × AHeap} (hd : drawOk ops = true) (hds : dstOk ops = true) (hx : denOpsC P c nt ops ops.toList 0 T h [] [] k = some x) : ∃ T' h', xdraw P c ops ⟨nt, T, h⟩ = some ⟨nt, T', h'⟩ ∧ k T' h' = some x := by
  have hds' : ∀ o ∈ ops.toList, sensitive o = true → o.dst.isSome = true := by
    intro o ho hs
    have := List.all_eq_true.1 hds o ho
    rw [hs] at this
    simpa using this
  obtain ⟨ss, T', h', g1, g2, g3, _, gB⟩ := denOpsC_ok hds' hx
  obtain ⟨hl, h0, hstep⟩ := xtrace_ok g1
  refine ⟨T', h', ?_, g3⟩
  unfold xdraw
  rw [g1, Option.bind_some, hd]
  have gen : ∀ (l : List Oper) (k : Nat) (ts : List St), ts.length = l.length + 1 → (∀ i, l[i]? = ops.toList[k + i]?) → (∀ i, ts[i]? = ss[k + i]?) → readsOk P ops (stagesX ops ss 0 ops.toList) ts k l = true := by
    intro l
    induction l with
    | nil => intro k ts hts _ _; cases ts with
      | nil => rfl
      | cons a r => cases r <;> rfl
    | cons o l ih =>
      intro k ts hts hl1 hl2
      match ts, hts with
      | s :: s' :: ts, hts =>
        simp only [readsOk, Bool.and_eq_true, Bool.or_eq_true, Bool.not_eq_true']
        refine ⟨?_, ih (k + 1) (s' :: ts) (by simpa using hts) (fun i => by have := hl1 (i + 1); simpa [Nat.add_assoc, Nat.add_comm 1 i] using this) (fun i => by have := hl2 (i + 1); simpa [Nat.add_assoc, Nat.add_comm 1 i] using this)⟩
        cases hw : wantedX ops o s.tmps with
        | false => exact .inl rfl
        | true =>
          right
          rw [List.all_eq_true]
          rintro ⟨q, H⟩ hq
          have ho : ops.toList[k]? = some o := by have := hl1 0; simpa using this.symm
          have hsk : ss[k]? = some s := by have := hl2 0; simpa using this.symm
          have hsk' : ss[k + 1]? = some s' := by have := hl2 1; simpa using this.symm
          simp only [Bool.or_eq_true]
          cases hse : sensitive o with
          | false => exact .inl (sensitive_read hse _ _ _ _)
          | true =>
            obtain ⟨i, sq, e1, e2, e3, e4⟩ := stagesX_inv 0 hl hq
            rw [Nat.zero_add] at e1
            have hqm : q ∈ moversOf ops ++ [ops.size] := by
              rw [List.mem_append]
              rcases e4 with e4 | ⟨o', e4, e5⟩
              · exact .inr (by simp [e1, e4])
              · left
                unfold moversOf
                rw [List.mem_map]
                refine ⟨(o', q), List.mem_filter.2 ⟨?_, e5⟩, rfl⟩
                rw [List.mem_zipIdx_iff_getElem?]
                simpa [e1] using e4
            cases hout : outOf ops k o q with
            | true => exact .inr rfl
            | false =>
              left
              refine gB k o s s' ho hsk hsk' hw q H (.inr hq) ?_
              rw [Nat.zero_add]
              unfold needQ
              rw [if_pos hse, List.mem_filter]
              exact ⟨hqm, by rw [hout]; rfl⟩
      | [s], hts => simp at hts
      | [], hts => simp at hts
  have key := gen ops.toList 0 ss hl (fun i => by rw [Nat.zero_add]) (fun i => by rw [Nat.zero_add])
  rw [key, Bool.and_self, if_pos rfl]
  exact g2
theorem xdrawL_ok {st st' : St} (hd : drawOk ops = true) (hx : xdrawL P c ops (needs ops) st = some st') : xdraw P c ops st = some st' := by
  unfold xdrawL at hx
  simp only [Option.bind_eq_some_iff] at hx
  obtain ⟨ss, g1, g2⟩ := hx
  obtain ⟨hl, h0, hstep⟩ := xtrace_ok g1
  cases hr : readsL P ops ss (needs ops) ss ops.toList with
  | false => rw [hr] at g2; cases g2
  | true =>
    rw [hr] at g2
    unfold xdraw
    rw [g1, Option.bind_some, hd]
    have gen : ∀ (l : List Oper) (k : Nat) (ts : List St), ts.length = l.length + 1 → (∀ i, l[i]? = ops.toList[k + i]?) → readsL P ops ss (needsFrom ops k l) ts l = true → readsOk P ops (stagesX ops ss 0 ops.toList) ts k l = true := by
      intro l
      induction l with
      | nil => intro k ts hts _ _; cases ts with
        | nil => rfl
        | cons a r => cases r <;> rfl
      | cons o l ih =>
        intro k ts hts hl1 hr
        match ts, hts with
        | s :: s' :: ts, hts =>
          have hrest : readsL P ops ss (needsFrom ops (k + 1) l) (s' :: ts) l = true := by
            simp only [needsFrom] at hr
            cases hn : needQ ops k o with
            | nil => rw [hn] at hr; simpa [readsL] using hr
            | cons q qs => rw [hn] at hr; simp only [readsL, Bool.and_eq_true] at hr; exact hr.2
          simp only [readsOk, Bool.and_eq_true, Bool.or_eq_true, Bool.not_eq_true']
          refine ⟨?_, ih (k + 1) (s' :: ts) (by simpa using hts) (fun i => by have := hl1 (i + 1); simpa [Nat.add_assoc, Nat.add_comm 1 i] using this) hrest⟩
          cases hw : wantedX ops o s.tmps with
          | false => exact .inl rfl
          | true =>
            right
            rw [List.all_eq_true]
            rintro ⟨q, H⟩ hq
            simp only [Bool.or_eq_true]
            cases hse : sensitive o with
            | false => exact .inl (sensitive_read hse _ _ _ _)
            | true =>
              obtain ⟨i, sq, e1, e2, e3, e4⟩ := stagesX_inv 0 hl hq
              rw [Nat.zero_add] at e1
              subst e3
              have e1' : q = i := e1
              subst e1'
              have hqm : q ∈ moversOf ops ++ [ops.size] := by
                rw [List.mem_append]
                rcases e4 with e4 | ⟨o', e4, e5⟩
                · exact .inr (by simp [e4])
                · left
                  unfold moversOf
                  rw [List.mem_map]
                  refine ⟨(o', q), List.mem_filter.2 ⟨?_, e5⟩, rfl⟩
                  rw [List.mem_zipIdx_iff_getElem?]
                  simpa using e4
              cases ho : outOf ops k o q with
              | true => exact .inr rfl
              | false =>
                left
                have hmem : q ∈ needQ ops k o := by
                  unfold needQ
                  rw [if_pos hse, List.mem_filter]
                  exact ⟨hqm, by rw [ho]; rfl⟩
                simp only [needsFrom] at hr
                cases hn : needQ ops k o with
                | nil => rw [hn] at hmem; cases hmem
                | cons q0 qs =>
                  rw [hn] at hr hmem
                  simp only [readsL, hw, Bool.not_true, Bool.false_or, Bool.and_eq_true] at hr
                  have := List.all_eq_true.1 hr.1 q hmem
                  rw [e2] at this
                  exact this
        | [s], hts => simp at hts
        | [], hts => simp at hts
    have key := gen ops.toList 0 ss hl (fun i => by rw [Nat.zero_add]) hr
    rw [key, Bool.and_self, if_pos rfl]
    exact g2
end
end Go.Proofs.YtolignkahfekbaaGreatDoor
