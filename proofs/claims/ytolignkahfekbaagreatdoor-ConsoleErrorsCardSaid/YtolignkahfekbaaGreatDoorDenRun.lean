/- The plain terms of code are right. -/
import Derived.Test.YtolignkahfekbaaGreatDoorDenOk
namespace Go.Proofs.YtolignkahfekbaaGreatDoor
open Go Go.RowKit

def MonoK (k : KV) : Prop := ∀ v h x, k v h = some x → h.n ≤ x.2.n
def MonoT (k : KT) : Prop := ∀ T h x, k T h = some x → h.n ≤ x.2.n
def MonoE (k : KE) : Prop := ∀ e T h x, k e T h = some x → h.n ≤ x.2.n
section
variable {P : Program} {c : XCall}
theorem den1_mono (hm : CallMono c) {o : Oper} {T : Tr Value} {h : AHeap} {k : KV} (hk : MonoK k) {x : Value × AHeap} (hx : den1 P c o T h k = some x) : h.n ≤ x.2.n := by
  obtain ⟨v, h', h1, h2⟩ := den1_ok hx
  exact Nat.le_trans (xop_n hm h1) (hk _ _ _ h2)
theorem denPut_ok {nt : Nat} {dst : Option Tmp} {v : Value} {T : Tr Value} {h : AHeap} {k : Tr Value → R} {x : Value × AHeap} (hx : denPut nt dst v T k = some x) : ∃ T', putX ⟨nt, T, h⟩ dst v h = some ⟨nt, T', h⟩ ∧ k T' = some x := by
  unfold denPut at hx
  cases dst with
  | none => exact ⟨T, rfl, hx⟩
  | some d =>
    simp only [ifH_eq] at hx
    split at hx
    · rename_i hd
      exact ⟨_, by simp [putX, hd], hx⟩
    · cases hx
theorem putX_heap {nt : Nat} {dst : Option Tmp} {v : Value} {T T' : Tr Value} {h h0 h' : AHeap} (hp : putX ⟨nt, T, h0⟩ dst v h = some ⟨nt, T', h⟩) : putX ⟨nt, T, h'⟩ dst v h = some ⟨nt, T', h⟩ := by
  cases dst with
  | none => simp only [putX, Option.some.injEq, St.mk.injEq] at hp ⊢; exact hp
  | some d =>
    simp only [putX] at hp ⊢
    split at hp
    · rename_i hd
      rw [if_pos hd]
      exact hp
    · cases hp
/-- What the checks have said, step by step. -/
def Chk (P : Program) (c : XCall) (ops : Array Oper) (dr : Bool) : List Oper → St → Prop
  | [], _ => True
  | o :: l, st => (dr = true → sensitive o = true → wantedX ops o st.tmps = true → ∃ v h', xop P c o st.tmps st.heap = some (v, h') ∧ readOk P o st.tmps v st.heap.n st.heap = true) ∧ ∀ st', xstep P c ops o st = some st' → Chk P c ops dr l st'
theorem readOk_congr {o : Oper} {T T' : Tr Value} (hx : ∀ x ∈ o.op.operands, ev T x = ev T' x) (v : Value) (n : Nat) (H : AHeap) : readOk P o T v n H = readOk P o T' v n H := by
  obtain ⟨dst, op, type, pos, after, guard⟩ := o
  cases op <;> try rfl
  case load t x => simp only [readOk, hx x (by simp [Op.operands])]
  case convert s d x => simp only [readOk, hx x (by simp [Op.operands])]
  case lookup t x k ok => simp only [readOk, hx x (by simp [Op.operands]), hx k (by simp [Op.operands])]
  case binOp op t x y yt => simp only [readOk, hx x (by simp [Op.operands]), hx y (by simp [Op.operands])]
  case call q =>
    have : evs T q.args.toList = evs T' q.args.toList := evs_congr fun x hx' => hx x (by
      simp only [Op.operands, Call.operands, Array.mem_append]
      exact .inr (by simpa using hx'))
    simp only [readOk, this]
theorem denChk_ok {dr : Bool} {o : Oper} {T : Tr Value} {h : AHeap} {v : Value} {k : R} {x : Value × AHeap} (hx : denChk P dr o T h v k = some x) : (dr = true → sensitive o = true → readOk P o T v h.n h = true) ∧ k = some x := by
  unfold denChk at hx
  simp only [ifH_eq] at hx
  split at hx
  · unfold oChk at hx
    cases hb : chkAt P o (tmpsOf o.op.operands.toList) ((tmpsOf o.op.operands.toList).map (getT T)) v h with
    | false => rw [hb] at hx; cases hx
    | true =>
      rw [hb] at hx
      refine ⟨fun _ _ => ?_, hx⟩
      unfold chkAt at hb
      rwa [readOk_congr (T' := T)] at hb
      intro x hx
      cases x with
      | tmp t =>
        simp only [ev]
        rw [setAll_get, if_pos (mem_tmps (by simpa using hx))]
        rfl
      | _ => rfl
  · rename_i hd
    refine ⟨fun h1 h2 => absurd ?_ hd, hx⟩
    rw [h1, h2]
    rfl
theorem denOps_ok {nt : Nat} {dr : Bool} {ops : Array Oper} : ∀ {l : List Oper} {T : Tr Value} {h : AHeap} {k : KT} {x : Value × AHeap}, denOps P c nt dr ops l T h k = some x → ∃ T' h', xops P c ops l ⟨nt, T, h⟩ = some ⟨nt, T', h'⟩ ∧ Chk P c ops dr l ⟨nt, T, h⟩ ∧ k T' h' = some x
  | [], T, h, k, x, hx => ⟨T, h, rfl, trivial, hx⟩
  | o :: l, T, h, k, x, hx => by
    simp only [denOps] at hx
    split at hx
    · rename_i hg
      obtain ⟨v, h1, e1, e2⟩ := den1_ok hx
      obtain ⟨c1, e2⟩ := denChk_ok e2
      obtain ⟨T1, e3, e4⟩ := denPut_ok (h := h1) e2
      obtain ⟨T', h', e5, e7, e6⟩ := denOps_ok e4
      have hs : xstep P c ops o ⟨nt, T, h⟩ = some ⟨nt, T1, h1⟩ := by
        have hw : wantedX ops o T = true := by unfold wantedX; rw [hg]
        simp only [xstep, hw, if_true, e1, Option.bind_some, putX_heap e3]
      refine ⟨T', h', ?_, ⟨fun a b _ => ⟨v, h1, e1, c1 a b⟩, fun st' hst => ?_⟩, e6⟩
      · simp only [xops, hs, e5]
      · rw [hs] at hst
        cases hst
        exact e7
    · rename_i j want hg
      split at hx
      · rename_i d hd
        rw [oGuard_eq] at hx
        unfold pGuard at hx
        have hgt : getT T d = (T.get d).getD undef := rfl
        have hy : yieldedX ops T j = match getT T d with
            | .bool b => some b
            | _ => none := by
          unfold yieldedX
          rw [hd, hgt]
          simp only
          cases T.get d with
          | none => rfl
          | some v => cases v <;> rfl
        have other : (wantedX ops o T = false) → ∀ {x}, (denPut nt o.dst undef T fun T => denOps P c nt dr ops l T h k) = some x → ∃ T' h', xops P c ops (o :: l) ⟨nt, T, h⟩ = some ⟨nt, T', h'⟩ ∧ Chk P c ops dr (o :: l) ⟨nt, T, h⟩ ∧ k T' h' = some x := by
          intro hw x hx
          obtain ⟨T1, e3, e4⟩ := denPut_ok (h := h) hx
          obtain ⟨T', h', e5, e7, e6⟩ := denOps_ok e4
          have hs : xstep P c ops o ⟨nt, T, h⟩ = some ⟨nt, T1, h⟩ := by simp only [xstep, hw, Bool.false_eq_true, if_false, e3]
          refine ⟨T', h', ?_, ⟨fun _ _ c => ?_, fun st' hst => ?_⟩, e6⟩
          · simp only [xops, hs, e5]
          · simp only [hw] at c; cases c
          · rw [hs] at hst
            cases hst
            exact e7
        split at hx
        · rename_i b hb
          rw [hb] at hy
          cases hbw : (b == want) with
          | true =>
            rw [hbw] at hx
            simp only [cond_true] at hx
            have hw : wantedX ops o T = true := by
              unfold wantedX
              rw [hg]
              simp only [hy]
              simpa using hbw
            obtain ⟨v, h1, e1, e2⟩ := den1_ok hx
            obtain ⟨c1, e2⟩ := denChk_ok e2
            obtain ⟨T1, e3, e4⟩ := denPut_ok (h := h1) e2
            obtain ⟨T', h', e5, e7, e6⟩ := denOps_ok e4
            have hs : xstep P c ops o ⟨nt, T, h⟩ = some ⟨nt, T1, h1⟩ := by
              simp only [xstep, hw, if_true, e1, Option.bind_some, putX_heap e3]
            refine ⟨T', h', ?_, ⟨fun a b _ => ⟨v, h1, e1, c1 a b⟩, fun st' hst => ?_⟩, e6⟩
            · simp only [xops, hs, e5]
            · rw [hs] at hst
              cases hst
              exact e7
          | false =>
            rw [hbw] at hx
            simp only [cond_false] at hx
            refine other ?_ hx
            unfold wantedX
            rw [hg]
            simp only [hy]
            simpa using hbw
        · rename_i hnb
          have hy0 : yieldedX ops T j = none := by
            rw [hy]
            split
            · rename_i b hb; exact absurd hb (hnb b)
            · rfl
          refine other ?_ hx
          unfold wantedX
          rw [hg]
          simp only [hy0]
          rfl
      · cases hx
theorem xops_nn (hm : CallMono c) {ops : Array Oper} : ∀ {l : List Oper} {st st' : St}, xops P c ops l st = some st' → st.heap.n ≤ st'.heap.n ∧ (st'.nt = st.nt)
  | [], st, st', h => by simp only [xops, Option.some.injEq] at h; subst h; exact ⟨Nat.le_refl _, rfl⟩
  | o :: l, st, st', h => by
    simp only [xops] at h
    split at h
    · rename_i st1 h1
      obtain ⟨a, b⟩ := xops_nn hm h
      have h2 := xstep_n hm h1
      have h3 : st1.nt = st.nt := by
        unfold xstep at h1
        split at h1
        · simp only [Option.bind_eq_some_iff] at h1
          obtain ⟨r, _, h1⟩ := h1
          exact (putX_n h1).2
        · exact (putX_n h1).2
      exact ⟨Nat.le_trans h2 a, b.trans h3⟩
    · cases h
theorem xops_get {ops : Array Oper} : ∀ {l : List Oper} {st st' : St}, xops P c ops l st = some st' → ∀ i, (∀ o ∈ l, o.dst ≠ some i) → st'.tmps.get i = st.tmps.get i
  | [], st, st', h, i, _ => by simp only [xops, Option.some.injEq] at h; subst h; rfl
  | o :: l, st, st', h, i, hi => by
    simp only [xops] at h
    split at h
    · rename_i st1 h1
      rw [xops_get h i fun o ho => hi o (List.mem_cons_of_mem _ ho)]
      have hd := hi o (List.mem_cons_self ..)
      unfold xstep at h1
      split at h1
      · simp only [Option.bind_eq_some_iff] at h1
        obtain ⟨r, _, h1⟩ := h1
        rw [putX_get h1, if_neg hd]
      · rw [putX_get h1, if_neg hd]
    · cases h
/-! A region that draws. -/
theorem sensitive_read {o : Oper} (h : sensitive o = false) (T : Tr Value) (v : Value) (n : Nat) (H : AHeap) : readOk P o T v n H = true := by
  obtain ⟨dst, op, type, pos, after, guard⟩ := o
  cases op <;> first | rfl | (simp [sensitive] at h; done) | skip
  rename_i q
  obtain ⟨callee, args, types⟩ := q
  cases callee with
  | value f => rfl
  | invoke r m => rfl
  | builtin b => cases b <;> first | rfl | (simp [sensitive] at h; done)
end
end Go.Proofs.YtolignkahfekbaaGreatDoor
