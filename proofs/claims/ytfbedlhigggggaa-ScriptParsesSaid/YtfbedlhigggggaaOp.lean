/- An operation, abstract and real side by side. -/
import Derived.Test.YtfbedlhigggggaaMaps
namespace Go.Proofs.Ytfbedlhigggggaa
open Go Go.RowKit
variable [Toks]

def After (M : Nat) (ρ : Ren) (h : AHeap) (w : World) (v : Value) (h' : AHeap) (e : Ending) (w' : World) : Prop :=
  ∃ ρ' v', e = .returned v' ∧ Ext ρ ρ' h h' w w' ∧ Sim M ρ' h' w' ∧ VR ρ' v v'
def CallOk (P : Program) (call : XCall) : Prop :=
  ∀ (M : Nat) (ρ : Ren) (h : AHeap) (w : World) (f : FuncId) (args : List Value) (args' : Array Value) (v : Value) (h' : AHeap), Sim M ρ h w → h'.n ≤ M → LR (VR ρ) args args'.toList → call f args h = some (v, h') →
    ∃ fn, P.funcs[f]? = some fn ∧ fn.body.isNone = false ∧ (fn.name == "runtime.NumGoroutine") = false ∧ Calls P f args' w (After M ρ h w v h')
/-- One operation's step, of either kind. -/
def StepOk (P : Program) (M : Nat) (ρ : Ren) (h : AHeap) (w : World) (v : Value) (h' : AHeap) (s : Sem Next) : Prop :=
  OpOk P M ρ h w v h' s ∨ ∃ f args, s.run P w = .ok (.enter f args) w ∧ Calls P f args w (After M ρ h w v h')
section
variable {P : Program} {M : Nat} {ρ : Ren} {h h' : AHeap} {w : World} {T : Tr Value} {a : Act}
omit [Toks] in
theorem atomic_eq {x : Option Value} {v : Value} (he : atomic h x = some (v, h')) : x = some v ∧ h' = h := by
  simp only [atomic, Option.bind_eq_some_iff, Option.some.injEq, Prod.mk.injEq] at he
  obtain ⟨u, h1, rfl, rfl⟩ := he
  exact ⟨h1, rfl⟩
theorem OpOk.quiet (s : Sim M ρ h w) {v v' : Value} {x : Sem Next} (hr : x.run P w = .ok (.value v') w) (hv : VR ρ v v') : OpOk P M ρ h w v h x := ⟨ρ, v', w, .inl hr, Ext.refl _ _ _, s, hv⟩
theorem unit_ok {x : Sem Unit} {w' : World} (hr : x.run P w = .ok () w') (he : Ext ρ ρ h h' w w') (hs : Sim M ρ h' w') : OpOk P M ρ h w undef h' (do x; pure .skip) :=
  ⟨ρ, undef, w', .inr ⟨by simp only [Sem.run_bind, hr, Result.andThen_ok, Sem.run_pure], rfl⟩, he, hs, VR.flat rfl⟩
theorem xlen_ok (s : Sim M ρ h w) {types : Array TypeId} {ty : TypeId} {m m' v : Value} (hm : VR ρ m m') (hv : xlen P types m h = some (v, h')) : ValOk P M ρ h w v h' (Builtin.len_ types ty #[m']) := by
  unfold xlen at hv
  split at hv
  · rename_i t r ht
    simp only [Option.bind_eq_some_iff, Option.some.injEq, Prod.mk.injEq] at hv
    obtain ⟨⟨o, kt, et⟩, hq, rfl, rfl⟩ := hv
    exact ValOk.quiet s (v' := goInt _) (len_ok s ht hm hq) (VR.flat rfl)
  · cases hv
theorem xdelete_ok (s : Sim M ρ h w) {types : Array TypeId} {ty : TypeId} {m m' k k' v : Value} (hm : VR ρ m m') (hk : VR ρ k k') (hv : xdelete P types m k h = some (v, h')) : ValOk P M ρ h w v h' (Builtin.delete_ types ty #[m', k']) := by
  unfold xdelete at hv
  split at hv
  · rename_i t r ht
    simp only [Option.bind_eq_some_iff, Option.some.injEq, Prod.mk.injEq] at hv
    obtain ⟨h2', hd, rfl, rfl⟩ := hv
    obtain ⟨w', k1, k2, k3⟩ := delete_ok (P := P) s ht hm hk hd
    exact ⟨ρ, .tuple #[], w', k1, k2, k3, VR.flat rfl⟩
  · cases hv
theorem builtin_ok (s : Sim M ρ h w) (hM : h'.n ≤ M) {b : Builtin} {types : Array TypeId} {ty : TypeId} {cs : Array Bool} {args : List Value} {args' : Array Value} (ha : LR (VR ρ) args args'.toList) {v : Value} (hv : xbuiltin P b types args h = some (v, h')) :
    OpOk P M ρ h w v h' (builtin b types ty cs args') := by
  have two : ∀ {x y : Value}, args = [x, y] → ∃ x' y', args' = #[x', y'] ∧ VR ρ x x' ∧ VR ρ y y' := by
    rintro x y rfl
    obtain ⟨l⟩ := args'
    cases ha with
    | cons h1 ha =>
      cases ha with
      | cons h2 ha => cases ha; exact ⟨_, _, rfl, h1, h2⟩
  have onev : ∀ {x : Value}, args = [x] → ∃ x', args' = #[x'] ∧ VR ρ x x' := by
    rintro x rfl
    obtain ⟨l⟩ := args'
    cases ha with
    | cons h1 ha => cases ha; exact ⟨_, rfl, h1⟩
  unfold xbuiltin at hv
  split at hv
  · obtain ⟨x', y', rfl, h1, h2⟩ := two rfl
    exact (append_ok s h1 h2 hM hv).next
  · obtain ⟨x', y', rfl, h1, h2⟩ := two rfl
    exact (copy_ok s h1 h2 hv).next
  · obtain ⟨x', rfl, h1⟩ := onev rfl
    obtain ⟨_, l, o', c', hl, rfl, _⟩ := h1.slc
    split at hv
    · rename_i e he
      injection hv with hv
      injection hv with hv1 hv2
      subst hv1 hv2
      simp only [Option.bind_eq_some_iff] at he
      obtain ⟨t, ht, hu⟩ := he
      refine (ValOk.quiet s (v' := goInt _) ?_ (VR.flat rfl)).next
      have e0 : ∀ x : Value, (#[x] : Array Value)[0]? = some x := fun _ => rfl
      simp only [Builtin.len_, ht, e0, Sem.run_bind, run_underlying hu, Result.andThen_ok, Sem.run_pure]
    · cases hv
  · rename_i n c
    obtain ⟨x', rfl, h1⟩ := onev rfl
    obtain ⟨_, l, o', c', hl, rfl, g1, g2, g3, g4⟩ := h1.slc
    split at hv
    · rename_i e he
      split at hv
      · cases hv
      · rename_i hsp
        injection hv with hv
        injection hv with hv1 hv2
        subst hv1 hv2
        simp only [Option.bind_eq_some_iff] at he
        obtain ⟨t, ht, hu⟩ := he
        obtain rfl := g3 (by simpa using hsp)
        refine (ValOk.quiet s (v' := goInt _) ?_ (VR.flat rfl)).next
        have e0 : ∀ x : Value, (#[x] : Array Value)[0]? = some x := fun _ => rfl
        simp only [Builtin.cap_, ht, e0, Sem.run_bind, run_underlying hu, Result.andThen_ok, Sem.run_pure]
    · cases hv
  · obtain ⟨x', y', rfl, h1, h2⟩ := two rfl
    unfold pickB at hv
    split at hv
    · rename_i v2 hp
      injection hv with hv
      injection hv with hv1 hv2
      subst hv1 hv2
      obtain ⟨k, a, b, rfl, rfl, hr⟩ := pickR_ok h1 h2 hp
      simp only [if_true] at hr
      refine (ValOk.quiet s ?_ hr).next
      simp [Builtin.min_, Builtin.min2]
    · cases hv
  · obtain ⟨x', y', rfl, h1, h2⟩ := two rfl
    unfold pickB at hv
    split at hv
    · rename_i v2 hp
      injection hv with hv
      injection hv with hv1 hv2
      subst hv1 hv2
      obtain ⟨k, a, b, rfl, rfl, hr⟩ := pickR_ok h1 h2 hp
      simp only [Bool.false_eq_true, if_false] at hr
      refine (ValOk.quiet s ?_ hr).next
      simp [Builtin.max_, Builtin.max2]
    · cases hv
  · obtain ⟨x', y', rfl, h1, h2⟩ := two rfl
    unfold pickB at hv
    split at hv
    · rename_i v2 hp
      injection hv with hv
      injection hv with hv1 hv2
      subst hv1 hv2
      obtain ⟨a, b, rfl, rfl, hr⟩ := cplxT_ok h1 h2 hp
      refine (ValOk.quiet s ?_ hr).next
      rfl
    · cases hv
  · unfold xbuiltin2 at hv
    split at hv
    · split at hv
      · obtain ⟨x', rfl, h1⟩ := onev rfl
        obtain ⟨rfl, w', k1, k2, k3⟩ := clear_ok (P := P) s h1 hv
        exact (show ValOk P M ρ h w _ h' _ from ⟨ρ, .tuple #[], w', k1, k2, k3, VR.flat rfl⟩).next
      · cases hv
    · split at hv
      · obtain ⟨x', rfl, h1⟩ := onev rfl
        exact (xlen_ok s h1 hv).next
      · cases hv
    · split at hv
      · obtain ⟨x', y', rfl, h1, h2⟩ := two rfl
        exact (xdelete_ok s h1 h2 hv).next
      · cases hv
    · cases hv
theorem orPure_ok (s : Sim M ρ h w) (ht : TR ρ T a.tmps) {o : Oper} {r : Option (Value × AHeap)} {v : Value} (hv : orPure P r o T h = some (v, h')) (h1 : r = some (v, h') → OpOk P M ρ h w v h' (execOp a.eval o)) : OpOk P M ρ h w v h' (execOp a.eval o) := by
  unfold orPure at hv
  split at hv
  · rename_i x
    injection hv with hv
    subst hv
    exact h1 rfl
  · exact xpure_ok s ht hv
omit [Toks] in
theorem LR.toArray {R : Value → Value → Prop} {l : List Value} {xs : Array Operand} (h : LR R l (xs.toList.map a.eval)) : LR R l (xs.map a.eval).toList := by simpa using h
omit [Toks] in
theorem abuildSlice_n {t : TypeId} {n : Nat} {ps : List (Nat × Value)} {v : Value} (hv : abuildSlice P t n ps h = some (v, h')) : h'.n = h.n + 1 := by
  unfold abuildSlice at hv
  split at hv
  · split at hv
    · split at hv
      · cases hv
      · split at hv
        · injection hv with hv; injection hv with _ hv; subst hv; rfl
        · cases hv
    · cases hv
  · cases hv
omit [Toks] in
theorem amakeSlice_n {t : TypeId} {l c : Value} {v : Value} (hv : amakeSlice P t l c h = some (v, h')) : h'.n = h.n + 1 := by
  unfold amakeSlice at hv
  split at hv
  · split at hv
    · split at hv
      · injection hv with hv; injection hv with _ hv; subst hv; rfl
      · cases hv
    · cases hv
  · cases hv
omit [Toks] in
theorem parts_eq (ps : Array (Nat × Operand)) : (ps.toList.map fun p => (p.1, a.eval p.2)).toArray = ps.map fun (i, x) => (i, a.eval x) := by
  apply Array.toList_inj.1
  simp
theorem VR.bare {v v' : Value} (h : VR ρ v v') (hb : bare v = true) : VR00 ρ v v' := by
  cases v <;> first | exact h | (simp [Go.Proofs.Ytfbedlhigggggaa.bare] at hb)
theorem bares {l : List Value} {m : List Value} (h : LR (VR ρ) l m) (hb : l.all bare = true) : LR (VR00 ρ) l m := by
  induction h with
  | nil => exact .nil
  | cons h1 _ ih =>
    simp only [List.all_cons, Bool.and_eq_true] at hb
    exact .cons (h1.bare hb.1) (ih hb.2)
theorem xop_ok (s : Sim M ρ h w) (hM : h'.n ≤ M) (ht : TR ρ T a.tmps) {call : XCall} (hcall : CallOk P call) {o : Oper} {v : Value} (hv : xop P call o T h = some (v, h')) : StepOk P M ρ h w v h' (execOp a.eval o) := by
  have pure_ : xpure P o T h = some (v, h') → StepOk P M ρ h w v h' (execOp a.eval o) := fun hv => .inl (xpure_ok s ht hv)
  obtain ⟨dst, op, type, pos, after, guard⟩ := o
  cases op
  case move x =>
    obtain ⟨h1, rfl⟩ := atomic_eq hv
    exact .inl (OpOk.quiet s (v' := a.eval x) rfl (ev_ok ht h1))
  case assign x =>
    obtain ⟨h1, rfl⟩ := atomic_eq hv
    exact .inl (OpOk.quiet s (v' := a.eval x) rfl (ev_ok ht h1))
  case pick c x y =>
    simp only [xop] at hv
    split at hv
    · rename_i t hc
      obtain ⟨h1, rfl⟩ := atomic_eq hv
      have hb := (ev_ok ht hc).bool
      refine .inl (OpOk.quiet s (v' := if t then a.eval x else a.eval y) ?_ ?_)
      · simp only [execOp, hb, asBool, Sem.run_bind, Sem.run_pure, Result.andThen_ok]
      · cases t
        · exact ev_ok ht h1
        · exact ev_ok ht h1
    · cases hv
  case extract x ix =>
    simp only [xop] at hv
    split at hv
    · rename_i vs hx
      obtain ⟨h1, rfl⟩ := atomic_eq hv
      obtain ⟨vs', e, hr⟩ := (ev_ok ht hx).tup
      obtain ⟨u', a1, a2⟩ := hr.get ix v (by rw [Array.getElem?_toList]; exact h1)
      refine .inl (ValOk.quiet s (v' := u') ?_ (VR.of1 a2)).next
      rw [Array.getElem?_toList] at a1
      simp only [e, Instr.extract, a1, Sem.run_pure]
    · cases hv
  case nilCheck x =>
    simp only [xop] at hv
    split at hv
    · rename_i ad hx
      injection hv with hv
      injection hv with hv1 hv2
      subst hv1 hv2
      have hp := ev_ok ht hx
      obtain ⟨_, l, hl, e⟩ := hp.ptr
      refine .inl (OpOk.quiet s (v' := a.eval x) ?_ hp)
      simp only [execOp, e, Sem.run_pure]
    · cases hv
  case alloc e =>
    simp only [xop] at hv
    split at hv
    · rename_i z hz
      injection hv with hv
      have := alloc_ok (P := P) s (by have e := congrArg (fun q => q.2.n) hv; simp only [anew, AHeap.push] at e; omega) hz
      rw [hv] at this
      exact .inl this.next
    · cases hv
  case box e x =>
    simp only [xop, Option.bind_eq_some_iff, Option.some.injEq] at hv
    obtain ⟨u, hu, cs, hcs, hv⟩ := hv
    have := box_ok (P := P) (e := e) s (by have e := congrArg (fun q => q.2.n) hv; simp only [anew, AHeap.push] at e; omega) (ev_ok ht hu) hcs
    rw [hv] at this
    exact .inl this.next
  case build t ps =>
    simp only [xop, Option.bind_eq_some_iff] at hv
    obtain ⟨l, hl, hv⟩ := hv
    obtain ⟨h1, rfl⟩ := atomic_eq hv
    have := build_ok (P := P) s (evParts_ok ht hl) h1
    rw [parts_eq] at this
    exact .inl (ValOk.next this)
  case buildSlice t n ps =>
    simp only [xop, Option.bind_eq_some_iff] at hv
    obtain ⟨l, hl, hv⟩ := hv
    have := buildSlice_ok (P := P) s (by have := abuildSlice_n hv; omega) (evParts_ok ht hl) hv
    rw [parts_eq] at this
    exact .inl (ValOk.next this)
  case load t x =>
    simp only [xop] at hv
    split at hv
    · rename_i ad hx
      obtain ⟨h1, rfl⟩ := atomic_eq hv
      obtain ⟨_, l, hl, e⟩ := (ev_ok ht hx).ptr
      obtain ⟨v', r1, r2⟩ := load_ok (P := P) s h1 hl
      refine .inl (ValOk.quiet s (v' := v') ?_ (VR.of1 r2)).next
      simp only [e, Instr.loadAt, Instr.sureAddr, Sem.run_bind, Sem.run_pure, Result.andThen_ok, r1]
    · cases hv
  case store t x y =>
    simp only [xop] at hv
    split at hv
    · rename_i ad u hx hy
      simp only [Option.bind_eq_some_iff] at hv
      obtain ⟨cs, hcs, hv⟩ := hv
      split at hv
      · cases hv
      · rename_i hc
        simp only [Option.bind_eq_some_iff, Option.some.injEq, Prod.mk.injEq] at hv
        obtain ⟨h2, hst, rfl, rfl⟩ := hv
        simp only [Bool.or_eq_true, bne_iff_ne, ne_eq, not_or, Decidable.not_not] at hc
        exact .inl (store_ok s (ev_ok ht hx) (ev_ok ht hy) hcs hc.2 hst)
    · cases hv
  case binOp op t x y yt =>
    simp only [xop] at hv
    split at hv
    · rename_i u1 u2 hx hy
      split at hv
      · rename_i r hr
        injection hv with hv
        injection hv with hv1 hv2
        subst hv1 hv2
        obtain ⟨⟨k, z1, z2, e1, e2⟩, r', h1, h2⟩ := fastB_ok (P := P) (ev_ok ht hx) (ev_ok ht hy) hr t w
        refine .inl (ValOk.quiet s (v' := r') ?_ h2).next
        have hg : (eqGuard op t x y (a.eval x) (a.eval y)).run P w = .ok () w := by
          rw [e1, e2]
          cases op <;> rfl
        simp only [Sem.run_bind, hg, Result.andThen_ok, h1]
      · cases op <;> simp only at hv
        case eql =>
          split at hv
          · rename_i r hr
            injection hv with hv
            injection hv with hv1 hv2
            subst hv1 hv2
            exact .inl (ValOk.quiet s (v' := .bool r) (aeql_ok s (ev_ok ht hx) (ev_ok ht hy) hr x y).1 (VR.flat rfl)).next
          · exact pure_ hv
        case neq =>
          split at hv
          · rename_i r hr
            injection hv with hv
            injection hv with hv1 hv2
            subst hv1 hv2
            exact .inl (ValOk.quiet s (v' := .bool (!r)) (aeql_ok s (ev_ok ht hx) (ev_ok ht hy) hr x y).2 (VR.flat rfl)).next
          · exact pure_ hv
        all_goals exact pure_ hv
    · cases hv
  case unOp op t x =>
    simp only [xop] at hv
    split at hv
    · rename_i r hr
      injection hv with hv
      injection hv with hv1 hv2
      subst hv1 hv2
      simp only [Option.bind_eq_some_iff] at hr
      obtain ⟨u, hu, hr⟩ := hr
      unfold fastU at hr
      split at hr
      · obtain ⟨z, e1, e2, e3, e4⟩ := negT_ok (ev_ok ht hu) hr
        refine .inl (ValOk.quiet s (v' := .int .i64 (-z)) ?_ e2).next
        rw [e1]
        have hk : inK .i64 (0 - z) = true := by simp only [inK, Bool.and_eq_true, decide_eq_true_eq]; omega
        simp only [Op.unary, Op.intArith, inK_wrap hk, Sem.run_pure]
        congr 2
        omega
      · cases hr
    · exact pure_ hv
  case convert src d x =>
    simp only [xop, Option.bind_eq_some_iff] at hv
    obtain ⟨u, hu, hv⟩ := hv
    split at hv
    · rename_i r hr
      injection hv with hv
      injection hv with hv1 hv2
      subst hv1 hv2
      obtain ⟨r', h1, h2⟩ := fastC_ok (P := P) (ev_ok ht hu) hr w
      exact .inl (ValOk.quiet s (v' := r') h1 h2).next
    · exact .inl (orPure_ok s ht hv fun h1 => (convert_ok s hM (ev_ok ht hu) h1).next)
  case makeSlice t l c =>
    simp only [xop] at hv
    split at hv
    · rename_i u1 u2 h1 h2
      exact .inl (makeSlice_ok s (by have := amakeSlice_n hv; omega) (ev_ok ht h1) (ev_ok ht h2) hv).next
    · cases hv
  case slice t x lo hi mx =>
    simp only [xop] at hv
    split at hv
    · rename_i ad n c hx
      simp only [Option.bind_eq_some_iff] at hv
      obtain ⟨l1, h1, l2, h2, l3, h3, hv⟩ := hv
      obtain ⟨h4, rfl⟩ := atomic_eq hv
      exact .inl (slice_ok s (ev_ok ht hx) (evOpt_ok ht h1) (evOpt_ok ht h2) (evOpt_ok ht h3) h4).next
    · exact pure_ hv
  case fieldAddr t x f =>
    simp only [xop, Option.bind_eq_some_iff] at hv
    obtain ⟨u, hu, hv⟩ := hv
    obtain ⟨h1, rfl⟩ := atomic_eq hv
    exact .inl (fieldAddr_ok s (ev_ok ht hu) h1).next
  case field t x f =>
    simp only [xop, Option.bind_eq_some_iff] at hv
    obtain ⟨u, hu, hv⟩ := hv
    obtain ⟨h1, rfl⟩ := atomic_eq hv
    exact .inl (field_ok s (ev_ok ht hu) h1).next
  case indexAddr t x i =>
    simp only [xop] at hv
    split at hv
    · rename_i u1 u2 h1 h2
      obtain ⟨h3, rfl⟩ := atomic_eq hv
      exact .inl (indexAddr_ok s (ev_ok ht h1) (ev_ok ht h2) h3).next
    · cases hv
  case makeFunc fn f c =>
    simp only [xop, Option.bind_eq_some_iff] at hv
    obtain ⟨l1, h1, l2, h2, hv⟩ := hv
    split at hv
    · rename_i hb
      simp only [Bool.and_eq_true] at hb
      injection hv with hv
      injection hv with hv1 hv2
      subst hv1 hv2
      refine .inl (ValOk.quiet s (v' := .func fn (f.map a.eval) (c.map a.eval)) rfl ?_).next
      exact ⟨_, _, rfl, by simpa using bares (evs_ok ht h1) hb.1, by simpa using bares (evs_ok ht h2) hb.2⟩
    · cases hv
  case makeMap t r =>
    cases r with
    | some x => exact pure_ hv
    | none =>
      simp only [xop, Option.some.injEq, Prod.mk.injEq] at hv
      obtain ⟨rfl, rfl⟩ := hv
      obtain ⟨k1, k2, k3⟩ := newObj_ok (P := P) s (by simp only [AHeap.push] at hM; omega) (.map #[] 0) ⟨[], 0, 3, 0⟩ (by decide) (fun w' hw => ⟨fun e => absurd e (by decide), fun _ => ⟨#[], 0, by rw [hw]; simp, .nil, by simp, by simp⟩, fun e => absurd e (by decide)⟩)
      exact .inl (show ValOk P M ρ h w _ _ (Instr.makeMap t none) from ⟨_, .map (some w.heap.size), _, by simp only [Instr.makeMap, Sem.run_bind, k1, Result.andThen_ok, Sem.run_pure], k2, k3, show VR _ (.map (some h.n)) (.map (some w.heap.size)) from ⟨⟨w.heap.size, 0, 0⟩, Ren.add_new _ _ _, rfl⟩⟩).next
  case range t x =>
    simp only [xop] at hv
    split at hv
    · rename_i b hu hx
      simp only [Option.some.injEq, Prod.mk.injEq] at hv
      obtain ⟨rfl, rfl⟩ := hv
      have hs := (ev_ok ht hx).string
      obtain ⟨k1, k2, k3⟩ := newObj_ok (P := P) s (by simp only [AHeap.push] at hM; omega) (.stringIter b 0) ⟨[.string b, goInt 0], 0, 4, 0⟩ (by show (4 : Nat) ≠ 2; decide) (fun w' hw => ⟨fun e => absurd e (by show ¬ (4 : Nat) < 3; decide), fun e => absurd e (by show ¬ (4 : Nat) = 3; decide), fun _ => ⟨b, 0, rfl, by rw [hw]; simp, rfl⟩⟩)
      exact .inl (show ValOk P M ρ h w _ _ (Instr.range t (a.eval x)) from ⟨_, .pointer (some ⟨w.heap.size, 0, none⟩), _, by simp only [Instr.range, hs, Sem.run_bind, run_underlying hu, k1, Result.andThen_ok, Sem.run_pure], k2, k3, show VR _ (.pointer (some ⟨h.n, 0, none⟩)) (.pointer (some ⟨w.heap.size, 0, none⟩)) from ⟨rfl, ⟨w.heap.size, 0, 0⟩, Ren.add_new _ _ _, by simp⟩⟩).next
    · cases hv
  case next x isS =>
    cases isS with
    | false => exact pure_ hv
    | true =>
      simp only [xop] at hv
      split at hv
      · rename_i ad hx
        obtain ⟨w', k1, k2, k3, k4⟩ := next_ok (P := P) (ty := type) s (ev_ok ht hx) hv
        exact .inl (show ValOk P M ρ h w _ _ (Instr.next (a.eval x) true type) from ⟨ρ, v, w', k1, k2, k3, VR.flat k4⟩).next
      · cases hv
  case lookup t x k ok =>
    simp only [xop] at hv
    split at hv
    · rename_i r u hx hk
      obtain ⟨h1, rfl⟩ := atomic_eq hv
      obtain ⟨v', k1, k2⟩ := lookup_ok (P := P) s (ev_ok ht hx) (ev_ok ht hk) h1
      exact .inl (ValOk.quiet s (v' := v') k1 k2).next
    · exact pure_ hv
  case mapUpdate t x k y =>
    simp only [xop] at hv
    split at hv
    · rename_i r u1 u2 hx hk hy
      simp only [Option.bind_eq_some_iff, Option.some.injEq, Prod.mk.injEq] at hv
      obtain ⟨h2, hst, rfl, rfl⟩ := hv
      obtain ⟨w', k1, k2, k3⟩ := update_ok (P := P) s (ev_ok ht hx) (ev_ok ht hk) (ev_ok ht hy) hst
      exact .inl (unit_ok k1 k2 k3)
    · cases hv
  case call c =>
    obtain ⟨callee, args, argTypes⟩ := c
    cases callee with
    | builtin b =>
      simp only [xop, Option.bind_eq_some_iff] at hv
      obtain ⟨vs, hvs, hv⟩ := hv
      refine .inl (orPure_ok s ht hv fun h1 => ?_)
      have := builtin_ok (P := P) (ty := type) (cs := args.map fun | .const _ => true | _ => false) s hM (LR.toArray (evs_ok ht hvs)) h1
      exact this
    | value f =>
      simp only [xop] at hv
      split at hv
      · rename_i id first captured hf
        simp only [Option.bind_eq_some_iff] at hv
        obtain ⟨vs, hvs, hv⟩ := hv
        split at hv
        · exact pure_ hv
        have hfv := ev_ok ht hf
        obtain ⟨f', c', e, r1, r2⟩ := hfv
        have hargs : LR (VR ρ) (first.toList ++ vs ++ captured.toList) (f' ++ args.map a.eval ++ c').toList := by
          simp only [Array.toList_append]
          refine ((r1.mono fun x y hxy => ?_).append (LR.toArray (evs_ok ht hvs))).append (r2.mono fun x y hxy => ?_)
          · refine VR.of0 ?_
            unfold VR0
            split
            · simp [VR00, flat0] at hxy
              obtain ⟨⟨rfl, rfl⟩, rfl⟩ := hxy
              exact ⟨_, _, rfl, .nil, .nil⟩
            · exact hxy
          · refine VR.of0 ?_
            unfold VR0
            split
            · simp [VR00, flat0] at hxy
              obtain ⟨⟨rfl, rfl⟩, rfl⟩ := hxy
              exact ⟨_, _, rfl, .nil, .nil⟩
            · exact hxy
        obtain ⟨fn, g1, g2, g3, g4⟩ := hcall M ρ h w id _ _ v h' s hM hargs hv
        refine .inr ⟨id, _, ?_, g4⟩
        simp only [execOp, resolve, e, Deferred.ofValue, Sem.run_bind, Sem.run_pure, Result.andThen_ok, invoke, callFunc, run_program, g1, g2, g3, Bool.false_eq_true, if_false]
      · cases hv
    | invoke r m => simp [xop] at hv
  all_goals exact pure_ hv
end
end Go.Proofs.Ytfbedlhigggggaa
