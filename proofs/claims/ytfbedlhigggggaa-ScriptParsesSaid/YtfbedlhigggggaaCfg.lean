/- What the executor takes as known: rests of numbers, calls that were run once. -/
import Derived.Test.YtfbedlhigggggaaRun
import Derived.Test.YtfbedlhigggggaaWithin
namespace Go.Proofs.Ytfbedlhigggggaa
open Go Go.RowKit

/-! The rest of an unknown number: one number, or a range. -/
def caseV (t : Nat) (c : Nat × Nat) : Value := if c.1 = c.2 then .int .i64 c.1 else .iface t (.iface c.1 (.iface c.2 (.int .i64 0)))
def coverOk (n : Nat) (l : List (Nat × Nat)) : Bool := (List.range n).all fun r => l.any fun c => Nat.ble c.1 r && Nat.ble r c.2
def ones (n : Nat) : List (Nat × Nat) := (List.range n).map fun r => (r, r)
theorem ones_ok (n : Nat) : coverOk n (ones n) = true := by
  simp only [coverOk, ones, List.all_eq_true, List.any_eq_true]
  intro r hr
  exact ⟨(r, r), List.mem_map.2 ⟨r, hr, rfl⟩, by simp⟩
theorem cover_get [Toks] {t n : Nat} {l : List (Nat × Nat)} (h : coverOk n l = true) {a : Int} (hn : 0 < n) (hA : Toks.A t = a % n) : ∃ c ∈ l, ∀ ρ : Ren, VR ρ (caseV t c) (.int .i64 (a % n)) := by
  have h1 := Int.emod_nonneg a (show (n : Int) ≠ 0 by omega)
  have h2 := Int.emod_lt_of_pos a (show (0 : Int) < n by omega)
  obtain ⟨r, hr⟩ : ∃ r : Nat, a % n = r := ⟨(a % n).toNat, by omega⟩
  simp only [coverOk, List.all_eq_true, List.any_eq_true, Bool.and_eq_true, Nat.ble_eq] at h
  obtain ⟨c, hc, k1, k2⟩ := h r (List.mem_range.2 (by omega))
  refine ⟨c, hc, fun ρ => ?_⟩
  unfold caseV
  split
  · have : c.1 = r := by omega
    rw [hr, this]
    exact VR.flat rfl
  · show _ = _ ∧ _ ∧ _
    rw [hA, hr]
    exact ⟨by rw [Int.add_zero], by omega, by omega⟩
def restOf : List (Nat × Int × Value) → Nat → Int → Option Value
  | [], _, _ => none
  | (k, n, r) :: l, k', n' => if k = k' ∧ n = n' then some r else restOf l k' n'
def overW (l : List (Nat × Int × Value)) (f : FuncId) (args : List Value) : Option Value :=
  match args with
  | [.chan (some k), .int .i64 n] => if f = 12 then restOf l k n else none
  | _ => none
theorem restOf_mem : ∀ {l : List (Nat × Int × Value)} {k : Nat} {n : Int} {r : Value}, restOf l k n = some r → (k, n, r) ∈ l
  | [], _, _, _, h => by simp [restOf] at h
  | (k0, n0, r0) :: l, k, n, r, h => by
    simp only [restOf] at h
    split at h
    · rename_i e
      injection h with h
      obtain ⟨rfl, rfl⟩ := e
      subst h
      simp
    · exact List.mem_cons_of_mem _ (restOf_mem h)
theorem within_fn : ∃ fn, Try.prog.funcs[12]? = some fn ∧ fn.body.isNone = false ∧ (fn.name == "runtime.NumGoroutine") = false := ⟨_, Try.func12, rfl, by decide +kernel⟩
theorem overW_ok [Toks] (l : List (Nat × Int × Value)) (hA : ∀ q ∈ l, -9223372036854775808 ≤ Toks.A q.1 ∧ Toks.A q.1 ≤ 9223372036854775807) (hl : ∀ q ∈ l, 1 ≤ q.2.1 ∧ q.2.1 ≤ 9223372036854775807 ∧ ∀ ρ : Ren, VR ρ q.2.2 (.int .i64 (Toks.A q.1 % q.2.1))) : OverOk Try.prog (overW l) := by
  intro f args v hv ρ w args' ha
  unfold overW at hv
  split at hv
  · rename_i k n
    split at hv
    · rename_i hf
      subst hf
      have hm := restOf_mem hv
      obtain ⟨h1, h2, h3⟩ := hl _ hm
      have h4 := hA _ hm
      obtain ⟨arr⟩ := args'
      cases ha with
      | cons g1 ha =>
        cases ha with
        | cons g2 ha =>
          cases ha
          obtain rfl := g2.int
          rename_i b
          have hb : b = .int .i64 (Toks.A k) := g1
          subst hb
          obtain ⟨fn, f1, f2, f3⟩ := within_fn
          exact ⟨fn, f1, f2, f3, (Within_any (Toks.A k) n w h4.1 h4.2 h1 h2).mono fun e w' ⟨he, hw⟩ => ⟨_, he, h3 ρ, hw⟩⟩
    · cases hv
  · cases hv
theorem mixed : Try.prog.follows .mixedOrders = true := by decide +kernel

/-! Calls that were run once, in memory of their own. -/
section
variable {P : Program}
def isFn (P : Program) (f : FuncId) : Bool :=
  match P.funcs[f]? with
  | some fn => !fn.body.isNone && !(fn.name == "runtime.NumGoroutine")
  | none => false
theorem isFn_ok {f : FuncId} (h : isFn P f = true) : ∃ fn, P.funcs[f]? = some fn ∧ fn.body.isNone = false ∧ (fn.name == "runtime.NumGoroutine") = false := by
  unfold isFn at h
  split at h
  · simp only [Bool.and_eq_true, Bool.not_eq_true'] at h
    exact ⟨_, ‹_›, h.1, h.2⟩
  · cases h
/-- A call of flat arguments that answers v, and leaves what was as it was. -/
def Known (P : Program) (q : FuncId × List Value × Value) : Prop := isFn P q.1 = true ∧ flat2 q.2.2 = true ∧ q.2.1.all flat2 = true ∧ ∀ W, Calls P q.1 q.2.1.toArray W fun e w' => e = .returned q.2.2 ∧ Below W.heap.size W w'
def flatRes (v : Value) : Option (Value × AHeap) → Bool
  | some (u, _) => flat2 u && beq2 u v
  | none => false
theorem known_of {okF : Cfg} {n : Nat} {f : FuncId} {args : List Value} {v : Value} (hover : letI : Toks := ⟨fun _ => 0⟩; CfgOk P okF) (hm : P.follows .mixedOrders = true) (hf : isFn P f = true) (ha : args.all flat2 = true) (hv : flat2 v = true) (hx : flatRes v (xcall P okF n f args h0) = true) : Known P (f, args, v) := by
  letI : Toks := ⟨fun _ => 0⟩
  refine ⟨hf, hv, ha, fun W => ?_⟩
  unfold flatRes at hx
  split at hx
  · rename_i u h' hq
    simp only [Bool.and_eq_true] at hx
    have e := beq2_eq hx.2
    subst e
    have s : Sim h'.n (fun _ => none) h0 W := ⟨fun i o l h1 h2 => (by cases h2), fun i j o o' l l' _ _ h3 => (by cases h3), fun i l h1 => (by cases h1), fun i _ => AHeap.get_ge h0 i (Nat.zero_le _), Nat.zero_le _⟩
    obtain ⟨fn, _, _, _, g⟩ := xcall_ok hover hm n h'.n (fun _ => none) h0 W f args args.toArray u h' s (Nat.le_refl _) (LR.refl_of fun a ha' => VR.flat (List.all_eq_true.1 ha a ha')) hq
    refine g.mono fun e w' ⟨ρ', v', e1, E, _, hv'⟩ => ?_
    rw [VR.eq hv hv'] at e1
    exact ⟨e1, E.os, E.tape, E.output, E.size, fun k hk => E.frame k hk fun i l o h1 => (by cases h1)⟩
  · cases hx
def summC (l : List (FuncId × List Value × Value)) (f : FuncId) (args : List Value) (h : AHeap) : Option (Value × AHeap) :=
  match l with
  | [] => none
  | (f', args', v) :: r => if f = f' then (if beqT args args' then some (v, h) else summC r f args h) else summC r f args h
theorem beq_flat : True := trivial
theorem summC_ok [Toks] : ∀ {l : List (FuncId × List Value × Value)}, (∀ q ∈ l, Known P q) → CallOk P (summC l)
  | [], _ => CallOk.none
  | (f', bs, u) :: l, hl => by
    intro M ρ h w f args args' v h' s hM ha hv
    simp only [summC] at hv
    split at hv
    · rename_i hf
      subst hf
      split at hv
      · rename_i hb
        simp only [Option.some.injEq, Prod.mk.injEq] at hv
        obtain ⟨rfl, rfl⟩ := hv
        have e := beqT_eq hb
        subst e
        obtain ⟨k1, k2, k3, k4⟩ := hl _ (List.mem_cons_self ..)
        obtain ⟨fn, f1, f2, f3⟩ := isFn_ok k1
        refine ⟨fn, f1, f2, f3, ?_⟩
        have ea : args' = args.toArray := by
          apply Array.toList_inj.1
          exact LR.eq_of (p := flat2) (fun a b ha hr => VR.eq ha hr) k3 ha
        subst ea
        exact (k4 w).mono fun e w' ⟨e1, hb⟩ => ⟨ρ, _, e1, Ext.below s hb.block hb.size hb.os hb.tape hb.output, s.below hb.block hb.size, VR.flat k2⟩
      · exact summC_ok (fun q hq => hl q (List.mem_cons_of_mem _ hq)) M ρ h w f args args' v h' s hM ha hv
    · exact summC_ok (fun q hq => hl q (List.mem_cons_of_mem _ hq)) M ρ h w f args args' v h' s hM ha hv
theorem summC_mono : ∀ (l : List (FuncId × List Value × Value)), CallMono (summC l)
  | [], _, _, _, _, _, h => nomatch h
  | (f', bs, u) :: l, f, args, h, v, h', hv => by
    simp only [summC] at hv
    split at hv
    · split at hv
      · simp only [Option.some.injEq, Prod.mk.injEq] at hv
        rw [← hv.2]; exact Nat.le_refl _
      · exact summC_mono l f args h v h' hv
    · exact summC_mono l f args h v h' hv
def orS (a b : XCall) : XCall := fun f args h => match a f args h with
  | some r => some r
  | none => b f args h
theorem orS_ok [Toks] {a b : XCall} (ha : CallOk P a) (hb : CallOk P b) : CallOk P (orS a b) := by
  intro M ρ h w f args args' v h' s hM hr hv
  unfold orS at hv
  split at hv
  · rename_i r hq
    injection hv with hv
    subst hv
    exact ha M ρ h w f args args' v h' s hM hr hq
  · exact hb M ρ h w f args args' v h' s hM hr hv
theorem orS_mono {a b : XCall} (ha : CallMono a) (hb : CallMono b) : CallMono (orS a b) := by
  intro f args h v h' hv
  unfold orS at hv
  split at hv
  · rename_i r hq
    injection hv with hv
    subst hv
    exact ha f args h v h' hq
  · exact hb f args h v h' hv
end
end Go.Proofs.Ytfbedlhigggggaa
