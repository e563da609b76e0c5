/- Each operation, abstract and real side by side: parts, places, slices, append, copy, conversions, equality. -/
import Derived.Test.YtfbedlhigggggaaOps2
import Derived.Laws.AppendOwn
import Derived.Laws.Slices
import Derived.Laws.BytesArg
namespace Go.Proofs.Ytfbedlhigggggaa
open Go Go.RowKit
variable [Toks]

section
variable {P : Program} {M : Nat} {ρ : Ren} {h h' : AHeap} {w : World} {T : Tr Value} {a : Act}
theorem field_ok (s : Sim M ρ h w) {t : TypeId} {x x' : Value} {f : Nat} (hx : VR ρ x x') {v : Value} (hv : afield P t x f = some v) : ValOk P M ρ h w v h (Instr.field t x' f) := by
  unfold afield at hv
  split at hv
  · rename_i fs cs hu
    obtain ⟨cs', rfl, hc⟩ := hx.agg
    split at hv
    · rename_i fd hfd
      unfold apart at hv
      split at hv
      · rename_i hagg
        simp only [Option.bind_eq_some_iff, Option.some.injEq] at hv
        obtain ⟨n, hn, rfl⟩ := hv
        refine ValOk.quiet s (v' := .agg (cs'.extract fd.offset (fd.offset + n))) ?_ ⟨_, rfl, ?_⟩
        · simp only [Instr.field, Sem.run_bind, run_underlying hu, Result.andThen_ok, hfd, asAgg, Sem.run_pure, part, isAggP_ok hagg, if_true, sizeP_ok hn]
        · simp only [Array.toList_extract, List.extract]
          exact (hc.drop _).take _
      · rename_i hagg
        obtain ⟨u', h1, h2⟩ := get_arr hc _ _ (by rw [Array.getElem?_toList]; exact hv)
        refine ValOk.quiet s (v' := u') ?_ (VR.of0 h2)
        simp only [Instr.field, Sem.run_bind, run_underlying hu, Result.andThen_ok, hfd, asAgg, Sem.run_pure, part, isAggP_ok hagg, Bool.false_eq_true, if_false, h1]
      · cases hv
    · cases hv
  · cases hv
theorem fieldAddr_ok (s : Sim M ρ h w) {t : TypeId} {x x' : Value} {f : Nat} (hx : VR ρ x x') {v : Value} (hv : afieldAddr P t x f = some v) : ValOk P M ρ h w v h (Instr.fieldAt t x' f) := by
  unfold afieldAddr at hv
  split at hv
  · rename_i fs ad hu
    obtain ⟨hs, l, hl, rfl⟩ := hx.ptr
    split at hv
    · rename_i fd hfd
      simp only [Option.bind_eq_some_iff] at hv
      obtain ⟨n, hn, hv⟩ := hv
      split at hv
      · cases hv
      · rename_i hc
        injection hv with hv
        subst hv
        simp only [Bool.or_eq_true, decide_eq_true_eq, not_or] at hc
        refine ValOk.quiet s (v' := .pointer (some ⟨l.b, l.o + (ad.off + fd.offset), none⟩)) ?_ (VR.mkptr hl)
        simp only [Instr.fieldAt, Sem.run_bind, run_underlying hu, Result.andThen_ok, hfd, Instr.sureAddr, Sem.run_pure, fieldPlace, sizeP_ok hn, hc.1, if_false, add_at, Nat.add_assoc]
    · cases hv
  · cases hv
theorem indexAddr_ok (s : Sim M ρ h w) {t : TypeId} {x x' i i' : Value} (hx : VR ρ x x') (hi : VR ρ i i') {v : Value} (hv : aindexAddr P t x i = some v) : ValOk P M ρ h w v h (Instr.indexAt t x' i') := by
  unfold aindexAddr at hv
  split at hv
  · rename_i e ad n c k i hu
    obtain rfl := hi.int
    obtain ⟨hnc, l, o', c', hl, rfl, h1, h2, h3, h4⟩ := hx.slc
    simp only [Option.bind_eq_some_iff] at hv
    obtain ⟨sz, hn, hv⟩ := hv
    split at hv
    · rename_i hb
      injection hv with hv
      subst hv
      obtain rfl := h2 (by omega)
      refine ValOk.quiet s (v' := .pointer (some ⟨l.b, l.o + (ad.off + i.toNat * sz), none⟩)) ?_ (VR.mkptr hl)
      have hb' : 0 ≤ i ∧ i < (n : Int) := hb
      simp only [Instr.indexAt, asIntOf, Sem.run_bind, Sem.run_pure, Result.andThen_ok, run_underlying hu, hb', and_self, if_true, sizeP_ok hn, add_at, Nat.add_assoc]
    · cases hv
  · rename_i n e ad k i hu
    obtain rfl := hi.int
    obtain ⟨hs, l, hl, rfl⟩ := hx.ptr
    simp only [Option.bind_eq_some_iff] at hv
    obtain ⟨sz, hn, hv⟩ := hv
    split at hv
    · rename_i hb
      injection hv with hv
      subst hv
      refine ValOk.quiet s (v' := .pointer (some ⟨l.b, l.o + (ad.off + i.toNat * sz), none⟩)) ?_ (VR.mkptr hl)
      have hb' : 0 ≤ i ∧ i < (n : Int) := hb.1
      simp only [Instr.indexAt, asIntOf, Instr.sureAddr, Sem.run_bind, Sem.run_pure, Result.andThen_ok, run_underlying hu, hb', and_self, if_true, sizeP_ok hn, add_at, Nat.add_assoc]
    · cases hv
  · cases hv
theorem store_ok (s : Sim M ρ h w) {t : TypeId} {ad : Addr} {p' v v' : Value} (hp : VR ρ (.pointer (some ad)) p') (hv : VR ρ v v') {cs : List Value} (hcs : cellsV v = some cs) (hsz : sizeP P t = some cs.length) (hst : astore h ad.block ad.off cs = some h') :
    OpOk P M ρ h w undef h' (do Instr.storeAt t p' v'; pure .skip) := by
  obtain ⟨hs, l, hl, rfl⟩ := hp.ptr
  obtain ⟨hc, _⟩ := cellsV_ok hv hcs
  obtain ⟨w', h1, h2, h3⟩ := astore_ok (P := P) s hst hl hc
  refine ⟨ρ, undef, w', .inr ⟨?_, rfl⟩, h2, h3, VR.flat rfl⟩
  have hlen : v'.cells.size = cs.length := by simpa using hc.length
  simp only [Instr.storeAt, Sem.run_bind, Instr.sureAddr, Sem.run_pure, Result.andThen_ok, storeVar, sizeP_ok hsz, hlen, ne_eq, not_true_eq_false, if_false, h1]
def OR (ρ : Ren) : Option Value → Option Value → Prop
  | none, none => True
  | some v, some v' => VR ρ v v'
  | _, _ => False
theorem evOpt_ok (ht : TR ρ T a.tmps) {x : Option Operand} {v : Option Value} (he : evOpt T x = some v) : OR ρ v (x.map a.eval) := by
  cases x with
  | none => simp only [evOpt, Option.some.injEq] at he; subst he; exact trivial
  | some x =>
    simp only [evOpt, Option.bind_eq_some_iff, Option.some.injEq] at he
    obtain ⟨u, h1, rfl⟩ := he
    exact ev_ok ht h1
omit [Toks] in
theorem sliceB_some {v : Value} {d hi r : Nat} (h : sliceB (some v) d hi = some r) : ∃ k i, v = .int k i ∧ 0 ≤ i ∧ i ≤ (hi : Int) ∧ r = i.toNat := by
  unfold sliceB at h
  split at h
  · rename_i e; cases e
  · rename_i k i e
    cases e
    split at h
    · rename_i hc
      injection h with h
      exact ⟨k, _, rfl, Int.natCast_nonneg i, Int.ofNat_le.2 hc, h.symm⟩
    · cases h
  · cases h
theorem sliceBounds_ok {lo hi mx lo' hi' mx' : Option Value} (h1 : OR ρ lo lo') (h2 : OR ρ hi hi') (h3 : OR ρ mx mx') {n c c' l k m : Nat} (hc : c ≤ c') (hnc : n ≤ c) (hm : sliceB mx c c = some m) (hh : sliceB hi n m = some k) (hl : sliceB lo 0 k = some l) (hx : (mx.isSome && hi.isNone) = false) (w : World) :
    (Instr.sliceBounds true n c' lo' hi' mx').run P w = .ok (l, k, if mx.isSome then m else c') w ∧ l ≤ k ∧ k ≤ m ∧ m ≤ c := by
  have k1 : ∀ {v v' : Value} {d hi r : Nat}, VR ρ v v' → sliceB (some v) d hi = some r → ∃ kk i, v' = .int kk i ∧ 0 ≤ i ∧ i ≤ (hi : Int) ∧ r = i.toNat := by
    intro v v' d hi r hv hs
    obtain ⟨kk, i, rfl, a1, a2, a3⟩ := sliceB_some hs
    exact ⟨kk, i, hv.int, a1, a2, a3⟩
  have hmc : m ≤ c := by
    cases mx with
    | none => simp only [sliceB, Option.some.injEq] at hm; omega
    | some v => obtain ⟨_, i, _, _, _, rfl⟩ := sliceB_some hm; omega
  have hkm : k ≤ m := by
    cases hi with
    | none =>
      cases mx with
      | none => simp only [sliceB, Option.some.injEq] at hh hm; omega
      | some v => simp at hx
    | some v => obtain ⟨_, i, _, _, _, rfl⟩ := sliceB_some hh; omega
  have hlk : l ≤ k := by
    cases lo with
    | none => simp only [sliceB, Option.some.injEq] at hl; omega
    | some v => obtain ⟨_, i, _, _, _, rfl⟩ := sliceB_some hl; omega
  refine ⟨?_, hlk, hkm, hmc⟩
  have step : ∀ (kk : IntKind) (i : Int) (y : Nat) (code : BoundsCode), 0 ≤ i → i ≤ (y : Int) → (Instr.sliceBound (.int kk i) y code).run P w = .ok i.toNat w := fun kk i y code a b => run_sliceBound w kk i y code a b
  cases mx with
  | none =>
    cases mx' with
    | some _ => exact h3.elim
    | none =>
      simp only [sliceB, Option.some.injEq] at hm
      subst hm
      cases hi with
      | none =>
        cases hi' with
        | some _ => exact h2.elim
        | none =>
          simp only [sliceB, Option.some.injEq] at hh
          subst hh
          cases lo with
          | none =>
            cases lo' with
            | some _ => exact h1.elim
            | none => simp only [sliceB, Option.some.injEq] at hl; subst hl; simp [Instr.sliceBounds]
          | some v =>
            cases lo' with
            | none => exact h1.elim
            | some v' =>
              obtain ⟨kk, i, rfl, a1, a2, rfl⟩ := k1 h1 hl
              simp [Instr.sliceBounds, step _ _ _ _ a1 a2]
      | some u =>
        cases hi' with
        | none => exact h2.elim
        | some u' =>
          obtain ⟨kh, j, rfl, b1, b2, rfl⟩ := k1 h2 hh
          have b3 : j ≤ (c' : Int) := by omega
          cases lo with
          | none =>
            cases lo' with
            | some _ => exact h1.elim
            | none => simp only [sliceB, Option.some.injEq] at hl; subst hl; simp [Instr.sliceBounds, step _ _ _ _ b1 b3]
          | some v =>
            cases lo' with
            | none => exact h1.elim
            | some v' =>
              obtain ⟨kk, i, rfl, a1, a2, rfl⟩ := k1 h1 hl
              simp [Instr.sliceBounds, step _ _ _ _ a1 a2, step _ _ _ _ b1 b3]
  | some x =>
    cases mx' with
    | none => exact h3.elim
    | some x' =>
      obtain ⟨km, mm, rfl, c1, c2, rfl⟩ := k1 h3 hm
      have c3 : mm ≤ (c' : Int) := by omega
      cases hi with
      | none => simp at hx
      | some u =>
        cases hi' with
        | none => exact h2.elim
        | some u' =>
          obtain ⟨kh, j, rfl, b1, b2, rfl⟩ := k1 h2 hh
          cases lo with
          | none =>
            cases lo' with
            | some _ => exact h1.elim
            | none => simp only [sliceB, Option.some.injEq] at hl; subst hl; simp [Instr.sliceBounds, step _ _ _ _ b1 b2, step _ _ _ _ c1 c3]
          | some v =>
            cases lo' with
            | none => exact h1.elim
            | some v' =>
              obtain ⟨kk, i, rfl, a1, a2, rfl⟩ := k1 h1 hl
              simp [Instr.sliceBounds, step _ _ _ _ a1 a2, step _ _ _ _ b1 b2, step _ _ _ _ c1 c3]
theorem slice_ok (s : Sim M ρ h w) {t : TypeId} {ad : Addr} {n c : Nat} {x' : Value} {lo hi mx lo' hi' mx' : Option Value} (hx : VR ρ (.slice (some ad) n c) x') (h1 : OR ρ lo lo') (h2 : OR ρ hi hi') (h3 : OR ρ mx mx') {v : Value} (hv : aslice P t ad n c lo hi mx = some v) :
    ValOk P M ρ h w v h (Instr.sliceAt t x' lo' hi' mx') := by
  unfold aslice at hv
  split at hv
  · rename_i e hu
    obtain ⟨hnc, l, o', c', hl, rfl, g1, g2, g3, g4⟩ := hx.slc
    simp only [Option.bind_eq_some_iff] at hv
    obtain ⟨sz, hsz, hv⟩ := hv
    split at hv
    · cases hv
    · rename_i hcond
      simp only [Bool.or_eq_true, not_or, Bool.not_eq_true] at hcond
      obtain ⟨hc1, hc2⟩ := hcond
      simp only [Option.bind_eq_some_iff, Option.some.injEq] at hv
      obtain ⟨m, hm, k, hk, lw, hlw, rfl⟩ := hv
      obtain ⟨hb, b1, b2, b3⟩ := sliceBounds_ok (P := P) h1 h2 h3 g1 hnc hm hk hlw hc1 w
      have hs0 : sz ≠ 0 := by intro e; subst e; simp at hc2
      obtain ⟨m', hm'⟩ : ∃ m', m' = if mx.isSome then m else c' := ⟨_, rfl⟩
      rw [← hm'] at hb
      have hrun : (Instr.sliceAt t (.slice (some ⟨l.b, o', none⟩) n c') lo' hi' mx').run P w = .ok (.slice (some (if m' = lw then ⟨l.b, o', none⟩ else ⟨l.b, o' + lw * sz, none⟩)) (k - lw) (m' - lw)) w := by
        simp only [Instr.sliceAt, Sem.run_bind, run_underlying hu, Result.andThen_ok, Instr.slice, hb, sizeP_ok hsz, Sem.run_pure]
        split <;> simp [add_at]
      refine ValOk.quiet s hrun ⟨by omega, l, if m' = lw then o' else o' + lw * sz, m' - lw, hl, ?_, ?_, ?_, ?_, ?_⟩
      · split <;> rfl
      · subst hm'; split <;> omega
      · intro hp
        have hne : m' ≠ lw := by omega
        rw [if_neg hne]
        have ho : o' = l.o + ad.off := g2 (by subst hm'; split at hp <;> omega)
        subst ho
        rw [Nat.add_assoc]
        congr 1
        congr 1
        by_cases hmx : mx.isSome = true
        · have : m' = m := by rw [hm', if_pos hmx]
          rw [if_neg (by rintro ⟨e, _⟩; omega)]
        · have hmc : m = c := by
            cases mx with
            | none => simp only [sliceB, Option.some.injEq] at hm; omega
            | some _ => simp at hmx
          by_cases hsp : ad.spot = none
          · have := g3 hsp
            have : m' = c' := by rw [hm', if_neg hmx]
            rw [if_neg (by rintro ⟨e, _⟩; omega)]
          · rw [if_neg (by rintro ⟨_, e | e⟩; exact hmx e; exact hsp e)]
      · intro hsp
        simp only at hsp
        subst hm'
        split at hsp
        · rename_i hmx; rw [if_pos hmx]
        · rename_i hmx
          rw [if_neg hmx]
          have := g3 hsp
          cases mx with
          | none => simp only [sliceB, Option.some.injEq] at hm; omega
          | some _ => simp at hmx
      · intro hsp hp hoff
        simp only at hsp hoff
        split at hsp
        · exact absurd rfl hsp
        · rename_i hmx
          rw [if_neg (by rintro ⟨_, e | e⟩; exact hmx e; exact hsp e)] at hoff
          have hm2 : m' = c' := by rw [hm', if_neg hmx]
          have h0 : ad.off = 0 := by omega
          have hlw0 : lw = 0 := by
            rcases Nat.eq_zero_or_pos lw with e | e
            · exact e
            · have := Nat.mul_pos e (Nat.pos_of_ne_zero hs0); omega
          have := g4 hsp (by omega) h0
          omega
  · cases hv
end
end Go.Proofs.Ytfbedlhigggggaa
