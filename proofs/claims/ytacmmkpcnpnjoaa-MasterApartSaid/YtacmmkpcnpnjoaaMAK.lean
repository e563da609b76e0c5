/- A key out of two numbers, by the executor on its region alone: what it wants. -/
import Derived.Test.YtacmmkpcnpnjoaaMas9
import Derived.Test.YtacmmkpcnpnjoaaPieceH
namespace Go.Proofs.Ytacmmkpcnpnjoaa.Mas
open Go Go.RowKit Go.Proofs.Ytacmmkpcnpnjoaa Go.Proofs.Ytacmmkpcnpnjoaa.Crw Go.ChangeShapes Go.WideShapes Go.ChangeAt
set_option linter.unusedVariables false
set_option maxRecDepth 100000
/-- A row of numbers that is only read, as an abstract object of tokens. -/
abbrev rowH (i el : Nat) : AHeap := h0.push ⟨(List.range (i + 1)).map (fun k => .chan (some k)), el, 2, 1⟩
abbrev rowR (ad : Addr) : Ren := fun j => if j = 0 then some ⟨ad.block, 0, ad.off⟩ else none
theorem sim_row [Toks] {w : World} {B n i : Nat} {ad : Addr} {xs : List Int} (hr : Reads w B 1 (some ad) n (xs.map (Value.int .i64))) (hi : i < n) (hT : ∀ k, k ≤ i → Toks.A k = xs.getD k 0) :
    ∃ el, ad.spot = none ∧ ∀ M, 1 ≤ M → Sim M (rowR ad) (rowH i el) w := by
  obtain ⟨ad', e, hb, hc⟩ := hr.2 (by omega)
  injection e with e
  subst e
  have hl : xs.length = n := by have := hr.1; simpa using this
  have cell : ∀ k, k ≤ i → w.cell? (ad.add k) = some (.int .i64 (xs.getD k 0)) := fun k hk => hc k _ (by
    rw [List.getElem?_map, List.getD_eq_getElem?_getD, List.getElem?_eq_getElem (by omega)]
    rfl)
  have c0 := cell 0 (Nat.zero_le _)
  unfold World.cell? at c0
  rw [show ad.add 0 = ad by simp [Addr.add]] at c0
  cases hw : w.heap[ad.block]? with
  | none => rw [hw] at c0; cases c0
  | some ob =>
    cases ob with
    | cells cs el fz =>
      have hs : ad.spot = none := by
        rw [hw] at c0
        cases h : ad.spot with
        | none => rfl
        | some s => simp [h] at c0
      have get : ∀ j x, (rowH i el).get j = some x → j = 0 ∧ x = ⟨(List.range (i + 1)).map (fun k => .chan (some k)), el, 2, 1⟩ := by
        intro j x h
        rw [AHeap.get_push] at h
        split at h
        · rename_i e
          injection h with h
          exact ⟨e, h.symm⟩
        · rw [AHeap.get_ge h0 j (Nat.zero_le _)] at h
          cases h
      refine ⟨el, hs, fun M hM => ⟨fun j x l h1 h2 => ?_, fun j k x y l l' h1 h2 _ _ _ => .inl (by rw [(get j x h1).1, (get k y h2).1]), fun j l h => ?_, fun j hj => AHeap.get_ge _ j hj, hM⟩⟩
      · obtain ⟨rfl, rfl⟩ := get j x h1
        simp only [rowR, if_true, Option.some.injEq] at h2
        subst h2
        refine Held.ofCells (show (2 : Nat) < 3 by decide) ⟨cs, fz, hw, fun k u hu => ?_, fun h => absurd rfl h, fun h => (by cases h), fun h => absurd rfl h⟩
        simp only [List.getElem?_map, Option.map_eq_some_iff] at hu
        obtain ⟨k', hk, rfl⟩ := hu
        have hk1 : k < i + 1 := by
          rcases Nat.lt_or_ge k (i + 1) with h | h
          · exact h
          · rw [List.getElem?_eq_none (by simpa using h)] at hk; cases hk
        rw [List.getElem?_range hk1] at hk
        injection hk with hk
        subst hk
        have ck := cell k (by omega)
        unfold World.cell? at ck
        have e1 : ad.add k = ⟨ad.block, ad.off + k, none⟩ := by
          unfold Addr.add
          split
          · rename_i e
            subst e
            rw [← hs]
            simp
          · rfl
        rw [e1] at ck
        simp only [hw] at ck
        refine ⟨.int .i64 (xs.getD k 0), by simpa using ck, ?_⟩
        show Value.int .i64 _ = .int .i64 (Toks.A k)
        rw [hT k (by omega)]
      · simp only [rowR] at h
        split at h
        · rename_i e
          injection h with h
          subst h e
          refine ⟨.inl (Nat.zero_lt_succ _), (Array.getElem?_eq_some_iff.1 hw).1⟩
        · cases h
    | _ => rw [hw] at c0; cases c0
theorem row_ro {i el : Nat} : ∀ j o, (rowH i el).get j = some o → o.kind = 2 := ro_one
/-- The name of a task, by a token. -/
def taskS (i : Nat) (s : ByteArray) : XCall := fun f args h => if f = 13 then (match args with
  | [.chan (some k)] => if k = i then some (.string s, h) else none
  | _ => none) else none
theorem taskS_mono (i : Nat) (s : ByteArray) : CallMono (taskS i s) := by
  intro f args h v h' hv
  unfold taskS at hv
  split at hv
  · split at hv
    · split at hv
      · injection hv with hv
        injection hv with _ hv
        rw [← hv]
        exact Nat.le_refl _
      · cases hv
    · cases hv
  · cases hv
theorem taskS_ok [Toks] {i : Nat} {x : Int} (hT : Toks.A i = x) (hx : -9223372036854775808 ≤ x ∧ x ≤ 9223372036854775807) : CallOk Try.prog (taskS i (taskB (x % 8))) := by
  intro M ρ h w f args args' v h' s hM ha hv
  unfold taskS at hv
  split at hv
  · rename_i hf
    subst hf
    split at hv
    · rename_i k
      split at hv
      · rename_i hk
        subst hk
        injection hv with hv
        injection hv with hv1 hv2
        subst hv1 hv2
        obtain ⟨fn, f1, f2, f3⟩ := isFn_ok (P := Try.prog) (f := 13) (by kernel_rfl)
        refine ⟨fn, f1, f2, f3, ?_⟩
        have ea : args' = #[.int .i64 x] := by
          obtain ⟨l⟩ := args'
          cases ha with
          | cons h1 h2 =>
            cases h2
            have e2 : _ = Value.int .i64 (Toks.A k) := h1
            rw [e2, hT]
        subst ea
        exact (Task_any x hx w).mono fun e w' ⟨e1, hb⟩ => ⟨ρ, _, e1, Ext.below s hb.block hb.size hb.os hb.tape hb.output, s.below hb.block hb.size, VR.flat rfl⟩
      · cases hv
    · cases hv
  · cases hv
theorem wrap_bd (z : Int) : -9223372036854775808 ≤ IntKind.i64.wrap z ∧ IntKind.i64.wrap z ≤ 9223372036854775807 := by
  simp only [IntKind.wrap, IntKind.signed, IntKind.bits]
  simp
  omega
def keyF (x : Int) : Int := IntKind.i64.wrap (x.tdiv 8) % 2
def fB (r : Int) : ByteArray := if r = 0 then ⟨#[102]⟩ else ⟨#[103]⟩
abbrev cfgK9 (i : Nat) (r : Int) (s : ByteArray) : Cfg := ⟨fun _ => true, overW [(i + 3000000, 2, .int .i64 r)], taskS i s⟩
theorem cfgK9_ok [Toks] {i : Nat} {x : Int} (hi : i < 1000000) (hT : Toks.A i = x) (hx : -9223372036854775808 ≤ x ∧ x ≤ 9223372036854775807) {r : Int} (hr : keyF x = r) : CfgOk Try.prog (cfgK9 i r (taskB (x % 8))) := by
  have e : Toks.A (i + 3000000) = IntKind.i64.wrap (x.tdiv 8) := by rw [Toks.A_eighth hi, hT]
  refine ⟨overW_ok _ (fun q hq => ?_) (fun q hq => ?_), taskS_ok hT hx, taskS_mono _ _⟩
  · rw [List.mem_singleton] at hq
    subst hq
    show _ ≤ Toks.A (i + 3000000) ∧ Toks.A (i + 3000000) ≤ _
    rw [e]
    exact wrap_bd _
  · rw [List.mem_singleton] at hq
    subst hq
    refine ⟨by show (1 : Int) ≤ 2; decide, by show (2 : Int) ≤ 9223372036854775807; decide, fun ρ => ?_⟩
    show VR ρ (.int .i64 r) (.int .i64 (Toks.A (i + 3000000) % 2))
    rw [e]
    have : IntKind.i64.wrap (x.tdiv 8) % 2 = r := hr
    rw [this]
    exact VR.flat rfl
/-- The box of a key, out of abstract memory. -/
structure KeyB (w : World) (g : Nat) (f t : ByteArray) : Prop where
  k0 : w.cell? ⟨g, 0, none⟩ = some (.string f)
  k1 : w.cell? ⟨g, 1, none⟩ = some (.string t)
theorem KeyB.lt {w : World} {g : Nat} {f t : ByteArray} (h : KeyB w g f t) : g < w.heap.size := cell_lt h.k0
theorem KeyB.below {w w' : World} {g : Nat} {f t : ByteArray} (h : KeyB w g f t) (hb : Below w.heap.size w w') : KeyB w' g f t := ⟨cell_keep h.k0 hb, cell_keep h.k1 hb⟩
theorem KeyB.block {w w' : World} {g : Nat} {f t : ByteArray} (h : KeyB w g f t) (hb : w'.heap[g]? = w.heap[g]?) : KeyB w' g f t := by
  obtain ⟨h1, h2⟩ := h
  unfold World.cell? at h1 h2
  exact ⟨by unfold World.cell?; rw [hb]; exact h1, by unfold World.cell?; rw [hb]; exact h2⟩
theorem box_of [Toks] {M : Nat} {ρ ρ' : Ren} {h h' : AHeap} {w w' : World} (E : Ext ρ ρ' h h' w w') (s : Sim M ρ' h' w') (hro : ∀ j o, h.get j = some o → o.kind = 2) {k : Nat} {f t : ByteArray} {v : Value} (hk : ρ k = none) (hg : h'.get k = some ⟨[.string f, .string t], 28, 0, 2⟩) (hv : VR ρ' (.pointer (some ⟨k, 0, none⟩)) v) :
    ∃ g, v = .pointer (some ⟨g, 0, none⟩) ∧ w.heap.size ≤ g ∧ KeyB w' g f t := by
  obtain ⟨_, l, hl, rfl⟩ := hv.ptr
  obtain ⟨cs, fz, hw, hc, _, _, ho⟩ := (s.ok k _ l hg hl).cells (show (0 : Nat) < 3 by decide)
  have lo : l.o = 0 := (ho (show (0 : Nat) ≠ 2 by decide)).2
  have hn : w.heap.size ≤ l.b := by
    rcases (E.new k l hl hk).2.2 with h1 | ⟨j, l', o, h1, h2, h3, _⟩
    · exact h1
    · exact absurd (hro j o h2) h3
  obtain ⟨u0, h0, r0⟩ := hc 0 _ rfl
  obtain ⟨u1, h1, r1⟩ := hc 1 _ rfl
  rw [lo] at h0 h1 ⊢
  refine ⟨l.b, rfl, hn, ?_, ?_⟩
  · unfold World.cell?
    rw [hw]
    have : u0 = .string f := VR.string (VR.of0 r0)
    subst this
    simpa using h0
  · unfold World.cell?
    rw [hw]
    have : u1 = .string t := VR.string (VR.of0 r1)
    subst this
    simpa using h1
theorem row_rel [Toks] {ad : Addr} {n0 M L c0 : Nat} (hs : ad.spot = none) (hM : n0 = M + L) (hn : n0 ≤ c0) : VR (rowR ad) (.slice (some ⟨0, 0, none⟩) (M + L) c0) (.slice (some ad) n0 c0) := by
  subst hM
  obtain ⟨b, o, sp⟩ := ad
  simp only at hs
  subst hs
  exact ⟨hn, _, o, c0, rfl, rfl, Nat.le_refl _, fun _ => by simp, fun _ => rfl, fun h => absurd rfl h⟩
theorem row_at [Toks] {ρ : Ren} {i k : Nat} (h : i = k) : VR ρ (.int .i64 (k : Int)) (.int .i64 (i : Int)) := by
  subst h
  exact VR.flat rfl
end Go.Proofs.Ytacmmkpcnpnjoaa.Mas
