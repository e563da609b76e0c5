/- The contract of a new stream's first update, by the executor. -/
import Derived.Test.YtlldpgjifdfogaaAllSum
namespace Go.Proofs.Ytlldpgjifdfogaa
open Go Go.RowKit
def cfg0 : Cfg := ⟨fun _ => true, fun _ _ => none, fun _ _ _ => none⟩
theorem cfg0_ok [Toks] : CfgOk Try.prog cfg0 := ⟨(fun _ _ _ h => nomatch h), CallOk.none, CallMono.none⟩
def stObj : AObj := ⟨[.slice none 0 0, .int .i64 0, .bool false, .int .i64 0, .int .i64 0], 126, 0, 5⟩
noncomputable def addR : Option (Value × AHeap) := xcall Try.prog cfg0 400 17 [.pointer (some ⟨0, 0, none⟩), .int .i64 2] (h0.push stObj)
noncomputable def addH : AHeap := match addR with
  | some r => r.2
  | none => h0
set_option maxRecDepth 1000000 in
theorem addR_v : addR.map (·.1) = some (.tuple #[.agg #[.int .i64 1, .int .i64 2], .int .i64 0]) := by kernel_rfl
set_option maxRecDepth 1000000 in
theorem addH_n : addH.n = 5 := by kernel_rfl
set_option maxRecDepth 1000000 in
theorem addH_0 : addH.get 0 = some ⟨[.slice (some ⟨4, 0, some opened⟩) 1 1, .int .i64 0, .bool false, .int .i64 0, .int .i64 0], 126, 0, 5⟩ := by kernel_rfl
set_option maxRecDepth 1000000 in
theorem addH_4 : addH.get 4 = some ⟨[.int .i64 1, .int .i64 2], 27, 0, 2⟩ := by kernel_rfl
theorem addR_eq : addR = some (.tuple #[.agg #[.int .i64 1, .int .i64 2], .int .i64 0], addH) := by
  have h := addR_v
  cases hr : addR with
  | none => rw [hr] at h; cases h
  | some r =>
    rw [hr] at h
    simp only [Option.map_some, Option.some.injEq] at h
    have e : addH = r.2 := by unfold addH; rw [hr]
    rw [e, ← h]
/-- A block of the run's own as an abstract object. -/
theorem sim_one [Toks] {g : Nat} {w : World} {o : AObj} {cs : Array Value} (hk : o.kind = 0) (he : o.es = cs.size) (hb : Blk w g o.elem cs) (hc : o.cells = cs.toList) (hf : ∀ v ∈ cs.toList, flat0 v = true) (M : Nat) (hM : 1 ≤ M) : Sim M (fun i => if i = 0 then some ⟨g, 1, 0⟩ else none) (h0.push o) w := by
  have get : ∀ i x, (h0.push o).get i = some x → i = 0 ∧ x = o := by
    intro i x h
    rw [AHeap.get_push] at h
    split at h
    · rename_i e
      injection h with h
      exact ⟨e, h.symm⟩
    · rw [AHeap.get_ge h0 i (Nat.zero_le _)] at h
      cases h
  refine ⟨fun i x l h1 h2 => ?_, fun i j x y l l' h1 h2 _ _ _ => .inl (by rw [(get i x h1).1, (get j y h2).1]), fun i l h => ?_, fun i hi => AHeap.get_ge _ i hi, hM⟩
  · obtain ⟨rfl, rfl⟩ := get i x h1
    simp only [if_true, Option.some.injEq] at h2
    subst h2
    refine Held.ofCells (by omega) ⟨cs, (0, 0), hb, fun k u hu => ?_, fun _ k _ => by simp, fun _ => rfl, fun _ => ⟨by rw [he, Nat.mul_one], rfl⟩⟩
    rw [hc] at hu
    exact ⟨u, by simpa using hu, VR0.flat (hf u (List.mem_of_getElem? hu))⟩
  · split at h
    · rename_i e
      injection h with h
      subst h e
      exact ⟨.inl (Nat.zero_lt_succ _), hb.lt⟩
    · cases h
theorem cells5 {cs : Array Value} {a b c d e : Value} (hs : cs.size = 5) (h0 : cs[0]? = some a) (h1 : cs[1]? = some b) (h2 : cs[2]? = some c) (h3 : cs[3]? = some d) (h4 : cs[4]? = some e) : cs = #[a, b, c, d, e] := by
  apply Array.ext_getElem?
  intro i
  match i with
  | 0 => rw [h0]; rfl
  | 1 => rw [h1]; rfl
  | 2 => rw [h2]; rfl
  | 3 => rw [h3]; rfl
  | 4 => rw [h4]; rfl
  | i + 5 => rw [Array.getElem?_eq_none (by omega), Array.getElem?_eq_none (by simp)]
/-- stream.Add of the first update, Running. -/
theorem Add_first (g : Nat) (w : World) (hb : Blk w g 126 #[.slice none 0 0, .int .i64 0, .bool false, .int .i64 0, .int .i64 0]) :
    Calls Try.prog 17 #[.pointer (some ⟨g, 0, none⟩), .int .i64 2] w fun e w' => e = .returned (.tuple #[.agg #[.int .i64 1, .int .i64 2], .int .i64 0]) ∧
      ∃ u c, w.heap.size ≤ u ∧ u < w'.heap.size ∧ 1 ≤ c ∧ Blk w' g 126 #[.slice (some ⟨u, 0, none⟩) 1 c, .int .i64 0, .bool false, .int .i64 0, .int .i64 0] ∧ w'.cell? ⟨u, 0, none⟩ = some (.int .i64 1) ∧ w'.cell? ⟨u, 1, none⟩ = some (.int .i64 2) ∧ w.grownBy w' (some g) := by
  letI : Toks := ⟨fun _ => 0⟩
  have s := sim_one (o := stObj) rfl rfl hb rfl (by decide) 5 (by decide)
  have key := xcall_ok (P := Try.prog) cfg0_ok mixed 400 5 _ (h0.push stObj) w 17 [.pointer (some ⟨0, 0, none⟩), .int .i64 2] #[.pointer (some ⟨g, 0, none⟩), .int .i64 2] _ addH s (by rw [addH_n]; exact Nat.le_refl _)
    (.cons ⟨rfl, ⟨g, 1, 0⟩, rfl, rfl⟩ (.cons (VR.flat rfl) .nil)) addR_eq
  obtain ⟨fn, _, _, _, hC⟩ := key
  refine hC.mono ?_
  rintro e w' ⟨ρ', v', rfl, E, S, hv⟩
  have hv := VR.eq rfl hv
  subst hv
  have r0 : ρ' 0 = some ⟨g, 1, 0⟩ := E.sub 0 _ rfl
  obtain ⟨cs, fz, k1, k2, _, k4, k5⟩ := (S.ok 0 _ _ addH_0 r0).cells (by decide)
  have c0 := k2 0 _ rfl
  have c1 := k2 1 _ rfl
  have c2 := k2 2 _ rfl
  have c3 := k2 3 _ rfl
  have c4 := k2 4 _ rfl
  obtain ⟨v0, p0, q0⟩ := c0
  obtain ⟨v1, p1, q1⟩ := c1
  obtain ⟨v2, p2, q2⟩ := c2
  obtain ⟨v3, p3, q3⟩ := c3
  obtain ⟨v4, p4, q4⟩ := c4
  obtain ⟨_, l, o', c', hl, rfl, hcc, hoff, _, _⟩ := q0
  have hoff := hoff (by omega)
  obtain ⟨ds, fz2, m1, m2, _, _, m5⟩ := (S.ok 4 _ l addH_4 hl).cells (by decide)
  have ho : l.o = 0 := (m5 (by decide)).2
  obtain ⟨u0, a0, b0⟩ := m2 0 _ rfl
  obtain ⟨u1, a1, b1⟩ := m2 1 _ rfl
  have e0 := VR0.eq rfl b0
  have e1 := VR0.eq rfl b1
  subst e0 e1
  have hfz := k4 rfl
  subst hfz
  have hlt : l.b < w'.heap.size := (Array.getElem?_eq_some_iff.1 m1).1
  have hge : w.heap.size ≤ l.b := by
    obtain ⟨_, _, h⟩ := E.new 4 l hl rfl
    rcases h with h | ⟨j, l', o2, h1, h2, h3, h4⟩
    · exact h
    · exfalso
      by_cases hj : j = 0
      · subst hj
        simp only [if_true, Option.some.injEq] at h1
        subst h1
        rcases S.inj 0 4 _ _ _ _ addH_0 addH_4 r0 hl h4 with h | ⟨h, _⟩
        · cases h
        · cases h
      · simp only [if_neg hj] at h1
        cases h1
  have ho' : o' = 0 := by rw [hoff, ho]; rfl
  subst ho'
  refine ⟨rfl, l.b, c', hge, hlt, by omega, ?_, by simpa [World.cell?, m1, ho] using a0, by simpa [World.cell?, m1, ho] using a1, ⟨E.os, E.tape, E.output, E.size, fun k hk hne => E.frame k hk fun i l2 o2 h1 _ _ h4 => ?_⟩⟩
  · have z1 := VR0.eq rfl q1
    have z2 := VR0.eq rfl q2
    have z3 := VR0.eq rfl q3
    have z4 := VR0.eq rfl q4
    subst z1 z2 z3 z4
    have := cells5 (by simpa using (k5 (by decide)).1) p0 p1 p2 p3 p4
    rw [this] at k1
    exact k1
  · split at h1
    · injection h1 with h1
      subst h1
      exact hne (by rw [← h4])
    · cases h1
end Go.Proofs.Ytlldpgjifdfogaa
