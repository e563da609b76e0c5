/- strings.Join in abstract memory: what the summary says is what the call comes to. -/
import Derived.Test.YtffaicfhcljacaaGreatDoorAllSum
namespace Go.Proofs.YtffaicfhcljacaaGreatDoor
open Go Go.RowKit
/-- The texts of a row of cells. -/
def strsOf : List Value → Option (List ByteArray)
  | [] => some []
  | .string s :: r => (strsOf r).bind fun l => some (s :: l)
  | _ :: _ => none
def joinB (sep : List UInt8) : List ByteArray → List UInt8
  | [] => []
  | [s] => s.data.toList
  | s :: r => s.data.toList ++ sep ++ joinB sep r
def summJoin : XCall := fun f args h =>
  match args with
  | [.slice (some a) (n + 1) _, .string sep] => if Nat.beq f 342 && Nat.ble n 10000 then (h.cel a.block).bind fun o => (takeN o.cells a.off (n + 1)).bind fun cs => (strsOf cs).bind fun ss =>
      if Nat.ble (joinB sep.data.toList ss).length 1000000 then some (.string ⟨(joinB sep.data.toList ss).toArray⟩, h) else none
    else none
  | _ => none
theorem strsOf_ok : ∀ {cs : List Value} {ss : List ByteArray}, strsOf cs = some ss → ss.length = cs.length ∧ ∀ (j : Nat) (x : ByteArray), ss[j]? = some x → cs[j]? = some (Value.string x)
  | [], ss, h => by
    simp only [strsOf, Option.some.injEq] at h
    subst h
    exact ⟨rfl, fun j x h => by simp at h⟩
  | v :: r, ss, h => by
    unfold strsOf at h
    split at h
    · cases ‹_ :: _ = []›
    · rename_i s r' he
      injection he with e1 e2
      subst e1 e2
      simp only [Option.bind_eq_some_iff, Option.some.injEq] at h
      obtain ⟨l, hl, rfl⟩ := h
      obtain ⟨h1, h2⟩ := strsOf_ok hl
      refine ⟨by simp [h1], fun j x hx => ?_⟩
      cases j with
      | zero => simp only [List.getElem?_cons_zero, Option.some.injEq] at hx ⊢; rw [hx]
      | succ j => simpa using h2 j x (by simpa using hx)
    · cases h
theorem joinB_eq (sep : List UInt8) : ∀ ss : List ByteArray, joinB sep ss = Lib.join (ss.map (·.data.toList)) sep
  | [] => rfl
  | [s] => by simp [joinB, Lib.join, List.intercalate]
  | s :: t :: r => by
    have ih := joinB_eq sep (t :: r)
    unfold joinB
    rw [ih]
    simp [Lib.join, List.intercalate]
theorem join_fn : ∃ fn, Tryz.prog.funcs[342]? = some fn ∧ fn.body.isNone = false ∧ (fn.name == "runtime.NumGoroutine") = false := ⟨_, Tryz.func342, rfl, by decide +kernel⟩
theorem summJoin_ok [Toks] : CallOk Tryz.prog summJoin := by
  intro M ρ h w f args args' v h' s hM ha hv
  unfold summJoin at hv
  split at hv
  · rename_i a n c sep
    split at hv
    · rename_i hc
      simp only [Bool.and_eq_true] at hc
      obtain ⟨hc1, hc2⟩ := hc
      have hc1 := Nat.eq_of_beq_eq_true hc1
      have hc2 := Nat.le_of_ble_eq_true hc2
      subst hc1
      simp only [Option.bind_eq_some_iff] at hv
      obtain ⟨o, ho, cs, hcs, ss, hss, hv⟩ := hv
      split at hv
      · rename_i hlen
        have hlen := Nat.le_of_ble_eq_true hlen
        injection hv with hv
        injection hv with hv1 hv2
        subst hv1 hv2
        obtain ⟨fn, f1, f2, f3⟩ := join_fn
        refine ⟨fn, f1, f2, f3, ?_⟩
        obtain ⟨arr⟩ := args'
        cases ha with
        | cons p1 ha =>
          cases ha with
          | cons p2 ha =>
            cases ha
            obtain rfl := p2.string
            have p1 : VR00 ρ (.slice (some a) (n + 1) c) _ := p1
            obtain ⟨hnc, l, o', c', hl, rfl, hcc, hoff, _, _⟩ := p1
            obtain ⟨ho, ho3⟩ := AHeap.cel_get ho
            obtain ⟨ccs, fz, c1, c2, _⟩ := (s.ok _ o l ho hl).cells ho3
            obtain ⟨t1, t2⟩ := takeN_some hcs
            obtain ⟨s1, s2⟩ := strsOf_ok hss
            have hoff := hoff (by omega)
            subst hoff
            have hcells : ∀ (j : Nat) x, ss[j]? = some x → w.cell? ⟨l.b, l.o + a.off + j, none⟩ = some (.string x) := by
              intro j x hx
              have h1 := s2 j x hx
              have hj : j < n + 1 := by
                have := (List.getElem?_eq_some_iff.1 hx).1
                omega
              rw [t2 j hj] at h1
              obtain ⟨u', g1, g2⟩ := c2 _ _ h1
              have := VR0.eq rfl g2
              subst this
              simp [World.cell?, c1, Nat.add_assoc, g1]
            have hb := (Array.getElem?_eq_some_iff.1 c1).1
            have hj := joinB_eq sep.data.toList ss
            have key := Go.Proofs.Tryz.strings_Join l.b (l.o + a.off) c' ss sep w hcells hb (by omega) (by omega) (by rw [← hj]; omega)
            rw [← hj, show ss.length = n + 1 by omega] at key
            refine key.mono ?_
            rintro e w' ⟨rfl, hbl⟩
            exact ⟨ρ, _, rfl, Ext.below s hbl.block hbl.size hbl.os hbl.tape hbl.output, s.below hbl.block hbl.size, VR.flat rfl⟩
      · cases hv
    · cases hv
  · cases hv
theorem summJoin_mono : CallMono summJoin := by
  intro f args h v h' hv
  unfold summJoin at hv
  split at hv
  · split at hv
    · simp only [Option.bind_eq_some_iff] at hv
      obtain ⟨o, _, cs, _, ss, _, hv⟩ := hv
      split at hv
      · injection hv with hv
        injection hv with _ hv2
        subst hv2
        exact Nat.le_refl _
      · cases hv
    · cases hv
  · cases hv
def summJ : XCall := orS summJoin summAll
theorem summJ_ok [Toks] : CallOk Tryz.prog summJ := orS_ok summJoin_ok summAll_ok
theorem summJ_mono : CallMono summJ := orS_mono summJoin_mono summAll_mono
end Go.Proofs.YtffaicfhcljacaaGreatDoor
