/- The plain master: where a key is. -/
import Derived.Test.YtiflhfhonhbcpaaMas8
import Derived.Laws.StructEq
import Derived.ChangeKeysEq
namespace Go.Proofs.Ytiflhfhonhbcpaa.Mas
open Go Go.RowKit Go.Proofs.Ytiflhfhonhbcpaa Go.Proofs.Ytiflhfhonhbcpaa.Crw Go.ChangeShapes Go.WideShapes Go.ChangeAt
set_option linter.unusedVariables false
set_option maxRecDepth 100000
/-- What the plain master knows of a task. -/
structure Rk where
  f : ByteArray
  t : ByteArray
  st : Int
  v : Value
  ns : List Int
abbrev rkC (x : Rk) : List Value := [.string x.f, .string x.t]
abbrev rkV (L : List Rk) : List Value := L.flatMap rkC
abbrev rsV (L : List Rk) : List Value := L.map fun x => .int .i64 x.st
abbrev rhV (L : List Rk) : List Value := L.map fun x => x.v
def rsame (f t : ByteArray) (x : Rk) : Bool := (x.f.toList == f.toList) && (x.t.toList == t.toList)
theorem rkV_len (L : List Rk) : (rkV L).length = L.length * 2 := by
  induction L with
  | nil => rfl
  | cons a r ih => rw [show rkV (a :: r) = rkC a ++ rkV r by simp [rkV]]; simp [ih]; omega
theorem rkV_get (L : List Rk) (k : Nat) (x : Rk) (h : L[k]? = some x) (j : Nat) (hj : j < 2) : (rkV L)[k * 2 + j]? = (rkC x)[j]? := by
  induction L generalizing k with
  | nil => simp at h
  | cons a r ih =>
    have e : rkV (a :: r) = rkC a ++ rkV r := by simp [rkV]
    cases k with
    | zero =>
      simp only [List.getElem?_cons_zero, Option.some.injEq] at h
      subst h
      rw [e, Nat.zero_mul, Nat.zero_add, List.getElem?_append_left (by simpa using hj)]
    | succ k =>
      have e2 : (k + 1) * 2 + j = 2 + (k * 2 + j) := by omega
      rw [e, e2, List.getElem?_append_right (by simp), show (rkC a).length = 2 by rfl, Nat.add_sub_cancel_left]
      exact ih k (by simpa using h)
/-- The plain master at block m: slices a, b, c; V: its blocks. -/
structure RmP (w : World) (B m : Nat) (V : Nat → Prop) (a b c : Value) (L : List Rk) : Prop where
  blk : Blk w m 41 #[a, b, c]
  ks : w.ownsRow B 46 2 a L.length (rkV L)
  ss : w.ownsRow B 3 1 b L.length (rsV L)
  hs : w.ownsRow B 22 1 c L.length (rhV L)
  rows : ∀ (k : Nat) (x : Rk), L[k]? = some x → w.ownsRow B 3 1 x.v x.ns.length (ints x.ns)
  apart : ∀ (k j : Nat) (x y : Rk), L[k]? = some x → L[j]? = some y → k ≠ j → ∀ g, x.v.ownBlock = some g → y.v.ownBlock ≠ some g
  apb : ∀ (k : Nat) (x : Rk), L[k]? = some x → ∀ g, x.v.ownBlock = some g → b.ownBlock ≠ some g
  vm : V m
  va : ∀ g, a.ownBlock = some g → V g
  vb : ∀ g, b.ownBlock = some g → V g
  vc : ∀ g, c.ownBlock = some g → V g
  vx : ∀ (k : Nat) (x : Rk), L[k]? = some x → ∀ g, x.v.ownBlock = some g → V g
  lt : ∀ g, V g → g < w.heap.size
  ge : ∀ g, V g → B ≤ g
  len : L.length ≤ 100
section
variable {w w' : World} {B m : Nat} {V U : Nat → Prop} {a b c : Value} {L : List Rk} {f t : ByteArray}
theorem RmP.vol (h : RmP w B m V a b c L) (hv : Vol U w w') (hd : ∀ g, V g → ¬ U g) : RmP w' B m V a b c L :=
  ⟨blk_vol h.blk hv (hd _ h.vm), own_vol h.ks hv (fun g hg => hd g (h.va g hg)), own_vol h.ss hv (fun g hg => hd g (h.vb g hg)), own_vol h.hs hv (fun g hg => hd g (h.vc g hg)), fun k x hx => own_vol (h.rows k x hx) hv (fun g hg => hd g (h.vx k x hx g hg)), h.apart, h.apb, h.vm, h.va, h.vb, h.vc, h.vx, fun g hg => Nat.lt_of_lt_of_le (h.lt g hg) hv.size, h.ge, h.len⟩
theorem RmP.below (h : RmP w B m V a b c L) (hb : Below w.heap.size w w') : RmP w' B m V a b c L := h.vol (U := fun _ => False) (Vol.of_below hb) (fun _ _ => id)
theorem key_eql (w : World) (f t f' t' : ByteArray) : (binOp .eql 46 (.agg #[.string f, .string t]) (.agg #[.string f', .string t'])).run Try.prog w = .ok (.bool ((f.toList == f'.toList) && (t.toList == t'.toList))) w := by
  rw [run_eql_struct, run_equalIn_agg (P := Try.prog) w 9999 46 _ _ (by kernel_rfl) (by kernel_rfl)]
  have hk : (Try.prog.fieldsOf 46).toList.map (fun x => (decide (x.name = "_"), x.offset, x.type)) = [(false, 0, 9), (false, 1, 9)] := by kernel_rfl
  generalize (Try.prog.fieldsOf 46).toList = l at hk ⊢
  rcases l with _ | ⟨x, _ | ⟨y, _ | ⟨z, r⟩⟩⟩
  · simp at hk
  · simp at hk
  · simp only [List.map_cons, List.map_nil, List.cons.injEq, Prod.mk.injEq, and_true] at hk
    obtain ⟨⟨n1, h1, h2⟩, n2, h3, h4⟩ := hk
    have n1' := of_decide_eq_false n1
    have n2' := of_decide_eq_false n2
    have hpk : Try.prog.plainKey 9 = true := by kernel_rfl
    have hus := Try.underlying9
    unfold Op.eqFields
    rw [if_pos n1', h1, h2, Sem.run_bind, run_part_plain _ hpk (v := .string f) rfl, Result.andThen_ok, Sem.run_bind, run_part_plain _ hpk (v := .string f') rfl, Result.andThen_ok, Sem.run_bind, run_equalIn_string w _ _ f f' hus, Result.andThen_ok]
    unfold Op.eqFields
    rw [if_pos n2', h3, h4]
    cases hf : (f.toList == f'.toList)
    · simp [Sem.run_pure]
    · simp only [Bool.not_true, Bool.false_eq_true, if_false, Sem.run_bind, Bool.true_and]
      rw [run_part_plain _ hpk (v := .string t) rfl, Result.andThen_ok, run_part_plain _ hpk (v := .string t') rfl, Result.andThen_ok, run_equalIn_string w _ _ t t' hus, Result.andThen_ok]
      unfold Op.eqFields
      cases ht : (t.toList == t'.toList) <;> simp [Sem.run_pure]
  · simp at hk
set_option maxHeartbeats 8000000 in
theorem At_yes (h : RmP w B m V a b c L) {k : Nat} {x : Rk} (hk : L[k]? = some x) (hx : rsame f t x = true) (hf : ∀ (j : Nat) (y : Rk), L[j]? = some y → j < k → rsame f t y = false) :
    Calls Try.prog 51 #[.pointer (some ⟨m, 0, none⟩), .agg #[.string f, .string t]] w fun r w' => r = .returned (.int .i64 k) ∧ Below w.heap.size w w' := by
  have heq := key_eql
  have heg : Try.prog.eqGuardType Try.prog.depth 46 = false := by kernel_rfl
  obtain ⟨W, hW⟩ : ∃ W, W = w.alloc (.cells #[.string f, .string t] 46) := ⟨_, rfl⟩
  have hb : Below w.heap.size w W := by rw [hW]; exact (Below.refl _ _).alloc (Nat.le_refl _) _
  have hM := h.below hb
  have hk9 := Blk.new w 46 #[.string f, .string t]
  rw [← hW] at hk9
  have hlt9 := hk9.lt
  obtain ⟨A, ca, rfl, hc, -⟩ := own_slice h.ks
  have h0 : W.cell? ⟨m, 0, none⟩ = some (.slice A L.length ca) := hM.blk.cell 0
  have hl := h.len
  have hkl := (List.getElem?_eq_some_iff.1 hk).1
  obtain ⟨u, rfl⟩ := own_some h.ks (by omega)
  obtain ⟨N, hN⟩ : ∃ N, N = L.length := ⟨_, rfl⟩
  rw [← hN] at h0 hl hc hkl
  have hrow := hM.ks
  rw [← hN] at hrow
  have HR := Lib.hid hrow
  have HN := Lib.hid hN
  have HK := Lib.hid (And.intro hk (And.intro hx hf))
  have HW := Lib.hid hW
  have HB := Lib.hid hb
  have HK9 := Lib.hid hk9
  obtain ⟨gk, egk⟩ : ∃ g, g = w.heap.size := ⟨_, rfl⟩
  have HG := Lib.hid egk
  clear h hN hk hx hf hrow hM hW hb hk9 hlt9 egk
  go_enter Try.func51, Try.ntmps51
  go_upto_region 1 with fail
  rw [← HW.out]
  rw [← HG.out]
  go_wp2_with fail
  go_loopw [12] (fun i wr => Hid (∃ j : Nat, i = .int .i64 j ∧ j ≤ k ∧ Below W.heap.size W wr ∧ wr.cell? ⟨gk, 0, none⟩ = some (.string f) ∧ wr.cell? ⟨gk, 1, none⟩ = some (.string t) ∧ ∃ w7, w7 = wr)) (fun i _ => N - (intOf i).toNat)
  case atStart => exact Lib.hid ⟨0, rfl, by omega, Below.refl _ _, by rw [HG.out]; exact HK9.out.cell 0, by rw [HG.out]; exact HK9.out.cell 1, _, rfl⟩
  case round =>
    obtain ⟨j, rfl, hj, hb, x0, x1, w7, hw7⟩ := hrel.out
    subst hw7
    have HB7 := Lib.hid hb
    have hrow7 := own_keep HR.out hb
    clear hrel hb
    have hlt : (j : Int) < (N : Int) := by omega
    obtain ⟨y, hy⟩ : ∃ y, L[j]? = some y := ⟨L[j]'(by have := HN.out; omega), List.getElem?_eq_getElem _⟩
    have cc : ∀ m, m < 2 → w7.cell? ⟨u, j * 2 + m, none⟩ = (rkC y)[m]? := fun m hm => (hrow7.cellAt (j * 2 + m) (by omega)).trans (rkV_get L j y hy m hm)
    have c0 : w7.cell? ⟨u, j * 2, none⟩ = some (.string y.f) := cc 0 (by omega)
    have c1 : w7.cell? ⟨u, j * 2 + 1, none⟩ = some (.string y.t) := cc 1 (by omega)
    have hsame : Hid (j = k → rsame f t y = true) := Lib.hid fun q => by
      subst q
      have h1 := HK.out.1
      rw [hy] at h1
      injection h1 with h1
      rw [h1]
      exact HK.out.2.1
    have hoth : Hid (j ≠ k → rsame f t y = false) := Lib.hid fun q => HK.out.2.2 j y hy (by omega)
    clear cc hrow7 hy
    obtain ⟨yf, yt, ys, yv, yn⟩ := y
    simp only at c0 c1
    unfold rsame at hsame hoth
    simp only at hsame hoth
    have y0 := cell_keep x0 ((Below.refl _ _).alloc (Nat.le_refl _) (.cells #[.string yf, .string yt] 46))
    have y1 := cell_keep x1 ((Below.refl _ _).alloc (Nat.le_refl _) (.cells #[.string yf, .string yt] 46))
    have X0 := Lib.hid x0
    have X1 := Lib.hid x1
    clear x0 x1
    cases hf : (yf.toList == f.toList) with
    | false =>
      have hjk : j ≠ k := fun q => by have := hsame.out q; rw [hf] at this; simp at this
      go_wp2_with fail
      refine ⟨?_, by simp [intOf]; omega⟩
      exact Lib.hid ⟨j + 1, by simp, by omega, HB7.out.alloc HB7.out.size _, y0, y1, _, rfl⟩
    | true =>
      cases ht : (yt.toList == t.toList) with
      | false =>
        have hjk : j ≠ k := fun q => by have := hsame.out q; rw [ht, Bool.and_false] at this; simp at this
        go_wp2_with fail
        refine ⟨?_, by simp [intOf]; omega⟩
        exact Lib.hid ⟨j + 1, by simp, by omega, HB7.out.alloc HB7.out.size _, y0, y1, _, rfl⟩
      | true =>
        have hjk : Hid (j = k) := Lib.hid (by
          by_cases q : j = k
          · exact q
          · have := hoth.out q
            rw [hf, ht] at this
            simp at this)
        go_wp2_with fail
        go_ret
        have q := hjk.out
        subst q
        exact ⟨rfl, HB.out.trans ((HB7.out.alloc HB7.out.size _).mono HB.out.size)⟩
set_option maxHeartbeats 8000000 in
theorem At_no (h : RmP w B m V a b c L) (hf : ∀ (j : Nat) (y : Rk), L[j]? = some y → rsame f t y = false) :
    Calls Try.prog 51 #[.pointer (some ⟨m, 0, none⟩), .agg #[.string f, .string t]] w fun r w' => r = .returned (.int .i64 (-1)) ∧ Below w.heap.size w w' := by
  have heq := key_eql
  have heg : Try.prog.eqGuardType Try.prog.depth 46 = false := by kernel_rfl
  obtain ⟨W, hW⟩ : ∃ W, W = w.alloc (.cells #[.string f, .string t] 46) := ⟨_, rfl⟩
  have hb : Below w.heap.size w W := by rw [hW]; exact (Below.refl _ _).alloc (Nat.le_refl _) _
  have hM := h.below hb
  have hk9 := Blk.new w 46 #[.string f, .string t]
  rw [← hW] at hk9
  have hlt9 := hk9.lt
  obtain ⟨A, ca, rfl, hc, -⟩ := own_slice h.ks
  have h0 : W.cell? ⟨m, 0, none⟩ = some (.slice A L.length ca) := hM.blk.cell 0
  have hl := h.len
  obtain ⟨N, hN⟩ : ∃ N, N = L.length := ⟨_, rfl⟩
  rw [← hN] at h0 hl hc
  have hrow := hM.ks
  rw [← hN] at hrow
  have HR := Lib.hid hrow
  have HN := Lib.hid hN
  have HK := Lib.hid hf
  have HW := Lib.hid hW
  have HB := Lib.hid hb
  have HK9 := Lib.hid hk9
  obtain ⟨gk, egk⟩ : ∃ g, g = w.heap.size := ⟨_, rfl⟩
  have HG := Lib.hid egk
  clear h hN hf hrow hM hW hb hk9 hlt9 egk
  go_enter Try.func51, Try.ntmps51
  go_upto_region 1 with fail
  rw [← HW.out]
  rw [← HG.out]
  go_wp2_with fail
  go_loopw [12] (fun i wr => Hid (∃ j : Nat, i = .int .i64 j ∧ j ≤ N ∧ Below W.heap.size W wr ∧ wr.cell? ⟨gk, 0, none⟩ = some (.string f) ∧ wr.cell? ⟨gk, 1, none⟩ = some (.string t) ∧ ∃ w7, w7 = wr)) (fun i _ => N - (intOf i).toNat)
  case atStart => exact Lib.hid ⟨0, rfl, by omega, Below.refl _ _, by rw [HG.out]; exact HK9.out.cell 0, by rw [HG.out]; exact HK9.out.cell 1, _, rfl⟩
  case round =>
    obtain ⟨j, rfl, hj, hb, x0, x1, w7, hw7⟩ := hrel.out
    subst hw7
    have HB7 := Lib.hid hb
    have hrow7 := own_keep HR.out hb
    clear hrel hb
    by_cases hlt : (j : Int) < (N : Int)
    · obtain ⟨u, rfl⟩ := own_some HR.out (by omega)
      obtain ⟨y, hy⟩ : ∃ y, L[j]? = some y := ⟨L[j]'(by have := HN.out; omega), List.getElem?_eq_getElem _⟩
      have cc : ∀ m, m < 2 → w7.cell? ⟨u, j * 2 + m, none⟩ = (rkC y)[m]? := fun m hm => (hrow7.cellAt (j * 2 + m) (by omega)).trans (rkV_get L j y hy m hm)
      have c0 : w7.cell? ⟨u, j * 2, none⟩ = some (.string y.f) := cc 0 (by omega)
      have c1 : w7.cell? ⟨u, j * 2 + 1, none⟩ = some (.string y.t) := cc 1 (by omega)
      have hoth : Hid (rsame f t y = false) := Lib.hid (HK.out j y hy)
      clear cc hrow7 hy
      obtain ⟨yf, yt, ys, yv, yn⟩ := y
      simp only at c0 c1
      unfold rsame at hoth
      simp only at hoth
      have y0 := cell_keep x0 ((Below.refl _ _).alloc (Nat.le_refl _) (.cells #[.string yf, .string yt] 46))
      have y1 := cell_keep x1 ((Below.refl _ _).alloc (Nat.le_refl _) (.cells #[.string yf, .string yt] 46))
      have X0 := Lib.hid x0
      have X1 := Lib.hid x1
      clear x0 x1
      cases hf : (yf.toList == f.toList) with
      | false =>
        go_wp2_with fail
        refine ⟨?_, by simp [intOf]; omega⟩
        exact Lib.hid ⟨j + 1, by simp, by omega, HB7.out.alloc HB7.out.size _, y0, y1, _, rfl⟩
      | true =>
        cases ht : (yt.toList == t.toList) with
        | false =>
          go_wp2_with fail
          refine ⟨?_, by simp [intOf]; omega⟩
          exact Lib.hid ⟨j + 1, by simp, by omega, HB7.out.alloc HB7.out.size _, y0, y1, _, rfl⟩
        | true =>
          exfalso
          have := hoth.out
          rw [hf, ht] at this
          simp at this
    · clear hrow7
      go_wp2_with fail
      go_ret
      exact ⟨rfl, HB.out.trans (HB7.out.mono HB.out.size)⟩
end
end Go.Proofs.Ytiflhfhonhbcpaa.Mas
