/- A bin in memory: find, Add, Take. -/
import Derived.Test.YtiflhfhonhbcpaaBinD
import Derived.Test.YtiflhfhonhbcpaaMas3
namespace Go.Proofs.Ytiflhfhonhbcpaa.Bin
open Go Go.RowKit Go.Proofs.Ytiflhfhonhbcpaa Go.Proofs.Ytiflhfhonhbcpaa.Crw Go.Proofs.Ytiflhfhonhbcpaa.Mas Go.ChangeShapes Go.WideShapes Go.ChangeAt
set_option linter.unusedVariables false
set_option maxRecDepth 100000
structure Bx where
  f : ByteArray
  e : ByteArray
  n : Int
  s : Int
abbrev bxC (x : Bx) : List Value := [.string x.f, .string x.e, .int .i64 x.n, .int .i64 x.s]
abbrev bxV (L : List Bx) : List Value := L.flatMap bxC
def hit (f e : ByteArray) (n : Int) (x : Bx) : Bool := (x.f.toList == f.toList) && ((x.e.toList == e.toList) && (x.n == n))
theorem bxV_len (L : List Bx) : (bxV L).length = L.length * 4 := by
  induction L with
  | nil => rfl
  | cons a r ih => rw [show bxV (a :: r) = bxC a ++ bxV r by simp [bxV]]; simp [ih]; omega
theorem bxV_one (L : List Bx) : ∀ u ∈ bxV L, u.oneCell' = true := by
  intro u hu
  obtain ⟨r, _, hr⟩ := List.mem_flatMap.1 hu
  simp only [bxC, List.mem_cons, List.not_mem_nil, or_false] at hr
  rcases hr with rfl | rfl | rfl | rfl <;> rfl
theorem bxV_get (L : List Bx) (k : Nat) (x : Bx) (h : L[k]? = some x) (j : Nat) (hj : j < 4) : (bxV L)[k * 4 + j]? = (bxC x)[j]? := by
  induction L generalizing k with
  | nil => simp at h
  | cons a r ih =>
    have e : bxV (a :: r) = bxC a ++ bxV r := by simp [bxV]
    cases k with
    | zero =>
      simp only [List.getElem?_cons_zero, Option.some.injEq] at h
      subst h
      rw [e, Nat.zero_mul, Nat.zero_add, List.getElem?_append_left (by simpa using hj)]
    | succ k =>
      have e2 : (k + 1) * 4 + j = 4 + (k * 4 + j) := by omega
      rw [e, e2, List.getElem?_append_right (by simp), show (bxC a).length = 4 by rfl, Nat.add_sub_cancel_left]
      exact ih k (by simpa using h)
theorem bxV_take (L : List Bx) (k : Nat) : (bxV L).take (k * 4) = bxV (L.take k) := by
  induction L generalizing k with
  | nil => simp
  | cons a r ih =>
    have e : bxV (a :: r) = bxC a ++ bxV r := by simp [bxV]
    cases k with
    | zero => simp
    | succ k =>
      rw [e, show (k + 1) * 4 = 4 + k * 4 by omega, List.take_succ_cons, show bxV (a :: r.take k) = bxC a ++ bxV (r.take k) by simp [bxV], ← ih k]
      rw [show 4 = (bxC a).length by rfl, List.take_length_add_append]
theorem bxV_drop (L : List Bx) (k : Nat) : (bxV L).drop (k * 4) = bxV (L.drop k) := by
  induction L generalizing k with
  | nil => simp
  | cons a r ih =>
    have e : bxV (a :: r) = bxC a ++ bxV r := by simp [bxV]
    cases k with
    | zero => simp
    | succ k =>
      rw [e, show (k + 1) * 4 = 4 + k * 4 by omega, List.drop_succ_cons, ← ih k]
      rw [show 4 = (bxC a).length by rfl, List.drop_length_add_append]
theorem bxV_append (L M : List Bx) : bxV (L ++ M) = bxV L ++ bxV M := by simp [bxV]
structure BnP (w : World) (B b : Nat) (v : Value) (L : List Bx) : Prop where
  blk : Blk w b 122 #[v]
  row : w.ownsRow B 70 4 v L.length (bxV L)
  ge : B ≤ b
  len : L.length ≤ 100
section
variable {w w' : World} {B b : Nat} {v : Value} {L : List Bx} {f e : ByteArray} {n : Int}
theorem BnP.below (h : BnP w B b v L) (hb : Below w.heap.size w w') : BnP w' B b v L := ⟨h.blk.below hb h.blk.lt, own_keep h.row hb, h.ge, h.len⟩
theorem BnP.vol {U : Nat → Prop} (h : BnP w B b v L) (hv : Vol U w w') (h1 : ¬ U b) (h2 : ∀ q, v.ownBlock = some q → ¬ U q) : BnP w' B b v L := ⟨blk_vol h.blk hv h1, own_vol h.row hv h2, h.ge, h.len⟩
set_option maxHeartbeats 8000000 in
theorem find_yes (h : BnP w B b v L) {k : Nat} {x : Bx} (hk : L[k]? = some x) (hx : hit f e n x = true) (hf : ∀ (j : Nat) (y : Bx), L[j]? = some y → j < k → hit f e n y = false) :
    Calls Try.prog 57 #[.pointer (some ⟨b, 0, none⟩), .string f, .string e, .int .i64 n] w fun r w' => r = .returned (.int .i64 k) ∧ Below w.heap.size w w' := by
  obtain ⟨A, c, rfl, hc, -⟩ := own_slice h.row
  have h0 : w.cell? ⟨b, 0, none⟩ = some (.slice A L.length c) := h.blk.cell 0
  have hl := h.len
  have hkl := (List.getElem?_eq_some_iff.1 hk).1
  obtain ⟨u, rfl⟩ := own_some h.row (by omega)
  obtain ⟨N, hN⟩ : ∃ N, N = L.length := ⟨_, rfl⟩
  rw [← hN] at h0 hl hc hkl
  have hrow := h.row
  rw [← hN] at hrow
  have HR := Lib.hid hrow
  have HN := Lib.hid hN
  have HK := Lib.hid (And.intro hk (And.intro hx hf))
  clear h hN hk hx hf hrow
  go_enter Try.func57, Try.ntmps57
  go_wp2_with fail
  go_loopw [16] (fun i wr => Hid (∃ j : Nat, i = .int .i64 j ∧ j ≤ k ∧ Below w.heap.size w wr ∧ ∃ w7, w7 = wr)) (fun i _ => N - (intOf i).toNat)
  case atStart => exact Lib.hid ⟨0, rfl, by omega, Below.refl _ _, _, rfl⟩
  case round =>
    obtain ⟨j, rfl, hj, hb, w7, hw7⟩ := hrel.out
    subst hw7
    have HB := Lib.hid hb
    have hrow7 := own_keep HR.out hb
    clear hrel hb
    have hlt : (j : Int) < (N : Int) := by omega
    obtain ⟨y, hy⟩ : ∃ y, L[j]? = some y := ⟨L[j]'(by have := HN.out; omega), List.getElem?_eq_getElem _⟩
    have cc : ∀ m, m < 4 → w7.cell? ⟨u, j * 4 + m, none⟩ = (bxC y)[m]? := fun m hm => (hrow7.cellAt (j * 4 + m) (by omega)).trans (bxV_get L j y hy m hm)
    have c0 : w7.cell? ⟨u, j * 4, none⟩ = some (.string y.f) := cc 0 (by omega)
    have c1 : w7.cell? ⟨u, j * 4 + 1, none⟩ = some (.string y.e) := cc 1 (by omega)
    have c2 : w7.cell? ⟨u, j * 4 + 2, none⟩ = some (.int .i64 y.n) := cc 2 (by omega)
    have c3 : w7.cell? ⟨u, j * 4 + 3, none⟩ = some (.int .i64 y.s) := cc 3 (by omega)
    have hsame : Hid (j = k → hit f e n y = true) := Lib.hid fun q => by
      subst q
      have h1 := HK.out.1
      rw [hy] at h1
      injection h1 with h1
      rw [h1]
      exact HK.out.2.1
    have hoth : Hid (j ≠ k → hit f e n y = false) := Lib.hid fun q => HK.out.2.2 j y hy (by omega)
    clear cc hrow7 hy
    obtain ⟨yf, ye, yn, ys⟩ := y
    simp only at c0 c1 c2 c3
    unfold hit at hsame hoth
    simp only at hsame hoth
    cases hf : (yf.toList == f.toList) with
    | false =>
      have hjk : j ≠ k := fun q => by have := hsame.out q; rw [hf] at this; simp at this
      go_wp2_with fail
      refine ⟨?_, by simp [intOf]; omega⟩
      exact Lib.hid ⟨j + 1, by simp, by omega, HB.out.alloc HB.out.size _, _, rfl⟩
    | true =>
      cases he : (ye.toList == e.toList) with
      | false =>
        have hjk : j ≠ k := fun q => by have := hsame.out q; rw [he, Bool.false_and, Bool.and_false] at this; simp at this
        go_wp2_with fail
        refine ⟨?_, by simp [intOf]; omega⟩
        exact Lib.hid ⟨j + 1, by simp, by omega, HB.out.alloc HB.out.size _, _, rfl⟩
      | true =>
        cases hn : (yn == n) with
        | false =>
          have hjk : j ≠ k := fun q => by have := hsame.out q; rw [hn, Bool.and_false, Bool.and_false] at this; simp at this
          go_wp2_with fail
          refine ⟨?_, by simp [intOf]; omega⟩
          exact Lib.hid ⟨j + 1, by simp, by omega, HB.out.alloc HB.out.size _, _, rfl⟩
        | true =>
          have hjk : Hid (j = k) := Lib.hid (by
            by_cases q : j = k
            · exact q
            · have := hoth.out q
              rw [hf, he, hn] at this
              simp at this)
          go_wp2_with fail
          go_ret
          have q := hjk.out
          subst q
          exact ⟨rfl, HB.out.alloc HB.out.size _⟩
set_option maxHeartbeats 8000000 in
theorem find_no (h : BnP w B b v L) (hf : ∀ (j : Nat) (y : Bx), L[j]? = some y → hit f e n y = false) :
    Calls Try.prog 57 #[.pointer (some ⟨b, 0, none⟩), .string f, .string e, .int .i64 n] w fun r w' => r = .returned (.int .i64 (-1)) ∧ Below w.heap.size w w' := by
  obtain ⟨A, c, rfl, hc, -⟩ := own_slice h.row
  have h0 : w.cell? ⟨b, 0, none⟩ = some (.slice A L.length c) := h.blk.cell 0
  have hl := h.len
  obtain ⟨N, hN⟩ : ∃ N, N = L.length := ⟨_, rfl⟩
  rw [← hN] at h0 hl hc
  have hrow := h.row
  rw [← hN] at hrow
  have HR := Lib.hid hrow
  have HN := Lib.hid hN
  have HK := Lib.hid hf
  clear h hN hf hrow
  go_enter Try.func57, Try.ntmps57
  go_wp2_with fail
  go_loopw [16] (fun i wr => Hid (∃ j : Nat, i = .int .i64 j ∧ j ≤ N ∧ Below w.heap.size w wr ∧ ∃ w7, w7 = wr)) (fun i _ => N - (intOf i).toNat)
  case atStart => exact Lib.hid ⟨0, rfl, by omega, Below.refl _ _, _, rfl⟩
  case round =>
    obtain ⟨j, rfl, hj, hb, w7, hw7⟩ := hrel.out
    subst hw7
    have HB := Lib.hid hb
    have hrow7 := own_keep HR.out hb
    clear hrel hb
    by_cases hlt : (j : Int) < (N : Int)
    · obtain ⟨u, rfl⟩ := own_some HR.out (by omega)
      obtain ⟨y, hy⟩ : ∃ y, L[j]? = some y := ⟨L[j]'(by have := HN.out; omega), List.getElem?_eq_getElem _⟩
      have cc : ∀ m, m < 4 → w7.cell? ⟨u, j * 4 + m, none⟩ = (bxC y)[m]? := fun m hm => (hrow7.cellAt (j * 4 + m) (by omega)).trans (bxV_get L j y hy m hm)
      have c0 : w7.cell? ⟨u, j * 4, none⟩ = some (.string y.f) := cc 0 (by omega)
      have c1 : w7.cell? ⟨u, j * 4 + 1, none⟩ = some (.string y.e) := cc 1 (by omega)
      have c2 : w7.cell? ⟨u, j * 4 + 2, none⟩ = some (.int .i64 y.n) := cc 2 (by omega)
      have c3 : w7.cell? ⟨u, j * 4 + 3, none⟩ = some (.int .i64 y.s) := cc 3 (by omega)
      have hoth : Hid (hit f e n y = false) := Lib.hid (HK.out j y hy)
      clear cc hrow7 hy
      obtain ⟨yf, ye, yn, ys⟩ := y
      simp only at c0 c1 c2 c3
      unfold hit at hoth
      simp only at hoth
      cases hf : (yf.toList == f.toList) with
      | false =>
        go_wp2_with fail
        refine ⟨?_, by simp [intOf]; omega⟩
        exact Lib.hid ⟨j + 1, by simp, by omega, HB.out.alloc HB.out.size _, _, rfl⟩
      | true =>
        cases he : (ye.toList == e.toList) with
        | false =>
          go_wp2_with fail
          refine ⟨?_, by simp [intOf]; omega⟩
          exact Lib.hid ⟨j + 1, by simp, by omega, HB.out.alloc HB.out.size _, _, rfl⟩
        | true =>
          cases hn : (yn == n) with
          | false =>
            go_wp2_with fail
            refine ⟨?_, by simp [intOf]; omega⟩
            exact Lib.hid ⟨j + 1, by simp, by omega, HB.out.alloc HB.out.size _, _, rfl⟩
          | true =>
            exfalso
            have := hoth.out
            rw [hf, he, hn] at this
            simp at this
    · clear hrow7
      go_wp2_with fail
      go_ret
      exact ⟨rfl, HB.out⟩
end
end Go.Proofs.Ytiflhfhonhbcpaa.Bin
