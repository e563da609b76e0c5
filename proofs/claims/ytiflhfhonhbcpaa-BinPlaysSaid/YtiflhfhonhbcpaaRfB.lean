/- The plain bin: Add, Take. -/
import Derived.Test.YtiflhfhonhbcpaaBinP
import Derived.Test.YtiflhfhonhbcpaaBinQ
namespace Go.Proofs.Ytiflhfhonhbcpaa.Bin
open Go Go.RowKit Go.Proofs.Ytiflhfhonhbcpaa Go.Proofs.Ytiflhfhonhbcpaa.Crw Go.Proofs.Ytiflhfhonhbcpaa.Mas Go.ChangeShapes Go.WideShapes Go.ChangeAt
set_option linter.unusedVariables false
set_option maxRecDepth 100000
theorem rbx_info : (Try.prog.info? 129).map (fun i => (i.zero, i.size, i.bytes)) = some (some bxZ, 4, 48) := by kernel_rfl
structure RbP (w : World) (B b : Nat) (v : Value) (L : List Bx) : Prop where
  blk : Blk w b 77 #[v]
  row : w.ownsRow B 129 4 v L.length (bxV L)
  ge : B ≤ b
  len : L.length ≤ 100
section
variable {w w' : World} {B b : Nat} {v : Value} {L : List Bx} {f e : ByteArray} {n s : Int}
theorem RbP.below (h : RbP w B b v L) (hb : Below w.heap.size w w') : RbP w' B b v L := ⟨h.blk.below hb h.blk.lt, own_keep h.row hb, h.ge, h.len⟩
theorem RbP.vol {U : Nat → Prop} (h : RbP w B b v L) (hv : Vol U w w') (h1 : ¬ U b) (h2 : ∀ q, v.ownBlock = some q → ¬ U q) : RbP w' B b v L := ⟨blk_vol h.blk hv h1, own_vol h.row hv h2, h.ge, h.len⟩
set_option maxHeartbeats 8000000 in
theorem RAdd_there (h : RbP w B b v L) {k : Nat} {x : Bx} (hk : L[k]? = some x) (hx : hit f e n x = true) (hf : ∀ (j : Nat) (y : Bx), L[j]? = some y → j < k → hit f e n y = false) :
    Calls Try.prog 37 #[.pointer (some ⟨b, 0, none⟩), .string f, .string e, .int .i64 n, .int .i64 s] w fun r w' => r = .returned (.bool false) ∧ Below w.heap.size w w' := by
  obtain ⟨A, c, rfl, hc, -⟩ := own_slice h.row
  have h0 : w.cell? ⟨b, 0, none⟩ = some (.slice A L.length c) := h.blk.cell 0
  have hl := h.len
  have hkl := (List.getElem?_eq_some_iff.1 hk).1
  obtain ⟨u, rfl⟩ := own_some h.row (by omega)
  obtain ⟨N, hN⟩ : ∃ N, N = L.length := ⟨_, rfl⟩
  rw [← hN] at h0 hl hc hkl
  have hrow := h.row
  rw [← hN] at hrow
  have HR := Lib.hid hrow
  have HN := Lib.hid hN
  have HK := Lib.hid (And.intro hk (And.intro hx hf))
  clear h hN hk hx hf hrow
  go_enter Try.func37, Try.ntmps37
  go_wp2_with fail
  go_loopw [18] (fun i wr => Hid (∃ j : Nat, i = .int .i64 j ∧ j ≤ k ∧ Below w.heap.size w wr ∧ ∃ w7, w7 = wr)) (fun i _ => N - (intOf i).toNat)
  case atStart => exact Lib.hid ⟨0, rfl, by omega, Below.refl _ _, _, rfl⟩
  case round =>
    obtain ⟨j, rfl, hj, hb, w7, hw7⟩ := hrel.out
    subst hw7
    have HB := Lib.hid hb
    have hrow7 := own_keep HR.out hb
    clear hrel hb
    have hlt : (j : Int) < (N : Int) := by omega
    obtain ⟨y, hy⟩ : ∃ y, L[j]? = some y := ⟨L[j]'(by have := HN.out; omega), List.getElem?_eq_getElem _⟩
    have cc : ∀ m, m < 4 → w7.cell? ⟨u, j * 4 + m, none⟩ = (bxC y)[m]? := fun m hm => (hrow7.cellAt (j * 4 + m) (by omega)).trans (bxV_get L j y hy m hm)
    have c0 : w7.cell? ⟨u, j * 4, none⟩ = some (.string y.f) := cc 0 (by omega)
    have c1 : w7.cell? ⟨u, j * 4 + 1, none⟩ = some (.string y.e) := cc 1 (by omega)
    have c2 : w7.cell? ⟨u, j * 4 + 2, none⟩ = some (.int .i64 y.n) := cc 2 (by omega)
    have c3 : w7.cell? ⟨u, j * 4 + 3, none⟩ = some (.int .i64 y.s) := cc 3 (by omega)
    have hsame : Hid (j = k → hit f e n y = true) := Lib.hid fun q => by
      subst q
      have h1 := HK.out.1
      rw [hy] at h1
      injection h1 with h1
      rw [h1]
      exact HK.out.2.1
    have hoth : Hid (j ≠ k → hit f e n y = false) := Lib.hid fun q => HK.out.2.2 j y hy (by omega)
    clear cc hrow7 hy
    obtain ⟨yf, ye, yn, ys⟩ := y
    simp only at c0 c1 c2 c3
    unfold hit at hsame hoth
    simp only at hsame hoth
    cases hf : (yf.toList == f.toList) with
    | false =>
      have hjk : j ≠ k := fun q => by have := hsame.out q; rw [hf] at this; simp at this
      go_wp2_with fail
      refine ⟨?_, by simp [intOf]; omega⟩
      exact Lib.hid ⟨j + 1, by simp, by omega, HB.out.alloc HB.out.size _, _, rfl⟩
    | true =>
      cases he : (ye.toList == e.toList) with
      | false =>
        have hjk : j ≠ k := fun q => by have := hsame.out q; rw [he, Bool.false_and, Bool.and_false] at this; simp at this
        go_wp2_with fail
        refine ⟨?_, by simp [intOf]; omega⟩
        exact Lib.hid ⟨j + 1, by simp, by omega, HB.out.alloc HB.out.size _, _, rfl⟩
      | true =>
        cases hn : (yn == n) with
        | false =>
          have hjk : j ≠ k := fun q => by have := hsame.out q; rw [hn, Bool.and_false, Bool.and_false] at this; simp at this
          go_wp2_with fail
          refine ⟨?_, by simp [intOf]; omega⟩
          exact Lib.hid ⟨j + 1, by simp, by omega, HB.out.alloc HB.out.size _, _, rfl⟩
        | true =>
          have hjk : Hid (j = k) := Lib.hid (by
            by_cases q : j = k
            · exact q
            · have := hoth.out q
              rw [hf, he, hn] at this
              simp at this)
          go_wp2_with fail
          go_ret
          have q := hjk.out
          subst q
          exact ⟨rfl, HB.out.alloc HB.out.size _⟩
set_option maxHeartbeats 8000000 in
theorem RTake_no (h : RbP w B b v L) (hf : ∀ (j : Nat) (y : Bx), L[j]? = some y → hit f e n y = false) :
    Calls Try.prog 38 #[.pointer (some ⟨b, 0, none⟩), .string f, .string e, .int .i64 n] w fun r w' => r = .returned (.bool false) ∧ Below w.heap.size w w' := by
  obtain ⟨A, c, rfl, hc, -⟩ := own_slice h.row
  have h0 : w.cell? ⟨b, 0, none⟩ = some (.slice A L.length c) := h.blk.cell 0
  have hl := h.len
  obtain ⟨N, hN⟩ : ∃ N, N = L.length := ⟨_, rfl⟩
  rw [← hN] at h0 hl hc
  have hrow := h.row
  rw [← hN] at hrow
  have HR := Lib.hid hrow
  have HN := Lib.hid hN
  have HK := Lib.hid hf
  clear h hN hf hrow
  go_enter Try.func38, Try.ntmps38
  go_wp2_with fail
  go_loopw [16] (fun i wr => Hid (∃ j : Nat, i = .int .i64 j ∧ j ≤ N ∧ Below w.heap.size w wr ∧ ∃ w7, w7 = wr)) (fun i _ => N - (intOf i).toNat)
  case atStart => exact Lib.hid ⟨0, rfl, by omega, Below.refl _ _, _, rfl⟩
  case round =>
    obtain ⟨j, rfl, hj, hb, w7, hw7⟩ := hrel.out
    subst hw7
    have HB := Lib.hid hb
    have hrow7 := own_keep HR.out hb
    clear hrel hb
    by_cases hlt : (j : Int) < (N : Int)
    · obtain ⟨u, rfl⟩ := own_some HR.out (by omega)
      obtain ⟨y, hy⟩ : ∃ y, L[j]? = some y := ⟨L[j]'(by have := HN.out; omega), List.getElem?_eq_getElem _⟩
      have cc : ∀ m, m < 4 → w7.cell? ⟨u, j * 4 + m, none⟩ = (bxC y)[m]? := fun m hm => (hrow7.cellAt (j * 4 + m) (by omega)).trans (bxV_get L j y hy m hm)
      have c0 : w7.cell? ⟨u, j * 4, none⟩ = some (.string y.f) := cc 0 (by omega)
      have c1 : w7.cell? ⟨u, j * 4 + 1, none⟩ = some (.string y.e) := cc 1 (by omega)
      have c2 : w7.cell? ⟨u, j * 4 + 2, none⟩ = some (.int .i64 y.n) := cc 2 (by omega)
      have c3 : w7.cell? ⟨u, j * 4 + 3, none⟩ = some (.int .i64 y.s) := cc 3 (by omega)
      have hoth : Hid (hit f e n y = false) := Lib.hid (HK.out j y hy)
      clear cc hrow7 hy
      obtain ⟨yf, ye, yn, ys⟩ := y
      simp only at c0 c1 c2 c3
      unfold hit at hoth
      simp only at hoth
      cases hf : (yf.toList == f.toList) with
      | false =>
        go_wp2_with fail
        refine ⟨?_, by simp [intOf]; omega⟩
        exact Lib.hid ⟨j + 1, by simp, by omega, HB.out.alloc HB.out.size _, _, rfl⟩
      | true =>
        cases he : (ye.toList == e.toList) with
        | false =>
          go_wp2_with fail
          refine ⟨?_, by simp [intOf]; omega⟩
          exact Lib.hid ⟨j + 1, by simp, by omega, HB.out.alloc HB.out.size _, _, rfl⟩
        | true =>
          cases hn : (yn == n) with
          | false =>
            go_wp2_with fail
            refine ⟨?_, by simp [intOf]; omega⟩
            exact Lib.hid ⟨j + 1, by simp, by omega, HB.out.alloc HB.out.size _, _, rfl⟩
          | true =>
            exfalso
            have := hoth.out
            rw [hf, he, hn] at this
            simp at this
    · clear hrow7
      go_wp2_with fail
      go_ret
      exact ⟨rfl, HB.out⟩
set_option maxHeartbeats 8000000 in
theorem RAdd_new (h : RbP w B b v L) (hf : ∀ (j : Nat) (y : Bx), L[j]? = some y → hit f e n y = false) (hl9 : L.length < 100) :
    Calls Try.prog 37 #[.pointer (some ⟨b, 0, none⟩), .string f, .string e, .int .i64 n, .int .i64 s] w fun r w' => r = .returned (.bool true) ∧ ∃ v', RbP w' B b v' (L ++ [⟨f, e, n, s⟩]) ∧ Vol (OwnB b v) w w' ∧ (∀ q, v'.ownBlock = some q → v.ownBlock = some q ∨ w.heap.size ≤ q) := by
  obtain ⟨i0, hi0, hz0, hz1, hz2⟩ := info_parts rbx_info
  obtain ⟨A, c, rfl, hc, -⟩ := own_slice h.row
  have h0 : w.cell? ⟨b, 0, none⟩ = some (.slice A L.length c) := h.blk.cell 0
  have hl := h.len
  obtain ⟨N, hN⟩ : ∃ N, N = L.length := ⟨_, rfl⟩
  rw [← hN] at h0 hl hc hl9
  have hrow := h.row
  rw [← hN] at hrow
  have HR := Lib.hid hrow
  have HN := Lib.hid hN
  have HK := Lib.hid hf
  have HH := Lib.hid h
  clear h hN hf hrow
  go_enter Try.func37, Try.ntmps37
  go_wp2_with fail
  go_loopw [18] (fun i wr => Hid (∃ j : Nat, i = .int .i64 j ∧ j ≤ N ∧ Below w.heap.size w wr ∧ ∃ w7, w7 = wr)) (fun i _ => N - (intOf i).toNat)
  case atStart => exact Lib.hid ⟨0, rfl, by omega, Below.refl _ _, _, rfl⟩
  case round =>
    obtain ⟨j, rfl, hj, hb, w7, hw7⟩ := hrel.out
    subst hw7
    have HB := Lib.hid hb
    have hrow7 := own_keep HR.out hb
    clear hrel hb
    by_cases hlt : (j : Int) < (N : Int)
    · obtain ⟨u, rfl⟩ := own_some HR.out (by omega)
      obtain ⟨y, hy⟩ : ∃ y, L[j]? = some y := ⟨L[j]'(by have := HN.out; omega), List.getElem?_eq_getElem _⟩
      have cc : ∀ m, m < 4 → w7.cell? ⟨u, j * 4 + m, none⟩ = (bxC y)[m]? := fun m hm => (hrow7.cellAt (j * 4 + m) (by omega)).trans (bxV_get L j y hy m hm)
      have c0 : w7.cell? ⟨u, j * 4, none⟩ = some (.string y.f) := cc 0 (by omega)
      have c1 : w7.cell? ⟨u, j * 4 + 1, none⟩ = some (.string y.e) := cc 1 (by omega)
      have c2 : w7.cell? ⟨u, j * 4 + 2, none⟩ = some (.int .i64 y.n) := cc 2 (by omega)
      have c3 : w7.cell? ⟨u, j * 4 + 3, none⟩ = some (.int .i64 y.s) := cc 3 (by omega)
      have hoth : Hid (hit f e n y = false) := Lib.hid (HK.out j y hy)
      clear cc hrow7 hy
      obtain ⟨yf, ye, yn, ys⟩ := y
      simp only at c0 c1 c2 c3
      unfold hit at hoth
      simp only at hoth
      cases hf : (yf.toList == f.toList) with
      | false =>
        go_wp2_with fail
        refine ⟨?_, by simp [intOf]; omega⟩
        exact Lib.hid ⟨j + 1, by simp, by omega, HB.out.alloc HB.out.size _, _, rfl⟩
      | true =>
        cases he : (ye.toList == e.toList) with
        | false =>
          go_wp2_with fail
          refine ⟨?_, by simp [intOf]; omega⟩
          exact Lib.hid ⟨j + 1, by simp, by omega, HB.out.alloc HB.out.size _, _, rfl⟩
        | true =>
          cases hn : (yn == n) with
          | false =>
            go_wp2_with fail
            refine ⟨?_, by simp [intOf]; omega⟩
            exact Lib.hid ⟨j + 1, by simp, by omega, HB.out.alloc HB.out.size _, _, rfl⟩
          | true =>
            exfalso
            have := hoth.out
            rw [hf, he, hn] at this
            simp at this
    · have h7 := HH.out.below HB.out
      have c70 : w7.cell? ⟨b, 0, none⟩ = some (.slice A N c) := by rw [HN.out]; exact h7.blk.cell 0
      have H7 := Lib.hid h7
      have HR7 := Lib.hid hrow7
      clear hrow7 h7
      go_wp2_with (at_builtin; refine wpList_append_any _ rfl _ _ 75 rfl B 129 i0 bxZ 4 48 Try.underlying75 hi0 hz0 hz1 hz2 rfl (by decide) _ _ (bxV L) rfl (HR7.out.alloc (.cells #[.string f, .string e, .int .i64 n, .int .i64 s] 129)) (w7.alloc (.cells #[.string f, .string e, .int .i64 n, .int .i64 s] 129)).heap.size (some ⟨w7.heap.size, 0, none⟩) 1 1 [.string f, .string e, .int .i64 n, .int .i64 s] rfl (reads_blk (z := 4) (Blk.new w7 129 #[.string f, .string e, .int .i64 n, .int .i64 s]) rfl) (bxV_one [⟨f, e, n, s⟩]) (by simp only [maxLen]; omega) (by omega) (by have := H7.out.ge; have := H7.out.blk.lt; simp; omega) ?_; intro v9 w9 hown9 hg9 hn9; obtain ⟨A9, c9, rfl, -, -⟩ := own_slice hown9; have hb9 := (H7.out.blk.alloc (.cells #[.string f, .string e, .int .i64 n, .int .i64 s] 129)).grown hg9 (fun e9 => own_blk_ne (HR7.out.alloc (.cells #[.string f, .string e, .int .i64 n, .int .i64 s] 129)) (H7.out.blk.alloc (.cells #[.string f, .string e, .int .i64 n, .int .i64 s] 129)) (by decide) e9.symm); have f9 := hb9.frozen 0; have c90 : w9.cell? ⟨b, 0, none⟩ = some (.slice A N c) := (by rw [HN.out]; exact hb9.cell 0); have HX := Lib.hid (And.intro hown9 (And.intro hg9 (And.intro hn9 hb9))); clear hown9 hg9 hn9 hb9)
      go_ret
      obtain ⟨hown9, hg9, hn9, hb9⟩ := HX.out
      have hg9 : (w7.alloc (.cells #[.string f, .string e, .int .i64 n, .int .i64 s] 129)).grownBy w9 (Value.slice A N c).ownBlock := hg9
      have hn9 : (Value.slice A9 (N + 1) c9).ownBlock = (Value.slice A N c).ownBlock ∨ (Value.slice A9 (N + 1) c9).ownBlock = some (w7.alloc (.cells #[.string f, .string e, .int .i64 n, .int .i64 s] 129)).heap.size := hn9
      refine ⟨rfl, .slice A9 (N + 1) c9, ⟨by simpa using hb9.set_ 0 (.slice A9 (N + 1) c9), ?_, HH.out.ge, by simp; have := HN.out; omega⟩, ?_, fun q e9 => ?_⟩
      · rw [List.length_append, ← HN.out, bxV_append]
        exact own_far hown9 hb9 (by decide)
      · exact (((Vol.of_below HB.out).alloc _).grown hg9 (fun k hk => .inl (.inr (by rw [← HN.out]; exact hk)))).setCell (.inl (.inl rfl)) _
      · have hs := HB.out.size
        rcases hn9 with h | h
        · left; rw [← HN.out, ← h]; exact e9
        · right
          rw [h] at e9
          injection e9 with e9
          subst e9
          simp
          omega
set_option maxHeartbeats 8000000 in
theorem RTake_yes (h : RbP w B b v L) {k : Nat} {x : Bx} (hk : L[k]? = some x) (hx : hit f e n x = true) (hf : ∀ (j : Nat) (y : Bx), L[j]? = some y → j < k → hit f e n y = false) :
    Calls Try.prog 38 #[.pointer (some ⟨b, 0, none⟩), .string f, .string e, .int .i64 n] w fun r w' => r = .returned (.bool true) ∧ ∃ v', RbP w' B b v' (L.eraseIdx k) ∧ Vol (fun q => q = b) w w' ∧ (∀ q, v'.ownBlock = some q → w.heap.size ≤ q) := by
  obtain ⟨i0, hi0, hz0, hz1, hz2⟩ := info_parts rbx_info
  obtain ⟨A, c, rfl, hc, -⟩ := own_slice h.row
  have h0 : w.cell? ⟨b, 0, none⟩ = some (.slice A L.length c) := h.blk.cell 0
  have hl := h.len
  have hkl := (List.getElem?_eq_some_iff.1 hk).1
  obtain ⟨u, rfl⟩ := own_some h.row (by omega)
  obtain ⟨N, hN⟩ : ∃ N, N = L.length := ⟨_, rfl⟩
  rw [← hN] at h0 hl hc hkl
  have hrow := h.row
  rw [← hN] at hrow
  have HR := Lib.hid hrow
  have HN := Lib.hid hN
  have HK := Lib.hid (And.intro hk (And.intro hx hf))
  have HH := Lib.hid h
  clear h hN hk hx hf hrow
  go_enter Try.func38, Try.ntmps38
  go_wp2_with fail
  go_loopw [16] (fun i wr => Hid (∃ j : Nat, i = .int .i64 j ∧ j ≤ k ∧ Below w.heap.size w wr ∧ ∃ w7, w7 = wr)) (fun i _ => N - (intOf i).toNat)
  case atStart => exact Lib.hid ⟨0, rfl, by omega, Below.refl _ _, _, rfl⟩
  case round =>
    obtain ⟨j, rfl, hj, hb, w7, hw7⟩ := hrel.out
    subst hw7
    have HB := Lib.hid hb
    have hrow7 := own_keep HR.out hb
    clear hrel hb
    have hlt : (j : Int) < (N : Int) := by omega
    obtain ⟨y, hy⟩ : ∃ y, L[j]? = some y := ⟨L[j]'(by have := HN.out; omega), List.getElem?_eq_getElem _⟩
    have cc : ∀ m, m < 4 → w7.cell? ⟨u, j * 4 + m, none⟩ = (bxC y)[m]? := fun m hm => (hrow7.cellAt (j * 4 + m) (by omega)).trans (bxV_get L j y hy m hm)
    have c0 : w7.cell? ⟨u, j * 4, none⟩ = some (.string y.f) := cc 0 (by omega)
    have c1 : w7.cell? ⟨u, j * 4 + 1, none⟩ = some (.string y.e) := cc 1 (by omega)
    have c2 : w7.cell? ⟨u, j * 4 + 2, none⟩ = some (.int .i64 y.n) := cc 2 (by omega)
    have c3 : w7.cell? ⟨u, j * 4 + 3, none⟩ = some (.int .i64 y.s) := cc 3 (by omega)
    have hsame : Hid (j = k → hit f e n y = true) := Lib.hid fun q => by
      subst q
      have h1 := HK.out.1
      rw [hy] at h1
      injection h1 with h1
      rw [h1]
      exact HK.out.2.1
    have hoth : Hid (j ≠ k → hit f e n y = false) := Lib.hid fun q => HK.out.2.2 j y hy (by omega)
    clear cc hrow7 hy
    obtain ⟨yf, ye, yn, ys⟩ := y
    simp only at c0 c1 c2 c3
    unfold hit at hsame hoth
    simp only at hsame hoth
    cases hf : (yf.toList == f.toList) with
    | false =>
      have hjk : j ≠ k := fun q => by have := hsame.out q; rw [hf] at this; simp at this
      go_wp2_with fail
      refine ⟨?_, by simp [intOf]; omega⟩
      exact Lib.hid ⟨j + 1, by simp, by omega, HB.out.alloc HB.out.size _, _, rfl⟩
    | true =>
      cases he : (ye.toList == e.toList) with
      | false =>
        have hjk : j ≠ k := fun q => by have := hsame.out q; rw [he, Bool.false_and, Bool.and_false] at this; simp at this
        go_wp2_with fail
        refine ⟨?_, by simp [intOf]; omega⟩
        exact Lib.hid ⟨j + 1, by simp, by omega, HB.out.alloc HB.out.size _, _, rfl⟩
      | true =>
        cases hn : (yn == n) with
        | false =>
          have hjk : j ≠ k := fun q => by have := hsame.out q; rw [hn, Bool.and_false, Bool.and_false] at this; simp at this
          go_wp2_with fail
          refine ⟨?_, by simp [intOf]; omega⟩
          exact Lib.hid ⟨j + 1, by simp, by omega, HB.out.alloc HB.out.size _, _, rfl⟩
        | true =>
          have hjk : Hid (j = k) := Lib.hid (by
            by_cases q : j = k
            · exact q
            · have := hoth.out q
              rw [hf, he, hn] at this
              simp at this)
          go_upto_region 5 with fail
          obtain ⟨w8, hw8⟩ : ∃ w8, w8 = w7.alloc (.cells #[.string yf, .string ye, .int .i64 yn, .int .i64 ys] 129) := ⟨_, rfl⟩
          have hb8 : Below w7.heap.size w7 w8 := by rw [hw8]; exact (Below.refl _ _).alloc (Nat.le_refl _) _
          have hB8 : Below w.heap.size w w8 := HB.out.trans (hb8.mono HB.out.size)
          have h8 := HH.out.below hB8
          have hrow8 := own_keep HR.out hB8
          rw [← hw8]
          have c80 : w8.cell? ⟨b, 0, none⟩ = some (.slice (some ⟨u, 0, none⟩) N c) := by rw [HN.out]; exact h8.blk.cell 0
          have f80 := h8.blk.frozen 0
          have hr1 : Hid (Reads w8 w8.heap.size 4 (some ⟨u, 0, none⟩) j ((bxV L).take (j * 4))) := Lib.hid ((Reads.of_own hrow8).takeZ (by omega))
          have hr2 : Hid (Reads w8 w8.heap.size 4 (if c = j + 1 then some ⟨u, 0, none⟩ else some ⟨u, (j + 1) * 4, none⟩) (N - (j + 1)) ((bxV L).drop ((j + 1) * 4))) := Lib.hid (by
            have h := (Reads.of_own hrow8).cut (k := j + 1) (cap := c) (by omega) hc
            rw [Option.map_some, add_zero_off] at h
            exact h)
          have H8 := Lib.hid h8
          have HB8 := Lib.hid hB8
          have hbb : b < w8.heap.size := h8.blk.lt
          have hge := h8.ge
          clear hw8 hb8 hB8 h8 hrow8 c0 c1 c2 c3 hsame hoth hf he hn
          have z1 : IntKind.i64.wrap ((j : Int) + 1) = (j : Int) + 1 := IntWalk.i64_in _ (by omega)
          have z2 : (0 : Int) ≤ (j : Int) + 1 := by omega
          have z3 : ((j : Int) + 1).toNat = j + 1 := by omega
          have z4 : (0 : Int) ≤ (j : Int) := by omega
          have z5 : (j : Int) ≤ (c : Int) := by omega
          have z6 : (j : Int) + 1 ≤ (N : Int) := by omega
          have z7 : (j : Int) + 1 ≤ (c : Int) := by omega
          go_region_law (first | (refine step_append_any _ rfl (.const (.slice none 0 0)) (.tmp 43) 75 rfl w8.heap.size 129 i0 bxZ 4 48 Try.underlying75 hi0 hz0 hz1 hz2 rfl (by decide) (.slice none 0 0) 0 [] (by simp [Act.eval]) ⟨by simp, .inl ⟨rfl, rfl⟩⟩ w8.heap.size (some ⟨u, 0, none⟩) j c ((bxV L).take (j * 4)) (by first | (simp [Act.eval]; done) | (simp [Act.eval, Act.put]; done)) hr1.out.drew (fun x hx => bxV_one L x (List.mem_of_mem_take hx)) (by simp only [maxLen]; omega) (by omega) (by simp) ?_; intro v13 w13 hown13 hg13 hne13; have c813 : w13.cell? ⟨b, 0, none⟩ = some (.slice (some ⟨u, 0, none⟩) N c) := (World.cell?_of_block (hg13.block b hbb (by simp [Value.ownBlock]))).trans c80) | (refine step_append_any _ rfl (.tmp 44) (.tmp 51) 75 rfl w8.heap.size 129 i0 bxZ 4 48 Try.underlying75 hi0 hz0 hz1 hz2 rfl (by decide) v13 (0 + j) ([] ++ (bxV L).take (j * 4)) (by first | (simp [Act.eval]; done) | (simp [Act.eval, Act.put]; done)) hown13 w8.heap.size (if c = j + 1 then some ⟨u, 0, none⟩ else some ⟨u, (j + 1) * 4, none⟩) (N - (j + 1)) (c - (j + 1)) ((bxV L).drop ((j + 1) * 4)) (by first | (simp [Act.eval]; done) | (simp [Act.eval, Act.put]; done)) (hr2.out.drew.grown hg13 (Nat.le_refl _) (fun q hq => by cases hq)) (fun x hx => bxV_one L x (List.mem_of_mem_drop hx)) (by simp only [maxLen]; omega) (by omega) (by have h2 := hg13.size; simpa using h2) ?_; intro v14 w14 hown14 hg14 hne14; obtain ⟨A14, c14, rfl, -, -⟩ := own_slice hown14; have hbk14 : w14.heap[b]? = w8.heap[b]? := (hg14.block b (Nat.lt_of_lt_of_le hbb hg13.size) (fun e9 => by have := (hown13.lt b e9.symm).1; omega)).trans (hg13.block b hbb (by simp [Value.ownBlock])); have c814 : w14.cell? ⟨b, 0, none⟩ = some (.slice (some ⟨u, 0, none⟩) N c) := (World.cell?_of_block hbk14).trans c80; have f814 : w14.frozen? ⟨b, 0, none⟩ = false := (by unfold World.frozen?; unfold World.frozen? at f80; rw [hbk14]; exact f80)))
          all_goals go_wp2_with fail
          all_goals
            go_ret
            have hB13 : Below w8.heap.size w8 w13 := ⟨hg13.os, hg13.tape, hg13.output, hg13.size, fun q hq => hg13.block q hq (by simp [Value.ownBlock])⟩
            have hB14 : Below w8.heap.size w8 w14 := hB13.grown hg14 hB13.size (fun q hq => (hown13.lt q hq).1)
            have hb14 := H8.out.blk.below hB14 hbb
            have hjL : j < L.length := by have := HN.out; omega
            have ek : k = j := hjk.out.symm
            have hl2 : (L.eraseIdx k).length = N - 1 := by rw [ek, List.length_eraseIdx_of_lt hjL, HN.out]
            refine ⟨rfl, .slice A14 (0 + j + (N - (j + 1))) c14, ⟨by simpa using hb14.set_ 0 (.slice A14 (0 + j + (N - (j + 1))) c14), ?_, HH.out.ge, by rw [hl2]; omega⟩, ?_, fun q e9 => ?_⟩
            · have e1 : bxV (L.eraseIdx k) = [] ++ (bxV L).take (j * 4) ++ (bxV L).drop ((j + 1) * 4) := by rw [ek, List.eraseIdx_eq_take_drop_succ, bxV_append, ← bxV_take, ← bxV_drop, List.nil_append]
              rw [hl2, e1, show N - 1 = 0 + j + (N - (j + 1)) by omega]
              exact own_far (own_down hown14 (Nat.le_trans hge (Nat.le_of_lt hbb))) hb14 (by decide)
            · exact Vol.setCell (V := fun q => q = b) (a := ⟨b, 0, none⟩) ((Vol.of_below HB8.out).below hB14) (.inl rfl) _
            · exact Nat.le_trans HB8.out.size (hown14.lt q e9).1
end
end Go.Proofs.Ytiflhfhonhbcpaa.Bin
