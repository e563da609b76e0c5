/- A bin in memory: Add, Take. -/
import Derived.Test.YtiflhfhonhbcpaaBinM
namespace Go.Proofs.Ytiflhfhonhbcpaa.Bin
open Go Go.RowKit Go.Proofs.Ytiflhfhonhbcpaa Go.Proofs.Ytiflhfhonhbcpaa.Crw Go.Proofs.Ytiflhfhonhbcpaa.Mas Go.ChangeShapes Go.WideShapes Go.ChangeAt
set_option linter.unusedVariables false
set_option maxRecDepth 100000
def atS (s : Int) (L : List Bx) : Nat → Nat
  | 0 => 0
  | k + 1 => match L[k]? with
    | some x => if s < x.s then atS s L k else k + 1
    | none => k + 1
theorem atS_le (s : Int) (L : List Bx) : ∀ k, atS s L k ≤ k
  | 0 => Nat.le_refl _
  | k + 1 => by
    unfold atS
    split
    · split
      · have := atS_le s L k; omega
      · omega
    · omega
theorem atS_lt {s : Int} {L : List Bx} {m : Nat} {y : Bx} (h : L[m]? = some y) (hs : s < y.s) : atS s L (m + 1) = atS s L m := by
  rw [atS, h]
  simp [hs]
theorem atS_ge {s : Int} {L : List Bx} {m : Nat} {y : Bx} (h : L[m]? = some y) (hs : ¬ s < y.s) : atS s L (m + 1) = m + 1 := by
  rw [atS, h]
  simp [hs]
def insB (x : Bx) (L : List Bx) : List Bx := L.take (atS x.s L L.length) ++ x :: L.drop (atS x.s L L.length)
theorem insB_len (x : Bx) (L : List Bx) : (insB x L).length = L.length + 1 := by
  have := atS_le x.s L L.length
  simp [insB]
  omega
abbrev OwnB (b : Nat) (v : Value) (q : Nat) : Prop := q = b ∨ v.ownBlock = some q
section
variable {w w' : World} {B b : Nat} {v : Value} {L : List Bx} {f e : ByteArray} {n s : Int}
set_option maxHeartbeats 8000000 in
theorem Add_new (h : BnP w B b v L) (hf : ∀ (j : Nat) (y : Bx), L[j]? = some y → hit f e n y = false) (hl : L.length < 100) :
    Calls Try.prog 32 #[.pointer (some ⟨b, 0, none⟩), .string f, .string e, .int .i64 n, .int .i64 s] w fun r w' => r = .returned (.bool true) ∧ ∃ v', BnP w' B b v' (insB ⟨f, e, n, s⟩ L) ∧ Vol (OwnB b v) w w' ∧ (∀ q, v'.ownBlock = some q → v.ownBlock = some q ∨ w.heap.size ≤ q) := by
  have hF := find_no h hf
  obtain ⟨A, c, hv, hc, -⟩ := own_slice h.row
  have HV := Lib.hid hv
  have HH := Lib.hid h
  obtain ⟨N, hN⟩ : ∃ N, N = L.length := ⟨_, rfl⟩
  have HN := Lib.hid hN
  rw [← hN] at hc hl
  clear h hf hv hN
  go_enter Try.func32, Try.ntmps32
  go_upto_region 3 with (go_at_call 57; refine hF.mono ?_; rintro r w1 ⟨rfl, hb1⟩)
  have h1 := HH.out.below hb1
  have HB1 := Lib.hid hb1
  have c0 : w1.cell? ⟨b, 0, none⟩ = some (.slice A N c) := by rw [HN.out, ← HV.out]; exact h1.blk.cell 0
  have H1 := Lib.hid h1
  clear hb1 h1 hF
  go_wp2_with fail
  go_loopw [11] (fun vi wr => Hid (∃ j : Nat, vi = .int .i64 j ∧ j ≤ N ∧ atS s L N = atS s L j ∧ wr = w1)) (fun vi _ => (intOf vi).toNat)
  case atStart => exact Lib.hid ⟨N, rfl, Nat.le_refl _, rfl, rfl⟩
  case round =>
    obtain ⟨j, rfl, hj, hat, rfl⟩ := hrel.out
    clear hrel
    have HAT := Lib.hid hat
    clear hat
    have hrow : wr.ownsRow B 70 4 (.slice A N c) N (bxV L) := by have := H1.out.row; rw [HV.out, ← HN.out] at this; exact this
    have hcase : (j = 0 ∨ ∃ (m : Nat) (y : Bx), j = m + 1 ∧ L[m]? = some y) := by
      cases j with
      | zero => exact .inl rfl
      | succ m => exact .inr ⟨m, L[m]'(by have := HN.out; omega), rfl, List.getElem?_eq_getElem _⟩
    have HROW := Lib.hid hrow
    have hI : ∀ z : Int, z = ((atS s L N : Nat) : Int) → Calls Try.prog 58 #[.slice A N c, .int .i64 z, .slice (some ⟨wr.heap.size, 0, none⟩) 1 1] (wr.alloc (.cells #[.string f, .string e, .int .i64 n, .int .i64 s] 70)) (InsPost B N (atS s L N) (.slice A N c) (bxV L) [.string f, .string e, .int .i64 n, .int .i64 s] (wr.alloc (.cells #[.string f, .string e, .int .i64 n, .int .i64 s] 70))) := fun z hz => by
      rw [hz]
      exact Insert_own _ (HROW.out.alloc _) (atS_le s L N) (by omega) (Blk.new wr _ #[.string f, .string e, .int .i64 n, .int .i64 s]) rfl (bxV_one [⟨f, e, n, s⟩]) (bxV_one L) (by have := H1.out.ge; have := H1.out.blk.lt; simp; omega) (fun e => absurd (HROW.out.lt _ e).2 (Nat.lt_irrefl _))
    have hend : ∀ (A7 : Option Addr) (c7 : Nat) (w3 : World), InsPost B N (atS s L N) (.slice A N c) (bxV L) [.string f, .string e, .int .i64 n, .int .i64 s] (wr.alloc (.cells #[.string f, .string e, .int .i64 n, .int .i64 s] 70)) (.returned (.slice A7 (N + 1) c7)) w3 → ∃ v', BnP (w3.setCell ⟨b, 0, none⟩ (.slice A7 (N + 1) c7)) B b v' (insB ⟨f, e, n, s⟩ L) ∧ Vol (OwnB b v) w (w3.setCell ⟨b, 0, none⟩ (.slice A7 (N + 1) c7)) ∧ (∀ q, v'.ownBlock = some q → v.ownBlock = some q ∨ w.heap.size ≤ q) := by
      rintro A7 c7 w3 ⟨v', hv', hown, hg, hn⟩
      injection hv' with hv'
      subst hv'
      have bb := (H1.out.blk.alloc (.cells #[.string f, .string e, .int .i64 n, .int .i64 s] 70)).grown hg (fun e9 => own_blk_ne (HROW.out.alloc (.cells #[.string f, .string e, .int .i64 n, .int .i64 s] 70)) (H1.out.blk.alloc (.cells #[.string f, .string e, .int .i64 n, .int .i64 s] 70)) (by decide) e9.symm)
      have el : bxV (insB ⟨f, e, n, s⟩ L) = (bxV L).take (atS s L N * 4) ++ [.string f, .string e, .int .i64 n, .int .i64 s] ++ (bxV L).drop (atS s L N * 4) := by
        rw [bxV_take, bxV_drop]
        unfold insB
        rw [show L.take (atS s L L.length) ++ (⟨f, e, n, s⟩ : Bx) :: L.drop (atS s L L.length) = L.take (atS s L L.length) ++ ([⟨f, e, n, s⟩] ++ L.drop (atS s L L.length)) by simp, bxV_append, bxV_append, ← List.append_assoc, ← HN.out]
        rfl
      have hs0 := HB1.out.size
      have hVN : (Value.slice A N c).ownBlock = v.ownBlock := by rw [HN.out, ← HV.out]
      refine ⟨.slice A7 (N + 1) c7, ⟨by simpa using bb.set_ 0 (.slice A7 (N + 1) c7), ?_, HH.out.ge, by rw [insB_len, ← HN.out]; omega⟩, ?_, fun q e => ?_⟩
      · rw [insB_len, ← HN.out, el]
        exact own_far hown bb (by decide)
      · refine ((((Vol.of_below HB1.out).alloc _).grown hg (fun k hk => .inl (.inr (by rw [← hVN]; exact hk))))).setCell (.inl (.inl rfl)) _
      · rcases hn with h | ⟨k, h, hk⟩
        · left; rw [← hVN, ← h]; exact e
        · right
          rw [h] at e
          injection e with e
          subst e
          simp at hk
          omega
    have hkeep : ∀ (A7 : Option Addr) (c7 : Nat) (w3 : World), InsPost B N (atS s L N) (.slice A N c) (bxV L) [.string f, .string e, .int .i64 n, .int .i64 s] (wr.alloc (.cells #[.string f, .string e, .int .i64 n, .int .i64 s] 70)) (.returned (.slice A7 (N + 1) c7)) w3 → Blk w3 b 122 #[v] := by
      rintro A7 c7 w3 ⟨v', hv', hown, hg, hn⟩
      exact (H1.out.blk.alloc (.cells #[.string f, .string e, .int .i64 n, .int .i64 s] 70)).grown hg (fun e9 => own_blk_ne (HROW.out.alloc (.cells #[.string f, .string e, .int .i64 n, .int .i64 s] 70)) (H1.out.blk.alloc (.cells #[.string f, .string e, .int .i64 n, .int .i64 s] 70)) (by decide) e9.symm)
    have HEND := Lib.hid hend
    have HKEEP := Lib.hid hkeep
    clear hend hkeep
    rcases hcase with rfl | ⟨m, y, rfl, hy⟩
    · have hz : Hid ((0 : Int) = ((atS s L N : Nat) : Int)) := Lib.hid (by rw [HAT.out]; rfl)
      clear hrow
      go_wp2_with (go_at_call 58; refine (hI _ hz.out).mono ?_; rintro r w3 ⟨v', rfl, hx1, hx2, hx3⟩; obtain ⟨A7, c7, rfl, hc7, -⟩ := own_slice hx1; have hx : InsPost B N (atS s L N) (.slice A N c) (bxV L) [.string f, .string e, .int .i64 n, .int .i64 s] (wr.alloc (.cells #[.string f, .string e, .int .i64 n, .int .i64 s] 70)) (.returned (.slice A7 (N + 1) c7)) w3 := ⟨_, rfl, hx1, hx2, hx3⟩; have hk3 := HKEEP.out _ _ _ hx; have HX := Lib.hid (HEND.out _ _ _ hx); have f3 := hk3.frozen 0; have c3 : w3.cell? ⟨b, 0, none⟩ = some (.slice A N c) := (by rw [HN.out, ← HV.out]; exact hk3.cell 0); clear hx hx1 hx2 hx3 hk3)
      go_ret
      exact ⟨rfl, HX.out⟩
    · have hj3 : m < N := by omega
      obtain ⟨u, hu⟩ := own_some hrow (by omega)
      have c3 : wr.cell? ⟨u, m * 4 + 3, none⟩ = some (.int .i64 y.s) := by
        rw [hu] at hrow
        exact (hrow.cellAt (m * 4 + 3) (by omega)).trans (bxV_get L m y hy 3 (by omega))
      have HY := Lib.hid hy
      have HU := Lib.hid hu
      subst hu
      rw [show ((m + 1 : Nat) : Int) = (m : Int) + 1 by omega]
      clear hrow hy
      by_cases hs : s < y.s
      · clear hI
        go_wp2_with fail
        refine ⟨?_, by simp [intOf]⟩
        refine Lib.hid ⟨m, by simp, by omega, ?_, trivial⟩
        rw [HAT.out]
        exact atS_lt HY.out hs
      · have hz : Hid ((m : Int) + 1 = ((atS s L N : Nat) : Int)) := Lib.hid (by
          rw [HAT.out, atS_ge HY.out hs]
          rfl)
        go_wp2_with (go_at_call 58; refine (hI _ hz.out).mono ?_; rintro r w3 ⟨v', rfl, hx1, hx2, hx3⟩; obtain ⟨A7, c7, rfl, hc7, -⟩ := own_slice hx1; have hx : InsPost B N (atS s L N) (.slice (some ⟨u, 0, none⟩) N c) (bxV L) [.string f, .string e, .int .i64 n, .int .i64 s] (wr.alloc (.cells #[.string f, .string e, .int .i64 n, .int .i64 s] 70)) (.returned (.slice A7 (N + 1) c7)) w3 := ⟨_, rfl, hx1, hx2, hx3⟩; have hk3 := HKEEP.out _ _ _ hx; have HX := Lib.hid (HEND.out _ _ _ hx); have f3 := hk3.frozen 0; have c30 : w3.cell? ⟨b, 0, none⟩ = some (.slice (some ⟨u, 0, none⟩) N c) := (by rw [HN.out, ← HV.out]; exact hk3.cell 0); clear hx hx1 hx2 hx3 hk3)
        go_ret
        exact ⟨rfl, HX.out⟩
set_option maxHeartbeats 8000000 in
theorem Add_there (h : BnP w B b v L) {k : Nat} {x : Bx} (hk : L[k]? = some x) (hx : hit f e n x = true) (hf : ∀ (j : Nat) (y : Bx), L[j]? = some y → j < k → hit f e n y = false) :
    Calls Try.prog 32 #[.pointer (some ⟨b, 0, none⟩), .string f, .string e, .int .i64 n, .int .i64 s] w fun r w' => r = .returned (.bool false) ∧ Below w.heap.size w w' := by
  have hF := find_yes h hk hx hf
  clear h hk hx hf
  go_enter Try.func32, Try.ntmps32
  go_wp2_with (go_at_call 57; refine hF.mono ?_; rintro r w1 ⟨rfl, hb1⟩)
  go_ret
  exact ⟨rfl, hb1⟩
set_option maxHeartbeats 8000000 in
theorem Take_no (h : BnP w B b v L) (hf : ∀ (j : Nat) (y : Bx), L[j]? = some y → hit f e n y = false) :
    Calls Try.prog 35 #[.pointer (some ⟨b, 0, none⟩), .string f, .string e, .int .i64 n] w fun r w' => r = .returned (.bool false) ∧ Below w.heap.size w w' := by
  have hF := find_no h hf
  clear h hf
  go_enter Try.func35, Try.ntmps35
  go_wp2_with (go_at_call 57; refine hF.mono ?_; rintro r w1 ⟨rfl, hb1⟩)
  go_ret
  exact ⟨rfl, hb1⟩
set_option maxHeartbeats 8000000 in
theorem Take_yes (h : BnP w B b v L) {k : Nat} {x : Bx} (hk : L[k]? = some x) (hx : hit f e n x = true) (hf : ∀ (j : Nat) (y : Bx), L[j]? = some y → j < k → hit f e n y = false) :
    Calls Try.prog 35 #[.pointer (some ⟨b, 0, none⟩), .string f, .string e, .int .i64 n] w fun r w' => r = .returned (.bool true) ∧ ∃ v', BnP w' B b v' (L.eraseIdx k) ∧ Vol (OwnB b v) w w' ∧ (∀ q, v'.ownBlock = some q → v.ownBlock = some q) := by
  have hF := find_yes h hk hx hf
  obtain ⟨A, c, hv, hc, -⟩ := own_slice h.row
  have hkl := (List.getElem?_eq_some_iff.1 hk).1
  have hr := h.row
  rw [hv] at hr
  obtain ⟨u, hu⟩ := own_some hr (by omega)
  subst hu
  have HV := Lib.hid hv
  have HH := Lib.hid h
  obtain ⟨N, hN⟩ : ∃ N, N = L.length := ⟨_, rfl⟩
  have HN := Lib.hid hN
  have hl := h.len
  rw [← hN] at hc hkl hl
  clear h hk hx hf hv hN hr
  go_enter Try.func35, Try.ntmps35
  go_upto_region 4 with (go_at_call 57; refine hF.mono ?_; rintro r w1 ⟨rfl, hb1⟩)
  have h1 := HH.out.below hb1
  have hrow : w1.ownsRow B 70 4 (.slice (some ⟨u, 0, none⟩) N c) N (bxV L) := by have := h1.row; rw [HV.out, ← HN.out] at this; exact this
  have hD := Delete_own w1 hrow hkl (bxV_one L)
  have c0 : w1.cell? ⟨b, 0, none⟩ = some (.slice (some ⟨u, 0, none⟩) N c) := by rw [HN.out, ← HV.out]; exact h1.blk.cell 0
  have HB1 := Lib.hid hb1
  have H1 := Lib.hid h1
  have HROW := Lib.hid hrow
  have hw1 : IntKind.i64.wrap ((k : Int) + 1) = (k : Int) + 1 := IntWalk.i64_in _ (by omega)
  clear hb1 h1 hF hrow
  go_wp2_with (go_at_call 61; refine hD.mono ?_; rintro r w3 ⟨rfl, hx1, hx2⟩; have bb := H1.out.blk.grown hx2 (fun e => own_blk_ne HROW.out H1.out.blk (by decide) e.symm); have f3 := bb.frozen 0; have c30 : w3.cell? ⟨b, 0, none⟩ = some (.slice (some ⟨u, 0, none⟩) N c) := (by rw [HN.out, ← HV.out]; exact bb.cell 0); have HX := Lib.hid (And.intro hx1 (And.intro hx2 bb)); clear hx1 hx2 bb)
  go_ret
  obtain ⟨hx1, hx2, bb⟩ := HX.out
  refine ⟨rfl, .slice (some ⟨u, 0, none⟩) (N - 1) c, ⟨by simpa using bb.set_ 0 (.slice (some ⟨u, 0, none⟩) (N - 1) c), ?_, HH.out.ge, ?_⟩, ?_, fun q e => ?_⟩
  · rw [List.length_eraseIdx_of_lt (by have := HN.out; omega), ← HN.out, List.eraseIdx_eq_take_drop_succ, bxV_append, ← bxV_take, ← bxV_drop]
    exact own_far hx1 bb (by decide)
  · rw [List.length_eraseIdx_of_lt (by have := HN.out; omega), ← HN.out]; omega
  · exact ((Vol.of_below HB1.out).grown hx2 (fun k hk => .inl (.inr (by rw [HV.out]; exact hk)))).setCell (.inl (.inl rfl)) _
  · rw [HV.out]; exact e
end
end Go.Proofs.Ytiflhfhonhbcpaa.Bin
