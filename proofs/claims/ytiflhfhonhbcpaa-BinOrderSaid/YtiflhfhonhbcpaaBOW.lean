/- The walk of BinOrder: the Go text returns true, and writes nothing that was there. -/
import Derived.Test.YtiflhfhonhbcpaaBinQ
import Derived.Test.YtiflhfhonhbcpaaBinP
import Derived.Test.YtiflhfhonhbcpaaActs
import Derived.Test.YtiflhfhonhbcpaaAllSum
import Derived.Deep.CutRange
import Derived.Deep.RegionHeld3
import Derived.Deep.DeepCutAuto
import Derived.Deep.CutBlock
import Derived.Lib.Builder
import Derived.Deep.RegionLaw
import Derived.IntWalk
import Derived.StillTailTactics
import Derived.Test.YtiflhfhonhbcpaaRdz
namespace Go.Proofs.Ytiflhfhonhbcpaa.binOrder
open Go.ChangeShapes Go.WideShapes Go.ChangeAt Go.RowKit
set_option linter.unusedVariables false
set_option maxRecDepth 100000
open Go.Proofs.Ytiflhfhonhbcpaa.Mas Go.Proofs.Ytiflhfhonhbcpaa.Crw Go.Proofs.Ytiflhfhonhbcpaa.Bin
theorem wkk (w : World) : Calls Try.prog 36 #[] w fun e w' => e = .returned (.bool true) ∧ Below w.heap.size w w' := wakes_36.2.2.2 w
abbrev sF : ByteArray := ⟨#[102]⟩
abbrev sX : ByteArray := ⟨#[120]⟩
abbrev ageR (a b : Bx) : Prop := a.s < b.s ∨ (a.s = b.s ∧ a.n < b.n)
structure OrI (L : List Bx) (i : Nat) : Prop where
  len : L.length = i
  all : ∀ x ∈ L, x.f = sF ∧ x.e = sX ∧ 1 ≤ x.n ∧ x.n ≤ i ∧ 0 ≤ x.s ∧ x.s < 15
  pw : L.Pairwise ageR
  ne : L.Pairwise (fun a b => a.n ≠ b.n)
theorem OrI.srt {L : List Bx} {i : Nat} (h : OrI L i) : Srt L := h.pw.imp (fun h => by rcases h with h | h <;> omega)
theorem OrI.step {L : List Bx} {i : Nat} (h : OrI L i) (s : Int) (h0 : 0 ≤ s) (h1 : s < 15) : OrI (insB ⟨sF, sX, 1 + i, s⟩ L) (i + 1) := by
  refine ⟨by rw [insB_len, h.len], fun x hx => ?_, insB_pw h.srt h.pw (fun y hy hs => ?_) (fun y hy hs => .inl hs), insB_pw h.srt h.ne (fun y hy hs => ?_) (fun y hy hs => ?_)⟩
  · rcases insB_mem.1 hx with rfl | hx
    · exact ⟨rfl, rfl, by show (1 : Int) ≤ 1 + i; omega, by show (1 : Int) + i ≤ ((i + 1 : Nat) : Int); omega, h0, h1⟩
    · obtain ⟨a, b, c, d, e, f⟩ := h.all x hx
      exact ⟨a, b, c, by omega, e, f⟩
  · have := (h.all y hy).2.2.2.1
    show y.s < s ∨ (y.s = s ∧ y.n < 1 + i)
    have hs : y.s ≤ s := hs
    omega
  · have := (h.all y hy).2.2.2.1
    show y.n ≠ 1 + i
    omega
  · have := (h.all y hy).2.2.2.1
    show (1 : Int) + i ≠ y.n
    omega
theorem OrI.no {L : List Bx} {i : Nat} (h : OrI L i) : ∀ (j : Nat) (y : Bx), L[j]? = some y → hit sF sX (1 + i) y = false := hit_all fun y hy => by
  have := (h.all y hy).2.2.2.1
  have e : (y.n == 1 + (i : Int)) = false := by simp; omega
  unfold hit
  rw [e]
  simp
set_option maxHeartbeats 80000000 in
theorem walk (v0 : Value) (a1 : Int) (a2 : Int) (w : World) (b0 : ActsArg 5 w v0) (b1 : -9223372036854775808 ≤ a1 ∧ a1 ≤ 9223372036854775807) (b2 : -9223372036854775808 ≤ a2 ∧ a2 ≤ 9223372036854775807) :
    Calls Try.prog 6 #[v0, .int .i64 a1, .int .i64 a2] w fun e w' => e = .returned (.bool true) ∧ Below w.heap.size w w' := by
  obtain ⟨A, nn, cc, rfl, hnc, hcm, hA⟩ := acts_u b0
  have HA := Lib.hid hA
  have hnm : (nn : Int) ≤ 9223372036854775807 := by unfold maxLen at hcm; omega
  clear hA b0
  go_enter Try.func6, Try.ntmps6
  go_wp2_with fail
  refine (New_b _).mono ?_
  rintro e w1 ⟨b, rfl, hb, hB1⟩
  have I0 : Hid (BnI w w1 b (.slice none 0 0) []) := Lib.hid ⟨hb, hB1⟩
  clear hb hB1
  go_upto_block 0 with fail
  go_cut [8] from 20 to 45 (fun v8 wx => Hid (∃ (N : Nat) (v : Value) (L : List Bx), v8 = .int .i64 N ∧ N ≤ 20 ∧ N ≤ nn ∧ (N = nn ∨ N = 20) ∧ BnI w wx b v L ∧ OrI L N ∧ ∃ w7, w7 = wx))
  case first =>
    go_wp2_with fail
    go_loopw [8, 9] (fun vn vi wr => Hid (∃ (i : Nat) (v : Value) (L : List Bx), vn = .int .i64 i ∧ vi = .int .i64 i ∧ i ≤ 20 ∧ i ≤ nn ∧ BnI w wr b v L ∧ OrI L i ∧ ∃ w7, w7 = wr)) (fun _ vi _ => 20 - (intOf vi).toNat)
    case atStart => exact Lib.hid ⟨0, _, [], rfl, rfl, by omega, by omega, I0.out, ⟨rfl, by simp, List.Pairwise.nil, List.Pairwise.nil⟩, _, rfl⟩
    case round =>
      obtain ⟨i, v, L, rfl, rfl, hi, hin, hI, hO, wr, hwr⟩ := hrel.out
      subst hwr
      have HI := Lib.hid hI
      have HO := Lib.hid hO
      clear hrel hI hO I0
      by_cases hall : (i : Int) < nn ∧ (i : Int) < 20
      · obtain ⟨h1, h2⟩ := hall
        obtain ⟨ab, off, xs, rfl, hblt, hxb, hcell⟩ := HA.out i (by omega)
        have c4 : wr.cell? ⟨ab, off + i * 5 + 4, none⟩ = some (.int .i64 (xs 4)) := hcell w.heap.size wr HI.out.bel (Nat.le_refl _) 4 (by omega)
        have hx4 := hxb 4 (by omega)
        generalize xs 4 = x at c4 hx4
        have hq1 := Int.emod_nonneg x (show (15 : Int) ≠ 0 by omega)
        have hq2 := Int.emod_lt_of_pos x (show (0 : Int) < 15 by omega)
        have hW : ∀ w, Calls Try.prog 10 #[.int .i64 x, .int .i64 15] w fun e w' => e = .returned (.int .i64 (x % 15)) ∧ w = w' := fun w => Within_any x 15 w (by omega) (by omega) (by omega) (by omega)
        clear hxb hcell hx4
        generalize x % 15 = s at *
        go_wp2_with fail
        refine (hW _).mono ?_
        rintro e w' ⟨rfl, rfl⟩
        clear hW c4
        have hst := HO.out.step s hq1 hq2
        have HST := Lib.hid hst
        clear hst
        go_wp2_with fail
        refine (Add_newI (s := s) HI.out HO.out.no (by rw [HO.out.len]; omega)).mono ?_
        rintro e w2 ⟨rfl, v2, i2⟩
        have I2 := Lib.hid i2
        have hat : Hid (∀ (j : Nat) (y : Bx), (insB (⟨sF, sX, 1 + i, s⟩ : Bx) L)[j]? = some y → j < atS s L L.length → hit sF sX (1 + i) y = false) := Lib.hid fun j y hj hlt => by
          obtain ⟨m, hm⟩ := List.getElem?_of_mem (insB_before (x := ⟨sF, sX, 1 + i, s⟩) hlt hj)
          exact HO.out.no m y hm
        have hg : Hid ((insB (⟨sF, sX, 1 + i, s⟩ : Bx) L)[atS s L L.length]? = some ⟨sF, sX, 1 + i, s⟩) := Lib.hid (insB_get _ _)
        clear i2
        go_wp2_with fail
        refine (Add_there (s := 3) I2.out.bn hg.out (by simp [hit]) hat.out).mono ?_
        rintro e w3 ⟨rfl, hb3⟩
        have I3 := Lib.hid (I2.out.below hb3)
        clear hb3 I2 hat hg
        go_wp2_with fail
        refine ⟨?_, by simp [intOf]; omega⟩
        exact Lib.hid ⟨i + 1, v2, _, by simp, by simp, by omega, by omega, I3.out, HST.out, _, rfl⟩
      · have hall2 : ¬ (i : Int) < nn ∨ ((i : Int) < nn ∧ ¬ (i : Int) < 20) := by omega
        clear hall
        rcases hall2 with h1 | ⟨h1, h2⟩
        all_goals
          go_wp2_with fail
          go_meet
          exact Lib.hid ⟨i, v, L, rfl, by omega, by omega, by omega, HI.out, HO.out, _, rfl⟩
  case rest =>
    obtain ⟨N, v, L, rfl, hN, hNn, hNc, hI, hO, w2, hw2⟩ := hcut.out
    subst hw2
    have HI := Lib.hid hI
    have HO := Lib.hid hO
    clear hcut hI hO I0
    go_wp2_with fail
    refine (All_b HI.out.bn).mono ?_
    rintro e w3 ⟨v3, rfl, ho3, hb3⟩
    rw [HO.out.len] at ho3
    obtain ⟨A3, cA, rfl, -, -⟩ := own_slice ho3
    have I3 := Lib.hid (HI.out.below hb3)
    have O3 := Lib.hid ho3
    have hB23 : Hid (w2.heap.size ≤ w3.heap.size) := Lib.hid hb3.size
    have HB2 : Hid (b < w2.heap.size ∧ ∀ q, v.ownBlock = some q → q < w2.heap.size) := Lib.hid HI.out.lt
    clear ho3 hb3 HI
    have nN : ((N : Int) != (N : Int)) = false := by simp
    have hmn : min (nn : Int) 20 = (N : Int) := by omega
    go_upto_region 15 with fail
    clear nN hmn
    have hq1 := Int.emod_nonneg a1 (show (20 : Int) ≠ 0 by omega)
    have hq2 := Int.emod_lt_of_pos a1 (show (0 : Int) < 20 by omega)
    have hq3 := Int.emod_nonneg a2 (show (10 : Int) ≠ 0 by omega)
    have hq4 := Int.emod_lt_of_pos a2 (show (0 : Int) < 10 by omega)
    have hW1 : ∀ w, Calls Try.prog 10 #[.int .i64 a1, .int .i64 20] w fun e w' => e = .returned (.int .i64 (a1 % 20)) ∧ w = w' := fun w => Within_any a1 20 w (by omega) (by omega) (by omega) (by omega)
    have hW2 : ∀ w, Calls Try.prog 10 #[.int .i64 a2, .int .i64 10] w fun e w' => e = .returned (.int .i64 (a2 % 10)) ∧ w = w' := fun w => Within_any a2 10 w (by omega) (by omega) (by omega) (by omega)
    generalize a1 % 20 = t at *
    generalize a2 % 10 = d at *
    go_wp2_with fail
    refine (hW1 _).mono ?_
    rintro e w' ⟨rfl, rfl⟩
    go_wp2_with fail
    refine (hW2 _).mono ?_
    rintro e w' ⟨rfl, rfl⟩
    clear hW1 hW2
    go_wp2_with fail
    go_loopw [11, 65] (fun vd vi wx => Hid (∃ (i m : Nat), vd = .int .i64 m ∧ vi = .int .i64 i ∧ i ≤ N ∧ m ≤ i ∧ m = ((L.take i).filter (dueF t d)).length ∧ BnI w wx b v L ∧ wx.ownsRow w2.heap.size 70 4 (.slice A3 N cA) N (bxV L) ∧ w2.heap.size ≤ wx.heap.size ∧ ∃ w7, w7 = wx)) (fun _ vi _ => N - (intOf vi).toNat)
    case atStart => exact Lib.hid ⟨0, 0, rfl, rfl, by omega, by omega, by simp, I3.out, O3.out, hB23.out, _, rfl⟩
    case round =>
      obtain ⟨i, m, rfl, rfl, hi, hm, hml, hI, ho, hz4, w4, hw4⟩ := hrel.out
      subst hw4
      have HZ4 := Lib.hid hz4
      clear hz4
      have I4 := Lib.hid hI
      have O4 := Lib.hid ho
      have HM := Lib.hid hml
      clear hrel hI ho hml I3 O3
      by_cases hlt : (i : Int) < N
      · obtain ⟨u, rfl⟩ := own_some O4.out (by omega)
        obtain ⟨x, hx⟩ : ∃ x, L[i]? = some x := ⟨L[i]'(by have := HO.out.len; omega), List.getElem?_eq_getElem _⟩
        have hxa := HO.out.all x (List.mem_of_getElem? hx)
        have htk : Hid (L.take (i + 1) = L.take i ++ [x]) := Lib.hid (by rw [List.take_add_one, hx]; rfl)
        have cc : ∀ k, k < 4 → w4.cell? ⟨u, i * 4 + k, none⟩ = (bxC x)[k]? := fun k hk => (O4.out.cellAt (i * 4 + k) (by omega)).trans (bxV_get L i x hx k hk)
        have c0 : w4.cell? ⟨u, i * 4, none⟩ = some (.string x.f) := cc 0 (by omega)
        have c1 : w4.cell? ⟨u, i * 4 + 1, none⟩ = some (.string x.e) := cc 1 (by omega)
        have c2 : w4.cell? ⟨u, i * 4 + 2, none⟩ = some (.int .i64 x.n) := cc 2 (by omega)
        have c3 : w4.cell? ⟨u, i * 4 + 3, none⟩ = some (.int .i64 x.s) := cc 3 (by omega)
        have HX := Lib.hid hx
        clear cc hx
        obtain ⟨xf, xe, xn, xs⟩ := x
        simp only at c0 c1 c2 c3 hxa
        obtain ⟨-, -, hxn1, hxn2, hxs1, hxs2⟩ := hxa
        go_upto_region 20 with fail
        obtain ⟨g, hg⟩ : ∃ g, g = w4.heap.size := ⟨_, rfl⟩
        obtain ⟨w5, hw5⟩ : ∃ w5, w5 = w4.alloc (Obj.cells #[.string xf, .string xe, .int .i64 xn, .int .i64 xs] 70) := ⟨_, rfl⟩
        rw [← hw5, ← hg]
        have hb5 : Below w4.heap.size w4 w5 := by rw [hw5]; exact (Below.refl _ _).alloc (Nat.le_refl _) _
        have hk5 : Blk w5 g 70 #[.string xf, .string xe, .int .i64 xn, .int .i64 xs] := by rw [hw5, hg]; exact Blk.new _ _ _
        have I5 := Lib.hid (I4.out.below hb5)
        have o5 := own_keep O4.out hb5
        have O5 := Lib.hid o5
        have m2 : w5.cell? ⟨g, 2, none⟩ = some (.int .i64 xn) := hk5.cell 2
        have m3 : w5.cell? ⟨g, 3, none⟩ = some (.int .i64 xs) := hk5.cell 3
        have K5 := Lib.hid hk5
        have Z5 : Hid (w2.heap.size ≤ w5.heap.size) := Lib.hid (Nat.le_trans HZ4.out hb5.size)
        clear hb5 hw5 hg hk5 c0 c1 c2 c3 I4 O4
        have hdue : ∀ f : Bool, dueF t d ⟨xf, xe, xn, xs⟩ = f → Hid ((L.take (i + 1)).filter (dueF t d) = (L.take i).filter (dueF t d) ++ (if f then [⟨xf, xe, xn, xs⟩] else [])) := fun f hf => Lib.hid (by
          rw [htk.out, List.filter_append, List.filter_cons, hf]
          cases f <;> simp)
        have HDUE := Lib.hid hdue
        clear hdue
        go_cut [104] from 70 to 103 (fun v104 wx => Hid (v104 = .bool false ∧ BnI w wx b v L ∧ wx.ownsRow w2.heap.size 70 4 (.slice (some ⟨u, 0, none⟩) N cA) N (bxV L) ∧ Blk wx g 70 #[.string xf, .string xe, .int .i64 xn, .int .i64 xs] ∧ w2.heap.size ≤ wx.heap.size ∧ ∃ w7, w7 = wx))
        case first =>
          have hend : ∀ k, Hid (BnI w (w5.drewN k) b v L ∧ (w5.drewN k).ownsRow w2.heap.size 70 4 (.slice (some ⟨u, 0, none⟩) N cA) N (bxV L) ∧ Blk (w5.drewN k) g 70 #[.string xf, .string xe, .int .i64 xn, .int .i64 xs]) := fun k => Lib.hid ⟨I5.out.below (below_drewN (Below.refl _ _) k), own_keep O5.out (below_drewN (Below.refl _ _) k), K5.out.drewN k⟩
          have HEND := Lib.hid hend
          clear hend
          rcases Nat.eq_zero_or_pos i with rfl | hpos
          · clear hlt hm o5
            go_quiet (fail)
            go_wp2_with fail
            go_meet
            exact Lib.hid ⟨rfl, (HEND.out _).out.1, (HEND.out _).out.2.1, (HEND.out _).out.2.2, Z5.out, _, rfl⟩
          · obtain ⟨q, rfl⟩ : ∃ q, i = q + 1 := ⟨i - 1, by omega⟩
            obtain ⟨y, hy⟩ : ∃ y, L[q]? = some y := ⟨L[q]'(by have := HO.out.len; omega), List.getElem?_eq_getElem _⟩
            have hR : ageR y ⟨xf, xe, xn, xs⟩ := by
              obtain ⟨h1, e1⟩ := List.getElem?_eq_some_iff.1 hy
              obtain ⟨h2, e2⟩ := List.getElem?_eq_some_iff.1 HX.out
              have := List.pairwise_iff_getElem.1 HO.out.pw q (q + 1) h1 h2 (by omega)
              rw [e1, e2] at this
              exact this
            have y2 : w5.cell? ⟨u, q * 4 + 2, none⟩ = some (.int .i64 y.n) := (o5.cellAt (q * 4 + 2) (by omega)).trans (bxV_get L q y hy 2 (by omega))
            have y3 : w5.cell? ⟨u, q * 4 + 3, none⟩ = some (.int .i64 y.s) := (o5.cellAt (q * 4 + 3) (by omega)).trans (bxV_get L q y hy 3 (by omega))
            obtain ⟨yf, ye, yn, ys⟩ := y
            simp only at y2 y3
            have hR : ys < xs ∨ (ys = xs ∧ yn < xn) := hR
            clear hy o5
            rw [show ((q + 1 : Nat) : Int) = (q : Int) + 1 by omega]
            have z1 : IntKind.i64.wrap ((q : Int) + 1 - 1) = (q : Int) := by rw [IntKind.wrap_i64]; omega
            have z2 : (0 : Int) ≤ (q : Int) := by omega
            have z3 : (q : Int) < (N : Int) := by omega
            have z4 : decide ((0 : Int) < (q : Int) + 1) = true := decide_eq_true (by omega)
            rcases hR with h | ⟨rfl, h⟩
            · have e1 : decide (xs < ys) = false := by simp; omega
              have e2 : (xs == ys) = false := by simp; omega
              clear hlt h hpos hm
              go_quiet (fail)
              go_wp2_with fail
              go_meet
              exact Lib.hid ⟨rfl, (HEND.out _).out.1, (HEND.out _).out.2.1, (HEND.out _).out.2.2, Z5.out, _, rfl⟩
            · have e1 : decide (ys < ys) = false := by simp
              have e2 : (ys == ys) = true := by simp
              have e3 : decide (xn ≤ yn) = false := by simp; omega
              clear hlt h hpos hm
              go_quiet (fail)
              go_wp2_with fail
              go_meet
              exact Lib.hid ⟨rfl, (HEND.out _).out.1, (HEND.out _).out.2.1, (HEND.out _).out.2.2, Z5.out, _, rfl⟩
        case rest =>
          obtain ⟨rfl, hI6, ho6, hk6, hz6, w6, hw6⟩ := hcut.out
          subst hw6
          have I6 := Lib.hid hI6
          have O6 := Lib.hid ho6
          have m3' : w6.cell? ⟨g, 3, none⟩ = some (.int .i64 xs) := hk6.cell 3
          clear hcut hI6 ho6 hk6 o5 m2 m3
          by_cases hd : xs + d ≤ t
          · have hD := HDUE.out true (by simp [dueF]; omega)
            go_wp2_with fail
            refine ⟨?_, by simp [intOf]; omega⟩
            exact Lib.hid ⟨i + 1, m + 1, by simp, by simp, by omega, by omega, by rw [hD.out, List.length_append, ← HM.out]; rfl, I6.out, O6.out, hz6, _, rfl⟩
          · have hD := HDUE.out false (by simp [dueF]; omega)
            go_wp2_with fail
            refine ⟨?_, by simp [intOf]; omega⟩
            exact Lib.hid ⟨i + 1, m, by simp, by simp, by omega, by omega, by rw [hD.out, List.length_append, ← HM.out]; rfl, I6.out, O6.out, hz6, _, rfl⟩
      · have hiN : i = N := by omega
        have htk : Hid (L.take i = L) := Lib.hid (by rw [hiN, ← HO.out.len]; exact List.take_length)
        obtain ⟨D, hD⟩ : ∃ D, D = L.filter (dueF t d) := ⟨_, rfl⟩
        have hDm : D.length = m := by rw [hD, HM.out, htk.out]
        have hDt : D = L.take m := by
          have := take_up (s := t - d) HO.out.srt
          rw [← hDm, hD]
          show L.filter (upB (t - d)) = L.take (L.filter (upB (t - d))).length
          rw [this, List.length_take, Nat.min_eq_left (atS_le _ _ _)]
        have hs : ∀ (k : Nat) (x : Bx), L[k]? = some x → 0 ≤ x.s ∧ x.s ≤ 1000 := fun k x hx => by
          have := HO.out.all x (List.mem_of_getElem? hx)
          omega
        have hge : m ≤ (L.filter (dueF (t + 1) d)).length := by
          rw [← hDm, hD, ← List.countP_eq_length_filter, ← List.countP_eq_length_filter]
          exact List.countP_mono_left (fun y _ h => by simp only [dueF, decide_eq_true_eq] at h ⊢; omega)
        have hle : (L.filter (dueF t (d + 1))).length ≤ m := by
          rw [← hDm, hD, ← List.countP_eq_length_filter, ← List.countP_eq_length_filter]
          exact List.countP_mono_left (fun y _ h => by simp only [dueF, decide_eq_true_eq] at h ⊢; omega)
        obtain ⟨M1, hM1⟩ : ∃ M1, M1 = (L.filter (dueF (t + 1) d)).length := ⟨_, rfl⟩
        obtain ⟨M2, hM2⟩ : ∃ M2, M2 = (L.filter (dueF t (d + 1))).length := ⟨_, rfl⟩
        rw [← hM1] at hge
        rw [← hM2] at hle
        have hC1 := Due_b I4.out.bn t d hs (by omega) (by omega) (by omega) (by omega)
        rw [← hD, hDm] at hC1
        have HS := Lib.hid hs
        have HDT := Lib.hid hDt
        have HD := Lib.hid hD
        have HM1 := Lib.hid hM1
        have HM2 := Lib.hid hM2
        have HDM := Lib.hid hDm
        have n1 : ((m : Int) != (m : Int)) = false := by simp
        have n2 : decide (M1 < m) = false := decide_eq_false (by omega)
        have n3 : decide (m < M2) = false := decide_eq_false (by omega)
        clear hD hDm hDt hs hM1 hM2 htk HM hiN
        go_wp2_with fail
        refine hC1.mono ?_
        rintro e w5 ⟨v5, rfl, ho5, hb5⟩
        obtain ⟨A5, c5, rfl, -, -⟩ := own_slice ho5
        have I5 := Lib.hid (I4.out.below hb5)
        have O5 := Lib.hid (own_keep O4.out hb5)
        have D5 := Lib.hid ho5
        clear hb5 ho5 I4 O4 hC1
        go_wp2_with fail
        have hC2 := Due_b I5.out.bn (t + 1) d HS.out (by omega) (by omega) (by omega) (by omega)
        rw [← HM1.out] at hC2
        refine hC2.mono ?_
        rintro e w6 ⟨v6, rfl, ho6, hb6⟩
        obtain ⟨A6, c6, rfl, -, -⟩ := own_slice ho6
        have I6 := Lib.hid (I5.out.below hb6)
        have O6 := Lib.hid (own_keep O5.out hb6)
        have D6 := Lib.hid (own_keep D5.out hb6)
        clear hb6 ho6 I5 O5 D5 hC2
        go_wp2_with fail
        have hC3 := Due_b I6.out.bn t (d + 1) HS.out (by omega) (by omega) (by omega) (by omega)
        rw [← HM2.out] at hC3
        refine hC3.mono ?_
        rintro e w7 ⟨v7, rfl, ho7, hb7⟩
        obtain ⟨A7, c7, rfl, -, -⟩ := own_slice ho7
        have I7 := Lib.hid (I6.out.below hb7)
        have O7 := Lib.hid (own_keep O6.out hb7)
        have D7 := Lib.hid (own_keep D6.out hb7)
        have hlt7 := I6.out.lt
        clear hb7 ho7 I6 O6 D6 hC3
        go_wp2_with fail
        clear n1 n2 n3
        go_loopw [144] (fun vi wx => Hid (∃ (i : Nat) (v' : Value), vi = .int .i64 i ∧ i ≤ m ∧ (∀ q, v'.ownBlock = some q → q < w2.heap.size) ∧ BnI w wx b v' (L.drop i) ∧ wx.ownsRow w2.heap.size 70 4 (.slice A3 N cA) N (bxV L) ∧ wx.ownsRow w2.heap.size 70 4 (.slice A5 m c5) m (bxV D) ∧ ∃ w7, w7 = wx)) (fun vi _ => m - (intOf vi).toNat)
        case atStart => exact Lib.hid ⟨0, v, rfl, by omega, HB2.out.2, I7.out, O7.out, own_down D7.out HZ4.out, _, rfl⟩
        case round =>
          obtain ⟨k, v8, rfl, hk, hv8, hI, ho, hd, w8, hw8⟩ := hrel.out
          subst hw8
          have HV8 := Lib.hid hv8
          clear hv8
          have I8 := Lib.hid hI
          have O8 := Lib.hid ho
          have D8 := Lib.hid hd
          clear hrel hI ho hd I7 O7 D7
          by_cases hlk : (k : Int) < m
          · obtain ⟨u, rfl⟩ := own_some O8.out (by omega)
            obtain ⟨u5, rfl⟩ := own_some D8.out (by omega)
            obtain ⟨x, hx⟩ : ∃ x, L[k]? = some x := ⟨L[k]'(by have := HO.out.len; omega), List.getElem?_eq_getElem _⟩
            have hxD : D[k]? = some x := by rw [HDT.out, List.getElem?_take, if_pos (by omega)]; exact hx
            have hdrop : (L.drop k)[0]? = some x := by rw [List.getElem?_drop]; exact hx
            have hno : ∀ (j : Nat) (y : Bx), (L.drop (k + 1))[j]? = some y → hit x.f x.e x.n y = false := fun j y hy => by
              rw [List.getElem?_drop] at hy
              obtain ⟨h1, e1⟩ := List.getElem?_eq_some_iff.1 hx
              obtain ⟨h2, e2⟩ := List.getElem?_eq_some_iff.1 hy
              have := List.pairwise_iff_getElem.1 HO.out.ne k (k + 1 + j) h1 h2 (by omega)
              rw [e1, e2] at this
              have e : (y.n == x.n) = false := by simp; exact fun h => this h.symm
              unfold hit
              rw [e]
              simp
            have her : (L.drop k).eraseIdx 0 = L.drop (k + 1) := by rw [List.eraseIdx_zero, List.tail_drop]
            have cc : ∀ j, j < 4 → w8.cell? ⟨u5, k * 4 + j, none⟩ = (bxC x)[j]? := fun j hj => (D8.out.cellAt (k * 4 + j) (by omega)).trans (bxV_get D k x hxD j hj)
            have ca : ∀ (wa : World), wa.ownsRow w2.heap.size 70 4 (.slice (some ⟨u, 0, none⟩) N cA) N (bxV L) → ∀ j, j < 4 → wa.cell? ⟨u, k * 4 + j, none⟩ = (bxC x)[j]? := fun wa h j hj => (h.cellAt (k * 4 + j) (by omega)).trans (bxV_get L k x hx j hj)
            have c0 : w8.cell? ⟨u5, k * 4, none⟩ = some (.string x.f) := cc 0 (by omega)
            have c1 : w8.cell? ⟨u5, k * 4 + 1, none⟩ = some (.string x.e) := cc 1 (by omega)
            have c2 : w8.cell? ⟨u5, k * 4 + 2, none⟩ = some (.int .i64 x.n) := cc 2 (by omega)
            have c3 : w8.cell? ⟨u5, k * 4 + 3, none⟩ = some (.int .i64 x.s) := cc 3 (by omega)
            have hDb := D8.out
            have hself : hit x.f x.e x.n x = true := by simp [hit]
            obtain ⟨xf, xe, xn, xs⟩ := x
            simp only at c0 c1 c2 c3 hno hself ca
            have HNO := Lib.hid (And.intro hno (And.intro hdrop (And.intro her hself)))
            have CA := Lib.hid ca
            have HDB := Lib.hid hDb
            clear hx hxD hdrop hno her cc hself ca hDb
            go_upto_region 31 with fail
            obtain ⟨g, hg⟩ : ∃ g, g = w8.heap.size := ⟨_, rfl⟩
            obtain ⟨w9, hw9⟩ : ∃ w9, w9 = w8.alloc (Obj.cells #[.string xf, .string xe, .int .i64 xn, .int .i64 xs] 70) := ⟨_, rfl⟩
            rw [← hw9, ← hg]
            have hb9 : Below w8.heap.size w8 w9 := by rw [hw9]; exact (Below.refl _ _).alloc (Nat.le_refl _) _
            have hk9 : Blk w9 g 70 #[.string xf, .string xe, .int .i64 xn, .int .i64 xs] := by rw [hw9, hg]; exact Blk.new _ _ _
            have i9 := I8.out.below hb9
            have B9 : BnI w w9.drew b v8 (L.drop k) := i9.below (Below.refl _ _).drew
            have hz : b < g ∧ w2.heap.size ≤ g := by
              have h1 := I8.out.lt.1
              have h2 := (O8.out.lt u rfl)
              omega
            have hV8 := HV8.out
            have hB2 := HB2.out.1
            have cons : ∀ {wa : World}, (Blk wa g 70 #[.string xf, .string xe, .int .i64 xn, .int .i64 xs] ∧ wa.ownsRow w2.heap.size 70 4 (.slice (some ⟨u, 0, none⟩) N cA) N (bxV L) ∧ wa.ownsRow w2.heap.size 70 4 (.slice (some ⟨u5, 0, none⟩) m c5) m (bxV D)) → (wa.cell? ⟨g, 0, none⟩ = some (.string xf) ∧ wa.cell? ⟨g, 1, none⟩ = some (.string xe) ∧ wa.cell? ⟨g, 2, none⟩ = some (.int .i64 xn) ∧ wa.cell? ⟨g, 3, none⟩ = some (.int .i64 xs) ∧ wa.cell? ⟨u, k * 4, none⟩ = some (.string xf) ∧ wa.cell? ⟨u, k * 4 + 1, none⟩ = some (.string xe) ∧ wa.cell? ⟨u, k * 4 + 2, none⟩ = some (.int .i64 xn) ∧ wa.cell? ⟨u, k * 4 + 3, none⟩ = some (.int .i64 xs) ∧ (Blk wa g 70 #[.string xf, .string xe, .int .i64 xn, .int .i64 xs] ∧ wa.ownsRow w2.heap.size 70 4 (.slice (some ⟨u, 0, none⟩) N cA) N (bxV L) ∧ wa.ownsRow w2.heap.size 70 4 (.slice (some ⟨u5, 0, none⟩) m c5) m (bxV D))) := fun h => ⟨h.1.cell 0, h.1.cell 1, h.1.cell 2, h.1.cell 3, CA.out _ h.2.1 0 (by omega), CA.out _ h.2.1 1 (by omega), CA.out _ h.2.1 2 (by omega), CA.out _ h.2.1 3 (by omega), h⟩
            have keep : ∀ {wa wb : World}, (wa.cell? ⟨g, 0, none⟩ = some (.string xf) ∧ wa.cell? ⟨g, 1, none⟩ = some (.string xe) ∧ wa.cell? ⟨g, 2, none⟩ = some (.int .i64 xn) ∧ wa.cell? ⟨g, 3, none⟩ = some (.int .i64 xs) ∧ wa.cell? ⟨u, k * 4, none⟩ = some (.string xf) ∧ wa.cell? ⟨u, k * 4 + 1, none⟩ = some (.string xe) ∧ wa.cell? ⟨u, k * 4 + 2, none⟩ = some (.int .i64 xn) ∧ wa.cell? ⟨u, k * 4 + 3, none⟩ = some (.int .i64 xs) ∧ (Blk wa g 70 #[.string xf, .string xe, .int .i64 xn, .int .i64 xs] ∧ wa.ownsRow w2.heap.size 70 4 (.slice (some ⟨u, 0, none⟩) N cA) N (bxV L) ∧ wa.ownsRow w2.heap.size 70 4 (.slice (some ⟨u5, 0, none⟩) m c5) m (bxV D))) → Below wa.heap.size wa wb → (wb.cell? ⟨g, 0, none⟩ = some (.string xf) ∧ wb.cell? ⟨g, 1, none⟩ = some (.string xe) ∧ wb.cell? ⟨g, 2, none⟩ = some (.int .i64 xn) ∧ wb.cell? ⟨g, 3, none⟩ = some (.int .i64 xs) ∧ wb.cell? ⟨u, k * 4, none⟩ = some (.string xf) ∧ wb.cell? ⟨u, k * 4 + 1, none⟩ = some (.string xe) ∧ wb.cell? ⟨u, k * 4 + 2, none⟩ = some (.int .i64 xn) ∧ wb.cell? ⟨u, k * 4 + 3, none⟩ = some (.int .i64 xs) ∧ (Blk wb g 70 #[.string xf, .string xe, .int .i64 xn, .int .i64 xs] ∧ wb.ownsRow w2.heap.size 70 4 (.slice (some ⟨u, 0, none⟩) N cA) N (bxV L) ∧ wb.ownsRow w2.heap.size 70 4 (.slice (some ⟨u5, 0, none⟩) m c5) m (bxV D))) := fun h hb => by
              obtain ⟨h1, h2, h3⟩ := h.2.2.2.2.2.2.2.2
              exact cons ⟨h1.below hb h1.lt, own_keep h2 hb, own_keep h3 hb⟩
            have hS0 : (w9.cell? ⟨g, 0, none⟩ = some (.string xf) ∧ w9.cell? ⟨g, 1, none⟩ = some (.string xe) ∧ w9.cell? ⟨g, 2, none⟩ = some (.int .i64 xn) ∧ w9.cell? ⟨g, 3, none⟩ = some (.int .i64 xs) ∧ w9.cell? ⟨u, k * 4, none⟩ = some (.string xf) ∧ w9.cell? ⟨u, k * 4 + 1, none⟩ = some (.string xe) ∧ w9.cell? ⟨u, k * 4 + 2, none⟩ = some (.int .i64 xn) ∧ w9.cell? ⟨u, k * 4 + 3, none⟩ = some (.int .i64 xs) ∧ (Blk w9 g 70 #[.string xf, .string xe, .int .i64 xn, .int .i64 xs] ∧ w9.ownsRow w2.heap.size 70 4 (.slice (some ⟨u, 0, none⟩) N cA) N (bxV L) ∧ w9.ownsRow w2.heap.size 70 4 (.slice (some ⟨u5, 0, none⟩) m c5) m (bxV D))) := cons ⟨hk9, own_keep O8.out hb9, own_keep HDB.out hb9⟩
            have hD : ∀ {wa : World}, Below wa.heap.size wa wa.drew := (Below.refl _ _).drew
            have hT1 : ∀ {wa : World}, (wa.cell? ⟨g, 0, none⟩ = some (.string xf) ∧ wa.cell? ⟨g, 1, none⟩ = some (.string xe) ∧ wa.cell? ⟨g, 2, none⟩ = some (.int .i64 xn) ∧ wa.cell? ⟨g, 3, none⟩ = some (.int .i64 xs) ∧ wa.cell? ⟨u, k * 4, none⟩ = some (.string xf) ∧ wa.cell? ⟨u, k * 4 + 1, none⟩ = some (.string xe) ∧ wa.cell? ⟨u, k * 4 + 2, none⟩ = some (.int .i64 xn) ∧ wa.cell? ⟨u, k * 4 + 3, none⟩ = some (.int .i64 xs) ∧ (Blk wa g 70 #[.string xf, .string xe, .int .i64 xn, .int .i64 xs] ∧ wa.ownsRow w2.heap.size 70 4 (.slice (some ⟨u, 0, none⟩) N cA) N (bxV L) ∧ wa.ownsRow w2.heap.size 70 4 (.slice (some ⟨u5, 0, none⟩) m c5) m (bxV D))) → BnI w wa b v8 (L.drop k) → Calls Try.prog 35 #[.pointer (some ⟨b, 0, none⟩), .string xf, .string xe, .int .i64 xn] wa fun r wb => r = .returned (.bool true) ∧ (wb.cell? ⟨g, 0, none⟩ = some (.string xf) ∧ wb.cell? ⟨g, 1, none⟩ = some (.string xe) ∧ wb.cell? ⟨g, 2, none⟩ = some (.int .i64 xn) ∧ wb.cell? ⟨g, 3, none⟩ = some (.int .i64 xs) ∧ wb.cell? ⟨u, k * 4, none⟩ = some (.string xf) ∧ wb.cell? ⟨u, k * 4 + 1, none⟩ = some (.string xe) ∧ wb.cell? ⟨u, k * 4 + 2, none⟩ = some (.int .i64 xn) ∧ wb.cell? ⟨u, k * 4 + 3, none⟩ = some (.int .i64 xs) ∧ (Blk wb g 70 #[.string xf, .string xe, .int .i64 xn, .int .i64 xs] ∧ wb.ownsRow w2.heap.size 70 4 (.slice (some ⟨u, 0, none⟩) N cA) N (bxV L) ∧ wb.ownsRow w2.heap.size 70 4 (.slice (some ⟨u5, 0, none⟩) m c5) m (bxV D))) ∧ ∃ v9, BnI w wb b v9 (L.drop (k + 1)) ∧ ∀ q, v9.ownBlock = some q → q < w2.heap.size := fun h hi => by
              obtain ⟨h1, h2, h3⟩ := h.2.2.2.2.2.2.2.2
              refine (Take_yes hi.bn HNO.out.2.1 HNO.out.2.2.2 (by omega)).mono ?_
              rintro r wb ⟨rfl, v9, hn, hv, hvv⟩
              rw [HNO.out.2.2.1] at hn
              have hU : ∀ q, w2.heap.size ≤ q → ¬ OwnB b v8 q := fun q hq e => by
                rcases e with e | e
                · omega
                · have := hV8 q e; omega
              exact ⟨rfl, cons ⟨blk_vol h1 hv (hU g hz.2), own_vol h2 hv (fun q e => hU q (h2.lt q e).1), own_vol h3 hv (fun q e => hU q (h3.lt q e).1)⟩, v9, hi.voln hv hn, fun q e => hV8 q (hvv q e)⟩
            have hT2 : ∀ {wa : World} {v9 : Value}, (wa.cell? ⟨g, 0, none⟩ = some (.string xf) ∧ wa.cell? ⟨g, 1, none⟩ = some (.string xe) ∧ wa.cell? ⟨g, 2, none⟩ = some (.int .i64 xn) ∧ wa.cell? ⟨g, 3, none⟩ = some (.int .i64 xs) ∧ wa.cell? ⟨u, k * 4, none⟩ = some (.string xf) ∧ wa.cell? ⟨u, k * 4 + 1, none⟩ = some (.string xe) ∧ wa.cell? ⟨u, k * 4 + 2, none⟩ = some (.int .i64 xn) ∧ wa.cell? ⟨u, k * 4 + 3, none⟩ = some (.int .i64 xs) ∧ (Blk wa g 70 #[.string xf, .string xe, .int .i64 xn, .int .i64 xs] ∧ wa.ownsRow w2.heap.size 70 4 (.slice (some ⟨u, 0, none⟩) N cA) N (bxV L) ∧ wa.ownsRow w2.heap.size 70 4 (.slice (some ⟨u5, 0, none⟩) m c5) m (bxV D))) → BnI w wa b v9 (L.drop (k + 1)) → Calls Try.prog 35 #[.pointer (some ⟨b, 0, none⟩), .string xf, .string xe, .int .i64 xn] wa fun r wb => r = .returned (.bool false) ∧ (wb.cell? ⟨g, 0, none⟩ = some (.string xf) ∧ wb.cell? ⟨g, 1, none⟩ = some (.string xe) ∧ wb.cell? ⟨g, 2, none⟩ = some (.int .i64 xn) ∧ wb.cell? ⟨g, 3, none⟩ = some (.int .i64 xs) ∧ wb.cell? ⟨u, k * 4, none⟩ = some (.string xf) ∧ wb.cell? ⟨u, k * 4 + 1, none⟩ = some (.string xe) ∧ wb.cell? ⟨u, k * 4 + 2, none⟩ = some (.int .i64 xn) ∧ wb.cell? ⟨u, k * 4 + 3, none⟩ = some (.int .i64 xs) ∧ (Blk wb g 70 #[.string xf, .string xe, .int .i64 xn, .int .i64 xs] ∧ wb.ownsRow w2.heap.size 70 4 (.slice (some ⟨u, 0, none⟩) N cA) N (bxV L) ∧ wb.ownsRow w2.heap.size 70 4 (.slice (some ⟨u5, 0, none⟩) m c5) m (bxV D))) ∧ BnI w wb b v9 (L.drop (k + 1)) := fun h hi => by
              refine (Take_no hi.bn HNO.out.1).mono ?_
              rintro r wb ⟨rfl, hb⟩
              exact ⟨rfl, keep h hb, hi.below hb⟩
            have z1 : (0 : Int) ≤ (k : Int) := by omega
            have z2 : (k : Int) < (N : Int) := by omega
            clear hw9 hg hb9 hk9 i9 hz hV8 hB2 c0 c1 c2 c3 cons
            go_region_held3 (fun wa => wa.cell? ⟨g, 0, none⟩ = some (.string xf) ∧ wa.cell? ⟨g, 1, none⟩ = some (.string xe) ∧ wa.cell? ⟨g, 2, none⟩ = some (.int .i64 xn) ∧ wa.cell? ⟨g, 3, none⟩ = some (.int .i64 xs) ∧ wa.cell? ⟨u, k * 4, none⟩ = some (.string xf) ∧ wa.cell? ⟨u, k * 4 + 1, none⟩ = some (.string xe) ∧ wa.cell? ⟨u, k * 4 + 2, none⟩ = some (.int .i64 xn) ∧ wa.cell? ⟨u, k * 4 + 3, none⟩ = some (.int .i64 xs) ∧ (Blk wa g 70 #[.string xf, .string xe, .int .i64 xn, .int .i64 xs] ∧ wa.ownsRow w2.heap.size 70 4 (.slice (some ⟨u, 0, none⟩) N cA) N (bxV L) ∧ wa.ownsRow w2.heap.size 70 4 (.slice (some ⟨u5, 0, none⟩) m c5) m (bxV D))) (first | assumption | exact keep (by assumption) (by assumption) | exact keep (by assumption) hD) (first | (go_at_call 35; refine (hT1 (by assumption) (by assumption)).mono ?_; rintro e w10 ⟨rfl, hs10, v10, hi10, hv10⟩) | (go_at_call 35; refine (hT2 (by assumption) (by assumption)).mono ?_; rintro e w11 ⟨rfl, hs11, hi11⟩))
            all_goals
              go_wp2_with fail
              refine ⟨?_, by simp [intOf]; omega⟩
              exact Lib.hid ⟨k + 1, v10, by simp, by omega, hv10, hi11, hs11.2.2.2.2.2.2.2.2.2.1, hs11.2.2.2.2.2.2.2.2.2.2, _, rfl⟩
          · have hkm : k = m := by omega
            subst hkm
            have hdl : (L.drop k).length = N - k := by rw [List.length_drop, HO.out.len]
            obtain ⟨K, hK⟩ : ∃ K, K = N - k := ⟨_, rfl⟩
            have hC4 := All_b I8.out.bn
            rw [hdl, ← hK] at hC4
            have n4 : ((K : Int) == (N : Int) - (k : Int)) = true := by simp; omega
            clear hdl hK
            go_wp2_with fail
            refine hC4.mono ?_
            rintro e w9 ⟨v9, rfl, ho9, hb9⟩
            obtain ⟨A9, c9, rfl, -, -⟩ := own_slice ho9
            have I9 := Lib.hid (I8.out.below hb9)
            clear ho9 hb9 I8 hC4
            have hs : ∀ (j : Nat) (x : Bx), (L.drop k)[j]? = some x → 0 ≤ x.s ∧ x.s ≤ 1000 := fun j x hx => HS.out (k + j) x (by rwa [List.getElem?_drop] at hx)
            have hnil : (L.drop k).filter (dueF t d) = [] := by
              have e1 : k = atS (t - d) L L.length := by
                have h1 := take_up (s := t - d) HO.out.srt
                have h2 : (L.filter (upB (t - d))).length = k := by rw [← HDM.out, HD.out]; rfl
                rw [h1, List.length_take, Nat.min_eq_left (atS_le _ _ _)] at h2
                exact h2.symm
              rw [List.filter_eq_nil_iff]
              intro y hy
              rw [e1] at hy
              have := atS_drop y hy
              simp [dueF]
              omega
            have hC5 := Due_b I9.out.bn t d hs (by omega) (by omega) (by omega) (by omega)
            rw [hnil] at hC5
            clear hs hnil
            go_wp2_with fail
            refine hC5.mono ?_
            rintro e w10 ⟨v10, rfl, ho10, hb10⟩
            obtain ⟨A10, c10, rfl, -, -⟩ := own_slice ho10
            have hbe : Hid (Below w.heap.size w w10) := Lib.hid (I9.out.bel.trans (hb10.mono I9.out.bel.size))
            clear ho10 hb10 I9 hC5
            go_wp2_with fail
            refine (wkk _).mono ?_
            rintro e w11 ⟨rfl, hb11⟩
            go_wp2_with fail
            go_ret
            exact ⟨rfl, hbe.out.trans (hb11.mono hbe.out.size)⟩

end Go.Proofs.Ytiflhfhonhbcpaa.binOrder
