/- The streams: the plain answer's. -/
import Derived.Test.YticmldkgkfcoeaaWaF
import Derived.Test.YticmldkgkfcoeaaWaH
namespace Go.Proofs.Yticmldkgkfcoeaa.Wa
open Go Go.RowKit Go.Proofs.Yticmldkgkfcoeaa Go.Proofs.Yticmldkgkfcoeaa.Crw Go.ChangeShapes Go.WideShapes Go.ChangeAt
set_option linter.unusedVariables false
set_option maxRecDepth 100000
def okX (L : List Sd) (x : Sd) : Bool := x.kd != 11 || look (upd x.F x.T L) (nums x.F x.T L) 0 1
/-- As a whole, all may be. -/
def okR (L : List Sd) : Bool := L.all (okX L)
theorem okR_fail {L : List Sd} {k : Nat} {x : Sd} (hx : L[k]? = some x) (h : okX L x = false) : okR L = false := by
  unfold okR
  rw [List.all_eq_false]
  exact ⟨x, List.mem_of_getElem? hx, by simp [h]⟩
theorem okX_eq {L : List Sd} {x : Sd} (h : x.kd = 11) : okX L x = look (upd x.F x.T L) (nums x.F x.T L) 0 1 := by
  unfold okX
  rw [h]
  rfl
theorem okR_all {L : List Sd} (h : ∀ (j : Nat) (x : Sd), j < L.length → L[j]? = some x → okX L x = true) : okR L = true := by
  unfold okR
  rw [List.all_eq_true]
  intro x hx
  obtain ⟨j, hj⟩ := List.getElem?_of_mem hx
  exact h j x (List.getElem?_eq_some_iff.1 hj).1 hj
theorem look_drop {U : List (Int × Int)} {N : List Int} {i : Nat} {a s : Int} (h : N[i]? = some a) : look U (N.drop i) i s = if a = i + 1 then (match unif a 0 U with
    | none => false
    | some t => may s t && look U (N.drop (i + 1)) (i + 1) t) else false := by
  have hl := (List.getElem?_eq_some_iff.1 h).1
  have ha : N[i] = a := (List.getElem?_eq_some_iff.1 h).2
  rw [List.drop_eq_getElem_cons hl, ha]
  rfl
theorem unif_no {f t : ByteArray} {L : List Sd} {q : Nat} {y : Sd} {a nx : Int} (hy : L[q]? = some y) (h : unif a 0 (upd f t (L.take q)) = some nx) (hs : sel f t y = false) : unif a 0 (upd f t (L.take (q + 1))) = some nx := by
  rw [upd_no hy hs]
  exact h
theorem unif_num {f t : ByteArray} {L : List Sd} {q : Nat} {y : Sd} {a nx : Int} (hy : L[q]? = some y) (h : unif a 0 (upd f t (L.take q)) = some nx) (hs : sel f t y = true) (hn : ¬ y.nu = a) : unif a 0 (upd f t (L.take (q + 1))) = some nx := by
  rw [upd_yes hy hs, unif_append, h]
  simp only [Option.bind_some, unif]
  rw [if_neg hn]
theorem unif_yes {f t : ByteArray} {L : List Sd} {q : Nat} {y : Sd} {a nx : Int} (hy : L[q]? = some y) (h : unif a 0 (upd f t (L.take q)) = some nx) (hs : sel f t y = true) (hn : y.nu = a) : unif a 0 (upd f t (L.take (q + 1))) = if nx ≠ 0 ∧ y.st ≠ nx then none else some y.st := by
  rw [upd_yes hy hs, unif_append, h]
  simp only [Option.bind_some, unif]
  rw [if_pos hn]
theorem unif_fail {f t : ByteArray} {L : List Sd} {q : Nat} {a : Int} (h : unif a 0 (upd f t (L.take q)) = none) : unif a 0 (upd f t L) = none := by
  obtain ⟨r, hr⟩ := upd_split f t L q
  rw [hr, unif_append, h]
  rfl

set_option maxHeartbeats 16000000 in
theorem Streams_r (v : Value) (n B : Nat) (L : List Sd) (w : World) (hr : w.ownsRow B 46 11 v n (sdV L)) (hn : n ≤ 400) :
    Calls Try.prog 10 #[v] w fun e w' => e = .returned (.bool (okR L)) ∧ Below w.heap.size w w' := by
  obtain ⟨A, c, rfl, hc, -⟩ := own_slice hr
  have hl : L.length = n := by have := hr.1; rw [sdV_len] at this; omega
  have HR := Lib.hid hr
  have HL := Lib.hid hl
  have HM := Lib.hid (fun s t w => MayR s t w)
  clear hr hl
  go_enter Try.func10, Try.ntmps10
  go_wp2_with fail
  go_loopw [15] (fun v15 wx => Hid (∃ (k : Nat), v15 = .int .i64 k ∧ k ≤ n ∧ (∀ (j : Nat) (x : Sd), j < k → L[j]? = some x → okX L x = true) ∧ Below w.heap.size w wx ∧ ∃ w7, w7 = wx)) (fun v15 _ => n - (intOf v15).toNat)
  case atStart => exact Lib.hid ⟨0, rfl, by omega, fun j x h => by omega, Below.refl _ _, _, rfl⟩
  case round =>
    obtain ⟨k, rfl, hk, hp, hb, w7, hw7⟩ := hrel.out
    subst hw7
    clear hrel
    have HP := Lib.hid hp
    have HB7 := Lib.hid hb
    have hr7 := own_keep HR.out hb
    clear hp hb
    by_cases hlt : (k : Int) < n
    · obtain ⟨x, hx⟩ : ∃ x, L[k]? = some x := ⟨L[k]'(by have := HL.out; omega), List.getElem?_eq_getElem _⟩
      obtain ⟨u, rfl⟩ := own_some hr7 (by omega)
      have cc : ∀ j, j < 11 → w7.cell? ⟨u, k * 11 + j, none⟩ = (sd11 x)[j]? := fun j hj => (hr7.cellAt (k * 11 + j) (by omega)).trans (sdV_get L k x (by assumption) j hj)
      have q0 : w7.cell? ⟨u, k * 11, none⟩ = some (.int .i64 x.kd) := cc 0 (by omega)
      have q1 : w7.cell? ⟨u, k * 11 + 1, none⟩ = some (.string x.F) := cc 1 (by omega)
      have q2 : w7.cell? ⟨u, k * 11 + 2, none⟩ = some (.string x.E) := cc 2 (by omega)
      have q3 : w7.cell? ⟨u, k * 11 + 3, none⟩ = some (.string x.T) := cc 3 (by omega)
      have q4 : w7.cell? ⟨u, k * 11 + 4, none⟩ = some (.int .i64 x.nn) := cc 4 (by omega)
      have q5 : w7.cell? ⟨u, k * 11 + 5, none⟩ = some (.int .i64 x.st) := cc 5 (by omega)
      have q6 : w7.cell? ⟨u, k * 11 + 6, none⟩ = some (.int .i64 x.nu) := cc 6 (by omega)
      have q7 : w7.cell? ⟨u, k * 11 + 7, none⟩ = some (.int .i64 x.ep) := cc 7 (by omega)
      have q8 : w7.cell? ⟨u, k * 11 + 8, none⟩ = some (.slice x.A x.ni x.ci) := cc 8 (by omega)
      have q9 : w7.cell? ⟨u, k * 11 + 9, none⟩ = some (.int .i64 x.me) := cc 9 (by omega)
      have q10 : w7.cell? ⟨u, k * 11 + 10, none⟩ = some (.int .i64 x.at_) := cc 10 (by omega)
      have hk0 : (0 : Int) ≤ (k : Int) := by omega
      have HX := Lib.hid hx
      clear cc hr7 hx
      go_upto_region 4 with fail
      obtain ⟨w6a, hw6⟩ : ∃ w6, w6 = w7.alloc (.cells #[.int .i64 x.kd, .string x.F, .string x.E, .string x.T, .int .i64 x.nn, .int .i64 x.st, .int .i64 x.nu, .int .i64 x.ep, .slice x.A x.ni x.ci, .int .i64 x.me, .int .i64 x.at_] 46) := ⟨_, rfl⟩
      obtain ⟨g6a, hg6⟩ : ∃ g, g = w7.heap.size := ⟨_, rfl⟩
      rw [← hw6, ← hg6]
      have hbxa : Blk w6a g6a 46 #[.int .i64 x.kd, .string x.F, .string x.E, .string x.T, .int .i64 x.nn, .int .i64 x.st, .int .i64 x.nu, .int .i64 x.ep, .slice x.A x.ni x.ci, .int .i64 x.me, .int .i64 x.at_] := by rw [hw6, hg6]; exact Blk.new _ _ _
      have hb6a : Below w7.heap.size w7 w6a := by rw [hw6]; exact (Below.refl _ _).alloc (Nat.le_refl _) _
      clear hw6 hg6
      have b0 := hbxa.cell 0
      have b1 := hbxa.cell 1
      have b3 := hbxa.cell 3
      have HB6 := Lib.hid (HB7.out.trans (hb6a.mono HB7.out.size))
      clear q0 q1 q2 q3 q4 q5 q6 q7 q8 q9 q10 hbxa hb6a
      by_cases h1 : x.kd = 11
      · rw [h1] at b0
        go_upto_region 6 with fail
        obtain ⟨w9, hw9⟩ : ∃ w9, w9 = w6a.alloc (.cells #[.string x.F, .string x.T] 30) := ⟨_, rfl⟩
        obtain ⟨gk, hgk⟩ : ∃ g, g = w6a.heap.size := ⟨_, rfl⟩
        rw [← hw9, ← hgk]
        have hb9 : Below w6a.heap.size w6a w9 := by rw [hw9]; exact (Below.refl _ _).alloc (Nat.le_refl _) _
        have hk9 : Blk w9 gk 30 #[.string x.F, .string x.T] := by rw [hw9, hgk]; exact Blk.new _ _ _
        have HB9 := Lib.hid (HB6.out.trans (hb9.mono HB6.out.size))
        have HK9 := Lib.hid hk9
        have kk0 := hk9.cell 0
        have kk1 := hk9.cell 1
        have hSt := Sent_r (.slice (some ⟨u, 0, none⟩) n c) n B L x.F x.T w9 (own_keep HR.out HB9.out) hn
        clear b0 b1 b3 hw9 hgk hb9 hk9
        obtain ⟨U, hU⟩ : ∃ U, U = upd x.F x.T L := ⟨_, rfl⟩
        obtain ⟨N, hN⟩ : ∃ N, N = nums x.F x.T L := ⟨_, rfl⟩
        rw [← hN] at hSt
        have hNl : N.length ≤ 400 := by rw [hN]; exact Nat.le_trans (nums_len _ _ _) (by have := HL.out; omega)
        have HOX := Lib.hid (show okX L x = look U N 0 1 by rw [okX_eq h1, hU, hN])
        have HU := Lib.hid hU
        have HNL := Lib.hid hNl
        clear hU hN hNl
        go_wp2_with (go_at_call 8; refine hSt.mono ?_; rintro e w1 ⟨v1, rfl, ho1, hb1⟩; obtain ⟨A1, c1, rfl, -, -⟩ := own_slice ho1; clear kk0 kk1; have HB1 := Lib.hid (HB9.out.trans (hb1.mono HB9.out.size)); have HK1 := Lib.hid (HK9.out.below hb1 HK9.out.lt); have HO1 := Lib.hid ho1; clear ho1 hb1 hSt)
        go_loopw [6, 34] (fun v6 v34 wx => Hid (∃ (i : Nat) (s : Int), v34 = .int .i64 i ∧ i ≤ N.length ∧ v6 = .int .i64 s ∧ look U N 0 1 = look U (N.drop i) i s ∧ Below w.heap.size w wx ∧ Blk wx gk 30 #[.string x.F, .string x.T] ∧ wx.ownsRow w9.heap.size 3 1 (.slice A1 N.length c1) N.length (N.map (Value.int .i64)) ∧ ∃ w7, w7 = wx)) (fun _ v34 _ => N.length - (intOf v34).toNat)
        case atStart => exact Lib.hid ⟨0, 1, rfl, by omega, rfl, rfl, HB1.out, HK1.out, HO1.out, _, rfl⟩
        case round =>
          obtain ⟨i, s, rfl, hi, rfl, hlk, hb, hkk, ho, w2, hw2⟩ := hrel.out
          subst hw2
          clear hrel
          have HLK := Lib.hid hlk
          have HB2 := Lib.hid hb
          have HK2 := Lib.hid hkk
          have HO2 := Lib.hid ho
          have hr2 := Reads.of_own ho
          clear hlk hb hkk ho
          by_cases hlt2 : (i : Int) < N.length
          · obtain ⟨ad, a, rfl, ha, hca⟩ := ints_atI hr2 (by omega : i < N.length)
            have hi0 : (0 : Int) ≤ (i : Int) := by omega
            have hi9 : i ≤ 400 := by have := HNL.out; omega
            have z1 : IntKind.i64.wrap ((i : Int) + 1) = (i : Int) + 1 := by rw [IntKind.wrap_i64]; omega
            have HA := Lib.hid ha
            clear hr2 ha
            by_cases hai : a = (i : Int) + 1
            · have hai2 : (a != (i : Int) + 1) = false := by simpa [bne] using hai
              have HAI := Lib.hid hai
              clear hai
              go_wp2_with fail
              go_loopw [9, 45] (fun v9 v45 wx => Hid (∃ (q : Nat) (nx : Int), v45 = .int .i64 q ∧ q ≤ n ∧ v9 = .int .i64 nx ∧ unif a 0 (upd x.F x.T (L.take q)) = some nx ∧ Below w.heap.size w wx ∧ Blk wx gk 30 #[.string x.F, .string x.T] ∧ wx.ownsRow w9.heap.size 3 1 (.slice (some ad) N.length c1) N.length (N.map (Value.int .i64)) ∧ ∃ w7, w7 = wx)) (fun _ v45 _ => n - (intOf v45).toNat)
              case atStart => exact Lib.hid ⟨0, 0, rfl, by omega, rfl, rfl, HB2.out, HK2.out, HO2.out, _, rfl⟩
              case round =>
                obtain ⟨q, nx, rfl, hq, rfl, hun, hb, hkk, ho, w3, hw3⟩ := hrel.out
                subst hw3
                clear hrel
                have HUN := Lib.hid hun
                have HB3 := Lib.hid hb
                have HK3 := Lib.hid hkk
                have HO3 := Lib.hid ho
                have hr3 := own_keep HR.out hb
                clear hun hb hkk ho
                by_cases hlt3 : (q : Int) < n
                · obtain ⟨y, hy⟩ : ∃ y, L[q]? = some y := ⟨L[q]'(by have := HL.out; omega), List.getElem?_eq_getElem _⟩
                  have cc : ∀ j, j < 11 → w3.cell? ⟨u, q * 11 + j, none⟩ = (sd11 y)[j]? := fun j hj => (hr3.cellAt (q * 11 + j) (by omega)).trans (sdV_get L q y (by assumption) j hj)
                  have q0 : w3.cell? ⟨u, q * 11, none⟩ = some (.int .i64 y.kd) := cc 0 (by omega)
                  have q1 : w3.cell? ⟨u, q * 11 + 1, none⟩ = some (.string y.F) := cc 1 (by omega)
                  have q2 : w3.cell? ⟨u, q * 11 + 2, none⟩ = some (.string y.E) := cc 2 (by omega)
                  have q3 : w3.cell? ⟨u, q * 11 + 3, none⟩ = some (.string y.T) := cc 3 (by omega)
                  have q4 : w3.cell? ⟨u, q * 11 + 4, none⟩ = some (.int .i64 y.nn) := cc 4 (by omega)
                  have q5 : w3.cell? ⟨u, q * 11 + 5, none⟩ = some (.int .i64 y.st) := cc 5 (by omega)
                  have q6 : w3.cell? ⟨u, q * 11 + 6, none⟩ = some (.int .i64 y.nu) := cc 6 (by omega)
                  have q7 : w3.cell? ⟨u, q * 11 + 7, none⟩ = some (.int .i64 y.ep) := cc 7 (by omega)
                  have q8 : w3.cell? ⟨u, q * 11 + 8, none⟩ = some (.slice y.A y.ni y.ci) := cc 8 (by omega)
                  have q9 : w3.cell? ⟨u, q * 11 + 9, none⟩ = some (.int .i64 y.me) := cc 9 (by omega)
                  have q10 : w3.cell? ⟨u, q * 11 + 10, none⟩ = some (.int .i64 y.at_) := cc 10 (by omega)
                  have hq0 : (0 : Int) ≤ (q : Int) := by omega
                  have HY := Lib.hid hy
                  clear cc hr3 hy
                  go_upto_region 16 with fail
                  obtain ⟨w6b, hw6⟩ : ∃ w6, w6 = w3.alloc (.cells #[.int .i64 y.kd, .string y.F, .string y.E, .string y.T, .int .i64 y.nn, .int .i64 y.st, .int .i64 y.nu, .int .i64 y.ep, .slice y.A y.ni y.ci, .int .i64 y.me, .int .i64 y.at_] 46) := ⟨_, rfl⟩
                  obtain ⟨g6b, hg6⟩ : ∃ g, g = w3.heap.size := ⟨_, rfl⟩
                  rw [← hw6, ← hg6]
                  have hbxb : Blk w6b g6b 46 #[.int .i64 y.kd, .string y.F, .string y.E, .string y.T, .int .i64 y.nn, .int .i64 y.st, .int .i64 y.nu, .int .i64 y.ep, .slice y.A y.ni y.ci, .int .i64 y.me, .int .i64 y.at_] := by rw [hw6, hg6]; exact Blk.new _ _ _
                  have hb6b : Below w3.heap.size w3 w6b := by rw [hw6]; exact (Below.refl _ _).alloc (Nat.le_refl _) _
                  clear hw6 hg6
                  have b0 := hbxb.cell 0
                  have b1 := hbxb.cell 1
                  have b2 := hbxb.cell 2
                  have b3 := hbxb.cell 3
                  have b4 := hbxb.cell 4
                  have b5 := hbxb.cell 5
                  have b6 := hbxb.cell 6
                  have b7 := hbxb.cell 7
                  have b8 := hbxb.cell 8
                  clear q0 q1 q2 q3 q4 q5 q6 q7 q8 q9 q10 hbxb
                  go_upto_region 17 with fail
                  obtain ⟨w4, hw4⟩ : ∃ w4, w4 = w6b.alloc (.cells #[.int .i64 y.kd, .string y.F, .string y.E, .string y.T, .int .i64 y.nn, .int .i64 y.st, .int .i64 y.nu, .int .i64 y.ep, .slice y.A y.ni y.ci] 40) := ⟨_, rfl⟩
                  obtain ⟨g4, hg4⟩ : ∃ g, g = w6b.heap.size := ⟨_, rfl⟩
                  rw [← hw4, ← hg4]
                  have hbm : Blk w4 g4 40 #[.int .i64 y.kd, .string y.F, .string y.E, .string y.T, .int .i64 y.nn, .int .i64 y.st, .int .i64 y.nu, .int .i64 y.ep, .slice y.A y.ni y.ci] := by rw [hw4, hg4]; exact Blk.new _ _ _
                  have hb4 : Below w3.heap.size w3 w4 := by rw [hw4]; exact hb6b.alloc (by have := hb6b.size; omega) _
                  have hk4 := HK3.out.below hb4 HK3.out.lt
                  have HB4 := Lib.hid (HB3.out.trans (hb4.mono HB3.out.size))
                  have HO4 := Lib.hid (own_keep HO3.out hb4)
                  have k0 := hk4.cell 0
                  have k1 := hk4.cell 1
                  have m0 := hbm.cell 0
                  have m1 := hbm.cell 1
                  have m3 := hbm.cell 3
                  have m5 := hbm.cell 5
                  have m6 := hbm.cell 6
                  have HK4 := Lib.hid hk4
                  clear b0 b1 b2 b3 b4 b5 b6 b7 b8 hw4 hg4 hbm hb6b hb4 hk4
                  have fin : ∀ (z : Int), unif a 0 (upd x.F x.T (L.take (q + 1))) = some z → Hid (∃ (q' : Nat) (nx' : Int), Value.int .i64 ((q : Int) + 1) = .int .i64 q' ∧ q' ≤ n ∧ Value.int .i64 z = .int .i64 nx' ∧ unif a 0 (upd x.F x.T (L.take q')) = some nx' ∧ Below w.heap.size w w4 ∧ Blk w4 gk 30 #[.string x.F, .string x.T] ∧ w4.ownsRow w9.heap.size 3 1 (.slice (some ad) N.length c1) N.length (N.map (Value.int .i64)) ∧ ∃ w7, w7 = w4) := fun z hz => Lib.hid ⟨q + 1, _, by simp, by omega, rfl, hz, HB4.out, HK4.out, HO4.out, _, rfl⟩
                  have FIN := Lib.hid fin
                  clear fin
                  have hcs : (¬ y.kd = 11) ∨ (y.kd = 11 ∧ (y.F.toList == x.F.toList) = false) ∨ (y.kd = 11 ∧ (y.F.toList == x.F.toList) = true ∧ (y.T.toList == x.T.toList) = false) ∨ (y.kd = 11 ∧ (y.F.toList == x.F.toList) = true ∧ (y.T.toList == x.T.toList) = true) := by
                    by_cases h1 : y.kd = 11
                    · cases h2 : (y.F.toList == x.F.toList)
                      · exact .inr (.inl ⟨h1, rfl⟩)
                      · cases h3 : (y.T.toList == x.T.toList)
                        · exact .inr (.inr (.inl ⟨h1, rfl, rfl⟩))
                        · exact .inr (.inr (.inr ⟨h1, rfl, rfl⟩))
                    · exact .inl h1
                  rcases hcs with g1 | ⟨g1, g2⟩ | ⟨g1, g2, g3⟩ | ⟨g1, g2, g3⟩
                  · have hn := Lib.hid (FIN.out _ (unif_no HY.out HUN.out (by unfold sel; simp [g1])))
                    have g1b : (y.kd == 11) = false := by simpa using g1
                    go_wp2_with fail
                    refine ⟨?_, by simp [intOf]; omega⟩
                    exact hn.out
                  · have hn := Lib.hid (FIN.out _ (unif_no HY.out HUN.out (by unfold sel; simp [g1, g2])))
                    rw [g1] at m0
                    go_wp2_with fail
                    refine ⟨?_, by simp [intOf]; omega⟩
                    exact hn.out
                  · have hn := Lib.hid (FIN.out _ (unif_no HY.out HUN.out (by unfold sel; simp [g1, g2, g3])))
                    rw [g1] at m0
                    go_wp2_with fail
                    refine ⟨?_, by simp [intOf]; omega⟩
                    exact hn.out
                  · have HS := Lib.hid (show sel x.F x.T y = true by unfold sel; simp [g1, g2, g3])
                    rw [g1] at m0
                    by_cases hnu : y.nu = a
                    · have hy2 := unif_yes HY.out HUN.out HS.out hnu
                      have hnu2 : (y.nu == a) = true := by simpa using hnu
                      by_cases hz : nx ≠ 0 ∧ y.st ≠ nx
                      · rw [if_pos hz] at hy2
                        have hz1 : (nx != 0) = true := by simpa using hz.1
                        have hz2 : (y.st != nx) = true := by simpa using hz.2
                        have HF := Lib.hid (unif_fail hy2)
                        clear hy2 hz hnu
                        go_wp2_with fail
                        go_ret
                        refine ⟨?_, HB4.out⟩
                        have hfl : okX L x = false := by
                          rw [HOX.out, HLK.out, look_drop HA.out, HU.out, HF.out]
                          split <;> rfl
                        rw [okR_fail HX.out hfl]
                        rfl
                      · rw [if_neg hz] at hy2
                        have hn := Lib.hid (FIN.out _ hy2)
                        have hz3 : (nx = 0) ∨ (¬ nx = 0 ∧ y.st = nx) := by
                          by_cases h : nx = 0
                          · exact .inl h
                          · exact .inr ⟨h, Classical.byContradiction fun h2 => hz ⟨h, h2⟩⟩
                        clear hy2 hz hnu
                        rcases hz3 with h0 | ⟨h0, h5⟩
                        · have h0b : (nx != 0) = false := by simpa [bne] using h0
                          clear h0
                          go_wp2_with fail
                          refine ⟨?_, by simp [intOf]; omega⟩
                          exact hn.out
                        · have h0b : (nx != 0) = true := by simpa using h0
                          have h5b : (y.st != nx) = false := by simpa [bne] using h5
                          clear h5 h0
                          go_wp2_with fail
                          refine ⟨?_, by simp [intOf]; omega⟩
                          exact hn.out
                    · have hn := Lib.hid (FIN.out _ (unif_num HY.out HUN.out HS.out hnu))
                      have hnu2 : (y.nu == a) = false := by simpa using hnu
                      go_wp2_with fail
                      refine ⟨?_, by simp [intOf]; omega⟩
                      exact hn.out
                · have eq : q = L.length := by have := HL.out; omega
                  have hun := HUN.out
                  rw [eq, List.take_length, ← HU.out] at hun
                  have hld : look U (N.drop i) i s = (may s nx && look U (N.drop (i + 1)) (i + 1) nx) := by
                    rw [look_drop HA.out, if_pos HAI.out, hun]
                  have hMs := HM.out s nx
                  clear eq hun
                  cases hm : may s nx with
                  | true =>
                    rw [hm] at hMs hld
                    rw [Bool.true_and] at hld
                    have HLD := Lib.hid hld
                    clear hld
                    go_wp2_with (go_at_call 15; refine (hMs _).mono ?_; rintro e w' ⟨rfl, rfl⟩)
                    refine ⟨?_, by simp [intOf]; omega⟩
                    exact Lib.hid ⟨i + 1, nx, by simp, by omega, rfl, by rw [HLK.out, HLD.out], HB3.out, HK3.out, HO3.out, _, rfl⟩
                  | false =>
                    rw [hm] at hMs hld
                    have HLD := Lib.hid hld
                    clear hld
                    go_wp2_with (go_at_call 15; refine (hMs _).mono ?_; rintro e w' ⟨rfl, rfl⟩)
                    go_ret
                    refine ⟨?_, HB3.out⟩
                    have hfl : okX L x = false := by
                      rw [HOX.out, HLK.out, HLD.out]
                      rfl
                    rw [okR_fail HX.out hfl]
                    rfl
            · have hai2 : (a != (i : Int) + 1) = true := by simpa [bne] using hai
              have hfl : okX L x = false := by
                rw [HOX.out, HLK.out, look_drop HA.out, if_neg hai]
              have HF := Lib.hid (okR_fail HX.out hfl)
              clear hai hfl
              go_wp2_with fail
              go_ret
              exact ⟨by rw [HF.out]; rfl, HB2.out⟩
          · go_wp2_with fail
            refine ⟨?_, by simp [intOf]; omega⟩
            refine Lib.hid ⟨k + 1, by simp, by omega, fun j x2 hj hx2 => ?_, HB2.out, _, rfl⟩
            rcases Nat.lt_or_ge j k with hl | hl
            · exact HP.out j x2 hl hx2
            · have : j = k := by omega
              subst this
              rw [HX.out] at hx2
              injection hx2 with hx2
              subst hx2
              have hd : N.drop i = [] := List.drop_eq_nil_of_le (by omega)
              rw [HOX.out, HLK.out, hd]
              rfl
      · have h1b : (x.kd == 11) = false := by simpa using h1
        go_wp2_with fail
        refine ⟨?_, by simp [intOf]; omega⟩
        refine Lib.hid ⟨k + 1, by simp, by omega, fun j x2 hj hx2 => ?_, HB6.out, _, rfl⟩
        rcases Nat.lt_or_ge j k with hl | hl
        · exact HP.out j x2 hl hx2
        · have : j = k := by omega
          subst this
          rw [HX.out] at hx2
          injection hx2 with hx2
          subst hx2
          unfold okX
          simp [h1]
    · go_wp2_with fail
      go_ret
      refine ⟨?_, HB7.out⟩
      rw [okR_all fun j x hj hx => HP.out j x (by have := HL.out; omega) hx]
      rfl
end Go.Proofs.Yticmldkgkfcoeaa.Wa
