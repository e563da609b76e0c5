/- The numbers of one task's updates: the plain answer's. -/
import Derived.Test.YticmldkgkfcoeaaWaE
import Derived.OrdersHeld
namespace Go.Proofs.Yticmldkgkfcoeaa.Wa
open Go Go.RowKit Go.Proofs.Yticmldkgkfcoeaa Go.Proofs.Yticmldkgkfcoeaa.Crw Go.ChangeShapes Go.WideShapes Go.ChangeAt
set_option linter.unusedVariables false
set_option maxRecDepth 100000
set_option maxHeartbeats 8000000 in
theorem Sent_r (v : Value) (n B : Nat) (L : List Sd) (f t : ByteArray) (w : World) (hr : w.ownsRow B 46 11 v n (sdV L)) (hn : n ≤ 400) :
    Calls Try.prog 8 #[v, .agg #[.string f, .string t]] w fun e w' => ∃ v', e = .returned v' ∧ w'.ownsRow w.heap.size 3 1 v' (nums f t L).length ((nums f t L).map (Value.int .i64)) ∧ Below w.heap.size w w' := by
  obtain ⟨A, c, rfl, hc, -⟩ := own_slice hr
  have hl : L.length = n := by have := hr.1; rw [sdV_len] at this; omega
  obtain ⟨W, hW⟩ : ∃ W, W = w.alloc (.cells #[.string f, .string t] 30) := ⟨_, rfl⟩
  have hb : Below w.heap.size w W := by rw [hW]; exact (Below.refl _ _).alloc (Nat.le_refl _) _
  have hg : Blk W w.heap.size 30 #[.string f, .string t] := by rw [hW]; exact Blk.new _ _ _
  have HR := Lib.hid hr
  have HB := Lib.hid hb
  have HG := Lib.hid hg
  have HW := Lib.hid hW
  have HL := Lib.hid hl
  clear hr hb hg hW hl
  go_enter Try.func8, Try.ntmps8
  go_upto_region 1 with fail
  rw [← HW.out]
  go_wp2_with fail
  go_loopw [5, 11] (fun v5 v12 wx => Hid (∃ (k : Nat), v12 = .int .i64 k ∧ k ≤ n ∧ wx.ownsRow w.heap.size 3 1 v5 (nums f t (L.take k)).length ((nums f t (L.take k)).map (Value.int .i64)) ∧ Below w.heap.size w wx ∧ Blk wx w.heap.size 30 #[.string f, .string t] ∧ ∃ w7, w7 = wx)) (fun _ v12 _ => n - (intOf v12).toNat)
  case atStart => exact Lib.hid ⟨0, rfl, by omega, ⟨by simp, .inl ⟨rfl, rfl⟩⟩, HB.out, HG.out, _, rfl⟩
  case round =>
    obtain ⟨k, rfl, hk, ho, hb, hgk, w7, hw7⟩ := hrel.out
    subst hw7
    clear hrel
    have hO := Lib.hid ho
    have HB7 := Lib.hid hb
    have HG7 := Lib.hid hgk
    obtain ⟨Ao, co, rfl, hco, -⟩ := own_slice ho
    have hr7 := own_keep HR.out hb
    clear ho hb hgk
    by_cases hlt : (k : Int) < n
    · obtain ⟨x, hx⟩ : ∃ x, L[k]? = some x := ⟨L[k]'(by have := HL.out; omega), List.getElem?_eq_getElem _⟩
      obtain ⟨u, rfl⟩ := own_some hr7 (by omega)
      have cc : ∀ j, j < 11 → w7.cell? ⟨u, k * 11 + j, none⟩ = (sd11 x)[j]? := fun j hj => (hr7.cellAt (k * 11 + j) (by omega)).trans (sdV_get L k x hx j hj)
      have q0 : w7.cell? ⟨u, k * 11, none⟩ = some (.int .i64 x.kd) := cc 0 (by omega)
      have q1 : w7.cell? ⟨u, k * 11 + 1, none⟩ = some (.string x.F) := cc 1 (by omega)
      have q2 : w7.cell? ⟨u, k * 11 + 2, none⟩ = some (.string x.E) := cc 2 (by omega)
      have q3 : w7.cell? ⟨u, k * 11 + 3, none⟩ = some (.string x.T) := cc 3 (by omega)
      have q4 : w7.cell? ⟨u, k * 11 + 4, none⟩ = some (.int .i64 x.nn) := cc 4 (by omega)
      have q5 : w7.cell? ⟨u, k * 11 + 5, none⟩ = some (.int .i64 x.st) := cc 5 (by omega)
      have q6 : w7.cell? ⟨u, k * 11 + 6, none⟩ = some (.int .i64 x.nu) := cc 6 (by omega)
      have q7 : w7.cell? ⟨u, k * 11 + 7, none⟩ = some (.int .i64 x.ep) := cc 7 (by omega)
      have q8 : w7.cell? ⟨u, k * 11 + 8, none⟩ = some (.slice x.A x.ni x.ci) := cc 8 (by omega)
      have q9 : w7.cell? ⟨u, k * 11 + 9, none⟩ = some (.int .i64 x.me) := cc 9 (by omega)
      have q10 : w7.cell? ⟨u, k * 11 + 10, none⟩ = some (.int .i64 x.at_) := cc 10 (by omega)
      have hk0 : (0 : Int) ≤ (k : Int) := by omega
      have HX := Lib.hid hx
      clear cc hr7 hx
      go_upto_region 5 with fail
      obtain ⟨w6, hw6⟩ : ∃ w6, w6 = w7.alloc (.cells #[.int .i64 x.kd, .string x.F, .string x.E, .string x.T, .int .i64 x.nn, .int .i64 x.st, .int .i64 x.nu, .int .i64 x.ep, .slice x.A x.ni x.ci, .int .i64 x.me, .int .i64 x.at_] 46) := ⟨_, rfl⟩
      obtain ⟨g6, hg6⟩ : ∃ g, g = w7.heap.size := ⟨_, rfl⟩
      rw [← hw6, ← hg6]
      have hbx : Blk w6 g6 46 #[.int .i64 x.kd, .string x.F, .string x.E, .string x.T, .int .i64 x.nn, .int .i64 x.st, .int .i64 x.nu, .int .i64 x.ep, .slice x.A x.ni x.ci, .int .i64 x.me, .int .i64 x.at_] := by rw [hw6, hg6]; exact Blk.new _ _ _
      have hb6 : Below w7.heap.size w7 w6 := by rw [hw6]; exact (Below.refl _ _).alloc (Nat.le_refl _) _
      have b0 := hbx.cell 0
      have b1 := hbx.cell 1
      have b2 := hbx.cell 2
      have b3 := hbx.cell 3
      have b4 := hbx.cell 4
      have b5 := hbx.cell 5
      have b6 := hbx.cell 6
      have b7 := hbx.cell 7
      have b8 := hbx.cell 8
      clear q0 q1 q2 q3 q4 q5 q6 q7 q8 q9 q10 hw6 hg6 hbx
      go_upto_region 6 with fail
      obtain ⟨w8, hw8⟩ : ∃ w8, w8 = w6.alloc (.cells #[.int .i64 x.kd, .string x.F, .string x.E, .string x.T, .int .i64 x.nn, .int .i64 x.st, .int .i64 x.nu, .int .i64 x.ep, .slice x.A x.ni x.ci] 40) := ⟨_, rfl⟩
      obtain ⟨g8, hg8⟩ : ∃ g, g = w6.heap.size := ⟨_, rfl⟩
      rw [← hw8, ← hg8]
      have hbm : Blk w8 g8 40 #[.int .i64 x.kd, .string x.F, .string x.E, .string x.T, .int .i64 x.nn, .int .i64 x.st, .int .i64 x.nu, .int .i64 x.ep, .slice x.A x.ni x.ci] := by rw [hw8, hg8]; exact Blk.new _ _ _
      have hb8 : Below w7.heap.size w7 w8 := by rw [hw8]; exact hb6.alloc (by have := hb6.size; omega) _
      have hk8 := HG7.out.below hb8 HG7.out.lt
      have HB8 := Lib.hid (HB7.out.trans (hb8.mono HB7.out.size))
      have HO8 := Lib.hid (own_keep hO.out hb8)
      have k0 := hk8.cell 0
      have k1 := hk8.cell 1
      have m0 := hbm.cell 0
      have m1 := hbm.cell 1
      have m3 := hbm.cell 3
      have m6 := hbm.cell 6
      have HK8 := Lib.hid hk8
      have HM8 := Lib.hid hbm
      clear b0 b1 b2 b3 b4 b5 b6 b7 b8 hw8 hg8 hbm hb6 hb8 hk8
      have hno : ∀ (_ : sel f t x = false), Hid (∃ (k' : Nat), Value.int .i64 ((k : Int) + 1) = .int .i64 k' ∧ k' ≤ n ∧ w8.drew.ownsRow w.heap.size 3 1 (.slice Ao (nums f t (L.take k)).length co) (nums f t (L.take k')).length ((nums f t (L.take k')).map (Value.int .i64)) ∧ Below w.heap.size w w8.drew ∧ Blk w8.drew w.heap.size 30 #[.string f, .string t] ∧ ∃ w7, w7 = w8.drew) := fun hs => Lib.hid ⟨k + 1, by simp, by omega, by rw [nums_no HX.out hs]; exact own_keep HO8.out (Below.refl _ _).drew, HB8.out.drew, HK8.out.below (Below.refl _ _).drew HK8.out.lt, _, rfl⟩
      have hcs : (¬ x.kd = 11) ∨ (x.kd = 11 ∧ (x.F.toList == f.toList) = false) ∨ (x.kd = 11 ∧ (x.F.toList == f.toList) = true ∧ (x.T.toList == t.toList) = false) ∨ (x.kd = 11 ∧ (x.F.toList == f.toList) = true ∧ (x.T.toList == t.toList) = true) := by
        by_cases h1 : x.kd = 11
        · cases h2 : (x.F.toList == f.toList)
          · exact .inr (.inl ⟨h1, rfl⟩)
          · cases h3 : (x.T.toList == t.toList)
            · exact .inr (.inr (.inl ⟨h1, rfl, rfl⟩))
            · exact .inr (.inr (.inr ⟨h1, rfl, rfl⟩))
        · exact .inl h1
      rcases hcs with h1 | ⟨h1, h2⟩ | ⟨h1, h2, h3⟩ | ⟨h1, h2, h3⟩
      · have hn := Lib.hid (hno (by unfold sel; simp [h1]))
        clear hno
        have h1b : (x.kd == 11) = false := by simpa using h1
        refine wp_region_noPanic ?_
        refine wp_region_held_drew (S := fun wa => ((wa.cell? ⟨g8, 0, none⟩ = some (.int .i64 x.kd) ∧ wa.cell? ⟨g8, 1, none⟩ = some (.string x.F) ∧ wa.cell? ⟨g8, 3, none⟩ = some (.string x.T) ∧ wa.cell? ⟨g8, 6, none⟩ = some (.int .i64 x.nu)) ∧ wa.cell? ⟨w.heap.size, 0, none⟩ = some (.string f) ∧ wa.cell? ⟨w.heap.size, 1, none⟩ = some (.string t))) (by kernel_rfl) ⟨⟨m0, m1, m3, m6⟩, k0, k1⟩ (fun hHeld => ?_)
        refine wpAnyH_take (i := 0) (oi := ?oia1) (v := ?va1) ?hia1 (by kernel_rfl) (by kernel_rfl) (by kernel_rfl) (fun _ _ _ h => h) ?hya1 ⟨⟨m0, m1, m3, m6⟩, k0, k1⟩ ?resta1
        case hia1 => (simp only [List.getElem?_toArray, List.getElem?_cons_zero]; try rfl)
        case hya1 => (refine Or.inl ⟨by rfl, ?_⟩; intro w hSw; go_simp; (try with_reducible rfl))
        try simp only [Act.put, List.setIfInBounds_toArray, List.set_cons_zero, List.set_cons_succ]
        refine wpAnyH_take (i := 1) (oi := ?oia2) (v := ?va2) ?hia2 (by kernel_rfl) (by kernel_rfl) (by kernel_rfl) (fun _ _ _ h => h) ?hya2 ⟨⟨m0, m1, m3, m6⟩, k0, k1⟩ ?resta2
        case hia2 => (simp only [List.getElem?_toArray, List.getElem?_cons_succ, List.getElem?_cons_zero]; try rfl)
        case hya2 => (refine Or.inl ⟨by rfl, ?_⟩; intro w hSw; have q := hSw.1.1; go_simp; (try with_reducible rfl))
        try simp only [Act.put, List.setIfInBounds_toArray, List.set_cons_zero, List.set_cons_succ]
        refine wpAnyH_take (i := 2) (oi := ?oia3) (v := ?va3) ?hia3 (by kernel_rfl) (by kernel_rfl) (by kernel_rfl) (fun _ _ _ h => h) ?hya3 ⟨⟨m0, m1, m3, m6⟩, k0, k1⟩ ?resta3
        case hia3 => (simp only [List.getElem?_toArray, List.getElem?_cons_succ, List.getElem?_cons_zero]; try rfl)
        case hya3 => (refine Or.inl ⟨by rfl, ?_⟩; intro w hSw; go_simp; (try with_reducible rfl))
        try simp only [Act.put, List.setIfInBounds_toArray, List.set_cons_zero, List.set_cons_succ]
        refine wpAnyH_take (i := 3) (oi := ?oia4) (v := ?va4) ?hia4 (by kernel_rfl) (by kernel_rfl) (by kernel_rfl) (fun _ _ _ h => h) ?hya4 ⟨⟨m0, m1, m3, m6⟩, k0, k1⟩ ?resta4
        case hia4 => (simp only [List.getElem?_toArray, List.getElem?_cons_succ, List.getElem?_cons_zero]; try rfl)
        case hya4 => (refine Or.inl ⟨by rfl, ?_⟩; intro w hSw; go_simp; (try with_reducible rfl))
        try simp only [Act.put, List.setIfInBounds_toArray, List.set_cons_zero, List.set_cons_succ]
        refine wpAnyH_take (i := 4) (oi := ?oia5) (v := undef) ?hia5 (by kernel_rfl) (by kernel_rfl) (by kernel_rfl) (fun _ _ _ h => h) ?hya5 ⟨⟨m0, m1, m3, m6⟩, k0, k1⟩ ?resta5
        case hia5 => (simp only [List.getElem?_toArray, List.getElem?_cons_succ, List.getElem?_cons_zero]; try rfl)
        case hya5 => exact Or.inr ⟨by rfl, rfl⟩
        try simp only [Act.put, List.setIfInBounds_toArray, List.set_cons_zero, List.set_cons_succ]
        refine wpAnyH_take (i := 5) (oi := ?oia6) (v := undef) ?hia6 (by kernel_rfl) (by kernel_rfl) (by kernel_rfl) (fun _ _ _ h => h) ?hya6 ⟨⟨m0, m1, m3, m6⟩, k0, k1⟩ ?resta6
        case hia6 => (simp only [List.getElem?_toArray, List.getElem?_cons_succ, List.getElem?_cons_zero]; try rfl)
        case hya6 => exact Or.inr ⟨by rfl, rfl⟩
        try simp only [Act.put, List.setIfInBounds_toArray, List.set_cons_zero, List.set_cons_succ]
        refine wpAnyH_take (i := 6) (oi := ?oia7) (v := undef) ?hia7 (by kernel_rfl) (by kernel_rfl) (by kernel_rfl) (fun _ _ _ h => h) ?hya7 ⟨⟨m0, m1, m3, m6⟩, k0, k1⟩ ?resta7
        case hia7 => (simp only [List.getElem?_toArray, List.getElem?_cons_succ, List.getElem?_cons_zero]; try rfl)
        case hya7 => exact Or.inr ⟨by rfl, rfl⟩
        try simp only [Act.put, List.setIfInBounds_toArray, List.set_cons_zero, List.set_cons_succ]
        refine wpAnyH_take (i := 7) (oi := ?oia8) (v := undef) ?hia8 (by kernel_rfl) (by kernel_rfl) (by kernel_rfl) (fun _ _ _ h => h) ?hya8 ⟨⟨m0, m1, m3, m6⟩, k0, k1⟩ ?resta8
        case hia8 => (simp only [List.getElem?_toArray, List.getElem?_cons_succ, List.getElem?_cons_zero]; try rfl)
        case hya8 => exact Or.inr ⟨by rfl, rfl⟩
        try simp only [Act.put, List.setIfInBounds_toArray, List.set_cons_zero, List.set_cons_succ]
        refine wpAnyH_take (i := 8) (oi := ?oia9) (v := undef) ?hia9 (by kernel_rfl) (by kernel_rfl) (by kernel_rfl) (fun _ _ _ h => h) ?hya9 ⟨⟨m0, m1, m3, m6⟩, k0, k1⟩ ?resta9
        case hia9 => (simp only [List.getElem?_toArray, List.getElem?_cons_succ, List.getElem?_cons_zero]; try rfl)
        case hya9 => exact Or.inr ⟨by rfl, rfl⟩
        try simp only [Act.put, List.setIfInBounds_toArray, List.set_cons_zero, List.set_cons_succ]
        refine wpAnyH_take (i := 9) (oi := ?oia10) (v := ?va10) ?hia10 (by kernel_rfl) (by kernel_rfl) (by kernel_rfl) (fun _ _ _ h => h) ?hya10 ⟨⟨m0, m1, m3, m6⟩, k0, k1⟩ ?resta10
        case hia10 => (simp only [List.getElem?_toArray, List.getElem?_cons_succ, List.getElem?_cons_zero]; try rfl)
        case hya10 => (refine Or.inl ⟨by rfl, ?_⟩; intro w hSw; go_simp; (try with_reducible rfl))
        try simp only [Act.put, List.setIfInBounds_toArray, List.set_cons_zero, List.set_cons_succ]
        refine wpAnyH_take (i := 10) (oi := ?oia11) (v := ?va11) ?hia11 (by kernel_rfl) (by kernel_rfl) (by kernel_rfl) (fun _ _ _ h => h) ?hya11 ⟨⟨m0, m1, m3, m6⟩, k0, k1⟩ ?resta11
        case hia11 => (simp only [List.getElem?_toArray, List.getElem?_cons_succ, List.getElem?_cons_zero]; try rfl)
        case hya11 => (refine Or.inl ⟨by rfl, ?_⟩; intro w hSw; go_simp; (try with_reducible rfl))
        try simp only [Act.put, List.setIfInBounds_toArray, List.set_cons_zero, List.set_cons_succ]
        refine wpAnyH_take (i := 11) (oi := ?oia12) (v := undef) ?hia12 (by kernel_rfl) (by kernel_rfl) (by kernel_rfl) (fun _ _ _ h => h) ?hya12 ⟨⟨m0, m1, m3, m6⟩, k0, k1⟩ ?resta12
        case hia12 => (simp only [List.getElem?_toArray, List.getElem?_cons_succ, List.getElem?_cons_zero]; try rfl)
        case hya12 => exact Or.inr ⟨by rfl, rfl⟩
        try simp only [Act.put, List.setIfInBounds_toArray, List.set_cons_zero, List.set_cons_succ]
        refine wpAnyH_take (i := 12) (oi := ?oia13) (v := undef) ?hia13 (by kernel_rfl) (by kernel_rfl) (by kernel_rfl) (fun _ _ _ h => h) ?hya13 ⟨⟨m0, m1, m3, m6⟩, k0, k1⟩ ?resta13
        case hia13 => (simp only [List.getElem?_toArray, List.getElem?_cons_succ, List.getElem?_cons_zero]; try rfl)
        case hya13 => exact Or.inr ⟨by rfl, rfl⟩
        try simp only [Act.put, List.setIfInBounds_toArray, List.set_cons_zero, List.set_cons_succ]
        refine wpAnyH_take (i := 13) (oi := ?oia14) (v := undef) ?hia14 (by kernel_rfl) (by kernel_rfl) (by kernel_rfl) (fun _ _ _ h => h) ?hya14 ⟨⟨m0, m1, m3, m6⟩, k0, k1⟩ ?resta14
        case hia14 => (simp only [List.getElem?_toArray, List.getElem?_cons_succ, List.getElem?_cons_zero]; try rfl)
        case hya14 => exact Or.inr ⟨by rfl, rfl⟩
        try simp only [Act.put, List.setIfInBounds_toArray, List.set_cons_zero, List.set_cons_succ]
        refine wpAnyH_take (i := 14) (oi := ?oia15) (v := undef) ?hia15 (by kernel_rfl) (by kernel_rfl) (by kernel_rfl) (fun _ _ _ h => h) ?hya15 ⟨⟨m0, m1, m3, m6⟩, k0, k1⟩ ?resta15
        case hia15 => (simp only [List.getElem?_toArray, List.getElem?_cons_succ, List.getElem?_cons_zero]; try rfl)
        case hya15 => exact Or.inr ⟨by rfl, rfl⟩
        try simp only [Act.put, List.setIfInBounds_toArray, List.set_cons_zero, List.set_cons_succ]
        refine wpAnyH_take (i := 15) (oi := ?oia16) (v := undef) ?hia16 (by kernel_rfl) (by kernel_rfl) (by kernel_rfl) (fun _ _ _ h => h) ?hya16 ⟨⟨m0, m1, m3, m6⟩, k0, k1⟩ ?resta16
        case hia16 => (simp only [List.getElem?_toArray, List.getElem?_cons_succ, List.getElem?_cons_zero]; try rfl)
        case hya16 => exact Or.inr ⟨by rfl, rfl⟩
        try simp only [Act.put, List.setIfInBounds_toArray, List.set_cons_zero, List.set_cons_succ]
        refine wpAnyH_take (i := 16) (oi := ?oia17) (v := ?va17) ?hia17 (by kernel_rfl) (by kernel_rfl) (by kernel_rfl) (fun _ _ _ h => h) ?hya17 ⟨⟨m0, m1, m3, m6⟩, k0, k1⟩ ?resta17
        case hia17 => (simp only [List.getElem?_toArray, List.getElem?_cons_succ, List.getElem?_cons_zero]; try rfl)
        case hya17 => (refine Or.inl ⟨by rfl, ?_⟩; intro w hSw; go_simp; (try with_reducible rfl))
        try simp only [Act.put, List.setIfInBounds_toArray, List.set_cons_zero, List.set_cons_succ]
        refine wpAnyH_take (i := 17) (oi := ?oia18) (v := ?va18) ?hia18 (by kernel_rfl) (by kernel_rfl) (by kernel_rfl) (fun _ _ _ h => h) ?hya18 ⟨⟨m0, m1, m3, m6⟩, k0, k1⟩ ?resta18
        case hia18 => (simp only [List.getElem?_toArray, List.getElem?_cons_succ, List.getElem?_cons_zero]; try rfl)
        case hya18 => (refine Or.inl ⟨by rfl, ?_⟩; intro w hSw; go_simp; (try with_reducible rfl))
        try simp only [Act.put, List.setIfInBounds_toArray, List.set_cons_zero, List.set_cons_succ]
        refine wpAnyH_take (i := 18) (oi := ?oia19) (v := undef) ?hia19 (by kernel_rfl) (by kernel_rfl) (by kernel_rfl) (fun _ _ _ h => h) ?hya19 ⟨⟨m0, m1, m3, m6⟩, k0, k1⟩ ?resta19
        case hia19 => (simp only [List.getElem?_toArray, List.getElem?_cons_succ, List.getElem?_cons_zero]; try rfl)
        case hya19 => exact Or.inr ⟨by rfl, rfl⟩
        try simp only [Act.put, List.setIfInBounds_toArray, List.set_cons_zero, List.set_cons_succ]
        refine wpAnyH_take (i := 19) (oi := ?oia20) (v := undef) ?hia20 (by kernel_rfl) (by kernel_rfl) (by kernel_rfl) (fun _ _ _ h => h) ?hya20 ⟨⟨m0, m1, m3, m6⟩, k0, k1⟩ ?resta20
        case hia20 => (simp only [List.getElem?_toArray, List.getElem?_cons_succ, List.getElem?_cons_zero]; try rfl)
        case hya20 => exact Or.inr ⟨by rfl, rfl⟩
        try simp only [Act.put, List.setIfInBounds_toArray, List.set_cons_zero, List.set_cons_succ]
        refine wpAnyH_take (i := 20) (oi := ?oia21) (v := undef) ?hia21 (by kernel_rfl) (by kernel_rfl) (by kernel_rfl) (fun _ _ _ h => h) ?hya21 ⟨⟨m0, m1, m3, m6⟩, k0, k1⟩ ?resta21
        case hia21 => (simp only [List.getElem?_toArray, List.getElem?_cons_succ, List.getElem?_cons_zero]; try rfl)
        case hya21 => exact Or.inr ⟨by rfl, rfl⟩
        try simp only [Act.put, List.setIfInBounds_toArray, List.set_cons_zero, List.set_cons_succ]
        refine wpAnyH_take (i := 21) (oi := ?oia22) (v := undef) ?hia22 (by kernel_rfl) (by kernel_rfl) (by kernel_rfl) (fun _ _ _ h => h) ?hya22 ⟨⟨m0, m1, m3, m6⟩, k0, k1⟩ ?resta22
        case hia22 => (simp only [List.getElem?_toArray, List.getElem?_cons_succ, List.getElem?_cons_zero]; try rfl)
        case hya22 => exact Or.inr ⟨by rfl, rfl⟩
        try simp only [Act.put, List.setIfInBounds_toArray, List.set_cons_zero, List.set_cons_succ]
        refine wpAnyH_take (i := 22) (oi := ?oia23) (v := undef) ?hia23 (by kernel_rfl) (by kernel_rfl) (by kernel_rfl) (fun _ _ _ h => h) ?hya23 ⟨⟨m0, m1, m3, m6⟩, k0, k1⟩ ?resta23
        case hia23 => (simp only [List.getElem?_toArray, List.getElem?_cons_succ, List.getElem?_cons_zero]; try rfl)
        case hya23 => exact Or.inr ⟨by rfl, rfl⟩
        try simp only [Act.put, List.setIfInBounds_toArray, List.set_cons_zero, List.set_cons_succ]
        refine wpAnyH_take (i := 23) (oi := ?oia24) (v := undef) ?hia24 (by kernel_rfl) (by kernel_rfl) (by kernel_rfl) (fun _ _ _ h => h) ?hya24 ⟨⟨m0, m1, m3, m6⟩, k0, k1⟩ ?resta24
        case hia24 => (simp only [List.getElem?_toArray, List.getElem?_cons_succ, List.getElem?_cons_zero]; try rfl)
        case hya24 => exact Or.inr ⟨by rfl, rfl⟩
        try simp only [Act.put, List.setIfInBounds_toArray, List.set_cons_zero, List.set_cons_succ]
        refine wpAnyH_take (i := 24) (oi := ?oia25) (v := undef) ?hia25 (by kernel_rfl) (by kernel_rfl) (by kernel_rfl) (fun _ _ _ h => h) ?hya25 ⟨⟨m0, m1, m3, m6⟩, k0, k1⟩ ?resta25
        case hia25 => (simp only [List.getElem?_toArray, List.getElem?_cons_succ, List.getElem?_cons_zero]; try rfl)
        case hya25 => exact Or.inr ⟨by rfl, rfl⟩
        try simp only [Act.put, List.setIfInBounds_toArray, List.set_cons_zero, List.set_cons_succ]
        refine wpAnyH_take (i := 25) (oi := ?oia26) (v := undef) ?hia26 (by kernel_rfl) (by kernel_rfl) (by kernel_rfl) (fun _ _ _ h => h) ?hya26 ⟨⟨m0, m1, m3, m6⟩, k0, k1⟩ ?resta26
        case hia26 => (simp only [List.getElem?_toArray, List.getElem?_cons_succ, List.getElem?_cons_zero]; try rfl)
        case hya26 => exact Or.inr ⟨by rfl, rfl⟩
        try simp only [Act.put, List.setIfInBounds_toArray, List.set_cons_zero, List.set_cons_succ]
        refine wpAnyH_take (i := 26) (oi := ?oia27) (v := undef) ?hia27 (by kernel_rfl) (by kernel_rfl) (by kernel_rfl) (fun _ _ _ h => h) ?hya27 ⟨⟨m0, m1, m3, m6⟩, k0, k1⟩ ?resta27
        case hia27 => (simp only [List.getElem?_toArray, List.getElem?_cons_succ, List.getElem?_cons_zero]; try rfl)
        case hya27 => exact Or.inr ⟨by rfl, rfl⟩
        try simp only [Act.put, List.setIfInBounds_toArray, List.set_cons_zero, List.set_cons_succ]
        refine wpAnyH_take (i := 27) (oi := ?oia28) (v := undef) ?hia28 (by kernel_rfl) (by kernel_rfl) (by kernel_rfl) (fun _ _ _ h => h) ?hya28 ⟨⟨m0, m1, m3, m6⟩, k0, k1⟩ ?resta28
        case hia28 => (simp only [List.getElem?_toArray, List.getElem?_cons_succ, List.getElem?_cons_zero]; try rfl)
        case hya28 => exact Or.inr ⟨by rfl, rfl⟩
        try simp only [Act.put, List.setIfInBounds_toArray, List.set_cons_zero, List.set_cons_succ]
        refine wpAnyH_take (i := 28) (oi := ?oia29) (v := undef) ?hia29 (by kernel_rfl) (by kernel_rfl) (by kernel_rfl) (fun _ _ _ h => h) ?hya29 ⟨⟨m0, m1, m3, m6⟩, k0, k1⟩ ?resta29
        case hia29 => (simp only [List.getElem?_toArray, List.getElem?_cons_succ, List.getElem?_cons_zero]; try rfl)
        case hya29 => exact Or.inr ⟨by rfl, rfl⟩
        try simp only [Act.put, List.setIfInBounds_toArray, List.set_cons_zero, List.set_cons_succ]
        refine wpAnyH_take (i := 29) (oi := ?oia30) (v := undef) ?hia30 (by kernel_rfl) (by kernel_rfl) (by kernel_rfl) (fun _ _ _ h => h) ?hya30 ⟨⟨m0, m1, m3, m6⟩, k0, k1⟩ ?resta30
        case hia30 => (simp only [List.getElem?_toArray, List.getElem?_cons_succ, List.getElem?_cons_zero]; try rfl)
        case hya30 => exact Or.inr ⟨by rfl, rfl⟩
        try simp only [Act.put, List.setIfInBounds_toArray, List.set_cons_zero, List.set_cons_succ]
        refine wpAnyH_take (i := 30) (oi := ?oia31) (v := undef) ?hia31 (by kernel_rfl) (by kernel_rfl) (by kernel_rfl) (fun _ _ _ h => h) ?hya31 ⟨⟨m0, m1, m3, m6⟩, k0, k1⟩ ?resta31
        case hia31 => (simp only [List.getElem?_toArray, List.getElem?_cons_succ, List.getElem?_cons_zero]; try rfl)
        case hya31 => exact Or.inr ⟨by rfl, rfl⟩
        try simp only [Act.put, List.setIfInBounds_toArray, List.set_cons_zero, List.set_cons_succ]
        refine wpAnyH_take (i := 31) (oi := ?oia32) (v := undef) ?hia32 (by kernel_rfl) (by kernel_rfl) (by kernel_rfl) (fun _ _ _ h => h) ?hya32 ⟨⟨m0, m1, m3, m6⟩, k0, k1⟩ ?resta32
        case hia32 => (simp only [List.getElem?_toArray, List.getElem?_cons_succ, List.getElem?_cons_zero]; try rfl)
        case hya32 => exact Or.inr ⟨by rfl, rfl⟩
        try simp only [Act.put, List.setIfInBounds_toArray, List.set_cons_zero, List.set_cons_succ]
        refine wpAnyH_take (i := 32) (oi := ?oia33) (v := ?va33) ?hia33 (by kernel_rfl) (by kernel_rfl) (by kernel_rfl) (fun _ _ _ h => h) ?hya33 ⟨⟨m0, m1, m3, m6⟩, k0, k1⟩ ?resta33
        case hia33 => (simp only [List.getElem?_toArray, List.getElem?_cons_succ, List.getElem?_cons_zero]; try rfl)
        case hya33 => (refine Or.inl ⟨by rfl, ?_⟩; intro w hSw; go_simp; (try with_reducible rfl))
        try simp only [Act.put, List.setIfInBounds_toArray, List.set_cons_zero, List.set_cons_succ]
        refine wpAnyH_done (by kernel_rfl) ?_ _
        refine NoPanic.normal ?_
        go_wp2_with fail
        refine ⟨?_, by simp [intOf]; omega⟩
        exact hn.out
      · have hn := Lib.hid (hno (by unfold sel; simp [h1, h2]))
        clear hno
        rw [h1] at m0
        refine wp_region_noPanic ?_
        refine wp_region_held_drew (S := fun wa => ((wa.cell? ⟨g8, 0, none⟩ = some (.int .i64 11) ∧ wa.cell? ⟨g8, 1, none⟩ = some (.string x.F) ∧ wa.cell? ⟨g8, 3, none⟩ = some (.string x.T) ∧ wa.cell? ⟨g8, 6, none⟩ = some (.int .i64 x.nu)) ∧ wa.cell? ⟨w.heap.size, 0, none⟩ = some (.string f) ∧ wa.cell? ⟨w.heap.size, 1, none⟩ = some (.string t))) (by kernel_rfl) ⟨⟨m0, m1, m3, m6⟩, k0, k1⟩ (fun hHeld => ?_)
        refine wpAnyH_take (i := 0) (oi := ?oib1) (v := ?vb1) ?hib1 (by kernel_rfl) (by kernel_rfl) (by kernel_rfl) (fun _ _ _ h => h) ?hyb1 ⟨⟨m0, m1, m3, m6⟩, k0, k1⟩ ?restb1
        case hib1 => (simp only [List.getElem?_toArray, List.getElem?_cons_zero]; try rfl)
        case hyb1 => (refine Or.inl ⟨by rfl, ?_⟩; intro w hSw; go_simp; (try with_reducible rfl))
        try simp only [Act.put, List.setIfInBounds_toArray, List.set_cons_zero, List.set_cons_succ]
        refine wpAnyH_take (i := 1) (oi := ?oib2) (v := ?vb2) ?hib2 (by kernel_rfl) (by kernel_rfl) (by kernel_rfl) (fun _ _ _ h => h) ?hyb2 ⟨⟨m0, m1, m3, m6⟩, k0, k1⟩ ?restb2
        case hib2 => (simp only [List.getElem?_toArray, List.getElem?_cons_succ, List.getElem?_cons_zero]; try rfl)
        case hyb2 => (refine Or.inl ⟨by rfl, ?_⟩; intro w hSw; have q := hSw.1.1; go_simp; (try with_reducible rfl))
        try simp only [Act.put, List.setIfInBounds_toArray, List.set_cons_zero, List.set_cons_succ]
        refine wpAnyH_take (i := 2) (oi := ?oib3) (v := ?vb3) ?hib3 (by kernel_rfl) (by kernel_rfl) (by kernel_rfl) (fun _ _ _ h => h) ?hyb3 ⟨⟨m0, m1, m3, m6⟩, k0, k1⟩ ?restb3
        case hib3 => (simp only [List.getElem?_toArray, List.getElem?_cons_succ, List.getElem?_cons_zero]; try rfl)
        case hyb3 => (refine Or.inl ⟨by rfl, ?_⟩; intro w hSw; go_simp; (try with_reducible rfl))
        try simp only [Act.put, List.setIfInBounds_toArray, List.set_cons_zero, List.set_cons_succ]
        refine wpAnyH_take (i := 3) (oi := ?oib4) (v := ?vb4) ?hib4 (by kernel_rfl) (by kernel_rfl) (by kernel_rfl) (fun _ _ _ h => h) ?hyb4 ⟨⟨m0, m1, m3, m6⟩, k0, k1⟩ ?restb4
        case hib4 => (simp only [List.getElem?_toArray, List.getElem?_cons_succ, List.getElem?_cons_zero]; try rfl)
        case hyb4 => (refine Or.inl ⟨by rfl, ?_⟩; intro w hSw; go_simp; (try with_reducible rfl))
        try simp only [Act.put, List.setIfInBounds_toArray, List.set_cons_zero, List.set_cons_succ]
        refine wpAnyH_take (i := 4) (oi := ?oib5) (v := ?vb5) ?hib5 (by kernel_rfl) (by kernel_rfl) (by kernel_rfl) (fun _ _ _ h => h) ?hyb5 ⟨⟨m0, m1, m3, m6⟩, k0, k1⟩ ?restb5
        case hib5 => (simp only [List.getElem?_toArray, List.getElem?_cons_succ, List.getElem?_cons_zero]; try rfl)
        case hyb5 => (refine Or.inl ⟨by rfl, ?_⟩; intro w hSw; go_simp; (try with_reducible rfl))
        try simp only [Act.put, List.setIfInBounds_toArray, List.set_cons_zero, List.set_cons_succ]
        refine wpAnyH_take (i := 5) (oi := ?oib6) (v := ?vb6) ?hib6 (by kernel_rfl) (by kernel_rfl) (by kernel_rfl) (fun _ _ _ h => h) ?hyb6 ⟨⟨m0, m1, m3, m6⟩, k0, k1⟩ ?restb6
        case hib6 => (simp only [List.getElem?_toArray, List.getElem?_cons_succ, List.getElem?_cons_zero]; try rfl)
        case hyb6 => (refine Or.inl ⟨by rfl, ?_⟩; intro w hSw; have q := hSw.1.2.1; go_simp; (try with_reducible rfl))
        try simp only [Act.put, List.setIfInBounds_toArray, List.set_cons_zero, List.set_cons_succ]
        refine wpAnyH_take (i := 6) (oi := ?oib7) (v := ?vb7) ?hib7 (by kernel_rfl) (by kernel_rfl) (by kernel_rfl) (fun _ _ _ h => h) ?hyb7 ⟨⟨m0, m1, m3, m6⟩, k0, k1⟩ ?restb7
        case hib7 => (simp only [List.getElem?_toArray, List.getElem?_cons_succ, List.getElem?_cons_zero]; try rfl)
        case hyb7 => (refine Or.inl ⟨by rfl, ?_⟩; intro w hSw; go_simp; (try with_reducible rfl))
        try simp only [Act.put, List.setIfInBounds_toArray, List.set_cons_zero, List.set_cons_succ]
        refine wpAnyH_take (i := 7) (oi := ?oib8) (v := ?vb8) ?hib8 (by kernel_rfl) (by kernel_rfl) (by kernel_rfl) (fun _ _ _ h => h) ?hyb8 ⟨⟨m0, m1, m3, m6⟩, k0, k1⟩ ?restb8
        case hib8 => (simp only [List.getElem?_toArray, List.getElem?_cons_succ, List.getElem?_cons_zero]; try rfl)
        case hyb8 => (refine Or.inl ⟨by rfl, ?_⟩; intro w hSw; have q := hSw.2.1; go_simp; (try with_reducible rfl))
        try simp only [Act.put, List.setIfInBounds_toArray, List.set_cons_zero, List.set_cons_succ]
        refine wpAnyH_take (i := 8) (oi := ?oib9) (v := ?vb9) ?hib9 (by kernel_rfl) (by kernel_rfl) (by kernel_rfl) (fun _ _ _ h => h) ?hyb9 ⟨⟨m0, m1, m3, m6⟩, k0, k1⟩ ?restb9
        case hib9 => (simp only [List.getElem?_toArray, List.getElem?_cons_succ, List.getElem?_cons_zero]; try rfl)
        case hyb9 => (refine Or.inl ⟨by rfl, ?_⟩; intro w hSw; go_simp; (try with_reducible rfl))
        try simp only [Act.put, List.setIfInBounds_toArray, List.set_cons_zero, List.set_cons_succ]
        refine wpAnyH_take (i := 9) (oi := ?oib10) (v := ?vb10) ?hib10 (by kernel_rfl) (by kernel_rfl) (by kernel_rfl) (fun _ _ _ h => h) ?hyb10 ⟨⟨m0, m1, m3, m6⟩, k0, k1⟩ ?restb10
        case hib10 => (simp only [List.getElem?_toArray, List.getElem?_cons_succ, List.getElem?_cons_zero]; try rfl)
        case hyb10 => (refine Or.inl ⟨by rfl, ?_⟩; intro w hSw; go_simp; (try with_reducible rfl))
        try simp only [Act.put, List.setIfInBounds_toArray, List.set_cons_zero, List.set_cons_succ]
        refine wpAnyH_take (i := 10) (oi := ?oib11) (v := ?vb11) ?hib11 (by kernel_rfl) (by kernel_rfl) (by kernel_rfl) (fun _ _ _ h => h) ?hyb11 ⟨⟨m0, m1, m3, m6⟩, k0, k1⟩ ?restb11
        case hib11 => (simp only [List.getElem?_toArray, List.getElem?_cons_succ, List.getElem?_cons_zero]; try rfl)
        case hyb11 => (refine Or.inl ⟨by rfl, ?_⟩; intro w hSw; go_simp; (try with_reducible rfl))
        try simp only [Act.put, List.setIfInBounds_toArray, List.set_cons_zero, List.set_cons_succ]
        refine wpAnyH_take (i := 11) (oi := ?oib12) (v := undef) ?hib12 (by kernel_rfl) (by kernel_rfl) (by kernel_rfl) (fun _ _ _ h => h) ?hyb12 ⟨⟨m0, m1, m3, m6⟩, k0, k1⟩ ?restb12
        case hib12 => (simp only [List.getElem?_toArray, List.getElem?_cons_succ, List.getElem?_cons_zero]; try rfl)
        case hyb12 => exact Or.inr ⟨by rfl, rfl⟩
        try simp only [Act.put, List.setIfInBounds_toArray, List.set_cons_zero, List.set_cons_succ]
        refine wpAnyH_take (i := 12) (oi := ?oib13) (v := undef) ?hib13 (by kernel_rfl) (by kernel_rfl) (by kernel_rfl) (fun _ _ _ h => h) ?hyb13 ⟨⟨m0, m1, m3, m6⟩, k0, k1⟩ ?restb13
        case hib13 => (simp only [List.getElem?_toArray, List.getElem?_cons_succ, List.getElem?_cons_zero]; try rfl)
        case hyb13 => exact Or.inr ⟨by rfl, rfl⟩
        try simp only [Act.put, List.setIfInBounds_toArray, List.set_cons_zero, List.set_cons_succ]
        refine wpAnyH_take (i := 13) (oi := ?oib14) (v := undef) ?hib14 (by kernel_rfl) (by kernel_rfl) (by kernel_rfl) (fun _ _ _ h => h) ?hyb14 ⟨⟨m0, m1, m3, m6⟩, k0, k1⟩ ?restb14
        case hib14 => (simp only [List.getElem?_toArray, List.getElem?_cons_succ, List.getElem?_cons_zero]; try rfl)
        case hyb14 => exact Or.inr ⟨by rfl, rfl⟩
        try simp only [Act.put, List.setIfInBounds_toArray, List.set_cons_zero, List.set_cons_succ]
        refine wpAnyH_take (i := 14) (oi := ?oib15) (v := undef) ?hib15 (by kernel_rfl) (by kernel_rfl) (by kernel_rfl) (fun _ _ _ h => h) ?hyb15 ⟨⟨m0, m1, m3, m6⟩, k0, k1⟩ ?restb15
        case hib15 => (simp only [List.getElem?_toArray, List.getElem?_cons_succ, List.getElem?_cons_zero]; try rfl)
        case hyb15 => exact Or.inr ⟨by rfl, rfl⟩
        try simp only [Act.put, List.setIfInBounds_toArray, List.set_cons_zero, List.set_cons_succ]
        refine wpAnyH_take (i := 15) (oi := ?oib16) (v := undef) ?hib16 (by kernel_rfl) (by kernel_rfl) (by kernel_rfl) (fun _ _ _ h => h) ?hyb16 ⟨⟨m0, m1, m3, m6⟩, k0, k1⟩ ?restb16
        case hib16 => (simp only [List.getElem?_toArray, List.getElem?_cons_succ, List.getElem?_cons_zero]; try rfl)
        case hyb16 => exact Or.inr ⟨by rfl, rfl⟩
        try simp only [Act.put, List.setIfInBounds_toArray, List.set_cons_zero, List.set_cons_succ]
        refine wpAnyH_take (i := 16) (oi := ?oib17) (v := ?vb17) ?hib17 (by kernel_rfl) (by kernel_rfl) (by kernel_rfl) (fun _ _ _ h => h) ?hyb17 ⟨⟨m0, m1, m3, m6⟩, k0, k1⟩ ?restb17
        case hib17 => (simp only [List.getElem?_toArray, List.getElem?_cons_succ, List.getElem?_cons_zero]; try rfl)
        case hyb17 => (refine Or.inl ⟨by rfl, ?_⟩; intro w hSw; go_simp; (try with_reducible rfl))
        try simp only [Act.put, List.setIfInBounds_toArray, List.set_cons_zero, List.set_cons_succ]
        refine wpAnyH_take (i := 17) (oi := ?oib18) (v := ?vb18) ?hib18 (by kernel_rfl) (by kernel_rfl) (by kernel_rfl) (fun _ _ _ h => h) ?hyb18 ⟨⟨m0, m1, m3, m6⟩, k0, k1⟩ ?restb18
        case hib18 => (simp only [List.getElem?_toArray, List.getElem?_cons_succ, List.getElem?_cons_zero]; try rfl)
        case hyb18 => (refine Or.inl ⟨by rfl, ?_⟩; intro w hSw; go_simp; (try with_reducible rfl))
        try simp only [Act.put, List.setIfInBounds_toArray, List.set_cons_zero, List.set_cons_succ]
        refine wpAnyH_take (i := 18) (oi := ?oib19) (v := undef) ?hib19 (by kernel_rfl) (by kernel_rfl) (by kernel_rfl) (fun _ _ _ h => h) ?hyb19 ⟨⟨m0, m1, m3, m6⟩, k0, k1⟩ ?restb19
        case hib19 => (simp only [List.getElem?_toArray, List.getElem?_cons_succ, List.getElem?_cons_zero]; try rfl)
        case hyb19 => exact Or.inr ⟨by rfl, rfl⟩
        try simp only [Act.put, List.setIfInBounds_toArray, List.set_cons_zero, List.set_cons_succ]
        refine wpAnyH_take (i := 19) (oi := ?oib20) (v := undef) ?hib20 (by kernel_rfl) (by kernel_rfl) (by kernel_rfl) (fun _ _ _ h => h) ?hyb20 ⟨⟨m0, m1, m3, m6⟩, k0, k1⟩ ?restb20
        case hib20 => (simp only [List.getElem?_toArray, List.getElem?_cons_succ, List.getElem?_cons_zero]; try rfl)
        case hyb20 => exact Or.inr ⟨by rfl, rfl⟩
        try simp only [Act.put, List.setIfInBounds_toArray, List.set_cons_zero, List.set_cons_succ]
        refine wpAnyH_take (i := 20) (oi := ?oib21) (v := undef) ?hib21 (by kernel_rfl) (by kernel_rfl) (by kernel_rfl) (fun _ _ _ h => h) ?hyb21 ⟨⟨m0, m1, m3, m6⟩, k0, k1⟩ ?restb21
        case hib21 => (simp only [List.getElem?_toArray, List.getElem?_cons_succ, List.getElem?_cons_zero]; try rfl)
        case hyb21 => exact Or.inr ⟨by rfl, rfl⟩
        try simp only [Act.put, List.setIfInBounds_toArray, List.set_cons_zero, List.set_cons_succ]
        refine wpAnyH_take (i := 21) (oi := ?oib22) (v := undef) ?hib22 (by kernel_rfl) (by kernel_rfl) (by kernel_rfl) (fun _ _ _ h => h) ?hyb22 ⟨⟨m0, m1, m3, m6⟩, k0, k1⟩ ?restb22
        case hib22 => (simp only [List.getElem?_toArray, List.getElem?_cons_succ, List.getElem?_cons_zero]; try rfl)
        case hyb22 => exact Or.inr ⟨by rfl, rfl⟩
        try simp only [Act.put, List.setIfInBounds_toArray, List.set_cons_zero, List.set_cons_succ]
        refine wpAnyH_take (i := 22) (oi := ?oib23) (v := undef) ?hib23 (by kernel_rfl) (by kernel_rfl) (by kernel_rfl) (fun _ _ _ h => h) ?hyb23 ⟨⟨m0, m1, m3, m6⟩, k0, k1⟩ ?restb23
        case hib23 => (simp only [List.getElem?_toArray, List.getElem?_cons_succ, List.getElem?_cons_zero]; try rfl)
        case hyb23 => exact Or.inr ⟨by rfl, rfl⟩
        try simp only [Act.put, List.setIfInBounds_toArray, List.set_cons_zero, List.set_cons_succ]
        refine wpAnyH_take (i := 23) (oi := ?oib24) (v := undef) ?hib24 (by kernel_rfl) (by kernel_rfl) (by kernel_rfl) (fun _ _ _ h => h) ?hyb24 ⟨⟨m0, m1, m3, m6⟩, k0, k1⟩ ?restb24
        case hib24 => (simp only [List.getElem?_toArray, List.getElem?_cons_succ, List.getElem?_cons_zero]; try rfl)
        case hyb24 => exact Or.inr ⟨by rfl, rfl⟩
        try simp only [Act.put, List.setIfInBounds_toArray, List.set_cons_zero, List.set_cons_succ]
        refine wpAnyH_take (i := 24) (oi := ?oib25) (v := undef) ?hib25 (by kernel_rfl) (by kernel_rfl) (by kernel_rfl) (fun _ _ _ h => h) ?hyb25 ⟨⟨m0, m1, m3, m6⟩, k0, k1⟩ ?restb25
        case hib25 => (simp only [List.getElem?_toArray, List.getElem?_cons_succ, List.getElem?_cons_zero]; try rfl)
        case hyb25 => exact Or.inr ⟨by rfl, rfl⟩
        try simp only [Act.put, List.setIfInBounds_toArray, List.set_cons_zero, List.set_cons_succ]
        refine wpAnyH_take (i := 25) (oi := ?oib26) (v := undef) ?hib26 (by kernel_rfl) (by kernel_rfl) (by kernel_rfl) (fun _ _ _ h => h) ?hyb26 ⟨⟨m0, m1, m3, m6⟩, k0, k1⟩ ?restb26
        case hib26 => (simp only [List.getElem?_toArray, List.getElem?_cons_succ, List.getElem?_cons_zero]; try rfl)
        case hyb26 => exact Or.inr ⟨by rfl, rfl⟩
        try simp only [Act.put, List.setIfInBounds_toArray, List.set_cons_zero, List.set_cons_succ]
        refine wpAnyH_take (i := 26) (oi := ?oib27) (v := undef) ?hib27 (by kernel_rfl) (by kernel_rfl) (by kernel_rfl) (fun _ _ _ h => h) ?hyb27 ⟨⟨m0, m1, m3, m6⟩, k0, k1⟩ ?restb27
        case hib27 => (simp only [List.getElem?_toArray, List.getElem?_cons_succ, List.getElem?_cons_zero]; try rfl)
        case hyb27 => exact Or.inr ⟨by rfl, rfl⟩
        try simp only [Act.put, List.setIfInBounds_toArray, List.set_cons_zero, List.set_cons_succ]
        refine wpAnyH_take (i := 27) (oi := ?oib28) (v := undef) ?hib28 (by kernel_rfl) (by kernel_rfl) (by kernel_rfl) (fun _ _ _ h => h) ?hyb28 ⟨⟨m0, m1, m3, m6⟩, k0, k1⟩ ?restb28
        case hib28 => (simp only [List.getElem?_toArray, List.getElem?_cons_succ, List.getElem?_cons_zero]; try rfl)
        case hyb28 => exact Or.inr ⟨by rfl, rfl⟩
        try simp only [Act.put, List.setIfInBounds_toArray, List.set_cons_zero, List.set_cons_succ]
        refine wpAnyH_take (i := 28) (oi := ?oib29) (v := undef) ?hib29 (by kernel_rfl) (by kernel_rfl) (by kernel_rfl) (fun _ _ _ h => h) ?hyb29 ⟨⟨m0, m1, m3, m6⟩, k0, k1⟩ ?restb29
        case hib29 => (simp only [List.getElem?_toArray, List.getElem?_cons_succ, List.getElem?_cons_zero]; try rfl)
        case hyb29 => exact Or.inr ⟨by rfl, rfl⟩
        try simp only [Act.put, List.setIfInBounds_toArray, List.set_cons_zero, List.set_cons_succ]
        refine wpAnyH_take (i := 29) (oi := ?oib30) (v := undef) ?hib30 (by kernel_rfl) (by kernel_rfl) (by kernel_rfl) (fun _ _ _ h => h) ?hyb30 ⟨⟨m0, m1, m3, m6⟩, k0, k1⟩ ?restb30
        case hib30 => (simp only [List.getElem?_toArray, List.getElem?_cons_succ, List.getElem?_cons_zero]; try rfl)
        case hyb30 => exact Or.inr ⟨by rfl, rfl⟩
        try simp only [Act.put, List.setIfInBounds_toArray, List.set_cons_zero, List.set_cons_succ]
        refine wpAnyH_take (i := 30) (oi := ?oib31) (v := undef) ?hib31 (by kernel_rfl) (by kernel_rfl) (by kernel_rfl) (fun _ _ _ h => h) ?hyb31 ⟨⟨m0, m1, m3, m6⟩, k0, k1⟩ ?restb31
        case hib31 => (simp only [List.getElem?_toArray, List.getElem?_cons_succ, List.getElem?_cons_zero]; try rfl)
        case hyb31 => exact Or.inr ⟨by rfl, rfl⟩
        try simp only [Act.put, List.setIfInBounds_toArray, List.set_cons_zero, List.set_cons_succ]
        refine wpAnyH_take (i := 31) (oi := ?oib32) (v := undef) ?hib32 (by kernel_rfl) (by kernel_rfl) (by kernel_rfl) (fun _ _ _ h => h) ?hyb32 ⟨⟨m0, m1, m3, m6⟩, k0, k1⟩ ?restb32
        case hib32 => (simp only [List.getElem?_toArray, List.getElem?_cons_succ, List.getElem?_cons_zero]; try rfl)
        case hyb32 => exact Or.inr ⟨by rfl, rfl⟩
        try simp only [Act.put, List.setIfInBounds_toArray, List.set_cons_zero, List.set_cons_succ]
        refine wpAnyH_take (i := 32) (oi := ?oib33) (v := ?vb33) ?hib33 (by kernel_rfl) (by kernel_rfl) (by kernel_rfl) (fun _ _ _ h => h) ?hyb33 ⟨⟨m0, m1, m3, m6⟩, k0, k1⟩ ?restb33
        case hib33 => (simp only [List.getElem?_toArray, List.getElem?_cons_succ, List.getElem?_cons_zero]; try rfl)
        case hyb33 => (refine Or.inl ⟨by rfl, ?_⟩; intro w hSw; go_simp; (try with_reducible rfl))
        try simp only [Act.put, List.setIfInBounds_toArray, List.set_cons_zero, List.set_cons_succ]
        refine wpAnyH_done (by kernel_rfl) ?_ _
        refine NoPanic.normal ?_
        go_wp2_with fail
        refine ⟨?_, by simp [intOf]; omega⟩
        exact hn.out
      · have hn := Lib.hid (hno (by unfold sel; simp [h1, h2, h3]))
        clear hno
        rw [h1] at m0
        refine wp_region_noPanic ?_
        refine wp_region_held_drew (S := fun wa => ((wa.cell? ⟨g8, 0, none⟩ = some (.int .i64 11) ∧ wa.cell? ⟨g8, 1, none⟩ = some (.string x.F) ∧ wa.cell? ⟨g8, 3, none⟩ = some (.string x.T) ∧ wa.cell? ⟨g8, 6, none⟩ = some (.int .i64 x.nu)) ∧ wa.cell? ⟨w.heap.size, 0, none⟩ = some (.string f) ∧ wa.cell? ⟨w.heap.size, 1, none⟩ = some (.string t))) (by kernel_rfl) ⟨⟨m0, m1, m3, m6⟩, k0, k1⟩ (fun hHeld => ?_)
        refine wpAnyH_take (i := 0) (oi := ?oic1) (v := ?vc1) ?hic1 (by kernel_rfl) (by kernel_rfl) (by kernel_rfl) (fun _ _ _ h => h) ?hyc1 ⟨⟨m0, m1, m3, m6⟩, k0, k1⟩ ?restc1
        case hic1 => (simp only [List.getElem?_toArray, List.getElem?_cons_zero]; try rfl)
        case hyc1 => (refine Or.inl ⟨by rfl, ?_⟩; intro w hSw; go_simp; (try with_reducible rfl))
        try simp only [Act.put, List.setIfInBounds_toArray, List.set_cons_zero, List.set_cons_succ]
        refine wpAnyH_take (i := 1) (oi := ?oic2) (v := ?vc2) ?hic2 (by kernel_rfl) (by kernel_rfl) (by kernel_rfl) (fun _ _ _ h => h) ?hyc2 ⟨⟨m0, m1, m3, m6⟩, k0, k1⟩ ?restc2
        case hic2 => (simp only [List.getElem?_toArray, List.getElem?_cons_succ, List.getElem?_cons_zero]; try rfl)
        case hyc2 => (refine Or.inl ⟨by rfl, ?_⟩; intro w hSw; have q := hSw.1.1; go_simp; (try with_reducible rfl))
        try simp only [Act.put, List.setIfInBounds_toArray, List.set_cons_zero, List.set_cons_succ]
        refine wpAnyH_take (i := 2) (oi := ?oic3) (v := ?vc3) ?hic3 (by kernel_rfl) (by kernel_rfl) (by kernel_rfl) (fun _ _ _ h => h) ?hyc3 ⟨⟨m0, m1, m3, m6⟩, k0, k1⟩ ?restc3
        case hic3 => (simp only [List.getElem?_toArray, List.getElem?_cons_succ, List.getElem?_cons_zero]; try rfl)
        case hyc3 => (refine Or.inl ⟨by rfl, ?_⟩; intro w hSw; go_simp; (try with_reducible rfl))
        try simp only [Act.put, List.setIfInBounds_toArray, List.set_cons_zero, List.set_cons_succ]
        refine wpAnyH_take (i := 3) (oi := ?oic4) (v := ?vc4) ?hic4 (by kernel_rfl) (by kernel_rfl) (by kernel_rfl) (fun _ _ _ h => h) ?hyc4 ⟨⟨m0, m1, m3, m6⟩, k0, k1⟩ ?restc4
        case hic4 => (simp only [List.getElem?_toArray, List.getElem?_cons_succ, List.getElem?_cons_zero]; try rfl)
        case hyc4 => (refine Or.inl ⟨by rfl, ?_⟩; intro w hSw; go_simp; (try with_reducible rfl))
        try simp only [Act.put, List.setIfInBounds_toArray, List.set_cons_zero, List.set_cons_succ]
        refine wpAnyH_take (i := 4) (oi := ?oic5) (v := ?vc5) ?hic5 (by kernel_rfl) (by kernel_rfl) (by kernel_rfl) (fun _ _ _ h => h) ?hyc5 ⟨⟨m0, m1, m3, m6⟩, k0, k1⟩ ?restc5
        case hic5 => (simp only [List.getElem?_toArray, List.getElem?_cons_succ, List.getElem?_cons_zero]; try rfl)
        case hyc5 => (refine Or.inl ⟨by rfl, ?_⟩; intro w hSw; go_simp; (try with_reducible rfl))
        try simp only [Act.put, List.setIfInBounds_toArray, List.set_cons_zero, List.set_cons_succ]
        refine wpAnyH_take (i := 5) (oi := ?oic6) (v := ?vc6) ?hic6 (by kernel_rfl) (by kernel_rfl) (by kernel_rfl) (fun _ _ _ h => h) ?hyc6 ⟨⟨m0, m1, m3, m6⟩, k0, k1⟩ ?restc6
        case hic6 => (simp only [List.getElem?_toArray, List.getElem?_cons_succ, List.getElem?_cons_zero]; try rfl)
        case hyc6 => (refine Or.inl ⟨by rfl, ?_⟩; intro w hSw; have q := hSw.1.2.1; go_simp; (try with_reducible rfl))
        try simp only [Act.put, List.setIfInBounds_toArray, List.set_cons_zero, List.set_cons_succ]
        refine wpAnyH_take (i := 6) (oi := ?oic7) (v := ?vc7) ?hic7 (by kernel_rfl) (by kernel_rfl) (by kernel_rfl) (fun _ _ _ h => h) ?hyc7 ⟨⟨m0, m1, m3, m6⟩, k0, k1⟩ ?restc7
        case hic7 => (simp only [List.getElem?_toArray, List.getElem?_cons_succ, List.getElem?_cons_zero]; try rfl)
        case hyc7 => (refine Or.inl ⟨by rfl, ?_⟩; intro w hSw; go_simp; (try with_reducible rfl))
        try simp only [Act.put, List.setIfInBounds_toArray, List.set_cons_zero, List.set_cons_succ]
        refine wpAnyH_take (i := 7) (oi := ?oic8) (v := ?vc8) ?hic8 (by kernel_rfl) (by kernel_rfl) (by kernel_rfl) (fun _ _ _ h => h) ?hyc8 ⟨⟨m0, m1, m3, m6⟩, k0, k1⟩ ?restc8
        case hic8 => (simp only [List.getElem?_toArray, List.getElem?_cons_succ, List.getElem?_cons_zero]; try rfl)
        case hyc8 => (refine Or.inl ⟨by rfl, ?_⟩; intro w hSw; have q := hSw.2.1; go_simp; (try with_reducible rfl))
        try simp only [Act.put, List.setIfInBounds_toArray, List.set_cons_zero, List.set_cons_succ]
        refine wpAnyH_take (i := 8) (oi := ?oic9) (v := ?vc9) ?hic9 (by kernel_rfl) (by kernel_rfl) (by kernel_rfl) (fun _ _ _ h => h) ?hyc9 ⟨⟨m0, m1, m3, m6⟩, k0, k1⟩ ?restc9
        case hic9 => (simp only [List.getElem?_toArray, List.getElem?_cons_succ, List.getElem?_cons_zero]; try rfl)
        case hyc9 => (refine Or.inl ⟨by rfl, ?_⟩; intro w hSw; go_simp; (try with_reducible rfl))
        try simp only [Act.put, List.setIfInBounds_toArray, List.set_cons_zero, List.set_cons_succ]
        refine wpAnyH_take (i := 9) (oi := ?oic10) (v := ?vc10) ?hic10 (by kernel_rfl) (by kernel_rfl) (by kernel_rfl) (fun _ _ _ h => h) ?hyc10 ⟨⟨m0, m1, m3, m6⟩, k0, k1⟩ ?restc10
        case hic10 => (simp only [List.getElem?_toArray, List.getElem?_cons_succ, List.getElem?_cons_zero]; try rfl)
        case hyc10 => (refine Or.inl ⟨by rfl, ?_⟩; intro w hSw; go_simp; (try with_reducible rfl))
        try simp only [Act.put, List.setIfInBounds_toArray, List.set_cons_zero, List.set_cons_succ]
        refine wpAnyH_take (i := 10) (oi := ?oic11) (v := ?vc11) ?hic11 (by kernel_rfl) (by kernel_rfl) (by kernel_rfl) (fun _ _ _ h => h) ?hyc11 ⟨⟨m0, m1, m3, m6⟩, k0, k1⟩ ?restc11
        case hic11 => (simp only [List.getElem?_toArray, List.getElem?_cons_succ, List.getElem?_cons_zero]; try rfl)
        case hyc11 => (refine Or.inl ⟨by rfl, ?_⟩; intro w hSw; go_simp; (try with_reducible rfl))
        try simp only [Act.put, List.setIfInBounds_toArray, List.set_cons_zero, List.set_cons_succ]
        refine wpAnyH_take (i := 11) (oi := ?oic12) (v := ?vc12) ?hic12 (by kernel_rfl) (by kernel_rfl) (by kernel_rfl) (fun _ _ _ h => h) ?hyc12 ⟨⟨m0, m1, m3, m6⟩, k0, k1⟩ ?restc12
        case hic12 => (simp only [List.getElem?_toArray, List.getElem?_cons_succ, List.getElem?_cons_zero]; try rfl)
        case hyc12 => (refine Or.inl ⟨by rfl, ?_⟩; intro w hSw; go_simp; (try with_reducible rfl))
        try simp only [Act.put, List.setIfInBounds_toArray, List.set_cons_zero, List.set_cons_succ]
        refine wpAnyH_take (i := 12) (oi := ?oic13) (v := ?vc13) ?hic13 (by kernel_rfl) (by kernel_rfl) (by kernel_rfl) (fun _ _ _ h => h) ?hyc13 ⟨⟨m0, m1, m3, m6⟩, k0, k1⟩ ?restc13
        case hic13 => (simp only [List.getElem?_toArray, List.getElem?_cons_succ, List.getElem?_cons_zero]; try rfl)
        case hyc13 => (refine Or.inl ⟨by rfl, ?_⟩; intro w hSw; have q := hSw.1.2.2.1; go_simp; (try with_reducible rfl))
        try simp only [Act.put, List.setIfInBounds_toArray, List.set_cons_zero, List.set_cons_succ]
        refine wpAnyH_take (i := 13) (oi := ?oic14) (v := ?vc14) ?hic14 (by kernel_rfl) (by kernel_rfl) (by kernel_rfl) (fun _ _ _ h => h) ?hyc14 ⟨⟨m0, m1, m3, m6⟩, k0, k1⟩ ?restc14
        case hic14 => (simp only [List.getElem?_toArray, List.getElem?_cons_succ, List.getElem?_cons_zero]; try rfl)
        case hyc14 => (refine Or.inl ⟨by rfl, ?_⟩; intro w hSw; go_simp; (try with_reducible rfl))
        try simp only [Act.put, List.setIfInBounds_toArray, List.set_cons_zero, List.set_cons_succ]
        refine wpAnyH_take (i := 14) (oi := ?oic15) (v := ?vc15) ?hic15 (by kernel_rfl) (by kernel_rfl) (by kernel_rfl) (fun _ _ _ h => h) ?hyc15 ⟨⟨m0, m1, m3, m6⟩, k0, k1⟩ ?restc15
        case hic15 => (simp only [List.getElem?_toArray, List.getElem?_cons_succ, List.getElem?_cons_zero]; try rfl)
        case hyc15 => (refine Or.inl ⟨by rfl, ?_⟩; intro w hSw; have q := hSw.2.2; go_simp; (try with_reducible rfl))
        try simp only [Act.put, List.setIfInBounds_toArray, List.set_cons_zero, List.set_cons_succ]
        refine wpAnyH_take (i := 15) (oi := ?oic16) (v := ?vc16) ?hic16 (by kernel_rfl) (by kernel_rfl) (by kernel_rfl) (fun _ _ _ h => h) ?hyc16 ⟨⟨m0, m1, m3, m6⟩, k0, k1⟩ ?restc16
        case hic16 => (simp only [List.getElem?_toArray, List.getElem?_cons_succ, List.getElem?_cons_zero]; try rfl)
        case hyc16 => (refine Or.inl ⟨by rfl, ?_⟩; intro w hSw; go_simp; (try with_reducible rfl))
        try simp only [Act.put, List.setIfInBounds_toArray, List.set_cons_zero, List.set_cons_succ]
        refine wpAnyH_take (i := 16) (oi := ?oic17) (v := ?vc17) ?hic17 (by kernel_rfl) (by kernel_rfl) (by kernel_rfl) (fun _ _ _ h => h) ?hyc17 ⟨⟨m0, m1, m3, m6⟩, k0, k1⟩ ?restc17
        case hic17 => (simp only [List.getElem?_toArray, List.getElem?_cons_succ, List.getElem?_cons_zero]; try rfl)
        case hyc17 => (refine Or.inl ⟨by rfl, ?_⟩; intro w hSw; go_simp; (try with_reducible rfl))
        try simp only [Act.put, List.setIfInBounds_toArray, List.set_cons_zero, List.set_cons_succ]
        refine wpAnyH_take (i := 17) (oi := ?oic18) (v := ?vc18) ?hic18 (by kernel_rfl) (by kernel_rfl) (by kernel_rfl) (fun _ _ _ h => h) ?hyc18 ⟨⟨m0, m1, m3, m6⟩, k0, k1⟩ ?restc18
        case hic18 => (simp only [List.getElem?_toArray, List.getElem?_cons_succ, List.getElem?_cons_zero]; try rfl)
        case hyc18 => (refine Or.inl ⟨by rfl, ?_⟩; intro w hSw; go_simp; (try with_reducible rfl))
        try simp only [Act.put, List.setIfInBounds_toArray, List.set_cons_zero, List.set_cons_succ]
        refine wpAnyH_take (i := 18) (oi := ?oic19) (v := undef) ?hic19 (by kernel_rfl) (by kernel_rfl) (by kernel_rfl) (fun _ _ _ h => h) ?hyc19 ⟨⟨m0, m1, m3, m6⟩, k0, k1⟩ ?restc19
        case hic19 => (simp only [List.getElem?_toArray, List.getElem?_cons_succ, List.getElem?_cons_zero]; try rfl)
        case hyc19 => exact Or.inr ⟨by rfl, rfl⟩
        try simp only [Act.put, List.setIfInBounds_toArray, List.set_cons_zero, List.set_cons_succ]
        refine wpAnyH_take (i := 19) (oi := ?oic20) (v := undef) ?hic20 (by kernel_rfl) (by kernel_rfl) (by kernel_rfl) (fun _ _ _ h => h) ?hyc20 ⟨⟨m0, m1, m3, m6⟩, k0, k1⟩ ?restc20
        case hic20 => (simp only [List.getElem?_toArray, List.getElem?_cons_succ, List.getElem?_cons_zero]; try rfl)
        case hyc20 => exact Or.inr ⟨by rfl, rfl⟩
        try simp only [Act.put, List.setIfInBounds_toArray, List.set_cons_zero, List.set_cons_succ]
        refine wpAnyH_take (i := 20) (oi := ?oic21) (v := undef) ?hic21 (by kernel_rfl) (by kernel_rfl) (by kernel_rfl) (fun _ _ _ h => h) ?hyc21 ⟨⟨m0, m1, m3, m6⟩, k0, k1⟩ ?restc21
        case hic21 => (simp only [List.getElem?_toArray, List.getElem?_cons_succ, List.getElem?_cons_zero]; try rfl)
        case hyc21 => exact Or.inr ⟨by rfl, rfl⟩
        try simp only [Act.put, List.setIfInBounds_toArray, List.set_cons_zero, List.set_cons_succ]
        refine wpAnyH_take (i := 21) (oi := ?oic22) (v := undef) ?hic22 (by kernel_rfl) (by kernel_rfl) (by kernel_rfl) (fun _ _ _ h => h) ?hyc22 ⟨⟨m0, m1, m3, m6⟩, k0, k1⟩ ?restc22
        case hic22 => (simp only [List.getElem?_toArray, List.getElem?_cons_succ, List.getElem?_cons_zero]; try rfl)
        case hyc22 => exact Or.inr ⟨by rfl, rfl⟩
        try simp only [Act.put, List.setIfInBounds_toArray, List.set_cons_zero, List.set_cons_succ]
        refine wpAnyH_take (i := 22) (oi := ?oic23) (v := undef) ?hic23 (by kernel_rfl) (by kernel_rfl) (by kernel_rfl) (fun _ _ _ h => h) ?hyc23 ⟨⟨m0, m1, m3, m6⟩, k0, k1⟩ ?restc23
        case hic23 => (simp only [List.getElem?_toArray, List.getElem?_cons_succ, List.getElem?_cons_zero]; try rfl)
        case hyc23 => exact Or.inr ⟨by rfl, rfl⟩
        try simp only [Act.put, List.setIfInBounds_toArray, List.set_cons_zero, List.set_cons_succ]
        refine wpAnyH_take (i := 23) (oi := ?oic24) (v := undef) ?hic24 (by kernel_rfl) (by kernel_rfl) (by kernel_rfl) (fun _ _ _ h => h) ?hyc24 ⟨⟨m0, m1, m3, m6⟩, k0, k1⟩ ?restc24
        case hic24 => (simp only [List.getElem?_toArray, List.getElem?_cons_succ, List.getElem?_cons_zero]; try rfl)
        case hyc24 => exact Or.inr ⟨by rfl, rfl⟩
        try simp only [Act.put, List.setIfInBounds_toArray, List.set_cons_zero, List.set_cons_succ]
        refine wpAnyH_take (i := 24) (oi := ?oic25) (v := undef) ?hic25 (by kernel_rfl) (by kernel_rfl) (by kernel_rfl) (fun _ _ _ h => h) ?hyc25 ⟨⟨m0, m1, m3, m6⟩, k0, k1⟩ ?restc25
        case hic25 => (simp only [List.getElem?_toArray, List.getElem?_cons_succ, List.getElem?_cons_zero]; try rfl)
        case hyc25 => exact Or.inr ⟨by rfl, rfl⟩
        try simp only [Act.put, List.setIfInBounds_toArray, List.set_cons_zero, List.set_cons_succ]
        refine wpAnyH_take (i := 25) (oi := ?oic26) (v := undef) ?hic26 (by kernel_rfl) (by kernel_rfl) (by kernel_rfl) (fun _ _ _ h => h) ?hyc26 ⟨⟨m0, m1, m3, m6⟩, k0, k1⟩ ?restc26
        case hic26 => (simp only [List.getElem?_toArray, List.getElem?_cons_succ, List.getElem?_cons_zero]; try rfl)
        case hyc26 => exact Or.inr ⟨by rfl, rfl⟩
        try simp only [Act.put, List.setIfInBounds_toArray, List.set_cons_zero, List.set_cons_succ]
        refine wpAnyH_take (i := 26) (oi := ?oic27) (v := undef) ?hic27 (by kernel_rfl) (by kernel_rfl) (by kernel_rfl) (fun _ _ _ h => h) ?hyc27 ⟨⟨m0, m1, m3, m6⟩, k0, k1⟩ ?restc27
        case hic27 => (simp only [List.getElem?_toArray, List.getElem?_cons_succ, List.getElem?_cons_zero]; try rfl)
        case hyc27 => exact Or.inr ⟨by rfl, rfl⟩
        try simp only [Act.put, List.setIfInBounds_toArray, List.set_cons_zero, List.set_cons_succ]
        refine wpAnyH_take (i := 27) (oi := ?oic28) (v := undef) ?hic28 (by kernel_rfl) (by kernel_rfl) (by kernel_rfl) (fun _ _ _ h => h) ?hyc28 ⟨⟨m0, m1, m3, m6⟩, k0, k1⟩ ?restc28
        case hic28 => (simp only [List.getElem?_toArray, List.getElem?_cons_succ, List.getElem?_cons_zero]; try rfl)
        case hyc28 => exact Or.inr ⟨by rfl, rfl⟩
        try simp only [Act.put, List.setIfInBounds_toArray, List.set_cons_zero, List.set_cons_succ]
        refine wpAnyH_take (i := 28) (oi := ?oic29) (v := undef) ?hic29 (by kernel_rfl) (by kernel_rfl) (by kernel_rfl) (fun _ _ _ h => h) ?hyc29 ⟨⟨m0, m1, m3, m6⟩, k0, k1⟩ ?restc29
        case hic29 => (simp only [List.getElem?_toArray, List.getElem?_cons_succ, List.getElem?_cons_zero]; try rfl)
        case hyc29 => exact Or.inr ⟨by rfl, rfl⟩
        try simp only [Act.put, List.setIfInBounds_toArray, List.set_cons_zero, List.set_cons_succ]
        refine wpAnyH_take (i := 29) (oi := ?oic30) (v := undef) ?hic30 (by kernel_rfl) (by kernel_rfl) (by kernel_rfl) (fun _ _ _ h => h) ?hyc30 ⟨⟨m0, m1, m3, m6⟩, k0, k1⟩ ?restc30
        case hic30 => (simp only [List.getElem?_toArray, List.getElem?_cons_succ, List.getElem?_cons_zero]; try rfl)
        case hyc30 => exact Or.inr ⟨by rfl, rfl⟩
        try simp only [Act.put, List.setIfInBounds_toArray, List.set_cons_zero, List.set_cons_succ]
        refine wpAnyH_take (i := 30) (oi := ?oic31) (v := undef) ?hic31 (by kernel_rfl) (by kernel_rfl) (by kernel_rfl) (fun _ _ _ h => h) ?hyc31 ⟨⟨m0, m1, m3, m6⟩, k0, k1⟩ ?restc31
        case hic31 => (simp only [List.getElem?_toArray, List.getElem?_cons_succ, List.getElem?_cons_zero]; try rfl)
        case hyc31 => exact Or.inr ⟨by rfl, rfl⟩
        try simp only [Act.put, List.setIfInBounds_toArray, List.set_cons_zero, List.set_cons_succ]
        refine wpAnyH_take (i := 31) (oi := ?oic32) (v := undef) ?hic32 (by kernel_rfl) (by kernel_rfl) (by kernel_rfl) (fun _ _ _ h => h) ?hyc32 ⟨⟨m0, m1, m3, m6⟩, k0, k1⟩ ?restc32
        case hic32 => (simp only [List.getElem?_toArray, List.getElem?_cons_succ, List.getElem?_cons_zero]; try rfl)
        case hyc32 => exact Or.inr ⟨by rfl, rfl⟩
        try simp only [Act.put, List.setIfInBounds_toArray, List.set_cons_zero, List.set_cons_succ]
        refine wpAnyH_take (i := 32) (oi := ?oic33) (v := ?vc33) ?hic33 (by kernel_rfl) (by kernel_rfl) (by kernel_rfl) (fun _ _ _ h => h) ?hyc33 ⟨⟨m0, m1, m3, m6⟩, k0, k1⟩ ?restc33
        case hic33 => (simp only [List.getElem?_toArray, List.getElem?_cons_succ, List.getElem?_cons_zero]; try rfl)
        case hyc33 => (refine Or.inl ⟨by rfl, ?_⟩; intro w hSw; go_simp; (try with_reducible rfl))
        try simp only [Act.put, List.setIfInBounds_toArray, List.set_cons_zero, List.set_cons_succ]
        refine wpAnyH_done (by kernel_rfl) ?_ _
        refine NoPanic.normal ?_
        go_wp2_with fail
        refine ⟨?_, by simp [intOf]; omega⟩
        exact hn.out
      · clear hno
        have HS := Lib.hid (show sel f t x = true by unfold sel; simp [h1, h2, h3])
        rw [h1] at m0
        obtain ⟨M, eM⟩ : ∃ M, M = nums f t (L.take k) := ⟨_, rfl⟩
        have hM : M.length ≤ 400 := by rw [eM]; exact Nat.le_trans (nums_len _ _ _) (by rw [List.length_take]; omega)
        have hny := nums_yes HX.out HS.out
        rw [← eM] at hny
        have HE := Lib.hid eM
        have HN := Lib.hid hny
        have HO9 := HO8.out
        rw [← eM] at HO9 ⊢
        have HOM := Lib.hid HO9
        clear eM hny HO9 HO8 hO
        have HML := Lib.hid hM
        have HO9 := Lib.hid (own_keep HOM.out (Below.refl _ _).drew)
        have HKd := Lib.hid (HK8.out.below (Below.refl _ _).drew HK8.out.lt)
        have m6d : w8.drew.cell? ⟨g8, 6, none⟩ = some (.int .i64 x.nu) := m6
        clear hM
        rcases Nat.eq_zero_or_pos M.length with h0 | hpos
        · obtain rfl : M = [] := List.length_eq_zero_iff.1 h0
          clear h0
          refine wp_region_noPanic ?_
          refine wp_region_held_drew (S := fun wa => ((wa.cell? ⟨g8, 0, none⟩ = some (.int .i64 11) ∧ wa.cell? ⟨g8, 1, none⟩ = some (.string x.F) ∧ wa.cell? ⟨g8, 3, none⟩ = some (.string x.T) ∧ wa.cell? ⟨g8, 6, none⟩ = some (.int .i64 x.nu)) ∧ wa.cell? ⟨w.heap.size, 0, none⟩ = some (.string f) ∧ wa.cell? ⟨w.heap.size, 1, none⟩ = some (.string t))) (by kernel_rfl) ⟨⟨m0, m1, m3, m6⟩, k0, k1⟩ (fun hHeld => ?_)
          refine wpAnyH_take (i := 0) (oi := ?oid1) (v := ?vd1) ?hid1 (by kernel_rfl) (by kernel_rfl) (by kernel_rfl) (fun _ _ _ h => h) ?hyd1 ⟨⟨m0, m1, m3, m6⟩, k0, k1⟩ ?restd1
          case hid1 => (simp only [List.getElem?_toArray, List.getElem?_cons_zero]; try rfl)
          case hyd1 => (refine Or.inl ⟨by rfl, ?_⟩; intro w hSw; go_simp; (try with_reducible rfl))
          try simp only [Act.put, List.setIfInBounds_toArray, List.set_cons_zero, List.set_cons_succ]
          refine wpAnyH_take (i := 1) (oi := ?oid2) (v := ?vd2) ?hid2 (by kernel_rfl) (by kernel_rfl) (by kernel_rfl) (fun _ _ _ h => h) ?hyd2 ⟨⟨m0, m1, m3, m6⟩, k0, k1⟩ ?restd2
          case hid2 => (simp only [List.getElem?_toArray, List.getElem?_cons_succ, List.getElem?_cons_zero]; try rfl)
          case hyd2 => (refine Or.inl ⟨by rfl, ?_⟩; intro w hSw; have q := hSw.1.1; go_simp; (try with_reducible rfl))
          try simp only [Act.put, List.setIfInBounds_toArray, List.set_cons_zero, List.set_cons_succ]
          refine wpAnyH_take (i := 2) (oi := ?oid3) (v := ?vd3) ?hid3 (by kernel_rfl) (by kernel_rfl) (by kernel_rfl) (fun _ _ _ h => h) ?hyd3 ⟨⟨m0, m1, m3, m6⟩, k0, k1⟩ ?restd3
          case hid3 => (simp only [List.getElem?_toArray, List.getElem?_cons_succ, List.getElem?_cons_zero]; try rfl)
          case hyd3 => (refine Or.inl ⟨by rfl, ?_⟩; intro w hSw; go_simp; (try with_reducible rfl))
          try simp only [Act.put, List.setIfInBounds_toArray, List.set_cons_zero, List.set_cons_succ]
          refine wpAnyH_take (i := 3) (oi := ?oid4) (v := ?vd4) ?hid4 (by kernel_rfl) (by kernel_rfl) (by kernel_rfl) (fun _ _ _ h => h) ?hyd4 ⟨⟨m0, m1, m3, m6⟩, k0, k1⟩ ?restd4
          case hid4 => (simp only [List.getElem?_toArray, List.getElem?_cons_succ, List.getElem?_cons_zero]; try rfl)
          case hyd4 => (refine Or.inl ⟨by rfl, ?_⟩; intro w hSw; go_simp; (try with_reducible rfl))
          try simp only [Act.put, List.setIfInBounds_toArray, List.set_cons_zero, List.set_cons_succ]
          refine wpAnyH_take (i := 4) (oi := ?oid5) (v := ?vd5) ?hid5 (by kernel_rfl) (by kernel_rfl) (by kernel_rfl) (fun _ _ _ h => h) ?hyd5 ⟨⟨m0, m1, m3, m6⟩, k0, k1⟩ ?restd5
          case hid5 => (simp only [List.getElem?_toArray, List.getElem?_cons_succ, List.getElem?_cons_zero]; try rfl)
          case hyd5 => (refine Or.inl ⟨by rfl, ?_⟩; intro w hSw; go_simp; (try with_reducible rfl))
          try simp only [Act.put, List.setIfInBounds_toArray, List.set_cons_zero, List.set_cons_succ]
          refine wpAnyH_take (i := 5) (oi := ?oid6) (v := ?vd6) ?hid6 (by kernel_rfl) (by kernel_rfl) (by kernel_rfl) (fun _ _ _ h => h) ?hyd6 ⟨⟨m0, m1, m3, m6⟩, k0, k1⟩ ?restd6
          case hid6 => (simp only [List.getElem?_toArray, List.getElem?_cons_succ, List.getElem?_cons_zero]; try rfl)
          case hyd6 => (refine Or.inl ⟨by rfl, ?_⟩; intro w hSw; have q := hSw.1.2.1; go_simp; (try with_reducible rfl))
          try simp only [Act.put, List.setIfInBounds_toArray, List.set_cons_zero, List.set_cons_succ]
          refine wpAnyH_take (i := 6) (oi := ?oid7) (v := ?vd7) ?hid7 (by kernel_rfl) (by kernel_rfl) (by kernel_rfl) (fun _ _ _ h => h) ?hyd7 ⟨⟨m0, m1, m3, m6⟩, k0, k1⟩ ?restd7
          case hid7 => (simp only [List.getElem?_toArray, List.getElem?_cons_succ, List.getElem?_cons_zero]; try rfl)
          case hyd7 => (refine Or.inl ⟨by rfl, ?_⟩; intro w hSw; go_simp; (try with_reducible rfl))
          try simp only [Act.put, List.setIfInBounds_toArray, List.set_cons_zero, List.set_cons_succ]
          refine wpAnyH_take (i := 7) (oi := ?oid8) (v := ?vd8) ?hid8 (by kernel_rfl) (by kernel_rfl) (by kernel_rfl) (fun _ _ _ h => h) ?hyd8 ⟨⟨m0, m1, m3, m6⟩, k0, k1⟩ ?restd8
          case hid8 => (simp only [List.getElem?_toArray, List.getElem?_cons_succ, List.getElem?_cons_zero]; try rfl)
          case hyd8 => (refine Or.inl ⟨by rfl, ?_⟩; intro w hSw; have q := hSw.2.1; go_simp; (try with_reducible rfl))
          try simp only [Act.put, List.setIfInBounds_toArray, List.set_cons_zero, List.set_cons_succ]
          refine wpAnyH_take (i := 8) (oi := ?oid9) (v := ?vd9) ?hid9 (by kernel_rfl) (by kernel_rfl) (by kernel_rfl) (fun _ _ _ h => h) ?hyd9 ⟨⟨m0, m1, m3, m6⟩, k0, k1⟩ ?restd9
          case hid9 => (simp only [List.getElem?_toArray, List.getElem?_cons_succ, List.getElem?_cons_zero]; try rfl)
          case hyd9 => (refine Or.inl ⟨by rfl, ?_⟩; intro w hSw; go_simp; (try with_reducible rfl))
          try simp only [Act.put, List.setIfInBounds_toArray, List.set_cons_zero, List.set_cons_succ]
          refine wpAnyH_take (i := 9) (oi := ?oid10) (v := ?vd10) ?hid10 (by kernel_rfl) (by kernel_rfl) (by kernel_rfl) (fun _ _ _ h => h) ?hyd10 ⟨⟨m0, m1, m3, m6⟩, k0, k1⟩ ?restd10
          case hid10 => (simp only [List.getElem?_toArray, List.getElem?_cons_succ, List.getElem?_cons_zero]; try rfl)
          case hyd10 => (refine Or.inl ⟨by rfl, ?_⟩; intro w hSw; go_simp; (try with_reducible rfl))
          try simp only [Act.put, List.setIfInBounds_toArray, List.set_cons_zero, List.set_cons_succ]
          refine wpAnyH_take (i := 10) (oi := ?oid11) (v := ?vd11) ?hid11 (by kernel_rfl) (by kernel_rfl) (by kernel_rfl) (fun _ _ _ h => h) ?hyd11 ⟨⟨m0, m1, m3, m6⟩, k0, k1⟩ ?restd11
          case hid11 => (simp only [List.getElem?_toArray, List.getElem?_cons_succ, List.getElem?_cons_zero]; try rfl)
          case hyd11 => (refine Or.inl ⟨by rfl, ?_⟩; intro w hSw; go_simp; (try with_reducible rfl))
          try simp only [Act.put, List.setIfInBounds_toArray, List.set_cons_zero, List.set_cons_succ]
          refine wpAnyH_take (i := 11) (oi := ?oid12) (v := ?vd12) ?hid12 (by kernel_rfl) (by kernel_rfl) (by kernel_rfl) (fun _ _ _ h => h) ?hyd12 ⟨⟨m0, m1, m3, m6⟩, k0, k1⟩ ?restd12
          case hid12 => (simp only [List.getElem?_toArray, List.getElem?_cons_succ, List.getElem?_cons_zero]; try rfl)
          case hyd12 => (refine Or.inl ⟨by rfl, ?_⟩; intro w hSw; go_simp; (try with_reducible rfl))
          try simp only [Act.put, List.setIfInBounds_toArray, List.set_cons_zero, List.set_cons_succ]
          refine wpAnyH_take (i := 12) (oi := ?oid13) (v := ?vd13) ?hid13 (by kernel_rfl) (by kernel_rfl) (by kernel_rfl) (fun _ _ _ h => h) ?hyd13 ⟨⟨m0, m1, m3, m6⟩, k0, k1⟩ ?restd13
          case hid13 => (simp only [List.getElem?_toArray, List.getElem?_cons_succ, List.getElem?_cons_zero]; try rfl)
          case hyd13 => (refine Or.inl ⟨by rfl, ?_⟩; intro w hSw; have q := hSw.1.2.2.1; go_simp; (try with_reducible rfl))
          try simp only [Act.put, List.setIfInBounds_toArray, List.set_cons_zero, List.set_cons_succ]
          refine wpAnyH_take (i := 13) (oi := ?oid14) (v := ?vd14) ?hid14 (by kernel_rfl) (by kernel_rfl) (by kernel_rfl) (fun _ _ _ h => h) ?hyd14 ⟨⟨m0, m1, m3, m6⟩, k0, k1⟩ ?restd14
          case hid14 => (simp only [List.getElem?_toArray, List.getElem?_cons_succ, List.getElem?_cons_zero]; try rfl)
          case hyd14 => (refine Or.inl ⟨by rfl, ?_⟩; intro w hSw; go_simp; (try with_reducible rfl))
          try simp only [Act.put, List.setIfInBounds_toArray, List.set_cons_zero, List.set_cons_succ]
          refine wpAnyH_take (i := 14) (oi := ?oid15) (v := ?vd15) ?hid15 (by kernel_rfl) (by kernel_rfl) (by kernel_rfl) (fun _ _ _ h => h) ?hyd15 ⟨⟨m0, m1, m3, m6⟩, k0, k1⟩ ?restd15
          case hid15 => (simp only [List.getElem?_toArray, List.getElem?_cons_succ, List.getElem?_cons_zero]; try rfl)
          case hyd15 => (refine Or.inl ⟨by rfl, ?_⟩; intro w hSw; have q := hSw.2.2; go_simp; (try with_reducible rfl))
          try simp only [Act.put, List.setIfInBounds_toArray, List.set_cons_zero, List.set_cons_succ]
          refine wpAnyH_take (i := 15) (oi := ?oid16) (v := ?vd16) ?hid16 (by kernel_rfl) (by kernel_rfl) (by kernel_rfl) (fun _ _ _ h => h) ?hyd16 ⟨⟨m0, m1, m3, m6⟩, k0, k1⟩ ?restd16
          case hid16 => (simp only [List.getElem?_toArray, List.getElem?_cons_succ, List.getElem?_cons_zero]; try rfl)
          case hyd16 => (refine Or.inl ⟨by rfl, ?_⟩; intro w hSw; go_simp; (try with_reducible rfl))
          try simp only [Act.put, List.setIfInBounds_toArray, List.set_cons_zero, List.set_cons_succ]
          refine wpAnyH_take (i := 16) (oi := ?oid17) (v := ?vd17) ?hid17 (by kernel_rfl) (by kernel_rfl) (by kernel_rfl) (fun _ _ _ h => h) ?hyd17 ⟨⟨m0, m1, m3, m6⟩, k0, k1⟩ ?restd17
          case hid17 => (simp only [List.getElem?_toArray, List.getElem?_cons_succ, List.getElem?_cons_zero]; try rfl)
          case hyd17 => (refine Or.inl ⟨by rfl, ?_⟩; intro w hSw; go_simp; (try with_reducible rfl))
          try simp only [Act.put, List.setIfInBounds_toArray, List.set_cons_zero, List.set_cons_succ]
          refine wpAnyH_take (i := 17) (oi := ?oid18) (v := ?vd18) ?hid18 (by kernel_rfl) (by kernel_rfl) (by kernel_rfl) (fun _ _ _ h => h) ?hyd18 ⟨⟨m0, m1, m3, m6⟩, k0, k1⟩ ?restd18
          case hid18 => (simp only [List.getElem?_toArray, List.getElem?_cons_succ, List.getElem?_cons_zero]; try rfl)
          case hyd18 => (refine Or.inl ⟨by rfl, ?_⟩; intro w hSw; go_simp; (try with_reducible rfl))
          try simp only [Act.put, List.setIfInBounds_toArray, List.set_cons_zero, List.set_cons_succ]
          refine wpAnyH_take (i := 18) (oi := ?oid19) (v := ?vd19) ?hid19 (by kernel_rfl) (by kernel_rfl) (by kernel_rfl) (fun _ _ _ h => h) ?hyd19 ⟨⟨m0, m1, m3, m6⟩, k0, k1⟩ ?restd19
          case hid19 => (simp only [List.getElem?_toArray, List.getElem?_cons_succ, List.getElem?_cons_zero]; try rfl)
          case hyd19 => (refine Or.inl ⟨by rfl, ?_⟩; intro w hSw; go_simp; (try with_reducible rfl))
          try simp only [Act.put, List.setIfInBounds_toArray, List.set_cons_zero, List.set_cons_succ]
          refine wpAnyH_take (i := 19) (oi := ?oid20) (v := ?vd20) ?hid20 (by kernel_rfl) (by kernel_rfl) (by kernel_rfl) (fun _ _ _ h => h) ?hyd20 ⟨⟨m0, m1, m3, m6⟩, k0, k1⟩ ?restd20
          case hid20 => (simp only [List.getElem?_toArray, List.getElem?_cons_succ, List.getElem?_cons_zero]; try rfl)
          case hyd20 => (refine Or.inl ⟨by rfl, ?_⟩; intro w hSw; go_simp; (try with_reducible rfl))
          try simp only [Act.put, List.setIfInBounds_toArray, List.set_cons_zero, List.set_cons_succ]
          refine wpAnyH_take (i := 20) (oi := ?oid21) (v := ?vd21) ?hid21 (by kernel_rfl) (by kernel_rfl) (by kernel_rfl) (fun _ _ _ h => h) ?hyd21 ⟨⟨m0, m1, m3, m6⟩, k0, k1⟩ ?restd21
          case hid21 => (simp only [List.getElem?_toArray, List.getElem?_cons_succ, List.getElem?_cons_zero]; try rfl)
          case hyd21 => (refine Or.inl ⟨by rfl, ?_⟩; intro w hSw; go_simp; (try with_reducible rfl))
          try simp only [Act.put, List.setIfInBounds_toArray, List.set_cons_zero, List.set_cons_succ]
          refine wpAnyH_take (i := 21) (oi := ?oid22) (v := ?vd22) ?hid22 (by kernel_rfl) (by kernel_rfl) (by kernel_rfl) (fun _ _ _ h => h) ?hyd22 ⟨⟨m0, m1, m3, m6⟩, k0, k1⟩ ?restd22
          case hid22 => (simp only [List.getElem?_toArray, List.getElem?_cons_succ, List.getElem?_cons_zero]; try rfl)
          case hyd22 => (refine Or.inl ⟨by rfl, ?_⟩; intro w hSw; go_simp; (try with_reducible rfl))
          try simp only [Act.put, List.setIfInBounds_toArray, List.set_cons_zero, List.set_cons_succ]
          refine wpAnyH_take (i := 22) (oi := ?oid23) (v := undef) ?hid23 (by kernel_rfl) (by kernel_rfl) (by kernel_rfl) (fun _ _ _ h => h) ?hyd23 ⟨⟨m0, m1, m3, m6⟩, k0, k1⟩ ?restd23
          case hid23 => (simp only [List.getElem?_toArray, List.getElem?_cons_succ, List.getElem?_cons_zero]; try rfl)
          case hyd23 => exact Or.inr ⟨by rfl, rfl⟩
          try simp only [Act.put, List.setIfInBounds_toArray, List.set_cons_zero, List.set_cons_succ]
          refine wpAnyH_take (i := 23) (oi := ?oid24) (v := undef) ?hid24 (by kernel_rfl) (by kernel_rfl) (by kernel_rfl) (fun _ _ _ h => h) ?hyd24 ⟨⟨m0, m1, m3, m6⟩, k0, k1⟩ ?restd24
          case hid24 => (simp only [List.getElem?_toArray, List.getElem?_cons_succ, List.getElem?_cons_zero]; try rfl)
          case hyd24 => exact Or.inr ⟨by rfl, rfl⟩
          try simp only [Act.put, List.setIfInBounds_toArray, List.set_cons_zero, List.set_cons_succ]
          refine wpAnyH_take (i := 24) (oi := ?oid25) (v := undef) ?hid25 (by kernel_rfl) (by kernel_rfl) (by kernel_rfl) (fun _ _ _ h => h) ?hyd25 ⟨⟨m0, m1, m3, m6⟩, k0, k1⟩ ?restd25
          case hid25 => (simp only [List.getElem?_toArray, List.getElem?_cons_succ, List.getElem?_cons_zero]; try rfl)
          case hyd25 => exact Or.inr ⟨by rfl, rfl⟩
          try simp only [Act.put, List.setIfInBounds_toArray, List.set_cons_zero, List.set_cons_succ]
          refine wpAnyH_take (i := 25) (oi := ?oid26) (v := undef) ?hid26 (by kernel_rfl) (by kernel_rfl) (by kernel_rfl) (fun _ _ _ h => h) ?hyd26 ⟨⟨m0, m1, m3, m6⟩, k0, k1⟩ ?restd26
          case hid26 => (simp only [List.getElem?_toArray, List.getElem?_cons_succ, List.getElem?_cons_zero]; try rfl)
          case hyd26 => exact Or.inr ⟨by rfl, rfl⟩
          try simp only [Act.put, List.setIfInBounds_toArray, List.set_cons_zero, List.set_cons_succ]
          refine wpAnyH_take (i := 26) (oi := ?oid27) (v := undef) ?hid27 (by kernel_rfl) (by kernel_rfl) (by kernel_rfl) (fun _ _ _ h => h) ?hyd27 ⟨⟨m0, m1, m3, m6⟩, k0, k1⟩ ?restd27
          case hid27 => (simp only [List.getElem?_toArray, List.getElem?_cons_succ, List.getElem?_cons_zero]; try rfl)
          case hyd27 => exact Or.inr ⟨by rfl, rfl⟩
          try simp only [Act.put, List.setIfInBounds_toArray, List.set_cons_zero, List.set_cons_succ]
          refine wpAnyH_take (i := 27) (oi := ?oid28) (v := undef) ?hid28 (by kernel_rfl) (by kernel_rfl) (by kernel_rfl) (fun _ _ _ h => h) ?hyd28 ⟨⟨m0, m1, m3, m6⟩, k0, k1⟩ ?restd28
          case hid28 => (simp only [List.getElem?_toArray, List.getElem?_cons_succ, List.getElem?_cons_zero]; try rfl)
          case hyd28 => exact Or.inr ⟨by rfl, rfl⟩
          try simp only [Act.put, List.setIfInBounds_toArray, List.set_cons_zero, List.set_cons_succ]
          refine wpAnyH_take (i := 28) (oi := ?oid29) (v := undef) ?hid29 (by kernel_rfl) (by kernel_rfl) (by kernel_rfl) (fun _ _ _ h => h) ?hyd29 ⟨⟨m0, m1, m3, m6⟩, k0, k1⟩ ?restd29
          case hid29 => (simp only [List.getElem?_toArray, List.getElem?_cons_succ, List.getElem?_cons_zero]; try rfl)
          case hyd29 => exact Or.inr ⟨by rfl, rfl⟩
          try simp only [Act.put, List.setIfInBounds_toArray, List.set_cons_zero, List.set_cons_succ]
          refine wpAnyH_take (i := 29) (oi := ?oid30) (v := undef) ?hid30 (by kernel_rfl) (by kernel_rfl) (by kernel_rfl) (fun _ _ _ h => h) ?hyd30 ⟨⟨m0, m1, m3, m6⟩, k0, k1⟩ ?restd30
          case hid30 => (simp only [List.getElem?_toArray, List.getElem?_cons_succ, List.getElem?_cons_zero]; try rfl)
          case hyd30 => exact Or.inr ⟨by rfl, rfl⟩
          try simp only [Act.put, List.setIfInBounds_toArray, List.set_cons_zero, List.set_cons_succ]
          refine wpAnyH_take (i := 30) (oi := ?oid31) (v := undef) ?hid31 (by kernel_rfl) (by kernel_rfl) (by kernel_rfl) (fun _ _ _ h => h) ?hyd31 ⟨⟨m0, m1, m3, m6⟩, k0, k1⟩ ?restd31
          case hid31 => (simp only [List.getElem?_toArray, List.getElem?_cons_succ, List.getElem?_cons_zero]; try rfl)
          case hyd31 => exact Or.inr ⟨by rfl, rfl⟩
          try simp only [Act.put, List.setIfInBounds_toArray, List.set_cons_zero, List.set_cons_succ]
          refine wpAnyH_take (i := 31) (oi := ?oid32) (v := ?vd32) ?hid32 (by kernel_rfl) (by kernel_rfl) (by kernel_rfl) (fun _ _ _ h => h) ?hyd32 ⟨⟨m0, m1, m3, m6⟩, k0, k1⟩ ?restd32
          case hid32 => (simp only [List.getElem?_toArray, List.getElem?_cons_succ, List.getElem?_cons_zero]; try rfl)
          case hyd32 => (refine Or.inl ⟨by rfl, ?_⟩; intro w hSw; go_simp; (try with_reducible rfl))
          try simp only [Act.put, List.setIfInBounds_toArray, List.set_cons_zero, List.set_cons_succ]
          refine wpAnyH_take (i := 32) (oi := ?oid33) (v := ?vd33) ?hid33 (by kernel_rfl) (by kernel_rfl) (by kernel_rfl) (fun _ _ _ h => h) ?hyd33 ⟨⟨m0, m1, m3, m6⟩, k0, k1⟩ ?restd33
          case hid33 => (simp only [List.getElem?_toArray, List.getElem?_cons_succ, List.getElem?_cons_zero]; try rfl)
          case hyd33 => (refine Or.inl ⟨by rfl, ?_⟩; intro w hSw; go_simp; (try with_reducible rfl))
          try simp only [Act.put, List.setIfInBounds_toArray, List.set_cons_zero, List.set_cons_succ]
          refine wpAnyH_done (by kernel_rfl) ?_ _
          refine NoPanic.normal ?_
          obtain ⟨i0, hi, hz0, hz1, hz2⟩ := info_parts int_infoW
          go_wp2_with (at_builtin; refine wpList_append_any _ rfl _ _ 22 rfl w.heap.size 3 i0 (.int .i64 0) 1 8 Try.underlying22 hi hz0 hz1 hz2 rfl (by decide) _ _ ([].map (Value.int .i64)) rfl (HO9.out.alloc _) _ (some ⟨w8.drew.heap.size, 0, none⟩) 1 1 [.int .i64 x.nu] rfl (reads_one w8.drew (.int .i64 x.nu) 3) (by simp [Value.oneCell']) (by have := HML.out; simp only [maxLen]; omega) (by have := HML.out; omega) (by have := HB8.out.size; simp; omega) ?_; intro v4 w4 hown4 hg4 hn4; obtain ⟨A4, c4', rfl, -, -⟩ := own_slice hown4)
          refine ⟨?_, by simp [intOf]; omega⟩
          have hpb := push_below HB8.out.drew (show w.heap.size ≤ w8.drew.heap.size from HB8.out.size) HO9.out _ hg4
          have hbk := own_blk_ne HO9.out HKd.out (by decide)
          have hkk : Blk w4 w.heap.size 30 #[.string f, .string t] := blk_grown (HKd.out.below ((Below.refl _ _).alloc (Nat.le_refl _) (.cells #[.int .i64 x.nu] 3)) HKd.out.lt) hg4 hbk
          have e2 : nums f t (L.take (k + 1)) = [] ++ [x.nu] := by rw [HN.out]; simp
          exact Lib.hid ⟨k + 1, by simp, by omega, by rw [e2, List.length_append, List.map_append]; exact hown4, hpb, hkk, _, rfl⟩
        · obtain ⟨z, hz⟩ : ∃ z, M.length = z + 1 := ⟨M.length - 1, by omega⟩
          obtain ⟨ux, rfl⟩ := own_some HOM.out hpos
          obtain ⟨la, hla⟩ : ∃ la, M[z]? = some la := ⟨M[z]'(by omega), List.getElem?_eq_getElem _⟩
          have l8 : w8.cell? ⟨ux, z, none⟩ = some (.int .i64 la) := (HOM.out.cellAt z (by show z < M.length * 1; omega)).trans (by rw [List.getElem?_map, hla]; rfl)
          have hz9 : z ≤ 400 := by have := HML.out; omega
          rw [hz]
          have z1 : IntKind.i64.wrap (z : Int) = z := by rw [IntKind.wrap_i64]; omega
          have z2 : ¬ ((z : Int) + 1 = 0) := by omega
          have z3 : (0 : Int) ≤ (z : Int) := by omega
          have z4 : (z : Int) < (z : Int) + 1 := by omega
          have HZ := Lib.hid hz
          have HLA := Lib.hid hla
          have l8d : w8.drew.cell? ⟨ux, z, none⟩ = some (.int .i64 la) := l8
          clear hz hla hpos
          cases hc : (la == x.nu) with
          | true =>
            have hc2 : (la != x.nu) = false := by simpa [bne] using hc
            have HC := Lib.hid hc
            refine wp_region_noPanic ?_
            refine wp_region_held_drew (S := fun wa => ((wa.cell? ⟨g8, 0, none⟩ = some (.int .i64 11) ∧ wa.cell? ⟨g8, 1, none⟩ = some (.string x.F) ∧ wa.cell? ⟨g8, 3, none⟩ = some (.string x.T) ∧ wa.cell? ⟨g8, 6, none⟩ = some (.int .i64 x.nu)) ∧ wa.cell? ⟨w.heap.size, 0, none⟩ = some (.string f) ∧ wa.cell? ⟨w.heap.size, 1, none⟩ = some (.string t) ∧ wa.cell? ⟨ux, z, none⟩ = some (.int .i64 la))) (by kernel_rfl) ⟨⟨m0, m1, m3, m6⟩, k0, k1, l8⟩ (fun hHeld => ?_)
            refine wpAnyH_take (i := 0) (oi := ?oie1) (v := ?ve1) ?hie1 (by kernel_rfl) (by kernel_rfl) (by kernel_rfl) (fun _ _ _ h => h) ?hye1 ⟨⟨m0, m1, m3, m6⟩, k0, k1, l8⟩ ?reste1
            case hie1 => (simp only [List.getElem?_toArray, List.getElem?_cons_zero]; try rfl)
            case hye1 => (refine Or.inl ⟨by rfl, ?_⟩; intro w hSw; go_simp; (try with_reducible rfl))
            try simp only [Act.put, List.setIfInBounds_toArray, List.set_cons_zero, List.set_cons_succ]
            refine wpAnyH_take (i := 1) (oi := ?oie2) (v := ?ve2) ?hie2 (by kernel_rfl) (by kernel_rfl) (by kernel_rfl) (fun _ _ _ h => h) ?hye2 ⟨⟨m0, m1, m3, m6⟩, k0, k1, l8⟩ ?reste2
            case hie2 => (simp only [List.getElem?_toArray, List.getElem?_cons_succ, List.getElem?_cons_zero]; try rfl)
            case hye2 => (refine Or.inl ⟨by rfl, ?_⟩; intro w hSw; have q := hSw.1.1; go_simp; (try with_reducible rfl))
            try simp only [Act.put, List.setIfInBounds_toArray, List.set_cons_zero, List.set_cons_succ]
            refine wpAnyH_take (i := 2) (oi := ?oie3) (v := ?ve3) ?hie3 (by kernel_rfl) (by kernel_rfl) (by kernel_rfl) (fun _ _ _ h => h) ?hye3 ⟨⟨m0, m1, m3, m6⟩, k0, k1, l8⟩ ?reste3
            case hie3 => (simp only [List.getElem?_toArray, List.getElem?_cons_succ, List.getElem?_cons_zero]; try rfl)
            case hye3 => (refine Or.inl ⟨by rfl, ?_⟩; intro w hSw; go_simp; (try with_reducible rfl))
            try simp only [Act.put, List.setIfInBounds_toArray, List.set_cons_zero, List.set_cons_succ]
            refine wpAnyH_take (i := 3) (oi := ?oie4) (v := ?ve4) ?hie4 (by kernel_rfl) (by kernel_rfl) (by kernel_rfl) (fun _ _ _ h => h) ?hye4 ⟨⟨m0, m1, m3, m6⟩, k0, k1, l8⟩ ?reste4
            case hie4 => (simp only [List.getElem?_toArray, List.getElem?_cons_succ, List.getElem?_cons_zero]; try rfl)
            case hye4 => (refine Or.inl ⟨by rfl, ?_⟩; intro w hSw; go_simp; (try with_reducible rfl))
            try simp only [Act.put, List.setIfInBounds_toArray, List.set_cons_zero, List.set_cons_succ]
            refine wpAnyH_take (i := 4) (oi := ?oie5) (v := ?ve5) ?hie5 (by kernel_rfl) (by kernel_rfl) (by kernel_rfl) (fun _ _ _ h => h) ?hye5 ⟨⟨m0, m1, m3, m6⟩, k0, k1, l8⟩ ?reste5
            case hie5 => (simp only [List.getElem?_toArray, List.getElem?_cons_succ, List.getElem?_cons_zero]; try rfl)
            case hye5 => (refine Or.inl ⟨by rfl, ?_⟩; intro w hSw; go_simp; (try with_reducible rfl))
            try simp only [Act.put, List.setIfInBounds_toArray, List.set_cons_zero, List.set_cons_succ]
            refine wpAnyH_take (i := 5) (oi := ?oie6) (v := ?ve6) ?hie6 (by kernel_rfl) (by kernel_rfl) (by kernel_rfl) (fun _ _ _ h => h) ?hye6 ⟨⟨m0, m1, m3, m6⟩, k0, k1, l8⟩ ?reste6
            case hie6 => (simp only [List.getElem?_toArray, List.getElem?_cons_succ, List.getElem?_cons_zero]; try rfl)
            case hye6 => (refine Or.inl ⟨by rfl, ?_⟩; intro w hSw; have q := hSw.1.2.1; go_simp; (try with_reducible rfl))
            try simp only [Act.put, List.setIfInBounds_toArray, List.set_cons_zero, List.set_cons_succ]
            refine wpAnyH_take (i := 6) (oi := ?oie7) (v := ?ve7) ?hie7 (by kernel_rfl) (by kernel_rfl) (by kernel_rfl) (fun _ _ _ h => h) ?hye7 ⟨⟨m0, m1, m3, m6⟩, k0, k1, l8⟩ ?reste7
            case hie7 => (simp only [List.getElem?_toArray, List.getElem?_cons_succ, List.getElem?_cons_zero]; try rfl)
            case hye7 => (refine Or.inl ⟨by rfl, ?_⟩; intro w hSw; go_simp; (try with_reducible rfl))
            try simp only [Act.put, List.setIfInBounds_toArray, List.set_cons_zero, List.set_cons_succ]
            refine wpAnyH_take (i := 7) (oi := ?oie8) (v := ?ve8) ?hie8 (by kernel_rfl) (by kernel_rfl) (by kernel_rfl) (fun _ _ _ h => h) ?hye8 ⟨⟨m0, m1, m3, m6⟩, k0, k1, l8⟩ ?reste8
            case hie8 => (simp only [List.getElem?_toArray, List.getElem?_cons_succ, List.getElem?_cons_zero]; try rfl)
            case hye8 => (refine Or.inl ⟨by rfl, ?_⟩; intro w hSw; have q := hSw.2.1; go_simp; (try with_reducible rfl))
            try simp only [Act.put, List.setIfInBounds_toArray, List.set_cons_zero, List.set_cons_succ]
            refine wpAnyH_take (i := 8) (oi := ?oie9) (v := ?ve9) ?hie9 (by kernel_rfl) (by kernel_rfl) (by kernel_rfl) (fun _ _ _ h => h) ?hye9 ⟨⟨m0, m1, m3, m6⟩, k0, k1, l8⟩ ?reste9
            case hie9 => (simp only [List.getElem?_toArray, List.getElem?_cons_succ, List.getElem?_cons_zero]; try rfl)
            case hye9 => (refine Or.inl ⟨by rfl, ?_⟩; intro w hSw; go_simp; (try with_reducible rfl))
            try simp only [Act.put, List.setIfInBounds_toArray, List.set_cons_zero, List.set_cons_succ]
            refine wpAnyH_take (i := 9) (oi := ?oie10) (v := ?ve10) ?hie10 (by kernel_rfl) (by kernel_rfl) (by kernel_rfl) (fun _ _ _ h => h) ?hye10 ⟨⟨m0, m1, m3, m6⟩, k0, k1, l8⟩ ?reste10
            case hie10 => (simp only [List.getElem?_toArray, List.getElem?_cons_succ, List.getElem?_cons_zero]; try rfl)
            case hye10 => (refine Or.inl ⟨by rfl, ?_⟩; intro w hSw; go_simp; (try with_reducible rfl))
            try simp only [Act.put, List.setIfInBounds_toArray, List.set_cons_zero, List.set_cons_succ]
            refine wpAnyH_take (i := 10) (oi := ?oie11) (v := ?ve11) ?hie11 (by kernel_rfl) (by kernel_rfl) (by kernel_rfl) (fun _ _ _ h => h) ?hye11 ⟨⟨m0, m1, m3, m6⟩, k0, k1, l8⟩ ?reste11
            case hie11 => (simp only [List.getElem?_toArray, List.getElem?_cons_succ, List.getElem?_cons_zero]; try rfl)
            case hye11 => (refine Or.inl ⟨by rfl, ?_⟩; intro w hSw; go_simp; (try with_reducible rfl))
            try simp only [Act.put, List.setIfInBounds_toArray, List.set_cons_zero, List.set_cons_succ]
            refine wpAnyH_take (i := 11) (oi := ?oie12) (v := ?ve12) ?hie12 (by kernel_rfl) (by kernel_rfl) (by kernel_rfl) (fun _ _ _ h => h) ?hye12 ⟨⟨m0, m1, m3, m6⟩, k0, k1, l8⟩ ?reste12
            case hie12 => (simp only [List.getElem?_toArray, List.getElem?_cons_succ, List.getElem?_cons_zero]; try rfl)
            case hye12 => (refine Or.inl ⟨by rfl, ?_⟩; intro w hSw; go_simp; (try with_reducible rfl))
            try simp only [Act.put, List.setIfInBounds_toArray, List.set_cons_zero, List.set_cons_succ]
            refine wpAnyH_take (i := 12) (oi := ?oie13) (v := ?ve13) ?hie13 (by kernel_rfl) (by kernel_rfl) (by kernel_rfl) (fun _ _ _ h => h) ?hye13 ⟨⟨m0, m1, m3, m6⟩, k0, k1, l8⟩ ?reste13
            case hie13 => (simp only [List.getElem?_toArray, List.getElem?_cons_succ, List.getElem?_cons_zero]; try rfl)
            case hye13 => (refine Or.inl ⟨by rfl, ?_⟩; intro w hSw; have q := hSw.1.2.2.1; go_simp; (try with_reducible rfl))
            try simp only [Act.put, List.setIfInBounds_toArray, List.set_cons_zero, List.set_cons_succ]
            refine wpAnyH_take (i := 13) (oi := ?oie14) (v := ?ve14) ?hie14 (by kernel_rfl) (by kernel_rfl) (by kernel_rfl) (fun _ _ _ h => h) ?hye14 ⟨⟨m0, m1, m3, m6⟩, k0, k1, l8⟩ ?reste14
            case hie14 => (simp only [List.getElem?_toArray, List.getElem?_cons_succ, List.getElem?_cons_zero]; try rfl)
            case hye14 => (refine Or.inl ⟨by rfl, ?_⟩; intro w hSw; go_simp; (try with_reducible rfl))
            try simp only [Act.put, List.setIfInBounds_toArray, List.set_cons_zero, List.set_cons_succ]
            refine wpAnyH_take (i := 14) (oi := ?oie15) (v := ?ve15) ?hie15 (by kernel_rfl) (by kernel_rfl) (by kernel_rfl) (fun _ _ _ h => h) ?hye15 ⟨⟨m0, m1, m3, m6⟩, k0, k1, l8⟩ ?reste15
            case hie15 => (simp only [List.getElem?_toArray, List.getElem?_cons_succ, List.getElem?_cons_zero]; try rfl)
            case hye15 => (refine Or.inl ⟨by rfl, ?_⟩; intro w hSw; have q := hSw.2.2.1; go_simp; (try with_reducible rfl))
            try simp only [Act.put, List.setIfInBounds_toArray, List.set_cons_zero, List.set_cons_succ]
            refine wpAnyH_take (i := 15) (oi := ?oie16) (v := ?ve16) ?hie16 (by kernel_rfl) (by kernel_rfl) (by kernel_rfl) (fun _ _ _ h => h) ?hye16 ⟨⟨m0, m1, m3, m6⟩, k0, k1, l8⟩ ?reste16
            case hie16 => (simp only [List.getElem?_toArray, List.getElem?_cons_succ, List.getElem?_cons_zero]; try rfl)
            case hye16 => (refine Or.inl ⟨by rfl, ?_⟩; intro w hSw; go_simp; (try with_reducible rfl))
            try simp only [Act.put, List.setIfInBounds_toArray, List.set_cons_zero, List.set_cons_succ]
            refine wpAnyH_take (i := 16) (oi := ?oie17) (v := ?ve17) ?hie17 (by kernel_rfl) (by kernel_rfl) (by kernel_rfl) (fun _ _ _ h => h) ?hye17 ⟨⟨m0, m1, m3, m6⟩, k0, k1, l8⟩ ?reste17
            case hie17 => (simp only [List.getElem?_toArray, List.getElem?_cons_succ, List.getElem?_cons_zero]; try rfl)
            case hye17 => (refine Or.inl ⟨by rfl, ?_⟩; intro w hSw; go_simp; (try with_reducible rfl))
            try simp only [Act.put, List.setIfInBounds_toArray, List.set_cons_zero, List.set_cons_succ]
            refine wpAnyH_take (i := 17) (oi := ?oie18) (v := ?ve18) ?hie18 (by kernel_rfl) (by kernel_rfl) (by kernel_rfl) (fun _ _ _ h => h) ?hye18 ⟨⟨m0, m1, m3, m6⟩, k0, k1, l8⟩ ?reste18
            case hie18 => (simp only [List.getElem?_toArray, List.getElem?_cons_succ, List.getElem?_cons_zero]; try rfl)
            case hye18 => (refine Or.inl ⟨by rfl, ?_⟩; intro w hSw; go_simp; (try with_reducible rfl))
            try simp only [Act.put, List.setIfInBounds_toArray, List.set_cons_zero, List.set_cons_succ]
            refine wpAnyH_take (i := 18) (oi := ?oie19) (v := ?ve19) ?hie19 (by kernel_rfl) (by kernel_rfl) (by kernel_rfl) (fun _ _ _ h => h) ?hye19 ⟨⟨m0, m1, m3, m6⟩, k0, k1, l8⟩ ?reste19
            case hie19 => (simp only [List.getElem?_toArray, List.getElem?_cons_succ, List.getElem?_cons_zero]; try rfl)
            case hye19 => (refine Or.inl ⟨by rfl, ?_⟩; intro w hSw; go_simp; (try with_reducible rfl))
            try simp only [Act.put, List.setIfInBounds_toArray, List.set_cons_zero, List.set_cons_succ]
            refine wpAnyH_take (i := 19) (oi := ?oie20) (v := ?ve20) ?hie20 (by kernel_rfl) (by kernel_rfl) (by kernel_rfl) (fun _ _ _ h => h) ?hye20 ⟨⟨m0, m1, m3, m6⟩, k0, k1, l8⟩ ?reste20
            case hie20 => (simp only [List.getElem?_toArray, List.getElem?_cons_succ, List.getElem?_cons_zero]; try rfl)
            case hye20 => (refine Or.inl ⟨by rfl, ?_⟩; intro w hSw; go_simp; (try with_reducible rfl))
            try simp only [Act.put, List.setIfInBounds_toArray, List.set_cons_zero, List.set_cons_succ]
            refine wpAnyH_take (i := 20) (oi := ?oie21) (v := ?ve21) ?hie21 (by kernel_rfl) (by kernel_rfl) (by kernel_rfl) (fun _ _ _ h => h) ?hye21 ⟨⟨m0, m1, m3, m6⟩, k0, k1, l8⟩ ?reste21
            case hie21 => (simp only [List.getElem?_toArray, List.getElem?_cons_succ, List.getElem?_cons_zero]; try rfl)
            case hye21 => (refine Or.inl ⟨by rfl, ?_⟩; intro w hSw; go_simp; (try with_reducible rfl))
            try simp only [Act.put, List.setIfInBounds_toArray, List.set_cons_zero, List.set_cons_succ]
            refine wpAnyH_take (i := 21) (oi := ?oie22) (v := ?ve22) ?hie22 (by kernel_rfl) (by kernel_rfl) (by kernel_rfl) (fun _ _ _ h => h) ?hye22 ⟨⟨m0, m1, m3, m6⟩, k0, k1, l8⟩ ?reste22
            case hie22 => (simp only [List.getElem?_toArray, List.getElem?_cons_succ, List.getElem?_cons_zero]; try rfl)
            case hye22 => (refine Or.inl ⟨by rfl, ?_⟩; intro w hSw; go_simp; (try with_reducible rfl))
            try simp only [Act.put, List.setIfInBounds_toArray, List.set_cons_zero, List.set_cons_succ]
            refine wpAnyH_take (i := 22) (oi := ?oie23) (v := ?ve23) ?hie23 (by kernel_rfl) (by kernel_rfl) (by kernel_rfl) (fun _ _ _ h => h) ?hye23 ⟨⟨m0, m1, m3, m6⟩, k0, k1, l8⟩ ?reste23
            case hie23 => (simp only [List.getElem?_toArray, List.getElem?_cons_succ, List.getElem?_cons_zero]; try rfl)
            case hye23 => (refine Or.inl ⟨by rfl, ?_⟩; intro w hSw; go_simp; (try with_reducible rfl))
            try simp only [Act.put, List.setIfInBounds_toArray, List.set_cons_zero, List.set_cons_succ]
            refine wpAnyH_take (i := 23) (oi := ?oie24) (v := ?ve24) ?hie24 (by kernel_rfl) (by kernel_rfl) (by kernel_rfl) (fun _ _ _ h => h) ?hye24 ⟨⟨m0, m1, m3, m6⟩, k0, k1, l8⟩ ?reste24
            case hie24 => (simp only [List.getElem?_toArray, List.getElem?_cons_succ, List.getElem?_cons_zero]; try rfl)
            case hye24 => (refine Or.inl ⟨by rfl, ?_⟩; intro w hSw; go_simp; (try with_reducible rfl))
            try simp only [Act.put, List.setIfInBounds_toArray, List.set_cons_zero, List.set_cons_succ]
            refine wpAnyH_take (i := 24) (oi := ?oie25) (v := ?ve25) ?hie25 (by kernel_rfl) (by kernel_rfl) (by kernel_rfl) (fun _ _ _ h => h) ?hye25 ⟨⟨m0, m1, m3, m6⟩, k0, k1, l8⟩ ?reste25
            case hie25 => (simp only [List.getElem?_toArray, List.getElem?_cons_succ, List.getElem?_cons_zero]; try rfl)
            case hye25 => (refine Or.inl ⟨by rfl, ?_⟩; intro w hSw; go_simp; (try with_reducible rfl))
            try simp only [Act.put, List.setIfInBounds_toArray, List.set_cons_zero, List.set_cons_succ]
            refine wpAnyH_take (i := 25) (oi := ?oie26) (v := ?ve26) ?hie26 (by kernel_rfl) (by kernel_rfl) (by kernel_rfl) (fun _ _ _ h => h) ?hye26 ⟨⟨m0, m1, m3, m6⟩, k0, k1, l8⟩ ?reste26
            case hie26 => (simp only [List.getElem?_toArray, List.getElem?_cons_succ, List.getElem?_cons_zero]; try rfl)
            case hye26 => (refine Or.inl ⟨by rfl, ?_⟩; intro w hSw; go_simp; (try with_reducible rfl))
            try simp only [Act.put, List.setIfInBounds_toArray, List.set_cons_zero, List.set_cons_succ]
            refine wpAnyH_take (i := 26) (oi := ?oie27) (v := ?ve27) ?hie27 (by kernel_rfl) (by kernel_rfl) (by kernel_rfl) (fun _ _ _ h => h) ?hye27 ⟨⟨m0, m1, m3, m6⟩, k0, k1, l8⟩ ?reste27
            case hie27 => (simp only [List.getElem?_toArray, List.getElem?_cons_succ, List.getElem?_cons_zero]; try rfl)
            case hye27 => (refine Or.inl ⟨by rfl, ?_⟩; intro w hSw; go_simp; (try with_reducible rfl))
            try simp only [Act.put, List.setIfInBounds_toArray, List.set_cons_zero, List.set_cons_succ]
            refine wpAnyH_take (i := 27) (oi := ?oie28) (v := ?ve28) ?hie28 (by kernel_rfl) (by kernel_rfl) (by kernel_rfl) (fun _ _ _ h => h) ?hye28 ⟨⟨m0, m1, m3, m6⟩, k0, k1, l8⟩ ?reste28
            case hie28 => (simp only [List.getElem?_toArray, List.getElem?_cons_succ, List.getElem?_cons_zero]; try rfl)
            case hye28 => (refine Or.inl ⟨by rfl, ?_⟩; intro w hSw; have q := hSw.2.2.2; go_simp; (try with_reducible rfl))
            try simp only [Act.put, List.setIfInBounds_toArray, List.set_cons_zero, List.set_cons_succ]
            refine wpAnyH_take (i := 28) (oi := ?oie29) (v := ?ve29) ?hie29 (by kernel_rfl) (by kernel_rfl) (by kernel_rfl) (fun _ _ _ h => h) ?hye29 ⟨⟨m0, m1, m3, m6⟩, k0, k1, l8⟩ ?reste29
            case hie29 => (simp only [List.getElem?_toArray, List.getElem?_cons_succ, List.getElem?_cons_zero]; try rfl)
            case hye29 => (refine Or.inl ⟨by rfl, ?_⟩; intro w hSw; go_simp; (try with_reducible rfl))
            try simp only [Act.put, List.setIfInBounds_toArray, List.set_cons_zero, List.set_cons_succ]
            refine wpAnyH_take (i := 29) (oi := ?oie30) (v := ?ve30) ?hie30 (by kernel_rfl) (by kernel_rfl) (by kernel_rfl) (fun _ _ _ h => h) ?hye30 ⟨⟨m0, m1, m3, m6⟩, k0, k1, l8⟩ ?reste30
            case hie30 => (simp only [List.getElem?_toArray, List.getElem?_cons_succ, List.getElem?_cons_zero]; try rfl)
            case hye30 => (refine Or.inl ⟨by rfl, ?_⟩; intro w hSw; have q := hSw.1.2.2.2; go_simp; (try with_reducible rfl))
            try simp only [Act.put, List.setIfInBounds_toArray, List.set_cons_zero, List.set_cons_succ]
            refine wpAnyH_take (i := 30) (oi := ?oie31) (v := ?ve31) ?hie31 (by kernel_rfl) (by kernel_rfl) (by kernel_rfl) (fun _ _ _ h => h) ?hye31 ⟨⟨m0, m1, m3, m6⟩, k0, k1, l8⟩ ?reste31
            case hie31 => (simp only [List.getElem?_toArray, List.getElem?_cons_succ, List.getElem?_cons_zero]; try rfl)
            case hye31 => (refine Or.inl ⟨by rfl, ?_⟩; intro w hSw; go_simp; (try with_reducible rfl))
            try simp only [Act.put, List.setIfInBounds_toArray, List.set_cons_zero, List.set_cons_succ]
            refine wpAnyH_take (i := 31) (oi := ?oie32) (v := ?ve32) ?hie32 (by kernel_rfl) (by kernel_rfl) (by kernel_rfl) (fun _ _ _ h => h) ?hye32 ⟨⟨m0, m1, m3, m6⟩, k0, k1, l8⟩ ?reste32
            case hie32 => (simp only [List.getElem?_toArray, List.getElem?_cons_succ, List.getElem?_cons_zero]; try rfl)
            case hye32 => (refine Or.inl ⟨by rfl, ?_⟩; intro w hSw; go_simp; (try with_reducible rfl))
            try simp only [Act.put, List.setIfInBounds_toArray, List.set_cons_zero, List.set_cons_succ]
            refine wpAnyH_take (i := 32) (oi := ?oie33) (v := ?ve33) ?hie33 (by kernel_rfl) (by kernel_rfl) (by kernel_rfl) (fun _ _ _ h => h) ?hye33 ⟨⟨m0, m1, m3, m6⟩, k0, k1, l8⟩ ?reste33
            case hie33 => (simp only [List.getElem?_toArray, List.getElem?_cons_succ, List.getElem?_cons_zero]; try rfl)
            case hye33 => (refine Or.inl ⟨by rfl, ?_⟩; intro w hSw; go_simp; (try with_reducible rfl))
            try simp only [Act.put, List.setIfInBounds_toArray, List.set_cons_zero, List.set_cons_succ]
            refine wpAnyH_done (by kernel_rfl) ?_ _
            refine NoPanic.normal ?_
            go_wp2_with fail
            refine ⟨?_, by simp [intOf]; omega⟩
            have e2 : nums f t (L.take (k + 1)) = M := by
              rw [HN.out, if_pos]
              rw [HZ.out, Nat.add_sub_cancel, HLA.out]
              exact congrArg some (by simpa using HC.out)
            have hoz := HO9.out
            rw [HZ.out] at hoz
            exact Lib.hid ⟨k + 1, by simp, by omega, by rw [e2, HZ.out]; exact hoz, HB8.out.drew, HKd.out, _, rfl⟩
          | false =>
            have hc2 : (la != x.nu) = true := by simpa [bne] using hc
            have HC := Lib.hid hc
            refine wp_region_noPanic ?_
            refine wp_region_held_drew (S := fun wa => ((wa.cell? ⟨g8, 0, none⟩ = some (.int .i64 11) ∧ wa.cell? ⟨g8, 1, none⟩ = some (.string x.F) ∧ wa.cell? ⟨g8, 3, none⟩ = some (.string x.T) ∧ wa.cell? ⟨g8, 6, none⟩ = some (.int .i64 x.nu)) ∧ wa.cell? ⟨w.heap.size, 0, none⟩ = some (.string f) ∧ wa.cell? ⟨w.heap.size, 1, none⟩ = some (.string t) ∧ wa.cell? ⟨ux, z, none⟩ = some (.int .i64 la))) (by kernel_rfl) ⟨⟨m0, m1, m3, m6⟩, k0, k1, l8⟩ (fun hHeld => ?_)
            refine wpAnyH_take (i := 0) (oi := ?oiff1) (v := ?vff1) ?hiff1 (by kernel_rfl) (by kernel_rfl) (by kernel_rfl) (fun _ _ _ h => h) ?hyff1 ⟨⟨m0, m1, m3, m6⟩, k0, k1, l8⟩ ?restff1
            case hiff1 => (simp only [List.getElem?_toArray, List.getElem?_cons_zero]; try rfl)
            case hyff1 => (refine Or.inl ⟨by rfl, ?_⟩; intro w hSw; go_simp; (try with_reducible rfl))
            try simp only [Act.put, List.setIfInBounds_toArray, List.set_cons_zero, List.set_cons_succ]
            refine wpAnyH_take (i := 1) (oi := ?oiff2) (v := ?vff2) ?hiff2 (by kernel_rfl) (by kernel_rfl) (by kernel_rfl) (fun _ _ _ h => h) ?hyff2 ⟨⟨m0, m1, m3, m6⟩, k0, k1, l8⟩ ?restff2
            case hiff2 => (simp only [List.getElem?_toArray, List.getElem?_cons_succ, List.getElem?_cons_zero]; try rfl)
            case hyff2 => (refine Or.inl ⟨by rfl, ?_⟩; intro w hSw; have q := hSw.1.1; go_simp; (try with_reducible rfl))
            try simp only [Act.put, List.setIfInBounds_toArray, List.set_cons_zero, List.set_cons_succ]
            refine wpAnyH_take (i := 2) (oi := ?oiff3) (v := ?vff3) ?hiff3 (by kernel_rfl) (by kernel_rfl) (by kernel_rfl) (fun _ _ _ h => h) ?hyff3 ⟨⟨m0, m1, m3, m6⟩, k0, k1, l8⟩ ?restff3
            case hiff3 => (simp only [List.getElem?_toArray, List.getElem?_cons_succ, List.getElem?_cons_zero]; try rfl)
            case hyff3 => (refine Or.inl ⟨by rfl, ?_⟩; intro w hSw; go_simp; (try with_reducible rfl))
            try simp only [Act.put, List.setIfInBounds_toArray, List.set_cons_zero, List.set_cons_succ]
            refine wpAnyH_take (i := 3) (oi := ?oiff4) (v := ?vff4) ?hiff4 (by kernel_rfl) (by kernel_rfl) (by kernel_rfl) (fun _ _ _ h => h) ?hyff4 ⟨⟨m0, m1, m3, m6⟩, k0, k1, l8⟩ ?restff4
            case hiff4 => (simp only [List.getElem?_toArray, List.getElem?_cons_succ, List.getElem?_cons_zero]; try rfl)
            case hyff4 => (refine Or.inl ⟨by rfl, ?_⟩; intro w hSw; go_simp; (try with_reducible rfl))
            try simp only [Act.put, List.setIfInBounds_toArray, List.set_cons_zero, List.set_cons_succ]
            refine wpAnyH_take (i := 4) (oi := ?oiff5) (v := ?vff5) ?hiff5 (by kernel_rfl) (by kernel_rfl) (by kernel_rfl) (fun _ _ _ h => h) ?hyff5 ⟨⟨m0, m1, m3, m6⟩, k0, k1, l8⟩ ?restff5
            case hiff5 => (simp only [List.getElem?_toArray, List.getElem?_cons_succ, List.getElem?_cons_zero]; try rfl)
            case hyff5 => (refine Or.inl ⟨by rfl, ?_⟩; intro w hSw; go_simp; (try with_reducible rfl))
            try simp only [Act.put, List.setIfInBounds_toArray, List.set_cons_zero, List.set_cons_succ]
            refine wpAnyH_take (i := 5) (oi := ?oiff6) (v := ?vff6) ?hiff6 (by kernel_rfl) (by kernel_rfl) (by kernel_rfl) (fun _ _ _ h => h) ?hyff6 ⟨⟨m0, m1, m3, m6⟩, k0, k1, l8⟩ ?restff6
            case hiff6 => (simp only [List.getElem?_toArray, List.getElem?_cons_succ, List.getElem?_cons_zero]; try rfl)
            case hyff6 => (refine Or.inl ⟨by rfl, ?_⟩; intro w hSw; have q := hSw.1.2.1; go_simp; (try with_reducible rfl))
            try simp only [Act.put, List.setIfInBounds_toArray, List.set_cons_zero, List.set_cons_succ]
            refine wpAnyH_take (i := 6) (oi := ?oiff7) (v := ?vff7) ?hiff7 (by kernel_rfl) (by kernel_rfl) (by kernel_rfl) (fun _ _ _ h => h) ?hyff7 ⟨⟨m0, m1, m3, m6⟩, k0, k1, l8⟩ ?restff7
            case hiff7 => (simp only [List.getElem?_toArray, List.getElem?_cons_succ, List.getElem?_cons_zero]; try rfl)
            case hyff7 => (refine Or.inl ⟨by rfl, ?_⟩; intro w hSw; go_simp; (try with_reducible rfl))
            try simp only [Act.put, List.setIfInBounds_toArray, List.set_cons_zero, List.set_cons_succ]
            refine wpAnyH_take (i := 7) (oi := ?oiff8) (v := ?vff8) ?hiff8 (by kernel_rfl) (by kernel_rfl) (by kernel_rfl) (fun _ _ _ h => h) ?hyff8 ⟨⟨m0, m1, m3, m6⟩, k0, k1, l8⟩ ?restff8
            case hiff8 => (simp only [List.getElem?_toArray, List.getElem?_cons_succ, List.getElem?_cons_zero]; try rfl)
            case hyff8 => (refine Or.inl ⟨by rfl, ?_⟩; intro w hSw; have q := hSw.2.1; go_simp; (try with_reducible rfl))
            try simp only [Act.put, List.setIfInBounds_toArray, List.set_cons_zero, List.set_cons_succ]
            refine wpAnyH_take (i := 8) (oi := ?oiff9) (v := ?vff9) ?hiff9 (by kernel_rfl) (by kernel_rfl) (by kernel_rfl) (fun _ _ _ h => h) ?hyff9 ⟨⟨m0, m1, m3, m6⟩, k0, k1, l8⟩ ?restff9
            case hiff9 => (simp only [List.getElem?_toArray, List.getElem?_cons_succ, List.getElem?_cons_zero]; try rfl)
            case hyff9 => (refine Or.inl ⟨by rfl, ?_⟩; intro w hSw; go_simp; (try with_reducible rfl))
            try simp only [Act.put, List.setIfInBounds_toArray, List.set_cons_zero, List.set_cons_succ]
            refine wpAnyH_take (i := 9) (oi := ?oiff10) (v := ?vff10) ?hiff10 (by kernel_rfl) (by kernel_rfl) (by kernel_rfl) (fun _ _ _ h => h) ?hyff10 ⟨⟨m0, m1, m3, m6⟩, k0, k1, l8⟩ ?restff10
            case hiff10 => (simp only [List.getElem?_toArray, List.getElem?_cons_succ, List.getElem?_cons_zero]; try rfl)
            case hyff10 => (refine Or.inl ⟨by rfl, ?_⟩; intro w hSw; go_simp; (try with_reducible rfl))
            try simp only [Act.put, List.setIfInBounds_toArray, List.set_cons_zero, List.set_cons_succ]
            refine wpAnyH_take (i := 10) (oi := ?oiff11) (v := ?vff11) ?hiff11 (by kernel_rfl) (by kernel_rfl) (by kernel_rfl) (fun _ _ _ h => h) ?hyff11 ⟨⟨m0, m1, m3, m6⟩, k0, k1, l8⟩ ?restff11
            case hiff11 => (simp only [List.getElem?_toArray, List.getElem?_cons_succ, List.getElem?_cons_zero]; try rfl)
            case hyff11 => (refine Or.inl ⟨by rfl, ?_⟩; intro w hSw; go_simp; (try with_reducible rfl))
            try simp only [Act.put, List.setIfInBounds_toArray, List.set_cons_zero, List.set_cons_succ]
            refine wpAnyH_take (i := 11) (oi := ?oiff12) (v := ?vff12) ?hiff12 (by kernel_rfl) (by kernel_rfl) (by kernel_rfl) (fun _ _ _ h => h) ?hyff12 ⟨⟨m0, m1, m3, m6⟩, k0, k1, l8⟩ ?restff12
            case hiff12 => (simp only [List.getElem?_toArray, List.getElem?_cons_succ, List.getElem?_cons_zero]; try rfl)
            case hyff12 => (refine Or.inl ⟨by rfl, ?_⟩; intro w hSw; go_simp; (try with_reducible rfl))
            try simp only [Act.put, List.setIfInBounds_toArray, List.set_cons_zero, List.set_cons_succ]
            refine wpAnyH_take (i := 12) (oi := ?oiff13) (v := ?vff13) ?hiff13 (by kernel_rfl) (by kernel_rfl) (by kernel_rfl) (fun _ _ _ h => h) ?hyff13 ⟨⟨m0, m1, m3, m6⟩, k0, k1, l8⟩ ?restff13
            case hiff13 => (simp only [List.getElem?_toArray, List.getElem?_cons_succ, List.getElem?_cons_zero]; try rfl)
            case hyff13 => (refine Or.inl ⟨by rfl, ?_⟩; intro w hSw; have q := hSw.1.2.2.1; go_simp; (try with_reducible rfl))
            try simp only [Act.put, List.setIfInBounds_toArray, List.set_cons_zero, List.set_cons_succ]
            refine wpAnyH_take (i := 13) (oi := ?oiff14) (v := ?vff14) ?hiff14 (by kernel_rfl) (by kernel_rfl) (by kernel_rfl) (fun _ _ _ h => h) ?hyff14 ⟨⟨m0, m1, m3, m6⟩, k0, k1, l8⟩ ?restff14
            case hiff14 => (simp only [List.getElem?_toArray, List.getElem?_cons_succ, List.getElem?_cons_zero]; try rfl)
            case hyff14 => (refine Or.inl ⟨by rfl, ?_⟩; intro w hSw; go_simp; (try with_reducible rfl))
            try simp only [Act.put, List.setIfInBounds_toArray, List.set_cons_zero, List.set_cons_succ]
            refine wpAnyH_take (i := 14) (oi := ?oiff15) (v := ?vff15) ?hiff15 (by kernel_rfl) (by kernel_rfl) (by kernel_rfl) (fun _ _ _ h => h) ?hyff15 ⟨⟨m0, m1, m3, m6⟩, k0, k1, l8⟩ ?restff15
            case hiff15 => (simp only [List.getElem?_toArray, List.getElem?_cons_succ, List.getElem?_cons_zero]; try rfl)
            case hyff15 => (refine Or.inl ⟨by rfl, ?_⟩; intro w hSw; have q := hSw.2.2.1; go_simp; (try with_reducible rfl))
            try simp only [Act.put, List.setIfInBounds_toArray, List.set_cons_zero, List.set_cons_succ]
            refine wpAnyH_take (i := 15) (oi := ?oiff16) (v := ?vff16) ?hiff16 (by kernel_rfl) (by kernel_rfl) (by kernel_rfl) (fun _ _ _ h => h) ?hyff16 ⟨⟨m0, m1, m3, m6⟩, k0, k1, l8⟩ ?restff16
            case hiff16 => (simp only [List.getElem?_toArray, List.getElem?_cons_succ, List.getElem?_cons_zero]; try rfl)
            case hyff16 => (refine Or.inl ⟨by rfl, ?_⟩; intro w hSw; go_simp; (try with_reducible rfl))
            try simp only [Act.put, List.setIfInBounds_toArray, List.set_cons_zero, List.set_cons_succ]
            refine wpAnyH_take (i := 16) (oi := ?oiff17) (v := ?vff17) ?hiff17 (by kernel_rfl) (by kernel_rfl) (by kernel_rfl) (fun _ _ _ h => h) ?hyff17 ⟨⟨m0, m1, m3, m6⟩, k0, k1, l8⟩ ?restff17
            case hiff17 => (simp only [List.getElem?_toArray, List.getElem?_cons_succ, List.getElem?_cons_zero]; try rfl)
            case hyff17 => (refine Or.inl ⟨by rfl, ?_⟩; intro w hSw; go_simp; (try with_reducible rfl))
            try simp only [Act.put, List.setIfInBounds_toArray, List.set_cons_zero, List.set_cons_succ]
            refine wpAnyH_take (i := 17) (oi := ?oiff18) (v := ?vff18) ?hiff18 (by kernel_rfl) (by kernel_rfl) (by kernel_rfl) (fun _ _ _ h => h) ?hyff18 ⟨⟨m0, m1, m3, m6⟩, k0, k1, l8⟩ ?restff18
            case hiff18 => (simp only [List.getElem?_toArray, List.getElem?_cons_succ, List.getElem?_cons_zero]; try rfl)
            case hyff18 => (refine Or.inl ⟨by rfl, ?_⟩; intro w hSw; go_simp; (try with_reducible rfl))
            try simp only [Act.put, List.setIfInBounds_toArray, List.set_cons_zero, List.set_cons_succ]
            refine wpAnyH_take (i := 18) (oi := ?oiff19) (v := ?vff19) ?hiff19 (by kernel_rfl) (by kernel_rfl) (by kernel_rfl) (fun _ _ _ h => h) ?hyff19 ⟨⟨m0, m1, m3, m6⟩, k0, k1, l8⟩ ?restff19
            case hiff19 => (simp only [List.getElem?_toArray, List.getElem?_cons_succ, List.getElem?_cons_zero]; try rfl)
            case hyff19 => (refine Or.inl ⟨by rfl, ?_⟩; intro w hSw; go_simp; (try with_reducible rfl))
            try simp only [Act.put, List.setIfInBounds_toArray, List.set_cons_zero, List.set_cons_succ]
            refine wpAnyH_take (i := 19) (oi := ?oiff20) (v := ?vff20) ?hiff20 (by kernel_rfl) (by kernel_rfl) (by kernel_rfl) (fun _ _ _ h => h) ?hyff20 ⟨⟨m0, m1, m3, m6⟩, k0, k1, l8⟩ ?restff20
            case hiff20 => (simp only [List.getElem?_toArray, List.getElem?_cons_succ, List.getElem?_cons_zero]; try rfl)
            case hyff20 => (refine Or.inl ⟨by rfl, ?_⟩; intro w hSw; go_simp; (try with_reducible rfl))
            try simp only [Act.put, List.setIfInBounds_toArray, List.set_cons_zero, List.set_cons_succ]
            refine wpAnyH_take (i := 20) (oi := ?oiff21) (v := ?vff21) ?hiff21 (by kernel_rfl) (by kernel_rfl) (by kernel_rfl) (fun _ _ _ h => h) ?hyff21 ⟨⟨m0, m1, m3, m6⟩, k0, k1, l8⟩ ?restff21
            case hiff21 => (simp only [List.getElem?_toArray, List.getElem?_cons_succ, List.getElem?_cons_zero]; try rfl)
            case hyff21 => (refine Or.inl ⟨by rfl, ?_⟩; intro w hSw; go_simp; (try with_reducible rfl))
            try simp only [Act.put, List.setIfInBounds_toArray, List.set_cons_zero, List.set_cons_succ]
            refine wpAnyH_take (i := 21) (oi := ?oiff22) (v := ?vff22) ?hiff22 (by kernel_rfl) (by kernel_rfl) (by kernel_rfl) (fun _ _ _ h => h) ?hyff22 ⟨⟨m0, m1, m3, m6⟩, k0, k1, l8⟩ ?restff22
            case hiff22 => (simp only [List.getElem?_toArray, List.getElem?_cons_succ, List.getElem?_cons_zero]; try rfl)
            case hyff22 => (refine Or.inl ⟨by rfl, ?_⟩; intro w hSw; go_simp; (try with_reducible rfl))
            try simp only [Act.put, List.setIfInBounds_toArray, List.set_cons_zero, List.set_cons_succ]
            refine wpAnyH_take (i := 22) (oi := ?oiff23) (v := ?vff23) ?hiff23 (by kernel_rfl) (by kernel_rfl) (by kernel_rfl) (fun _ _ _ h => h) ?hyff23 ⟨⟨m0, m1, m3, m6⟩, k0, k1, l8⟩ ?restff23
            case hiff23 => (simp only [List.getElem?_toArray, List.getElem?_cons_succ, List.getElem?_cons_zero]; try rfl)
            case hyff23 => (refine Or.inl ⟨by rfl, ?_⟩; intro w hSw; go_simp; (try with_reducible rfl))
            try simp only [Act.put, List.setIfInBounds_toArray, List.set_cons_zero, List.set_cons_succ]
            refine wpAnyH_take (i := 23) (oi := ?oiff24) (v := ?vff24) ?hiff24 (by kernel_rfl) (by kernel_rfl) (by kernel_rfl) (fun _ _ _ h => h) ?hyff24 ⟨⟨m0, m1, m3, m6⟩, k0, k1, l8⟩ ?restff24
            case hiff24 => (simp only [List.getElem?_toArray, List.getElem?_cons_succ, List.getElem?_cons_zero]; try rfl)
            case hyff24 => (refine Or.inl ⟨by rfl, ?_⟩; intro w hSw; go_simp; (try with_reducible rfl))
            try simp only [Act.put, List.setIfInBounds_toArray, List.set_cons_zero, List.set_cons_succ]
            refine wpAnyH_take (i := 24) (oi := ?oiff25) (v := ?vff25) ?hiff25 (by kernel_rfl) (by kernel_rfl) (by kernel_rfl) (fun _ _ _ h => h) ?hyff25 ⟨⟨m0, m1, m3, m6⟩, k0, k1, l8⟩ ?restff25
            case hiff25 => (simp only [List.getElem?_toArray, List.getElem?_cons_succ, List.getElem?_cons_zero]; try rfl)
            case hyff25 => (refine Or.inl ⟨by rfl, ?_⟩; intro w hSw; go_simp; (try with_reducible rfl))
            try simp only [Act.put, List.setIfInBounds_toArray, List.set_cons_zero, List.set_cons_succ]
            refine wpAnyH_take (i := 25) (oi := ?oiff26) (v := ?vff26) ?hiff26 (by kernel_rfl) (by kernel_rfl) (by kernel_rfl) (fun _ _ _ h => h) ?hyff26 ⟨⟨m0, m1, m3, m6⟩, k0, k1, l8⟩ ?restff26
            case hiff26 => (simp only [List.getElem?_toArray, List.getElem?_cons_succ, List.getElem?_cons_zero]; try rfl)
            case hyff26 => (refine Or.inl ⟨by rfl, ?_⟩; intro w hSw; go_simp; (try with_reducible rfl))
            try simp only [Act.put, List.setIfInBounds_toArray, List.set_cons_zero, List.set_cons_succ]
            refine wpAnyH_take (i := 26) (oi := ?oiff27) (v := ?vff27) ?hiff27 (by kernel_rfl) (by kernel_rfl) (by kernel_rfl) (fun _ _ _ h => h) ?hyff27 ⟨⟨m0, m1, m3, m6⟩, k0, k1, l8⟩ ?restff27
            case hiff27 => (simp only [List.getElem?_toArray, List.getElem?_cons_succ, List.getElem?_cons_zero]; try rfl)
            case hyff27 => (refine Or.inl ⟨by rfl, ?_⟩; intro w hSw; go_simp; (try with_reducible rfl))
            try simp only [Act.put, List.setIfInBounds_toArray, List.set_cons_zero, List.set_cons_succ]
            refine wpAnyH_take (i := 27) (oi := ?oiff28) (v := ?vff28) ?hiff28 (by kernel_rfl) (by kernel_rfl) (by kernel_rfl) (fun _ _ _ h => h) ?hyff28 ⟨⟨m0, m1, m3, m6⟩, k0, k1, l8⟩ ?restff28
            case hiff28 => (simp only [List.getElem?_toArray, List.getElem?_cons_succ, List.getElem?_cons_zero]; try rfl)
            case hyff28 => (refine Or.inl ⟨by rfl, ?_⟩; intro w hSw; have q := hSw.2.2.2; go_simp; (try with_reducible rfl))
            try simp only [Act.put, List.setIfInBounds_toArray, List.set_cons_zero, List.set_cons_succ]
            refine wpAnyH_take (i := 28) (oi := ?oiff29) (v := ?vff29) ?hiff29 (by kernel_rfl) (by kernel_rfl) (by kernel_rfl) (fun _ _ _ h => h) ?hyff29 ⟨⟨m0, m1, m3, m6⟩, k0, k1, l8⟩ ?restff29
            case hiff29 => (simp only [List.getElem?_toArray, List.getElem?_cons_succ, List.getElem?_cons_zero]; try rfl)
            case hyff29 => (refine Or.inl ⟨by rfl, ?_⟩; intro w hSw; go_simp; (try with_reducible rfl))
            try simp only [Act.put, List.setIfInBounds_toArray, List.set_cons_zero, List.set_cons_succ]
            refine wpAnyH_take (i := 29) (oi := ?oiff30) (v := ?vff30) ?hiff30 (by kernel_rfl) (by kernel_rfl) (by kernel_rfl) (fun _ _ _ h => h) ?hyff30 ⟨⟨m0, m1, m3, m6⟩, k0, k1, l8⟩ ?restff30
            case hiff30 => (simp only [List.getElem?_toArray, List.getElem?_cons_succ, List.getElem?_cons_zero]; try rfl)
            case hyff30 => (refine Or.inl ⟨by rfl, ?_⟩; intro w hSw; have q := hSw.1.2.2.2; go_simp; (try with_reducible rfl))
            try simp only [Act.put, List.setIfInBounds_toArray, List.set_cons_zero, List.set_cons_succ]
            refine wpAnyH_take (i := 30) (oi := ?oiff31) (v := ?vff31) ?hiff31 (by kernel_rfl) (by kernel_rfl) (by kernel_rfl) (fun _ _ _ h => h) ?hyff31 ⟨⟨m0, m1, m3, m6⟩, k0, k1, l8⟩ ?restff31
            case hiff31 => (simp only [List.getElem?_toArray, List.getElem?_cons_succ, List.getElem?_cons_zero]; try rfl)
            case hyff31 => (refine Or.inl ⟨by rfl, ?_⟩; intro w hSw; go_simp; (try with_reducible rfl))
            try simp only [Act.put, List.setIfInBounds_toArray, List.set_cons_zero, List.set_cons_succ]
            refine wpAnyH_take (i := 31) (oi := ?oiff32) (v := ?vff32) ?hiff32 (by kernel_rfl) (by kernel_rfl) (by kernel_rfl) (fun _ _ _ h => h) ?hyff32 ⟨⟨m0, m1, m3, m6⟩, k0, k1, l8⟩ ?restff32
            case hiff32 => (simp only [List.getElem?_toArray, List.getElem?_cons_succ, List.getElem?_cons_zero]; try rfl)
            case hyff32 => (refine Or.inl ⟨by rfl, ?_⟩; intro w hSw; go_simp; (try with_reducible rfl))
            try simp only [Act.put, List.setIfInBounds_toArray, List.set_cons_zero, List.set_cons_succ]
            refine wpAnyH_take (i := 32) (oi := ?oiff33) (v := ?vff33) ?hiff33 (by kernel_rfl) (by kernel_rfl) (by kernel_rfl) (fun _ _ _ h => h) ?hyff33 ⟨⟨m0, m1, m3, m6⟩, k0, k1, l8⟩ ?restff33
            case hiff33 => (simp only [List.getElem?_toArray, List.getElem?_cons_succ, List.getElem?_cons_zero]; try rfl)
            case hyff33 => (refine Or.inl ⟨by rfl, ?_⟩; intro w hSw; go_simp; (try with_reducible rfl))
            try simp only [Act.put, List.setIfInBounds_toArray, List.set_cons_zero, List.set_cons_succ]
            refine wpAnyH_done (by kernel_rfl) ?_ _
            refine NoPanic.normal ?_
            have hoz := HO9.out
            rw [HZ.out] at hoz
            have HO10 := Lib.hid hoz
            clear hoz
            obtain ⟨i0, hi, hz0, hz1, hz2⟩ := info_parts int_infoW
            go_wp2_with (at_builtin; refine wpList_append_any _ rfl _ _ 22 rfl w.heap.size 3 i0 (.int .i64 0) 1 8 Try.underlying22 hi hz0 hz1 hz2 rfl (by decide) _ _ (M.map (Value.int .i64)) rfl (HO10.out.alloc _) _ (some ⟨w8.drew.heap.size, 0, none⟩) 1 1 [.int .i64 x.nu] rfl (reads_one w8.drew (.int .i64 x.nu) 3) (by simp [Value.oneCell']) (by simp only [maxLen]; omega) (by omega) (by have := HB8.out.size; simp; omega) ?_; intro v4 w4 hown4 hg4 hn4; obtain ⟨A4, c4', rfl, -, -⟩ := own_slice hown4)
            refine ⟨?_, by simp [intOf]; omega⟩
            have hpb := push_below HB8.out.drew (show w.heap.size ≤ w8.drew.heap.size from HB8.out.size) HO10.out _ hg4
            have hbk := own_blk_ne HO10.out HKd.out (by decide)
            have hkk : Blk w4 w.heap.size 30 #[.string f, .string t] := blk_grown (HKd.out.below ((Below.refl _ _).alloc (Nat.le_refl _) (.cells #[.int .i64 x.nu] 3)) HKd.out.lt) hg4 hbk
            have e2 : nums f t (L.take (k + 1)) = M ++ [x.nu] := by
              rw [HN.out, if_neg]
              rw [HZ.out, Nat.add_sub_cancel, HLA.out]
              intro e
              have h9 := HC.out
              injection e with e
              rw [e] at h9
              simp at h9
            exact Lib.hid ⟨k + 1, by simp, by omega, by rw [e2, List.length_append, List.map_append, HZ.out]; exact hown4, hpb, hkk, _, rfl⟩
    · go_wp2_with fail
      go_ret
      have e : L.take k = L := List.take_of_length_le (by have := HL.out; omega)
      have ho := hO.out
      rw [e] at ho
      have hv : (nums f t (L.take k)).length = (nums f t L).length := by rw [e]
      exact ⟨_, rfl, by rw [hv]; exact ho, HB7.out⟩
end Go.Proofs.Yticmldkgkfcoeaa.Wa
