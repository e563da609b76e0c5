/- The program's streams. -/
import Derived.Test.YticmldkgkfcoeaaWaH
import Derived.WideMake
namespace Go.Proofs.Yticmldkgkfcoeaa.Wa
open Go Go.RowKit Go.Proofs.Yticmldkgkfcoeaa Go.Proofs.Yticmldkgkfcoeaa.Crw Go.ChangeShapes Go.WideShapes Go.ChangeAt
set_option linter.unusedVariables false
set_option maxRecDepth 100000
theorem run_len {a s : List Int} {U : List (Int × Int)} (h : run (some a) U = some s) : s.length ≤ a.length + U.length := by
  induction U generalizing a with
  | nil => simp only [run, Option.some.injEq] at h; rw [h]; simp
  | cons u U ih =>
    simp only [run] at h
    cases hf : follow a u with
    | none => rw [hf, run_none] at h; cases h
    | some c =>
      rw [hf] at h
      have h1 := ih h
      have h2 : c.length ≤ a.length + 1 := by
        unfold follow at hf
        split at hf
        · split at hf
          · injection hf with hf; rw [← hf]; omega
          · cases hf
        · split at hf
          · injection hf with hf; rw [← hf]; simp
          · cases hf
      simp; omega
theorem upd_len (f t : ByteArray) (L : List Sd) : (upd f t L).length ≤ L.length := by
  unfold upd
  rw [List.length_map]
  exact List.length_filter_le _ _
theorem own_blk_any {w : World} {B g n : Nat} {e ty : TypeId} {v : Value} {xs : List Value} {cs : Array Value} (ho : w.ownsRow B e 1 v n xs) (hb : Blk w g ty cs) (hne : e ≠ ty) : v.ownBlock ≠ some g := own_blk_ne ho hb hne
set_option maxHeartbeats 8000000 in
theorem Streams_p (v : Value) (n B : Nat) (L : List Sd) (w : World) (hr : w.ownsRow B 45 11 v n (sdV L)) (hn : n ≤ 400) :
    Calls Try.prog 9 #[v] w fun e w' => e = .returned (.bool (okS L)) ∧ Below w.heap.size w w' := by
  obtain ⟨A, c, rfl, hc, -⟩ := own_slice hr
  have hl : L.length = n := by have := hr.1; rw [sdV_len] at this; omega
  obtain ⟨W, hW⟩ : ∃ W, W = w.alloc (.map #[] 0) := ⟨_, rfl⟩
  have hb : Below w.heap.size w W := by rw [hW]; exact (Below.refl _ _).alloc (Nat.le_refl _) _
  have hs : StP W w.heap.size w.heap.size [] := by rw [hW]; exact ⟨MapAt.made w, Nat.le_refl _, fun k x h => by simp at h, fun j k x y h => by simp at h, fun j k x y h => by simp at h⟩
  have HR := Lib.hid hr
  have HB := Lib.hid hb
  have HS0 := Lib.hid hs
  have HW := Lib.hid hW
  have HL := Lib.hid hl
  have hmk : ∀ w1, (Instr.makeMap 47 none).run Try.prog w1 = .ok (.map (some w1.heap.size)) (w1.alloc (.map #[] 0)) := fun w1 => run_makeMap_plain w1 _
  clear hr hb hs hW hl
  go_enter Try.func9, Try.ntmps9
  go_upto_region 2 with fail
  rw [← HW.out]
  clear hmk
  go_wp2_with fail
  go_loopw [13] (fun v12 wx => Hid (∃ (k : Nat) (E : List En), v12 = .int .i64 k ∧ k ≤ n ∧ StP wx w.heap.size w.heap.size E ∧ InvS E L k ∧ Below w.heap.size w wx ∧ ∃ w7, w7 = wx)) (fun v12 _ => n - (intOf v12).toNat)
  case atStart => exact Lib.hid ⟨0, [], rfl, by omega, HS0.out, InvS.zero L, HB.out, _, rfl⟩
  case round =>
    obtain ⟨k, E, rfl, hk, hs, hi, hb, w7, hw7⟩ := hrel.out
    subst hw7
    clear hrel
    have hS := Lib.hid hs
    have HI := Lib.hid hi
    have HB7 := Lib.hid hb
    have hr7 := own_keep HR.out hb
    clear hs hi hb
    by_cases hlt : (k : Int) < n
    · obtain ⟨x, hx⟩ : ∃ x, L[k]? = some x := ⟨L[k]'(by have := HL.out; omega), List.getElem?_eq_getElem _⟩
      obtain ⟨u, rfl⟩ := own_some hr7 (by omega)
      have cc : ∀ j, j < 11 → w7.cell? ⟨u, k * 11 + j, none⟩ = (sd11 x)[j]? := fun j hj => (hr7.cellAt (k * 11 + j) (by omega)).trans (sdV_get L k x hx j hj)
      have q0 : w7.cell? ⟨u, k * 11, none⟩ = some (.int .i64 x.kd) := cc 0 (by omega)
      have q1 : w7.cell? ⟨u, k * 11 + 1, none⟩ = some (.string x.F) := cc 1 (by omega)
      have q2 : w7.cell? ⟨u, k * 11 + 2, none⟩ = some (.string x.E) := cc 2 (by omega)
      have q3 : w7.cell? ⟨u, k * 11 + 3, none⟩ = some (.string x.T) := cc 3 (by omega)
      have q4 : w7.cell? ⟨u, k * 11 + 4, none⟩ = some (.int .i64 x.nn) := cc 4 (by omega)
      have q5 : w7.cell? ⟨u, k * 11 + 5, none⟩ = some (.int .i64 x.st) := cc 5 (by omega)
      have q6 : w7.cell? ⟨u, k * 11 + 6, none⟩ = some (.int .i64 x.nu) := cc 6 (by omega)
      have q7 : w7.cell? ⟨u, k * 11 + 7, none⟩ = some (.int .i64 x.ep) := cc 7 (by omega)
      have q8 : w7.cell? ⟨u, k * 11 + 8, none⟩ = some (.slice x.A x.ni x.ci) := cc 8 (by omega)
      have q9 : w7.cell? ⟨u, k * 11 + 9, none⟩ = some (.int .i64 x.me) := cc 9 (by omega)
      have q10 : w7.cell? ⟨u, k * 11 + 10, none⟩ = some (.int .i64 x.at_) := cc 10 (by omega)
      have hk0 : (0 : Int) ≤ (k : Int) := by omega
      have HX := Lib.hid hx
      clear cc hr7 hx
      go_upto_region 5 with fail
      obtain ⟨w6, hw6⟩ : ∃ w6, w6 = w7.alloc (.cells #[.int .i64 x.kd, .string x.F, .string x.E, .string x.T, .int .i64 x.nn, .int .i64 x.st, .int .i64 x.nu, .int .i64 x.ep, .slice x.A x.ni x.ci, .int .i64 x.me, .int .i64 x.at_] 45) := ⟨_, rfl⟩
      obtain ⟨g6, hg6⟩ : ∃ g, g = w7.heap.size := ⟨_, rfl⟩
      rw [← hw6, ← hg6]
      have hbx : Blk w6 g6 45 #[.int .i64 x.kd, .string x.F, .string x.E, .string x.T, .int .i64 x.nn, .int .i64 x.st, .int .i64 x.nu, .int .i64 x.ep, .slice x.A x.ni x.ci, .int .i64 x.me, .int .i64 x.at_] := by rw [hw6, hg6]; exact Blk.new _ _ _
      have hb6 : Below w7.heap.size w7 w6 := by rw [hw6]; exact (Below.refl _ _).alloc (Nat.le_refl _) _
      have b0 := hbx.cell 0
      have b1 := hbx.cell 1
      have b2 := hbx.cell 2
      have b3 := hbx.cell 3
      have b4 := hbx.cell 4
      have b5 := hbx.cell 5
      have b6 := hbx.cell 6
      have b7 := hbx.cell 7
      have b8 := hbx.cell 8
      clear q0 q1 q2 q3 q4 q5 q6 q7 q8 q9 q10 hw6 hg6 hbx
      go_upto_region 6 with fail
      obtain ⟨w8, hw8⟩ : ∃ w8, w8 = w6.alloc (.cells #[.int .i64 x.kd, .string x.F, .string x.E, .string x.T, .int .i64 x.nn, .int .i64 x.st, .int .i64 x.nu, .int .i64 x.ep, .slice x.A x.ni x.ci] 40) := ⟨_, rfl⟩
      obtain ⟨g8, hg8⟩ : ∃ g, g = w6.heap.size := ⟨_, rfl⟩
      rw [← hw8, ← hg8]
      have hbm : Blk w8 g8 40 #[.int .i64 x.kd, .string x.F, .string x.E, .string x.T, .int .i64 x.nn, .int .i64 x.st, .int .i64 x.nu, .int .i64 x.ep, .slice x.A x.ni x.ci] := by rw [hw8, hg8]; exact Blk.new _ _ _
      have hb8 : Below w7.heap.size w7 w8 := by rw [hw8]; exact hb6.alloc (by have := hb6.size; omega) _
      have HB8 := Lib.hid (HB7.out.trans (hb8.mono HB7.out.size))
      have HS8 := Lib.hid (hS.out.below hb8)
      have m0 := hbm.cell 0
      have m1 := hbm.cell 1
      have m3 := hbm.cell 3
      have m6 := hbm.cell 6
      have hM8 := hbm
      clear b0 b1 b2 b3 b4 b5 b6 b7 b8 hw8 hg8 hbm hb6 hb8
      by_cases h1 : x.kd = 11
      · rw [h1] at m0
        rw [h1] at hM8
        go_upto_region 8 with fail
        obtain ⟨w9, hw9⟩ : ∃ w9, w9 = w8.alloc (.cells #[.string x.F, .string x.T] 30) := ⟨_, rfl⟩
        obtain ⟨gk, hgk⟩ : ∃ g, g = w8.heap.size := ⟨_, rfl⟩
        rw [← hw9, ← hgk]
        have hb9 : Below w8.heap.size w8 w9 := by rw [hw9]; exact (Below.refl _ _).alloc (Nat.le_refl _) _
        have HK9 : Blk w9 gk 30 #[.string x.F, .string x.T] := by rw [hw9, hgk]; exact Blk.new _ _ _
        have HK9d := HK9.below (Below.refl _ _).drew HK9.lt
        have HM9 := hM8.below hb9 hM8.lt
        have HM9d := HM9.below (Below.refl _ _).drew HM9.lt
        have HS9d := (HS8.out.below hb9).below (Below.refl _ _).drew
        have HB9 := Lib.hid ((HB8.out.trans (hb9.mono HB8.out.size)).drew)
        obtain ⟨v, sts, hlk, hrun, hput⟩ := HS9d.pick HI.out HX.out h1
        have hlen : sts.length ≤ 900 := by
          have h5 := run_len hrun
          have h6 := upd_len x.F x.T (L.take k)
          have h7 : (L.take k).length ≤ 400 := by rw [List.length_take]; omega
          simp only [List.length_nil] at h5
          omega
        have hvm : v.ownBlock ≠ some g8 := own_blk_any (hlk _ HS9d).2 HM9d (by decide)
        have hvk : v.ownBlock ≠ some gk := own_blk_any (hlk _ HS9d).2 HK9d (by decide)
        have hvge : ∀ q, v.ownBlock = some q → w.heap.size ≤ q := fun q hq => ((hlk _ HS9d).2.lt q hq).1
        have hF := Follow_any v w.heap.size sts 11 x.nn x.st x.nu x.ep x.F x.E x.T x.A x.ni x.ci w9.drew HB9.out.size (hlk _ HS9d).2 hlen
        have HRUN := Lib.hid hrun
        have HPUT := Lib.hid hput
        clear hw9 hgk hb9 HK9 HM9 hrun hput hlen m0 m1 m3 m6
        refine wp_region_noPanic ?_
        refine wp_region_heldL (S0 := fun wa => Blk wa g8 40 #[.int .i64 11, .string x.F, .string x.E, .string x.T, .int .i64 x.nn, .int .i64 x.st, .int .i64 x.nu, .int .i64 x.ep, .slice x.A x.ni x.ci] ∧ Blk wa gk 30 #[.string x.F, .string x.T]) (ws := [(4, fun wa => StP wa w.heap.size w.heap.size E)]) (by kernel_rfl) (fun hc0a => ?_)
        have hnosela := noSel_of (by kernel_rfl) hc0a
        refine wpAnyL_take (i := 0) (oi := ?oia1) (v := ?va1) ?hia1 hnosela (by kernel_rfl) (by kernel_rfl) hc0a (by kernel_rfl) (fun _ _ _ h => h) ?hya1 ⟨⟨HM9d, HK9d⟩, (fun p hp hl => by (rw [List.mem_singleton.1 hp] at hl ⊢; exact (HS9d)))⟩ (fun hda1 => ?resta1)
        case hia1 => (simp only [List.getElem?_toArray, List.getElem?_cons_zero]; try rfl)
        case hya1 => (refine Or.inl ⟨by rfl, ?_⟩; intro w hSw; go_simp; (try with_reducible rfl))
        try simp only [Act.put, List.setIfInBounds_toArray, List.set_cons_zero, List.set_cons_succ]
        refine wpAnyL_take (i := 1) (oi := ?oia2) (v := ?va2) ?hia2 hnosela (by kernel_rfl) (by kernel_rfl) hda1 (by kernel_rfl) (fun _ _ _ h => h) ?hya2 ⟨⟨HM9d, HK9d⟩, (fun p hp hl => by (rw [List.mem_singleton.1 hp] at hl ⊢; exact (HS9d)))⟩ (fun hda2 => ?resta2)
        case hia2 => (simp only [List.getElem?_toArray, List.getElem?_cons_succ, List.getElem?_cons_zero]; try rfl)
        case hya2 => (refine Or.inl ⟨by rfl, ?_⟩; intro w hSw; have q0 := hSw.1.2.cell 0; have q1 := hSw.1.2.cell 1; go_simp; (try with_reducible rfl))
        try simp only [Act.put, List.setIfInBounds_toArray, List.set_cons_zero, List.set_cons_succ]
        refine wpAnyL_take (i := 2) (oi := ?oia3) (v := ?va3) ?hia3 hnosela (by kernel_rfl) (by kernel_rfl) hda2 (by kernel_rfl) (fun _ _ _ h => h) ?hya3 ⟨⟨HM9d, HK9d⟩, (fun p hp hl => by (rw [List.mem_singleton.1 hp] at hl ⊢; exact (HS9d)))⟩ (fun hda3 => ?resta3)
        case hia3 => (simp only [List.getElem?_toArray, List.getElem?_cons_succ, List.getElem?_cons_zero]; try rfl)
        case hya3 => (refine Or.inl ⟨by rfl, ?_⟩; intro w hSw; have q0 := (hlk _ (hSw.2 _ (List.Mem.head _) (by kernel_rfl))).1; go_simp; (try with_reducible rfl))
        try simp only [Act.put, List.setIfInBounds_toArray, List.set_cons_zero, List.set_cons_succ]
        refine wpAnyL_take (i := 3) (oi := ?oia4) (v := ?va4) ?hia4 hnosela (by kernel_rfl) (by kernel_rfl) hda3 (by kernel_rfl) (fun _ _ _ h => h) ?hya4 ⟨⟨HM9d, HK9d⟩, (fun p hp hl => by (rw [List.mem_singleton.1 hp] at hl ⊢; exact (HS9d)))⟩ (fun hda4 => ?resta4)
        case hia4 => (simp only [List.getElem?_toArray, List.getElem?_cons_succ, List.getElem?_cons_zero]; try rfl)
        case hya4 => (refine Or.inl ⟨by rfl, ?_⟩; intro w hSw; have q0 := hSw.1.1.cell 0; have q1 := hSw.1.1.cell 1; have q2 := hSw.1.1.cell 2; have q3 := hSw.1.1.cell 3; have q4 := hSw.1.1.cell 4; have q5 := hSw.1.1.cell 5; have q6 := hSw.1.1.cell 6; have q7 := hSw.1.1.cell 7; have q8 := hSw.1.1.cell 8; go_simp; (try with_reducible rfl))
        try simp only [Act.put, List.setIfInBounds_toArray, List.set_cons_zero, List.set_cons_succ]
        refine wpAnyL_ready (rs := [4]) hda4 (by kernel_rfl) (by simp) ?_
        refine AllReadyL.cons (o := ?oia5) ?hia5 (fun K hK => ?sta5) AllReadyL.nil
        case hia5 => (simp only [List.getElem?_toArray, List.getElem?_cons_succ, List.getElem?_cons_zero]; try rfl)
        go_simp
        go_at_call 14
        refine hF.mono ?_
        rintro e w5 ⟨v5, rfl, ho5, hg5, hn5⟩
        try dsimp only
        have HM5 := blk_grown HM9d hg5 hvm
        have HK5 := blk_grown HK9d hg5 hvk
        refine hK.out _ _ ⟨⟨HM5, HK5⟩, (fun p hp hl => by (rw [List.mem_singleton.1 hp] at hl ⊢; (exfalso; revert hl; simp)))⟩ (fun hda5 => ?rsa5)
        clear hK K
        try simp only [Act.put, List.setIfInBounds_toArray, List.set_cons_zero, List.set_cons_succ]
        refine wpAnyL_take (i := 5) (oi := ?oia6) (v := ?va6) ?hia6 hnosela (by kernel_rfl) (by kernel_rfl) hda5 (by kernel_rfl) (fun _ _ _ h => h) ?hya6 ⟨⟨HM5, HK5⟩, (fun p hp hl => by (rw [List.mem_singleton.1 hp] at hl ⊢; (exfalso; revert hl; simp)))⟩ (fun hda6 => ?resta6)
        case hia6 => (simp only [List.getElem?_toArray, List.getElem?_cons_succ, List.getElem?_cons_zero]; try rfl)
        case hya6 => (refine Or.inl ⟨by rfl, ?_⟩; intro w hSw; go_simp; (try with_reducible rfl))
        try simp only [Act.put, List.setIfInBounds_toArray, List.set_cons_zero, List.set_cons_succ]
        refine wpAnyL_take (i := 6) (oi := ?oia7) (v := ?va7) ?hia7 hnosela (by kernel_rfl) (by kernel_rfl) hda6 (by kernel_rfl) (fun _ _ _ h => h) ?hya7 ⟨⟨HM5, HK5⟩, (fun p hp hl => by (rw [List.mem_singleton.1 hp] at hl ⊢; (exfalso; revert hl; simp)))⟩ (fun hda7 => ?resta7)
        case hia7 => (simp only [List.getElem?_toArray, List.getElem?_cons_succ, List.getElem?_cons_zero]; try rfl)
        case hya7 => (refine Or.inl ⟨by rfl, ?_⟩; intro w hSw; go_simp; (try with_reducible rfl))
        try simp only [Act.put, List.setIfInBounds_toArray, List.set_cons_zero, List.set_cons_succ]
        refine wpAnyL_take (i := 7) (oi := ?oia8) (v := ?va8) ?hia8 hnosela (by kernel_rfl) (by kernel_rfl) hda7 (by kernel_rfl) (fun _ _ _ h => h) ?hya8 ⟨⟨HM5, HK5⟩, (fun p hp hl => by (rw [List.mem_singleton.1 hp] at hl ⊢; (exfalso; revert hl; simp)))⟩ (fun hda8 => ?resta8)
        case hia8 => (simp only [List.getElem?_toArray, List.getElem?_cons_succ, List.getElem?_cons_zero]; try rfl)
        case hya8 => (refine Or.inl ⟨by rfl, ?_⟩; intro w hSw; go_simp; (try with_reducible rfl))
        try simp only [Act.put, List.setIfInBounds_toArray, List.set_cons_zero, List.set_cons_succ]
        refine wpAnyL_take (i := 8) (oi := ?oia9) (v := ?va9) ?hia9 hnosela (by kernel_rfl) (by kernel_rfl) hda8 (by kernel_rfl) (fun _ _ _ h => h) ?hya9 ⟨⟨HM5, HK5⟩, (fun p hp hl => by (rw [List.mem_singleton.1 hp] at hl ⊢; (exfalso; revert hl; simp)))⟩ (fun hda9 => ?resta9)
        case hia9 => (simp only [List.getElem?_toArray, List.getElem?_cons_succ, List.getElem?_cons_zero]; try rfl)
        case hya9 => (refine Or.inl ⟨by rfl, ?_⟩; intro w hSw; go_simp; (try with_reducible rfl))
        try simp only [Act.put, List.setIfInBounds_toArray, List.set_cons_zero, List.set_cons_succ]
        refine wpAnyL_take (i := 9) (oi := ?oia10) (v := ?va10) ?hia10 hnosela (by kernel_rfl) (by kernel_rfl) hda9 (by kernel_rfl) (fun _ _ _ h => h) ?hya10 ⟨⟨HM5, HK5⟩, (fun p hp hl => by (rw [List.mem_singleton.1 hp] at hl ⊢; (exfalso; revert hl; simp)))⟩ (fun hda10 => ?resta10)
        case hia10 => (simp only [List.getElem?_toArray, List.getElem?_cons_succ, List.getElem?_cons_zero]; try rfl)
        case hya10 => (refine Or.inl ⟨by rfl, ?_⟩; intro w hSw; go_simp; (try with_reducible rfl))
        try simp only [Act.put, List.setIfInBounds_toArray, List.set_cons_zero, List.set_cons_succ]
        refine wpAnyL_done (by kernel_rfl) ?_ _
        refine NoPanic.normal ?_
        rename_i hdx
        clear hF hlk
        cases hf : follow sts (x.nu, x.st) with
        | none =>
          have HF := Lib.hid hf
          clear hf
          simp only [Option.isSome_none]
          go_wp2_with fail
          go_ret
          exact ⟨by rw [InvS.fail HX.out h1 HRUN.out HF.out]; rfl, HB9.out.grown hg5 HB9.out.size hvge⟩
        | some s2 =>
          obtain ⟨w2, E2, hu, hs2, hi2, hb2⟩ := HPUT.out w9.drew w5 v5 s2 HS9d HB9.out.size hg5 (ho5 s2 hf) hn5 hf
          simp only [Option.isSome_some]
          have kk0 := HK5.cell 0
          have kk1 := HK5.cell 1
          have HS2 := Lib.hid hs2
          have HI2 := Lib.hid hi2
          have HB2 := Lib.hid (hb2 w rfl HB9.out)
          clear hs2 hi2 hb2 hf ho5 hg5 hn5
          go_wp2_with fail
          refine ⟨?_, by simp [intOf]; omega⟩
          exact Lib.hid ⟨k + 1, E2, by simp, by omega, HS2.out, HI2.out, HB2.out, _, rfl⟩
      · have h1b : (x.kd == 11) = false := by simpa using h1
        go_wp2_with fail
        refine ⟨?_, by simp [intOf]; omega⟩
        exact Lib.hid ⟨k + 1, E, by simp, by omega, HS8.out, HI.out.skip HX.out h1, HB8.out, _, rfl⟩
    · go_wp2_with fail
      go_ret
      have e : k = L.length := by have := HL.out; omega
      have hi := HI.out
      rw [e] at hi
      exact ⟨by rw [hi.ends]; rfl, HB7.out⟩
end Go.Proofs.Yticmldkgkfcoeaa.Wa
