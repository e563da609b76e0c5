/- The walk of RunPlays: the Go text returns true, and writes nothing that was there. -/
import Derived.Test.YtlldpgjifdfogaaRunC
import Derived.Test.YtlldpgjifdfogaaActs
namespace Go.Proofs.Ytlldpgjifdfogaa.runPlays
open Go.ChangeShapes Go.WideShapes Go.ChangeAt Go.RowKit
set_option linter.unusedVariables false
set_option maxRecDepth 100000
/-- The two runs, as they stand in memory. -/
def Two (f e : ByteArray) (n : Int) (g : Nat) (w : World) (s : RS) (x : XS) : Prop := RunRel s x ∧ Blk w g 133 #[.string f, .string e, .int .i64 n, .int .i64 s.1, .bool s.2.1, .int .i64 s.2.2] ∧ Blk w (g + 1) 63 #[.string f, .string e, .int .i64 n, .int .i64 x.1, .int .i64 x.2]
theorem bel_two {B : Nat} {w wr w3 w4 : World} {o : Obj} (hb : Below B w wr) (hs : B + 2 ≤ wr.heap.size) (h3 : (wr.alloc o).grownBy w3 (some B)) (h4 : w3.grownBy w4 (some (B + 1))) (kd : Nat) : Below B w (w4.drewN kd) ∧ B + 2 ≤ (w4.drewN kd).heap.size := by
  have e1 : (wr.alloc o).heap.size = wr.heap.size + 1 := by simp
  have h1 := (hb.alloc (by omega) o).grown h3 (by omega) (fun k hk => by injection hk with hk; omega)
  have s3 := h3.size
  have h2 := h1.grown h4 (by omega) (fun k hk => by injection hk with hk; omega)
  have s4 := h4.size
  exact ⟨below_drewN h2 kd, by show _ ≤ w4.heap.size; omega⟩
theorem bel_clone {B C : Nat} {w wr w3 w3b w4 : World} {o : Obj} (hb : Below B w wr) (hs : B + 2 ≤ wr.heap.size) (h3 : Below (wr.heap.size + 1) (wr.alloc o) w3) (hg3 : w3.grownBy w3b (some C)) (hg4 : w3b.grownBy w4 (some C)) (kd : Nat) (hC : B ≤ C) : Below B w (w4.drewN kd) ∧ B + 2 ≤ (w4.drewN kd).heap.size := by
  have e1 : (wr.alloc o).heap.size = wr.heap.size + 1 := by simp
  have h1 := (hb.alloc (by omega) o).trans (h3.mono (by omega))
  have s3 := h3.size
  have h2 := h1.grown hg3 (by omega) (fun k hk => by injection hk with hk; omega)
  have s4 := hg3.size
  have h4 := h2.grown hg4 (by omega) (fun k hk => by injection hk with hk; omega)
  have s5 := hg4.size
  exact ⟨below_drewN h4 kd, by show _ ≤ w4.heap.size; omega⟩
theorem wakes_ok (w : World) : Calls Try.prog 47 #[] w fun e w' => e = .returned (.bool true) ∧ Below w.heap.size w w' := by
  go_enter Try.func47, Try.ntmps47
  go_wp2
  repeat ((first | go_end0 | go_ret3 | go_quiet (fail)); go_wp2)
  go_ret
  exact ⟨rfl, by repeat (first | exact Below.refl _ _ | refine Below.drew ?_ | refine below_drewN ?_ _ | refine Below.alloc ?_ (by first | exact Nat.le_refl _ | (simp; done) | (simp; omega)) _ | refine Below.setCell ?_ (by first | exact Nat.le_refl _ | (simp; done) | (simp; omega)) _)⟩
set_option maxHeartbeats 40000000 in
theorem walk (a0 : ByteArray) (a1 : ByteArray) (a2 : Int) (v3 : Value) (w : World) (b0 : a0.size ≤ maxLen) (b1 : a1.size ≤ maxLen) (b2 : -9223372036854775808 ≤ a2 ∧ a2 ≤ 9223372036854775807) (b3 : ActsArg 4 w v3) :
    Calls Try.prog 6 #[.string a0, .string a1, .int .i64 a2, v3] w fun e w' => e = .returned (.bool true) ∧ Below w.heap.size w w' := by
  obtain ⟨A, nn, cc, rfl, hnc, hcm, hA⟩ := acts_u b3
  clear b3
  have HA := Lib.hid hA
  clear hA
  go_enter Try.func6, Try.ntmps6
  go_wp2_with (first | (go_at_call 32; refine (new_ok _ _ _ _).mono ?_; rintro e w1 ⟨rfl, hR, hb1, hs1⟩) | (go_at_call 33; refine (xnew_ok _ _ _ _).mono ?_; rintro e w2 ⟨rfl, hX, hb2, hs2⟩))
  rw [hs1] at hX hb2 hs2
  have hR2 := hR.below hb2 (by omega)
  have HI : Hid (∃ (s : RS) (x : XS), Two a0 a1 a2 w.heap.size w2 s x ∧ Below w.heap.size w w2) :=
    Lib.hid ⟨(0, false, 0), (0, -1), ⟨⟨rfl, .inl ⟨.inl rfl, rfl⟩⟩, hR2, hX⟩, hb1.trans (hb2.mono (by omega))⟩
  have hsz : Hid (w.heap.size + 2 ≤ w2.heap.size) := Lib.hid (by omega)
  clear hR hX hb1 hb2 hR2 hs1 hs2
  go_loopw [11] (fun v wr => Hid (∃ (k : Nat) (s : RS) (x : XS), v = .int .i64 k ∧ k ≤ 24 ∧ Two a0 a1 a2 w.heap.size wr s x ∧ Below w.heap.size w wr ∧ w.heap.size + 2 ≤ wr.heap.size)) (fun v _ => match v with | .int _ z => (24 - z).toNat | _ => 0)
  case atStart =>
    obtain ⟨s, x, h1, h2⟩ := HI.out
    exact Lib.hid ⟨0, s, x, rfl, by omega, h1, h2, hsz.out⟩
  case round =>
    obtain ⟨k, ⟨ph, ti, du⟩, ⟨xp, xd⟩, rfl, hk, ⟨hrl, hR, hX⟩, hbel, hsz2⟩ := hrel.out
    clear hrel HI hsz
    have HRel := Lib.hid hrl
    have HR := Lib.hid hR
    have HX := Lib.hid hX
    have HB := Lib.hid hbel
    have HS := Lib.hid hsz2
    clear hrl hR hX hbel hsz2
    by_cases h1 : (k : Int) < nn
    · by_cases h2 : (k : Int) < 24
      · obtain ⟨b, off, xs, rfl, hblt, hxb, hcell⟩ := HA.out k (by omega)
        have hc := hcell _ wr HB.out (Nat.le_refl _)
        have c0 : wr.cell? ⟨b, off + k * 4, none⟩ = some (.int .i64 (xs 0)) := hc 0 (by omega)
        have c1 : wr.cell? ⟨b, off + k * 4 + 1, none⟩ = some (.int .i64 (xs 1)) := hc 1 (by omega)
        have c2 : wr.cell? ⟨b, off + k * 4 + 2, none⟩ = some (.int .i64 (xs 2)) := hc 2 (by omega)
        have c3 : wr.cell? ⟨b, off + k * 4 + 3, none⟩ = some (.int .i64 (xs 3)) := hc 3 (by omega)
        have x0 := hxb 0 (by omega)
        have x1 := hxb 1 (by omega)
        have x2 := hxb 2 (by omega)
        have x3 := hxb 3 (by omega)
        clear hc hcell hxb
        generalize xs 0 = q0 at *
        generalize xs 1 = q1 at *
        generalize xs 2 = q2 at *
        generalize xs 3 = q3 at *
        have hq : 0 ≤ q0 % 9 ∧ q0 % 9 < 9 := ⟨Int.emod_nonneg _ (by omega), Int.emod_lt_of_pos _ (by omega)⟩
        obtain hq | hq | hq | hq | hq : (q0 % 9 = 0 ∨ q0 % 9 = 1) ∨ (q0 % 9 = 2 ∨ q0 % 9 = 3 ∨ q0 % 9 = 4) ∨ (q0 % 9 = 5 ∨ q0 % 9 = 6) ∨ q0 % 9 = 7 ∨ q0 % 9 = 8 := by omega
        · rcases hq with hq | hq
          all_goals
            have HQ := Lib.hid hq
            clear hq
            go_wp2_with (first | (go_at_call 16; refine (Within_any _ _ _ (by omega) (by omega) (by omega) (by omega)).mono ?_; rintro e w' ⟨rfl, rfl⟩; try rw [HQ.out]) | (go_at_call 34; refine (begin_ok _ _ _ _ _ _ _ _ _ _ (HR.out.alloc _) _ rfl).mono ?_; rintro e w3 ⟨rfl, hR3, hg3⟩; have hX3 := (HX.out.alloc (.cells #[.int .i64 q0, .int .i64 q1, .int .i64 q2, .int .i64 q3] 56)).grown hg3 (by simp); have hA3 := (Blk.new wr 56 #[.int .i64 q0, .int .i64 q1, .int .i64 q2, .int .i64 q3]).grown hg3 (by simp; have := HS.out; omega)) | (go_at_call 35; refine (xbegin_ok _ _ _ _ _ _ _ _ _ hX3 _ rfl).mono ?_; rintro e w4 ⟨rfl, hX4, hg4⟩; have hR4 := hR3.grown hg4 (by simp); have hA4 := hA3.grown hg4 (by simp; have := HS.out; omega)) | (go_at_call 43; refine (who_ok _ _ _ _ _ _ _ _ hR4).mono ?_; rintro e w5 ⟨rfl, kd, rfl⟩))
            have hrel3 := rel_begin HRel.out (q1 % 6) (q2 % 20)
            generalize beginR (q1 % 6) (q2 % 20) (ph, ti, du) = r at *
            generalize beginX (q1 % 6) (q2 % 20) (xp, xd) = rx at *
            obtain ⟨er, p1, t1, d1⟩ := r
            obtain ⟨ex, p2, d2⟩ := rx
            obtain ⟨he, hr3⟩ := hrel3
            simp only at he
            subst he
            have hp : p1 = p2 := hr3.1
            subst hp
            have hxl : ∀ wz, Blk wz (w.heap.size + 1) 63 #[.string a0, .string a1, .int .i64 a2, .int .i64 p1, .int .i64 d2] → Calls Try.prog 46 #[.pointer (some ⟨w.heap.size + 1, 0, none⟩), .int .i64 (q3 % 24)] wz fun e w' => e = .returned (.bool (lateR (q3 % 24) (p1, t1, d1))) ∧ wz = w' := fun wz hz => by
              have := xlate_ok _ _ _ _ _ _ (q3 % 24) wz hz
              rwa [rel_late hr3] at this
            have hll : ∀ wz, Blk wz w.heap.size 133 #[.string a0, .string a1, .int .i64 a2, .int .i64 p1, .bool t1, .int .i64 d1] → Calls Try.prog 45 #[.pointer (some ⟨w.heap.size, 0, none⟩), .int .i64 (q3 % 24)] wz fun e w' => e = .returned (.bool (lateR (q3 % 24) (p1, t1, d1))) ∧ wz = w' := fun wz hz => late_ok _ _ _ _ _ _ _ (q3 % 24) wz hz
            have hR5 := hR4.drewN kd
            have hX5 := hX4.drewN kd
            have hA5 := hA4.drewN kd
            have hbel5 : Hid (Below w.heap.size w (w4.drewN kd) ∧ w.heap.size + 2 ≤ (w4.drewN kd).heap.size) := Lib.hid (bel_two HB.out HS.out hg3 hg4 kd)
            clear hR4 hX4 hA4 hR3 hX3 hA3
            generalize w4.drewN kd = wd at *
            have k3 : wd.cell? ⟨w.heap.size + 1, 3, none⟩ = some (.int .i64 p1) := hX5.cell 3
            have k4 : wd.cell? ⟨wr.heap.size, 3, none⟩ = some (.int .i64 q3) := hA5.cell 3
            generalize lateR (q3 % 24) (p1, t1, d1) = lt at *
            go_quiet (first | (go_at_call 44; exact (phase_ok _ _ _ _ _ _ _ _ (hR5.drewN _)).mono fun e w' h => ⟨h.1, _, h.2.symm⟩) | (go_at_call 16; exact (Within_any _ _ _ (by omega) (by omega) (by omega) (by omega)).mono fun e w' h => ⟨h.1, _, h.2.symm⟩) | (go_at_call 45; exact (hll _ (hR5.drewN _)).mono fun e w' h => ⟨h.1, _, h.2.symm⟩) | (go_at_call 46; exact (hxl _ (hX5.drewN _)).mono fun e w' h => ⟨h.1, _, h.2.symm⟩))
            go_wp2
            go_roundw
            case rel =>
              exact Lib.hid ⟨k + 1, (p1, t1, d1), (p1, d2), by simp, by omega, ⟨hr3, hR5.drewN _, hX5.drewN _⟩, below_drewN hbel5.out.1 _, hbel5.out.2⟩
            case measure => simp; omega
        · rcases hq with hq | hq | hq
          all_goals
            have HQ := Lib.hid hq
            clear hq
            go_wp2_with (first | (go_at_call 16; refine (Within_any _ _ _ (by omega) (by omega) (by omega) (by omega)).mono ?_; rintro e w' ⟨rfl, rfl⟩; try rw [HQ.out]) | (go_at_call 36; refine (hello_ok _ _ _ _ _ _ _ _ (HR.out.alloc _) _ rfl).mono ?_; rintro e w3 ⟨rfl, hR3, hg3⟩; have hX3 := (HX.out.alloc (.cells #[.int .i64 q0, .int .i64 q1, .int .i64 q2, .int .i64 q3] 56)).grown hg3 (by simp); have hA3 := (Blk.new wr 56 #[.int .i64 q0, .int .i64 q1, .int .i64 q2, .int .i64 q3]).grown hg3 (by simp; have := HS.out; omega)) | (go_at_call 37; refine (xhello_ok _ _ _ _ _ _ _ hX3 _ rfl).mono ?_; rintro e w4 ⟨rfl, hX4, hg4⟩; have hR4 := hR3.grown hg4 (by simp); have hA4 := hA3.grown hg4 (by simp; have := HS.out; omega)) | (go_at_call 43; refine (who_ok _ _ _ _ _ _ _ _ hR4).mono ?_; rintro e w5 ⟨rfl, kd, rfl⟩))
            have hrel3 := rel_hello HRel.out
            generalize helloR (ph, ti, du) = r at *
            generalize helloX (xp, xd) = rx at *
            obtain ⟨er, p1, t1, d1⟩ := r
            obtain ⟨ex, p2, d2⟩ := rx
            obtain ⟨he, hr3⟩ := hrel3
            simp only at he
            subst he
            have hp : p1 = p2 := hr3.1
            subst hp
            have hxl : ∀ wz, Blk wz (w.heap.size + 1) 63 #[.string a0, .string a1, .int .i64 a2, .int .i64 p1, .int .i64 d2] → Calls Try.prog 46 #[.pointer (some ⟨w.heap.size + 1, 0, none⟩), .int .i64 (q3 % 24)] wz fun e w' => e = .returned (.bool (lateR (q3 % 24) (p1, t1, d1))) ∧ wz = w' := fun wz hz => by
              have := xlate_ok _ _ _ _ _ _ (q3 % 24) wz hz
              rwa [rel_late hr3] at this
            have hll : ∀ wz, Blk wz w.heap.size 133 #[.string a0, .string a1, .int .i64 a2, .int .i64 p1, .bool t1, .int .i64 d1] → Calls Try.prog 45 #[.pointer (some ⟨w.heap.size, 0, none⟩), .int .i64 (q3 % 24)] wz fun e w' => e = .returned (.bool (lateR (q3 % 24) (p1, t1, d1))) ∧ wz = w' := fun wz hz => late_ok _ _ _ _ _ _ _ (q3 % 24) wz hz
            have hR5 := hR4.drewN kd
            have hX5 := hX4.drewN kd
            have hA5 := hA4.drewN kd
            have hbel5 : Hid (Below w.heap.size w (w4.drewN kd) ∧ w.heap.size + 2 ≤ (w4.drewN kd).heap.size) := Lib.hid (bel_two HB.out HS.out hg3 hg4 kd)
            clear hR4 hX4 hA4 hR3 hX3 hA3
            generalize w4.drewN kd = wd at *
            have k3 : wd.cell? ⟨w.heap.size + 1, 3, none⟩ = some (.int .i64 p1) := hX5.cell 3
            have k4 : wd.cell? ⟨wr.heap.size, 3, none⟩ = some (.int .i64 q3) := hA5.cell 3
            generalize lateR (q3 % 24) (p1, t1, d1) = lt at *
            go_quiet (first | (go_at_call 44; exact (phase_ok _ _ _ _ _ _ _ _ (hR5.drewN _)).mono fun e w' h => ⟨h.1, _, h.2.symm⟩) | (go_at_call 16; exact (Within_any _ _ _ (by omega) (by omega) (by omega) (by omega)).mono fun e w' h => ⟨h.1, _, h.2.symm⟩) | (go_at_call 45; exact (hll _ (hR5.drewN _)).mono fun e w' h => ⟨h.1, _, h.2.symm⟩) | (go_at_call 46; exact (hxl _ (hX5.drewN _)).mono fun e w' h => ⟨h.1, _, h.2.symm⟩))
            go_wp2
            go_roundw
            case rel =>
              exact Lib.hid ⟨k + 1, (p1, t1, d1), (p1, d2), by simp, by omega, ⟨hr3, hR5.drewN _, hX5.drewN _⟩, below_drewN hbel5.out.1 _, hbel5.out.2⟩
            case measure => simp; omega
        · rcases hq with hq | hq
          all_goals
            have HQ := Lib.hid hq
            clear hq
            go_wp2_with (first | (go_at_call 16; refine (Within_any _ _ _ (by omega) (by omega) (by omega) (by omega)).mono ?_; rintro e w' ⟨rfl, rfl⟩; try rw [HQ.out]) | (go_at_call 38; refine (stop_ok _ _ _ _ _ _ _ _ _ (HR.out.alloc _) _ rfl).mono ?_; rintro e w3 ⟨rfl, hR3, hg3⟩; have hX3 := (HX.out.alloc (.cells #[.int .i64 q0, .int .i64 q1, .int .i64 q2, .int .i64 q3] 56)).grown hg3 (by simp); have hA3 := (Blk.new wr 56 #[.int .i64 q0, .int .i64 q1, .int .i64 q2, .int .i64 q3]).grown hg3 (by simp; have := HS.out; omega)) | (go_at_call 39; refine (xstop_ok _ _ _ _ _ _ _ _ hX3 _ rfl).mono ?_; rintro e w4 ⟨rfl, hX4, hg4⟩; have hR4 := hR3.grown hg4 (by simp); have hA4 := hA3.grown hg4 (by simp; have := HS.out; omega)) | (go_at_call 43; refine (who_ok _ _ _ _ _ _ _ _ hR4).mono ?_; rintro e w5 ⟨rfl, kd, rfl⟩))
            have hrel3 := rel_stop HRel.out (q2 % 20)
            generalize stopR (q2 % 20) (ph, ti, du) = r at *
            generalize stopX (q2 % 20) (xp, xd) = rx at *
            obtain ⟨er, p1, t1, d1⟩ := r
            obtain ⟨ex, p2, d2⟩ := rx
            obtain ⟨he, hr3⟩ := hrel3
            simp only at he
            subst he
            have hp : p1 = p2 := hr3.1
            subst hp
            have hxl : ∀ wz, Blk wz (w.heap.size + 1) 63 #[.string a0, .string a1, .int .i64 a2, .int .i64 p1, .int .i64 d2] → Calls Try.prog 46 #[.pointer (some ⟨w.heap.size + 1, 0, none⟩), .int .i64 (q3 % 24)] wz fun e w' => e = .returned (.bool (lateR (q3 % 24) (p1, t1, d1))) ∧ wz = w' := fun wz hz => by
              have := xlate_ok _ _ _ _ _ _ (q3 % 24) wz hz
              rwa [rel_late hr3] at this
            have hll : ∀ wz, Blk wz w.heap.size 133 #[.string a0, .string a1, .int .i64 a2, .int .i64 p1, .bool t1, .int .i64 d1] → Calls Try.prog 45 #[.pointer (some ⟨w.heap.size, 0, none⟩), .int .i64 (q3 % 24)] wz fun e w' => e = .returned (.bool (lateR (q3 % 24) (p1, t1, d1))) ∧ wz = w' := fun wz hz => late_ok _ _ _ _ _ _ _ (q3 % 24) wz hz
            have hR5 := hR4.drewN kd
            have hX5 := hX4.drewN kd
            have hA5 := hA4.drewN kd
            have hbel5 : Hid (Below w.heap.size w (w4.drewN kd) ∧ w.heap.size + 2 ≤ (w4.drewN kd).heap.size) := Lib.hid (bel_two HB.out HS.out hg3 hg4 kd)
            clear hR4 hX4 hA4 hR3 hX3 hA3
            generalize w4.drewN kd = wd at *
            have k3 : wd.cell? ⟨w.heap.size + 1, 3, none⟩ = some (.int .i64 p1) := hX5.cell 3
            have k4 : wd.cell? ⟨wr.heap.size, 3, none⟩ = some (.int .i64 q3) := hA5.cell 3
            generalize lateR (q3 % 24) (p1, t1, d1) = lt at *
            go_quiet (first | (go_at_call 44; exact (phase_ok _ _ _ _ _ _ _ _ (hR5.drewN _)).mono fun e w' h => ⟨h.1, _, h.2.symm⟩) | (go_at_call 16; exact (Within_any _ _ _ (by omega) (by omega) (by omega) (by omega)).mono fun e w' h => ⟨h.1, _, h.2.symm⟩) | (go_at_call 45; exact (hll _ (hR5.drewN _)).mono fun e w' h => ⟨h.1, _, h.2.symm⟩) | (go_at_call 46; exact (hxl _ (hX5.drewN _)).mono fun e w' h => ⟨h.1, _, h.2.symm⟩))
            go_wp2
            go_roundw
            case rel =>
              exact Lib.hid ⟨k + 1, (p1, t1, d1), (p1, d2), by simp, by omega, ⟨hr3, hR5.drewN _, hX5.drewN _⟩, below_drewN hbel5.out.1 _, hbel5.out.2⟩
            case measure => simp; omega
        · have HQ := Lib.hid hq
          clear hq
          by_cases hrem : q1.tmod 3 = 0
          · skip
            go_wp2_with (first | (go_at_call 16; refine (Within_any _ _ _ (by omega) (by omega) (by omega) (by omega)).mono ?_; rintro e w' ⟨rfl, rfl⟩; try rw [HQ.out]) | (go_at_call 40; refine (end_ok _ _ _ _ _ _ _ _ (HR.out.alloc _) _ rfl).mono ?_; rintro e w3 ⟨rfl, hR3, hg3⟩; have hX3 := (HX.out.alloc (.cells #[.int .i64 q0, .int .i64 q1, .int .i64 q2, .int .i64 q3] 56)).grown hg3 (by simp); have hA3 := (Blk.new wr 56 #[.int .i64 q0, .int .i64 q1, .int .i64 q2, .int .i64 q3]).grown hg3 (by simp; have := HS.out; omega)) | (go_at_call 41; refine (xend_ok _ _ _ _ _ _ _ hX3 _ rfl).mono ?_; rintro e w4 ⟨rfl, hX4, hg4⟩; have hR4 := hR3.grown hg4 (by simp); have hA4 := hA3.grown hg4 (by simp; have := HS.out; omega)) | (go_at_call 43; refine (who_ok _ _ _ _ _ _ _ _ hR4).mono ?_; rintro e w5 ⟨rfl, kd, rfl⟩))
            have hrel3 := rel_end HRel.out
            generalize endR (ph, ti, du) = r at *
            generalize endX (xp, xd) = rx at *
            obtain ⟨er, p1, t1, d1⟩ := r
            obtain ⟨ex, p2, d2⟩ := rx
            obtain ⟨he, hr3⟩ := hrel3
            simp only at he
            subst he
            have hp : p1 = p2 := hr3.1
            subst hp
            have hxl : ∀ wz, Blk wz (w.heap.size + 1) 63 #[.string a0, .string a1, .int .i64 a2, .int .i64 p1, .int .i64 d2] → Calls Try.prog 46 #[.pointer (some ⟨w.heap.size + 1, 0, none⟩), .int .i64 (q3 % 24)] wz fun e w' => e = .returned (.bool (lateR (q3 % 24) (p1, t1, d1))) ∧ wz = w' := fun wz hz => by
              have := xlate_ok _ _ _ _ _ _ (q3 % 24) wz hz
              rwa [rel_late hr3] at this
            have hll : ∀ wz, Blk wz w.heap.size 133 #[.string a0, .string a1, .int .i64 a2, .int .i64 p1, .bool t1, .int .i64 d1] → Calls Try.prog 45 #[.pointer (some ⟨w.heap.size, 0, none⟩), .int .i64 (q3 % 24)] wz fun e w' => e = .returned (.bool (lateR (q3 % 24) (p1, t1, d1))) ∧ wz = w' := fun wz hz => late_ok _ _ _ _ _ _ _ (q3 % 24) wz hz
            have hR5 := hR4.drewN kd
            have hX5 := hX4.drewN kd
            have hA5 := hA4.drewN kd
            have hbel5 : Hid (Below w.heap.size w (w4.drewN kd) ∧ w.heap.size + 2 ≤ (w4.drewN kd).heap.size) := Lib.hid (bel_two HB.out HS.out hg3 hg4 kd)
            clear hR4 hX4 hA4 hR3 hX3 hA3
            generalize w4.drewN kd = wd at *
            have k3 : wd.cell? ⟨w.heap.size + 1, 3, none⟩ = some (.int .i64 p1) := hX5.cell 3
            have k4 : wd.cell? ⟨wr.heap.size, 3, none⟩ = some (.int .i64 q3) := hA5.cell 3
            generalize lateR (q3 % 24) (p1, t1, d1) = lt at *
            go_quiet (first | (go_at_call 44; exact (phase_ok _ _ _ _ _ _ _ _ (hR5.drewN _)).mono fun e w' h => ⟨h.1, _, h.2.symm⟩) | (go_at_call 16; exact (Within_any _ _ _ (by omega) (by omega) (by omega) (by omega)).mono fun e w' h => ⟨h.1, _, h.2.symm⟩) | (go_at_call 45; exact (hll _ (hR5.drewN _)).mono fun e w' h => ⟨h.1, _, h.2.symm⟩) | (go_at_call 46; exact (hxl _ (hX5.drewN _)).mono fun e w' h => ⟨h.1, _, h.2.symm⟩))
            go_wp2
            go_roundw
            case rel =>
              exact Lib.hid ⟨k + 1, (p1, t1, d1), (p1, d2), by simp, by omega, ⟨hr3, hR5.drewN _, hX5.drewN _⟩, below_drewN hbel5.out.1 _, hbel5.out.2⟩
            case measure => simp; omega
          · go_wp2_with (first | (go_at_call 16; refine (Within_any _ _ _ (by omega) (by omega) (by omega) (by omega)).mono ?_; rintro e w' ⟨rfl, rfl⟩; try rw [HQ.out]))
            go_roundw
            case rel =>
              exact Lib.hid ⟨k + 1, (ph, ti, du), (xp, xd), by simp, by omega, ⟨HRel.out, HR.out.alloc _, HX.out.alloc _⟩, HB.out.alloc (by have := HS.out; omega) _, by have := HS.out; simp; omega⟩
            case measure => simp; omega
        · have HQ := Lib.hid hq
          clear hq
          go_wp2_with (first | (go_at_call 16; refine (Within_any _ _ _ (by omega) (by omega) (by omega) (by omega)).mono ?_; rintro e w' ⟨rfl, rfl⟩; try rw [HQ.out]))
          go_at_call 42
          refine (clone_ok _ _ _ _ _ _ _ _ (HR.out.alloc (.cells #[.int .i64 q0, .int .i64 q1, .int .i64 q2, .int .i64 q3] 56))).mono ?_
          rintro e w3 ⟨rfl, hC3, hb3⟩
          have hsz3 : (wr.alloc (.cells #[.int .i64 q0, .int .i64 q1, .int .i64 q2, .int .i64 q3] 56)).heap.size = wr.heap.size + 1 := by simp
          rw [hsz3] at hC3 hb3
          have hR3 := (HR.out.alloc (.cells #[.int .i64 q0, .int .i64 q1, .int .i64 q2, .int .i64 q3] 56)).below hb3 (by have := HS.out; omega)
          have hX3 := (HX.out.alloc (.cells #[.int .i64 q0, .int .i64 q1, .int .i64 q2, .int .i64 q3] 56)).below hb3 (by have := HS.out; omega)
          have hA3 := (Blk.new wr 56 #[.int .i64 q0, .int .i64 q1, .int .i64 q2, .int .i64 q3]).below hb3 (by simp)
          go_wp2_with fail
          go_at_call 36
          refine (hello_ok _ _ _ _ _ _ _ _ hC3 _ rfl).mono ?_
          rintro e w3b ⟨rfl, hC4, hg3⟩
          have hR3b := hR3.grown hg3 (by intro h; injection h with h; have := HS.out; omega)
          have hX3b := hX3.grown hg3 (by intro h; injection h with h; have := HS.out; omega)
          have hA3b := hA3.grown hg3 (by simp)
          go_wp2_with fail
          go_at_call 40
          refine (end_ok _ _ _ _ _ _ _ _ hC4 _ rfl).mono ?_
          rintro e w4 ⟨rfl, hC5, hg4⟩
          have hR4 := hR3b.grown hg4 (by intro h; injection h with h; have := HS.out; omega)
          have hX4 := hX3b.grown hg4 (by intro h; injection h with h; have := HS.out; omega)
          have hA4 := hA3b.grown hg4 (by simp)
          go_wp2_with (first | (go_at_call 43; refine (who_ok _ _ _ _ _ _ _ _ hR4).mono ?_; rintro e w5 ⟨rfl, kd, rfl⟩))
          have hr3 := HRel.out
          have hp : ph = xp := hr3.1
          subst hp
          obtain ⟨p1, hp1⟩ : ∃ p1, ph = p1 := ⟨_, rfl⟩
          obtain ⟨t1, ht1⟩ : ∃ t1, ti = t1 := ⟨_, rfl⟩
          obtain ⟨d1, hd1⟩ : ∃ d1, du = d1 := ⟨_, rfl⟩
          obtain ⟨d2, hd2⟩ : ∃ d2, xd = d2 := ⟨_, rfl⟩
          subst hp1 ht1 hd1 hd2
          have hxl : ∀ wz, Blk wz (w.heap.size + 1) 63 #[.string a0, .string a1, .int .i64 a2, .int .i64 ph, .int .i64 xd] → Calls Try.prog 46 #[.pointer (some ⟨w.heap.size + 1, 0, none⟩), .int .i64 (q3 % 24)] wz fun e w' => e = .returned (.bool (lateR (q3 % 24) (ph, ti, du))) ∧ wz = w' := fun wz hz => by
            have := xlate_ok _ _ _ _ _ _ (q3 % 24) wz hz
            rwa [rel_late hr3] at this
          have hll : ∀ wz, Blk wz w.heap.size 133 #[.string a0, .string a1, .int .i64 a2, .int .i64 ph, .bool ti, .int .i64 du] → Calls Try.prog 45 #[.pointer (some ⟨w.heap.size, 0, none⟩), .int .i64 (q3 % 24)] wz fun e w' => e = .returned (.bool (lateR (q3 % 24) (ph, ti, du))) ∧ wz = w' := fun wz hz => late_ok _ _ _ _ _ _ _ (q3 % 24) wz hz
          have hR5 := hR4.drewN kd
          have hX5 := hX4.drewN kd
          have hA5 := hA4.drewN kd
          have hbel5 : Hid (Below w.heap.size w (w4.drewN kd) ∧ w.heap.size + 2 ≤ (w4.drewN kd).heap.size) := Lib.hid (bel_clone HB.out HS.out hb3 hg3 hg4 kd (by have := HS.out; omega))
          clear hR4 hX4 hA4
          generalize w4.drewN kd = wd at *
          have k3 : wd.cell? ⟨w.heap.size + 1, 3, none⟩ = some (.int .i64 ph) := hX5.cell 3
          have k4 : wd.cell? ⟨wr.heap.size, 3, none⟩ = some (.int .i64 q3) := hA5.cell 3
          generalize lateR (q3 % 24) (ph, ti, du) = lt at *
          go_quiet (first | (go_at_call 44; exact (phase_ok _ _ _ _ _ _ _ _ (hR5.drewN _)).mono fun e w' h => ⟨h.1, _, h.2.symm⟩) | (go_at_call 16; exact (Within_any _ _ _ (by omega) (by omega) (by omega) (by omega)).mono fun e w' h => ⟨h.1, _, h.2.symm⟩) | (go_at_call 45; exact (hll _ (hR5.drewN _)).mono fun e w' h => ⟨h.1, _, h.2.symm⟩) | (go_at_call 46; exact (hxl _ (hX5.drewN _)).mono fun e w' h => ⟨h.1, _, h.2.symm⟩))
          go_wp2
          go_roundw
          case rel =>
            exact Lib.hid ⟨k + 1, (ph, ti, du), (ph, xd), by simp, by omega, ⟨hr3, hR5.drewN _, hX5.drewN _⟩, below_drewN hbel5.out.1 _, hbel5.out.2⟩
          case measure => simp; omega
      · go_wp2_with (first | (go_at_call 47; refine (wakes_ok _).mono ?_; rintro e w9 ⟨rfl, hb9⟩))
        go_ret
        exact ⟨rfl, HB.out.trans (hb9.mono (by have := HS.out; omega))⟩
    · go_wp2_with (first | (go_at_call 47; refine (wakes_ok _).mono ?_; rintro e w9 ⟨rfl, hb9⟩))
      go_ret
      exact ⟨rfl, HB.out.trans (hb9.mono (by have := HS.out; omega))⟩

end Go.Proofs.Ytlldpgjifdfogaa.runPlays
