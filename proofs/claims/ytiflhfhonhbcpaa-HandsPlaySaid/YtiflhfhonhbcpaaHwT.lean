/- The plain hands: a run that ends, a task that ends. -/
import Derived.Test.YtiflhfhonhbcpaaHwR
namespace Go.Proofs.Ytiflhfhonhbcpaa.Hw
open Go Go.RowKit Go.Proofs.Ytiflhfhonhbcpaa Go.Proofs.Ytiflhfhonhbcpaa.Crw Go.Proofs.Ytiflhfhonhbcpaa.Vl Go.ChangeShapes Go.WideShapes Go.ChangeAt
set_option linter.unusedVariables false
set_option maxRecDepth 1000000
section
variable {w w' : World} {B h : Nat} {V U : Nat → Prop} {L : List Pr} {K : List Ky} {v lv : Value}
theorem rtk_info : (Try.prog.info? 118).map (fun i => (i.zero, i.size, i.bytes)) = some (some (.agg #[.string ⟨#[]⟩, .bool false]), 2, 24) := by kernel_rfl
theorem reads_take {w : World} {B z n k : Nat} {A : Option Addr} {xs : List Value} (h : Reads w B z A n xs) (hk : k ≤ n) : Reads w B z A k (xs.take (k * z)) := by
  refine ⟨by rw [List.length_take, h.1]; exact Nat.min_eq_left (Nat.mul_le_mul_right _ hk), fun hk0 => ?_⟩
  obtain ⟨ad, e, hb, hc⟩ := h.2 (by omega)
  refine ⟨ad, e, hb, fun j u hu => hc j u ?_⟩
  rw [List.getElem?_take] at hu
  split at hu
  · exact hu
  · cases hu
/-- What the end of a run makes. -/
def RStopP (w : World) (B h : Nat) (V : Nat → Prop) (L : List Pr) (K : List Ky) (v lv : Value) (j : Nat) (p : Pr) (e9 : Ending) (w' : World) : Prop :=
  ∃ c, e9 = .returned (.slice (some ⟨c, 0, none⟩) 1 1) ∧ Blk w' c 30 (msA ⟨9, p.r, noB, 0⟩) ∧ w.heap.size ≤ c ∧ ¬ V c ∧ RqP w' B h V (L.set j ⟨p.g, p.r, false, .slice none 0 0, []⟩) K v lv ∧ Vol V w w'
set_option maxHeartbeats 8000000 in
theorem R_stop16 (H : RqP w B h V L K v lv) (hl : L.length ≤ 100) {r : Pm} (t : ByteArray) (its : Value) {j : Nat} {p : Pr} (hj : L[j]? = some p) (hlv : p.lv = true) (hp : p.r = r) :
    Calls Try.prog 27 #[.pointer (some ⟨h, 0, none⟩), .agg (mgA 16 r t its)] w (RStopP w B h V L K v lv j p) := by
  obtain ⟨gm, hgm⟩ : ∃ g, g = w.heap.size := ⟨_, rfl⟩
  obtain ⟨W, hW⟩ : ∃ W, W = w.alloc (.cells (mgA 16 r t its) 30) := ⟨_, rfl⟩
  have hb : Below w.heap.size w W := by rw [hW]; exact (Below.refl _ _).alloc (Nat.le_refl _) _
  have hm : Blk W gm 30 (mgA 16 r t its) := by rw [hW, hgm]; exact Blk.new w _ _
  have m0 : W.cell? ⟨gm, 0, none⟩ = some (.int .i64 16) := hm.cell 0
  have m1 : W.cell? ⟨gm, 1, none⟩ = some (.string r.f) := hm.cell 1
  have m2 : W.cell? ⟨gm, 2, none⟩ = some (.string r.e) := hm.cell 2
  have m3 : W.cell? ⟨gm, 3, none⟩ = some (.string t) := hm.cell 3
  have m4 : W.cell? ⟨gm, 4, none⟩ = some (.int .i64 r.n) := hm.cell 4
  have m5 : W.cell? ⟨gm, 5, none⟩ = some (.int .i64 0) := hm.cell 5
  have m6 : W.cell? ⟨gm, 6, none⟩ = some (.int .i64 0) := hm.cell 6
  have m7 : W.cell? ⟨gm, 7, none⟩ = some (.int .i64 0) := hm.cell 7
  have m8 : W.cell? ⟨gm, 8, none⟩ = some its := hm.cell 8
  have hC := Find_yes (H.below hb) hl hj hlv 16 hp t its
  have HW := Lib.hid (And.intro hW hgm)
  have HB := Lib.hid hb
  have HM := Lib.hid hm
  have HH := Lib.hid (H.below hb)
  have HJ := Lib.hid hj
  clear hW hb hm hgm H hj hp
  go_enter Try.func27, Try.ntmps27
  go_upto_region 1 with fail
  rw [← HW.out.1, ← HW.out.2]
  go_upto_region 12 with (go_at_call 55; refine hC.mono ?_; rintro e9 w2 ⟨rfl, hb2⟩)
  have n0 : w2.cell? ⟨gm, 0, none⟩ = some (.int .i64 16) := (HM.out.below hb2 HM.out.lt).cell 0
  have H2 := Lib.hid (HH.out.below hb2)
  have hpr := (HH.out.below hb2).ps.prs j p HJ.out
  have q3 : w2.cell? ⟨p.g, 3, none⟩ = some (.bool p.lv) := hpr.cell 3
  have q4 : w2.cell? ⟨p.g, 4, none⟩ = some p.tv := hpr.cell 4
  have f3 : w2.frozen? ⟨p.g, 3, none⟩ = false := hpr.frozen 3
  have f4 : w2.frozen? ⟨p.g, 4, none⟩ = false := hpr.frozen 4
  obtain ⟨Ap, cp, hpv, -⟩ := ((HH.out.below hb2).ps.tks j p HJ.out).form
  rw [hpv] at q4
  have HPR := Lib.hid hpr
  have HB2 := Lib.hid (HB.out.trans (hb2.mono HB.out.size))
  clear hb2 hC m0 m1 m2 m3 m4 m5 m6 m7 m8 hpr hpv
  go_upto_region 42 with fail
  go_upto_region 43 with fail
  obtain ⟨W8, hW8⟩ : ∃ W, W = (w2.setCell ⟨p.g, 3, none⟩ (.bool false)).setCell ⟨p.g, 4, none⟩ (.slice none 0 0) := ⟨_, rfl⟩
  rw [← hW8]
  have hv8 : Vol (fun b => b = p.g ∨ p.tv.ownBlock = some b) w2 W8 := by
    rw [hW8]
    exact Vol.setCell (V := fun b => b = p.g ∨ p.tv.ownBlock = some b) (a := ⟨p.g, 4, none⟩) (Vol.setCell (V := fun b => b = p.g ∨ p.tv.ownBlock = some b) (a := ⟨p.g, 3, none⟩) (Vol.refl _) (.inl (.inl rfl)) _) (.inl (.inl rfl)) _
  have bp8 : Blk W8 p.g 115 (rpC ⟨p.g, p.r, false, .slice none 0 0, []⟩) := by
    rw [hW8]
    have := (HPR.out.set_ 3 (.bool false)).set_ 4 (.slice none 0 0)
    simpa using this
  have H8 := Lib.hid ((H2.out.turn (p' := ⟨p.g, p.r, false, .slice none 0 0, []⟩) HJ.out rfl rfl hv8 bp8 (Win.nil _ _ _ _) (fun b e => by simp [Value.ownBlock] at e)).same (V := V) (fun b => ⟨fun e => e.elim id (fun e => by have := e.2; simp [Value.ownBlock] at this), .inl⟩))
  have HV8 := Lib.hid hv8
  have hO := Of_p (p := ⟨p.g, p.r, false, .slice none 0 0, []⟩) bp8 9
  clear hW8 hv8 bp8 q3 q4 f3 f4 n0
  go_wp2_with (go_at_call 54; refine hO.mono ?_; rintro e9 wA ⟨rfl, hbA⟩)
  go_ret
  have hz := H8.out.below hbA
  have s1 := HB2.out.size
  have s3 := HV8.out.size
  have s4 := hbA.size
  refine ⟨wA.heap.size, rfl, Blk.new wA 30 (msA ⟨9, p.r, noB, 0⟩), by omega, fun e => absurd (hz.lt _ e) (Nat.lt_irrefl _), hz.below ((Below.refl _ _).alloc (Nat.le_refl _) _), ?_⟩
  have u0 : Vol V w w2 := Vol.of_below HB2.out
  refine ((u0.trans HV8.out (fun b e => .inl ?_)).below hbA).alloc _
  rcases e with rfl | e
  · exact (H2.out.ps.vp j p HJ.out).1
  · exact (H2.out.ps.vp j p HJ.out).2 b e
set_option maxHeartbeats 8000000 in
theorem R_stop17 (H : RqP w B h V L K v lv) (hl : L.length ≤ 100) {r : Pm} (t : ByteArray) (its : Value) {j : Nat} {p : Pr} (hj : L[j]? = some p) (hlv : p.lv = true) (hp : p.r = r) :
    Calls Try.prog 27 #[.pointer (some ⟨h, 0, none⟩), .agg (mgA 17 r t its)] w (RStopP w B h V L K v lv j p) := by
  obtain ⟨gm, hgm⟩ : ∃ g, g = w.heap.size := ⟨_, rfl⟩
  obtain ⟨W, hW⟩ : ∃ W, W = w.alloc (.cells (mgA 17 r t its) 30) := ⟨_, rfl⟩
  have hb : Below w.heap.size w W := by rw [hW]; exact (Below.refl _ _).alloc (Nat.le_refl _) _
  have hm : Blk W gm 30 (mgA 17 r t its) := by rw [hW, hgm]; exact Blk.new w _ _
  have m0 : W.cell? ⟨gm, 0, none⟩ = some (.int .i64 17) := hm.cell 0
  have m1 : W.cell? ⟨gm, 1, none⟩ = some (.string r.f) := hm.cell 1
  have m2 : W.cell? ⟨gm, 2, none⟩ = some (.string r.e) := hm.cell 2
  have m3 : W.cell? ⟨gm, 3, none⟩ = some (.string t) := hm.cell 3
  have m4 : W.cell? ⟨gm, 4, none⟩ = some (.int .i64 r.n) := hm.cell 4
  have m5 : W.cell? ⟨gm, 5, none⟩ = some (.int .i64 0) := hm.cell 5
  have m6 : W.cell? ⟨gm, 6, none⟩ = some (.int .i64 0) := hm.cell 6
  have m7 : W.cell? ⟨gm, 7, none⟩ = some (.int .i64 0) := hm.cell 7
  have m8 : W.cell? ⟨gm, 8, none⟩ = some its := hm.cell 8
  have hC := Find_yes (H.below hb) hl hj hlv 17 hp t its
  have HW := Lib.hid (And.intro hW hgm)
  have HB := Lib.hid hb
  have HM := Lib.hid hm
  have HH := Lib.hid (H.below hb)
  have HJ := Lib.hid hj
  clear hW hb hm hgm H hj hp
  go_enter Try.func27, Try.ntmps27
  go_upto_region 1 with fail
  rw [← HW.out.1, ← HW.out.2]
  go_upto_region 12 with (go_at_call 55; refine hC.mono ?_; rintro e9 w2 ⟨rfl, hb2⟩)
  have n0 : w2.cell? ⟨gm, 0, none⟩ = some (.int .i64 17) := (HM.out.below hb2 HM.out.lt).cell 0
  have H2 := Lib.hid (HH.out.below hb2)
  have hpr := (HH.out.below hb2).ps.prs j p HJ.out
  have q3 : w2.cell? ⟨p.g, 3, none⟩ = some (.bool p.lv) := hpr.cell 3
  have q4 : w2.cell? ⟨p.g, 4, none⟩ = some p.tv := hpr.cell 4
  have f3 : w2.frozen? ⟨p.g, 3, none⟩ = false := hpr.frozen 3
  have f4 : w2.frozen? ⟨p.g, 4, none⟩ = false := hpr.frozen 4
  obtain ⟨Ap, cp, hpv, -⟩ := ((HH.out.below hb2).ps.tks j p HJ.out).form
  rw [hpv] at q4
  have HPR := Lib.hid hpr
  have HB2 := Lib.hid (HB.out.trans (hb2.mono HB.out.size))
  clear hb2 hC m0 m1 m2 m3 m4 m5 m6 m7 m8 hpr hpv
  go_upto_region 42 with fail
  go_upto_region 43 with fail
  obtain ⟨W8, hW8⟩ : ∃ W, W = (w2.setCell ⟨p.g, 3, none⟩ (.bool false)).setCell ⟨p.g, 4, none⟩ (.slice none 0 0) := ⟨_, rfl⟩
  rw [← hW8]
  have hv8 : Vol (fun b => b = p.g ∨ p.tv.ownBlock = some b) w2 W8 := by
    rw [hW8]
    exact Vol.setCell (V := fun b => b = p.g ∨ p.tv.ownBlock = some b) (a := ⟨p.g, 4, none⟩) (Vol.setCell (V := fun b => b = p.g ∨ p.tv.ownBlock = some b) (a := ⟨p.g, 3, none⟩) (Vol.refl _) (.inl (.inl rfl)) _) (.inl (.inl rfl)) _
  have bp8 : Blk W8 p.g 115 (rpC ⟨p.g, p.r, false, .slice none 0 0, []⟩) := by
    rw [hW8]
    have := (HPR.out.set_ 3 (.bool false)).set_ 4 (.slice none 0 0)
    simpa using this
  have H8 := Lib.hid ((H2.out.turn (p' := ⟨p.g, p.r, false, .slice none 0 0, []⟩) HJ.out rfl rfl hv8 bp8 (Win.nil _ _ _ _) (fun b e => by simp [Value.ownBlock] at e)).same (V := V) (fun b => ⟨fun e => e.elim id (fun e => by have := e.2; simp [Value.ownBlock] at this), .inl⟩))
  have HV8 := Lib.hid hv8
  have hO := Of_p (p := ⟨p.g, p.r, false, .slice none 0 0, []⟩) bp8 9
  clear hW8 hv8 bp8 q3 q4 f3 f4 n0
  go_wp2_with (go_at_call 54; refine hO.mono ?_; rintro e9 wA ⟨rfl, hbA⟩)
  go_ret
  have hz := H8.out.below hbA
  have s1 := HB2.out.size
  have s3 := HV8.out.size
  have s4 := hbA.size
  refine ⟨wA.heap.size, rfl, Blk.new wA 30 (msA ⟨9, p.r, noB, 0⟩), by omega, fun e => absurd (hz.lt _ e) (Nat.lt_irrefl _), hz.below ((Below.refl _ _).alloc (Nat.le_refl _) _), ?_⟩
  have u0 : Vol V w w2 := Vol.of_below HB2.out
  refine ((u0.trans HV8.out (fun b e => .inl ?_)).below hbA).alloc _
  rcases e with rfl | e
  · exact (H2.out.ps.vp j p HJ.out).1
  · exact (H2.out.ps.vp j p HJ.out).2 b e
/-- What the end of a task makes. -/
def REndP (w : World) (B h : Nat) (V : Nat → Prop) (L : List Pr) (K : List Ky) (v lv : Value) (j : Nat) (p : Pr) (t : ByteArray) (e9 : Ending) (w' : World) : Prop :=
  (NoT p.ts t ∧ e9 = .returned (.slice none 0 0) ∧ Below w.heap.size w w') ∨
  ∃ i c V' tv, FirstT p.ts t i ∧ e9 = .returned (.slice (some ⟨c, 0, none⟩) 1 1) ∧ Blk w' c 30 (msA ⟨8, p.r, t, 5⟩) ∧ w.heap.size ≤ c ∧ ¬ V' c ∧ RqP w' B h V' (L.set j ⟨p.g, p.r, p.lv, tv, p.ts.eraseIdx i⟩) K v lv ∧ (∀ b, V b → V' b) ∧ (∀ b, V' b → V b ∨ w.heap.size ≤ b) ∧ Vol V w w'
set_option maxHeartbeats 16000000 in
theorem R_end (H : RqP w B h V L K v lv) (hl : L.length ≤ 100) {r : Pm} (t : ByteArray) (its : Value) {j : Nat} {p : Pr} (hj : L[j]? = some p) (hlv : p.lv = true) (hp : p.r = r) (hlt : p.ts.length ≤ 100) :
    Calls Try.prog 27 #[.pointer (some ⟨h, 0, none⟩), .agg (mgA 15 r t its)] w (REndP w B h V L K v lv j p t) := by
  obtain ⟨i0, hi0, hz0, hz1, hz2⟩ := info_parts rtk_info
  obtain ⟨gm, hgm⟩ : ∃ g, g = w.heap.size := ⟨_, rfl⟩
  obtain ⟨W, hW⟩ : ∃ W, W = w.alloc (.cells (mgA 15 r t its) 30) := ⟨_, rfl⟩
  have hb : Below w.heap.size w W := by rw [hW]; exact (Below.refl _ _).alloc (Nat.le_refl _) _
  have hm : Blk W gm 30 (mgA 15 r t its) := by rw [hW, hgm]; exact Blk.new w _ _
  have m0 : W.cell? ⟨gm, 0, none⟩ = some (.int .i64 15) := hm.cell 0
  have m1 : W.cell? ⟨gm, 1, none⟩ = some (.string r.f) := hm.cell 1
  have m2 : W.cell? ⟨gm, 2, none⟩ = some (.string r.e) := hm.cell 2
  have m3 : W.cell? ⟨gm, 3, none⟩ = some (.string t) := hm.cell 3
  have m4 : W.cell? ⟨gm, 4, none⟩ = some (.int .i64 r.n) := hm.cell 4
  have m5 : W.cell? ⟨gm, 5, none⟩ = some (.int .i64 0) := hm.cell 5
  have m6 : W.cell? ⟨gm, 6, none⟩ = some (.int .i64 0) := hm.cell 6
  have m7 : W.cell? ⟨gm, 7, none⟩ = some (.int .i64 0) := hm.cell 7
  have m8 : W.cell? ⟨gm, 8, none⟩ = some its := hm.cell 8
  have hC := Find_yes (H.below hb) hl hj hlv 15 hp t its
  have HW := Lib.hid (And.intro hW hgm)
  have HB := Lib.hid hb
  have HM := Lib.hid hm
  have HH := Lib.hid (H.below hb)
  have HJ := Lib.hid hj
  have HP := Lib.hid hp
  clear hW hb hm hgm H hj hp
  go_enter Try.func27, Try.ntmps27
  go_upto_region 1 with fail
  rw [← HW.out.1, ← HW.out.2]
  go_upto_region 12 with (go_at_call 55; refine hC.mono ?_; rintro e9 w2 ⟨rfl, hb2⟩)
  have n0 : w2.cell? ⟨gm, 0, none⟩ = some (.int .i64 15) := (HM.out.below hb2 HM.out.lt).cell 0
  have H2 := Lib.hid (HH.out.below hb2)
  have hpr := (HH.out.below hb2).ps.prs j p HJ.out
  have hwin := (HH.out.below hb2).ps.tks j p HJ.out
  obtain ⟨At, ct, hv0, hct, hctm, hAt⟩ := hwin.form
  have q4 : w2.cell? ⟨p.g, 4, none⟩ = some (.slice At p.ts.length ct) := by rw [← hv0]; exact hpr.cell 4
  obtain ⟨N, hN⟩ : ∃ N, N = p.ts.length := ⟨_, rfl⟩
  rw [hv0] at hwin
  rw [← hN] at q4 hct hwin hlt
  have HPR := Lib.hid hpr
  have HWN := Lib.hid hwin
  have HV0 := Lib.hid hv0
  have HN := Lib.hid hN
  have HCT := Lib.hid hctm
  have HM2 := Lib.hid (HM.out.below hb2 HM.out.lt)
  have HB2 := Lib.hid (HB.out.trans (hb2.mono HB.out.size))
  clear hb2 hC m0 m1 m2 m3 m4 m5 m6 m7 m8 hpr hwin hv0 hN hAt hctm
  go_wp2_with fail
  go_loopw [146] (fun vi wr => Hid (∃ i : Nat, vi = .int .i64 i ∧ i ≤ N ∧ (∀ (m : Nat) (y : Tq), m < i → p.ts[m]? = some y → ¬ y.t = t) ∧ Below w2.heap.size w2 wr ∧ ∃ w7, w7 = wr)) (fun vi _ => N - (intOf vi).toNat)
  case atStart => exact Lib.hid ⟨0, rfl, by omega, fun m y h => by omega, Below.refl _ _, _, rfl⟩
  case round =>
    obtain ⟨i, rfl, hi, hno, hb, w7, hw7⟩ := hrel.out
    subst hw7
    clear hrel n0 q4
    have HNO := Lib.hid hno
    have HB7 := Lib.hid hb
    have hm7 := HM2.out.below hb HM2.out.lt
    have hpr7 := HPR.out.below hb HPR.out.lt
    have hw7 := HWN.out.below hb
    clear hno hb
    by_cases hlt2 : (i : Int) < N
    · obtain ⟨q, hq⟩ : ∃ q, p.ts[i]? = some q := ⟨p.ts[i]'(by have := HN.out; omega), List.getElem?_eq_getElem _⟩
      obtain ⟨g, o, c, hv, -, -⟩ := hw7.at (by omega)
      injection hv with hv _ hv2
      subst hv hv2
      have i0' : w7.cell? ⟨g, o + i * 2, none⟩ = some (.string q.t) := by
        have := hw7.cell (i := i * 2) (by omega)
        rw [this, show i * 2 = i * 2 + 0 by rfl, tqV_get p.ts i q hq 0 (by omega)]
        rfl
      have i1' : w7.cell? ⟨g, o + i * 2 + 1, none⟩ = some (.bool q.b) := by
        have := hw7.cell (i := i * 2 + 1) (by omega)
        rw [Nat.add_assoc, this, tqV_get p.ts i q hq 1 (by omega)]
        rfl
      obtain ⟨W6, hW6⟩ : ∃ W, W = w7.alloc (.cells #[.string q.t, .bool q.b] 118) := ⟨_, rfl⟩
      have hb6 : Below w7.heap.size w7 W6 := by rw [hW6]; exact (Below.refl _ _).alloc (Nat.le_refl _) _
      have hx6 : Blk W6 w7.heap.size 118 #[.string q.t, .bool q.b] := by rw [hW6]; exact Blk.new w7 _ _
      have r0 : W6.cell? ⟨w7.heap.size, 0, none⟩ = some (.string q.t) := hx6.cell 0
      have r3 : W6.cell? ⟨gm, 3, none⟩ = some (.string t) := (hm7.below hb6 hm7.lt).cell 3
      have HQ := Lib.hid hq
      have HW6 := Lib.hid hW6
      have HB6 := Lib.hid hb6
      have HP7 := Lib.hid hpr7
      have HW7 := Lib.hid hw7
      have HM7 := Lib.hid hm7
      clear hq hW6 hb6 hx6 hpr7 hw7 hm7
      cases hqt : (q.t.toList == t.toList)
      · go_upto_region 34 with fail
        rw [← HW6.out]
        go_wp2_with fail
        refine ⟨?_, by simp [intOf]; omega⟩
        refine Lib.hid ⟨i + 1, by simp, by omega, fun m y hm hy => ?_, HB7.out.trans (HB6.out.mono HB7.out.size), _, rfl⟩
        rcases Nat.lt_or_ge m i with e | e
        · exact HNO.out m y e hy
        · obtain rfl : m = i := by omega
          rw [HQ.out] at hy
          injection hy with hy
          subst hy
          intro e
          have := toList_ne.2 e
          rw [hqt] at this
          cases this
      · go_upto_region 34 with fail
        rw [← HW6.out]
        have hfirst : FirstT p.ts t i := ⟨q, HQ.out, toList_ne.1 hqt, HNO.out⟩
        have HF := Lib.hid hfirst
        have hpr6 := HP7.out.below HB6.out HP7.out.lt
        have hw6 := HW7.out.below HB6.out
        have H6 := Lib.hid ((H2.out.below HB7.out).below HB6.out)
        have HM6 := Lib.hid (HM7.out.below HB6.out HM7.out.lt)
        have HB26 := Lib.hid (HB7.out.trans (HB6.out.mono HB7.out.size))
        have q4 : W6.cell? ⟨p.g, 4, none⟩ = some (.slice (some ⟨g, o, none⟩) N ct) := by rw [HN.out, ← HV0.out]; exact hpr6.cell 4
        have hiN : i < N := by omega
        have hr1 : Hid (Reads W6 W6.heap.size 2 (some ⟨g, o, none⟩) i ((tqV p.ts).take (i * 2))) := Lib.hid (reads_take hw6.reads (by omega))
        obtain ⟨A2, hA2⟩ : ∃ A2 : Option Addr, (if ct = i + 1 then some (⟨g, o, none⟩ : Addr) else some ⟨g, o + (i + 1) * 2, none⟩) = A2 := ⟨_, rfl⟩
        have hr2 : Hid (Reads W6 W6.heap.size 2 A2 (N - (i + 1)) ((tqV p.ts).drop ((i + 1) * 2))) := Lib.hid (by
          have h := hw6.reads.cut (k := i + 1) (cap := ct) (by omega) hct
          rw [Option.map_some, Addr.add_lit, hA2] at h
          exact h)
        have z1 : IntKind.i64.wrap ((i : Int) + 1) = (i : Int) + 1 := IntWalk.i64_in _ (by omega)
        have z2 : (0 : Int) ≤ (i : Int) + 1 := by omega
        have z3 : ((i : Int) + 1).toNat = i + 1 := by omega
        have z4 : (0 : Int) ≤ (i : Int) := by omega
        have z5 : (i : Int) ≤ (ct : Int) := by omega
        have z6 : (i : Int) + 1 ≤ (N : Int) := by omega
        have z7 : (i : Int) + 1 ≤ (ct : Int) := by omega
        have hBw : Hid (B ≤ W6.heap.size) := Lib.hid H6.out.Bw
        have HPR6 := Lib.hid hpr6
        have hgp : Hid (p.g < W6.heap.size) := Lib.hid hpr6.lt
        have hcm := HCT.out
        unfold maxLen at hcm
        clear hpr6 hw6 hfirst
        go_upto_region 35 with fail
        clear r0 r3 i0' i1'
        go_cut [] from 156 to 173 (fun wx => Hid (∃ V' tv, RqP wx B h V' (L.set j ⟨p.g, p.r, p.lv, tv, p.ts.eraseIdx i⟩) K v lv ∧ (∀ b, V b → V' b) ∧ (∀ b, V' b → V b ∨ w.heap.size ≤ b) ∧ Blk wx p.g 115 (rpC ⟨p.g, p.r, p.lv, tv, p.ts.eraseIdx i⟩) ∧ Blk wx gm 30 (mgA 15 r t its) ∧ Vol V w wx ∧ ∃ w9, w9 = wx))
        case first =>
          go_region_law (first | (refine step_append_any _ rfl (.const (.slice none 0 0)) (.tmp 162) 113 rfl B 118 i0 tkZ 2 24 Try.underlying113 hi0 hz0 hz1 hz2 rfl (by decide) (.slice none 0 0) 0 [] (by simp [Act.eval]) ⟨by simp, .inl ⟨rfl, rfl⟩⟩ W6.heap.size (some ⟨g, o, none⟩) i ct ((tqV p.ts).take (i * 2)) (by first | (simp [Act.eval]; done) | (simp [Act.eval, Act.put]; done)) hr1.out.drew (fun x hx => tqV_one _ x (List.mem_of_mem_take hx)) (by simp only [maxLen]; omega) (by omega) (by have := hBw.out; simpa using this) ?_; intro v13 w13 hown13 hg13 hne13; have c13 : w13.cell? ⟨p.g, 4, none⟩ = some (.slice (some ⟨g, o, none⟩) N ct) := (World.cell?_of_block (a := ⟨p.g, 4, none⟩) (hg13.block p.g hgp.out (by simp [Value.ownBlock]))).trans q4) | (refine step_append_any _ rfl (.tmp 163) (.tmp 170) 113 rfl B 118 i0 tkZ 2 24 Try.underlying113 hi0 hz0 hz1 hz2 rfl (by decide) v13 (0 + i) ([] ++ (tqV p.ts).take (i * 2)) (by first | (simp [Act.eval]; done) | (simp [Act.eval, Act.put]; done)) hown13 W6.heap.size A2 (N - (i + 1)) (ct - (i + 1)) ((tqV p.ts).drop ((i + 1) * 2)) (by first | (simp [Act.eval]; done) | (simp [Act.eval, Act.put]; done)) (hr2.out.drew.grown hg13 (Nat.le_refl _) (fun q hq => by cases hq)) (fun x hx => tqV_one _ x (List.mem_of_mem_drop hx)) (by simp only [maxLen]; omega) (by omega) (by have h1 := hBw.out; have h2 := hg13.size; simp at h2; omega) ?_; intro v14 w14 hown14 hg14 hne14; obtain ⟨A14, c14, rfl, -, -⟩ := own_slice hown14; have hv13 : ∀ q, v13.ownBlock = some q → W6.heap.size ≤ q := fun q e => (by rcases hne13 with h | h; (rw [h] at e; simp [Value.ownBlock] at e); (rw [h] at e; injection e with e; subst e; exact Nat.le_refl _)); have b14 := (HPR6.out.drew.grown hg13 (by simp [Value.ownBlock])).grown hg14 (fun e => absurd (hv13 _ e.symm) (Nat.not_le.2 hgp.out)); have f14 : w14.frozen? ⟨p.g, 4, none⟩ = false := b14.frozen 4; have c144 : w14.cell? ⟨p.g, 4, none⟩ = some (.slice (some ⟨g, o, none⟩) N ct) := (by rw [HN.out, ← HV0.out]; exact b14.cell 4)))
          all_goals go_wp2_with fail
          all_goals
            go_meet
            case rel =>
              have hB13 : Below W6.heap.size W6 w13 := ⟨hg13.os, hg13.tape, hg13.output, hg13.size, fun q hq => hg13.block q hq (by simp [Value.ownBlock])⟩
              have hB14 : Below W6.heap.size W6 w14 := hB13.grown hg14 hB13.size hv13
              have hv14 : ∀ q, (Value.slice A14 (i + (N - (i + 1))) c14).ownBlock = some q → W6.heap.size ≤ q := fun q e => by
                have e2 : (Value.slice A14 (i + (N - (i + 1))) c14).ownBlock = v13.ownBlock ∨ (Value.slice A14 (i + (N - (i + 1))) c14).ownBlock = some w13.heap.size := by
                  rcases hne14 with e3 | e3
                  · left; rw [← e3]; cases A14 <;> rfl
                  · right; rw [← e3]; cases A14 <;> rfl
                rcases e2 with e3 | e3
                · exact hv13 q (by rw [← e3]; exact e)
                · rw [e3] at e; injection e with e; subst e; exact hB13.size
              have v68 : Vol (fun b => b = p.g ∨ p.tv.ownBlock = some b) W6 (w14.setCell ⟨p.g, 4, none⟩ (.slice A14 (i + (N - (i + 1))) c14)) :=
                Vol.setCell (V := fun b => b = p.g ∨ p.tv.ownBlock = some b) (a := ⟨p.g, 4, none⟩) (Vol.of_below hB14) (.inl (.inl rfl)) _
              have hle : (p.ts.eraseIdx i).length = i + (N - (i + 1)) := by rw [List.length_eraseIdx, if_pos (by have := HN.out; omega), ← HN.out]; omega
              have hw8 : Win (w14.setCell ⟨p.g, 4, none⟩ (.slice A14 (i + (N - (i + 1))) c14)) B 118 2 (.slice A14 (i + (N - (i + 1))) c14) (i + (N - (i + 1))) (tqV (p.ts.eraseIdx i)) := by
                have h1 := own_far (i := 4) (u := .slice A14 (i + (N - (i + 1))) c14) hown14 b14 mPT.symm
                have h2 := Win.of_own h1
                rw [← tqV_erase]
                simpa using h2
              have bp8 : Blk (w14.setCell ⟨p.g, 4, none⟩ (.slice A14 (i + (N - (i + 1))) c14)) p.g 115 (rpC ⟨p.g, p.r, p.lv, .slice A14 (i + (N - (i + 1))) c14, p.ts.eraseIdx i⟩) := by
                simpa using b14.set_ 4 (.slice A14 (i + (N - (i + 1))) c14)
              have H8 := H6.out.turn (p' := ⟨p.g, p.r, p.lv, .slice A14 (i + (N - (i + 1))) c14, p.ts.eraseIdx i⟩) HJ.out rfl rfl v68 bp8 (by rw [hle]; exact hw8) (fun b e => .inr (hv14 b e))
              have hgm8 : Blk (w14.setCell ⟨p.g, 4, none⟩ (.slice A14 (i + (N - (i + 1))) c14)) gm 30 (mgA 15 r t its) := blk_vol HM6.out v68 (fun e => by
                have := H6.out.ps.far_blk HM6.out (by decide) (by decide) HJ.out
                exact e.elim (fun e => this.1 e.symm) this.2)
              have s2 := HB2.out.size
              have s6 := HB26.out.size
              refine Lib.hid ⟨_, _, H8, fun b => .inl, fun b e => e.imp id (fun e => by omega), bp8, hgm8, (Vol.of_below (HB2.out.trans (HB26.out.mono HB2.out.size))).trans v68 (fun b e => .inl ?_), _, rfl⟩
              rcases e with rfl | e
              · exact (H6.out.ps.vp j p HJ.out).1
              · exact (H6.out.ps.vp j p HJ.out).2 b e
        case rest =>
          obtain ⟨V1, tv, h9, hv1, hv2, hp9, hm9, hvl, w9, hw9⟩ := hcut.out
          subst hw9
          clear hcut q4 hcm z1 z2 z3 z4 z5 z6 z7 hA2
          have hO := Of_p (p := ⟨p.g, p.r, p.lv, tv, p.ts.eraseIdx i⟩) hp9 8
          have HM9 := Lib.hid hm9
          have H9 := Lib.hid h9
          have HV9 := Lib.hid (And.intro hv1 (And.intro hv2 hvl))
          clear h9 hp9 hm9 hv1 hv2 hvl
          go_upto_region 37 with (go_at_call 54; refine hO.mono ?_; rintro e9 wA ⟨rfl, hbA⟩)
          have x3 : ∀ o, (wA.alloc o).cell? ⟨gm, 3, none⟩ = some (.string t) := fun o => (((HM9.out.below hbA HM9.out.lt).alloc o).cell 3)
          have HBA := Lib.hid hbA
          clear hbA hO
          go_wp2_with fail
          go_ret
          have hz := H9.out.below HBA.out
          have s2 := HB2.out.size
          have s9 := HV9.out.2.2.size
          have sA := HBA.out.size
          have hbl := Blk.new (wA.alloc (.cells (msA ⟨8, p.r, t, 5⟩) 30)) 30 (msA ⟨8, p.r, t, 5⟩)
          have hbe : Below wA.heap.size wA ((wA.alloc (.cells (msA ⟨8, p.r, t, 5⟩) 30)).alloc (.cells (msA ⟨8, p.r, t, 5⟩) 30)) := ((Below.refl _ _).alloc (Nat.le_refl _) _).alloc (by simp) _
          have hlt1 := hz.lt
          refine .inr ⟨i, wA.heap.size + 1, V1, tv, HF.out, rfl, by simpa using hbl, by omega, fun e => by have := hlt1 _ e; omega, hz.below hbe, HV9.out.1, HV9.out.2.1, ?_⟩
          exact (HV9.out.2.2.below HBA.out).below hbe
    · go_wp2_with fail
      go_ret
      refine .inl ⟨fun m y hy => HNO.out m y ?_ hy, rfl, HB2.out.trans (HB7.out.mono HB2.out.size)⟩
      have := (List.getElem?_eq_some_iff.1 hy).1
      have := HN.out
      omega
end
end Go.Proofs.Ytiflhfhonhbcpaa.Hw
