/- The plain hands hear of a start, of a run that is not there, of another kind. -/
import Derived.Test.YtiflhfhonhbcpaaHwQ
namespace Go.Proofs.Ytiflhfhonhbcpaa.Hw
open Go Go.RowKit Go.Proofs.Ytiflhfhonhbcpaa Go.Proofs.Ytiflhfhonhbcpaa.Crw Go.Proofs.Ytiflhfhonhbcpaa.Vl Go.ChangeShapes Go.WideShapes Go.ChangeAt
set_option linter.unusedVariables false
set_option maxRecDepth 1000000
section
variable {w w' : World} {B h : Nat} {V U : Nat → Prop} {L : List Pr} {K : List Ky} {v lv : Value}
theorem rprp_info : (Try.prog.info? 112).map (fun i => (i.zero, i.size, i.bytes)) = some (some (.pointer none), 1, 8) := by kernel_rfl
theorem Find_yes (H : RqP w B h V L K v lv) (hl : L.length ≤ 100) {j : Nat} {p : Pr} (hj : L[j]? = some p) (hlv : p.lv = true) (k : Int) {r : Pm} (hp : p.r = r) (t : ByteArray) (its : Value) :
    Calls Try.prog 55 #[.pointer (some ⟨h, 0, none⟩), .agg (mgA k r t its)] w fun e9 w' => e9 = .returned (ptr p) ∧ Below w.heap.size w w' := by
  refine (Find_p H hl k r t its).mono ?_
  rintro e9 w2 ⟨u, rfl, hf, hb⟩
  rcases hf with ⟨j', p', h1, h2, h3, rfl⟩ | ⟨hno, -⟩
  · have e := H.ps.uniq j j' p p' hj h1 (hp.trans h3.symm)
    subst e
    rw [hj] at h1
    injection h1 with h1
    subst h1
    exact ⟨rfl, hb⟩
  · exact absurd hp (hno j p hj hlv)
theorem Find_no (H : RqP w B h V L K v lv) (hl : L.length ≤ 100) (k : Int) {r : Pm} (hn : ∀ (j : Nat) (p : Pr), L[j]? = some p → p.lv = true → p.r ≠ r) (t : ByteArray) (its : Value) :
    Calls Try.prog 55 #[.pointer (some ⟨h, 0, none⟩), .agg (mgA k r t its)] w fun e9 w' => e9 = .returned (.pointer none) ∧ Below w.heap.size w w' := by
  refine (Find_p H hl k r t its).mono ?_
  rintro e9 w2 ⟨u, rfl, hf, hb⟩
  rcases hf with ⟨j', p', h1, h2, h3, rfl⟩ | ⟨-, rfl⟩
  · exact absurd h3 (hn j' p' h1 h2)
  · exact ⟨rfl, hb⟩
set_option maxHeartbeats 8000000 in
/-- A message to a run that is not there. -/
theorem R_none (H : RqP w B h V L K v lv) (hl : L.length ≤ 100) {k : Int} (hk : k ≠ 13) {r : Pm} (hn : ∀ (j : Nat) (p : Pr), L[j]? = some p → p.lv = true → p.r ≠ r) (t : ByteArray) (its : Value) :
    Calls Try.prog 27 #[.pointer (some ⟨h, 0, none⟩), .agg (mgA k r t its)] w fun e9 w' => e9 = .returned (.slice none 0 0) ∧ Below w.heap.size w w' := by
  obtain ⟨gm, hgm⟩ : ∃ g, g = w.heap.size := ⟨_, rfl⟩
  obtain ⟨W, hW⟩ : ∃ W, W = w.alloc (.cells (mgA k r t its) 30) := ⟨_, rfl⟩
  have hb : Below w.heap.size w W := by rw [hW]; exact (Below.refl _ _).alloc (Nat.le_refl _) _
  have hm : Blk W gm 30 (mgA k r t its) := by rw [hW, hgm]; exact Blk.new w _ _
  have m0 : W.cell? ⟨gm, 0, none⟩ = some (.int .i64 k) := hm.cell 0
  have m1 : W.cell? ⟨gm, 1, none⟩ = some (.string r.f) := hm.cell 1
  have m2 : W.cell? ⟨gm, 2, none⟩ = some (.string r.e) := hm.cell 2
  have m3 : W.cell? ⟨gm, 3, none⟩ = some (.string t) := hm.cell 3
  have m4 : W.cell? ⟨gm, 4, none⟩ = some (.int .i64 r.n) := hm.cell 4
  have m5 : W.cell? ⟨gm, 5, none⟩ = some (.int .i64 0) := hm.cell 5
  have m6 : W.cell? ⟨gm, 6, none⟩ = some (.int .i64 0) := hm.cell 6
  have m7 : W.cell? ⟨gm, 7, none⟩ = some (.int .i64 0) := hm.cell 7
  have m8 : W.cell? ⟨gm, 8, none⟩ = some its := hm.cell 8
  have hC := Find_no (H.below hb) hl k hn t its
  have hk13 : (k == 13) = false := by simpa using hk
  have HW := Lib.hid (And.intro hW hgm)
  have HB := Lib.hid hb
  clear hW hb hm hgm H hn hk
  go_enter Try.func27, Try.ntmps27
  go_upto_region 1 with fail
  rw [← HW.out.1, ← HW.out.2]
  go_wp2_with (go_at_call 55; refine hC.mono ?_; rintro e9 w2 ⟨rfl, hb2⟩)
  go_ret
  exact ⟨rfl, HB.out.trans (hb2.mono HB.out.size)⟩
set_option maxHeartbeats 8000000 in
/-- A message of another kind. -/
theorem R_other (H : RqP w B h V L K v lv) (hl : L.length ≤ 100) {k : Int} (h13 : k ≠ 13) (h14 : k ≠ 14) (h15 : k ≠ 15) (h16 : k ≠ 16) (h17 : k ≠ 17) {r : Pm} (t : ByteArray) (its : Value) {j : Nat} {p : Pr} (hj : L[j]? = some p) (hlv : p.lv = true) (hp : p.r = r) :
    Calls Try.prog 27 #[.pointer (some ⟨h, 0, none⟩), .agg (mgA k r t its)] w fun e9 w' => e9 = .returned (.slice none 0 0) ∧ Below w.heap.size w w' := by
  obtain ⟨gm, hgm⟩ : ∃ g, g = w.heap.size := ⟨_, rfl⟩
  obtain ⟨W, hW⟩ : ∃ W, W = w.alloc (.cells (mgA k r t its) 30) := ⟨_, rfl⟩
  have hb : Below w.heap.size w W := by rw [hW]; exact (Below.refl _ _).alloc (Nat.le_refl _) _
  have hm : Blk W gm 30 (mgA k r t its) := by rw [hW, hgm]; exact Blk.new w _ _
  have m0 : W.cell? ⟨gm, 0, none⟩ = some (.int .i64 k) := hm.cell 0
  have m1 : W.cell? ⟨gm, 1, none⟩ = some (.string r.f) := hm.cell 1
  have m2 : W.cell? ⟨gm, 2, none⟩ = some (.string r.e) := hm.cell 2
  have m3 : W.cell? ⟨gm, 3, none⟩ = some (.string t) := hm.cell 3
  have m4 : W.cell? ⟨gm, 4, none⟩ = some (.int .i64 r.n) := hm.cell 4
  have m5 : W.cell? ⟨gm, 5, none⟩ = some (.int .i64 0) := hm.cell 5
  have m6 : W.cell? ⟨gm, 6, none⟩ = some (.int .i64 0) := hm.cell 6
  have m7 : W.cell? ⟨gm, 7, none⟩ = some (.int .i64 0) := hm.cell 7
  have m8 : W.cell? ⟨gm, 8, none⟩ = some its := hm.cell 8
  have hC := Find_yes (H.below hb) hl hj hlv k hp t its
  have e13 : (k == 13) = false := by simpa using h13
  have e14 : (k == 14) = false := by simpa using h14
  have e15 : (k == 15) = false := by simpa using h15
  have e16 : (k == 16) = false := by simpa using h16
  have e17 : (k == 17) = false := by simpa using h17
  have HW := Lib.hid (And.intro hW hgm)
  have HB := Lib.hid hb
  have HM := Lib.hid hm
  clear hW hb hm hgm H h13 h14 h15 h16 h17 hj hlv hp
  go_enter Try.func27, Try.ntmps27
  go_upto_region 1 with fail
  rw [← HW.out.1, ← HW.out.2]
  go_upto_region 12 with (go_at_call 55; refine hC.mono ?_; rintro e9 w2 ⟨rfl, hb2⟩)
  have n0 : w2.cell? ⟨gm, 0, none⟩ = some (.int .i64 k) := (HM.out.below hb2 HM.out.lt).cell 0
  have HB2 := Lib.hid (HB.out.trans (hb2.mono HB.out.size))
  clear hb2 hC m0 m1 m2 m3 m4 m5 m6 m7 m8
  go_wp2_with fail
  go_ret
  exact ⟨rfl, HB2.out⟩
/-- What a start makes. -/
def RStartP (w : World) (B h : Nat) (V : Nat → Prop) (L : List Pr) (K : List Ky) (lv : Value) (r : Pm) (e9 : Ending) (w' : World) : Prop :=
  ((∃ (j : Nat) (p : Pr), L[j]? = some p ∧ p.r = r) ∧ e9 = .returned (.slice none 0 0) ∧ Below w.heap.size w w') ∨
  ((∀ (j : Nat) (p : Pr), L[j]? = some p → p.r ≠ r) ∧ ∃ c V' v' p, e9 = .returned (.slice (some ⟨c, 0, none⟩) 1 1) ∧ Blk w' c 30 (msA ⟨7, r, noB, 0⟩) ∧ w.heap.size ≤ c ∧ ¬ V' c ∧ p.r = r ∧ p.lv = true ∧ p.ts = [] ∧ RqP w' B h V' (L ++ [p]) K v' lv ∧ (∀ b, V b → V' b) ∧ (∀ b, V' b → V b ∨ w.heap.size ≤ b) ∧ Vol V w w')
set_option maxHeartbeats 16000000 in
theorem R_start (H : RqP w B h V L K v lv) (hl : L.length ≤ 100) (r : Pm) (t : ByteArray) (its : Value) :
    Calls Try.prog 27 #[.pointer (some ⟨h, 0, none⟩), .agg (mgA 13 r t its)] w (RStartP w B h V L K lv r) := by
  obtain ⟨i0, hi0, hz0, hz1, hz2⟩ := info_parts rprp_info
  obtain ⟨A0, c0, hv0, hc0, -⟩ := own_slice H.row
  obtain ⟨gm, hgm⟩ : ∃ g, g = w.heap.size := ⟨_, rfl⟩
  obtain ⟨W, hW⟩ : ∃ W, W = w.alloc (.cells (mgA 13 r t its) 30) := ⟨_, rfl⟩
  have hb : Below w.heap.size w W := by rw [hW]; exact (Below.refl _ _).alloc (Nat.le_refl _) _
  have hm : Blk W gm 30 (mgA 13 r t its) := by rw [hW, hgm]; exact Blk.new w _ _
  have m0 : W.cell? ⟨gm, 0, none⟩ = some (.int .i64 13) := hm.cell 0
  have h0 : W.cell? ⟨h, 0, none⟩ = some (.slice A0 L.length c0) := by rw [← hv0]; exact (H.below hb).blk.cell 0
  obtain ⟨N, hN⟩ : ∃ N, N = L.length := ⟨_, rfl⟩
  have hrow := (H.below hb).row
  rw [hv0] at hrow
  rw [← hN] at h0 hl hc0 hrow
  have HR := Lib.hid hrow
  have HN := Lib.hid hN
  have HM := Lib.hid hm
  have HB0 := Lib.hid hb
  have HH := Lib.hid (H.below hb)
  have HV0 := Lib.hid hv0
  have HW := Lib.hid (And.intro hW hgm)
  clear H hN hrow hW hb hm hgm hv0
  go_enter Try.func27, Try.ntmps27
  go_upto_region 1 with fail
  rw [← HW.out.1, ← HW.out.2]
  go_wp2_with fail
  go_loopw [26] (fun i wr => Hid (∃ j : Nat, i = .int .i64 j ∧ j ≤ N ∧ (∀ (m : Nat) (y : Pr), m < j → L[m]? = some y → y.r ≠ r) ∧ Below W.heap.size W wr ∧ ∃ w7, w7 = wr)) (fun i _ => N - (intOf i).toNat)
  case atStart => exact Lib.hid ⟨0, rfl, by omega, fun m y h => by omega, Below.refl _ _, _, rfl⟩
  case round =>
    obtain ⟨j, rfl, hj, hno, hb, w7, hw7⟩ := hrel.out
    subst hw7
    have HB := Lib.hid hb
    have HNO := Lib.hid hno
    have hrow7 := own_keep HR.out hb
    have hm7 := HM.out.below hb HM.out.lt
    clear hrel hno
    by_cases hlt : (j : Int) < (N : Int)
    · obtain ⟨u, rfl⟩ := own_some HR.out (by omega)
      obtain ⟨q, hq⟩ : ∃ q, L[j]? = some q := ⟨L[j]'(by have := HN.out; omega), List.getElem?_eq_getElem _⟩
      have c7 : w7.cell? ⟨u, j, none⟩ = some (ptr q) := (hrow7.cellAt j (by omega)).trans (by rw [List.getElem?_map, hq]; rfl)
      have hp7 := (HH.out.ps.prs j q hq).below hb (HH.out.ps.prs j q hq).lt
      have HS := (show Blk w7.drew q.g 115 (rpC q) ∧ Blk w7.drew gm 30 (mgA 13 r t its) from ⟨hp7, hm7⟩)
      have HQ := Lib.hid hq
      clear hb hrow7 hm7 hp7 hq m0 h0
      go_upto_region 5 with fail
      cases hf : (q.r.f.toList == r.f.toList)
      · refine wp_region_noPanic ?_
        refine wp_region_held_drew (S := fun wa => Blk wa q.g 115 (rpC q) ∧ Blk wa gm 30 (mgA 13 r t its)) (by kernel_rfl) HS (fun hHeld => ?_)
        refine wpAnyH_take (i := 0) (oi := ?oisb1) (v := ?vsb1) ?hisb1 (by kernel_rfl) (by kernel_rfl) (by kernel_rfl) (fun _ _ _ h => h) ?hysb1 HS ?restsb1
        case hisb1 => (simp only [List.getElem?_toArray, List.getElem?_cons_zero]; try rfl)
        case hysb1 => (refine Or.inl ⟨by rfl, ?_⟩; intro w hSw; go_simp; (try with_reducible rfl))
        try simp only [Act.put, List.setIfInBounds_toArray, List.set_cons_zero, List.set_cons_succ]
        refine wpAnyH_take (i := 1) (oi := ?oisb2) (v := ?vsb2) ?hisb2 (by kernel_rfl) (by kernel_rfl) (by kernel_rfl) (fun _ _ _ h => h) ?hysb2 HS ?restsb2
        case hisb2 => (simp only [List.getElem?_toArray, List.getElem?_cons_succ, List.getElem?_cons_zero]; try rfl)
        case hysb2 => (refine Or.inl ⟨by rfl, ?_⟩; intro w hSw; go_simp; (try with_reducible rfl))
        try simp only [Act.put, List.setIfInBounds_toArray, List.set_cons_zero, List.set_cons_succ]
        refine wpAnyH_take (i := 2) (oi := ?oisb3) (v := ?vsb3) ?hisb3 (by kernel_rfl) (by kernel_rfl) (by kernel_rfl) (fun _ _ _ h => h) ?hysb3 HS ?restsb3
        case hisb3 => (simp only [List.getElem?_toArray, List.getElem?_cons_succ, List.getElem?_cons_zero]; try rfl)
        case hysb3 => (refine Or.inl ⟨by rfl, ?_⟩; intro w hSw; go_simp; (try with_reducible rfl))
        try simp only [Act.put, List.setIfInBounds_toArray, List.set_cons_zero, List.set_cons_succ]
        refine wpAnyH_take (i := 3) (oi := ?oisb4) (v := ?vsb4) ?hisb4 (by kernel_rfl) (by kernel_rfl) (by kernel_rfl) (fun _ _ _ h => h) ?hysb4 HS ?restsb4
        case hisb4 => (simp only [List.getElem?_toArray, List.getElem?_cons_succ, List.getElem?_cons_zero]; try rfl)
        case hysb4 => (refine Or.inl ⟨by rfl, ?_⟩; intro w hSw; have q := hSw.1.cell 0; go_simp; (try with_reducible rfl))
        try simp only [Act.put, List.setIfInBounds_toArray, List.set_cons_zero, List.set_cons_succ]
        refine wpAnyH_take (i := 4) (oi := ?oisb5) (v := ?vsb5) ?hisb5 (by kernel_rfl) (by kernel_rfl) (by kernel_rfl) (fun _ _ _ h => h) ?hysb5 HS ?restsb5
        case hisb5 => (simp only [List.getElem?_toArray, List.getElem?_cons_succ, List.getElem?_cons_zero]; try rfl)
        case hysb5 => (refine Or.inl ⟨by rfl, ?_⟩; intro w hSw; go_simp; (try with_reducible rfl))
        try simp only [Act.put, List.setIfInBounds_toArray, List.set_cons_zero, List.set_cons_succ]
        refine wpAnyH_take (i := 5) (oi := ?oisb6) (v := ?vsb6) ?hisb6 (by kernel_rfl) (by kernel_rfl) (by kernel_rfl) (fun _ _ _ h => h) ?hysb6 HS ?restsb6
        case hisb6 => (simp only [List.getElem?_toArray, List.getElem?_cons_succ, List.getElem?_cons_zero]; try rfl)
        case hysb6 => (refine Or.inl ⟨by rfl, ?_⟩; intro w hSw; have q := hSw.2.cell 1; go_simp; (try with_reducible rfl))
        try simp only [Act.put, List.setIfInBounds_toArray, List.set_cons_zero, List.set_cons_succ]
        refine wpAnyH_take (i := 6) (oi := ?oisb7) (v := ?vsb7) ?hisb7 (by kernel_rfl) (by kernel_rfl) (by kernel_rfl) (fun _ _ _ h => h) ?hysb7 HS ?restsb7
        case hisb7 => (simp only [List.getElem?_toArray, List.getElem?_cons_succ, List.getElem?_cons_zero]; try rfl)
        case hysb7 => (refine Or.inl ⟨by rfl, ?_⟩; intro w hSw; go_simp; (try with_reducible rfl))
        try simp only [Act.put, List.setIfInBounds_toArray, List.set_cons_zero, List.set_cons_succ]
        refine wpAnyH_take (i := 7) (oi := ?oisb8) (v := ?vsb8) ?hisb8 (by kernel_rfl) (by kernel_rfl) (by kernel_rfl) (fun _ _ _ h => h) ?hysb8 HS ?restsb8
        case hisb8 => (simp only [List.getElem?_toArray, List.getElem?_cons_succ, List.getElem?_cons_zero]; try rfl)
        case hysb8 => (refine Or.inl ⟨by rfl, ?_⟩; intro w hSw; go_simp; (try with_reducible rfl))
        try simp only [Act.put, List.setIfInBounds_toArray, List.set_cons_zero, List.set_cons_succ]
        refine wpAnyH_take (i := 8) (oi := ?oisb9) (v := undef) ?hisb9 (by kernel_rfl) (by kernel_rfl) (by kernel_rfl) (fun _ _ _ h => h) ?hysb9 HS ?restsb9
        case hisb9 => (simp only [List.getElem?_toArray, List.getElem?_cons_succ, List.getElem?_cons_zero]; try rfl)
        case hysb9 => exact Or.inr ⟨by rfl, rfl⟩
        try simp only [Act.put, List.setIfInBounds_toArray, List.set_cons_zero, List.set_cons_succ]
        refine wpAnyH_take (i := 9) (oi := ?oisb10) (v := undef) ?hisb10 (by kernel_rfl) (by kernel_rfl) (by kernel_rfl) (fun _ _ _ h => h) ?hysb10 HS ?restsb10
        case hisb10 => (simp only [List.getElem?_toArray, List.getElem?_cons_succ, List.getElem?_cons_zero]; try rfl)
        case hysb10 => exact Or.inr ⟨by rfl, rfl⟩
        try simp only [Act.put, List.setIfInBounds_toArray, List.set_cons_zero, List.set_cons_succ]
        refine wpAnyH_take (i := 10) (oi := ?oisb11) (v := undef) ?hisb11 (by kernel_rfl) (by kernel_rfl) (by kernel_rfl) (fun _ _ _ h => h) ?hysb11 HS ?restsb11
        case hisb11 => (simp only [List.getElem?_toArray, List.getElem?_cons_succ, List.getElem?_cons_zero]; try rfl)
        case hysb11 => exact Or.inr ⟨by rfl, rfl⟩
        try simp only [Act.put, List.setIfInBounds_toArray, List.set_cons_zero, List.set_cons_succ]
        refine wpAnyH_take (i := 11) (oi := ?oisb12) (v := undef) ?hisb12 (by kernel_rfl) (by kernel_rfl) (by kernel_rfl) (fun _ _ _ h => h) ?hysb12 HS ?restsb12
        case hisb12 => (simp only [List.getElem?_toArray, List.getElem?_cons_succ, List.getElem?_cons_zero]; try rfl)
        case hysb12 => exact Or.inr ⟨by rfl, rfl⟩
        try simp only [Act.put, List.setIfInBounds_toArray, List.set_cons_zero, List.set_cons_succ]
        refine wpAnyH_take (i := 12) (oi := ?oisb13) (v := undef) ?hisb13 (by kernel_rfl) (by kernel_rfl) (by kernel_rfl) (fun _ _ _ h => h) ?hysb13 HS ?restsb13
        case hisb13 => (simp only [List.getElem?_toArray, List.getElem?_cons_succ, List.getElem?_cons_zero]; try rfl)
        case hysb13 => exact Or.inr ⟨by rfl, rfl⟩
        try simp only [Act.put, List.setIfInBounds_toArray, List.set_cons_zero, List.set_cons_succ]
        refine wpAnyH_take (i := 13) (oi := ?oisb14) (v := undef) ?hisb14 (by kernel_rfl) (by kernel_rfl) (by kernel_rfl) (fun _ _ _ h => h) ?hysb14 HS ?restsb14
        case hisb14 => (simp only [List.getElem?_toArray, List.getElem?_cons_succ, List.getElem?_cons_zero]; try rfl)
        case hysb14 => exact Or.inr ⟨by rfl, rfl⟩
        try simp only [Act.put, List.setIfInBounds_toArray, List.set_cons_zero, List.set_cons_succ]
        refine wpAnyH_take (i := 14) (oi := ?oisb15) (v := undef) ?hisb15 (by kernel_rfl) (by kernel_rfl) (by kernel_rfl) (fun _ _ _ h => h) ?hysb15 HS ?restsb15
        case hisb15 => (simp only [List.getElem?_toArray, List.getElem?_cons_succ, List.getElem?_cons_zero]; try rfl)
        case hysb15 => exact Or.inr ⟨by rfl, rfl⟩
        try simp only [Act.put, List.setIfInBounds_toArray, List.set_cons_zero, List.set_cons_succ]
        refine wpAnyH_take (i := 15) (oi := ?oisb16) (v := ?vsb16) ?hisb16 (by kernel_rfl) (by kernel_rfl) (by kernel_rfl) (fun _ _ _ h => h) ?hysb16 HS ?restsb16
        case hisb16 => (simp only [List.getElem?_toArray, List.getElem?_cons_succ, List.getElem?_cons_zero]; try rfl)
        case hysb16 => (refine Or.inl ⟨by rfl, ?_⟩; intro w hSw; go_simp; (try with_reducible rfl))
        try simp only [Act.put, List.setIfInBounds_toArray, List.set_cons_zero, List.set_cons_succ]
        refine wpAnyH_take (i := 16) (oi := ?oisb17) (v := ?vsb17) ?hisb17 (by kernel_rfl) (by kernel_rfl) (by kernel_rfl) (fun _ _ _ h => h) ?hysb17 HS ?restsb17
        case hisb17 => (simp only [List.getElem?_toArray, List.getElem?_cons_succ, List.getElem?_cons_zero]; try rfl)
        case hysb17 => (refine Or.inl ⟨by rfl, ?_⟩; intro w hSw; go_simp; (try with_reducible rfl))
        try simp only [Act.put, List.setIfInBounds_toArray, List.set_cons_zero, List.set_cons_succ]
        refine wpAnyH_take (i := 17) (oi := ?oisb18) (v := undef) ?hisb18 (by kernel_rfl) (by kernel_rfl) (by kernel_rfl) (fun _ _ _ h => h) ?hysb18 HS ?restsb18
        case hisb18 => (simp only [List.getElem?_toArray, List.getElem?_cons_succ, List.getElem?_cons_zero]; try rfl)
        case hysb18 => exact Or.inr ⟨by rfl, rfl⟩
        try simp only [Act.put, List.setIfInBounds_toArray, List.set_cons_zero, List.set_cons_succ]
        refine wpAnyH_take (i := 18) (oi := ?oisb19) (v := undef) ?hisb19 (by kernel_rfl) (by kernel_rfl) (by kernel_rfl) (fun _ _ _ h => h) ?hysb19 HS ?restsb19
        case hisb19 => (simp only [List.getElem?_toArray, List.getElem?_cons_succ, List.getElem?_cons_zero]; try rfl)
        case hysb19 => exact Or.inr ⟨by rfl, rfl⟩
        try simp only [Act.put, List.setIfInBounds_toArray, List.set_cons_zero, List.set_cons_succ]
        refine wpAnyH_take (i := 19) (oi := ?oisb20) (v := undef) ?hisb20 (by kernel_rfl) (by kernel_rfl) (by kernel_rfl) (fun _ _ _ h => h) ?hysb20 HS ?restsb20
        case hisb20 => (simp only [List.getElem?_toArray, List.getElem?_cons_succ, List.getElem?_cons_zero]; try rfl)
        case hysb20 => exact Or.inr ⟨by rfl, rfl⟩
        try simp only [Act.put, List.setIfInBounds_toArray, List.set_cons_zero, List.set_cons_succ]
        refine wpAnyH_take (i := 20) (oi := ?oisb21) (v := undef) ?hisb21 (by kernel_rfl) (by kernel_rfl) (by kernel_rfl) (fun _ _ _ h => h) ?hysb21 HS ?restsb21
        case hisb21 => (simp only [List.getElem?_toArray, List.getElem?_cons_succ, List.getElem?_cons_zero]; try rfl)
        case hysb21 => exact Or.inr ⟨by rfl, rfl⟩
        try simp only [Act.put, List.setIfInBounds_toArray, List.set_cons_zero, List.set_cons_succ]
        refine wpAnyH_take (i := 21) (oi := ?oisb22) (v := undef) ?hisb22 (by kernel_rfl) (by kernel_rfl) (by kernel_rfl) (fun _ _ _ h => h) ?hysb22 HS ?restsb22
        case hisb22 => (simp only [List.getElem?_toArray, List.getElem?_cons_succ, List.getElem?_cons_zero]; try rfl)
        case hysb22 => exact Or.inr ⟨by rfl, rfl⟩
        try simp only [Act.put, List.setIfInBounds_toArray, List.set_cons_zero, List.set_cons_succ]
        refine wpAnyH_take (i := 22) (oi := ?oisb23) (v := undef) ?hisb23 (by kernel_rfl) (by kernel_rfl) (by kernel_rfl) (fun _ _ _ h => h) ?hysb23 HS ?restsb23
        case hisb23 => (simp only [List.getElem?_toArray, List.getElem?_cons_succ, List.getElem?_cons_zero]; try rfl)
        case hysb23 => exact Or.inr ⟨by rfl, rfl⟩
        try simp only [Act.put, List.setIfInBounds_toArray, List.set_cons_zero, List.set_cons_succ]
        refine wpAnyH_take (i := 23) (oi := ?oisb24) (v := undef) ?hisb24 (by kernel_rfl) (by kernel_rfl) (by kernel_rfl) (fun _ _ _ h => h) ?hysb24 HS ?restsb24
        case hisb24 => (simp only [List.getElem?_toArray, List.getElem?_cons_succ, List.getElem?_cons_zero]; try rfl)
        case hysb24 => exact Or.inr ⟨by rfl, rfl⟩
        try simp only [Act.put, List.setIfInBounds_toArray, List.set_cons_zero, List.set_cons_succ]
        refine wpAnyH_take (i := 24) (oi := ?oisb25) (v := ?vsb25) ?hisb25 (by kernel_rfl) (by kernel_rfl) (by kernel_rfl) (fun _ _ _ h => h) ?hysb25 HS ?restsb25
        case hisb25 => (simp only [List.getElem?_toArray, List.getElem?_cons_succ, List.getElem?_cons_zero]; try rfl)
        case hysb25 => (refine Or.inl ⟨by rfl, ?_⟩; intro w hSw; go_simp; (try with_reducible rfl))
        try simp only [Act.put, List.setIfInBounds_toArray, List.set_cons_zero, List.set_cons_succ]
        refine wpAnyH_done (by kernel_rfl) ?_ _
        refine NoPanic.normal ?_
        clear HS
        go_wp2_with fail
        refine ⟨?_, by simp [intOf]; omega⟩
        refine Lib.hid ⟨j + 1, by simp, by omega, fun m y hm hy => ?_, HB.out.drew, _, rfl⟩
        rcases Nat.lt_or_ge m j with e | e
        · exact HNO.out m y e hy
        · obtain rfl : m = j := by omega
          rw [HQ.out] at hy
          injection hy with hy
          rw [← hy]
          intro e
          have := rkB_yes e
          simp [rkB, hf] at this
      · cases he : (q.r.e.toList == r.e.toList)
        · refine wp_region_noPanic ?_
          refine wp_region_held_drew (S := fun wa => Blk wa q.g 115 (rpC q) ∧ Blk wa gm 30 (mgA 13 r t its)) (by kernel_rfl) HS (fun hHeld => ?_)
          refine wpAnyH_take (i := 0) (oi := ?oisc1) (v := ?vsc1) ?hisc1 (by kernel_rfl) (by kernel_rfl) (by kernel_rfl) (fun _ _ _ h => h) ?hysc1 HS ?restsc1
          case hisc1 => (simp only [List.getElem?_toArray, List.getElem?_cons_zero]; try rfl)
          case hysc1 => (refine Or.inl ⟨by rfl, ?_⟩; intro w hSw; go_simp; (try with_reducible rfl))
          try simp only [Act.put, List.setIfInBounds_toArray, List.set_cons_zero, List.set_cons_succ]
          refine wpAnyH_take (i := 1) (oi := ?oisc2) (v := ?vsc2) ?hisc2 (by kernel_rfl) (by kernel_rfl) (by kernel_rfl) (fun _ _ _ h => h) ?hysc2 HS ?restsc2
          case hisc2 => (simp only [List.getElem?_toArray, List.getElem?_cons_succ, List.getElem?_cons_zero]; try rfl)
          case hysc2 => (refine Or.inl ⟨by rfl, ?_⟩; intro w hSw; go_simp; (try with_reducible rfl))
          try simp only [Act.put, List.setIfInBounds_toArray, List.set_cons_zero, List.set_cons_succ]
          refine wpAnyH_take (i := 2) (oi := ?oisc3) (v := ?vsc3) ?hisc3 (by kernel_rfl) (by kernel_rfl) (by kernel_rfl) (fun _ _ _ h => h) ?hysc3 HS ?restsc3
          case hisc3 => (simp only [List.getElem?_toArray, List.getElem?_cons_succ, List.getElem?_cons_zero]; try rfl)
          case hysc3 => (refine Or.inl ⟨by rfl, ?_⟩; intro w hSw; go_simp; (try with_reducible rfl))
          try simp only [Act.put, List.setIfInBounds_toArray, List.set_cons_zero, List.set_cons_succ]
          refine wpAnyH_take (i := 3) (oi := ?oisc4) (v := ?vsc4) ?hisc4 (by kernel_rfl) (by kernel_rfl) (by kernel_rfl) (fun _ _ _ h => h) ?hysc4 HS ?restsc4
          case hisc4 => (simp only [List.getElem?_toArray, List.getElem?_cons_succ, List.getElem?_cons_zero]; try rfl)
          case hysc4 => (refine Or.inl ⟨by rfl, ?_⟩; intro w hSw; have q := hSw.1.cell 0; go_simp; (try with_reducible rfl))
          try simp only [Act.put, List.setIfInBounds_toArray, List.set_cons_zero, List.set_cons_succ]
          refine wpAnyH_take (i := 4) (oi := ?oisc5) (v := ?vsc5) ?hisc5 (by kernel_rfl) (by kernel_rfl) (by kernel_rfl) (fun _ _ _ h => h) ?hysc5 HS ?restsc5
          case hisc5 => (simp only [List.getElem?_toArray, List.getElem?_cons_succ, List.getElem?_cons_zero]; try rfl)
          case hysc5 => (refine Or.inl ⟨by rfl, ?_⟩; intro w hSw; go_simp; (try with_reducible rfl))
          try simp only [Act.put, List.setIfInBounds_toArray, List.set_cons_zero, List.set_cons_succ]
          refine wpAnyH_take (i := 5) (oi := ?oisc6) (v := ?vsc6) ?hisc6 (by kernel_rfl) (by kernel_rfl) (by kernel_rfl) (fun _ _ _ h => h) ?hysc6 HS ?restsc6
          case hisc6 => (simp only [List.getElem?_toArray, List.getElem?_cons_succ, List.getElem?_cons_zero]; try rfl)
          case hysc6 => (refine Or.inl ⟨by rfl, ?_⟩; intro w hSw; have q := hSw.2.cell 1; go_simp; (try with_reducible rfl))
          try simp only [Act.put, List.setIfInBounds_toArray, List.set_cons_zero, List.set_cons_succ]
          refine wpAnyH_take (i := 6) (oi := ?oisc7) (v := ?vsc7) ?hisc7 (by kernel_rfl) (by kernel_rfl) (by kernel_rfl) (fun _ _ _ h => h) ?hysc7 HS ?restsc7
          case hisc7 => (simp only [List.getElem?_toArray, List.getElem?_cons_succ, List.getElem?_cons_zero]; try rfl)
          case hysc7 => (refine Or.inl ⟨by rfl, ?_⟩; intro w hSw; go_simp; (try with_reducible rfl))
          try simp only [Act.put, List.setIfInBounds_toArray, List.set_cons_zero, List.set_cons_succ]
          refine wpAnyH_take (i := 7) (oi := ?oisc8) (v := ?vsc8) ?hisc8 (by kernel_rfl) (by kernel_rfl) (by kernel_rfl) (fun _ _ _ h => h) ?hysc8 HS ?restsc8
          case hisc8 => (simp only [List.getElem?_toArray, List.getElem?_cons_succ, List.getElem?_cons_zero]; try rfl)
          case hysc8 => (refine Or.inl ⟨by rfl, ?_⟩; intro w hSw; go_simp; (try with_reducible rfl))
          try simp only [Act.put, List.setIfInBounds_toArray, List.set_cons_zero, List.set_cons_succ]
          refine wpAnyH_take (i := 8) (oi := ?oisc9) (v := ?vsc9) ?hisc9 (by kernel_rfl) (by kernel_rfl) (by kernel_rfl) (fun _ _ _ h => h) ?hysc9 HS ?restsc9
          case hisc9 => (simp only [List.getElem?_toArray, List.getElem?_cons_succ, List.getElem?_cons_zero]; try rfl)
          case hysc9 => (refine Or.inl ⟨by rfl, ?_⟩; intro w hSw; go_simp; (try with_reducible rfl))
          try simp only [Act.put, List.setIfInBounds_toArray, List.set_cons_zero, List.set_cons_succ]
          refine wpAnyH_take (i := 9) (oi := ?oisc10) (v := ?vsc10) ?hisc10 (by kernel_rfl) (by kernel_rfl) (by kernel_rfl) (fun _ _ _ h => h) ?hysc10 HS ?restsc10
          case hisc10 => (simp only [List.getElem?_toArray, List.getElem?_cons_succ, List.getElem?_cons_zero]; try rfl)
          case hysc10 => (refine Or.inl ⟨by rfl, ?_⟩; intro w hSw; go_simp; (try with_reducible rfl))
          try simp only [Act.put, List.setIfInBounds_toArray, List.set_cons_zero, List.set_cons_succ]
          refine wpAnyH_take (i := 10) (oi := ?oisc11) (v := ?vsc11) ?hisc11 (by kernel_rfl) (by kernel_rfl) (by kernel_rfl) (fun _ _ _ h => h) ?hysc11 HS ?restsc11
          case hisc11 => (simp only [List.getElem?_toArray, List.getElem?_cons_succ, List.getElem?_cons_zero]; try rfl)
          case hysc11 => (refine Or.inl ⟨by rfl, ?_⟩; intro w hSw; go_simp; (try with_reducible rfl))
          try simp only [Act.put, List.setIfInBounds_toArray, List.set_cons_zero, List.set_cons_succ]
          refine wpAnyH_take (i := 11) (oi := ?oisc12) (v := ?vsc12) ?hisc12 (by kernel_rfl) (by kernel_rfl) (by kernel_rfl) (fun _ _ _ h => h) ?hysc12 HS ?restsc12
          case hisc12 => (simp only [List.getElem?_toArray, List.getElem?_cons_succ, List.getElem?_cons_zero]; try rfl)
          case hysc12 => (refine Or.inl ⟨by rfl, ?_⟩; intro w hSw; have q := hSw.1.cell 1; go_simp; (try with_reducible rfl))
          try simp only [Act.put, List.setIfInBounds_toArray, List.set_cons_zero, List.set_cons_succ]
          refine wpAnyH_take (i := 12) (oi := ?oisc13) (v := ?vsc13) ?hisc13 (by kernel_rfl) (by kernel_rfl) (by kernel_rfl) (fun _ _ _ h => h) ?hysc13 HS ?restsc13
          case hisc13 => (simp only [List.getElem?_toArray, List.getElem?_cons_succ, List.getElem?_cons_zero]; try rfl)
          case hysc13 => (refine Or.inl ⟨by rfl, ?_⟩; intro w hSw; go_simp; (try with_reducible rfl))
          try simp only [Act.put, List.setIfInBounds_toArray, List.set_cons_zero, List.set_cons_succ]
          refine wpAnyH_take (i := 13) (oi := ?oisc14) (v := ?vsc14) ?hisc14 (by kernel_rfl) (by kernel_rfl) (by kernel_rfl) (fun _ _ _ h => h) ?hysc14 HS ?restsc14
          case hisc14 => (simp only [List.getElem?_toArray, List.getElem?_cons_succ, List.getElem?_cons_zero]; try rfl)
          case hysc14 => (refine Or.inl ⟨by rfl, ?_⟩; intro w hSw; have q := hSw.2.cell 2; go_simp; (try with_reducible rfl))
          try simp only [Act.put, List.setIfInBounds_toArray, List.set_cons_zero, List.set_cons_succ]
          refine wpAnyH_take (i := 14) (oi := ?oisc15) (v := ?vsc15) ?hisc15 (by kernel_rfl) (by kernel_rfl) (by kernel_rfl) (fun _ _ _ h => h) ?hysc15 HS ?restsc15
          case hisc15 => (simp only [List.getElem?_toArray, List.getElem?_cons_succ, List.getElem?_cons_zero]; try rfl)
          case hysc15 => (refine Or.inl ⟨by rfl, ?_⟩; intro w hSw; go_simp; (try with_reducible rfl))
          try simp only [Act.put, List.setIfInBounds_toArray, List.set_cons_zero, List.set_cons_succ]
          refine wpAnyH_take (i := 15) (oi := ?oisc16) (v := ?vsc16) ?hisc16 (by kernel_rfl) (by kernel_rfl) (by kernel_rfl) (fun _ _ _ h => h) ?hysc16 HS ?restsc16
          case hisc16 => (simp only [List.getElem?_toArray, List.getElem?_cons_succ, List.getElem?_cons_zero]; try rfl)
          case hysc16 => (refine Or.inl ⟨by rfl, ?_⟩; intro w hSw; go_simp; (try with_reducible rfl))
          try simp only [Act.put, List.setIfInBounds_toArray, List.set_cons_zero, List.set_cons_succ]
          refine wpAnyH_take (i := 16) (oi := ?oisc17) (v := ?vsc17) ?hisc17 (by kernel_rfl) (by kernel_rfl) (by kernel_rfl) (fun _ _ _ h => h) ?hysc17 HS ?restsc17
          case hisc17 => (simp only [List.getElem?_toArray, List.getElem?_cons_succ, List.getElem?_cons_zero]; try rfl)
          case hysc17 => (refine Or.inl ⟨by rfl, ?_⟩; intro w hSw; go_simp; (try with_reducible rfl))
          try simp only [Act.put, List.setIfInBounds_toArray, List.set_cons_zero, List.set_cons_succ]
          refine wpAnyH_take (i := 17) (oi := ?oisc18) (v := undef) ?hisc18 (by kernel_rfl) (by kernel_rfl) (by kernel_rfl) (fun _ _ _ h => h) ?hysc18 HS ?restsc18
          case hisc18 => (simp only [List.getElem?_toArray, List.getElem?_cons_succ, List.getElem?_cons_zero]; try rfl)
          case hysc18 => exact Or.inr ⟨by rfl, rfl⟩
          try simp only [Act.put, List.setIfInBounds_toArray, List.set_cons_zero, List.set_cons_succ]
          refine wpAnyH_take (i := 18) (oi := ?oisc19) (v := undef) ?hisc19 (by kernel_rfl) (by kernel_rfl) (by kernel_rfl) (fun _ _ _ h => h) ?hysc19 HS ?restsc19
          case hisc19 => (simp only [List.getElem?_toArray, List.getElem?_cons_succ, List.getElem?_cons_zero]; try rfl)
          case hysc19 => exact Or.inr ⟨by rfl, rfl⟩
          try simp only [Act.put, List.setIfInBounds_toArray, List.set_cons_zero, List.set_cons_succ]
          refine wpAnyH_take (i := 19) (oi := ?oisc20) (v := undef) ?hisc20 (by kernel_rfl) (by kernel_rfl) (by kernel_rfl) (fun _ _ _ h => h) ?hysc20 HS ?restsc20
          case hisc20 => (simp only [List.getElem?_toArray, List.getElem?_cons_succ, List.getElem?_cons_zero]; try rfl)
          case hysc20 => exact Or.inr ⟨by rfl, rfl⟩
          try simp only [Act.put, List.setIfInBounds_toArray, List.set_cons_zero, List.set_cons_succ]
          refine wpAnyH_take (i := 20) (oi := ?oisc21) (v := undef) ?hisc21 (by kernel_rfl) (by kernel_rfl) (by kernel_rfl) (fun _ _ _ h => h) ?hysc21 HS ?restsc21
          case hisc21 => (simp only [List.getElem?_toArray, List.getElem?_cons_succ, List.getElem?_cons_zero]; try rfl)
          case hysc21 => exact Or.inr ⟨by rfl, rfl⟩
          try simp only [Act.put, List.setIfInBounds_toArray, List.set_cons_zero, List.set_cons_succ]
          refine wpAnyH_take (i := 21) (oi := ?oisc22) (v := undef) ?hisc22 (by kernel_rfl) (by kernel_rfl) (by kernel_rfl) (fun _ _ _ h => h) ?hysc22 HS ?restsc22
          case hisc22 => (simp only [List.getElem?_toArray, List.getElem?_cons_succ, List.getElem?_cons_zero]; try rfl)
          case hysc22 => exact Or.inr ⟨by rfl, rfl⟩
          try simp only [Act.put, List.setIfInBounds_toArray, List.set_cons_zero, List.set_cons_succ]
          refine wpAnyH_take (i := 22) (oi := ?oisc23) (v := undef) ?hisc23 (by kernel_rfl) (by kernel_rfl) (by kernel_rfl) (fun _ _ _ h => h) ?hysc23 HS ?restsc23
          case hisc23 => (simp only [List.getElem?_toArray, List.getElem?_cons_succ, List.getElem?_cons_zero]; try rfl)
          case hysc23 => exact Or.inr ⟨by rfl, rfl⟩
          try simp only [Act.put, List.setIfInBounds_toArray, List.set_cons_zero, List.set_cons_succ]
          refine wpAnyH_take (i := 23) (oi := ?oisc24) (v := undef) ?hisc24 (by kernel_rfl) (by kernel_rfl) (by kernel_rfl) (fun _ _ _ h => h) ?hysc24 HS ?restsc24
          case hisc24 => (simp only [List.getElem?_toArray, List.getElem?_cons_succ, List.getElem?_cons_zero]; try rfl)
          case hysc24 => exact Or.inr ⟨by rfl, rfl⟩
          try simp only [Act.put, List.setIfInBounds_toArray, List.set_cons_zero, List.set_cons_succ]
          refine wpAnyH_take (i := 24) (oi := ?oisc25) (v := ?vsc25) ?hisc25 (by kernel_rfl) (by kernel_rfl) (by kernel_rfl) (fun _ _ _ h => h) ?hysc25 HS ?restsc25
          case hisc25 => (simp only [List.getElem?_toArray, List.getElem?_cons_succ, List.getElem?_cons_zero]; try rfl)
          case hysc25 => (refine Or.inl ⟨by rfl, ?_⟩; intro w hSw; go_simp; (try with_reducible rfl))
          try simp only [Act.put, List.setIfInBounds_toArray, List.set_cons_zero, List.set_cons_succ]
          refine wpAnyH_done (by kernel_rfl) ?_ _
          refine NoPanic.normal ?_
          clear HS
          go_wp2_with fail
          refine ⟨?_, by simp [intOf]; omega⟩
          refine Lib.hid ⟨j + 1, by simp, by omega, fun m y hm hy => ?_, HB.out.drew, _, rfl⟩
          rcases Nat.lt_or_ge m j with e | e
          · exact HNO.out m y e hy
          · obtain rfl : m = j := by omega
            rw [HQ.out] at hy
            injection hy with hy
            rw [← hy]
            intro e
            have := rkB_yes e
            simp [rkB, he] at this
        · cases hn : (q.r.n == r.n)
          · refine wp_region_noPanic ?_
            refine wp_region_held_drew (S := fun wa => Blk wa q.g 115 (rpC q) ∧ Blk wa gm 30 (mgA 13 r t its)) (by kernel_rfl) HS (fun hHeld => ?_)
            refine wpAnyH_take (i := 0) (oi := ?oisd1) (v := ?vsd1) ?hisd1 (by kernel_rfl) (by kernel_rfl) (by kernel_rfl) (fun _ _ _ h => h) ?hysd1 HS ?restsd1
            case hisd1 => (simp only [List.getElem?_toArray, List.getElem?_cons_zero]; try rfl)
            case hysd1 => (refine Or.inl ⟨by rfl, ?_⟩; intro w hSw; go_simp; (try with_reducible rfl))
            try simp only [Act.put, List.setIfInBounds_toArray, List.set_cons_zero, List.set_cons_succ]
            refine wpAnyH_take (i := 1) (oi := ?oisd2) (v := ?vsd2) ?hisd2 (by kernel_rfl) (by kernel_rfl) (by kernel_rfl) (fun _ _ _ h => h) ?hysd2 HS ?restsd2
            case hisd2 => (simp only [List.getElem?_toArray, List.getElem?_cons_succ, List.getElem?_cons_zero]; try rfl)
            case hysd2 => (refine Or.inl ⟨by rfl, ?_⟩; intro w hSw; go_simp; (try with_reducible rfl))
            try simp only [Act.put, List.setIfInBounds_toArray, List.set_cons_zero, List.set_cons_succ]
            refine wpAnyH_take (i := 2) (oi := ?oisd3) (v := ?vsd3) ?hisd3 (by kernel_rfl) (by kernel_rfl) (by kernel_rfl) (fun _ _ _ h => h) ?hysd3 HS ?restsd3
            case hisd3 => (simp only [List.getElem?_toArray, List.getElem?_cons_succ, List.getElem?_cons_zero]; try rfl)
            case hysd3 => (refine Or.inl ⟨by rfl, ?_⟩; intro w hSw; go_simp; (try with_reducible rfl))
            try simp only [Act.put, List.setIfInBounds_toArray, List.set_cons_zero, List.set_cons_succ]
            refine wpAnyH_take (i := 3) (oi := ?oisd4) (v := ?vsd4) ?hisd4 (by kernel_rfl) (by kernel_rfl) (by kernel_rfl) (fun _ _ _ h => h) ?hysd4 HS ?restsd4
            case hisd4 => (simp only [List.getElem?_toArray, List.getElem?_cons_succ, List.getElem?_cons_zero]; try rfl)
            case hysd4 => (refine Or.inl ⟨by rfl, ?_⟩; intro w hSw; have q := hSw.1.cell 0; go_simp; (try with_reducible rfl))
            try simp only [Act.put, List.setIfInBounds_toArray, List.set_cons_zero, List.set_cons_succ]
            refine wpAnyH_take (i := 4) (oi := ?oisd5) (v := ?vsd5) ?hisd5 (by kernel_rfl) (by kernel_rfl) (by kernel_rfl) (fun _ _ _ h => h) ?hysd5 HS ?restsd5
            case hisd5 => (simp only [List.getElem?_toArray, List.getElem?_cons_succ, List.getElem?_cons_zero]; try rfl)
            case hysd5 => (refine Or.inl ⟨by rfl, ?_⟩; intro w hSw; go_simp; (try with_reducible rfl))
            try simp only [Act.put, List.setIfInBounds_toArray, List.set_cons_zero, List.set_cons_succ]
            refine wpAnyH_take (i := 5) (oi := ?oisd6) (v := ?vsd6) ?hisd6 (by kernel_rfl) (by kernel_rfl) (by kernel_rfl) (fun _ _ _ h => h) ?hysd6 HS ?restsd6
            case hisd6 => (simp only [List.getElem?_toArray, List.getElem?_cons_succ, List.getElem?_cons_zero]; try rfl)
            case hysd6 => (refine Or.inl ⟨by rfl, ?_⟩; intro w hSw; have q := hSw.2.cell 1; go_simp; (try with_reducible rfl))
            try simp only [Act.put, List.setIfInBounds_toArray, List.set_cons_zero, List.set_cons_succ]
            refine wpAnyH_take (i := 6) (oi := ?oisd7) (v := ?vsd7) ?hisd7 (by kernel_rfl) (by kernel_rfl) (by kernel_rfl) (fun _ _ _ h => h) ?hysd7 HS ?restsd7
            case hisd7 => (simp only [List.getElem?_toArray, List.getElem?_cons_succ, List.getElem?_cons_zero]; try rfl)
            case hysd7 => (refine Or.inl ⟨by rfl, ?_⟩; intro w hSw; go_simp; (try with_reducible rfl))
            try simp only [Act.put, List.setIfInBounds_toArray, List.set_cons_zero, List.set_cons_succ]
            refine wpAnyH_take (i := 7) (oi := ?oisd8) (v := ?vsd8) ?hisd8 (by kernel_rfl) (by kernel_rfl) (by kernel_rfl) (fun _ _ _ h => h) ?hysd8 HS ?restsd8
            case hisd8 => (simp only [List.getElem?_toArray, List.getElem?_cons_succ, List.getElem?_cons_zero]; try rfl)
            case hysd8 => (refine Or.inl ⟨by rfl, ?_⟩; intro w hSw; go_simp; (try with_reducible rfl))
            try simp only [Act.put, List.setIfInBounds_toArray, List.set_cons_zero, List.set_cons_succ]
            refine wpAnyH_take (i := 8) (oi := ?oisd9) (v := ?vsd9) ?hisd9 (by kernel_rfl) (by kernel_rfl) (by kernel_rfl) (fun _ _ _ h => h) ?hysd9 HS ?restsd9
            case hisd9 => (simp only [List.getElem?_toArray, List.getElem?_cons_succ, List.getElem?_cons_zero]; try rfl)
            case hysd9 => (refine Or.inl ⟨by rfl, ?_⟩; intro w hSw; go_simp; (try with_reducible rfl))
            try simp only [Act.put, List.setIfInBounds_toArray, List.set_cons_zero, List.set_cons_succ]
            refine wpAnyH_take (i := 9) (oi := ?oisd10) (v := ?vsd10) ?hisd10 (by kernel_rfl) (by kernel_rfl) (by kernel_rfl) (fun _ _ _ h => h) ?hysd10 HS ?restsd10
            case hisd10 => (simp only [List.getElem?_toArray, List.getElem?_cons_succ, List.getElem?_cons_zero]; try rfl)
            case hysd10 => (refine Or.inl ⟨by rfl, ?_⟩; intro w hSw; go_simp; (try with_reducible rfl))
            try simp only [Act.put, List.setIfInBounds_toArray, List.set_cons_zero, List.set_cons_succ]
            refine wpAnyH_take (i := 10) (oi := ?oisd11) (v := ?vsd11) ?hisd11 (by kernel_rfl) (by kernel_rfl) (by kernel_rfl) (fun _ _ _ h => h) ?hysd11 HS ?restsd11
            case hisd11 => (simp only [List.getElem?_toArray, List.getElem?_cons_succ, List.getElem?_cons_zero]; try rfl)
            case hysd11 => (refine Or.inl ⟨by rfl, ?_⟩; intro w hSw; go_simp; (try with_reducible rfl))
            try simp only [Act.put, List.setIfInBounds_toArray, List.set_cons_zero, List.set_cons_succ]
            refine wpAnyH_take (i := 11) (oi := ?oisd12) (v := ?vsd12) ?hisd12 (by kernel_rfl) (by kernel_rfl) (by kernel_rfl) (fun _ _ _ h => h) ?hysd12 HS ?restsd12
            case hisd12 => (simp only [List.getElem?_toArray, List.getElem?_cons_succ, List.getElem?_cons_zero]; try rfl)
            case hysd12 => (refine Or.inl ⟨by rfl, ?_⟩; intro w hSw; have q := hSw.1.cell 1; go_simp; (try with_reducible rfl))
            try simp only [Act.put, List.setIfInBounds_toArray, List.set_cons_zero, List.set_cons_succ]
            refine wpAnyH_take (i := 12) (oi := ?oisd13) (v := ?vsd13) ?hisd13 (by kernel_rfl) (by kernel_rfl) (by kernel_rfl) (fun _ _ _ h => h) ?hysd13 HS ?restsd13
            case hisd13 => (simp only [List.getElem?_toArray, List.getElem?_cons_succ, List.getElem?_cons_zero]; try rfl)
            case hysd13 => (refine Or.inl ⟨by rfl, ?_⟩; intro w hSw; go_simp; (try with_reducible rfl))
            try simp only [Act.put, List.setIfInBounds_toArray, List.set_cons_zero, List.set_cons_succ]
            refine wpAnyH_take (i := 13) (oi := ?oisd14) (v := ?vsd14) ?hisd14 (by kernel_rfl) (by kernel_rfl) (by kernel_rfl) (fun _ _ _ h => h) ?hysd14 HS ?restsd14
            case hisd14 => (simp only [List.getElem?_toArray, List.getElem?_cons_succ, List.getElem?_cons_zero]; try rfl)
            case hysd14 => (refine Or.inl ⟨by rfl, ?_⟩; intro w hSw; have q := hSw.2.cell 2; go_simp; (try with_reducible rfl))
            try simp only [Act.put, List.setIfInBounds_toArray, List.set_cons_zero, List.set_cons_succ]
            refine wpAnyH_take (i := 14) (oi := ?oisd15) (v := ?vsd15) ?hisd15 (by kernel_rfl) (by kernel_rfl) (by kernel_rfl) (fun _ _ _ h => h) ?hysd15 HS ?restsd15
            case hisd15 => (simp only [List.getElem?_toArray, List.getElem?_cons_succ, List.getElem?_cons_zero]; try rfl)
            case hysd15 => (refine Or.inl ⟨by rfl, ?_⟩; intro w hSw; go_simp; (try with_reducible rfl))
            try simp only [Act.put, List.setIfInBounds_toArray, List.set_cons_zero, List.set_cons_succ]
            refine wpAnyH_take (i := 15) (oi := ?oisd16) (v := ?vsd16) ?hisd16 (by kernel_rfl) (by kernel_rfl) (by kernel_rfl) (fun _ _ _ h => h) ?hysd16 HS ?restsd16
            case hisd16 => (simp only [List.getElem?_toArray, List.getElem?_cons_succ, List.getElem?_cons_zero]; try rfl)
            case hysd16 => (refine Or.inl ⟨by rfl, ?_⟩; intro w hSw; go_simp; (try with_reducible rfl))
            try simp only [Act.put, List.setIfInBounds_toArray, List.set_cons_zero, List.set_cons_succ]
            refine wpAnyH_take (i := 16) (oi := ?oisd17) (v := ?vsd17) ?hisd17 (by kernel_rfl) (by kernel_rfl) (by kernel_rfl) (fun _ _ _ h => h) ?hysd17 HS ?restsd17
            case hisd17 => (simp only [List.getElem?_toArray, List.getElem?_cons_succ, List.getElem?_cons_zero]; try rfl)
            case hysd17 => (refine Or.inl ⟨by rfl, ?_⟩; intro w hSw; go_simp; (try with_reducible rfl))
            try simp only [Act.put, List.setIfInBounds_toArray, List.set_cons_zero, List.set_cons_succ]
            refine wpAnyH_take (i := 17) (oi := ?oisd18) (v := ?vsd18) ?hisd18 (by kernel_rfl) (by kernel_rfl) (by kernel_rfl) (fun _ _ _ h => h) ?hysd18 HS ?restsd18
            case hisd18 => (simp only [List.getElem?_toArray, List.getElem?_cons_succ, List.getElem?_cons_zero]; try rfl)
            case hysd18 => (refine Or.inl ⟨by rfl, ?_⟩; intro w hSw; go_simp; (try with_reducible rfl))
            try simp only [Act.put, List.setIfInBounds_toArray, List.set_cons_zero, List.set_cons_succ]
            refine wpAnyH_take (i := 18) (oi := ?oisd19) (v := ?vsd19) ?hisd19 (by kernel_rfl) (by kernel_rfl) (by kernel_rfl) (fun _ _ _ h => h) ?hysd19 HS ?restsd19
            case hisd19 => (simp only [List.getElem?_toArray, List.getElem?_cons_succ, List.getElem?_cons_zero]; try rfl)
            case hysd19 => (refine Or.inl ⟨by rfl, ?_⟩; intro w hSw; go_simp; (try with_reducible rfl))
            try simp only [Act.put, List.setIfInBounds_toArray, List.set_cons_zero, List.set_cons_succ]
            refine wpAnyH_take (i := 19) (oi := ?oisd20) (v := ?vsd20) ?hisd20 (by kernel_rfl) (by kernel_rfl) (by kernel_rfl) (fun _ _ _ h => h) ?hysd20 HS ?restsd20
            case hisd20 => (simp only [List.getElem?_toArray, List.getElem?_cons_succ, List.getElem?_cons_zero]; try rfl)
            case hysd20 => (refine Or.inl ⟨by rfl, ?_⟩; intro w hSw; go_simp; (try with_reducible rfl))
            try simp only [Act.put, List.setIfInBounds_toArray, List.set_cons_zero, List.set_cons_succ]
            refine wpAnyH_take (i := 20) (oi := ?oisd21) (v := ?vsd21) ?hisd21 (by kernel_rfl) (by kernel_rfl) (by kernel_rfl) (fun _ _ _ h => h) ?hysd21 HS ?restsd21
            case hisd21 => (simp only [List.getElem?_toArray, List.getElem?_cons_succ, List.getElem?_cons_zero]; try rfl)
            case hysd21 => (refine Or.inl ⟨by rfl, ?_⟩; intro w hSw; have q := hSw.1.cell 2; go_simp; (try with_reducible rfl))
            try simp only [Act.put, List.setIfInBounds_toArray, List.set_cons_zero, List.set_cons_succ]
            refine wpAnyH_take (i := 21) (oi := ?oisd22) (v := ?vsd22) ?hisd22 (by kernel_rfl) (by kernel_rfl) (by kernel_rfl) (fun _ _ _ h => h) ?hysd22 HS ?restsd22
            case hisd22 => (simp only [List.getElem?_toArray, List.getElem?_cons_succ, List.getElem?_cons_zero]; try rfl)
            case hysd22 => (refine Or.inl ⟨by rfl, ?_⟩; intro w hSw; go_simp; (try with_reducible rfl))
            try simp only [Act.put, List.setIfInBounds_toArray, List.set_cons_zero, List.set_cons_succ]
            refine wpAnyH_take (i := 22) (oi := ?oisd23) (v := ?vsd23) ?hisd23 (by kernel_rfl) (by kernel_rfl) (by kernel_rfl) (fun _ _ _ h => h) ?hysd23 HS ?restsd23
            case hisd23 => (simp only [List.getElem?_toArray, List.getElem?_cons_succ, List.getElem?_cons_zero]; try rfl)
            case hysd23 => (refine Or.inl ⟨by rfl, ?_⟩; intro w hSw; have q := hSw.2.cell 4; go_simp; (try with_reducible rfl))
            try simp only [Act.put, List.setIfInBounds_toArray, List.set_cons_zero, List.set_cons_succ]
            refine wpAnyH_take (i := 23) (oi := ?oisd24) (v := ?vsd24) ?hisd24 (by kernel_rfl) (by kernel_rfl) (by kernel_rfl) (fun _ _ _ h => h) ?hysd24 HS ?restsd24
            case hisd24 => (simp only [List.getElem?_toArray, List.getElem?_cons_succ, List.getElem?_cons_zero]; try rfl)
            case hysd24 => (refine Or.inl ⟨by rfl, ?_⟩; intro w hSw; go_simp; (try with_reducible rfl))
            try simp only [Act.put, List.setIfInBounds_toArray, List.set_cons_zero, List.set_cons_succ]
            refine wpAnyH_take (i := 24) (oi := ?oisd25) (v := ?vsd25) ?hisd25 (by kernel_rfl) (by kernel_rfl) (by kernel_rfl) (fun _ _ _ h => h) ?hysd25 HS ?restsd25
            case hisd25 => (simp only [List.getElem?_toArray, List.getElem?_cons_succ, List.getElem?_cons_zero]; try rfl)
            case hysd25 => (refine Or.inl ⟨by rfl, ?_⟩; intro w hSw; go_simp; (try with_reducible rfl))
            try simp only [Act.put, List.setIfInBounds_toArray, List.set_cons_zero, List.set_cons_succ]
            refine wpAnyH_done (by kernel_rfl) ?_ _
            refine NoPanic.normal ?_
            clear HS
            go_wp2_with fail
            refine ⟨?_, by simp [intOf]; omega⟩
            refine Lib.hid ⟨j + 1, by simp, by omega, fun m y hm hy => ?_, HB.out.drew, _, rfl⟩
            rcases Nat.lt_or_ge m j with e | e
            · exact HNO.out m y e hy
            · obtain rfl : m = j := by omega
              rw [HQ.out] at hy
              injection hy with hy
              rw [← hy]
              intro e
              have := rkB_yes e
              simp [rkB, hn] at this
          · refine wp_region_noPanic ?_
            refine wp_region_held_drew (S := fun wa => Blk wa q.g 115 (rpC q) ∧ Blk wa gm 30 (mgA 13 r t its)) (by kernel_rfl) HS (fun hHeld => ?_)
            refine wpAnyH_take (i := 0) (oi := ?oise1) (v := ?vse1) ?hise1 (by kernel_rfl) (by kernel_rfl) (by kernel_rfl) (fun _ _ _ h => h) ?hyse1 HS ?restse1
            case hise1 => (simp only [List.getElem?_toArray, List.getElem?_cons_zero]; try rfl)
            case hyse1 => (refine Or.inl ⟨by rfl, ?_⟩; intro w hSw; go_simp; (try with_reducible rfl))
            try simp only [Act.put, List.setIfInBounds_toArray, List.set_cons_zero, List.set_cons_succ]
            refine wpAnyH_take (i := 1) (oi := ?oise2) (v := ?vse2) ?hise2 (by kernel_rfl) (by kernel_rfl) (by kernel_rfl) (fun _ _ _ h => h) ?hyse2 HS ?restse2
            case hise2 => (simp only [List.getElem?_toArray, List.getElem?_cons_succ, List.getElem?_cons_zero]; try rfl)
            case hyse2 => (refine Or.inl ⟨by rfl, ?_⟩; intro w hSw; go_simp; (try with_reducible rfl))
            try simp only [Act.put, List.setIfInBounds_toArray, List.set_cons_zero, List.set_cons_succ]
            refine wpAnyH_take (i := 2) (oi := ?oise3) (v := ?vse3) ?hise3 (by kernel_rfl) (by kernel_rfl) (by kernel_rfl) (fun _ _ _ h => h) ?hyse3 HS ?restse3
            case hise3 => (simp only [List.getElem?_toArray, List.getElem?_cons_succ, List.getElem?_cons_zero]; try rfl)
            case hyse3 => (refine Or.inl ⟨by rfl, ?_⟩; intro w hSw; go_simp; (try with_reducible rfl))
            try simp only [Act.put, List.setIfInBounds_toArray, List.set_cons_zero, List.set_cons_succ]
            refine wpAnyH_take (i := 3) (oi := ?oise4) (v := ?vse4) ?hise4 (by kernel_rfl) (by kernel_rfl) (by kernel_rfl) (fun _ _ _ h => h) ?hyse4 HS ?restse4
            case hise4 => (simp only [List.getElem?_toArray, List.getElem?_cons_succ, List.getElem?_cons_zero]; try rfl)
            case hyse4 => (refine Or.inl ⟨by rfl, ?_⟩; intro w hSw; have q := hSw.1.cell 0; go_simp; (try with_reducible rfl))
            try simp only [Act.put, List.setIfInBounds_toArray, List.set_cons_zero, List.set_cons_succ]
            refine wpAnyH_take (i := 4) (oi := ?oise5) (v := ?vse5) ?hise5 (by kernel_rfl) (by kernel_rfl) (by kernel_rfl) (fun _ _ _ h => h) ?hyse5 HS ?restse5
            case hise5 => (simp only [List.getElem?_toArray, List.getElem?_cons_succ, List.getElem?_cons_zero]; try rfl)
            case hyse5 => (refine Or.inl ⟨by rfl, ?_⟩; intro w hSw; go_simp; (try with_reducible rfl))
            try simp only [Act.put, List.setIfInBounds_toArray, List.set_cons_zero, List.set_cons_succ]
            refine wpAnyH_take (i := 5) (oi := ?oise6) (v := ?vse6) ?hise6 (by kernel_rfl) (by kernel_rfl) (by kernel_rfl) (fun _ _ _ h => h) ?hyse6 HS ?restse6
            case hise6 => (simp only [List.getElem?_toArray, List.getElem?_cons_succ, List.getElem?_cons_zero]; try rfl)
            case hyse6 => (refine Or.inl ⟨by rfl, ?_⟩; intro w hSw; have q := hSw.2.cell 1; go_simp; (try with_reducible rfl))
            try simp only [Act.put, List.setIfInBounds_toArray, List.set_cons_zero, List.set_cons_succ]
            refine wpAnyH_take (i := 6) (oi := ?oise7) (v := ?vse7) ?hise7 (by kernel_rfl) (by kernel_rfl) (by kernel_rfl) (fun _ _ _ h => h) ?hyse7 HS ?restse7
            case hise7 => (simp only [List.getElem?_toArray, List.getElem?_cons_succ, List.getElem?_cons_zero]; try rfl)
            case hyse7 => (refine Or.inl ⟨by rfl, ?_⟩; intro w hSw; go_simp; (try with_reducible rfl))
            try simp only [Act.put, List.setIfInBounds_toArray, List.set_cons_zero, List.set_cons_succ]
            refine wpAnyH_take (i := 7) (oi := ?oise8) (v := ?vse8) ?hise8 (by kernel_rfl) (by kernel_rfl) (by kernel_rfl) (fun _ _ _ h => h) ?hyse8 HS ?restse8
            case hise8 => (simp only [List.getElem?_toArray, List.getElem?_cons_succ, List.getElem?_cons_zero]; try rfl)
            case hyse8 => (refine Or.inl ⟨by rfl, ?_⟩; intro w hSw; go_simp; (try with_reducible rfl))
            try simp only [Act.put, List.setIfInBounds_toArray, List.set_cons_zero, List.set_cons_succ]
            refine wpAnyH_take (i := 8) (oi := ?oise9) (v := ?vse9) ?hise9 (by kernel_rfl) (by kernel_rfl) (by kernel_rfl) (fun _ _ _ h => h) ?hyse9 HS ?restse9
            case hise9 => (simp only [List.getElem?_toArray, List.getElem?_cons_succ, List.getElem?_cons_zero]; try rfl)
            case hyse9 => (refine Or.inl ⟨by rfl, ?_⟩; intro w hSw; go_simp; (try with_reducible rfl))
            try simp only [Act.put, List.setIfInBounds_toArray, List.set_cons_zero, List.set_cons_succ]
            refine wpAnyH_take (i := 9) (oi := ?oise10) (v := ?vse10) ?hise10 (by kernel_rfl) (by kernel_rfl) (by kernel_rfl) (fun _ _ _ h => h) ?hyse10 HS ?restse10
            case hise10 => (simp only [List.getElem?_toArray, List.getElem?_cons_succ, List.getElem?_cons_zero]; try rfl)
            case hyse10 => (refine Or.inl ⟨by rfl, ?_⟩; intro w hSw; go_simp; (try with_reducible rfl))
            try simp only [Act.put, List.setIfInBounds_toArray, List.set_cons_zero, List.set_cons_succ]
            refine wpAnyH_take (i := 10) (oi := ?oise11) (v := ?vse11) ?hise11 (by kernel_rfl) (by kernel_rfl) (by kernel_rfl) (fun _ _ _ h => h) ?hyse11 HS ?restse11
            case hise11 => (simp only [List.getElem?_toArray, List.getElem?_cons_succ, List.getElem?_cons_zero]; try rfl)
            case hyse11 => (refine Or.inl ⟨by rfl, ?_⟩; intro w hSw; go_simp; (try with_reducible rfl))
            try simp only [Act.put, List.setIfInBounds_toArray, List.set_cons_zero, List.set_cons_succ]
            refine wpAnyH_take (i := 11) (oi := ?oise12) (v := ?vse12) ?hise12 (by kernel_rfl) (by kernel_rfl) (by kernel_rfl) (fun _ _ _ h => h) ?hyse12 HS ?restse12
            case hise12 => (simp only [List.getElem?_toArray, List.getElem?_cons_succ, List.getElem?_cons_zero]; try rfl)
            case hyse12 => (refine Or.inl ⟨by rfl, ?_⟩; intro w hSw; have q := hSw.1.cell 1; go_simp; (try with_reducible rfl))
            try simp only [Act.put, List.setIfInBounds_toArray, List.set_cons_zero, List.set_cons_succ]
            refine wpAnyH_take (i := 12) (oi := ?oise13) (v := ?vse13) ?hise13 (by kernel_rfl) (by kernel_rfl) (by kernel_rfl) (fun _ _ _ h => h) ?hyse13 HS ?restse13
            case hise13 => (simp only [List.getElem?_toArray, List.getElem?_cons_succ, List.getElem?_cons_zero]; try rfl)
            case hyse13 => (refine Or.inl ⟨by rfl, ?_⟩; intro w hSw; go_simp; (try with_reducible rfl))
            try simp only [Act.put, List.setIfInBounds_toArray, List.set_cons_zero, List.set_cons_succ]
            refine wpAnyH_take (i := 13) (oi := ?oise14) (v := ?vse14) ?hise14 (by kernel_rfl) (by kernel_rfl) (by kernel_rfl) (fun _ _ _ h => h) ?hyse14 HS ?restse14
            case hise14 => (simp only [List.getElem?_toArray, List.getElem?_cons_succ, List.getElem?_cons_zero]; try rfl)
            case hyse14 => (refine Or.inl ⟨by rfl, ?_⟩; intro w hSw; have q := hSw.2.cell 2; go_simp; (try with_reducible rfl))
            try simp only [Act.put, List.setIfInBounds_toArray, List.set_cons_zero, List.set_cons_succ]
            refine wpAnyH_take (i := 14) (oi := ?oise15) (v := ?vse15) ?hise15 (by kernel_rfl) (by kernel_rfl) (by kernel_rfl) (fun _ _ _ h => h) ?hyse15 HS ?restse15
            case hise15 => (simp only [List.getElem?_toArray, List.getElem?_cons_succ, List.getElem?_cons_zero]; try rfl)
            case hyse15 => (refine Or.inl ⟨by rfl, ?_⟩; intro w hSw; go_simp; (try with_reducible rfl))
            try simp only [Act.put, List.setIfInBounds_toArray, List.set_cons_zero, List.set_cons_succ]
            refine wpAnyH_take (i := 15) (oi := ?oise16) (v := ?vse16) ?hise16 (by kernel_rfl) (by kernel_rfl) (by kernel_rfl) (fun _ _ _ h => h) ?hyse16 HS ?restse16
            case hise16 => (simp only [List.getElem?_toArray, List.getElem?_cons_succ, List.getElem?_cons_zero]; try rfl)
            case hyse16 => (refine Or.inl ⟨by rfl, ?_⟩; intro w hSw; go_simp; (try with_reducible rfl))
            try simp only [Act.put, List.setIfInBounds_toArray, List.set_cons_zero, List.set_cons_succ]
            refine wpAnyH_take (i := 16) (oi := ?oise17) (v := ?vse17) ?hise17 (by kernel_rfl) (by kernel_rfl) (by kernel_rfl) (fun _ _ _ h => h) ?hyse17 HS ?restse17
            case hise17 => (simp only [List.getElem?_toArray, List.getElem?_cons_succ, List.getElem?_cons_zero]; try rfl)
            case hyse17 => (refine Or.inl ⟨by rfl, ?_⟩; intro w hSw; go_simp; (try with_reducible rfl))
            try simp only [Act.put, List.setIfInBounds_toArray, List.set_cons_zero, List.set_cons_succ]
            refine wpAnyH_take (i := 17) (oi := ?oise18) (v := ?vse18) ?hise18 (by kernel_rfl) (by kernel_rfl) (by kernel_rfl) (fun _ _ _ h => h) ?hyse18 HS ?restse18
            case hise18 => (simp only [List.getElem?_toArray, List.getElem?_cons_succ, List.getElem?_cons_zero]; try rfl)
            case hyse18 => (refine Or.inl ⟨by rfl, ?_⟩; intro w hSw; go_simp; (try with_reducible rfl))
            try simp only [Act.put, List.setIfInBounds_toArray, List.set_cons_zero, List.set_cons_succ]
            refine wpAnyH_take (i := 18) (oi := ?oise19) (v := ?vse19) ?hise19 (by kernel_rfl) (by kernel_rfl) (by kernel_rfl) (fun _ _ _ h => h) ?hyse19 HS ?restse19
            case hise19 => (simp only [List.getElem?_toArray, List.getElem?_cons_succ, List.getElem?_cons_zero]; try rfl)
            case hyse19 => (refine Or.inl ⟨by rfl, ?_⟩; intro w hSw; go_simp; (try with_reducible rfl))
            try simp only [Act.put, List.setIfInBounds_toArray, List.set_cons_zero, List.set_cons_succ]
            refine wpAnyH_take (i := 19) (oi := ?oise20) (v := ?vse20) ?hise20 (by kernel_rfl) (by kernel_rfl) (by kernel_rfl) (fun _ _ _ h => h) ?hyse20 HS ?restse20
            case hise20 => (simp only [List.getElem?_toArray, List.getElem?_cons_succ, List.getElem?_cons_zero]; try rfl)
            case hyse20 => (refine Or.inl ⟨by rfl, ?_⟩; intro w hSw; go_simp; (try with_reducible rfl))
            try simp only [Act.put, List.setIfInBounds_toArray, List.set_cons_zero, List.set_cons_succ]
            refine wpAnyH_take (i := 20) (oi := ?oise21) (v := ?vse21) ?hise21 (by kernel_rfl) (by kernel_rfl) (by kernel_rfl) (fun _ _ _ h => h) ?hyse21 HS ?restse21
            case hise21 => (simp only [List.getElem?_toArray, List.getElem?_cons_succ, List.getElem?_cons_zero]; try rfl)
            case hyse21 => (refine Or.inl ⟨by rfl, ?_⟩; intro w hSw; have q := hSw.1.cell 2; go_simp; (try with_reducible rfl))
            try simp only [Act.put, List.setIfInBounds_toArray, List.set_cons_zero, List.set_cons_succ]
            refine wpAnyH_take (i := 21) (oi := ?oise22) (v := ?vse22) ?hise22 (by kernel_rfl) (by kernel_rfl) (by kernel_rfl) (fun _ _ _ h => h) ?hyse22 HS ?restse22
            case hise22 => (simp only [List.getElem?_toArray, List.getElem?_cons_succ, List.getElem?_cons_zero]; try rfl)
            case hyse22 => (refine Or.inl ⟨by rfl, ?_⟩; intro w hSw; go_simp; (try with_reducible rfl))
            try simp only [Act.put, List.setIfInBounds_toArray, List.set_cons_zero, List.set_cons_succ]
            refine wpAnyH_take (i := 22) (oi := ?oise23) (v := ?vse23) ?hise23 (by kernel_rfl) (by kernel_rfl) (by kernel_rfl) (fun _ _ _ h => h) ?hyse23 HS ?restse23
            case hise23 => (simp only [List.getElem?_toArray, List.getElem?_cons_succ, List.getElem?_cons_zero]; try rfl)
            case hyse23 => (refine Or.inl ⟨by rfl, ?_⟩; intro w hSw; have q := hSw.2.cell 4; go_simp; (try with_reducible rfl))
            try simp only [Act.put, List.setIfInBounds_toArray, List.set_cons_zero, List.set_cons_succ]
            refine wpAnyH_take (i := 23) (oi := ?oise24) (v := ?vse24) ?hise24 (by kernel_rfl) (by kernel_rfl) (by kernel_rfl) (fun _ _ _ h => h) ?hyse24 HS ?restse24
            case hise24 => (simp only [List.getElem?_toArray, List.getElem?_cons_succ, List.getElem?_cons_zero]; try rfl)
            case hyse24 => (refine Or.inl ⟨by rfl, ?_⟩; intro w hSw; go_simp; (try with_reducible rfl))
            try simp only [Act.put, List.setIfInBounds_toArray, List.set_cons_zero, List.set_cons_succ]
            refine wpAnyH_take (i := 24) (oi := ?oise25) (v := ?vse25) ?hise25 (by kernel_rfl) (by kernel_rfl) (by kernel_rfl) (fun _ _ _ h => h) ?hyse25 HS ?restse25
            case hise25 => (simp only [List.getElem?_toArray, List.getElem?_cons_succ, List.getElem?_cons_zero]; try rfl)
            case hyse25 => (refine Or.inl ⟨by rfl, ?_⟩; intro w hSw; go_simp; (try with_reducible rfl))
            try simp only [Act.put, List.setIfInBounds_toArray, List.set_cons_zero, List.set_cons_succ]
            refine wpAnyH_done (by kernel_rfl) ?_ _
            refine NoPanic.normal ?_
            clear HS
            go_wp2_with fail
            go_ret
            exact .inl ⟨⟨j, q, HQ.out, rkB_iff.1 (by simp [rkB, hf, he, hn])⟩, rfl, HB0.out.trans ((HB.out.drew).mono HB0.out.size)⟩
    · have hjN : j = N := by omega
      have H7 := Lib.hid (HH.out.below hb)
      have HM7 := Lib.hid hm7
      have hall : ∀ (m : Nat) (y : Pr), L[m]? = some y → y.r ≠ r := fun m y hy => HNO.out m y (by have := (List.getElem?_eq_some_iff.1 hy).1; have := HN.out; omega) hy
      have HALL := Lib.hid hall
      have n1 : w7.cell? ⟨gm, 1, none⟩ = some (.string r.f) := hm7.cell 1
      have n2 : w7.cell? ⟨gm, 2, none⟩ = some (.string r.e) := hm7.cell 2
      have n4 : w7.cell? ⟨gm, 4, none⟩ = some (.int .i64 r.n) := hm7.cell 4
      clear hb hrow7 hm7 hall m0 h0
      go_upto_region 9 with fail
      obtain ⟨g, hg⟩ : ∃ g, g = w7.heap.size := ⟨_, rfl⟩
      obtain ⟨d0, hd0⟩ : ∃ d0, d0 = w7.alloc (Obj.cells #[.string r.f, .string r.e, .int .i64 r.n, .bool true, .slice none 0 0] 115) := ⟨_, rfl⟩
      rw [← hd0, ← hg]
      have hb0 : Below w7.heap.size w7 d0 := by rw [hd0]; exact (Below.refl _ _).alloc (Nat.le_refl _) _
      have hp0 : Blk d0 g 115 #[.string r.f, .string r.e, .int .i64 r.n, .bool true, .slice none 0 0] := by rw [hd0, hg]; exact Blk.new _ _ _
      have hH0 := H7.out.below hb0
      have hr0 := hH0.row
      have hk0 := hH0.blk
      rw [HV0.out, ← HN.out] at hr0
      have a0 : d0.cell? ⟨h, 0, none⟩ = some (.slice A0 N c0) := by rw [HN.out, ← HV0.out]; exact hk0.cell 0
      have hhn : Hid (some h ≠ (Value.slice A0 N c0).ownBlock) := Lib.hid (fun e => own_blk_ne hr0 hk0 mpH e.symm)
      have hpn : Hid (some g ≠ (Value.slice A0 N c0).ownBlock) := Lib.hid (fun e => own_blk_ne hr0 hp0 mPp.symm e.symm)
      have hBw : Hid (B ≤ d0.heap.size) := Lib.hid hH0.Bw
      have hown : Hid (∀ b, (Value.slice A0 N c0).ownBlock = some b ↔ v.ownBlock = some b) := Lib.hid (fun b => by rw [HV0.out]; cases A0 <;> exact Iff.rfl)
      have HP0 := Lib.hid hp0
      have HK0 := Lib.hid hk0
      have HR0 := Lib.hid hr0
      have HB00 := Lib.hid hb0
      have HGG := Lib.hid hg
      clear hp0 hk0 hr0 hb0 hd0 hg hH0 n1 n2 n4
      go_upto_region 10 with (at_builtin; refine wpList_append_any _ rfl _ _ 52 rfl B 112 i0 (.pointer none) 1 8 Try.underlying52 hi0 hz0 hz1 hz2 rfl (by decide) _ _ (L.map ptr) rfl (HR0.out.alloc _) (d0.alloc (.cells #[.pointer (some ⟨g, 0, none⟩)] 112)).heap.size (some ⟨d0.heap.size, 0, none⟩) 1 1 [.pointer (some ⟨g, 0, none⟩)] rfl (reads_one d0 (.pointer (some ⟨g, 0, none⟩)) 112) (by simp [Value.oneCell']) (by simp only [maxLen]; omega) (by omega) (by have := hBw.out; simp; omega) ?_; intro v8 w8 hown8 hg8 hn8; obtain ⟨A8, c8, rfl, hc8, -⟩ := own_slice hown8; have bh8 := (HK0.out.alloc (.cells #[.pointer (some ⟨g, 0, none⟩)] 112)).grown hg8 hhn.out; have f8 : w8.frozen? ⟨h, 0, none⟩ = false := bh8.frozen 0; have c80 : w8.cell? ⟨h, 0, none⟩ = some (.slice A0 N c0) := by (rw [HN.out, ← HV0.out]; exact bh8.cell 0))
      have bp8 := (HP0.out.alloc (.cells #[.pointer (some ⟨g, 0, none⟩)] 112)).grown hg8 hpn.out
      obtain ⟨w9, hw9⟩ : ∃ w9, w9 = w8.setCell ⟨h, 0, none⟩ (.slice A8 (N + 1) c8) := ⟨_, rfl⟩
      rw [← hw9]
      have v09 : Vol (fun b => b = h ∨ v.ownBlock = some b) w7 w9 := by
        rw [hw9]
        have u0 : Vol (fun b => b = h ∨ v.ownBlock = some b) w7 d0 := Vol.of_below HB00.out
        exact ((u0.alloc _).grown hg8 (fun k hk => .inl (.inr ((hown.out k).1 hk)))).setCell (a := ⟨h, 0, none⟩) (.inl (.inl rfl)) _
      have bh9 := bh8.set_ 0 (.slice A8 (N + 1) c8)
      have hhg : g ≠ h := bp8.ne_ bh8 mPH
      have bp9 := bp8.far (p := ⟨h, 0, none⟩) hhg (.slice A8 (N + 1) c8)
      have row9 : w9.ownsRow B 112 1 (.slice A8 (N + 1) c8) (N + 1) (L.map ptr ++ [.pointer (some ⟨g, 0, none⟩)]) := by rw [hw9]; exact own_far hown8 bh8 mpH
      rw [← hw9] at bh9 bp9
      have H9 := Lib.hid (H7.out.push (v' := .slice A8 (N + 1) c8) ⟨g, r, true, .slice none 0 0, []⟩ HALL.out v09 (by simpa using bh9) bp9 (by
        have e1 : (L ++ [Pr.mk g r true (.slice none 0 0) []]).length = N + 1 := by rw [HN.out]; simp
        rw [e1, List.map_append]
        exact row9) (Nat.le_of_eq HGG.out.symm) rfl rfl (fun b e => by
        rcases hn8 with e1 | e1
        · exact .inl ((hown.out b).1 (e1 ▸ e))
        · right
          rw [show (Value.slice A8 (N + 1) c8).ownBlock = some b from e] at e1
          injection e1 with e1
          have s0 := HB00.out.size
          rw [e1]
          simp
          omega))
      have V09 := Lib.hid v09
      have hC := Of_p (p := ⟨g, r, true, .slice none 0 0, []⟩) bp9 7
      clear v09 bh9 bp9 row9 hw9 bh8 bp8 hown8 hg8 hn8 f8 c80 hhg a0 hc8
      go_wp2_with (go_at_call 54; refine hC.mono ?_; rintro e9 wA ⟨rfl, hbA⟩)
      go_ret
      have hz := H9.out.below hbA
      have s1 := HB0.out.size
      have s2 := HB.out.size
      have s3 := V09.out.size
      have s4 := hbA.size
      refine .inr ⟨HALL.out, wA.heap.size, _, _, ⟨g, r, true, .slice none 0 0, []⟩, rfl, Blk.new wA 30 (msA ⟨7, r, noB, 0⟩), by omega, fun e => absurd (hz.lt _ e) (Nat.lt_irrefl _), rfl, rfl, rfl, hz.below ((Below.refl _ _).alloc (Nat.le_refl _) _), fun b e => .inl (.inl e), fun b e => e.elim (fun e => e.imp id (fun e => by rw [e, HGG.out]; omega)) (fun e => .inr (by omega)), ?_⟩
      have u0 : Vol V w w7 := Vol.of_below (HB0.out.trans (HB.out.mono HB0.out.size))
      refine ((u0.trans V09.out (fun b e => .inl ?_)).below hbA).alloc _
      rcases e with rfl | e
      · exact HH.out.vm
      · exact HH.out.vr b e
end
end Go.Proofs.Ytiflhfhonhbcpaa.Hw
