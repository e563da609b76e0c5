/- Launches: the plain answer's. -/
import Derived.Test.YticmldkgkfcoeaaWaL
import Derived.Deep.MidRow
namespace Go.Proofs.Yticmldkgkfcoeaa.Wa
open Go Go.RowKit Go.Proofs.Yticmldkgkfcoeaa Go.Proofs.Yticmldkgkfcoeaa.Crw Go.ChangeShapes Go.WideShapes Go.ChangeAt
set_option linter.unusedVariables false
set_option maxRecDepth 100000
attribute [local go_sem] run_store_complex
theorem nine (zs : Array Value) (h : zs.size = 9) : ∃ z0 z1 z2 z3 z4 z5 z6 z7 z8, zs = #[z0, z1, z2, z3, z4, z5, z6, z7, z8] := by
  obtain ⟨l⟩ := zs
  simp only [List.size_toArray] at h
  match l, h with
  | [z0, z1, z2, z3, z4, z5, z6, z7, z8], _ => exact ⟨z0, z1, z2, z3, z4, z5, z6, z7, z8, rfl⟩
theorem setCells9 (w : World) (g : Nat) (v0 v1 v2 v3 v4 v5 v6 v7 v8 : Value) : w.setCells g 0 (#[v0, v1, v2, v3, v4, v5, v6, v7, v8] : Array Value).toList = ((((((((w.setCell ⟨g, 0, none⟩ v0).setCell ⟨g, 1, none⟩ v1).setCell ⟨g, 2, none⟩ v2).setCell ⟨g, 3, none⟩ v3).setCell ⟨g, 4, none⟩ v4).setCell ⟨g, 5, none⟩ v5).setCell ⟨g, 6, none⟩ v6).setCell ⟨g, 7, none⟩ v7).setCell ⟨g, 8, none⟩ v8 := rfl
theorem msg_nine : (Try.prog.info? 40).map (·.size) = some 9 := by kernel_rfl
/-- A message goes into its own new block. -/
theorem store9 {ops : Array Oper} {op : Oper} {a : Act} {w : World} {K : Act → World → Prop} {Q : Exit → Act → World → Prop} {E : Prop} {x y : Operand} {gk : Nat} {v0 v1 v2 v3 v4 v5 v6 v7 v8 : Value} {zs : Array Value} (ho : op.op = .store 40 x y) (hg : op.guard = none)
    (hx : a.eval x = .pointer (some ⟨gk, 0, none⟩)) (hy : a.eval y = .agg #[v0, v1, v2, v3, v4, v5, v6, v7, v8]) (h1 : (#[v0, v1, v2, v3, v4, v5, v6, v7, v8] : Array Value).all (·.oneCell') = true) (hz : Blk w gk 40 zs) (hzs : zs.size = 9)
    (h : ∀ w', Blk w' gk 40 #[v0, v1, v2, v3, v4, v5, v6, v7, v8] → (∀ wd : World, wd.heap.size ≤ gk → Below wd.heap.size wd w → Below wd.heap.size wd w') → (∀ (g : Nat) (ty : TypeId) (cs : Array Value), g ≠ gk → Blk w g ty cs → Blk w' g ty cs) → K (a.put op.dst undef) w') :
    if Region.wanted op (yielded ops a.tmps) = true then Oper.wp Try.prog op a w K Q else E := by
  rw [if_pos (by simp [Region.wanted, hg])]
  refine wp_store_mid 40 x y ho gk 0 #[v0, v1, v2, v3, v4, v5, v6, v7, v8] hx hy (fun j hj => ?_) msg_nine h1 ?_
  · have hj9 : j < zs.size := by rw [hzs]; exact hj
    have hc := hz.cell j
    rw [Array.getElem?_eq_getElem hj9] at hc
    rw [Nat.zero_add]
    exact ⟨by rw [hc]; rfl, hz.frozen j⟩
  · rw [setCells9]
    refine h _ ?_ (fun wd hwd hb => ?_) (fun g ty cs hne hb => ?_)
    · obtain ⟨z0, z1, z2, z3, z4, z5, z6, z7, z8, rfl⟩ := nine zs hzs
      have b1 : Blk _ gk 40 #[v0, z1, z2, z3, z4, z5, z6, z7, z8] := hz.set_ 0 v0
      have b2 : Blk _ gk 40 #[v0, v1, z2, z3, z4, z5, z6, z7, z8] := b1.set_ 1 v1
      have b3 : Blk _ gk 40 #[v0, v1, v2, z3, z4, z5, z6, z7, z8] := b2.set_ 2 v2
      have b4 : Blk _ gk 40 #[v0, v1, v2, v3, z4, z5, z6, z7, z8] := b3.set_ 3 v3
      have b5 : Blk _ gk 40 #[v0, v1, v2, v3, v4, z5, z6, z7, z8] := b4.set_ 4 v4
      have b6 : Blk _ gk 40 #[v0, v1, v2, v3, v4, v5, z6, z7, z8] := b5.set_ 5 v5
      have b7 : Blk _ gk 40 #[v0, v1, v2, v3, v4, v5, v6, z7, z8] := b6.set_ 6 v6
      have b8 : Blk _ gk 40 #[v0, v1, v2, v3, v4, v5, v6, v7, z8] := b7.set_ 7 v7
      have b9 : Blk _ gk 40 #[v0, v1, v2, v3, v4, v5, v6, v7, v8] := b8.set_ 8 v8
      exact b9
    · have b1 := hb.setCell (show wd.heap.size ≤ (⟨gk, 0, none⟩ : Addr).block from hwd) v0
      have b2 := b1.setCell (show wd.heap.size ≤ (⟨gk, 1, none⟩ : Addr).block from hwd) v1
      have b3 := b2.setCell (show wd.heap.size ≤ (⟨gk, 2, none⟩ : Addr).block from hwd) v2
      have b4 := b3.setCell (show wd.heap.size ≤ (⟨gk, 3, none⟩ : Addr).block from hwd) v3
      have b5 := b4.setCell (show wd.heap.size ≤ (⟨gk, 4, none⟩ : Addr).block from hwd) v4
      have b6 := b5.setCell (show wd.heap.size ≤ (⟨gk, 5, none⟩ : Addr).block from hwd) v5
      have b7 := b6.setCell (show wd.heap.size ≤ (⟨gk, 6, none⟩ : Addr).block from hwd) v6
      have b8 := b7.setCell (show wd.heap.size ≤ (⟨gk, 7, none⟩ : Addr).block from hwd) v7
      exact b8.setCell (show wd.heap.size ≤ (⟨gk, 8, none⟩ : Addr).block from hwd) v8
    · have b1 := hb.far (p := ⟨gk, 0, none⟩) hne v0
      have b2 := b1.far (p := ⟨gk, 1, none⟩) hne v1
      have b3 := b2.far (p := ⟨gk, 2, none⟩) hne v2
      have b4 := b3.far (p := ⟨gk, 3, none⟩) hne v3
      have b5 := b4.far (p := ⟨gk, 4, none⟩) hne v4
      have b6 := b5.far (p := ⟨gk, 5, none⟩) hne v5
      have b7 := b6.far (p := ⟨gk, 6, none⟩) hne v6
      have b8 := b7.far (p := ⟨gk, 7, none⟩) hne v7
      exact b8.far (p := ⟨gk, 8, none⟩) hne v8

theorem okL_in {L : List Sd} (h : ∀ (j : Nat) (x : Sd), j < L.length → L[j]? = some x → (L.all fun y => lk x y) = true) : okL L = true := by
  unfold okL
  rw [List.all_eq_true]
  intro x hx
  obtain ⟨j, hj⟩ := List.getElem?_of_mem hx
  exact h j x (List.getElem?_eq_some_iff.1 hj).1 hj
theorem allL_in {L : List Sd} {p : Sd → Bool} (h : ∀ (j : Nat) (x : Sd), j < L.length → L[j]? = some x → p x = true) : L.all p = true := by
  rw [List.all_eq_true]
  intro x hx
  obtain ⟨j, hj⟩ := List.getElem?_of_mem hx
  exact h j x (List.getElem?_eq_some_iff.1 hj).1 hj
theorem lt_succ_cases {L : List Sd} {k : Nat} {x : Sd} {p : Sd → Prop} (hx : L[k]? = some x) (hp : ∀ (j : Nat) (y : Sd), j < k → L[j]? = some y → p y) (hk : p x) : ∀ (j : Nat) (y : Sd), j < k + 1 → L[j]? = some y → p y := fun j y hj hy => by
  rcases Nat.lt_or_ge j k with hl | hl
  · exact hp j y hl hy
  · have : j = k := by omega
    subst this
    rw [hx] at hy
    injection hy with hy
    subst hy
    exact hk
set_option maxHeartbeats 16000000 in
theorem Launches_r (v : Value) (n B : Nat) (L : List Sd) (w : World) (hr : w.ownsRow B 46 11 v n (sdV L)) (hn : n ≤ 400) (hX : ∀ (j : Nat) (x : Sd), L[j]? = some x → LaX w x) :
    Calls Try.prog 12 #[v] w fun e w' => e = .returned (.bool (okL L)) ∧ Below w.heap.size w w' := by
  obtain ⟨A, c, rfl, hc, -⟩ := own_slice hr
  have hl : L.length = n := by have := hr.1; rw [sdV_len] at this; omega
  have HR := Lib.hid hr
  have HL := Lib.hid hl
  have HX0 := Lib.hid hX
  clear hr hl hX
  go_enter Try.func12, Try.ntmps12
  go_wp2_with fail
  go_loopw [11] (fun v15 wx => Hid (∃ (k : Nat), v15 = .int .i64 k ∧ k ≤ n ∧ (∀ (j : Nat) (x : Sd), j < k → L[j]? = some x → (L.all fun y => lk x y) = true) ∧ Below w.heap.size w wx ∧ ∃ w7, w7 = wx)) (fun v15 _ => n - (intOf v15).toNat)
  case atStart => exact Lib.hid ⟨0, rfl, by omega, fun j x h => by omega, Below.refl _ _, _, rfl⟩
  case round =>
    obtain ⟨k, rfl, hk, hp, hb, w7, hw7⟩ := hrel.out
    subst hw7
    clear hrel
    have HP := Lib.hid hp
    have HB7 := Lib.hid hb
    have hr7 := own_keep HR.out hb
    clear hp hb
    by_cases hlt : (k : Int) < n
    · obtain ⟨x, hx⟩ : ∃ x, L[k]? = some x := ⟨L[k]'(by have := HL.out; omega), List.getElem?_eq_getElem _⟩
      obtain ⟨u, rfl⟩ := own_some hr7 (by omega)
      have cc : ∀ j, j < 11 → w7.cell? ⟨u, k * 11 + j, none⟩ = (sd11 x)[j]? := fun j hj => (hr7.cellAt (k * 11 + j) (by omega)).trans (sdV_get L k x (by assumption) j hj)
      have q0 : w7.cell? ⟨u, k * 11, none⟩ = some (.int .i64 x.kd) := cc 0 (by omega)
      have q1 : w7.cell? ⟨u, k * 11 + 1, none⟩ = some (.string x.F) := cc 1 (by omega)
      have q2 : w7.cell? ⟨u, k * 11 + 2, none⟩ = some (.string x.E) := cc 2 (by omega)
      have q3 : w7.cell? ⟨u, k * 11 + 3, none⟩ = some (.string x.T) := cc 3 (by omega)
      have q4 : w7.cell? ⟨u, k * 11 + 4, none⟩ = some (.int .i64 x.nn) := cc 4 (by omega)
      have q5 : w7.cell? ⟨u, k * 11 + 5, none⟩ = some (.int .i64 x.st) := cc 5 (by omega)
      have q6 : w7.cell? ⟨u, k * 11 + 6, none⟩ = some (.int .i64 x.nu) := cc 6 (by omega)
      have q7 : w7.cell? ⟨u, k * 11 + 7, none⟩ = some (.int .i64 x.ep) := cc 7 (by omega)
      have q8 : w7.cell? ⟨u, k * 11 + 8, none⟩ = some (.slice x.A x.ni x.ci) := cc 8 (by omega)
      have q9 : w7.cell? ⟨u, k * 11 + 9, none⟩ = some (.int .i64 x.me) := cc 9 (by omega)
      have q10 : w7.cell? ⟨u, k * 11 + 10, none⟩ = some (.int .i64 x.at_) := cc 10 (by omega)
      have hk0 : (0 : Int) ≤ (k : Int) := by omega
      have HX := Lib.hid hx
      clear cc hr7 hx
      go_upto_region 4 with fail
      obtain ⟨w6a, hw6⟩ : ∃ w6, w6 = w7.alloc (.cells #[.int .i64 x.kd, .string x.F, .string x.E, .string x.T, .int .i64 x.nn, .int .i64 x.st, .int .i64 x.nu, .int .i64 x.ep, .slice x.A x.ni x.ci, .int .i64 x.me, .int .i64 x.at_] 46) := ⟨_, rfl⟩
      obtain ⟨g6a, hg6⟩ : ∃ g, g = w7.heap.size := ⟨_, rfl⟩
      rw [← hw6, ← hg6]
      have hbxa : Blk w6a g6a 46 #[.int .i64 x.kd, .string x.F, .string x.E, .string x.T, .int .i64 x.nn, .int .i64 x.st, .int .i64 x.nu, .int .i64 x.ep, .slice x.A x.ni x.ci, .int .i64 x.me, .int .i64 x.at_] := by rw [hw6, hg6]; exact Blk.new _ _ _
      have hb6a : Below w7.heap.size w7 w6a := by rw [hw6]; exact (Below.refl _ _).alloc (Nat.le_refl _) _
      clear hw6 hg6
      have HB6 := Lib.hid (HB7.out.trans (hb6a.mono HB7.out.size))
      have HXA := Lib.hid hbxa
      clear q0 q1 q2 q3 q4 q5 q6 q7 q8 q9 q10 hbxa hb6a
      go_wp2_with fail
      go_loopw [17] (fun v17 wx => Hid (∃ (q : Nat), v17 = .int .i64 q ∧ q ≤ n ∧ (∀ (j : Nat) (y : Sd), j < q → L[j]? = some y → lk x y = true) ∧ Below w.heap.size w wx ∧ Blk wx g6a 46 #[.int .i64 x.kd, .string x.F, .string x.E, .string x.T, .int .i64 x.nn, .int .i64 x.st, .int .i64 x.nu, .int .i64 x.ep, .slice x.A x.ni x.ci, .int .i64 x.me, .int .i64 x.at_] ∧ ∃ w7, w7 = wx)) (fun v17 _ => n - (intOf v17).toNat)
      case atStart => exact Lib.hid ⟨0, rfl, by omega, fun j x h => by omega, HB6.out, HXA.out, _, rfl⟩
      case round =>
        obtain ⟨q, rfl, hq, hp2, hb, hxa, w3, hw3⟩ := hrel.out
        subst hw3
        clear hrel
        have HP2 := Lib.hid hp2
        have HB3 := Lib.hid hb
        have HA3 := Lib.hid hxa
        have hr3 := own_keep HR.out hb
        clear hp2 hb hxa
        by_cases hlt3 : (q : Int) < n
        · obtain ⟨y, hy⟩ : ∃ y, L[q]? = some y := ⟨L[q]'(by have := HL.out; omega), List.getElem?_eq_getElem _⟩
          have cc : ∀ j, j < 11 → w3.cell? ⟨u, q * 11 + j, none⟩ = (sd11 y)[j]? := fun j hj => (hr3.cellAt (q * 11 + j) (by omega)).trans (sdV_get L q y (by assumption) j hj)
          have q0 : w3.cell? ⟨u, q * 11, none⟩ = some (.int .i64 y.kd) := cc 0 (by omega)
          have q1 : w3.cell? ⟨u, q * 11 + 1, none⟩ = some (.string y.F) := cc 1 (by omega)
          have q2 : w3.cell? ⟨u, q * 11 + 2, none⟩ = some (.string y.E) := cc 2 (by omega)
          have q3 : w3.cell? ⟨u, q * 11 + 3, none⟩ = some (.string y.T) := cc 3 (by omega)
          have q4 : w3.cell? ⟨u, q * 11 + 4, none⟩ = some (.int .i64 y.nn) := cc 4 (by omega)
          have q5 : w3.cell? ⟨u, q * 11 + 5, none⟩ = some (.int .i64 y.st) := cc 5 (by omega)
          have q6 : w3.cell? ⟨u, q * 11 + 6, none⟩ = some (.int .i64 y.nu) := cc 6 (by omega)
          have q7 : w3.cell? ⟨u, q * 11 + 7, none⟩ = some (.int .i64 y.ep) := cc 7 (by omega)
          have q8 : w3.cell? ⟨u, q * 11 + 8, none⟩ = some (.slice y.A y.ni y.ci) := cc 8 (by omega)
          have q9 : w3.cell? ⟨u, q * 11 + 9, none⟩ = some (.int .i64 y.me) := cc 9 (by omega)
          have q10 : w3.cell? ⟨u, q * 11 + 10, none⟩ = some (.int .i64 y.at_) := cc 10 (by omega)
          have hq0 : (0 : Int) ≤ (q : Int) := by omega
          have HY := Lib.hid hy
          clear cc hr3 hy
          go_upto_region 7 with fail
          obtain ⟨w6b, hw6⟩ : ∃ w6, w6 = w3.alloc (.cells #[.int .i64 y.kd, .string y.F, .string y.E, .string y.T, .int .i64 y.nn, .int .i64 y.st, .int .i64 y.nu, .int .i64 y.ep, .slice y.A y.ni y.ci, .int .i64 y.me, .int .i64 y.at_] 46) := ⟨_, rfl⟩
          obtain ⟨g6b, hg6⟩ : ∃ g, g = w3.heap.size := ⟨_, rfl⟩
          rw [← hw6, ← hg6]
          have hbxb : Blk w6b g6b 46 #[.int .i64 y.kd, .string y.F, .string y.E, .string y.T, .int .i64 y.nn, .int .i64 y.st, .int .i64 y.nu, .int .i64 y.ep, .slice y.A y.ni y.ci, .int .i64 y.me, .int .i64 y.at_] := by rw [hw6, hg6]; exact Blk.new _ _ _
          have hb6b : Below w3.heap.size w3 w6b := by rw [hw6]; exact (Below.refl _ _).alloc (Nat.le_refl _) _
          clear hw6 hg6
          have HB5 := Lib.hid (HB3.out.trans (hb6b.mono HB3.out.size))
          have HAx := HA3.out.below hb6b HA3.out.lt
          have HBx := hbxb
          have HAX := Lib.hid HAx
          clear q0 q1 q2 q3 q4 q5 q6 q7 q8 q9 q10 hbxb hb6b
          go_cut [7, 8] from 21 to 24 (fun v7 v8 wx => Hid (∃ ga gb w9, v7 = .pointer (some ⟨ga, 0, none⟩) ∧ v8 = .pointer (some ⟨gb, 0, none⟩) ∧ Blk wx ga 40 #[.int .i64 x.kd, .string x.F, .string x.E, .string x.T, .int .i64 x.nn, .int .i64 x.st, .int .i64 x.nu, .int .i64 x.ep, .slice x.A x.ni x.ci] ∧ Blk wx gb 40 #[.int .i64 y.kd, .string y.F, .string y.E, .string y.T, .int .i64 y.nn, .int .i64 y.st, .int .i64 y.nu, .int .i64 y.ep, .slice y.A y.ni y.ci] ∧ Below w6b.heap.size w6b wx ∧ w9 = wx))
          case first =>
            obtain ⟨wd, ewd⟩ : ∃ wd, wd = w6b.drew := ⟨_, rfl⟩
            have hdb : Below w6b.heap.size w6b wd := by rw [ewd]; exact (Below.refl _ _).drew
            have H0 : Blk wd g6a 46 #[.int .i64 x.kd, .string x.F, .string x.E, .string x.T, .int .i64 x.nn, .int .i64 x.st, .int .i64 x.nu, .int .i64 x.ep, .slice x.A x.ni x.ci, .int .i64 x.me, .int .i64 x.at_] ∧ Blk wd g6b 46 #[.int .i64 y.kd, .string y.F, .string y.E, .string y.T, .int .i64 y.nn, .int .i64 y.st, .int .i64 y.nu, .int .i64 y.ep, .slice y.A y.ni y.ci, .int .i64 y.me, .int .i64 y.at_] := ⟨HAx.below hdb HAx.lt, HBx.below hdb HBx.lt⟩
            refine wp_region_noPanic ?_
            refine wp_region_held_drew (S := fun wa => Blk wa g6a 46 #[.int .i64 x.kd, .string x.F, .string x.E, .string x.T, .int .i64 x.nn, .int .i64 x.st, .int .i64 x.nu, .int .i64 x.ep, .slice x.A x.ni x.ci, .int .i64 x.me, .int .i64 x.at_] ∧ Blk wa g6b 46 #[.int .i64 y.kd, .string y.F, .string y.E, .string y.T, .int .i64 y.nn, .int .i64 y.st, .int .i64 y.nu, .int .i64 y.ep, .slice y.A y.ni y.ci, .int .i64 y.me, .int .i64 y.at_]) (by kernel_rfl) (by rw [← ewd]; exact H0) (fun _ => ?_)
            rw [← ewd]
            clear ewd
            refine wpAnyH_take (i := 0) (oi := ?oit1) (v := ?vt1) ?hit1 (by kernel_rfl) (by kernel_rfl) (by kernel_rfl) (fun _ _ _ h => h) ?hyt1 H0 ?restt1
            case hit1 => (simp only [List.getElem?_toArray, List.getElem?_cons_zero]; try rfl)
            case hyt1 => (refine Or.inl ⟨by rfl, ?_⟩; intro w hSw; go_simp; (try with_reducible rfl))
            try simp only [Act.put, List.setIfInBounds_toArray, List.set_cons_zero, List.set_cons_succ]
            refine wpAnyH_take (i := 1) (oi := ?oit2) (v := ?vt2) ?hit2 (by kernel_rfl) (by kernel_rfl) (by kernel_rfl) (fun _ _ _ h => h) ?hyt2 H0 ?restt2
            case hit2 => (simp only [List.getElem?_toArray, List.getElem?_cons_succ, List.getElem?_cons_zero]; try rfl)
            case hyt2 => (refine Or.inl ⟨by rfl, ?_⟩; intro w hSw; have q0 := hSw.1.cell 0; have q1 := hSw.1.cell 1; have q2 := hSw.1.cell 2; have q3 := hSw.1.cell 3; have q4 := hSw.1.cell 4; have q5 := hSw.1.cell 5; have q6 := hSw.1.cell 6; have q7 := hSw.1.cell 7; have q8 := hSw.1.cell 8; go_simp; (try with_reducible rfl))
            try simp only [Act.put, List.setIfInBounds_toArray, List.set_cons_zero, List.set_cons_succ]
            refine wpAnyH_take (i := 2) (oi := ?oit3) (v := ?vt3) ?hit3 (by kernel_rfl) (by kernel_rfl) (by kernel_rfl) (fun _ _ _ h => h) ?hyt3 H0 ?restt3
            case hit3 => (simp only [List.getElem?_toArray, List.getElem?_cons_succ, List.getElem?_cons_zero]; try rfl)
            case hyt3 => (refine Or.inl ⟨by rfl, ?_⟩; intro w hSw; go_simp; (try with_reducible rfl))
            try simp only [Act.put, List.setIfInBounds_toArray, List.set_cons_zero, List.set_cons_succ]
            refine wpAnyH_take (i := 3) (oi := ?oit4) (v := ?vt4) ?hit4 (by kernel_rfl) (by kernel_rfl) (by kernel_rfl) (fun _ _ _ h => h) ?hyt4 H0 ?restt4
            case hit4 => (simp only [List.getElem?_toArray, List.getElem?_cons_succ, List.getElem?_cons_zero]; try rfl)
            case hyt4 => (refine Or.inl ⟨by rfl, ?_⟩; intro w hSw; have q0 := hSw.2.cell 0; have q1 := hSw.2.cell 1; have q2 := hSw.2.cell 2; have q3 := hSw.2.cell 3; have q4 := hSw.2.cell 4; have q5 := hSw.2.cell 5; have q6 := hSw.2.cell 6; have q7 := hSw.2.cell 7; have q8 := hSw.2.cell 8; go_simp; (try with_reducible rfl))
            try simp only [Act.put, List.setIfInBounds_toArray, List.set_cons_zero, List.set_cons_succ]
            refine wpAnyH_ready (rs := [4, 5]) (by kernel_rfl) (by simp) ?_
            refine AllReadyH.cons (o := ?oit5) ?hit5 (fun K hK => ?stt5) ?mot5
            case hit5 => (simp only [List.getElem?_toArray, List.getElem?_cons_succ, List.getElem?_cons_zero]; try rfl)
            case stt5 =>
              obtain ⟨Wt6, et6⟩ : ∃ w7, w7 = wd.alloc (.cells #[.int .i64 0, .string ⟨#[]⟩, .string ⟨#[]⟩, .string ⟨#[]⟩, .int .i64 0, .int .i64 0, .int .i64 0, .int .i64 0, .slice none 0 0] 40) := ⟨_, rfl⟩
              obtain ⟨g1, st6⟩ : ∃ g, g = wd.heap.size := ⟨_, rfl⟩
              have hbt6 : Below wd.heap.size wd Wt6 := by rw [et6]; exact (Below.refl _ _).alloc (Nat.le_refl _) _
              have Nt6 : Blk Wt6 g1 40 #[.int .i64 0, .string ⟨#[]⟩, .string ⟨#[]⟩, .string ⟨#[]⟩, .int .i64 0, .int .i64 0, .int .i64 0, .int .i64 0, .slice none 0 0] := by rw [et6, st6]; exact Blk.new _ _ _
              have Ht6 : Blk Wt6 g6a 46 #[.int .i64 x.kd, .string x.F, .string x.E, .string x.T, .int .i64 x.nn, .int .i64 x.st, .int .i64 x.nu, .int .i64 x.ep, .slice x.A x.ni x.ci, .int .i64 x.me, .int .i64 x.at_] ∧ Blk Wt6 g6b 46 #[.int .i64 y.kd, .string y.F, .string y.E, .string y.T, .int .i64 y.nn, .int .i64 y.st, .int .i64 y.nu, .int .i64 y.ep, .slice y.A y.ni y.ci, .int .i64 y.me, .int .i64 y.at_] := ⟨H0.1.below hbt6 H0.1.lt, H0.2.below hbt6 H0.2.lt⟩
              have G1 : wd.heap.size ≤ g1 := by rw [st6]; exact Nat.le_refl _
              go_simp
              rw [← et6, ← st6]
              clear et6 st6
              refine hK.out _ _ Ht6 (fun _ => ?rst6)
              clear hK K
              try simp only [Act.put, List.setIfInBounds_toArray, List.set_cons_zero, List.set_cons_succ]
              refine wpAnyH_ready (rs := [5]) (by kernel_rfl) (by simp) ?_
              refine AllReadyH.cons (o := ?oit7) ?hit7 (fun K hK => ?stt7) AllReadyH.nil
              case hit7 => (simp only [List.getElem?_toArray, List.getElem?_cons_succ, List.getElem?_cons_zero]; try rfl)
              obtain ⟨Wt7, et7⟩ : ∃ w7, w7 = Wt6.alloc (.cells #[.int .i64 0, .string ⟨#[]⟩, .string ⟨#[]⟩, .string ⟨#[]⟩, .int .i64 0, .int .i64 0, .int .i64 0, .int .i64 0, .slice none 0 0] 40) := ⟨_, rfl⟩
              obtain ⟨g2, st7⟩ : ∃ g, g = Wt6.heap.size := ⟨_, rfl⟩
              have hbt7 : Below Wt6.heap.size Wt6 Wt7 := by rw [et7]; exact (Below.refl _ _).alloc (Nat.le_refl _) _
              have Nt7 : Blk Wt7 g2 40 #[.int .i64 0, .string ⟨#[]⟩, .string ⟨#[]⟩, .string ⟨#[]⟩, .int .i64 0, .int .i64 0, .int .i64 0, .int .i64 0, .slice none 0 0] := by rw [et7, st7]; exact Blk.new _ _ _
              have Ht7 : Blk Wt7 g6a 46 #[.int .i64 x.kd, .string x.F, .string x.E, .string x.T, .int .i64 x.nn, .int .i64 x.st, .int .i64 x.nu, .int .i64 x.ep, .slice x.A x.ni x.ci, .int .i64 x.me, .int .i64 x.at_] ∧ Blk Wt7 g6b 46 #[.int .i64 y.kd, .string y.F, .string y.E, .string y.T, .int .i64 y.nn, .int .i64 y.st, .int .i64 y.nu, .int .i64 y.ep, .slice y.A y.ni y.ci, .int .i64 y.me, .int .i64 y.at_] := ⟨Ht6.1.below hbt7 Ht6.1.lt, Ht6.2.below hbt7 Ht6.2.lt⟩
              have G2 : wd.heap.size ≤ g2 := by rw [st7]; exact hbt6.size
              have M1 := Nt6.below hbt7 Nt6.lt
              have hne : g1 ≠ g2 := fun e => by have h9 := Nt6.lt; omega
              have hbz : Below wd.heap.size wd Wt7 := hbt6.trans (hbt7.mono hbt6.size)
              go_simp
              rw [← et7, ← st7]
              clear et7 st7
              refine hK.out _ _ Ht7 (fun _ => ?rst7)
              clear hK K
              try simp only [Act.put, List.setIfInBounds_toArray, List.set_cons_zero, List.set_cons_succ]
              refine wpAnyH_ready (rs := [6]) (by kernel_rfl) (by simp) ?_
              refine AllReadyH.cons (o := ?oit8) ?hit8 (fun K hK => ?stt8) AllReadyH.nil
              case hit8 => (simp only [List.getElem?_toArray, List.getElem?_cons_succ, List.getElem?_cons_zero]; try rfl)
              refine store9 (v0 := .int .i64 x.kd) (v1 := .string x.F) (v2 := .string x.E) (v3 := .string x.T) (v4 := .int .i64 x.nn) (v5 := .int .i64 x.st) (v6 := .int .i64 x.nu) (v7 := .int .i64 x.ep) (v8 := .slice x.A x.ni x.ci) rfl rfl (by simp [Act.eval]; done) (by simp [Act.eval]; done) (by simp [Value.oneCell']) M1 rfl ?_
              intro wt8 hnt8 hbet8 hbft8
              have hbt8 := hbet8 wd G1 hbz
              have ot8 := hbft8 _ _ _ (show g2 ≠ g1 from hne.symm) Nt7
              refine hK.out _ _ ⟨hbft8 _ _ _ (Ht7.1.ne_ M1 (by decide)) Ht7.1, hbft8 _ _ _ (Ht7.2.ne_ M1 (by decide)) Ht7.2⟩ (fun hSt8 => ?rst8)
              clear hK K
              try simp only [Act.put]
              refine wpAnyH_ready (rs := [7]) (by kernel_rfl) (by simp) ?_
              refine AllReadyH.cons (o := ?oit9) ?hit9 (fun K hK => ?stt9) AllReadyH.nil
              case hit9 => (simp only [List.getElem?_toArray, List.getElem?_cons_succ, List.getElem?_cons_zero]; try rfl)
              refine store9 (v0 := .int .i64 y.kd) (v1 := .string y.F) (v2 := .string y.E) (v3 := .string y.T) (v4 := .int .i64 y.nn) (v5 := .int .i64 y.st) (v6 := .int .i64 y.nu) (v7 := .int .i64 y.ep) (v8 := .slice y.A y.ni y.ci) rfl rfl (by simp [Act.eval]; done) (by simp [Act.eval]; done) (by simp [Value.oneCell']) ot8 rfl ?_
              intro wt9 hnt9 hbet9 hbft9
              have hbt9 := hbet9 wd G2 hbt8
              have ot9 := hbft9 _ _ _ (show g1 ≠ g2 from hne) hnt8
              refine hK.out _ _ ⟨hbft9 _ _ _ (hSt8.1.ne_ ot8 (by decide)) hSt8.1, hbft9 _ _ _ (hSt8.2.ne_ ot8 (by decide)) hSt8.2⟩ (fun hSt9 => ?rst9)
              clear hK K
              try simp only [Act.put]
              refine wpAnyH_done (by kernel_rfl) ?_ _
              refine NoPanic.normal ?_
              go_wp2_with fail
              go_meet
              exact Lib.hid ⟨g1, g2, _, rfl, rfl, ot9, hnt9, hdb.trans (hbt9.mono hdb.size), rfl⟩
            refine AllReadyH.cons (o := ?oit10) ?hit10 (fun K hK => ?stt10) ?mot10
            case hit10 => (simp only [List.getElem?_toArray, List.getElem?_cons_succ, List.getElem?_cons_zero]; try rfl)
            case stt10 =>
              obtain ⟨Wt11, et11⟩ : ∃ w7, w7 = wd.alloc (.cells #[.int .i64 0, .string ⟨#[]⟩, .string ⟨#[]⟩, .string ⟨#[]⟩, .int .i64 0, .int .i64 0, .int .i64 0, .int .i64 0, .slice none 0 0] 40) := ⟨_, rfl⟩
              obtain ⟨g1, st11⟩ : ∃ g, g = wd.heap.size := ⟨_, rfl⟩
              have hbt11 : Below wd.heap.size wd Wt11 := by rw [et11]; exact (Below.refl _ _).alloc (Nat.le_refl _) _
              have Nt11 : Blk Wt11 g1 40 #[.int .i64 0, .string ⟨#[]⟩, .string ⟨#[]⟩, .string ⟨#[]⟩, .int .i64 0, .int .i64 0, .int .i64 0, .int .i64 0, .slice none 0 0] := by rw [et11, st11]; exact Blk.new _ _ _
              have Ht11 : Blk Wt11 g6a 46 #[.int .i64 x.kd, .string x.F, .string x.E, .string x.T, .int .i64 x.nn, .int .i64 x.st, .int .i64 x.nu, .int .i64 x.ep, .slice x.A x.ni x.ci, .int .i64 x.me, .int .i64 x.at_] ∧ Blk Wt11 g6b 46 #[.int .i64 y.kd, .string y.F, .string y.E, .string y.T, .int .i64 y.nn, .int .i64 y.st, .int .i64 y.nu, .int .i64 y.ep, .slice y.A y.ni y.ci, .int .i64 y.me, .int .i64 y.at_] := ⟨H0.1.below hbt11 H0.1.lt, H0.2.below hbt11 H0.2.lt⟩
              have G1 : wd.heap.size ≤ g1 := by rw [st11]; exact Nat.le_refl _
              go_simp
              rw [← et11, ← st11]
              clear et11 st11
              refine hK.out _ _ Ht11 (fun _ => ?rst11)
              clear hK K
              try simp only [Act.put, List.setIfInBounds_toArray, List.set_cons_zero, List.set_cons_succ]
              refine wpAnyH_ready (rs := [4]) (by kernel_rfl) (by simp) ?_
              refine AllReadyH.cons (o := ?oit12) ?hit12 (fun K hK => ?stt12) AllReadyH.nil
              case hit12 => (simp only [List.getElem?_toArray, List.getElem?_cons_succ, List.getElem?_cons_zero]; try rfl)
              obtain ⟨Wt12, et12⟩ : ∃ w7, w7 = Wt11.alloc (.cells #[.int .i64 0, .string ⟨#[]⟩, .string ⟨#[]⟩, .string ⟨#[]⟩, .int .i64 0, .int .i64 0, .int .i64 0, .int .i64 0, .slice none 0 0] 40) := ⟨_, rfl⟩
              obtain ⟨g2, st12⟩ : ∃ g, g = Wt11.heap.size := ⟨_, rfl⟩
              have hbt12 : Below Wt11.heap.size Wt11 Wt12 := by rw [et12]; exact (Below.refl _ _).alloc (Nat.le_refl _) _
              have Nt12 : Blk Wt12 g2 40 #[.int .i64 0, .string ⟨#[]⟩, .string ⟨#[]⟩, .string ⟨#[]⟩, .int .i64 0, .int .i64 0, .int .i64 0, .int .i64 0, .slice none 0 0] := by rw [et12, st12]; exact Blk.new _ _ _
              have Ht12 : Blk Wt12 g6a 46 #[.int .i64 x.kd, .string x.F, .string x.E, .string x.T, .int .i64 x.nn, .int .i64 x.st, .int .i64 x.nu, .int .i64 x.ep, .slice x.A x.ni x.ci, .int .i64 x.me, .int .i64 x.at_] ∧ Blk Wt12 g6b 46 #[.int .i64 y.kd, .string y.F, .string y.E, .string y.T, .int .i64 y.nn, .int .i64 y.st, .int .i64 y.nu, .int .i64 y.ep, .slice y.A y.ni y.ci, .int .i64 y.me, .int .i64 y.at_] := ⟨Ht11.1.below hbt12 Ht11.1.lt, Ht11.2.below hbt12 Ht11.2.lt⟩
              have G2 : wd.heap.size ≤ g2 := by rw [st12]; exact hbt11.size
              have M1 := Nt11.below hbt12 Nt11.lt
              have hne : g1 ≠ g2 := fun e => by have h9 := Nt11.lt; omega
              have hbz : Below wd.heap.size wd Wt12 := hbt11.trans (hbt12.mono hbt11.size)
              go_simp
              rw [← et12, ← st12]
              clear et12 st12
              refine hK.out _ _ Ht12 (fun _ => ?rst12)
              clear hK K
              try simp only [Act.put, List.setIfInBounds_toArray, List.set_cons_zero, List.set_cons_succ]
              refine wpAnyH_ready (rs := [6]) (by kernel_rfl) (by simp) ?_
              refine AllReadyH.cons (o := ?oit13) ?hit13 (fun K hK => ?stt13) AllReadyH.nil
              case hit13 => (simp only [List.getElem?_toArray, List.getElem?_cons_succ, List.getElem?_cons_zero]; try rfl)
              refine store9 (v0 := .int .i64 x.kd) (v1 := .string x.F) (v2 := .string x.E) (v3 := .string x.T) (v4 := .int .i64 x.nn) (v5 := .int .i64 x.st) (v6 := .int .i64 x.nu) (v7 := .int .i64 x.ep) (v8 := .slice x.A x.ni x.ci) rfl rfl (by simp [Act.eval]; done) (by simp [Act.eval]; done) (by simp [Value.oneCell']) Nt12 rfl ?_
              intro wt13 hnt13 hbet13 hbft13
              have hbt13 := hbet13 wd G2 hbz
              have ot13 := hbft13 _ _ _ (show g1 ≠ g2 from hne) M1
              refine hK.out _ _ ⟨hbft13 _ _ _ (Ht12.1.ne_ Nt12 (by decide)) Ht12.1, hbft13 _ _ _ (Ht12.2.ne_ Nt12 (by decide)) Ht12.2⟩ (fun hSt13 => ?rst13)
              clear hK K
              try simp only [Act.put]
              refine wpAnyH_ready (rs := [7]) (by kernel_rfl) (by simp) ?_
              refine AllReadyH.cons (o := ?oit14) ?hit14 (fun K hK => ?stt14) AllReadyH.nil
              case hit14 => (simp only [List.getElem?_toArray, List.getElem?_cons_succ, List.getElem?_cons_zero]; try rfl)
              refine store9 (v0 := .int .i64 y.kd) (v1 := .string y.F) (v2 := .string y.E) (v3 := .string y.T) (v4 := .int .i64 y.nn) (v5 := .int .i64 y.st) (v6 := .int .i64 y.nu) (v7 := .int .i64 y.ep) (v8 := .slice y.A y.ni y.ci) rfl rfl (by simp [Act.eval]; done) (by simp [Act.eval]; done) (by simp [Value.oneCell']) ot13 rfl ?_
              intro wt14 hnt14 hbet14 hbft14
              have hbt14 := hbet14 wd G1 hbt13
              have ot14 := hbft14 _ _ _ (show g2 ≠ g1 from hne.symm) hnt13
              refine hK.out _ _ ⟨hbft14 _ _ _ (hSt13.1.ne_ ot13 (by decide)) hSt13.1, hbft14 _ _ _ (hSt13.2.ne_ ot13 (by decide)) hSt13.2⟩ (fun hSt14 => ?rst14)
              clear hK K
              try simp only [Act.put]
              refine wpAnyH_done (by kernel_rfl) ?_ _
              refine NoPanic.normal ?_
              go_wp2_with fail
              go_meet
              exact Lib.hid ⟨g2, g1, _, rfl, rfl, ot14, hnt14, hdb.trans (hbt14.mono hdb.size), rfl⟩
            exact AllReadyH.nil
          case rest =>
            obtain ⟨ga, gb, w9, rfl, rfl, hga, hgb, hbw, hw9⟩ := hcut.out
            subst hw9
            clear hcut HAx HBx
            go_upto_region 8 with fail
            have HB9 := HB5.out.trans (hbw.mono HB5.out.size)
            have HB9d := Lib.hid HB9.drew
            have hga9 := hga.below (Below.refl _ _).drew hga.lt
            have hgb9 := hgb.below (Below.refl _ _).drew hgb.lt
            have hSb : Blk w9.drew g6a 46 #[.int .i64 x.kd, .string x.F, .string x.E, .string x.T, .int .i64 x.nn, .int .i64 x.st, .int .i64 x.nu, .int .i64 x.ep, .slice x.A x.ni x.ci, .int .i64 x.me, .int .i64 x.at_] := (HAX.out.below hbw HAX.out.lt).below (Below.refl _ _).drew (HAX.out.below hbw HAX.out.lt).lt
            have HSB := Lib.hid hSb
            have hXx := (HX0.out k x HX.out).below HB9.drew
            have hXy := (HX0.out q y HY.out).below HB9.drew
            clear hga hgb hbw hSb HB9
            by_cases h1 : x.kd = 14
            · by_cases h2 : y.kd = 14
              · obtain ⟨e1, e2, e3, e4, e5, e6, e7, e8, e9⟩ := hXx.shape h1
                obtain ⟨f1, f2, f3, f4, f5, f6, f7, f8, f9⟩ := hXy.shape h2
                have hIx := hXx.blk h1
                have hIy := hXy.blk h2
                rw [h1, e1, e2, e3, e4, e5, e6, e7, e8, e9] at hga9
                rw [h2, f1, f2, f3, f4, f5, f6, f7, f8, f9] at hgb9
                have H1 := Lib.hid h1
                have H2 := Lib.hid h2
                clear e1 e2 e3 e4 e5 e6 e7 e8 e9 f1 f2 f3 f4 f5 f6 f7 f8 f9 hXx hXy h1 h2
                cases hit : (x.it.toList == y.it.toList) with
                | true =>
                  have hSm := SameR x.nn y.nn x.ig y.ig x.it y.it w9.drew hIx hIy
                  rw [hit, Bool.and_true] at hSm
                  have HS0 : Blk w9.drew ga 40 (laC x.nn x.ig) ∧ Blk w9.drew gb 40 (laC y.nn y.ig) ∧ Blk w9.drew x.ig 43 (itC x.it) ∧ Blk w9.drew y.ig 43 (itC y.it) := ⟨hga9, hgb9, hIx, hIy⟩
                  refine wp_region_noPanic ?_
                  refine wp_region_held_drew (S := fun wa => Blk wa ga 40 (laC x.nn x.ig) ∧ Blk wa gb 40 (laC y.nn y.ig) ∧ Blk wa x.ig 43 (itC x.it) ∧ Blk wa y.ig 43 (itC y.it)) (by kernel_rfl) HS0 (fun hHeld => ?_)
                  refine wpAnyH_take (i := 0) (oi := ?oia1) (v := ?va1) ?hia1 (by kernel_rfl) (by kernel_rfl) (by kernel_rfl) (fun _ _ _ h => h) ?hya1 HS0 ?resta1
                  case hia1 => (simp only [List.getElem?_toArray, List.getElem?_cons_zero]; try rfl)
                  case hya1 => (refine Or.inl ⟨by rfl, ?_⟩; intro w hSw; go_simp; (try with_reducible rfl))
                  try simp only [Act.put, List.setIfInBounds_toArray, List.set_cons_zero, List.set_cons_succ]
                  refine wpAnyH_take (i := 1) (oi := ?oia2) (v := ?va2) ?hia2 (by kernel_rfl) (by kernel_rfl) (by kernel_rfl) (fun _ _ _ h => h) ?hya2 HS0 ?resta2
                  case hia2 => (simp only [List.getElem?_toArray, List.getElem?_cons_succ, List.getElem?_cons_zero]; try rfl)
                  case hya2 => (refine Or.inl ⟨by rfl, ?_⟩; intro w hSw; have q := hSw.1.cell 0; go_simp; (try with_reducible rfl))
                  try simp only [Act.put, List.setIfInBounds_toArray, List.set_cons_zero, List.set_cons_succ]
                  refine wpAnyH_take (i := 2) (oi := ?oia3) (v := ?va3) ?hia3 (by kernel_rfl) (by kernel_rfl) (by kernel_rfl) (fun _ _ _ h => h) ?hya3 HS0 ?resta3
                  case hia3 => (simp only [List.getElem?_toArray, List.getElem?_cons_succ, List.getElem?_cons_zero]; try rfl)
                  case hya3 => (refine Or.inl ⟨by rfl, ?_⟩; intro w hSw; go_simp; (try with_reducible rfl))
                  try simp only [Act.put, List.setIfInBounds_toArray, List.set_cons_zero, List.set_cons_succ]
                  refine wpAnyH_take (i := 3) (oi := ?oia4) (v := ?va4) ?hia4 (by kernel_rfl) (by kernel_rfl) (by kernel_rfl) (fun _ _ _ h => h) ?hya4 HS0 ?resta4
                  case hia4 => (simp only [List.getElem?_toArray, List.getElem?_cons_succ, List.getElem?_cons_zero]; try rfl)
                  case hya4 => (refine Or.inl ⟨by rfl, ?_⟩; intro w hSw; go_simp; (try with_reducible rfl))
                  try simp only [Act.put, List.setIfInBounds_toArray, List.set_cons_zero, List.set_cons_succ]
                  refine wpAnyH_take (i := 4) (oi := ?oia5) (v := ?va5) ?hia5 (by kernel_rfl) (by kernel_rfl) (by kernel_rfl) (fun _ _ _ h => h) ?hya5 HS0 ?resta5
                  case hia5 => (simp only [List.getElem?_toArray, List.getElem?_cons_succ, List.getElem?_cons_zero]; try rfl)
                  case hya5 => (refine Or.inl ⟨by rfl, ?_⟩; intro w hSw; go_simp; (try with_reducible rfl))
                  try simp only [Act.put, List.setIfInBounds_toArray, List.set_cons_zero, List.set_cons_succ]
                  refine wpAnyH_take (i := 5) (oi := ?oia6) (v := ?va6) ?hia6 (by kernel_rfl) (by kernel_rfl) (by kernel_rfl) (fun _ _ _ h => h) ?hya6 HS0 ?resta6
                  case hia6 => (simp only [List.getElem?_toArray, List.getElem?_cons_succ, List.getElem?_cons_zero]; try rfl)
                  case hya6 => (refine Or.inl ⟨by rfl, ?_⟩; intro w hSw; have q := hSw.2.1.cell 0; go_simp; (try with_reducible rfl))
                  try simp only [Act.put, List.setIfInBounds_toArray, List.set_cons_zero, List.set_cons_succ]
                  refine wpAnyH_take (i := 6) (oi := ?oia7) (v := ?va7) ?hia7 (by kernel_rfl) (by kernel_rfl) (by kernel_rfl) (fun _ _ _ h => h) ?hya7 HS0 ?resta7
                  case hia7 => (simp only [List.getElem?_toArray, List.getElem?_cons_succ, List.getElem?_cons_zero]; try rfl)
                  case hya7 => (refine Or.inl ⟨by rfl, ?_⟩; intro w hSw; go_simp; (try with_reducible rfl))
                  try simp only [Act.put, List.setIfInBounds_toArray, List.set_cons_zero, List.set_cons_succ]
                  refine wpAnyH_take (i := 7) (oi := ?oia8) (v := ?va8) ?hia8 (by kernel_rfl) (by kernel_rfl) (by kernel_rfl) (fun _ _ _ h => h) ?hya8 HS0 ?resta8
                  case hia8 => (simp only [List.getElem?_toArray, List.getElem?_cons_succ, List.getElem?_cons_zero]; try rfl)
                  case hya8 => (refine Or.inl ⟨by rfl, ?_⟩; intro w hSw; go_simp; (try with_reducible rfl))
                  try simp only [Act.put, List.setIfInBounds_toArray, List.set_cons_zero, List.set_cons_succ]
                  refine wpAnyH_take (i := 8) (oi := ?oia9) (v := ?va9) ?hia9 (by kernel_rfl) (by kernel_rfl) (by kernel_rfl) (fun _ _ _ h => h) ?hya9 HS0 ?resta9
                  case hia9 => (simp only [List.getElem?_toArray, List.getElem?_cons_succ, List.getElem?_cons_zero]; try rfl)
                  case hya9 => (refine Or.inl ⟨by rfl, ?_⟩; intro w hSw; go_simp; (try with_reducible rfl))
                  try simp only [Act.put, List.setIfInBounds_toArray, List.set_cons_zero, List.set_cons_succ]
                  refine wpAnyH_take (i := 9) (oi := ?oia10) (v := ?va10) ?hia10 (by kernel_rfl) (by kernel_rfl) (by kernel_rfl) (fun _ _ _ h => h) ?hya10 HS0 ?resta10
                  case hia10 => (simp only [List.getElem?_toArray, List.getElem?_cons_succ, List.getElem?_cons_zero]; try rfl)
                  case hya10 => (refine Or.inl ⟨by rfl, ?_⟩; intro w hSw; go_simp; (try with_reducible rfl))
                  try simp only [Act.put, List.setIfInBounds_toArray, List.set_cons_zero, List.set_cons_succ]
                  refine wpAnyH_take (i := 10) (oi := ?oia11) (v := ?va11) ?hia11 (by kernel_rfl) (by kernel_rfl) (by kernel_rfl) (fun _ _ _ h => h) ?hya11 HS0 ?resta11
                  case hia11 => (simp only [List.getElem?_toArray, List.getElem?_cons_succ, List.getElem?_cons_zero]; try rfl)
                  case hya11 => (refine Or.inl ⟨by rfl, ?_⟩; intro w hSw; have q := hSw.1.cell 1; go_simp; (try with_reducible rfl))
                  try simp only [Act.put, List.setIfInBounds_toArray, List.set_cons_zero, List.set_cons_succ]
                  refine wpAnyH_take (i := 11) (oi := ?oia12) (v := ?va12) ?hia12 (by kernel_rfl) (by kernel_rfl) (by kernel_rfl) (fun _ _ _ h => h) ?hya12 HS0 ?resta12
                  case hia12 => (simp only [List.getElem?_toArray, List.getElem?_cons_succ, List.getElem?_cons_zero]; try rfl)
                  case hya12 => (refine Or.inl ⟨by rfl, ?_⟩; intro w hSw; go_simp; (try with_reducible rfl))
                  try simp only [Act.put, List.setIfInBounds_toArray, List.set_cons_zero, List.set_cons_succ]
                  refine wpAnyH_take (i := 12) (oi := ?oia13) (v := ?va13) ?hia13 (by kernel_rfl) (by kernel_rfl) (by kernel_rfl) (fun _ _ _ h => h) ?hya13 HS0 ?resta13
                  case hia13 => (simp only [List.getElem?_toArray, List.getElem?_cons_succ, List.getElem?_cons_zero]; try rfl)
                  case hya13 => (refine Or.inl ⟨by rfl, ?_⟩; intro w hSw; have q := hSw.2.1.cell 1; go_simp; (try with_reducible rfl))
                  try simp only [Act.put, List.setIfInBounds_toArray, List.set_cons_zero, List.set_cons_succ]
                  refine wpAnyH_take (i := 13) (oi := ?oia14) (v := ?va14) ?hia14 (by kernel_rfl) (by kernel_rfl) (by kernel_rfl) (fun _ _ _ h => h) ?hya14 HS0 ?resta14
                  case hia14 => (simp only [List.getElem?_toArray, List.getElem?_cons_succ, List.getElem?_cons_zero]; try rfl)
                  case hya14 => (refine Or.inl ⟨by rfl, ?_⟩; intro w hSw; go_simp; (try with_reducible rfl))
                  try simp only [Act.put, List.setIfInBounds_toArray, List.set_cons_zero, List.set_cons_succ]
                  refine wpAnyH_take (i := 14) (oi := ?oia15) (v := ?va15) ?hia15 (by kernel_rfl) (by kernel_rfl) (by kernel_rfl) (fun _ _ _ h => h) ?hya15 HS0 ?resta15
                  case hia15 => (simp only [List.getElem?_toArray, List.getElem?_cons_succ, List.getElem?_cons_zero]; try rfl)
                  case hya15 => (refine Or.inl ⟨by rfl, ?_⟩; intro w hSw; go_simp; (try with_reducible rfl))
                  try simp only [Act.put, List.setIfInBounds_toArray, List.set_cons_zero, List.set_cons_succ]
                  refine wpAnyH_take (i := 15) (oi := ?oia16) (v := ?va16) ?hia16 (by kernel_rfl) (by kernel_rfl) (by kernel_rfl) (fun _ _ _ h => h) ?hya16 HS0 ?resta16
                  case hia16 => (simp only [List.getElem?_toArray, List.getElem?_cons_succ, List.getElem?_cons_zero]; try rfl)
                  case hya16 => (refine Or.inl ⟨by rfl, ?_⟩; intro w hSw; go_simp; (try with_reducible rfl))
                  try simp only [Act.put, List.setIfInBounds_toArray, List.set_cons_zero, List.set_cons_succ]
                  refine wpAnyH_take (i := 16) (oi := ?oia17) (v := ?va17) ?hia17 (by kernel_rfl) (by kernel_rfl) (by kernel_rfl) (fun _ _ _ h => h) ?hya17 HS0 ?resta17
                  case hia17 => (simp only [List.getElem?_toArray, List.getElem?_cons_succ, List.getElem?_cons_zero]; try rfl)
                  case hya17 => (refine Or.inl ⟨by rfl, ?_⟩; intro w hSw; go_simp; (try with_reducible rfl))
                  try simp only [Act.put, List.setIfInBounds_toArray, List.set_cons_zero, List.set_cons_succ]
                  refine wpAnyH_take (i := 17) (oi := ?oia18) (v := ?va18) ?hia18 (by kernel_rfl) (by kernel_rfl) (by kernel_rfl) (fun _ _ _ h => h) ?hya18 HS0 ?resta18
                  case hia18 => (simp only [List.getElem?_toArray, List.getElem?_cons_succ, List.getElem?_cons_zero]; try rfl)
                  case hya18 => (refine Or.inl ⟨by rfl, ?_⟩; intro w hSw; have q := hSw.1.cell 8; go_simp; (try with_reducible rfl))
                  try simp only [Act.put, List.setIfInBounds_toArray, List.set_cons_zero, List.set_cons_succ]
                  refine wpAnyH_take (i := 18) (oi := ?oia19) (v := ?va19) ?hia19 (by kernel_rfl) (by kernel_rfl) (by kernel_rfl) (fun _ _ _ h => h) ?hya19 HS0 ?resta19
                  case hia19 => (simp only [List.getElem?_toArray, List.getElem?_cons_succ, List.getElem?_cons_zero]; try rfl)
                  case hya19 => (refine Or.inl ⟨by rfl, ?_⟩; intro w hSw; go_simp; (try with_reducible rfl))
                  try simp only [Act.put, List.setIfInBounds_toArray, List.set_cons_zero, List.set_cons_succ]
                  refine wpAnyH_take (i := 19) (oi := ?oia20) (v := ?va20) ?hia20 (by kernel_rfl) (by kernel_rfl) (by kernel_rfl) (fun _ _ _ h => h) ?hya20 HS0 ?resta20
                  case hia20 => (simp only [List.getElem?_toArray, List.getElem?_cons_succ, List.getElem?_cons_zero]; try rfl)
                  case hya20 => (refine Or.inl ⟨by rfl, ?_⟩; intro w hSw; go_simp; (try with_reducible rfl))
                  try simp only [Act.put, List.setIfInBounds_toArray, List.set_cons_zero, List.set_cons_succ]
                  refine wpAnyH_take (i := 20) (oi := ?oia21) (v := ?va21) ?hia21 (by kernel_rfl) (by kernel_rfl) (by kernel_rfl) (fun _ _ _ h => h) ?hya21 HS0 ?resta21
                  case hia21 => (simp only [List.getElem?_toArray, List.getElem?_cons_succ, List.getElem?_cons_zero]; try rfl)
                  case hya21 => (refine Or.inl ⟨by rfl, ?_⟩; intro w hSw; go_simp; (try with_reducible rfl))
                  try simp only [Act.put, List.setIfInBounds_toArray, List.set_cons_zero, List.set_cons_succ]
                  refine wpAnyH_take (i := 21) (oi := ?oia22) (v := ?va22) ?hia22 (by kernel_rfl) (by kernel_rfl) (by kernel_rfl) (fun _ _ _ h => h) ?hya22 HS0 ?resta22
                  case hia22 => (simp only [List.getElem?_toArray, List.getElem?_cons_succ, List.getElem?_cons_zero]; try rfl)
                  case hya22 => (refine Or.inl ⟨by rfl, ?_⟩; intro w hSw; go_simp; (try with_reducible rfl))
                  try simp only [Act.put, List.setIfInBounds_toArray, List.set_cons_zero, List.set_cons_succ]
                  refine wpAnyH_take (i := 22) (oi := ?oia23) (v := ?va23) ?hia23 (by kernel_rfl) (by kernel_rfl) (by kernel_rfl) (fun _ _ _ h => h) ?hya23 HS0 ?resta23
                  case hia23 => (simp only [List.getElem?_toArray, List.getElem?_cons_succ, List.getElem?_cons_zero]; try rfl)
                  case hya23 => (refine Or.inl ⟨by rfl, ?_⟩; intro w hSw; go_simp; (try with_reducible rfl))
                  try simp only [Act.put, List.setIfInBounds_toArray, List.set_cons_zero, List.set_cons_succ]
                  refine wpAnyH_take (i := 23) (oi := ?oia24) (v := ?va24) ?hia24 (by kernel_rfl) (by kernel_rfl) (by kernel_rfl) (fun _ _ _ h => h) ?hya24 HS0 ?resta24
                  case hia24 => (simp only [List.getElem?_toArray, List.getElem?_cons_succ, List.getElem?_cons_zero]; try rfl)
                  case hya24 => (refine Or.inl ⟨by rfl, ?_⟩; intro w hSw; have q := hSw.2.1.cell 8; go_simp; (try with_reducible rfl))
                  try simp only [Act.put, List.setIfInBounds_toArray, List.set_cons_zero, List.set_cons_succ]
                  refine wpAnyH_take (i := 24) (oi := ?oia25) (v := ?va25) ?hia25 (by kernel_rfl) (by kernel_rfl) (by kernel_rfl) (fun _ _ _ h => h) ?hya25 HS0 ?resta25
                  case hia25 => (simp only [List.getElem?_toArray, List.getElem?_cons_succ, List.getElem?_cons_zero]; try rfl)
                  case hya25 => (refine Or.inl ⟨by rfl, ?_⟩; intro w hSw; go_simp; (try with_reducible rfl))
                  try simp only [Act.put, List.setIfInBounds_toArray, List.set_cons_zero, List.set_cons_succ]
                  refine wpAnyH_take (i := 25) (oi := ?oia26) (v := ?va26) ?hia26 (by kernel_rfl) (by kernel_rfl) (by kernel_rfl) (fun _ _ _ h => h) ?hya26 HS0 ?resta26
                  case hia26 => (simp only [List.getElem?_toArray, List.getElem?_cons_succ, List.getElem?_cons_zero]; try rfl)
                  case hya26 => (refine Or.inl ⟨by rfl, ?_⟩; intro w hSw; go_simp; (try with_reducible rfl))
                  try simp only [Act.put, List.setIfInBounds_toArray, List.set_cons_zero, List.set_cons_succ]
                  refine wpAnyH_take (i := 26) (oi := ?oia27) (v := ?va27) ?hia27 (by kernel_rfl) (by kernel_rfl) (by kernel_rfl) (fun _ _ _ h => h) ?hya27 HS0 ?resta27
                  case hia27 => (simp only [List.getElem?_toArray, List.getElem?_cons_succ, List.getElem?_cons_zero]; try rfl)
                  case hya27 => (refine Or.inl ⟨by rfl, ?_⟩; intro w hSw; go_simp; (try with_reducible rfl))
                  try simp only [Act.put, List.setIfInBounds_toArray, List.set_cons_zero, List.set_cons_succ]
                  refine wpAnyH_take (i := 27) (oi := ?oia28) (v := ?va28) ?hia28 (by kernel_rfl) (by kernel_rfl) (by kernel_rfl) (fun _ _ _ h => h) ?hya28 HS0 ?resta28
                  case hia28 => (simp only [List.getElem?_toArray, List.getElem?_cons_succ, List.getElem?_cons_zero]; try rfl)
                  case hya28 => (refine Or.inl ⟨by rfl, ?_⟩; intro w hSw; go_simp; (try with_reducible rfl))
                  try simp only [Act.put, List.setIfInBounds_toArray, List.set_cons_zero, List.set_cons_succ]
                  refine wpAnyH_take (i := 28) (oi := ?oia29) (v := ?va29) ?hia29 (by kernel_rfl) (by kernel_rfl) (by kernel_rfl) (fun _ _ _ h => h) ?hya29 HS0 ?resta29
                  case hia29 => (simp only [List.getElem?_toArray, List.getElem?_cons_succ, List.getElem?_cons_zero]; try rfl)
                  case hya29 => (refine Or.inl ⟨by rfl, ?_⟩; intro w hSw; go_simp; (try with_reducible rfl))
                  try simp only [Act.put, List.setIfInBounds_toArray, List.set_cons_zero, List.set_cons_succ]
                  refine wpAnyH_take (i := 29) (oi := ?oia30) (v := ?va30) ?hia30 (by kernel_rfl) (by kernel_rfl) (by kernel_rfl) (fun _ _ _ h => h) ?hya30 HS0 ?resta30
                  case hia30 => (simp only [List.getElem?_toArray, List.getElem?_cons_succ, List.getElem?_cons_zero]; try rfl)
                  case hya30 => (refine Or.inl ⟨by rfl, ?_⟩; intro w hSw; have q := hSw.1.cell 8; go_simp; (try with_reducible rfl))
                  try simp only [Act.put, List.setIfInBounds_toArray, List.set_cons_zero, List.set_cons_succ]
                  refine wpAnyH_take (i := 30) (oi := ?oia31) (v := ?va31) ?hia31 (by kernel_rfl) (by kernel_rfl) (by kernel_rfl) (fun _ _ _ h => h) ?hya31 HS0 ?resta31
                  case hia31 => (simp only [List.getElem?_toArray, List.getElem?_cons_succ, List.getElem?_cons_zero]; try rfl)
                  case hya31 => (refine Or.inl ⟨by rfl, ?_⟩; intro w hSw; go_simp; (try with_reducible rfl))
                  try simp only [Act.put, List.setIfInBounds_toArray, List.set_cons_zero, List.set_cons_succ]
                  refine wpAnyH_take (i := 31) (oi := ?oia32) (v := ?va32) ?hia32 (by kernel_rfl) (by kernel_rfl) (by kernel_rfl) (fun _ _ _ h => h) ?hya32 HS0 ?resta32
                  case hia32 => (simp only [List.getElem?_toArray, List.getElem?_cons_succ, List.getElem?_cons_zero]; try rfl)
                  case hya32 => (refine Or.inl ⟨by rfl, ?_⟩; intro w hSw; go_simp; (try with_reducible rfl))
                  try simp only [Act.put, List.setIfInBounds_toArray, List.set_cons_zero, List.set_cons_succ]
                  refine wpAnyH_take (i := 32) (oi := ?oia33) (v := ?va33) ?hia33 (by kernel_rfl) (by kernel_rfl) (by kernel_rfl) (fun _ _ _ h => h) ?hya33 HS0 ?resta33
                  case hia33 => (simp only [List.getElem?_toArray, List.getElem?_cons_succ, List.getElem?_cons_zero]; try rfl)
                  case hya33 => (refine Or.inl ⟨by rfl, ?_⟩; intro w hSw; have q := hSw.2.2.1.cell 0; go_simp; (try with_reducible rfl))
                  try simp only [Act.put, List.setIfInBounds_toArray, List.set_cons_zero, List.set_cons_succ]
                  refine wpAnyH_take (i := 33) (oi := ?oia34) (v := ?va34) ?hia34 (by kernel_rfl) (by kernel_rfl) (by kernel_rfl) (fun _ _ _ h => h) ?hya34 HS0 ?resta34
                  case hia34 => (simp only [List.getElem?_toArray, List.getElem?_cons_succ, List.getElem?_cons_zero]; try rfl)
                  case hya34 => (refine Or.inl ⟨by rfl, ?_⟩; intro w hSw; go_simp; (try with_reducible rfl))
                  try simp only [Act.put, List.setIfInBounds_toArray, List.set_cons_zero, List.set_cons_succ]
                  refine wpAnyH_take (i := 34) (oi := ?oia35) (v := ?va35) ?hia35 (by kernel_rfl) (by kernel_rfl) (by kernel_rfl) (fun _ _ _ h => h) ?hya35 HS0 ?resta35
                  case hia35 => (simp only [List.getElem?_toArray, List.getElem?_cons_succ, List.getElem?_cons_zero]; try rfl)
                  case hya35 => (refine Or.inl ⟨by rfl, ?_⟩; intro w hSw; have q := hSw.2.1.cell 8; go_simp; (try with_reducible rfl))
                  try simp only [Act.put, List.setIfInBounds_toArray, List.set_cons_zero, List.set_cons_succ]
                  refine wpAnyH_take (i := 35) (oi := ?oia36) (v := ?va36) ?hia36 (by kernel_rfl) (by kernel_rfl) (by kernel_rfl) (fun _ _ _ h => h) ?hya36 HS0 ?resta36
                  case hia36 => (simp only [List.getElem?_toArray, List.getElem?_cons_succ, List.getElem?_cons_zero]; try rfl)
                  case hya36 => (refine Or.inl ⟨by rfl, ?_⟩; intro w hSw; go_simp; (try with_reducible rfl))
                  try simp only [Act.put, List.setIfInBounds_toArray, List.set_cons_zero, List.set_cons_succ]
                  refine wpAnyH_take (i := 36) (oi := ?oia37) (v := ?va37) ?hia37 (by kernel_rfl) (by kernel_rfl) (by kernel_rfl) (fun _ _ _ h => h) ?hya37 HS0 ?resta37
                  case hia37 => (simp only [List.getElem?_toArray, List.getElem?_cons_succ, List.getElem?_cons_zero]; try rfl)
                  case hya37 => (refine Or.inl ⟨by rfl, ?_⟩; intro w hSw; go_simp; (try with_reducible rfl))
                  try simp only [Act.put, List.setIfInBounds_toArray, List.set_cons_zero, List.set_cons_succ]
                  refine wpAnyH_take (i := 37) (oi := ?oia38) (v := ?va38) ?hia38 (by kernel_rfl) (by kernel_rfl) (by kernel_rfl) (fun _ _ _ h => h) ?hya38 HS0 ?resta38
                  case hia38 => (simp only [List.getElem?_toArray, List.getElem?_cons_succ, List.getElem?_cons_zero]; try rfl)
                  case hya38 => (refine Or.inl ⟨by rfl, ?_⟩; intro w hSw; have q := hSw.2.2.2.cell 0; go_simp; (try with_reducible rfl))
                  try simp only [Act.put, List.setIfInBounds_toArray, List.set_cons_zero, List.set_cons_succ]
                  refine wpAnyH_take (i := 38) (oi := ?oia39) (v := ?va39) ?hia39 (by kernel_rfl) (by kernel_rfl) (by kernel_rfl) (fun _ _ _ h => h) ?hya39 HS0 ?resta39
                  case hia39 => (simp only [List.getElem?_toArray, List.getElem?_cons_succ, List.getElem?_cons_zero]; try rfl)
                  case hya39 => (refine Or.inl ⟨by rfl, ?_⟩; intro w hSw; go_simp; (try with_reducible rfl))
                  try simp only [Act.put, List.setIfInBounds_toArray, List.set_cons_zero, List.set_cons_succ]
                  refine wpAnyH_take (i := 39) (oi := ?oia40) (v := ?va40) ?hia40 (by kernel_rfl) (by kernel_rfl) (by kernel_rfl) (fun _ _ _ h => h) ?hya40 HS0 ?resta40
                  case hia40 => (simp only [List.getElem?_toArray, List.getElem?_cons_succ, List.getElem?_cons_zero]; try rfl)
                  case hya40 => (refine Or.inl ⟨by rfl, ?_⟩; intro w hSw; go_simp; (try with_reducible rfl))
                  try simp only [Act.put, List.setIfInBounds_toArray, List.set_cons_zero, List.set_cons_succ]
                  refine wpAnyH_take (i := 40) (oi := ?oia41) (v := ?va41) ?hia41 (by kernel_rfl) (by kernel_rfl) (by kernel_rfl) (fun _ _ _ h => h) ?hya41 HS0 ?resta41
                  case hia41 => (simp only [List.getElem?_toArray, List.getElem?_cons_succ, List.getElem?_cons_zero]; try rfl)
                  case hya41 => (refine Or.inl ⟨by rfl, ?_⟩; intro w hSw; go_simp; (try with_reducible rfl))
                  try simp only [Act.put, List.setIfInBounds_toArray, List.set_cons_zero, List.set_cons_succ]
                  refine wpAnyH_take (i := 41) (oi := ?oia42) (v := ?va42) ?hia42 (by kernel_rfl) (by kernel_rfl) (by kernel_rfl) (fun _ _ _ h => h) ?hya42 HS0 ?resta42
                  case hia42 => (simp only [List.getElem?_toArray, List.getElem?_cons_succ, List.getElem?_cons_zero]; try rfl)
                  case hya42 => (refine Or.inl ⟨by rfl, ?_⟩; intro w hSw; have q0 := hSw.1.cell 0; have q1 := hSw.1.cell 1; have q2 := hSw.1.cell 2; have q3 := hSw.1.cell 3; have q4 := hSw.1.cell 4; have q5 := hSw.1.cell 5; have q6 := hSw.1.cell 6; have q7 := hSw.1.cell 7; have q8 := hSw.1.cell 8; go_simp; (try with_reducible rfl))
                  try simp only [Act.put, List.setIfInBounds_toArray, List.set_cons_zero, List.set_cons_succ]
                  refine wpAnyH_take (i := 42) (oi := ?oia43) (v := ?va43) ?hia43 (by kernel_rfl) (by kernel_rfl) (by kernel_rfl) (fun _ _ _ h => h) ?hya43 HS0 ?resta43
                  case hia43 => (simp only [List.getElem?_toArray, List.getElem?_cons_succ, List.getElem?_cons_zero]; try rfl)
                  case hya43 => (refine Or.inl ⟨by rfl, ?_⟩; intro w hSw; have q0 := hSw.2.1.cell 0; have q1 := hSw.2.1.cell 1; have q2 := hSw.2.1.cell 2; have q3 := hSw.2.1.cell 3; have q4 := hSw.2.1.cell 4; have q5 := hSw.2.1.cell 5; have q6 := hSw.2.1.cell 6; have q7 := hSw.2.1.cell 7; have q8 := hSw.2.1.cell 8; go_simp; (try with_reducible rfl))
                  try simp only [Act.put, List.setIfInBounds_toArray, List.set_cons_zero, List.set_cons_succ]
                  refine wpAnyH_ready (rs := [43]) (by kernel_rfl) (by simp) ?_
                  refine AllReadyH.cons (o := ?oia44) ?hia44 (fun K hK => ?sta44) AllReadyH.nil
                  case hia44 => (simp only [List.getElem?_toArray, List.getElem?_cons_succ, List.getElem?_cons_zero]; try rfl)
                  go_simp
                  go_at_call 17
                  refine hSm.mono ?_
                  rintro e w5 ⟨rfl, hb5⟩
                  try dsimp only
                  have HS5 := (show Blk w5 ga 40 (laC x.nn x.ig) ∧ Blk w5 gb 40 (laC y.nn y.ig) ∧ Blk w5 x.ig 43 (itC x.it) ∧ Blk w5 y.ig 43 (itC y.it) from ⟨HS0.1.below hb5 HS0.1.lt, HS0.2.1.below hb5 HS0.2.1.lt, HS0.2.2.1.below hb5 HS0.2.2.1.lt, HS0.2.2.2.below hb5 HS0.2.2.2.lt⟩)
                  refine hK.out _ _ HS5 (fun _ => ?rsa44)
                  clear hK K
                  try simp only [Act.put, List.setIfInBounds_toArray, List.set_cons_zero, List.set_cons_succ]
                  refine wpAnyH_take (i := 44) (oi := ?oia45) (v := ?va45) ?hia45 (by kernel_rfl) (by kernel_rfl) (by kernel_rfl) (fun _ _ _ h => h) ?hya45 HS5 ?resta45
                  case hia45 => (simp only [List.getElem?_toArray, List.getElem?_cons_succ, List.getElem?_cons_zero]; try rfl)
                  case hya45 => (refine Or.inl ⟨by rfl, ?_⟩; intro w hSw; go_simp; (try with_reducible rfl))
                  try simp only [Act.put, List.setIfInBounds_toArray, List.set_cons_zero, List.set_cons_succ]
                  refine wpAnyH_take (i := 45) (oi := ?oia46) (v := ?va46) ?hia46 (by kernel_rfl) (by kernel_rfl) (by kernel_rfl) (fun _ _ _ h => h) ?hya46 HS5 ?resta46
                  case hia46 => (simp only [List.getElem?_toArray, List.getElem?_cons_succ, List.getElem?_cons_zero]; try rfl)
                  case hya46 => (refine Or.inl ⟨by rfl, ?_⟩; intro w hSw; go_simp; (try with_reducible rfl))
                  try simp only [Act.put, List.setIfInBounds_toArray, List.set_cons_zero, List.set_cons_succ]
                  refine wpAnyH_done (by kernel_rfl) ?_ _
                  refine NoPanic.normal ?_
                  have HB5' := Lib.hid (HB9d.out.trans (hb5.mono HB9d.out.size))
                  have HSB5 := Lib.hid (HSB.out.below hb5 HSB.out.lt)
                  clear hSm HS0 HS5 hb5 hga9 hgb9 hIx hIy
                  cases hnn : (x.nn == y.nn) with
                  | true =>
                    have HLK := Lib.hid (show lk x y = true by unfold lk; rw [hnn]; simp)
                    go_wp2_with fail
                    refine ⟨?_, by simp [intOf]; omega⟩
                    exact Lib.hid ⟨q + 1, by simp, by omega, lt_succ_cases HY.out HP2.out HLK.out, HB5'.out, HSB5.out, _, rfl⟩
                  | false =>
                    have HLK := Lib.hid (okL_fail (List.mem_of_getElem? HX.out) (List.mem_of_getElem? HY.out) (show lk x y = false by unfold lk; rw [hnn, H1.out, H2.out, hit]; rfl))
                    go_wp2_with fail
                    go_ret
                    exact ⟨by rw [HLK.out]; rfl, HB5'.out⟩
                | false =>
                  have HS0 : Blk w9.drew ga 40 (laC x.nn x.ig) ∧ Blk w9.drew gb 40 (laC y.nn y.ig) ∧ Blk w9.drew x.ig 43 (itC x.it) ∧ Blk w9.drew y.ig 43 (itC y.it) := ⟨hga9, hgb9, hIx, hIy⟩
                  refine wp_region_noPanic ?_
                  refine wp_region_held_drew (S := fun wa => Blk wa ga 40 (laC x.nn x.ig) ∧ Blk wa gb 40 (laC y.nn y.ig) ∧ Blk wa x.ig 43 (itC x.it) ∧ Blk wa y.ig 43 (itC y.it)) (by kernel_rfl) HS0 (fun hHeld => ?_)
                  refine wpAnyH_take (i := 0) (oi := ?oib1) (v := ?vb1) ?hib1 (by kernel_rfl) (by kernel_rfl) (by kernel_rfl) (fun _ _ _ h => h) ?hyb1 HS0 ?restb1
                  case hib1 => (simp only [List.getElem?_toArray, List.getElem?_cons_zero]; try rfl)
                  case hyb1 => (refine Or.inl ⟨by rfl, ?_⟩; intro w hSw; go_simp; (try with_reducible rfl))
                  try simp only [Act.put, List.setIfInBounds_toArray, List.set_cons_zero, List.set_cons_succ]
                  refine wpAnyH_take (i := 1) (oi := ?oib2) (v := ?vb2) ?hib2 (by kernel_rfl) (by kernel_rfl) (by kernel_rfl) (fun _ _ _ h => h) ?hyb2 HS0 ?restb2
                  case hib2 => (simp only [List.getElem?_toArray, List.getElem?_cons_succ, List.getElem?_cons_zero]; try rfl)
                  case hyb2 => (refine Or.inl ⟨by rfl, ?_⟩; intro w hSw; have q := hSw.1.cell 0; go_simp; (try with_reducible rfl))
                  try simp only [Act.put, List.setIfInBounds_toArray, List.set_cons_zero, List.set_cons_succ]
                  refine wpAnyH_take (i := 2) (oi := ?oib3) (v := ?vb3) ?hib3 (by kernel_rfl) (by kernel_rfl) (by kernel_rfl) (fun _ _ _ h => h) ?hyb3 HS0 ?restb3
                  case hib3 => (simp only [List.getElem?_toArray, List.getElem?_cons_succ, List.getElem?_cons_zero]; try rfl)
                  case hyb3 => (refine Or.inl ⟨by rfl, ?_⟩; intro w hSw; go_simp; (try with_reducible rfl))
                  try simp only [Act.put, List.setIfInBounds_toArray, List.set_cons_zero, List.set_cons_succ]
                  refine wpAnyH_take (i := 3) (oi := ?oib4) (v := ?vb4) ?hib4 (by kernel_rfl) (by kernel_rfl) (by kernel_rfl) (fun _ _ _ h => h) ?hyb4 HS0 ?restb4
                  case hib4 => (simp only [List.getElem?_toArray, List.getElem?_cons_succ, List.getElem?_cons_zero]; try rfl)
                  case hyb4 => (refine Or.inl ⟨by rfl, ?_⟩; intro w hSw; go_simp; (try with_reducible rfl))
                  try simp only [Act.put, List.setIfInBounds_toArray, List.set_cons_zero, List.set_cons_succ]
                  refine wpAnyH_take (i := 4) (oi := ?oib5) (v := ?vb5) ?hib5 (by kernel_rfl) (by kernel_rfl) (by kernel_rfl) (fun _ _ _ h => h) ?hyb5 HS0 ?restb5
                  case hib5 => (simp only [List.getElem?_toArray, List.getElem?_cons_succ, List.getElem?_cons_zero]; try rfl)
                  case hyb5 => (refine Or.inl ⟨by rfl, ?_⟩; intro w hSw; go_simp; (try with_reducible rfl))
                  try simp only [Act.put, List.setIfInBounds_toArray, List.set_cons_zero, List.set_cons_succ]
                  refine wpAnyH_take (i := 5) (oi := ?oib6) (v := ?vb6) ?hib6 (by kernel_rfl) (by kernel_rfl) (by kernel_rfl) (fun _ _ _ h => h) ?hyb6 HS0 ?restb6
                  case hib6 => (simp only [List.getElem?_toArray, List.getElem?_cons_succ, List.getElem?_cons_zero]; try rfl)
                  case hyb6 => (refine Or.inl ⟨by rfl, ?_⟩; intro w hSw; have q := hSw.2.1.cell 0; go_simp; (try with_reducible rfl))
                  try simp only [Act.put, List.setIfInBounds_toArray, List.set_cons_zero, List.set_cons_succ]
                  refine wpAnyH_take (i := 6) (oi := ?oib7) (v := ?vb7) ?hib7 (by kernel_rfl) (by kernel_rfl) (by kernel_rfl) (fun _ _ _ h => h) ?hyb7 HS0 ?restb7
                  case hib7 => (simp only [List.getElem?_toArray, List.getElem?_cons_succ, List.getElem?_cons_zero]; try rfl)
                  case hyb7 => (refine Or.inl ⟨by rfl, ?_⟩; intro w hSw; go_simp; (try with_reducible rfl))
                  try simp only [Act.put, List.setIfInBounds_toArray, List.set_cons_zero, List.set_cons_succ]
                  refine wpAnyH_take (i := 7) (oi := ?oib8) (v := ?vb8) ?hib8 (by kernel_rfl) (by kernel_rfl) (by kernel_rfl) (fun _ _ _ h => h) ?hyb8 HS0 ?restb8
                  case hib8 => (simp only [List.getElem?_toArray, List.getElem?_cons_succ, List.getElem?_cons_zero]; try rfl)
                  case hyb8 => (refine Or.inl ⟨by rfl, ?_⟩; intro w hSw; go_simp; (try with_reducible rfl))
                  try simp only [Act.put, List.setIfInBounds_toArray, List.set_cons_zero, List.set_cons_succ]
                  refine wpAnyH_take (i := 8) (oi := ?oib9) (v := ?vb9) ?hib9 (by kernel_rfl) (by kernel_rfl) (by kernel_rfl) (fun _ _ _ h => h) ?hyb9 HS0 ?restb9
                  case hib9 => (simp only [List.getElem?_toArray, List.getElem?_cons_succ, List.getElem?_cons_zero]; try rfl)
                  case hyb9 => (refine Or.inl ⟨by rfl, ?_⟩; intro w hSw; go_simp; (try with_reducible rfl))
                  try simp only [Act.put, List.setIfInBounds_toArray, List.set_cons_zero, List.set_cons_succ]
                  refine wpAnyH_take (i := 9) (oi := ?oib10) (v := ?vb10) ?hib10 (by kernel_rfl) (by kernel_rfl) (by kernel_rfl) (fun _ _ _ h => h) ?hyb10 HS0 ?restb10
                  case hib10 => (simp only [List.getElem?_toArray, List.getElem?_cons_succ, List.getElem?_cons_zero]; try rfl)
                  case hyb10 => (refine Or.inl ⟨by rfl, ?_⟩; intro w hSw; go_simp; (try with_reducible rfl))
                  try simp only [Act.put, List.setIfInBounds_toArray, List.set_cons_zero, List.set_cons_succ]
                  refine wpAnyH_take (i := 10) (oi := ?oib11) (v := ?vb11) ?hib11 (by kernel_rfl) (by kernel_rfl) (by kernel_rfl) (fun _ _ _ h => h) ?hyb11 HS0 ?restb11
                  case hib11 => (simp only [List.getElem?_toArray, List.getElem?_cons_succ, List.getElem?_cons_zero]; try rfl)
                  case hyb11 => (refine Or.inl ⟨by rfl, ?_⟩; intro w hSw; have q := hSw.1.cell 1; go_simp; (try with_reducible rfl))
                  try simp only [Act.put, List.setIfInBounds_toArray, List.set_cons_zero, List.set_cons_succ]
                  refine wpAnyH_take (i := 11) (oi := ?oib12) (v := ?vb12) ?hib12 (by kernel_rfl) (by kernel_rfl) (by kernel_rfl) (fun _ _ _ h => h) ?hyb12 HS0 ?restb12
                  case hib12 => (simp only [List.getElem?_toArray, List.getElem?_cons_succ, List.getElem?_cons_zero]; try rfl)
                  case hyb12 => (refine Or.inl ⟨by rfl, ?_⟩; intro w hSw; go_simp; (try with_reducible rfl))
                  try simp only [Act.put, List.setIfInBounds_toArray, List.set_cons_zero, List.set_cons_succ]
                  refine wpAnyH_take (i := 12) (oi := ?oib13) (v := ?vb13) ?hib13 (by kernel_rfl) (by kernel_rfl) (by kernel_rfl) (fun _ _ _ h => h) ?hyb13 HS0 ?restb13
                  case hib13 => (simp only [List.getElem?_toArray, List.getElem?_cons_succ, List.getElem?_cons_zero]; try rfl)
                  case hyb13 => (refine Or.inl ⟨by rfl, ?_⟩; intro w hSw; have q := hSw.2.1.cell 1; go_simp; (try with_reducible rfl))
                  try simp only [Act.put, List.setIfInBounds_toArray, List.set_cons_zero, List.set_cons_succ]
                  refine wpAnyH_take (i := 13) (oi := ?oib14) (v := ?vb14) ?hib14 (by kernel_rfl) (by kernel_rfl) (by kernel_rfl) (fun _ _ _ h => h) ?hyb14 HS0 ?restb14
                  case hib14 => (simp only [List.getElem?_toArray, List.getElem?_cons_succ, List.getElem?_cons_zero]; try rfl)
                  case hyb14 => (refine Or.inl ⟨by rfl, ?_⟩; intro w hSw; go_simp; (try with_reducible rfl))
                  try simp only [Act.put, List.setIfInBounds_toArray, List.set_cons_zero, List.set_cons_succ]
                  refine wpAnyH_take (i := 14) (oi := ?oib15) (v := ?vb15) ?hib15 (by kernel_rfl) (by kernel_rfl) (by kernel_rfl) (fun _ _ _ h => h) ?hyb15 HS0 ?restb15
                  case hib15 => (simp only [List.getElem?_toArray, List.getElem?_cons_succ, List.getElem?_cons_zero]; try rfl)
                  case hyb15 => (refine Or.inl ⟨by rfl, ?_⟩; intro w hSw; go_simp; (try with_reducible rfl))
                  try simp only [Act.put, List.setIfInBounds_toArray, List.set_cons_zero, List.set_cons_succ]
                  refine wpAnyH_take (i := 15) (oi := ?oib16) (v := ?vb16) ?hib16 (by kernel_rfl) (by kernel_rfl) (by kernel_rfl) (fun _ _ _ h => h) ?hyb16 HS0 ?restb16
                  case hib16 => (simp only [List.getElem?_toArray, List.getElem?_cons_succ, List.getElem?_cons_zero]; try rfl)
                  case hyb16 => (refine Or.inl ⟨by rfl, ?_⟩; intro w hSw; go_simp; (try with_reducible rfl))
                  try simp only [Act.put, List.setIfInBounds_toArray, List.set_cons_zero, List.set_cons_succ]
                  refine wpAnyH_take (i := 16) (oi := ?oib17) (v := ?vb17) ?hib17 (by kernel_rfl) (by kernel_rfl) (by kernel_rfl) (fun _ _ _ h => h) ?hyb17 HS0 ?restb17
                  case hib17 => (simp only [List.getElem?_toArray, List.getElem?_cons_succ, List.getElem?_cons_zero]; try rfl)
                  case hyb17 => (refine Or.inl ⟨by rfl, ?_⟩; intro w hSw; go_simp; (try with_reducible rfl))
                  try simp only [Act.put, List.setIfInBounds_toArray, List.set_cons_zero, List.set_cons_succ]
                  refine wpAnyH_take (i := 17) (oi := ?oib18) (v := ?vb18) ?hib18 (by kernel_rfl) (by kernel_rfl) (by kernel_rfl) (fun _ _ _ h => h) ?hyb18 HS0 ?restb18
                  case hib18 => (simp only [List.getElem?_toArray, List.getElem?_cons_succ, List.getElem?_cons_zero]; try rfl)
                  case hyb18 => (refine Or.inl ⟨by rfl, ?_⟩; intro w hSw; have q := hSw.1.cell 8; go_simp; (try with_reducible rfl))
                  try simp only [Act.put, List.setIfInBounds_toArray, List.set_cons_zero, List.set_cons_succ]
                  refine wpAnyH_take (i := 18) (oi := ?oib19) (v := ?vb19) ?hib19 (by kernel_rfl) (by kernel_rfl) (by kernel_rfl) (fun _ _ _ h => h) ?hyb19 HS0 ?restb19
                  case hib19 => (simp only [List.getElem?_toArray, List.getElem?_cons_succ, List.getElem?_cons_zero]; try rfl)
                  case hyb19 => (refine Or.inl ⟨by rfl, ?_⟩; intro w hSw; go_simp; (try with_reducible rfl))
                  try simp only [Act.put, List.setIfInBounds_toArray, List.set_cons_zero, List.set_cons_succ]
                  refine wpAnyH_take (i := 19) (oi := ?oib20) (v := ?vb20) ?hib20 (by kernel_rfl) (by kernel_rfl) (by kernel_rfl) (fun _ _ _ h => h) ?hyb20 HS0 ?restb20
                  case hib20 => (simp only [List.getElem?_toArray, List.getElem?_cons_succ, List.getElem?_cons_zero]; try rfl)
                  case hyb20 => (refine Or.inl ⟨by rfl, ?_⟩; intro w hSw; go_simp; (try with_reducible rfl))
                  try simp only [Act.put, List.setIfInBounds_toArray, List.set_cons_zero, List.set_cons_succ]
                  refine wpAnyH_take (i := 20) (oi := ?oib21) (v := ?vb21) ?hib21 (by kernel_rfl) (by kernel_rfl) (by kernel_rfl) (fun _ _ _ h => h) ?hyb21 HS0 ?restb21
                  case hib21 => (simp only [List.getElem?_toArray, List.getElem?_cons_succ, List.getElem?_cons_zero]; try rfl)
                  case hyb21 => (refine Or.inl ⟨by rfl, ?_⟩; intro w hSw; go_simp; (try with_reducible rfl))
                  try simp only [Act.put, List.setIfInBounds_toArray, List.set_cons_zero, List.set_cons_succ]
                  refine wpAnyH_take (i := 21) (oi := ?oib22) (v := ?vb22) ?hib22 (by kernel_rfl) (by kernel_rfl) (by kernel_rfl) (fun _ _ _ h => h) ?hyb22 HS0 ?restb22
                  case hib22 => (simp only [List.getElem?_toArray, List.getElem?_cons_succ, List.getElem?_cons_zero]; try rfl)
                  case hyb22 => (refine Or.inl ⟨by rfl, ?_⟩; intro w hSw; go_simp; (try with_reducible rfl))
                  try simp only [Act.put, List.setIfInBounds_toArray, List.set_cons_zero, List.set_cons_succ]
                  refine wpAnyH_take (i := 22) (oi := ?oib23) (v := ?vb23) ?hib23 (by kernel_rfl) (by kernel_rfl) (by kernel_rfl) (fun _ _ _ h => h) ?hyb23 HS0 ?restb23
                  case hib23 => (simp only [List.getElem?_toArray, List.getElem?_cons_succ, List.getElem?_cons_zero]; try rfl)
                  case hyb23 => (refine Or.inl ⟨by rfl, ?_⟩; intro w hSw; go_simp; (try with_reducible rfl))
                  try simp only [Act.put, List.setIfInBounds_toArray, List.set_cons_zero, List.set_cons_succ]
                  refine wpAnyH_take (i := 23) (oi := ?oib24) (v := ?vb24) ?hib24 (by kernel_rfl) (by kernel_rfl) (by kernel_rfl) (fun _ _ _ h => h) ?hyb24 HS0 ?restb24
                  case hib24 => (simp only [List.getElem?_toArray, List.getElem?_cons_succ, List.getElem?_cons_zero]; try rfl)
                  case hyb24 => (refine Or.inl ⟨by rfl, ?_⟩; intro w hSw; have q := hSw.2.1.cell 8; go_simp; (try with_reducible rfl))
                  try simp only [Act.put, List.setIfInBounds_toArray, List.set_cons_zero, List.set_cons_succ]
                  refine wpAnyH_take (i := 24) (oi := ?oib25) (v := ?vb25) ?hib25 (by kernel_rfl) (by kernel_rfl) (by kernel_rfl) (fun _ _ _ h => h) ?hyb25 HS0 ?restb25
                  case hib25 => (simp only [List.getElem?_toArray, List.getElem?_cons_succ, List.getElem?_cons_zero]; try rfl)
                  case hyb25 => (refine Or.inl ⟨by rfl, ?_⟩; intro w hSw; go_simp; (try with_reducible rfl))
                  try simp only [Act.put, List.setIfInBounds_toArray, List.set_cons_zero, List.set_cons_succ]
                  refine wpAnyH_take (i := 25) (oi := ?oib26) (v := ?vb26) ?hib26 (by kernel_rfl) (by kernel_rfl) (by kernel_rfl) (fun _ _ _ h => h) ?hyb26 HS0 ?restb26
                  case hib26 => (simp only [List.getElem?_toArray, List.getElem?_cons_succ, List.getElem?_cons_zero]; try rfl)
                  case hyb26 => (refine Or.inl ⟨by rfl, ?_⟩; intro w hSw; go_simp; (try with_reducible rfl))
                  try simp only [Act.put, List.setIfInBounds_toArray, List.set_cons_zero, List.set_cons_succ]
                  refine wpAnyH_take (i := 26) (oi := ?oib27) (v := ?vb27) ?hib27 (by kernel_rfl) (by kernel_rfl) (by kernel_rfl) (fun _ _ _ h => h) ?hyb27 HS0 ?restb27
                  case hib27 => (simp only [List.getElem?_toArray, List.getElem?_cons_succ, List.getElem?_cons_zero]; try rfl)
                  case hyb27 => (refine Or.inl ⟨by rfl, ?_⟩; intro w hSw; go_simp; (try with_reducible rfl))
                  try simp only [Act.put, List.setIfInBounds_toArray, List.set_cons_zero, List.set_cons_succ]
                  refine wpAnyH_take (i := 27) (oi := ?oib28) (v := ?vb28) ?hib28 (by kernel_rfl) (by kernel_rfl) (by kernel_rfl) (fun _ _ _ h => h) ?hyb28 HS0 ?restb28
                  case hib28 => (simp only [List.getElem?_toArray, List.getElem?_cons_succ, List.getElem?_cons_zero]; try rfl)
                  case hyb28 => (refine Or.inl ⟨by rfl, ?_⟩; intro w hSw; go_simp; (try with_reducible rfl))
                  try simp only [Act.put, List.setIfInBounds_toArray, List.set_cons_zero, List.set_cons_succ]
                  refine wpAnyH_take (i := 28) (oi := ?oib29) (v := ?vb29) ?hib29 (by kernel_rfl) (by kernel_rfl) (by kernel_rfl) (fun _ _ _ h => h) ?hyb29 HS0 ?restb29
                  case hib29 => (simp only [List.getElem?_toArray, List.getElem?_cons_succ, List.getElem?_cons_zero]; try rfl)
                  case hyb29 => (refine Or.inl ⟨by rfl, ?_⟩; intro w hSw; go_simp; (try with_reducible rfl))
                  try simp only [Act.put, List.setIfInBounds_toArray, List.set_cons_zero, List.set_cons_succ]
                  refine wpAnyH_take (i := 29) (oi := ?oib30) (v := ?vb30) ?hib30 (by kernel_rfl) (by kernel_rfl) (by kernel_rfl) (fun _ _ _ h => h) ?hyb30 HS0 ?restb30
                  case hib30 => (simp only [List.getElem?_toArray, List.getElem?_cons_succ, List.getElem?_cons_zero]; try rfl)
                  case hyb30 => (refine Or.inl ⟨by rfl, ?_⟩; intro w hSw; have q := hSw.1.cell 8; go_simp; (try with_reducible rfl))
                  try simp only [Act.put, List.setIfInBounds_toArray, List.set_cons_zero, List.set_cons_succ]
                  refine wpAnyH_take (i := 30) (oi := ?oib31) (v := ?vb31) ?hib31 (by kernel_rfl) (by kernel_rfl) (by kernel_rfl) (fun _ _ _ h => h) ?hyb31 HS0 ?restb31
                  case hib31 => (simp only [List.getElem?_toArray, List.getElem?_cons_succ, List.getElem?_cons_zero]; try rfl)
                  case hyb31 => (refine Or.inl ⟨by rfl, ?_⟩; intro w hSw; go_simp; (try with_reducible rfl))
                  try simp only [Act.put, List.setIfInBounds_toArray, List.set_cons_zero, List.set_cons_succ]
                  refine wpAnyH_take (i := 31) (oi := ?oib32) (v := ?vb32) ?hib32 (by kernel_rfl) (by kernel_rfl) (by kernel_rfl) (fun _ _ _ h => h) ?hyb32 HS0 ?restb32
                  case hib32 => (simp only [List.getElem?_toArray, List.getElem?_cons_succ, List.getElem?_cons_zero]; try rfl)
                  case hyb32 => (refine Or.inl ⟨by rfl, ?_⟩; intro w hSw; go_simp; (try with_reducible rfl))
                  try simp only [Act.put, List.setIfInBounds_toArray, List.set_cons_zero, List.set_cons_succ]
                  refine wpAnyH_take (i := 32) (oi := ?oib33) (v := ?vb33) ?hib33 (by kernel_rfl) (by kernel_rfl) (by kernel_rfl) (fun _ _ _ h => h) ?hyb33 HS0 ?restb33
                  case hib33 => (simp only [List.getElem?_toArray, List.getElem?_cons_succ, List.getElem?_cons_zero]; try rfl)
                  case hyb33 => (refine Or.inl ⟨by rfl, ?_⟩; intro w hSw; have q := hSw.2.2.1.cell 0; go_simp; (try with_reducible rfl))
                  try simp only [Act.put, List.setIfInBounds_toArray, List.set_cons_zero, List.set_cons_succ]
                  refine wpAnyH_take (i := 33) (oi := ?oib34) (v := ?vb34) ?hib34 (by kernel_rfl) (by kernel_rfl) (by kernel_rfl) (fun _ _ _ h => h) ?hyb34 HS0 ?restb34
                  case hib34 => (simp only [List.getElem?_toArray, List.getElem?_cons_succ, List.getElem?_cons_zero]; try rfl)
                  case hyb34 => (refine Or.inl ⟨by rfl, ?_⟩; intro w hSw; go_simp; (try with_reducible rfl))
                  try simp only [Act.put, List.setIfInBounds_toArray, List.set_cons_zero, List.set_cons_succ]
                  refine wpAnyH_take (i := 34) (oi := ?oib35) (v := ?vb35) ?hib35 (by kernel_rfl) (by kernel_rfl) (by kernel_rfl) (fun _ _ _ h => h) ?hyb35 HS0 ?restb35
                  case hib35 => (simp only [List.getElem?_toArray, List.getElem?_cons_succ, List.getElem?_cons_zero]; try rfl)
                  case hyb35 => (refine Or.inl ⟨by rfl, ?_⟩; intro w hSw; have q := hSw.2.1.cell 8; go_simp; (try with_reducible rfl))
                  try simp only [Act.put, List.setIfInBounds_toArray, List.set_cons_zero, List.set_cons_succ]
                  refine wpAnyH_take (i := 35) (oi := ?oib36) (v := ?vb36) ?hib36 (by kernel_rfl) (by kernel_rfl) (by kernel_rfl) (fun _ _ _ h => h) ?hyb36 HS0 ?restb36
                  case hib36 => (simp only [List.getElem?_toArray, List.getElem?_cons_succ, List.getElem?_cons_zero]; try rfl)
                  case hyb36 => (refine Or.inl ⟨by rfl, ?_⟩; intro w hSw; go_simp; (try with_reducible rfl))
                  try simp only [Act.put, List.setIfInBounds_toArray, List.set_cons_zero, List.set_cons_succ]
                  refine wpAnyH_take (i := 36) (oi := ?oib37) (v := ?vb37) ?hib37 (by kernel_rfl) (by kernel_rfl) (by kernel_rfl) (fun _ _ _ h => h) ?hyb37 HS0 ?restb37
                  case hib37 => (simp only [List.getElem?_toArray, List.getElem?_cons_succ, List.getElem?_cons_zero]; try rfl)
                  case hyb37 => (refine Or.inl ⟨by rfl, ?_⟩; intro w hSw; go_simp; (try with_reducible rfl))
                  try simp only [Act.put, List.setIfInBounds_toArray, List.set_cons_zero, List.set_cons_succ]
                  refine wpAnyH_take (i := 37) (oi := ?oib38) (v := ?vb38) ?hib38 (by kernel_rfl) (by kernel_rfl) (by kernel_rfl) (fun _ _ _ h => h) ?hyb38 HS0 ?restb38
                  case hib38 => (simp only [List.getElem?_toArray, List.getElem?_cons_succ, List.getElem?_cons_zero]; try rfl)
                  case hyb38 => (refine Or.inl ⟨by rfl, ?_⟩; intro w hSw; have q := hSw.2.2.2.cell 0; go_simp; (try with_reducible rfl))
                  try simp only [Act.put, List.setIfInBounds_toArray, List.set_cons_zero, List.set_cons_succ]
                  refine wpAnyH_take (i := 38) (oi := ?oib39) (v := ?vb39) ?hib39 (by kernel_rfl) (by kernel_rfl) (by kernel_rfl) (fun _ _ _ h => h) ?hyb39 HS0 ?restb39
                  case hib39 => (simp only [List.getElem?_toArray, List.getElem?_cons_succ, List.getElem?_cons_zero]; try rfl)
                  case hyb39 => (refine Or.inl ⟨by rfl, ?_⟩; intro w hSw; go_simp; (try with_reducible rfl))
                  try simp only [Act.put, List.setIfInBounds_toArray, List.set_cons_zero, List.set_cons_succ]
                  refine wpAnyH_take (i := 39) (oi := ?oib40) (v := ?vb40) ?hib40 (by kernel_rfl) (by kernel_rfl) (by kernel_rfl) (fun _ _ _ h => h) ?hyb40 HS0 ?restb40
                  case hib40 => (simp only [List.getElem?_toArray, List.getElem?_cons_succ, List.getElem?_cons_zero]; try rfl)
                  case hyb40 => (refine Or.inl ⟨by rfl, ?_⟩; intro w hSw; go_simp; (try with_reducible rfl))
                  try simp only [Act.put, List.setIfInBounds_toArray, List.set_cons_zero, List.set_cons_succ]
                  refine wpAnyH_take (i := 40) (oi := ?oib41) (v := ?vb41) ?hib41 (by kernel_rfl) (by kernel_rfl) (by kernel_rfl) (fun _ _ _ h => h) ?hyb41 HS0 ?restb41
                  case hib41 => (simp only [List.getElem?_toArray, List.getElem?_cons_succ, List.getElem?_cons_zero]; try rfl)
                  case hyb41 => (refine Or.inl ⟨by rfl, ?_⟩; intro w hSw; go_simp; (try with_reducible rfl))
                  try simp only [Act.put, List.setIfInBounds_toArray, List.set_cons_zero, List.set_cons_succ]
                  refine wpAnyH_take (i := 41) (oi := ?oib42) (v := undef) ?hib42 (by kernel_rfl) (by kernel_rfl) (by kernel_rfl) (fun _ _ _ h => h) ?hyb42 HS0 ?restb42
                  case hib42 => (simp only [List.getElem?_toArray, List.getElem?_cons_succ, List.getElem?_cons_zero]; try rfl)
                  case hyb42 => exact Or.inr ⟨by rfl, rfl⟩
                  try simp only [Act.put, List.setIfInBounds_toArray, List.set_cons_zero, List.set_cons_succ]
                  refine wpAnyH_take (i := 42) (oi := ?oib43) (v := undef) ?hib43 (by kernel_rfl) (by kernel_rfl) (by kernel_rfl) (fun _ _ _ h => h) ?hyb43 HS0 ?restb43
                  case hib43 => (simp only [List.getElem?_toArray, List.getElem?_cons_succ, List.getElem?_cons_zero]; try rfl)
                  case hyb43 => exact Or.inr ⟨by rfl, rfl⟩
                  try simp only [Act.put, List.setIfInBounds_toArray, List.set_cons_zero, List.set_cons_succ]
                  refine wpAnyH_take (i := 43) (oi := ?oib44) (v := undef) ?hib44 (by kernel_rfl) (by kernel_rfl) (by kernel_rfl) (fun _ _ _ h => h) ?hyb44 HS0 ?restb44
                  case hib44 => (simp only [List.getElem?_toArray, List.getElem?_cons_succ, List.getElem?_cons_zero]; try rfl)
                  case hyb44 => exact Or.inr ⟨by rfl, rfl⟩
                  try simp only [Act.put, List.setIfInBounds_toArray, List.set_cons_zero, List.set_cons_succ]
                  refine wpAnyH_take (i := 44) (oi := ?oib45) (v := undef) ?hib45 (by kernel_rfl) (by kernel_rfl) (by kernel_rfl) (fun _ _ _ h => h) ?hyb45 HS0 ?restb45
                  case hib45 => (simp only [List.getElem?_toArray, List.getElem?_cons_succ, List.getElem?_cons_zero]; try rfl)
                  case hyb45 => exact Or.inr ⟨by rfl, rfl⟩
                  try simp only [Act.put, List.setIfInBounds_toArray, List.set_cons_zero, List.set_cons_succ]
                  refine wpAnyH_take (i := 45) (oi := ?oib46) (v := ?vb46) ?hib46 (by kernel_rfl) (by kernel_rfl) (by kernel_rfl) (fun _ _ _ h => h) ?hyb46 HS0 ?restb46
                  case hib46 => (simp only [List.getElem?_toArray, List.getElem?_cons_succ, List.getElem?_cons_zero]; try rfl)
                  case hyb46 => (refine Or.inl ⟨by rfl, ?_⟩; intro w hSw; go_simp; (try with_reducible rfl))
                  try simp only [Act.put, List.setIfInBounds_toArray, List.set_cons_zero, List.set_cons_succ]
                  refine wpAnyH_done (by kernel_rfl) ?_ _
                  refine NoPanic.normal ?_
                  have HLK := Lib.hid (show lk x y = true by unfold lk; rw [hit]; simp)
                  clear HS0 hga9 hgb9 hIx hIy
                  go_wp2_with fail
                  refine ⟨?_, by simp [intOf]; omega⟩
                  exact Lib.hid ⟨q + 1, by simp, by omega, lt_succ_cases HY.out HP2.out HLK.out, HB9d.out, HSB.out, _, rfl⟩
              · have h2b : (y.kd == 14) = false := by simpa using h2
                have hx0 := hga9.cell 0
                have hy0 := hgb9.cell 0
                rw [h1] at hx0
                have HLK := Lib.hid (show lk x y = true by unfold lk; rw [h2b]; simp)
                clear h1 h2 hXx hXy hga9 hgb9
                refine wp_region_noPanic ?_
                refine wp_region_held_drew (S := fun wa => wa.cell? ⟨ga, 0, none⟩ = some (.int .i64 14) ∧ wa.cell? ⟨gb, 0, none⟩ = some (.int .i64 y.kd)) (by kernel_rfl) ⟨hx0, hy0⟩ (fun hHeld => ?_)
                refine wpAnyH_take (i := 0) (oi := ?oicc1) (v := ?vcc1) ?hicc1 (by kernel_rfl) (by kernel_rfl) (by kernel_rfl) (fun _ _ _ h => h) ?hycc1 ⟨hx0, hy0⟩ ?restcc1
                case hicc1 => (simp only [List.getElem?_toArray, List.getElem?_cons_zero]; try rfl)
                case hycc1 => (refine Or.inl ⟨by rfl, ?_⟩; intro w hSw; go_simp; (try with_reducible rfl))
                try simp only [Act.put, List.setIfInBounds_toArray, List.set_cons_zero, List.set_cons_succ]
                refine wpAnyH_take (i := 1) (oi := ?oicc2) (v := ?vcc2) ?hicc2 (by kernel_rfl) (by kernel_rfl) (by kernel_rfl) (fun _ _ _ h => h) ?hycc2 ⟨hx0, hy0⟩ ?restcc2
                case hicc2 => (simp only [List.getElem?_toArray, List.getElem?_cons_succ, List.getElem?_cons_zero]; try rfl)
                case hycc2 => (refine Or.inl ⟨by rfl, ?_⟩; intro w hSw; have q := hSw.1; go_simp; (try with_reducible rfl))
                try simp only [Act.put, List.setIfInBounds_toArray, List.set_cons_zero, List.set_cons_succ]
                refine wpAnyH_take (i := 2) (oi := ?oicc3) (v := ?vcc3) ?hicc3 (by kernel_rfl) (by kernel_rfl) (by kernel_rfl) (fun _ _ _ h => h) ?hycc3 ⟨hx0, hy0⟩ ?restcc3
                case hicc3 => (simp only [List.getElem?_toArray, List.getElem?_cons_succ, List.getElem?_cons_zero]; try rfl)
                case hycc3 => (refine Or.inl ⟨by rfl, ?_⟩; intro w hSw; go_simp; (try with_reducible rfl))
                try simp only [Act.put, List.setIfInBounds_toArray, List.set_cons_zero, List.set_cons_succ]
                refine wpAnyH_take (i := 3) (oi := ?oicc4) (v := ?vcc4) ?hicc4 (by kernel_rfl) (by kernel_rfl) (by kernel_rfl) (fun _ _ _ h => h) ?hycc4 ⟨hx0, hy0⟩ ?restcc4
                case hicc4 => (simp only [List.getElem?_toArray, List.getElem?_cons_succ, List.getElem?_cons_zero]; try rfl)
                case hycc4 => (refine Or.inl ⟨by rfl, ?_⟩; intro w hSw; go_simp; (try with_reducible rfl))
                try simp only [Act.put, List.setIfInBounds_toArray, List.set_cons_zero, List.set_cons_succ]
                refine wpAnyH_take (i := 4) (oi := ?oicc5) (v := ?vcc5) ?hicc5 (by kernel_rfl) (by kernel_rfl) (by kernel_rfl) (fun _ _ _ h => h) ?hycc5 ⟨hx0, hy0⟩ ?restcc5
                case hicc5 => (simp only [List.getElem?_toArray, List.getElem?_cons_succ, List.getElem?_cons_zero]; try rfl)
                case hycc5 => (refine Or.inl ⟨by rfl, ?_⟩; intro w hSw; go_simp; (try with_reducible rfl))
                try simp only [Act.put, List.setIfInBounds_toArray, List.set_cons_zero, List.set_cons_succ]
                refine wpAnyH_take (i := 5) (oi := ?oicc6) (v := ?vcc6) ?hicc6 (by kernel_rfl) (by kernel_rfl) (by kernel_rfl) (fun _ _ _ h => h) ?hycc6 ⟨hx0, hy0⟩ ?restcc6
                case hicc6 => (simp only [List.getElem?_toArray, List.getElem?_cons_succ, List.getElem?_cons_zero]; try rfl)
                case hycc6 => (refine Or.inl ⟨by rfl, ?_⟩; intro w hSw; have q := hSw.2; go_simp; (try with_reducible rfl))
                try simp only [Act.put, List.setIfInBounds_toArray, List.set_cons_zero, List.set_cons_succ]
                refine wpAnyH_take (i := 6) (oi := ?oicc7) (v := ?vcc7) ?hicc7 (by kernel_rfl) (by kernel_rfl) (by kernel_rfl) (fun _ _ _ h => h) ?hycc7 ⟨hx0, hy0⟩ ?restcc7
                case hicc7 => (simp only [List.getElem?_toArray, List.getElem?_cons_succ, List.getElem?_cons_zero]; try rfl)
                case hycc7 => (refine Or.inl ⟨by rfl, ?_⟩; intro w hSw; go_simp; (try with_reducible rfl))
                try simp only [Act.put, List.setIfInBounds_toArray, List.set_cons_zero, List.set_cons_succ]
                refine wpAnyH_take (i := 7) (oi := ?oicc8) (v := ?vcc8) ?hicc8 (by kernel_rfl) (by kernel_rfl) (by kernel_rfl) (fun _ _ _ h => h) ?hycc8 ⟨hx0, hy0⟩ ?restcc8
                case hicc8 => (simp only [List.getElem?_toArray, List.getElem?_cons_succ, List.getElem?_cons_zero]; try rfl)
                case hycc8 => (refine Or.inl ⟨by rfl, ?_⟩; intro w hSw; go_simp; (try with_reducible rfl))
                try simp only [Act.put, List.setIfInBounds_toArray, List.set_cons_zero, List.set_cons_succ]
                refine wpAnyH_take (i := 8) (oi := ?oicc9) (v := ?vcc9) ?hicc9 (by kernel_rfl) (by kernel_rfl) (by kernel_rfl) (fun _ _ _ h => h) ?hycc9 ⟨hx0, hy0⟩ ?restcc9
                case hicc9 => (simp only [List.getElem?_toArray, List.getElem?_cons_succ, List.getElem?_cons_zero]; try rfl)
                case hycc9 => (refine Or.inl ⟨by rfl, ?_⟩; intro w hSw; go_simp; (try with_reducible rfl))
                try simp only [Act.put, List.setIfInBounds_toArray, List.set_cons_zero, List.set_cons_succ]
                refine wpAnyH_take (i := 9) (oi := ?oicc10) (v := undef) ?hicc10 (by kernel_rfl) (by kernel_rfl) (by kernel_rfl) (fun _ _ _ h => h) ?hycc10 ⟨hx0, hy0⟩ ?restcc10
                case hicc10 => (simp only [List.getElem?_toArray, List.getElem?_cons_succ, List.getElem?_cons_zero]; try rfl)
                case hycc10 => exact Or.inr ⟨by rfl, rfl⟩
                try simp only [Act.put, List.setIfInBounds_toArray, List.set_cons_zero, List.set_cons_succ]
                refine wpAnyH_take (i := 10) (oi := ?oicc11) (v := undef) ?hicc11 (by kernel_rfl) (by kernel_rfl) (by kernel_rfl) (fun _ _ _ h => h) ?hycc11 ⟨hx0, hy0⟩ ?restcc11
                case hicc11 => (simp only [List.getElem?_toArray, List.getElem?_cons_succ, List.getElem?_cons_zero]; try rfl)
                case hycc11 => exact Or.inr ⟨by rfl, rfl⟩
                try simp only [Act.put, List.setIfInBounds_toArray, List.set_cons_zero, List.set_cons_succ]
                refine wpAnyH_take (i := 11) (oi := ?oicc12) (v := undef) ?hicc12 (by kernel_rfl) (by kernel_rfl) (by kernel_rfl) (fun _ _ _ h => h) ?hycc12 ⟨hx0, hy0⟩ ?restcc12
                case hicc12 => (simp only [List.getElem?_toArray, List.getElem?_cons_succ, List.getElem?_cons_zero]; try rfl)
                case hycc12 => exact Or.inr ⟨by rfl, rfl⟩
                try simp only [Act.put, List.setIfInBounds_toArray, List.set_cons_zero, List.set_cons_succ]
                refine wpAnyH_take (i := 12) (oi := ?oicc13) (v := undef) ?hicc13 (by kernel_rfl) (by kernel_rfl) (by kernel_rfl) (fun _ _ _ h => h) ?hycc13 ⟨hx0, hy0⟩ ?restcc13
                case hicc13 => (simp only [List.getElem?_toArray, List.getElem?_cons_succ, List.getElem?_cons_zero]; try rfl)
                case hycc13 => exact Or.inr ⟨by rfl, rfl⟩
                try simp only [Act.put, List.setIfInBounds_toArray, List.set_cons_zero, List.set_cons_succ]
                refine wpAnyH_take (i := 13) (oi := ?oicc14) (v := undef) ?hicc14 (by kernel_rfl) (by kernel_rfl) (by kernel_rfl) (fun _ _ _ h => h) ?hycc14 ⟨hx0, hy0⟩ ?restcc14
                case hicc14 => (simp only [List.getElem?_toArray, List.getElem?_cons_succ, List.getElem?_cons_zero]; try rfl)
                case hycc14 => exact Or.inr ⟨by rfl, rfl⟩
                try simp only [Act.put, List.setIfInBounds_toArray, List.set_cons_zero, List.set_cons_succ]
                refine wpAnyH_take (i := 14) (oi := ?oicc15) (v := ?vcc15) ?hicc15 (by kernel_rfl) (by kernel_rfl) (by kernel_rfl) (fun _ _ _ h => h) ?hycc15 ⟨hx0, hy0⟩ ?restcc15
                case hicc15 => (simp only [List.getElem?_toArray, List.getElem?_cons_succ, List.getElem?_cons_zero]; try rfl)
                case hycc15 => (refine Or.inl ⟨by rfl, ?_⟩; intro w hSw; go_simp; (try with_reducible rfl))
                try simp only [Act.put, List.setIfInBounds_toArray, List.set_cons_zero, List.set_cons_succ]
                refine wpAnyH_take (i := 15) (oi := ?oicc16) (v := ?vcc16) ?hicc16 (by kernel_rfl) (by kernel_rfl) (by kernel_rfl) (fun _ _ _ h => h) ?hycc16 ⟨hx0, hy0⟩ ?restcc16
                case hicc16 => (simp only [List.getElem?_toArray, List.getElem?_cons_succ, List.getElem?_cons_zero]; try rfl)
                case hycc16 => (refine Or.inl ⟨by rfl, ?_⟩; intro w hSw; go_simp; (try with_reducible rfl))
                try simp only [Act.put, List.setIfInBounds_toArray, List.set_cons_zero, List.set_cons_succ]
                refine wpAnyH_take (i := 16) (oi := ?oicc17) (v := undef) ?hicc17 (by kernel_rfl) (by kernel_rfl) (by kernel_rfl) (fun _ _ _ h => h) ?hycc17 ⟨hx0, hy0⟩ ?restcc17
                case hicc17 => (simp only [List.getElem?_toArray, List.getElem?_cons_succ, List.getElem?_cons_zero]; try rfl)
                case hycc17 => exact Or.inr ⟨by rfl, rfl⟩
                try simp only [Act.put, List.setIfInBounds_toArray, List.set_cons_zero, List.set_cons_succ]
                refine wpAnyH_take (i := 17) (oi := ?oicc18) (v := undef) ?hicc18 (by kernel_rfl) (by kernel_rfl) (by kernel_rfl) (fun _ _ _ h => h) ?hycc18 ⟨hx0, hy0⟩ ?restcc18
                case hicc18 => (simp only [List.getElem?_toArray, List.getElem?_cons_succ, List.getElem?_cons_zero]; try rfl)
                case hycc18 => exact Or.inr ⟨by rfl, rfl⟩
                try simp only [Act.put, List.setIfInBounds_toArray, List.set_cons_zero, List.set_cons_succ]
                refine wpAnyH_take (i := 18) (oi := ?oicc19) (v := undef) ?hicc19 (by kernel_rfl) (by kernel_rfl) (by kernel_rfl) (fun _ _ _ h => h) ?hycc19 ⟨hx0, hy0⟩ ?restcc19
                case hicc19 => (simp only [List.getElem?_toArray, List.getElem?_cons_succ, List.getElem?_cons_zero]; try rfl)
                case hycc19 => exact Or.inr ⟨by rfl, rfl⟩
                try simp only [Act.put, List.setIfInBounds_toArray, List.set_cons_zero, List.set_cons_succ]
                refine wpAnyH_take (i := 19) (oi := ?oicc20) (v := undef) ?hicc20 (by kernel_rfl) (by kernel_rfl) (by kernel_rfl) (fun _ _ _ h => h) ?hycc20 ⟨hx0, hy0⟩ ?restcc20
                case hicc20 => (simp only [List.getElem?_toArray, List.getElem?_cons_succ, List.getElem?_cons_zero]; try rfl)
                case hycc20 => exact Or.inr ⟨by rfl, rfl⟩
                try simp only [Act.put, List.setIfInBounds_toArray, List.set_cons_zero, List.set_cons_succ]
                refine wpAnyH_take (i := 20) (oi := ?oicc21) (v := ?vcc21) ?hicc21 (by kernel_rfl) (by kernel_rfl) (by kernel_rfl) (fun _ _ _ h => h) ?hycc21 ⟨hx0, hy0⟩ ?restcc21
                case hicc21 => (simp only [List.getElem?_toArray, List.getElem?_cons_succ, List.getElem?_cons_zero]; try rfl)
                case hycc21 => (refine Or.inl ⟨by rfl, ?_⟩; intro w hSw; go_simp; (try with_reducible rfl))
                try simp only [Act.put, List.setIfInBounds_toArray, List.set_cons_zero, List.set_cons_succ]
                refine wpAnyH_take (i := 21) (oi := ?oicc22) (v := ?vcc22) ?hicc22 (by kernel_rfl) (by kernel_rfl) (by kernel_rfl) (fun _ _ _ h => h) ?hycc22 ⟨hx0, hy0⟩ ?restcc22
                case hicc22 => (simp only [List.getElem?_toArray, List.getElem?_cons_succ, List.getElem?_cons_zero]; try rfl)
                case hycc22 => (refine Or.inl ⟨by rfl, ?_⟩; intro w hSw; go_simp; (try with_reducible rfl))
                try simp only [Act.put, List.setIfInBounds_toArray, List.set_cons_zero, List.set_cons_succ]
                refine wpAnyH_take (i := 22) (oi := ?oicc23) (v := undef) ?hicc23 (by kernel_rfl) (by kernel_rfl) (by kernel_rfl) (fun _ _ _ h => h) ?hycc23 ⟨hx0, hy0⟩ ?restcc23
                case hicc23 => (simp only [List.getElem?_toArray, List.getElem?_cons_succ, List.getElem?_cons_zero]; try rfl)
                case hycc23 => exact Or.inr ⟨by rfl, rfl⟩
                try simp only [Act.put, List.setIfInBounds_toArray, List.set_cons_zero, List.set_cons_succ]
                refine wpAnyH_take (i := 23) (oi := ?oicc24) (v := undef) ?hicc24 (by kernel_rfl) (by kernel_rfl) (by kernel_rfl) (fun _ _ _ h => h) ?hycc24 ⟨hx0, hy0⟩ ?restcc24
                case hicc24 => (simp only [List.getElem?_toArray, List.getElem?_cons_succ, List.getElem?_cons_zero]; try rfl)
                case hycc24 => exact Or.inr ⟨by rfl, rfl⟩
                try simp only [Act.put, List.setIfInBounds_toArray, List.set_cons_zero, List.set_cons_succ]
                refine wpAnyH_take (i := 24) (oi := ?oicc25) (v := undef) ?hicc25 (by kernel_rfl) (by kernel_rfl) (by kernel_rfl) (fun _ _ _ h => h) ?hycc25 ⟨hx0, hy0⟩ ?restcc25
                case hicc25 => (simp only [List.getElem?_toArray, List.getElem?_cons_succ, List.getElem?_cons_zero]; try rfl)
                case hycc25 => exact Or.inr ⟨by rfl, rfl⟩
                try simp only [Act.put, List.setIfInBounds_toArray, List.set_cons_zero, List.set_cons_succ]
                refine wpAnyH_take (i := 25) (oi := ?oicc26) (v := undef) ?hicc26 (by kernel_rfl) (by kernel_rfl) (by kernel_rfl) (fun _ _ _ h => h) ?hycc26 ⟨hx0, hy0⟩ ?restcc26
                case hicc26 => (simp only [List.getElem?_toArray, List.getElem?_cons_succ, List.getElem?_cons_zero]; try rfl)
                case hycc26 => exact Or.inr ⟨by rfl, rfl⟩
                try simp only [Act.put, List.setIfInBounds_toArray, List.set_cons_zero, List.set_cons_succ]
                refine wpAnyH_take (i := 26) (oi := ?oicc27) (v := ?vcc27) ?hicc27 (by kernel_rfl) (by kernel_rfl) (by kernel_rfl) (fun _ _ _ h => h) ?hycc27 ⟨hx0, hy0⟩ ?restcc27
                case hicc27 => (simp only [List.getElem?_toArray, List.getElem?_cons_succ, List.getElem?_cons_zero]; try rfl)
                case hycc27 => (refine Or.inl ⟨by rfl, ?_⟩; intro w hSw; go_simp; (try with_reducible rfl))
                try simp only [Act.put, List.setIfInBounds_toArray, List.set_cons_zero, List.set_cons_succ]
                refine wpAnyH_take (i := 27) (oi := ?oicc28) (v := ?vcc28) ?hicc28 (by kernel_rfl) (by kernel_rfl) (by kernel_rfl) (fun _ _ _ h => h) ?hycc28 ⟨hx0, hy0⟩ ?restcc28
                case hicc28 => (simp only [List.getElem?_toArray, List.getElem?_cons_succ, List.getElem?_cons_zero]; try rfl)
                case hycc28 => (refine Or.inl ⟨by rfl, ?_⟩; intro w hSw; go_simp; (try with_reducible rfl))
                try simp only [Act.put, List.setIfInBounds_toArray, List.set_cons_zero, List.set_cons_succ]
                refine wpAnyH_take (i := 28) (oi := ?oicc29) (v := undef) ?hicc29 (by kernel_rfl) (by kernel_rfl) (by kernel_rfl) (fun _ _ _ h => h) ?hycc29 ⟨hx0, hy0⟩ ?restcc29
                case hicc29 => (simp only [List.getElem?_toArray, List.getElem?_cons_succ, List.getElem?_cons_zero]; try rfl)
                case hycc29 => exact Or.inr ⟨by rfl, rfl⟩
                try simp only [Act.put, List.setIfInBounds_toArray, List.set_cons_zero, List.set_cons_succ]
                refine wpAnyH_take (i := 29) (oi := ?oicc30) (v := undef) ?hicc30 (by kernel_rfl) (by kernel_rfl) (by kernel_rfl) (fun _ _ _ h => h) ?hycc30 ⟨hx0, hy0⟩ ?restcc30
                case hicc30 => (simp only [List.getElem?_toArray, List.getElem?_cons_succ, List.getElem?_cons_zero]; try rfl)
                case hycc30 => exact Or.inr ⟨by rfl, rfl⟩
                try simp only [Act.put, List.setIfInBounds_toArray, List.set_cons_zero, List.set_cons_succ]
                refine wpAnyH_take (i := 30) (oi := ?oicc31) (v := undef) ?hicc31 (by kernel_rfl) (by kernel_rfl) (by kernel_rfl) (fun _ _ _ h => h) ?hycc31 ⟨hx0, hy0⟩ ?restcc31
                case hicc31 => (simp only [List.getElem?_toArray, List.getElem?_cons_succ, List.getElem?_cons_zero]; try rfl)
                case hycc31 => exact Or.inr ⟨by rfl, rfl⟩
                try simp only [Act.put, List.setIfInBounds_toArray, List.set_cons_zero, List.set_cons_succ]
                refine wpAnyH_take (i := 31) (oi := ?oicc32) (v := undef) ?hicc32 (by kernel_rfl) (by kernel_rfl) (by kernel_rfl) (fun _ _ _ h => h) ?hycc32 ⟨hx0, hy0⟩ ?restcc32
                case hicc32 => (simp only [List.getElem?_toArray, List.getElem?_cons_succ, List.getElem?_cons_zero]; try rfl)
                case hycc32 => exact Or.inr ⟨by rfl, rfl⟩
                try simp only [Act.put, List.setIfInBounds_toArray, List.set_cons_zero, List.set_cons_succ]
                refine wpAnyH_take (i := 32) (oi := ?oicc33) (v := undef) ?hicc33 (by kernel_rfl) (by kernel_rfl) (by kernel_rfl) (fun _ _ _ h => h) ?hycc33 ⟨hx0, hy0⟩ ?restcc33
                case hicc33 => (simp only [List.getElem?_toArray, List.getElem?_cons_succ, List.getElem?_cons_zero]; try rfl)
                case hycc33 => exact Or.inr ⟨by rfl, rfl⟩
                try simp only [Act.put, List.setIfInBounds_toArray, List.set_cons_zero, List.set_cons_succ]
                refine wpAnyH_take (i := 33) (oi := ?oicc34) (v := undef) ?hicc34 (by kernel_rfl) (by kernel_rfl) (by kernel_rfl) (fun _ _ _ h => h) ?hycc34 ⟨hx0, hy0⟩ ?restcc34
                case hicc34 => (simp only [List.getElem?_toArray, List.getElem?_cons_succ, List.getElem?_cons_zero]; try rfl)
                case hycc34 => exact Or.inr ⟨by rfl, rfl⟩
                try simp only [Act.put, List.setIfInBounds_toArray, List.set_cons_zero, List.set_cons_succ]
                refine wpAnyH_take (i := 34) (oi := ?oicc35) (v := undef) ?hicc35 (by kernel_rfl) (by kernel_rfl) (by kernel_rfl) (fun _ _ _ h => h) ?hycc35 ⟨hx0, hy0⟩ ?restcc35
                case hicc35 => (simp only [List.getElem?_toArray, List.getElem?_cons_succ, List.getElem?_cons_zero]; try rfl)
                case hycc35 => exact Or.inr ⟨by rfl, rfl⟩
                try simp only [Act.put, List.setIfInBounds_toArray, List.set_cons_zero, List.set_cons_succ]
                refine wpAnyH_take (i := 35) (oi := ?oicc36) (v := undef) ?hicc36 (by kernel_rfl) (by kernel_rfl) (by kernel_rfl) (fun _ _ _ h => h) ?hycc36 ⟨hx0, hy0⟩ ?restcc36
                case hicc36 => (simp only [List.getElem?_toArray, List.getElem?_cons_succ, List.getElem?_cons_zero]; try rfl)
                case hycc36 => exact Or.inr ⟨by rfl, rfl⟩
                try simp only [Act.put, List.setIfInBounds_toArray, List.set_cons_zero, List.set_cons_succ]
                refine wpAnyH_take (i := 36) (oi := ?oicc37) (v := undef) ?hicc37 (by kernel_rfl) (by kernel_rfl) (by kernel_rfl) (fun _ _ _ h => h) ?hycc37 ⟨hx0, hy0⟩ ?restcc37
                case hicc37 => (simp only [List.getElem?_toArray, List.getElem?_cons_succ, List.getElem?_cons_zero]; try rfl)
                case hycc37 => exact Or.inr ⟨by rfl, rfl⟩
                try simp only [Act.put, List.setIfInBounds_toArray, List.set_cons_zero, List.set_cons_succ]
                refine wpAnyH_take (i := 37) (oi := ?oicc38) (v := undef) ?hicc38 (by kernel_rfl) (by kernel_rfl) (by kernel_rfl) (fun _ _ _ h => h) ?hycc38 ⟨hx0, hy0⟩ ?restcc38
                case hicc38 => (simp only [List.getElem?_toArray, List.getElem?_cons_succ, List.getElem?_cons_zero]; try rfl)
                case hycc38 => exact Or.inr ⟨by rfl, rfl⟩
                try simp only [Act.put, List.setIfInBounds_toArray, List.set_cons_zero, List.set_cons_succ]
                refine wpAnyH_take (i := 38) (oi := ?oicc39) (v := undef) ?hicc39 (by kernel_rfl) (by kernel_rfl) (by kernel_rfl) (fun _ _ _ h => h) ?hycc39 ⟨hx0, hy0⟩ ?restcc39
                case hicc39 => (simp only [List.getElem?_toArray, List.getElem?_cons_succ, List.getElem?_cons_zero]; try rfl)
                case hycc39 => exact Or.inr ⟨by rfl, rfl⟩
                try simp only [Act.put, List.setIfInBounds_toArray, List.set_cons_zero, List.set_cons_succ]
                refine wpAnyH_take (i := 39) (oi := ?oicc40) (v := ?vcc40) ?hicc40 (by kernel_rfl) (by kernel_rfl) (by kernel_rfl) (fun _ _ _ h => h) ?hycc40 ⟨hx0, hy0⟩ ?restcc40
                case hicc40 => (simp only [List.getElem?_toArray, List.getElem?_cons_succ, List.getElem?_cons_zero]; try rfl)
                case hycc40 => (refine Or.inl ⟨by rfl, ?_⟩; intro w hSw; go_simp; (try with_reducible rfl))
                try simp only [Act.put, List.setIfInBounds_toArray, List.set_cons_zero, List.set_cons_succ]
                refine wpAnyH_take (i := 40) (oi := ?oicc41) (v := ?vcc41) ?hicc41 (by kernel_rfl) (by kernel_rfl) (by kernel_rfl) (fun _ _ _ h => h) ?hycc41 ⟨hx0, hy0⟩ ?restcc41
                case hicc41 => (simp only [List.getElem?_toArray, List.getElem?_cons_succ, List.getElem?_cons_zero]; try rfl)
                case hycc41 => (refine Or.inl ⟨by rfl, ?_⟩; intro w hSw; go_simp; (try with_reducible rfl))
                try simp only [Act.put, List.setIfInBounds_toArray, List.set_cons_zero, List.set_cons_succ]
                refine wpAnyH_take (i := 41) (oi := ?oicc42) (v := undef) ?hicc42 (by kernel_rfl) (by kernel_rfl) (by kernel_rfl) (fun _ _ _ h => h) ?hycc42 ⟨hx0, hy0⟩ ?restcc42
                case hicc42 => (simp only [List.getElem?_toArray, List.getElem?_cons_succ, List.getElem?_cons_zero]; try rfl)
                case hycc42 => exact Or.inr ⟨by rfl, rfl⟩
                try simp only [Act.put, List.setIfInBounds_toArray, List.set_cons_zero, List.set_cons_succ]
                refine wpAnyH_take (i := 42) (oi := ?oicc43) (v := undef) ?hicc43 (by kernel_rfl) (by kernel_rfl) (by kernel_rfl) (fun _ _ _ h => h) ?hycc43 ⟨hx0, hy0⟩ ?restcc43
                case hicc43 => (simp only [List.getElem?_toArray, List.getElem?_cons_succ, List.getElem?_cons_zero]; try rfl)
                case hycc43 => exact Or.inr ⟨by rfl, rfl⟩
                try simp only [Act.put, List.setIfInBounds_toArray, List.set_cons_zero, List.set_cons_succ]
                refine wpAnyH_take (i := 43) (oi := ?oicc44) (v := undef) ?hicc44 (by kernel_rfl) (by kernel_rfl) (by kernel_rfl) (fun _ _ _ h => h) ?hycc44 ⟨hx0, hy0⟩ ?restcc44
                case hicc44 => (simp only [List.getElem?_toArray, List.getElem?_cons_succ, List.getElem?_cons_zero]; try rfl)
                case hycc44 => exact Or.inr ⟨by rfl, rfl⟩
                try simp only [Act.put, List.setIfInBounds_toArray, List.set_cons_zero, List.set_cons_succ]
                refine wpAnyH_take (i := 44) (oi := ?oicc45) (v := undef) ?hicc45 (by kernel_rfl) (by kernel_rfl) (by kernel_rfl) (fun _ _ _ h => h) ?hycc45 ⟨hx0, hy0⟩ ?restcc45
                case hicc45 => (simp only [List.getElem?_toArray, List.getElem?_cons_succ, List.getElem?_cons_zero]; try rfl)
                case hycc45 => exact Or.inr ⟨by rfl, rfl⟩
                try simp only [Act.put, List.setIfInBounds_toArray, List.set_cons_zero, List.set_cons_succ]
                refine wpAnyH_take (i := 45) (oi := ?oicc46) (v := ?vcc46) ?hicc46 (by kernel_rfl) (by kernel_rfl) (by kernel_rfl) (fun _ _ _ h => h) ?hycc46 ⟨hx0, hy0⟩ ?restcc46
                case hicc46 => (simp only [List.getElem?_toArray, List.getElem?_cons_succ, List.getElem?_cons_zero]; try rfl)
                case hycc46 => (refine Or.inl ⟨by rfl, ?_⟩; intro w hSw; go_simp; (try with_reducible rfl))
                try simp only [Act.put, List.setIfInBounds_toArray, List.set_cons_zero, List.set_cons_succ]
                refine wpAnyH_done (by kernel_rfl) ?_ _
                refine NoPanic.normal ?_
                clear hx0 hy0
                go_wp2_with fail
                refine ⟨?_, by simp [intOf]; omega⟩
                exact Lib.hid ⟨q + 1, by simp, by omega, lt_succ_cases HY.out HP2.out HLK.out, HB9d.out, HSB.out, _, rfl⟩
            · have h1b : (x.kd == 14) = false := by simpa using h1
              have hx0 := hga9.cell 0
              have HLK := Lib.hid (show lk x y = true by unfold lk; rw [h1b]; simp)
              clear h1 hXx hXy hga9 hgb9
              refine wp_region_noPanic ?_
              refine wp_region_held_drew (S := fun wa => wa.cell? ⟨ga, 0, none⟩ = some (.int .i64 x.kd)) (by kernel_rfl) hx0 (fun hHeld => ?_)
              refine wpAnyH_take (i := 0) (oi := ?oidd1) (v := ?vdd1) ?hidd1 (by kernel_rfl) (by kernel_rfl) (by kernel_rfl) (fun _ _ _ h => h) ?hydd1 hx0 ?restdd1
              case hidd1 => (simp only [List.getElem?_toArray, List.getElem?_cons_zero]; try rfl)
              case hydd1 => (refine Or.inl ⟨by rfl, ?_⟩; intro w hSw; go_simp; (try with_reducible rfl))
              try simp only [Act.put, List.setIfInBounds_toArray, List.set_cons_zero, List.set_cons_succ]
              refine wpAnyH_take (i := 1) (oi := ?oidd2) (v := ?vdd2) ?hidd2 (by kernel_rfl) (by kernel_rfl) (by kernel_rfl) (fun _ _ _ h => h) ?hydd2 hx0 ?restdd2
              case hidd2 => (simp only [List.getElem?_toArray, List.getElem?_cons_succ, List.getElem?_cons_zero]; try rfl)
              case hydd2 => (refine Or.inl ⟨by rfl, ?_⟩; intro w hSw; have q := hSw; go_simp; (try with_reducible rfl))
              try simp only [Act.put, List.setIfInBounds_toArray, List.set_cons_zero, List.set_cons_succ]
              refine wpAnyH_take (i := 2) (oi := ?oidd3) (v := ?vdd3) ?hidd3 (by kernel_rfl) (by kernel_rfl) (by kernel_rfl) (fun _ _ _ h => h) ?hydd3 hx0 ?restdd3
              case hidd3 => (simp only [List.getElem?_toArray, List.getElem?_cons_succ, List.getElem?_cons_zero]; try rfl)
              case hydd3 => (refine Or.inl ⟨by rfl, ?_⟩; intro w hSw; go_simp; (try with_reducible rfl))
              try simp only [Act.put, List.setIfInBounds_toArray, List.set_cons_zero, List.set_cons_succ]
              refine wpAnyH_take (i := 3) (oi := ?oidd4) (v := ?vdd4) ?hidd4 (by kernel_rfl) (by kernel_rfl) (by kernel_rfl) (fun _ _ _ h => h) ?hydd4 hx0 ?restdd4
              case hidd4 => (simp only [List.getElem?_toArray, List.getElem?_cons_succ, List.getElem?_cons_zero]; try rfl)
              case hydd4 => (refine Or.inl ⟨by rfl, ?_⟩; intro w hSw; go_simp; (try with_reducible rfl))
              try simp only [Act.put, List.setIfInBounds_toArray, List.set_cons_zero, List.set_cons_succ]
              refine wpAnyH_take (i := 4) (oi := ?oidd5) (v := undef) ?hidd5 (by kernel_rfl) (by kernel_rfl) (by kernel_rfl) (fun _ _ _ h => h) ?hydd5 hx0 ?restdd5
              case hidd5 => (simp only [List.getElem?_toArray, List.getElem?_cons_succ, List.getElem?_cons_zero]; try rfl)
              case hydd5 => exact Or.inr ⟨by rfl, rfl⟩
              try simp only [Act.put, List.setIfInBounds_toArray, List.set_cons_zero, List.set_cons_succ]
              refine wpAnyH_take (i := 5) (oi := ?oidd6) (v := undef) ?hidd6 (by kernel_rfl) (by kernel_rfl) (by kernel_rfl) (fun _ _ _ h => h) ?hydd6 hx0 ?restdd6
              case hidd6 => (simp only [List.getElem?_toArray, List.getElem?_cons_succ, List.getElem?_cons_zero]; try rfl)
              case hydd6 => exact Or.inr ⟨by rfl, rfl⟩
              try simp only [Act.put, List.setIfInBounds_toArray, List.set_cons_zero, List.set_cons_succ]
              refine wpAnyH_take (i := 6) (oi := ?oidd7) (v := undef) ?hidd7 (by kernel_rfl) (by kernel_rfl) (by kernel_rfl) (fun _ _ _ h => h) ?hydd7 hx0 ?restdd7
              case hidd7 => (simp only [List.getElem?_toArray, List.getElem?_cons_succ, List.getElem?_cons_zero]; try rfl)
              case hydd7 => exact Or.inr ⟨by rfl, rfl⟩
              try simp only [Act.put, List.setIfInBounds_toArray, List.set_cons_zero, List.set_cons_succ]
              refine wpAnyH_take (i := 7) (oi := ?oidd8) (v := ?vdd8) ?hidd8 (by kernel_rfl) (by kernel_rfl) (by kernel_rfl) (fun _ _ _ h => h) ?hydd8 hx0 ?restdd8
              case hidd8 => (simp only [List.getElem?_toArray, List.getElem?_cons_succ, List.getElem?_cons_zero]; try rfl)
              case hydd8 => (refine Or.inl ⟨by rfl, ?_⟩; intro w hSw; go_simp; (try with_reducible rfl))
              try simp only [Act.put, List.setIfInBounds_toArray, List.set_cons_zero, List.set_cons_succ]
              refine wpAnyH_take (i := 8) (oi := ?oidd9) (v := ?vdd9) ?hidd9 (by kernel_rfl) (by kernel_rfl) (by kernel_rfl) (fun _ _ _ h => h) ?hydd9 hx0 ?restdd9
              case hidd9 => (simp only [List.getElem?_toArray, List.getElem?_cons_succ, List.getElem?_cons_zero]; try rfl)
              case hydd9 => (refine Or.inl ⟨by rfl, ?_⟩; intro w hSw; go_simp; (try with_reducible rfl))
              try simp only [Act.put, List.setIfInBounds_toArray, List.set_cons_zero, List.set_cons_succ]
              refine wpAnyH_take (i := 9) (oi := ?oidd10) (v := undef) ?hidd10 (by kernel_rfl) (by kernel_rfl) (by kernel_rfl) (fun _ _ _ h => h) ?hydd10 hx0 ?restdd10
              case hidd10 => (simp only [List.getElem?_toArray, List.getElem?_cons_succ, List.getElem?_cons_zero]; try rfl)
              case hydd10 => exact Or.inr ⟨by rfl, rfl⟩
              try simp only [Act.put, List.setIfInBounds_toArray, List.set_cons_zero, List.set_cons_succ]
              refine wpAnyH_take (i := 10) (oi := ?oidd11) (v := undef) ?hidd11 (by kernel_rfl) (by kernel_rfl) (by kernel_rfl) (fun _ _ _ h => h) ?hydd11 hx0 ?restdd11
              case hidd11 => (simp only [List.getElem?_toArray, List.getElem?_cons_succ, List.getElem?_cons_zero]; try rfl)
              case hydd11 => exact Or.inr ⟨by rfl, rfl⟩
              try simp only [Act.put, List.setIfInBounds_toArray, List.set_cons_zero, List.set_cons_succ]
              refine wpAnyH_take (i := 11) (oi := ?oidd12) (v := undef) ?hidd12 (by kernel_rfl) (by kernel_rfl) (by kernel_rfl) (fun _ _ _ h => h) ?hydd12 hx0 ?restdd12
              case hidd12 => (simp only [List.getElem?_toArray, List.getElem?_cons_succ, List.getElem?_cons_zero]; try rfl)
              case hydd12 => exact Or.inr ⟨by rfl, rfl⟩
              try simp only [Act.put, List.setIfInBounds_toArray, List.set_cons_zero, List.set_cons_succ]
              refine wpAnyH_take (i := 12) (oi := ?oidd13) (v := undef) ?hidd13 (by kernel_rfl) (by kernel_rfl) (by kernel_rfl) (fun _ _ _ h => h) ?hydd13 hx0 ?restdd13
              case hidd13 => (simp only [List.getElem?_toArray, List.getElem?_cons_succ, List.getElem?_cons_zero]; try rfl)
              case hydd13 => exact Or.inr ⟨by rfl, rfl⟩
              try simp only [Act.put, List.setIfInBounds_toArray, List.set_cons_zero, List.set_cons_succ]
              refine wpAnyH_take (i := 13) (oi := ?oidd14) (v := undef) ?hidd14 (by kernel_rfl) (by kernel_rfl) (by kernel_rfl) (fun _ _ _ h => h) ?hydd14 hx0 ?restdd14
              case hidd14 => (simp only [List.getElem?_toArray, List.getElem?_cons_succ, List.getElem?_cons_zero]; try rfl)
              case hydd14 => exact Or.inr ⟨by rfl, rfl⟩
              try simp only [Act.put, List.setIfInBounds_toArray, List.set_cons_zero, List.set_cons_succ]
              refine wpAnyH_take (i := 14) (oi := ?oidd15) (v := ?vdd15) ?hidd15 (by kernel_rfl) (by kernel_rfl) (by kernel_rfl) (fun _ _ _ h => h) ?hydd15 hx0 ?restdd15
              case hidd15 => (simp only [List.getElem?_toArray, List.getElem?_cons_succ, List.getElem?_cons_zero]; try rfl)
              case hydd15 => (refine Or.inl ⟨by rfl, ?_⟩; intro w hSw; go_simp; (try with_reducible rfl))
              try simp only [Act.put, List.setIfInBounds_toArray, List.set_cons_zero, List.set_cons_succ]
              refine wpAnyH_take (i := 15) (oi := ?oidd16) (v := ?vdd16) ?hidd16 (by kernel_rfl) (by kernel_rfl) (by kernel_rfl) (fun _ _ _ h => h) ?hydd16 hx0 ?restdd16
              case hidd16 => (simp only [List.getElem?_toArray, List.getElem?_cons_succ, List.getElem?_cons_zero]; try rfl)
              case hydd16 => (refine Or.inl ⟨by rfl, ?_⟩; intro w hSw; go_simp; (try with_reducible rfl))
              try simp only [Act.put, List.setIfInBounds_toArray, List.set_cons_zero, List.set_cons_succ]
              refine wpAnyH_take (i := 16) (oi := ?oidd17) (v := undef) ?hidd17 (by kernel_rfl) (by kernel_rfl) (by kernel_rfl) (fun _ _ _ h => h) ?hydd17 hx0 ?restdd17
              case hidd17 => (simp only [List.getElem?_toArray, List.getElem?_cons_succ, List.getElem?_cons_zero]; try rfl)
              case hydd17 => exact Or.inr ⟨by rfl, rfl⟩
              try simp only [Act.put, List.setIfInBounds_toArray, List.set_cons_zero, List.set_cons_succ]
              refine wpAnyH_take (i := 17) (oi := ?oidd18) (v := undef) ?hidd18 (by kernel_rfl) (by kernel_rfl) (by kernel_rfl) (fun _ _ _ h => h) ?hydd18 hx0 ?restdd18
              case hidd18 => (simp only [List.getElem?_toArray, List.getElem?_cons_succ, List.getElem?_cons_zero]; try rfl)
              case hydd18 => exact Or.inr ⟨by rfl, rfl⟩
              try simp only [Act.put, List.setIfInBounds_toArray, List.set_cons_zero, List.set_cons_succ]
              refine wpAnyH_take (i := 18) (oi := ?oidd19) (v := undef) ?hidd19 (by kernel_rfl) (by kernel_rfl) (by kernel_rfl) (fun _ _ _ h => h) ?hydd19 hx0 ?restdd19
              case hidd19 => (simp only [List.getElem?_toArray, List.getElem?_cons_succ, List.getElem?_cons_zero]; try rfl)
              case hydd19 => exact Or.inr ⟨by rfl, rfl⟩
              try simp only [Act.put, List.setIfInBounds_toArray, List.set_cons_zero, List.set_cons_succ]
              refine wpAnyH_take (i := 19) (oi := ?oidd20) (v := undef) ?hidd20 (by kernel_rfl) (by kernel_rfl) (by kernel_rfl) (fun _ _ _ h => h) ?hydd20 hx0 ?restdd20
              case hidd20 => (simp only [List.getElem?_toArray, List.getElem?_cons_succ, List.getElem?_cons_zero]; try rfl)
              case hydd20 => exact Or.inr ⟨by rfl, rfl⟩
              try simp only [Act.put, List.setIfInBounds_toArray, List.set_cons_zero, List.set_cons_succ]
              refine wpAnyH_take (i := 20) (oi := ?oidd21) (v := ?vdd21) ?hidd21 (by kernel_rfl) (by kernel_rfl) (by kernel_rfl) (fun _ _ _ h => h) ?hydd21 hx0 ?restdd21
              case hidd21 => (simp only [List.getElem?_toArray, List.getElem?_cons_succ, List.getElem?_cons_zero]; try rfl)
              case hydd21 => (refine Or.inl ⟨by rfl, ?_⟩; intro w hSw; go_simp; (try with_reducible rfl))
              try simp only [Act.put, List.setIfInBounds_toArray, List.set_cons_zero, List.set_cons_succ]
              refine wpAnyH_take (i := 21) (oi := ?oidd22) (v := ?vdd22) ?hidd22 (by kernel_rfl) (by kernel_rfl) (by kernel_rfl) (fun _ _ _ h => h) ?hydd22 hx0 ?restdd22
              case hidd22 => (simp only [List.getElem?_toArray, List.getElem?_cons_succ, List.getElem?_cons_zero]; try rfl)
              case hydd22 => (refine Or.inl ⟨by rfl, ?_⟩; intro w hSw; go_simp; (try with_reducible rfl))
              try simp only [Act.put, List.setIfInBounds_toArray, List.set_cons_zero, List.set_cons_succ]
              refine wpAnyH_take (i := 22) (oi := ?oidd23) (v := undef) ?hidd23 (by kernel_rfl) (by kernel_rfl) (by kernel_rfl) (fun _ _ _ h => h) ?hydd23 hx0 ?restdd23
              case hidd23 => (simp only [List.getElem?_toArray, List.getElem?_cons_succ, List.getElem?_cons_zero]; try rfl)
              case hydd23 => exact Or.inr ⟨by rfl, rfl⟩
              try simp only [Act.put, List.setIfInBounds_toArray, List.set_cons_zero, List.set_cons_succ]
              refine wpAnyH_take (i := 23) (oi := ?oidd24) (v := undef) ?hidd24 (by kernel_rfl) (by kernel_rfl) (by kernel_rfl) (fun _ _ _ h => h) ?hydd24 hx0 ?restdd24
              case hidd24 => (simp only [List.getElem?_toArray, List.getElem?_cons_succ, List.getElem?_cons_zero]; try rfl)
              case hydd24 => exact Or.inr ⟨by rfl, rfl⟩
              try simp only [Act.put, List.setIfInBounds_toArray, List.set_cons_zero, List.set_cons_succ]
              refine wpAnyH_take (i := 24) (oi := ?oidd25) (v := undef) ?hidd25 (by kernel_rfl) (by kernel_rfl) (by kernel_rfl) (fun _ _ _ h => h) ?hydd25 hx0 ?restdd25
              case hidd25 => (simp only [List.getElem?_toArray, List.getElem?_cons_succ, List.getElem?_cons_zero]; try rfl)
              case hydd25 => exact Or.inr ⟨by rfl, rfl⟩
              try simp only [Act.put, List.setIfInBounds_toArray, List.set_cons_zero, List.set_cons_succ]
              refine wpAnyH_take (i := 25) (oi := ?oidd26) (v := undef) ?hidd26 (by kernel_rfl) (by kernel_rfl) (by kernel_rfl) (fun _ _ _ h => h) ?hydd26 hx0 ?restdd26
              case hidd26 => (simp only [List.getElem?_toArray, List.getElem?_cons_succ, List.getElem?_cons_zero]; try rfl)
              case hydd26 => exact Or.inr ⟨by rfl, rfl⟩
              try simp only [Act.put, List.setIfInBounds_toArray, List.set_cons_zero, List.set_cons_succ]
              refine wpAnyH_take (i := 26) (oi := ?oidd27) (v := ?vdd27) ?hidd27 (by kernel_rfl) (by kernel_rfl) (by kernel_rfl) (fun _ _ _ h => h) ?hydd27 hx0 ?restdd27
              case hidd27 => (simp only [List.getElem?_toArray, List.getElem?_cons_succ, List.getElem?_cons_zero]; try rfl)
              case hydd27 => (refine Or.inl ⟨by rfl, ?_⟩; intro w hSw; go_simp; (try with_reducible rfl))
              try simp only [Act.put, List.setIfInBounds_toArray, List.set_cons_zero, List.set_cons_succ]
              refine wpAnyH_take (i := 27) (oi := ?oidd28) (v := ?vdd28) ?hidd28 (by kernel_rfl) (by kernel_rfl) (by kernel_rfl) (fun _ _ _ h => h) ?hydd28 hx0 ?restdd28
              case hidd28 => (simp only [List.getElem?_toArray, List.getElem?_cons_succ, List.getElem?_cons_zero]; try rfl)
              case hydd28 => (refine Or.inl ⟨by rfl, ?_⟩; intro w hSw; go_simp; (try with_reducible rfl))
              try simp only [Act.put, List.setIfInBounds_toArray, List.set_cons_zero, List.set_cons_succ]
              refine wpAnyH_take (i := 28) (oi := ?oidd29) (v := undef) ?hidd29 (by kernel_rfl) (by kernel_rfl) (by kernel_rfl) (fun _ _ _ h => h) ?hydd29 hx0 ?restdd29
              case hidd29 => (simp only [List.getElem?_toArray, List.getElem?_cons_succ, List.getElem?_cons_zero]; try rfl)
              case hydd29 => exact Or.inr ⟨by rfl, rfl⟩
              try simp only [Act.put, List.setIfInBounds_toArray, List.set_cons_zero, List.set_cons_succ]
              refine wpAnyH_take (i := 29) (oi := ?oidd30) (v := undef) ?hidd30 (by kernel_rfl) (by kernel_rfl) (by kernel_rfl) (fun _ _ _ h => h) ?hydd30 hx0 ?restdd30
              case hidd30 => (simp only [List.getElem?_toArray, List.getElem?_cons_succ, List.getElem?_cons_zero]; try rfl)
              case hydd30 => exact Or.inr ⟨by rfl, rfl⟩
              try simp only [Act.put, List.setIfInBounds_toArray, List.set_cons_zero, List.set_cons_succ]
              refine wpAnyH_take (i := 30) (oi := ?oidd31) (v := undef) ?hidd31 (by kernel_rfl) (by kernel_rfl) (by kernel_rfl) (fun _ _ _ h => h) ?hydd31 hx0 ?restdd31
              case hidd31 => (simp only [List.getElem?_toArray, List.getElem?_cons_succ, List.getElem?_cons_zero]; try rfl)
              case hydd31 => exact Or.inr ⟨by rfl, rfl⟩
              try simp only [Act.put, List.setIfInBounds_toArray, List.set_cons_zero, List.set_cons_succ]
              refine wpAnyH_take (i := 31) (oi := ?oidd32) (v := undef) ?hidd32 (by kernel_rfl) (by kernel_rfl) (by kernel_rfl) (fun _ _ _ h => h) ?hydd32 hx0 ?restdd32
              case hidd32 => (simp only [List.getElem?_toArray, List.getElem?_cons_succ, List.getElem?_cons_zero]; try rfl)
              case hydd32 => exact Or.inr ⟨by rfl, rfl⟩
              try simp only [Act.put, List.setIfInBounds_toArray, List.set_cons_zero, List.set_cons_succ]
              refine wpAnyH_take (i := 32) (oi := ?oidd33) (v := undef) ?hidd33 (by kernel_rfl) (by kernel_rfl) (by kernel_rfl) (fun _ _ _ h => h) ?hydd33 hx0 ?restdd33
              case hidd33 => (simp only [List.getElem?_toArray, List.getElem?_cons_succ, List.getElem?_cons_zero]; try rfl)
              case hydd33 => exact Or.inr ⟨by rfl, rfl⟩
              try simp only [Act.put, List.setIfInBounds_toArray, List.set_cons_zero, List.set_cons_succ]
              refine wpAnyH_take (i := 33) (oi := ?oidd34) (v := undef) ?hidd34 (by kernel_rfl) (by kernel_rfl) (by kernel_rfl) (fun _ _ _ h => h) ?hydd34 hx0 ?restdd34
              case hidd34 => (simp only [List.getElem?_toArray, List.getElem?_cons_succ, List.getElem?_cons_zero]; try rfl)
              case hydd34 => exact Or.inr ⟨by rfl, rfl⟩
              try simp only [Act.put, List.setIfInBounds_toArray, List.set_cons_zero, List.set_cons_succ]
              refine wpAnyH_take (i := 34) (oi := ?oidd35) (v := undef) ?hidd35 (by kernel_rfl) (by kernel_rfl) (by kernel_rfl) (fun _ _ _ h => h) ?hydd35 hx0 ?restdd35
              case hidd35 => (simp only [List.getElem?_toArray, List.getElem?_cons_succ, List.getElem?_cons_zero]; try rfl)
              case hydd35 => exact Or.inr ⟨by rfl, rfl⟩
              try simp only [Act.put, List.setIfInBounds_toArray, List.set_cons_zero, List.set_cons_succ]
              refine wpAnyH_take (i := 35) (oi := ?oidd36) (v := undef) ?hidd36 (by kernel_rfl) (by kernel_rfl) (by kernel_rfl) (fun _ _ _ h => h) ?hydd36 hx0 ?restdd36
              case hidd36 => (simp only [List.getElem?_toArray, List.getElem?_cons_succ, List.getElem?_cons_zero]; try rfl)
              case hydd36 => exact Or.inr ⟨by rfl, rfl⟩
              try simp only [Act.put, List.setIfInBounds_toArray, List.set_cons_zero, List.set_cons_succ]
              refine wpAnyH_take (i := 36) (oi := ?oidd37) (v := undef) ?hidd37 (by kernel_rfl) (by kernel_rfl) (by kernel_rfl) (fun _ _ _ h => h) ?hydd37 hx0 ?restdd37
              case hidd37 => (simp only [List.getElem?_toArray, List.getElem?_cons_succ, List.getElem?_cons_zero]; try rfl)
              case hydd37 => exact Or.inr ⟨by rfl, rfl⟩
              try simp only [Act.put, List.setIfInBounds_toArray, List.set_cons_zero, List.set_cons_succ]
              refine wpAnyH_take (i := 37) (oi := ?oidd38) (v := undef) ?hidd38 (by kernel_rfl) (by kernel_rfl) (by kernel_rfl) (fun _ _ _ h => h) ?hydd38 hx0 ?restdd38
              case hidd38 => (simp only [List.getElem?_toArray, List.getElem?_cons_succ, List.getElem?_cons_zero]; try rfl)
              case hydd38 => exact Or.inr ⟨by rfl, rfl⟩
              try simp only [Act.put, List.setIfInBounds_toArray, List.set_cons_zero, List.set_cons_succ]
              refine wpAnyH_take (i := 38) (oi := ?oidd39) (v := undef) ?hidd39 (by kernel_rfl) (by kernel_rfl) (by kernel_rfl) (fun _ _ _ h => h) ?hydd39 hx0 ?restdd39
              case hidd39 => (simp only [List.getElem?_toArray, List.getElem?_cons_succ, List.getElem?_cons_zero]; try rfl)
              case hydd39 => exact Or.inr ⟨by rfl, rfl⟩
              try simp only [Act.put, List.setIfInBounds_toArray, List.set_cons_zero, List.set_cons_succ]
              refine wpAnyH_take (i := 39) (oi := ?oidd40) (v := ?vdd40) ?hidd40 (by kernel_rfl) (by kernel_rfl) (by kernel_rfl) (fun _ _ _ h => h) ?hydd40 hx0 ?restdd40
              case hidd40 => (simp only [List.getElem?_toArray, List.getElem?_cons_succ, List.getElem?_cons_zero]; try rfl)
              case hydd40 => (refine Or.inl ⟨by rfl, ?_⟩; intro w hSw; go_simp; (try with_reducible rfl))
              try simp only [Act.put, List.setIfInBounds_toArray, List.set_cons_zero, List.set_cons_succ]
              refine wpAnyH_take (i := 40) (oi := ?oidd41) (v := ?vdd41) ?hidd41 (by kernel_rfl) (by kernel_rfl) (by kernel_rfl) (fun _ _ _ h => h) ?hydd41 hx0 ?restdd41
              case hidd41 => (simp only [List.getElem?_toArray, List.getElem?_cons_succ, List.getElem?_cons_zero]; try rfl)
              case hydd41 => (refine Or.inl ⟨by rfl, ?_⟩; intro w hSw; go_simp; (try with_reducible rfl))
              try simp only [Act.put, List.setIfInBounds_toArray, List.set_cons_zero, List.set_cons_succ]
              refine wpAnyH_take (i := 41) (oi := ?oidd42) (v := undef) ?hidd42 (by kernel_rfl) (by kernel_rfl) (by kernel_rfl) (fun _ _ _ h => h) ?hydd42 hx0 ?restdd42
              case hidd42 => (simp only [List.getElem?_toArray, List.getElem?_cons_succ, List.getElem?_cons_zero]; try rfl)
              case hydd42 => exact Or.inr ⟨by rfl, rfl⟩
              try simp only [Act.put, List.setIfInBounds_toArray, List.set_cons_zero, List.set_cons_succ]
              refine wpAnyH_take (i := 42) (oi := ?oidd43) (v := undef) ?hidd43 (by kernel_rfl) (by kernel_rfl) (by kernel_rfl) (fun _ _ _ h => h) ?hydd43 hx0 ?restdd43
              case hidd43 => (simp only [List.getElem?_toArray, List.getElem?_cons_succ, List.getElem?_cons_zero]; try rfl)
              case hydd43 => exact Or.inr ⟨by rfl, rfl⟩
              try simp only [Act.put, List.setIfInBounds_toArray, List.set_cons_zero, List.set_cons_succ]
              refine wpAnyH_take (i := 43) (oi := ?oidd44) (v := undef) ?hidd44 (by kernel_rfl) (by kernel_rfl) (by kernel_rfl) (fun _ _ _ h => h) ?hydd44 hx0 ?restdd44
              case hidd44 => (simp only [List.getElem?_toArray, List.getElem?_cons_succ, List.getElem?_cons_zero]; try rfl)
              case hydd44 => exact Or.inr ⟨by rfl, rfl⟩
              try simp only [Act.put, List.setIfInBounds_toArray, List.set_cons_zero, List.set_cons_succ]
              refine wpAnyH_take (i := 44) (oi := ?oidd45) (v := undef) ?hidd45 (by kernel_rfl) (by kernel_rfl) (by kernel_rfl) (fun _ _ _ h => h) ?hydd45 hx0 ?restdd45
              case hidd45 => (simp only [List.getElem?_toArray, List.getElem?_cons_succ, List.getElem?_cons_zero]; try rfl)
              case hydd45 => exact Or.inr ⟨by rfl, rfl⟩
              try simp only [Act.put, List.setIfInBounds_toArray, List.set_cons_zero, List.set_cons_succ]
              refine wpAnyH_take (i := 45) (oi := ?oidd46) (v := ?vdd46) ?hidd46 (by kernel_rfl) (by kernel_rfl) (by kernel_rfl) (fun _ _ _ h => h) ?hydd46 hx0 ?restdd46
              case hidd46 => (simp only [List.getElem?_toArray, List.getElem?_cons_succ, List.getElem?_cons_zero]; try rfl)
              case hydd46 => (refine Or.inl ⟨by rfl, ?_⟩; intro w hSw; go_simp; (try with_reducible rfl))
              try simp only [Act.put, List.setIfInBounds_toArray, List.set_cons_zero, List.set_cons_succ]
              refine wpAnyH_done (by kernel_rfl) ?_ _
              refine NoPanic.normal ?_
              clear hx0
              go_wp2_with fail
              refine ⟨?_, by simp [intOf]; omega⟩
              exact Lib.hid ⟨q + 1, by simp, by omega, lt_succ_cases HY.out HP2.out HLK.out, HB9d.out, HSB.out, _, rfl⟩
        · have eq : q = L.length := by have := HL.out; omega
          have HLK := Lib.hid (allL_in (L := L) (p := fun y => lk x y) fun j y hj hy => HP2.out j y (by omega) hy)
          clear eq
          go_wp2_with fail
          refine ⟨?_, by simp [intOf]; omega⟩
          exact Lib.hid ⟨k + 1, by simp, by omega, lt_succ_cases (p := fun x => (L.all fun y => lk x y) = true) HX.out HP.out HLK.out, HB3.out, _, rfl⟩
    · go_wp2_with fail
      go_ret
      refine ⟨?_, HB7.out⟩
      rw [okL_in fun j x hj hx => HP.out j x (by have := HL.out; omega) hx]
      rfl
end Go.Proofs.Yticmldkgkfcoeaa.Wa
