/- What was said: two lists of the same messages. -/
import Derived.Test.YticmldkgkfcoeaaWaM
namespace Go.Proofs.Yticmldkgkfcoeaa.Wa
open Go Go.RowKit Go.Proofs.Yticmldkgkfcoeaa Go.Proofs.Yticmldkgkfcoeaa.Crw Go.ChangeShapes Go.WideShapes Go.ChangeAt
set_option linter.unusedVariables false
set_option maxRecDepth 100000
attribute [local go_sem] run_store_complex
theorem built_st (T : ByteArray) (st nu : Int) : Try.prog.built 40 [(0, .int .i64 11), (1, .string ⟨#[102]⟩), (3, .string T), (6, .int .i64 nu), (7, .int .i64 1), (5, .int .i64 st)] = some #[.int .i64 11, .string ⟨#[102]⟩, .string ⟨#[]⟩, .string T, .int .i64 0, .int .i64 st, .int .i64 nu, .int .i64 1, .slice none 0 0] := by kernel_rfl
theorem rng (x n : Int) (h1 : 1 ≤ n) (h2 : n ≤ 1000) : 0 ≤ x % n ∧ x % n < n := ⟨Int.emod_nonneg x (by omega), Int.emod_lt_of_pos x (by omega)⟩
/-- A message put into its variable. -/
theorem put9 {w : World} {g : Nat} {v0 v1 v2 v3 v4 v5 v6 v7 v8 : Value} {zs : Array Value} (h1 : (#[v0, v1, v2, v3, v4, v5, v6, v7, v8] : Array Value).all (·.oneCell') = true) (hz : Blk w g 40 zs) (hzs : zs.size = 9) :
    ∃ w', (Instr.storeAt 40 (.pointer (some ⟨g, 0, none⟩)) (.agg #[v0, v1, v2, v3, v4, v5, v6, v7, v8])).run Try.prog w = .ok () w' ∧ Blk w' g 40 #[v0, v1, v2, v3, v4, v5, v6, v7, v8] ∧ (∀ wd : World, wd.heap.size ≤ g → Below wd.heap.size wd w → Below wd.heap.size wd w') ∧ (∀ (g' : Nat) (ty : TypeId) (cs : Array Value), g' ≠ g → Blk w g' ty cs → Blk w' g' ty cs) := by
  refine ⟨_, run_storeAt_mid w g 0 40 #[v0, v1, v2, v3, v4, v5, v6, v7, v8] (fun j hj => ?_) msg_nine h1, ?_, ?_, ?_⟩
  · have hj9 : j < zs.size := by rw [hzs]; exact hj
    have hc := hz.cell j
    rw [Array.getElem?_eq_getElem hj9] at hc
    rw [Nat.zero_add]
    exact ⟨by rw [hc]; rfl, hz.frozen j⟩
  all_goals rw [setCells9]
  · obtain ⟨z0, z1, z2, z3, z4, z5, z6, z7, z8, rfl⟩ := nine zs hzs
    have b1 : Blk _ g 40 #[v0, z1, z2, z3, z4, z5, z6, z7, z8] := hz.set_ 0 v0
    have b2 : Blk _ g 40 #[v0, v1, z2, z3, z4, z5, z6, z7, z8] := b1.set_ 1 v1
    have b3 : Blk _ g 40 #[v0, v1, v2, z3, z4, z5, z6, z7, z8] := b2.set_ 2 v2
    have b4 : Blk _ g 40 #[v0, v1, v2, v3, z4, z5, z6, z7, z8] := b3.set_ 3 v3
    have b5 : Blk _ g 40 #[v0, v1, v2, v3, v4, z5, z6, z7, z8] := b4.set_ 4 v4
    have b6 : Blk _ g 40 #[v0, v1, v2, v3, v4, v5, z6, z7, z8] := b5.set_ 5 v5
    have b7 : Blk _ g 40 #[v0, v1, v2, v3, v4, v5, v6, z7, z8] := b6.set_ 6 v6
    have b8 : Blk _ g 40 #[v0, v1, v2, v3, v4, v5, v6, v7, z8] := b7.set_ 7 v7
    have b9 : Blk _ g 40 #[v0, v1, v2, v3, v4, v5, v6, v7, v8] := b8.set_ 8 v8
    exact b9
  · intro wd hwd hb
    have b1 := hb.setCell (show wd.heap.size ≤ (⟨g, 0, none⟩ : Addr).block from hwd) v0
    have b2 := b1.setCell (show wd.heap.size ≤ (⟨g, 1, none⟩ : Addr).block from hwd) v1
    have b3 := b2.setCell (show wd.heap.size ≤ (⟨g, 2, none⟩ : Addr).block from hwd) v2
    have b4 := b3.setCell (show wd.heap.size ≤ (⟨g, 3, none⟩ : Addr).block from hwd) v3
    have b5 := b4.setCell (show wd.heap.size ≤ (⟨g, 4, none⟩ : Addr).block from hwd) v4
    have b6 := b5.setCell (show wd.heap.size ≤ (⟨g, 5, none⟩ : Addr).block from hwd) v5
    have b7 := b6.setCell (show wd.heap.size ≤ (⟨g, 6, none⟩ : Addr).block from hwd) v6
    have b8 := b7.setCell (show wd.heap.size ≤ (⟨g, 7, none⟩ : Addr).block from hwd) v7
    exact b8.setCell (show wd.heap.size ≤ (⟨g, 8, none⟩ : Addr).block from hwd) v8
  · intro g' ty cs hne hb
    have b1 := hb.far (p := ⟨g, 0, none⟩) hne v0
    have b2 := b1.far (p := ⟨g, 1, none⟩) hne v1
    have b3 := b2.far (p := ⟨g, 2, none⟩) hne v2
    have b4 := b3.far (p := ⟨g, 3, none⟩) hne v3
    have b5 := b4.far (p := ⟨g, 4, none⟩) hne v4
    have b6 := b5.far (p := ⟨g, 5, none⟩) hne v5
    have b7 := b6.far (p := ⟨g, 6, none⟩) hne v6
    have b8 := b7.far (p := ⟨g, 7, none⟩) hne v7
    exact b8.far (p := ⟨g, 8, none⟩) hne v8
def Mark (p : Prop) : Prop := p
theorem Mark.intro {p : Prop} (h : p) : Mark p := h
theorem wpList_store9 {ops : Array Oper} {rest : List Oper} {op : Oper} {a : Act} {w : World} {Q : Exit → Act → World → Prop} {x y : Operand} {gk : Nat} {v0 v1 v2 v3 v4 v5 v6 v7 v8 : Value} {zs : Array Value} (ho : op.op = .store 40 x y) (hg : op.guard = none)
    (hx : a.eval x = .pointer (some ⟨gk, 0, none⟩)) (hy : a.eval y = .agg #[v0, v1, v2, v3, v4, v5, v6, v7, v8]) (h1 : (#[v0, v1, v2, v3, v4, v5, v6, v7, v8] : Array Value).all (·.oneCell') = true) (hz : Blk w gk 40 zs) (hzs : zs.size = 9)
    (h : ∀ w', Blk w' gk 40 #[v0, v1, v2, v3, v4, v5, v6, v7, v8] → (∀ wd : World, wd.heap.size ≤ gk → Below wd.heap.size wd w → Below wd.heap.size wd w') → (∀ (g : Nat) (ty : TypeId) (cs : Array Value), g ≠ gk → Blk w g ty cs → Blk w' g ty cs) → Mark (wpList Try.prog ops Q rest (a.put op.dst undef) w')) : wpList Try.prog ops Q (op :: rest) a w :=
  wpList_step fun K hK => store9 ho hg hx hy h1 hz hzs fun w' h2 h3 h4 => hK _ _ (h w' h2 h3 h4)
theorem reads_newN (W : World) (xs : List Value) (t : TypeId) {n s : Nat} (hs : xs.length = n * s) : Reads (W.alloc (.cells xs.toArray t)) (W.alloc (.cells xs.toArray t)).heap.size s (some ⟨W.heap.size, 0, none⟩) n xs := by
  refine ⟨hs, fun _ => ⟨_, rfl, by simp, fun j u hu => ?_⟩⟩
  have h := (Blk.new W t xs.toArray).cell j
  have e : ((⟨W.heap.size, 0, none⟩ : Addr).add j) = ⟨W.heap.size, j, none⟩ := by
    unfold Addr.add; split <;> simp_all
  rw [e, h]
  simpa using hu
abbrev m9 (X : Sd) : Array Value := #[.int .i64 X.kd, .string X.F, .string X.E, .string X.T, .int .i64 X.nn, .int .i64 X.st, .int .i64 X.nu, .int .i64 X.ep, .slice X.A X.ni X.ci]
abbrev sdX (X : Sd) (i : Nat) : List Value := [.int .i64 X.kd, .string X.F, .string X.E, .string X.T, .int .i64 X.nn, .int .i64 X.st, .int .i64 X.nu, .int .i64 X.ep, .slice X.A X.ni X.ci, .int .i64 1, .int .i64 i]
abbrev zSaid : Value := .agg #[.int .i64 0, .string ⟨#[]⟩, .string ⟨#[]⟩, .string ⟨#[]⟩, .int .i64 0, .int .i64 0, .int .i64 0, .int .i64 0, .slice none 0 0, .int .i64 0, .int .i64 0]
theorem said_infoP : (Try.prog.info? 45).map (fun i => (i.zero, i.size, i.bytes)) = some (some zSaid, 11, 128) := by kernel_rfl
theorem said_infoR : (Try.prog.info? 46).map (fun i => (i.zero, i.size, i.bytes)) = some (some zSaid, 11, 128) := by kernel_rfl
theorem LaX.grownRow {w w' : World} {x : Sd} {B n s : Nat} {e : TypeId} {v : Value} {xs : List Value} (h : LaX w x) (ho : w.ownsRow B e s v n xs) (he : e ≠ 43) (hg : w.grownBy w' v.ownBlock) : LaX w' x := ⟨h.shape, fun hk => blk_grown (h.blk hk) hg (own_blk_ne ho (h.blk hk) he)⟩
/-- The lists so far. -/
structure SdI (w wx : World) (v1 v2 : Value) (L : List Sd) (i : Nat) : Prop where
  len : L.length = i
  o1 : wx.ownsRow w.heap.size 45 11 v1 i (sdV L)
  o2 : wx.ownsRow w.heap.size 46 11 v2 i (sdV L)
  la : ∀ x ∈ L, LaX wx x
  nz : ∀ x ∈ L, x.kd = 11 → x.st ≠ 0
  be : Below w.heap.size w wx
theorem SdI.below {w wx wy : World} {v1 v2 : Value} {L : List Sd} {i : Nat} (h : SdI w wx v1 v2 L i) (hb : Below wx.heap.size wx wy) : SdI w wy v1 v2 L i :=
  ⟨h.len, own_keep h.o1 hb, own_keep h.o2 hb, fun x hx => (h.la x hx).below hb, h.nz, h.be.trans (hb.mono h.be.size)⟩
set_option maxHeartbeats 16000000 in
theorem said_any (A0 : Option Addr) (n0 c0 : Nat) (x0 : List Int) (A1 : Option Addr) (n1 c1 : Nat) (x1 : List Int) (A2 : Option Addr) (n2 c2 : Nat) (x2 : List Int) (A3 : Option Addr) (n3 c3 : Nat) (x3 : List Int) (w : World) (b0 : IntRow .i64 w A0 n0 c0 x0) (b1 : IntRow .i64 w A1 n1 c1 x1) (b2 : IntRow .i64 w A2 n2 c2 x2) (b3 : IntRow .i64 w A3 n3 c3 x3) :
    Calls Try.prog 4 #[.slice A0 n0 c0, .slice A1 n1 c1, .slice A2 n2 c2, .slice A3 n3 c3] w fun e w' => ∃ v1 v2, e = .returned (.tuple #[v1, v2]) ∧ ∃ L i, i ≤ 14 ∧ SdI w w' v1 v2 L i := by
  obtain ⟨hn0, hc0, hx0, hr0, hw0⟩ := b0
  obtain ⟨hn1, hc1, hx1, hr1, hw1⟩ := b1
  obtain ⟨hn2, hc2, hx2, hr2, hw2⟩ := b2
  obtain ⟨hn3, hc3, hx3, hr3, hw3⟩ := b3
  have HR0 := Lib.hid hr0
  have HW0 := Lib.hid hw0
  have HR1 := Lib.hid hr1
  have HW1 := Lib.hid hw1
  have HR2 := Lib.hid hr2
  have HW2 := Lib.hid hw2
  have HR3 := Lib.hid hr3
  have HW3 := Lib.hid hw3
  clear hr0 hw0 hx0 hr1 hw1 hx1 hr2 hw2 hx2 hr3 hw3 hx3
  go_enter Try.func4, Try.ntmps4
  go_wp2_with fail
  go_loopw [10, 11, 12] (fun v10 v11 v12 wx => Hid (∃ (i : Nat) (L : List Sd), v12 = .int .i64 i ∧ i ≤ 14 ∧ SdI w wx v10 v11 L i ∧ ∃ w7, w7 = wx)) (fun _ _ v12 _ => 14 - (intOf v12).toNat)
  case atStart => exact Lib.hid ⟨0, [], rfl, by omega, ⟨rfl, ⟨rfl, .inl ⟨rfl, rfl⟩⟩, ⟨rfl, .inl ⟨rfl, rfl⟩⟩, fun x h => by simp at h, fun x h => by simp at h, Below.refl _ _⟩, _, rfl⟩
  case round =>
    obtain ⟨i, L, rfl, hi, hJ, wr, hwr⟩ := hrel.out
    subst hwr
    clear hrel
    have HJ := Lib.hid hJ
    obtain ⟨Aa, ca, rfl, -, -⟩ := own_slice hJ.o1
    obtain ⟨Ab, cb, rfl, -, -⟩ := own_slice hJ.o2
    clear hJ
    by_cases hall : (i : Int) < n0 ∧ (i : Int) < n1 ∧ (i : Int) < n2 ∧ (i : Int) < n3 ∧ (i : Int) < 14
    · obtain ⟨h0, h1, h2, h3, h4⟩ := hall
      have hi0 : (0 : Int) ≤ (i : Int) := by omega
      have hR1 : Reads wr w.heap.size 1 A1 n1 (x1.map (Value.int .i64)) := HR1.out.below HJ.out.be
      have hR2 : Reads wr w.heap.size 1 A2 n2 (x2.map (Value.int .i64)) := HR2.out.below HJ.out.be
      have hR3 : Reads wr w.heap.size 1 A3 n3 (x3.map (Value.int .i64)) := HR3.out.below HJ.out.be
      have hR0 : Reads wr w.heap.size 1 A0 n0 (x0.map (Value.int .i64)) := HR0.out.below HJ.out.be
      obtain ⟨ad0, kk, rfl, hk0, hck⟩ := ints_atI hR0 (by omega : i < n0)
      obtain ⟨ad1, x, rfl, hx, hcx⟩ := ints_atI hR1 (by omega : i < n1)
      obtain ⟨ad2, y, rfl, hy, hcy⟩ := ints_atI hR2 (by omega : i < n2)
      obtain ⟨ad3, z, rfl, hz, hcz⟩ := ints_atI hR3 (by omega : i < n3)
      have hbk := bounds_i64 (HW0.out kk (List.mem_of_getElem? hk0))
      have hbx := bounds_i64 (HW1.out x (List.mem_of_getElem? hx))
      have hby := bounds_i64 (HW2.out y (List.mem_of_getElem? hy))
      have hbz := bounds_i64 (HW3.out z (List.mem_of_getElem? hz))
      obtain ⟨qn, hqn, hqn2⟩ : ∃ qn : Nat, x % 2 = (qn : Int) ∧ (qn : Int) < 2 := by
        have := rng x 2 (by omega) (by omega)
        exact ⟨(x % 2).toNat, by omega, by omega⟩
      obtain ⟨T, hT, hT2⟩ : ∃ T, (#[Value.string ⟨#[97]⟩, Value.string ⟨#[98]⟩] : Array Value)[qn]? = some (.string T) ∧ (T = ⟨#[97]⟩ ∨ T = ⟨#[98]⟩) := by
        rcases (by omega : qn = 0 ∨ qn = 1) with rfl | rfl
        · exact ⟨_, rfl, .inl rfl⟩
        · exact ⟨_, rfl, .inr rfl⟩
      have hq0 : (0 : Int) ≤ (qn : Int) := by omega
      have hW2 : ∀ w, Calls Try.prog 5 #[.int .i64 x, .int .i64 2] w fun e w' => e = .returned (.int .i64 (qn : Int)) ∧ w = w' := fun w => by
        rw [← hqn]
        exact Within_any x 2 w hbx.1 hbx.2 (by omega) (by omega)
      have hW3 : ∀ w, Calls Try.prog 5 #[.int .i64 y, .int .i64 3] w fun e w' => e = .returned (.int .i64 (y % 3)) ∧ w = w' := fun w => Within_any y 3 w (by omega) (by omega) (by omega) (by omega)
      have hW6 : ∀ w, Calls Try.prog 5 #[.int .i64 z, .int .i64 6] w fun e w' => e = .returned (.int .i64 (z % 6)) ∧ w = w' := fun w => Within_any z 6 w (by omega) (by omega) (by omega) (by omega)
      have hWk : ∀ w, Calls Try.prog 5 #[.int .i64 kk, .int .i64 5] w fun e w' => e = .returned (.int .i64 (kk % 5)) ∧ w = w' := fun w => Within_any kk 5 w (by omega) (by omega) (by omega) (by omega)
      have hWy : ∀ w, Calls Try.prog 5 #[.int .i64 y, .int .i64 5] w fun e w' => e = .returned (.int .i64 (y % 5)) ∧ w = w' := fun w => Within_any y 5 w (by omega) (by omega) (by omega) (by omega)
      obtain ⟨nu, hnu⟩ : ∃ s, IntKind.i64.wrap (1 + y % 3) = s := ⟨_, rfl⟩
      obtain ⟨st, hst⟩ : ∃ s, IntKind.i64.wrap (2 + z % 6) = s := ⟨_, rfl⟩
      have hst0 : st ≠ 0 := by
        have := rng z 6 (by omega) (by omega)
        rw [← hst, IntKind.wrap_i64]
        omega
      have HST := Lib.hid hst0
      have HCK := Lib.hid hck
      have HCX := Lib.hid hcx
      have HCY := Lib.hid hcy
      have HCZ := Lib.hid hcz
      have HW2 := Lib.hid hW2
      have HW3 := Lib.hid hW3
      have HW6 := Lib.hid hW6
      have HWk := Lib.hid hWk
      have HWy := Lib.hid hWy
      clear hR0 hR1 hR2 hR3 hk0 hx hy hz hck hcx hcy hcz hqn hbk hbx hby hbz hT2 hst0 hW2 hW3 hW6 hWk hWy HW0 HW1
      go_upto_region 6 with fail
      go_cut [13] from 43 to 50 (fun v13 wx => Hid (∃ w9, v13 = .string T ∧ Below wr.heap.size wr wx ∧ w9 = wx))
      case first =>
        have hcx : ∀ o, (wr.alloc o).cell? (ad1.add i) = some (.int .i64 x) := fun o => (World.cell?_alloc_lt _ _ _ (World.block_lt_of_cell? _ _ HCX.out)).trans HCX.out
        have hcT : (wr.alloc (.cells #[.string ⟨#[97]⟩, .string ⟨#[98]⟩] 9)).cell? ⟨wr.heap.size, qn, none⟩ = some (.string T) := ((Blk.new wr 9 #[.string ⟨#[97]⟩, .string ⟨#[98]⟩]).cell qn).trans hT
        have hW2 := HW2.out
        clear hnu hst
        go_wp2_with (go_at_call 5; refine (hW2 _).mono ?_; rintro e wz ⟨rfl, rfl⟩)
        go_meet
        exact Lib.hid ⟨_, rfl, (Below.refl _ _).alloc (Nat.le_refl _) _, rfl⟩
      case rest =>
        obtain ⟨w6, rfl, hb6, e6⟩ := hcut.out
        subst e6
        clear hcut hT
        have HB6 := Lib.hid hb6
        have hcy : w6.cell? (ad2.add i) = some (.int .i64 y) := (hb6.cell (World.block_lt_of_cell? _ _ HCY.out)).trans HCY.out
        have hcz : w6.cell? (ad3.add i) = some (.int .i64 z) := (hb6.cell (World.block_lt_of_cell? _ _ HCZ.out)).trans HCZ.out
        have hW3 := HW3.out
        have hW6 := HW6.out
        clear hb6
        go_upto_region 7 with fail
        go_cut [14] from 51 to 64 (fun v14 wx => Hid (∃ g w9, v14 = .pointer (some ⟨g, 0, none⟩) ∧ w6.heap.size ≤ g ∧ Blk wx g 40 #[.int .i64 11, .string ⟨#[102]⟩, .string ⟨#[]⟩, .string T, .int .i64 0, .int .i64 st, .int .i64 nu, .int .i64 1, .slice none 0 0] ∧ Below w6.heap.size w6 wx ∧ w9 = wx))
        case first =>
          refine wp_region_noPanic ?_
          obtain ⟨wd, ewd⟩ : ∃ wd, wd = w6.drew := ⟨_, rfl⟩
          have H0 : Below w6.heap.size w6 wd := by rw [ewd]; exact (Below.refl _ _).drew
          refine wp_region_held_drew (S := fun wa => Below w6.heap.size w6 wa) (by kernel_rfl) (by rw [← ewd]; exact H0) (fun _ => ?_)
          rw [← ewd]
          clear ewd
          refine wpAnyH_take (i := 0) (oi := ?oiu1) (v := ?vu1) ?hiu1 (by kernel_rfl) (by kernel_rfl) (by kernel_rfl) (fun _ _ _ h => h) ?hyu1 H0 ?restu1
          case hiu1 => (simp only [List.getElem?_toArray, List.getElem?_cons_zero]; try rfl)
          case hyu1 => (refine Or.inl ⟨by rfl, ?_⟩; intro w hSw; go_simp; (try with_reducible rfl))
          try simp only [Act.put, List.setIfInBounds_toArray, List.set_cons_zero, List.set_cons_succ]
          refine wpAnyH_take (i := 1) (oi := ?oiu2) (v := ?vu2) ?hiu2 (by kernel_rfl) (by kernel_rfl) (by kernel_rfl) (fun _ _ _ h => h) ?hyu2 H0 ?restu2
          case hiu2 => (simp only [List.getElem?_toArray, List.getElem?_cons_succ, List.getElem?_cons_zero]; try rfl)
          case hyu2 => (refine Or.inl ⟨by rfl, ?_⟩; intro w hSw; go_simp; (try with_reducible rfl))
          try simp only [Act.put, List.setIfInBounds_toArray, List.set_cons_zero, List.set_cons_succ]
          refine wpAnyH_take (i := 2) (oi := ?oiu3) (v := ?vu3) ?hiu3 (by kernel_rfl) (by kernel_rfl) (by kernel_rfl) (fun _ _ _ h => h) ?hyu3 H0 ?restu3
          case hiu3 => (simp only [List.getElem?_toArray, List.getElem?_cons_succ, List.getElem?_cons_zero]; try rfl)
          case hyu3 => (refine Or.inl ⟨by rfl, ?_⟩; intro w hSw; go_simp; (try with_reducible rfl))
          try simp only [Act.put, List.setIfInBounds_toArray, List.set_cons_zero, List.set_cons_succ]
          refine wpAnyH_take (i := 3) (oi := ?oiu4) (v := ?vu4) ?hiu4 (by kernel_rfl) (by kernel_rfl) (by kernel_rfl) (fun _ _ _ h => h) ?hyu4 H0 ?restu4
          case hiu4 => (simp only [List.getElem?_toArray, List.getElem?_cons_succ, List.getElem?_cons_zero]; try rfl)
          case hyu4 => (refine Or.inl ⟨by rfl, ?_⟩; intro w hSw; go_simp; (try with_reducible rfl))
          try simp only [Act.put, List.setIfInBounds_toArray, List.set_cons_zero, List.set_cons_succ]
          refine wpAnyH_take (i := 4) (oi := ?oiu5) (v := ?vu5) ?hiu5 (by kernel_rfl) (by kernel_rfl) (by kernel_rfl) (fun _ _ _ h => h) ?hyu5 H0 ?restu5
          case hiu5 => (simp only [List.getElem?_toArray, List.getElem?_cons_succ, List.getElem?_cons_zero]; try rfl)
          case hyu5 => (refine Or.inl ⟨by rfl, ?_⟩; intro w hSw; have q := (hSw.cell (World.block_lt_of_cell? _ _ hcy)).trans hcy; go_simp; (try with_reducible rfl))
          try simp only [Act.put, List.setIfInBounds_toArray, List.set_cons_zero, List.set_cons_succ]
          refine wpAnyH_take (i := 7) (oi := ?oiu6) (v := ?vu6) ?hiu6 (by kernel_rfl) (by kernel_rfl) (by kernel_rfl) (fun _ _ _ h => h) ?hyu6 H0 ?restu6
          case hiu6 => (simp only [List.getElem?_toArray, List.getElem?_cons_succ, List.getElem?_cons_zero]; try rfl)
          case hyu6 => (refine Or.inl ⟨by rfl, ?_⟩; intro w hSw; go_simp; (try with_reducible rfl))
          try simp only [Act.put, List.setIfInBounds_toArray, List.set_cons_zero, List.set_cons_succ]
          refine wpAnyH_take (i := 8) (oi := ?oiu7) (v := ?vu7) ?hiu7 (by kernel_rfl) (by kernel_rfl) (by kernel_rfl) (fun _ _ _ h => h) ?hyu7 H0 ?restu7
          case hiu7 => (simp only [List.getElem?_toArray, List.getElem?_cons_succ, List.getElem?_cons_zero]; try rfl)
          case hyu7 => (refine Or.inl ⟨by rfl, ?_⟩; intro w hSw; go_simp; (try with_reducible rfl))
          try simp only [Act.put, List.setIfInBounds_toArray, List.set_cons_zero, List.set_cons_succ]
          refine wpAnyH_take (i := 9) (oi := ?oiu8) (v := ?vu8) ?hiu8 (by kernel_rfl) (by kernel_rfl) (by kernel_rfl) (fun _ _ _ h => h) ?hyu8 H0 ?restu8
          case hiu8 => (simp only [List.getElem?_toArray, List.getElem?_cons_succ, List.getElem?_cons_zero]; try rfl)
          case hyu8 => (refine Or.inl ⟨by rfl, ?_⟩; intro w hSw; go_simp; (try with_reducible rfl))
          try simp only [Act.put, List.setIfInBounds_toArray, List.set_cons_zero, List.set_cons_succ]
          refine wpAnyH_take (i := 10) (oi := ?oiu9) (v := ?vu9) ?hiu9 (by kernel_rfl) (by kernel_rfl) (by kernel_rfl) (fun _ _ _ h => h) ?hyu9 H0 ?restu9
          case hiu9 => (simp only [List.getElem?_toArray, List.getElem?_cons_succ, List.getElem?_cons_zero]; try rfl)
          case hyu9 => (refine Or.inl ⟨by rfl, ?_⟩; intro w hSw; have q := (hSw.cell (World.block_lt_of_cell? _ _ hcz)).trans hcz; go_simp; (try with_reducible rfl))
          try simp only [Act.put, List.setIfInBounds_toArray, List.set_cons_zero, List.set_cons_succ]
          refine wpAnyH_ready (rs := [5, 14]) (by kernel_rfl) (by simp) ?_
          refine AllReadyH.cons (o := ?oiu10) ?hiu10 (fun K hK => ?stu10) ?mou10
          case hiu10 => (simp only [List.getElem?_toArray, List.getElem?_cons_succ, List.getElem?_cons_zero]; try rfl)
          case stu10 =>
            go_simp
            go_at_call 5
            refine (hW3 _).mono ?_
            rintro e wz ⟨rfl, rfl⟩
            try dsimp only
            refine hK.out _ _ H0 (fun _ => ?rsu10)
            clear hK K
            try simp only [Act.put, List.setIfInBounds_toArray, List.set_cons_zero, List.set_cons_succ]
            refine wpAnyH_take (i := 6) (oi := ?oiu11) (v := ?vu11) ?hiu11 (by kernel_rfl) (by kernel_rfl) (by kernel_rfl) (fun _ _ _ h => h) ?hyu11 H0 ?restu11
            case hiu11 => (simp only [List.getElem?_toArray, List.getElem?_cons_succ, List.getElem?_cons_zero]; try rfl)
            case hyu11 => (refine Or.inl ⟨by rfl, ?_⟩; intro w hSw; go_simp; (try with_reducible rfl))
            try simp only [Act.put, List.setIfInBounds_toArray, List.set_cons_zero, List.set_cons_succ]
            refine wpAnyH_ready (rs := [11, 14]) (by kernel_rfl) (by simp) ?_
            refine AllReadyH.cons (o := ?oiu12) ?hiu12 (fun K hK => ?stu12) ?mou12
            case hiu12 => (simp only [List.getElem?_toArray, List.getElem?_cons_succ, List.getElem?_cons_zero]; try rfl)
            case stu12 =>
              go_simp
              go_at_call 5
              refine (hW6 _).mono ?_
              rintro e wz ⟨rfl, rfl⟩
              try dsimp only
              refine hK.out _ _ H0 (fun _ => ?rsu12)
              clear hK K
              try simp only [Act.put, List.setIfInBounds_toArray, List.set_cons_zero, List.set_cons_succ]
              refine wpAnyH_take (i := 12) (oi := ?oiu13) (v := ?vu13) ?hiu13 (by kernel_rfl) (by kernel_rfl) (by kernel_rfl) (fun _ _ _ h => h) ?hyu13 H0 ?restu13
              case hiu13 => (simp only [List.getElem?_toArray, List.getElem?_cons_succ, List.getElem?_cons_zero]; try rfl)
              case hyu13 => (refine Or.inl ⟨by rfl, ?_⟩; intro w hSw; go_simp; (try with_reducible rfl))
              try simp only [Act.put, List.setIfInBounds_toArray, List.set_cons_zero, List.set_cons_succ]
              refine wpAnyH_take (i := 13) (oi := ?oiu14) (v := ?vu14) ?hiu14 (by kernel_rfl) (by kernel_rfl) (by kernel_rfl) (fun _ _ _ h => h) ?hyu14 H0 ?restu14
              case hiu14 => (simp only [List.getElem?_toArray, List.getElem?_cons_succ, List.getElem?_cons_zero]; try rfl)
              case hyu14 => (refine yields_build (cells := #[.int .i64 11, .string ⟨#[102]⟩, .string ⟨#[]⟩, .string T, .int .i64 0, .int .i64 st, .int .i64 nu, .int .i64 1, .slice none 0 0]) 40 ?pau14 ?hou14 ?hgu14 ?hfu14; (case hou14 => rfl); (case hgu14 => rfl); (case hfu14 => simp [Act.eval]; exact built_st _ _ _))
              try simp only [Act.put, List.setIfInBounds_toArray, List.set_cons_zero, List.set_cons_succ]
              refine wpAnyH_ready (rs := [14]) (by kernel_rfl) (by simp) ?_
              refine AllReadyH.cons (o := ?oiu15) ?hiu15 (fun K hK => ?stu15) ?mou15
              case hiu15 => (simp only [List.getElem?_toArray, List.getElem?_cons_succ, List.getElem?_cons_zero]; try rfl)
              case stu15 =>
                obtain ⟨Wu15, eu15⟩ : ∃ w7, w7 = wd.alloc (.cells #[.int .i64 0, .string ⟨#[]⟩, .string ⟨#[]⟩, .string ⟨#[]⟩, .int .i64 0, .int .i64 0, .int .i64 0, .int .i64 0, .slice none 0 0] 40) := ⟨_, rfl⟩
                obtain ⟨gk, su15⟩ : ∃ g, g = wd.heap.size := ⟨_, rfl⟩
                have Nu15 : Blk Wu15 gk 40 #[.int .i64 0, .string ⟨#[]⟩, .string ⟨#[]⟩, .string ⟨#[]⟩, .int .i64 0, .int .i64 0, .int .i64 0, .int .i64 0, .slice none 0 0] := by rw [eu15, su15]; exact Blk.new _ _ _
                have Hu15 : Below w6.heap.size w6 Wu15 := by rw [eu15]; exact H0.alloc H0.size _
                have Gu15 : w6.heap.size ≤ gk := by rw [su15]; exact H0.size
                go_simp
                rw [← eu15, ← su15]
                clear eu15 su15
                refine hK.out _ _ Hu15 (fun _ => ?rsu15)
                clear hK K
                try simp only [Act.put, List.setIfInBounds_toArray, List.set_cons_zero, List.set_cons_succ]
                refine wpAnyH_ready (rs := [15]) (by kernel_rfl) (by simp) ?_
                refine AllReadyH.cons (o := ?oiu16) ?hiu16 (fun K hK => ?stu16) ?mou16
                case hiu16 => (simp only [List.getElem?_toArray, List.getElem?_cons_succ, List.getElem?_cons_zero]; try rfl)
                case stu16 =>
                  refine store9 (v0 := .int .i64 11) (v1 := .string ⟨#[102]⟩) (v2 := .string ⟨#[]⟩) (v3 := .string T) (v4 := .int .i64 0) (v5 := .int .i64 st) (v6 := .int .i64 nu) (v7 := .int .i64 1) (v8 := .slice none 0 0) rfl rfl (by simp [Act.eval]; done) (by simp [Act.eval]; done) (by simp [Value.oneCell']) Nu15 rfl ?_
                  intro wu16 hnu16 hbeu16 hbfu16
                  have hbu16 := hbeu16 w6 Gu15 Hu15
                  refine hK.out _ _ hbu16 (fun _ => ?rsu16)
                  clear hK K
                  try simp only [Act.put]
                  refine wpAnyH_done (by kernel_rfl) ?_ _
                  refine NoPanic.normal ?_
                  go_wp2_with fail
                  go_meet
                  exact Lib.hid ⟨gk, _, rfl, Gu15, hnu16, hbu16, rfl⟩
                exact AllReadyH.nil
              exact AllReadyH.nil
            refine AllReadyH.cons (o := ?oiu17) ?hiu17 (fun K hK => ?stu17) ?mou17
            case hiu17 => (simp only [List.getElem?_toArray, List.getElem?_cons_succ, List.getElem?_cons_zero]; try rfl)
            case stu17 =>
              obtain ⟨Wu17, eu17⟩ : ∃ w7, w7 = wd.alloc (.cells #[.int .i64 0, .string ⟨#[]⟩, .string ⟨#[]⟩, .string ⟨#[]⟩, .int .i64 0, .int .i64 0, .int .i64 0, .int .i64 0, .slice none 0 0] 40) := ⟨_, rfl⟩
              obtain ⟨gk, su17⟩ : ∃ g, g = wd.heap.size := ⟨_, rfl⟩
              have Nu17 : Blk Wu17 gk 40 #[.int .i64 0, .string ⟨#[]⟩, .string ⟨#[]⟩, .string ⟨#[]⟩, .int .i64 0, .int .i64 0, .int .i64 0, .int .i64 0, .slice none 0 0] := by rw [eu17, su17]; exact Blk.new _ _ _
              have Hu17 : Below w6.heap.size w6 Wu17 := by rw [eu17]; exact H0.alloc H0.size _
              have Gu17 : w6.heap.size ≤ gk := by rw [su17]; exact H0.size
              go_simp
              rw [← eu17, ← su17]
              clear eu17 su17
              refine hK.out _ _ Hu17 (fun _ => ?rsu17)
              clear hK K
              try simp only [Act.put, List.setIfInBounds_toArray, List.set_cons_zero, List.set_cons_succ]
              refine wpAnyH_ready (rs := [11]) (by kernel_rfl) (by simp) ?_
              refine AllReadyH.cons (o := ?oiu18) ?hiu18 (fun K hK => ?stu18) ?mou18
              case hiu18 => (simp only [List.getElem?_toArray, List.getElem?_cons_succ, List.getElem?_cons_zero]; try rfl)
              case stu18 =>
                go_simp
                go_at_call 5
                refine (hW6 _).mono ?_
                rintro e wz ⟨rfl, rfl⟩
                try dsimp only
                refine hK.out _ _ Hu17 (fun _ => ?rsu18)
                clear hK K
                try simp only [Act.put, List.setIfInBounds_toArray, List.set_cons_zero, List.set_cons_succ]
                refine wpAnyH_take (i := 12) (oi := ?oiu19) (v := ?vu19) ?hiu19 (by kernel_rfl) (by kernel_rfl) (by kernel_rfl) (fun _ _ _ h => h) ?hyu19 Hu17 ?restu19
                case hiu19 => (simp only [List.getElem?_toArray, List.getElem?_cons_succ, List.getElem?_cons_zero]; try rfl)
                case hyu19 => (refine Or.inl ⟨by rfl, ?_⟩; intro w hSw; go_simp; (try with_reducible rfl))
                try simp only [Act.put, List.setIfInBounds_toArray, List.set_cons_zero, List.set_cons_succ]
                refine wpAnyH_take (i := 13) (oi := ?oiu20) (v := ?vu20) ?hiu20 (by kernel_rfl) (by kernel_rfl) (by kernel_rfl) (fun _ _ _ h => h) ?hyu20 Hu17 ?restu20
                case hiu20 => (simp only [List.getElem?_toArray, List.getElem?_cons_succ, List.getElem?_cons_zero]; try rfl)
                case hyu20 => (refine yields_build (cells := #[.int .i64 11, .string ⟨#[102]⟩, .string ⟨#[]⟩, .string T, .int .i64 0, .int .i64 st, .int .i64 nu, .int .i64 1, .slice none 0 0]) 40 ?pau20 ?hou20 ?hgu20 ?hfu20; (case hou20 => rfl); (case hgu20 => rfl); (case hfu20 => simp [Act.eval]; exact built_st _ _ _))
                try simp only [Act.put, List.setIfInBounds_toArray, List.set_cons_zero, List.set_cons_succ]
                refine wpAnyH_ready (rs := [15]) (by kernel_rfl) (by simp) ?_
                refine AllReadyH.cons (o := ?oiu21) ?hiu21 (fun K hK => ?stu21) ?mou21
                case hiu21 => (simp only [List.getElem?_toArray, List.getElem?_cons_succ, List.getElem?_cons_zero]; try rfl)
                case stu21 =>
                  refine store9 (v0 := .int .i64 11) (v1 := .string ⟨#[102]⟩) (v2 := .string ⟨#[]⟩) (v3 := .string T) (v4 := .int .i64 0) (v5 := .int .i64 st) (v6 := .int .i64 nu) (v7 := .int .i64 1) (v8 := .slice none 0 0) rfl rfl (by simp [Act.eval]; done) (by simp [Act.eval]; done) (by simp [Value.oneCell']) Nu17 rfl ?_
                  intro wu21 hnu21 hbeu21 hbfu21
                  have hbu21 := hbeu21 w6 Gu17 Hu17
                  refine hK.out _ _ hbu21 (fun _ => ?rsu21)
                  clear hK K
                  try simp only [Act.put]
                  refine wpAnyH_done (by kernel_rfl) ?_ _
                  refine NoPanic.normal ?_
                  go_wp2_with fail
                  go_meet
                  exact Lib.hid ⟨gk, _, rfl, Gu17, hnu21, hbu21, rfl⟩
                exact AllReadyH.nil
              exact AllReadyH.nil
            exact AllReadyH.nil
          refine AllReadyH.cons (o := ?oiu22) ?hiu22 (fun K hK => ?stu22) ?mou22
          case hiu22 => (simp only [List.getElem?_toArray, List.getElem?_cons_succ, List.getElem?_cons_zero]; try rfl)
          case stu22 =>
            obtain ⟨Wu22, eu22⟩ : ∃ w7, w7 = wd.alloc (.cells #[.int .i64 0, .string ⟨#[]⟩, .string ⟨#[]⟩, .string ⟨#[]⟩, .int .i64 0, .int .i64 0, .int .i64 0, .int .i64 0, .slice none 0 0] 40) := ⟨_, rfl⟩
            obtain ⟨gk, su22⟩ : ∃ g, g = wd.heap.size := ⟨_, rfl⟩
            have Nu22 : Blk Wu22 gk 40 #[.int .i64 0, .string ⟨#[]⟩, .string ⟨#[]⟩, .string ⟨#[]⟩, .int .i64 0, .int .i64 0, .int .i64 0, .int .i64 0, .slice none 0 0] := by rw [eu22, su22]; exact Blk.new _ _ _
            have Hu22 : Below w6.heap.size w6 Wu22 := by rw [eu22]; exact H0.alloc H0.size _
            have Gu22 : w6.heap.size ≤ gk := by rw [su22]; exact H0.size
            go_simp
            rw [← eu22, ← su22]
            clear eu22 su22
            refine hK.out _ _ Hu22 (fun _ => ?rsu22)
            clear hK K
            try simp only [Act.put, List.setIfInBounds_toArray, List.set_cons_zero, List.set_cons_succ]
            refine wpAnyH_ready (rs := [5]) (by kernel_rfl) (by simp) ?_
            refine AllReadyH.cons (o := ?oiu23) ?hiu23 (fun K hK => ?stu23) ?mou23
            case hiu23 => (simp only [List.getElem?_toArray, List.getElem?_cons_succ, List.getElem?_cons_zero]; try rfl)
            case stu23 =>
              go_simp
              go_at_call 5
              refine (hW3 _).mono ?_
              rintro e wz ⟨rfl, rfl⟩
              try dsimp only
              refine hK.out _ _ Hu22 (fun _ => ?rsu23)
              clear hK K
              try simp only [Act.put, List.setIfInBounds_toArray, List.set_cons_zero, List.set_cons_succ]
              refine wpAnyH_take (i := 6) (oi := ?oiu24) (v := ?vu24) ?hiu24 (by kernel_rfl) (by kernel_rfl) (by kernel_rfl) (fun _ _ _ h => h) ?hyu24 Hu22 ?restu24
              case hiu24 => (simp only [List.getElem?_toArray, List.getElem?_cons_succ, List.getElem?_cons_zero]; try rfl)
              case hyu24 => (refine Or.inl ⟨by rfl, ?_⟩; intro w hSw; go_simp; (try with_reducible rfl))
              try simp only [Act.put, List.setIfInBounds_toArray, List.set_cons_zero, List.set_cons_succ]
              refine wpAnyH_ready (rs := [11]) (by kernel_rfl) (by simp) ?_
              refine AllReadyH.cons (o := ?oiu25) ?hiu25 (fun K hK => ?stu25) ?mou25
              case hiu25 => (simp only [List.getElem?_toArray, List.getElem?_cons_succ, List.getElem?_cons_zero]; try rfl)
              case stu25 =>
                go_simp
                go_at_call 5
                refine (hW6 _).mono ?_
                rintro e wz ⟨rfl, rfl⟩
                try dsimp only
                refine hK.out _ _ Hu22 (fun _ => ?rsu25)
                clear hK K
                try simp only [Act.put, List.setIfInBounds_toArray, List.set_cons_zero, List.set_cons_succ]
                refine wpAnyH_take (i := 12) (oi := ?oiu26) (v := ?vu26) ?hiu26 (by kernel_rfl) (by kernel_rfl) (by kernel_rfl) (fun _ _ _ h => h) ?hyu26 Hu22 ?restu26
                case hiu26 => (simp only [List.getElem?_toArray, List.getElem?_cons_succ, List.getElem?_cons_zero]; try rfl)
                case hyu26 => (refine Or.inl ⟨by rfl, ?_⟩; intro w hSw; go_simp; (try with_reducible rfl))
                try simp only [Act.put, List.setIfInBounds_toArray, List.set_cons_zero, List.set_cons_succ]
                refine wpAnyH_take (i := 13) (oi := ?oiu27) (v := ?vu27) ?hiu27 (by kernel_rfl) (by kernel_rfl) (by kernel_rfl) (fun _ _ _ h => h) ?hyu27 Hu22 ?restu27
                case hiu27 => (simp only [List.getElem?_toArray, List.getElem?_cons_succ, List.getElem?_cons_zero]; try rfl)
                case hyu27 => (refine yields_build (cells := #[.int .i64 11, .string ⟨#[102]⟩, .string ⟨#[]⟩, .string T, .int .i64 0, .int .i64 st, .int .i64 nu, .int .i64 1, .slice none 0 0]) 40 ?pau27 ?hou27 ?hgu27 ?hfu27; (case hou27 => rfl); (case hgu27 => rfl); (case hfu27 => simp [Act.eval]; exact built_st _ _ _))
                try simp only [Act.put, List.setIfInBounds_toArray, List.set_cons_zero, List.set_cons_succ]
                refine wpAnyH_ready (rs := [15]) (by kernel_rfl) (by simp) ?_
                refine AllReadyH.cons (o := ?oiu28) ?hiu28 (fun K hK => ?stu28) ?mou28
                case hiu28 => (simp only [List.getElem?_toArray, List.getElem?_cons_succ, List.getElem?_cons_zero]; try rfl)
                case stu28 =>
                  refine store9 (v0 := .int .i64 11) (v1 := .string ⟨#[102]⟩) (v2 := .string ⟨#[]⟩) (v3 := .string T) (v4 := .int .i64 0) (v5 := .int .i64 st) (v6 := .int .i64 nu) (v7 := .int .i64 1) (v8 := .slice none 0 0) rfl rfl (by simp [Act.eval]; done) (by simp [Act.eval]; done) (by simp [Value.oneCell']) Nu22 rfl ?_
                  intro wu28 hnu28 hbeu28 hbfu28
                  have hbu28 := hbeu28 w6 Gu22 Hu22
                  refine hK.out _ _ hbu28 (fun _ => ?rsu28)
                  clear hK K
                  try simp only [Act.put]
                  refine wpAnyH_done (by kernel_rfl) ?_ _
                  refine NoPanic.normal ?_
                  go_wp2_with fail
                  go_meet
                  exact Lib.hid ⟨gk, _, rfl, Gu22, hnu28, hbu28, rfl⟩
                exact AllReadyH.nil
              exact AllReadyH.nil
            exact AllReadyH.nil
          exact AllReadyH.nil
        case rest =>
          obtain ⟨g, w9, rfl, hge, hk9, hb9, e9⟩ := hcut.out
          subst e9
          clear hcut hcy hcz hW3 hW6 hnu hst
          have hBr : Below wr.heap.size wr w9 := HB6.out.trans (hb9.mono HB6.out.size)
          have hck : w9.cell? (ad0.add i) = some (.int .i64 kk) := (hBr.cell (World.block_lt_of_cell? _ _ HCK.out)).trans HCK.out
          have hcy : w9.cell? (ad2.add i) = some (.int .i64 y) := (hBr.cell (World.block_lt_of_cell? _ _ HCY.out)).trans HCY.out
          have HCY9 := Lib.hid hcy
          have HBR := Lib.hid hBr
          have HK9 := Lib.hid hk9
          have HGE := Lib.hid (Nat.le_trans HB6.out.size hge)
          have hWk := HWk.out
          obtain ⟨kq, hkq⟩ : ∃ q, q = kk % 5 := ⟨_, rfl⟩
          rw [← hkq] at hWk
          clear hBr hge hk9 hb9 hcy hkq
          go_upto_region 8 with fail
          go_cut [69] from 65 to 68 (fun v69 wx => v69 = .int .i64 kq ∧ wx = w9)
          case first =>
            go_wp2_with (go_at_call 5; refine (hWk _).mono ?_; rintro e wz ⟨rfl, rfl⟩)
            go_meet
            exact ⟨rfl, rfl⟩
          case rest =>
          obtain ⟨rfl, e8⟩ := hcut
          rw [e8]
          clear e8 hWk hck
          apply_assumption
          go_cut [] from 70 to 85 (fun wx => Hid (∃ (X : Sd) (w7 : World), Blk wx g 40 (m9 X) ∧ LaX wx X ∧ (X.kd = 11 → X.st ≠ 0) ∧ X.me = 1 ∧ X.at_ = i ∧ Below wr.heap.size wr wx ∧ w7 = wx))
          case first =>
            by_cases hq : kq = 0
            · have hWy := HWy.out
              have hcy : w9.cell? (ad2.add i) = some (.int .i64 y) := HCY9.out
              go_upto_region 10 with fail
              repeat (first | (refine wpList_store9 rfl rfl rfl rfl (by simp [Value.oneCell']) (HK9.out.below ((Below.refl _ _).alloc (Nat.le_refl _) (.cells #[.string T, one_] 43)) HK9.out.lt) rfl ?_; intro w2 hk2 hbe hbf) | (go_at_call 5; refine (hWy _).mono ?_; rintro e wz ⟨rfl, rfl⟩; try dsimp only) | go_step)
              refine Mark.intro ?_
              have hb2 := hbe wr HGE.out (HBR.out.alloc HBR.out.size _)
              have hki := hbf w9.heap.size _ _ (fun e => by have := HK9.out.lt; omega) (Blk.new w9 43 #[.string T, one_])
              have HK2 := Lib.hid hk2
              have HB2 := Lib.hid hb2
              have HKI := Lib.hid hki
              clear hk2 hb2 hki hbe hbf hWy hcy
              go_wp2_with fail
              go_meet
              exact Lib.hid ⟨⟨14, ⟨#[102]⟩, ⟨#[120]⟩, ⟨#[]⟩, _, 0, 0, 0, some ⟨w9.heap.size, 0, none⟩, 1, 1, 1, i, T, w9.heap.size⟩, _, HK2.out, ⟨fun _ => ⟨rfl, rfl, rfl, rfl, rfl, rfl, rfl, rfl, rfl⟩, fun _ => HKI.out⟩, fun h => absurd h (by show ¬ ((14 : Int) = 11); decide), rfl, rfl, HB2.out, rfl⟩
            · have hq2 : (kq == 0) = false := by simpa using hq
              clear hq
              by_cases hq1 : kq = 1
              · go_upto_region 12 with fail
                repeat (first | (refine wpList_store9 rfl rfl rfl rfl (by simp [Value.oneCell']) HK9.out rfl ?_; intro w2 hk2 hbe hbf) | go_step)
                refine Mark.intro ?_
                have HK2 := Lib.hid hk2
                have HB2 := Lib.hid (hbe wr HGE.out HBR.out)
                clear hk2 hbe hbf
                go_wp2_with fail
                go_meet
                exact Lib.hid ⟨⟨13, ⟨#[102]⟩, ⟨#[120]⟩, ⟨#[]⟩, 1, 0, 0, 0, none, 0, 0, 1, i, ⟨#[]⟩, 0⟩, _, HK2.out, ⟨fun h => absurd h (by show ¬ ((13 : Int) = 14); decide), fun h => absurd h (by show ¬ ((13 : Int) = 14); decide)⟩, fun h => absurd h (by show ¬ ((13 : Int) = 11); decide), rfl, rfl, HB2.out, rfl⟩
              · have hq3 : (kq == 1) = false := by simpa using hq1
                clear hq1
                go_wp2_with fail
                go_meet
                exact Lib.hid ⟨⟨11, ⟨#[102]⟩, ⟨#[]⟩, T, 0, st, nu, 1, none, 0, 0, 1, i, ⟨#[]⟩, 0⟩, _, HK9.out, ⟨fun h => absurd h (by show ¬ ((11 : Int) = 14); decide), fun h => absurd h (by show ¬ ((11 : Int) = 14); decide)⟩, fun _ => HST.out, rfl, rfl, HBR.out, rfl⟩
          case rest =>
            obtain ⟨X, w7, hk7, hla, hnz, hme, hat, hb7, e7⟩ := hcut.out
            subst e7
            clear hcut
            have HJ7 := Lib.hid (HJ.out.below hb7)
            have HK7 := Lib.hid hk7
            have HLA := Lib.hid hla
            have HNZ := Lib.hid hnz
            have HME := Lib.hid hme
            have HAT := Lib.hid hat
            have m0 := hk7.cell 0
            have m1 := hk7.cell 1
            have m2 := hk7.cell 2
            have m3 := hk7.cell 3
            have m4 := hk7.cell 4
            have m5 := hk7.cell 5
            have m6 := hk7.cell 6
            have m7 := hk7.cell 7
            have m8 := hk7.cell 8
            clear hk7 hla hnz hme hat hb7
            obtain ⟨ip, hip, hp0, hp1, hp2⟩ := info_parts said_infoP
            obtain ⟨ir, hir, hr0, hr1, hr2⟩ := info_parts said_infoR
            have hsz := HJ7.out.be.size
            go_upto_region 14 with (at_builtin; refine wpList_append_any _ rfl _ _ 23 rfl w.heap.size 45 ip zSaid 11 128 Try.underlying23 hip hp0 hp1 hp2 rfl (by decide) _ i (sdV L) rfl (HJ7.out.o1.alloc _) _ (some ⟨w7.heap.size, 0, none⟩) 1 1 (sdX X i) rfl (reads_newN w7 (sdX X i) 45 rfl) (by simp [Value.oneCell']) (by simp only [maxLen]; omega) (by omega) (by simp; omega) ?_; intro v4 w4 hown4 hg4 hn4; obtain ⟨A4, c4', rfl, -, -⟩ := own_slice hown4)
            clear m0 m1 m2 m3 m4 m5 m6 m7 m8
            have hk4 := blk_grown (HK7.out.below ((Below.refl _ _).alloc (Nat.le_refl _) (.cells (sdX X i).toArray 45)) HK7.out.lt) hg4 (own_blk_ne HJ7.out.o1 HK7.out (by decide))
            have hb4 := push_below HJ7.out.be HJ7.out.be.size HJ7.out.o1 _ hg4
            have ho2 := (HJ7.out.o2.alloc (.cells (sdX X i).toArray 45)).kept hg4 (own_own_ne HJ7.out.o2 HJ7.out.o1 (by decide))
            have hla4 : ∀ x ∈ L, LaX w4 x := fun x hx => ((HJ7.out.la x hx).below ((Below.refl _ _).alloc (Nat.le_refl _) _)).grownRow (HJ7.out.o1.alloc _) (by decide) hg4
            have hlx4 : LaX w4 X := (HLA.out.below ((Below.refl _ _).alloc (Nat.le_refl _) _)).grownRow (HJ7.out.o1.alloc _) (by decide) hg4
            have HO1 := Lib.hid hown4
            have HO2 := Lib.hid ho2
            have HLA4 := Lib.hid hla4
            have HLX4 := Lib.hid hlx4
            have HB4 := Lib.hid hb4
            have hsz4 := hb4.size
            have m0 := hk4.cell 0
            have m1 := hk4.cell 1
            have m2 := hk4.cell 2
            have m3 := hk4.cell 3
            have m4 := hk4.cell 4
            have m5 := hk4.cell 5
            have m6 := hk4.cell 6
            have m7 := hk4.cell 7
            have m8 := hk4.cell 8
            clear hown4 hg4 hn4 hk4 hb4 ho2 hla4 hlx4
            go_wp2_with (at_builtin; refine wpList_append_any _ rfl _ _ 24 rfl w.heap.size 46 ir zSaid 11 128 Try.underlying24 hir hr0 hr1 hr2 rfl (by decide) _ i (sdV L) rfl (HO2.out.alloc _) _ (some ⟨w4.heap.size, 0, none⟩) 1 1 (sdX X i) rfl (reads_newN w4 (sdX X i) 46 rfl) (by simp [Value.oneCell']) (by simp only [maxLen]; omega) (by omega) (by simp; omega) ?_; intro v5 w5 hown5 hg5 hn5; obtain ⟨A5, c5', rfl, -, -⟩ := own_slice hown5)
            refine ⟨?_, by simp [intOf]; omega⟩
            have e1 : sdV (L ++ [X]) = sdV L ++ sdX X i := by
              simp [sdV, sd11, HME.out, HAT.out]
            have hg5a := World.grownBy.trans (World.grownBy_alloc w4 (.cells (sdX X i).toArray 46) _) hg5
            refine Lib.hid ⟨i + 1, L ++ [X], by simp, by omega, ⟨by rw [List.length_append, HJ.out.len]; rfl, by rw [e1]; exact HO1.out.kept hg5a (own_own_ne HO1.out HO2.out (by decide)), by rw [e1]; exact hown5, fun x hx => ?_, fun x hx => ?_, push_below HB4.out HB4.out.size HO2.out _ hg5⟩, _, rfl⟩
            · rcases List.mem_append.1 hx with hx | hx
              · exact (HLA4.out x hx).grownRow HO2.out (by decide) hg5a
              · have := List.mem_singleton.1 hx
                subst this
                exact HLX4.out.grownRow HO2.out (by decide) hg5a
            · rcases List.mem_append.1 hx with hx | hx
              · exact HJ.out.nz x hx
              · have := List.mem_singleton.1 hx
                subst this
                exact HNZ.out
    · have hall2 : ¬ (i : Int) < n0 ∨ ((i : Int) < n0 ∧ ¬ (i : Int) < n1) ∨ ((i : Int) < n0 ∧ (i : Int) < n1 ∧ ¬ (i : Int) < n2) ∨ ((i : Int) < n0 ∧ (i : Int) < n1 ∧ (i : Int) < n2 ∧ ¬ (i : Int) < n3) ∨ ((i : Int) < n0 ∧ (i : Int) < n1 ∧ (i : Int) < n2 ∧ (i : Int) < n3 ∧ ¬ (i : Int) < 14) := by omega
      clear hall
      rcases hall2 with h1 | ⟨h1, h2⟩ | ⟨h1, h2, h3⟩ | ⟨h1, h2, h3, h4⟩ | ⟨h1, h2, h3, h4, h5⟩
      all_goals
        go_wp2_with fail
        go_ret2
        exact ⟨.slice Aa i ca, .slice Ab i cb, rfl, L, i, hi, HJ.out⟩
end Go.Proofs.Yticmldkgkfcoeaa.Wa
