/- What the master notes. -/
import Derived.Test.YtiflhfhonhbcpaaMas3
namespace Go.Proofs.Ytiflhfhonhbcpaa.Mas
open Go Go.RowKit Go.Proofs.Ytiflhfhonhbcpaa Go.Proofs.Ytiflhfhonhbcpaa.Crw Go.ChangeShapes Go.WideShapes Go.ChangeAt
set_option linter.unusedVariables false
set_option maxRecDepth 100000
section
variable {w w' : World} {B m mb : Nat} {V U : Nat → Prop} {R : List Tk}
abbrev msgC (f e t : ByteArray) (n st nu ep : Int) : Array Value := #[.int .i64 11, .string f, .string e, .string t, .int .i64 n, .int .i64 st, .int .i64 nu, .int .i64 ep, .slice none 0 0]
/-- What may be said of a note. -/
def Noted (w : World) (B m mb : Nat) (V : Nat → Prop) (R' : List Tk → Prop) (w' : World) : Prop := ∃ V' R1, R' R1 ∧ MsP w' B m mb V' R1 ∧ (∀ b, V b → V' b) ∧ (∀ b, V' b → V b ∨ w.heap.size ≤ b) ∧ Vol V w w'
set_option maxHeartbeats 4000000 in
theorem note_same (h : MsP w B m mb V R) {j q : Nat} {x : Tk} (hj : R[j]? = some x) {f t e : ByteArray} (hs : same f t x = true) (n st nu ep : Int) (hq : x.ns.length = q + 1) (hq2 : q ≤ 1000) (hl : x.ns[q]? = some nu) :
    Calls Try.prog 50 #[.pointer (some ⟨m, 0, none⟩), .agg (msgC f e t n st nu ep)] w fun r w' => r = .returned (.tuple #[]) ∧ Noted w B m mb V (fun R1 => R1 = R.set j { x with st := st }) w' := by
  obtain ⟨W, hW⟩ : ∃ W, W = (w.alloc (.cells (msgC f e t n st nu ep) 30)).alloc (.cells #[.string f, .string t] 46) := ⟨_, rfl⟩
  have hb : Below w.heap.size w W := by rw [hW]; exact ((Below.refl _ _).alloc (Nat.le_refl _) _).alloc (by simp) _
  have hM := h.below hb
  have hk : Blk W w.heap.size 30 (msgC f e t n st nu ep) := by rw [hW]; exact (Blk.new w 30 (msgC f e t n st nu ep)).below ((Below.refl _ _).alloc (Nat.le_refl _) _) (Blk.new w 30 (msgC f e t n st nu ep)).lt
  have hk2 : Blk W (w.heap.size + 1) 46 #[.string f, .string t] := by
    rw [hW]
    have := Blk.new (w.alloc (.cells (msgC f e t n st nu ep) 30)) 46 #[.string f, .string t]
    simpa using this
  obtain ⟨A, c, hv, hc, -⟩ := own_slice (hM.rows j x hj)
  have hro := hM.rows j x hj
  rw [hv, hq] at hro
  obtain ⟨u, rfl⟩ := own_some hro (by omega)
  have hx := hM.tks j x hj
  rw [hv, hq] at hx
  have p0 : W.cell? ⟨w.heap.size + 1, 0, none⟩ = some (.string f) := hk2.cell 0
  have p1 : W.cell? ⟨w.heap.size + 1, 1, none⟩ = some (.string t) := hk2.cell 1
  have p5 : W.cell? ⟨w.heap.size, 5, none⟩ = some (.int .i64 st) := hk.cell 5
  have p6 : W.cell? ⟨w.heap.size, 6, none⟩ = some (.int .i64 nu) := hk.cell 6
  have qm : W.cell? ⟨m, 0, none⟩ = some (.map (some mb)) := hM.blk.cell 0
  have x0 : W.cell? ⟨x.g, 0, none⟩ = some (.int .i64 x.st) := hx.cell 0
  have x1 : W.cell? ⟨x.g, 1, none⟩ = some (.slice (some ⟨u, 0, none⟩) (q + 1) c) := hx.cell 1
  have xf : W.frozen? ⟨x.g, 0, none⟩ = false := hx.frozen 0
  have d5 : W.cell? ⟨u, q, none⟩ = some (.int .i64 nu) := (hro.cellAt q (by omega)).trans (by rw [List.getElem?_map, hl]; rfl)
  have hlk := fun k => look_yes (hM.drewN k) hj hs
  have HW := Lib.hid hW
  have HB := Lib.hid hb
  have HM := Lib.hid hM
  have HR := Lib.hid hro
  have HV := Lib.hid hv
  have HJ := Lib.hid hj
  have HX := Lib.hid hx
  have HQ := Lib.hid hq
  have HH := Lib.hid h
  have HK := Lib.hid hk
  have hug : u ≠ x.g := fun e => own_blk_ne hro hx (by decide) (by rw [e]; rfl)
  have hgg : w.heap.size ≠ x.g := fun e => by have := (h.tks j x hj).lt; omega
  have hgl : x.g < w.heap.size := (h.tks j x hj).lt
  clear hM hk hk2 hW hb h hj hs hro hv hx hq hl
  generalize hxg : x.g = g at *
  have HG := Lib.hid hxg
  clear hxg
  go_enter Try.func50, Try.ntmps50
  go_wp2_with fail
  rw [← HW.out]
  go_quiet (fail)
  go_upto_region 8 with fail
  obtain ⟨W2, hW2⟩ : ∃ W2, W2 = (W.drewN nq).setCell ⟨g, 0, none⟩ (.int .i64 st) := ⟨_, rfl⟩
  rw [← hW2]
  have hc : ∀ (b o : Nat), b ≠ g → W2.cell? ⟨b, o, none⟩ = W.cell? ⟨b, o, none⟩ := fun b o hb => by
    rw [hW2]
    exact World.cell?_setCell_other (W.drewN nq) ⟨g, 0, none⟩ ⟨b, o, none⟩ _ (fun e => hb (by first | exact congrArg Addr.block e | exact (congrArg Addr.block e).symm))
  have hb2 : Blk W2 g 107 #[.int .i64 st, .slice (some ⟨u, 0, none⟩) (q + 1) c] := by
    rw [hW2]
    exact (HX.out.drewN nq).set_ 0 _
  have y1 : W2.cell? ⟨g, 1, none⟩ = some (.slice (some ⟨u, 0, none⟩) (q + 1) c) := hb2.cell 1
  have y5 : W2.cell? ⟨u, q, none⟩ = some (.int .i64 nu) := (hc u q hug).trans d5
  have y6 : W2.cell? ⟨w.heap.size, 6, none⟩ = some (.int .i64 nu) := (hc _ 6 hgg).trans p6
  have HB2 := Lib.hid hb2
  have HW2 := Lib.hid hW2
  clear hc hb2 hW2 p0 p1 p5 p6 qm x0 x1 xf d5 hlk
  have z1 : IntKind.i64.wrap ((q : Int) + 1 - 1) = (q : Int) := by rw [show (q : Int) + 1 - 1 = (q : Int) by omega]; exact IntWalk.i64_in _ (by omega)
  have z2 : (0 : Int) ≤ (q : Int) := by omega
  have z3 : (q : Int) < (q : Int) + 1 := by omega
  have z4 : ((q : Int) + 1 == 0) = false := by simp; omega
  go_quiet (fail)
  go_wp2_with fail
  go_end0
  have hj := HJ.out
  have hg := HG.out
  have hvol1 : ∀ k, Vol (fun b => b = x.g) w (W2.drewN k) := fun k => by
    have h1 : Vol (fun b => b = x.g) w W := Vol.of_below HB.out
    have h2 : Vol (fun b => b = x.g) w W2 := by
      rw [HW2.out]
      exact (h1.drewN _).setCell (a := ⟨g, 0, none⟩) (Or.inl (show g = x.g from hg.symm)) _
    exact h2.drewN k
  have hrow := fun k => own_vol (HH.out.rows j x hj) (hvol1 k) (fun b hb e => own_blk_ne (HH.out.rows j x hj) (HH.out.tks j x hj) (by decide) (by rw [hb, e]))
  refine ⟨rfl, (fun b => V b ∨ (w.heap.size ≤ b ∧ x.v.ownBlock = some b)), R.set j { x with st := st }, by simp only [hg], HH.out.turn (x' := { x with st := st }) hj rfl rfl rfl ((hvol1 _).mono fun b e => .inl e) ?_ (hrow _) (fun b e => .inl e), fun b e => .inl e, fun b e => e.imp id (fun e => e.1), (hvol1 _).mono fun b e => by rw [e]; exact (HH.out.vx j x hj).1⟩
  rw [hg]
  show Blk _ g 107 #[.int .i64 st, x.v]
  rw [HV.out, HQ.out]
  exact HB2.out.drewN _
set_option maxHeartbeats 4000000 in
theorem note_more (h : MsP w B m mb V R) {j q : Nat} {x : Tk} (hj : R[j]? = some x) {f t e : ByteArray} (hs : same f t x = true) (n st nu ep : Int) (hq : x.ns.length = q + 1) (hq2 : q ≤ 1000) {la : Int} (hl : x.ns[q]? = some la) (hla : (la == nu) = false) :
    Calls Try.prog 50 #[.pointer (some ⟨m, 0, none⟩), .agg (msgC f e t n st nu ep)] w fun r w' => r = .returned (.tuple #[]) ∧ Noted w B m mb V (fun R1 => ∃ v', R1 = R.set j { x with st := st, v := v', ns := x.ns ++ [nu] }) w' := by
  obtain ⟨W, hW⟩ : ∃ W, W = (w.alloc (.cells (msgC f e t n st nu ep) 30)).alloc (.cells #[.string f, .string t] 46) := ⟨_, rfl⟩
  have hb : Below w.heap.size w W := by rw [hW]; exact ((Below.refl _ _).alloc (Nat.le_refl _) _).alloc (by simp) _
  have hM := h.below hb
  have hk : Blk W w.heap.size 30 (msgC f e t n st nu ep) := by rw [hW]; exact (Blk.new w 30 (msgC f e t n st nu ep)).below ((Below.refl _ _).alloc (Nat.le_refl _) _) (Blk.new w 30 (msgC f e t n st nu ep)).lt
  have hk2 : Blk W (w.heap.size + 1) 46 #[.string f, .string t] := by
    rw [hW]
    have := Blk.new (w.alloc (.cells (msgC f e t n st nu ep) 30)) 46 #[.string f, .string t]
    simpa using this
  obtain ⟨A, c, hv, hc, -⟩ := own_slice (hM.rows j x hj)
  have hro := hM.rows j x hj
  rw [hv, hq] at hro
  obtain ⟨u, rfl⟩ := own_some hro (by omega)
  have hx := hM.tks j x hj
  rw [hv, hq] at hx
  have p0 : W.cell? ⟨w.heap.size + 1, 0, none⟩ = some (.string f) := hk2.cell 0
  have p1 : W.cell? ⟨w.heap.size + 1, 1, none⟩ = some (.string t) := hk2.cell 1
  have p5 : W.cell? ⟨w.heap.size, 5, none⟩ = some (.int .i64 st) := hk.cell 5
  have p6 : W.cell? ⟨w.heap.size, 6, none⟩ = some (.int .i64 nu) := hk.cell 6
  have qm : W.cell? ⟨m, 0, none⟩ = some (.map (some mb)) := hM.blk.cell 0
  have x0 : W.cell? ⟨x.g, 0, none⟩ = some (.int .i64 x.st) := hx.cell 0
  have x1 : W.cell? ⟨x.g, 1, none⟩ = some (.slice (some ⟨u, 0, none⟩) (q + 1) c) := hx.cell 1
  have xf : W.frozen? ⟨x.g, 0, none⟩ = false := hx.frozen 0
  have d5 : W.cell? ⟨u, q, none⟩ = some (.int .i64 la) := (hro.cellAt q (by omega)).trans (by rw [List.getElem?_map, hl]; rfl)
  have hlk := fun k => look_yes (hM.drewN k) hj hs
  have HW := Lib.hid hW
  have HB := Lib.hid hb
  have HM := Lib.hid hM
  have HR := Lib.hid hro
  have HV := Lib.hid hv
  have HJ := Lib.hid hj
  have HX := Lib.hid hx
  have HQ := Lib.hid hq
  have HH := Lib.hid h
  have HK := Lib.hid hk
  have hug : u ≠ x.g := fun e => own_blk_ne hro hx (by decide) (by rw [e]; rfl)
  have hgg : w.heap.size ≠ x.g := fun e => by have := (h.tks j x hj).lt; omega
  have hgl : x.g < w.heap.size := (h.tks j x hj).lt
  clear hM hk hk2 hW hb h hj hs hro hv hx hq hl
  generalize hxg : x.g = g at *
  have HG := Lib.hid hxg
  clear hxg
  go_enter Try.func50, Try.ntmps50
  go_wp2_with fail
  rw [← HW.out]
  go_quiet (fail)
  go_upto_region 8 with fail
  obtain ⟨W2, hW2⟩ : ∃ W2, W2 = (W.drewN nq).setCell ⟨g, 0, none⟩ (.int .i64 st) := ⟨_, rfl⟩
  rw [← hW2]
  have hc : ∀ (b o : Nat), b ≠ g → W2.cell? ⟨b, o, none⟩ = W.cell? ⟨b, o, none⟩ := fun b o hb => by
    rw [hW2]
    exact World.cell?_setCell_other (W.drewN nq) ⟨g, 0, none⟩ ⟨b, o, none⟩ _ (fun e => hb (by first | exact congrArg Addr.block e | exact (congrArg Addr.block e).symm))
  have hb2 : Blk W2 g 107 #[.int .i64 st, .slice (some ⟨u, 0, none⟩) (q + 1) c] := by
    rw [hW2]
    exact (HX.out.drewN nq).set_ 0 _
  have y1 : W2.cell? ⟨g, 1, none⟩ = some (.slice (some ⟨u, 0, none⟩) (q + 1) c) := hb2.cell 1
  have y5 : W2.cell? ⟨u, q, none⟩ = some (.int .i64 la) := (hc u q hug).trans d5
  have y6 : W2.cell? ⟨w.heap.size, 6, none⟩ = some (.int .i64 nu) := (hc _ 6 hgg).trans p6
  have HB2 := Lib.hid hb2
  have HW2 := Lib.hid hW2
  clear hc hb2 hW2 p0 p1 p5 p6 qm x0 x1 xf d5 hlk
  have z1 : IntKind.i64.wrap ((q : Int) + 1 - 1) = (q : Int) := by rw [show (q : Int) + 1 - 1 = (q : Int) by omega]; exact IntWalk.i64_in _ (by omega)
  have z2 : (0 : Int) ≤ (q : Int) := by omega
  have z3 : (q : Int) < (q : Int) + 1 := by omega
  have z4 : ((q : Int) + 1 == 0) = false := by simp; omega
  have z5 : (la != nu) = true := by simpa [bne] using hla
  go_quiet (fail)
  go_upto_region 9 with fail
  obtain ⟨W3, hW3⟩ : ∃ W3, W3 = W2.drewN nq := ⟨_, rfl⟩
  rw [← hW3]
  have hb3 : Blk W3 g 107 #[.int .i64 st, .slice (some ⟨u, 0, none⟩) (q + 1) c] := by rw [hW3]; exact HB2.out.drewN _
  have x1 : W3.cell? ⟨g, 1, none⟩ = some (.slice (some ⟨u, 0, none⟩) (q + 1) c) := hb3.cell 1
  have x6 : W3.cell? ⟨w.heap.size, 6, none⟩ = some (.int .i64 nu) := by rw [hW3]; exact y6
  have hug2 : ∀ b, (Value.slice (some ⟨u, 0, none⟩) (q + 1) c).ownBlock = some b → ¬ b = g := fun b e e2 => hug (by rw [e2] at e; injection e)
  have hvolW : Vol (fun b => b = g) W W3 := by
    rw [hW3, HW2.out]
    have h1 : Vol (fun b => b = g) W W := Vol.refl W
    exact ((h1.drewN _).setCell (a := ⟨g, 0, none⟩) (Or.inl (show g = g from rfl)) _).drewN _
  have hr3 := own_vol HR.out hvolW hug2
  have HR3 := Lib.hid hr3
  have HB3 := Lib.hid hb3
  have HVW := Lib.hid hvolW
  have hsz3 : Hid (B ≤ W3.heap.size) := Lib.hid (Nat.le_trans (HM.out.ge m HM.out.vm.1) (Nat.le_trans (Nat.le_of_lt (HM.out.lt m HM.out.vm.1)) hvolW.size))
  obtain ⟨i0, hi, hz0, hz1, hz2⟩ := info_parts int_infoM
  have xa1 : ∀ o, (W3.alloc o).cell? ⟨g, 1, none⟩ = some (.slice (some ⟨u, 0, none⟩) (q + 1) c) := fun o => (World.cell?_alloc_lt W3 o ⟨g, 1, none⟩ hb3.lt).trans x1
  have xa6 : ∀ o, (W3.alloc o).cell? ⟨w.heap.size, 6, none⟩ = some (.int .i64 nu) := fun o => (World.cell?_alloc_lt W3 o ⟨w.heap.size, 6, none⟩ (Nat.lt_of_lt_of_le HK.out.lt hvolW.size)).trans x6
  clear hr3 hb3 hvolW hW3 y1 y5 y6 z1 z3 z4 z5 hla
  go_region_law (refine step_append_any _ rfl (.tmp 61) (.tmp 64) 22 rfl B 3 i0 (.int .i64 0) 1 8 Try.underlying22 hi hz0 hz1 hz2 rfl (by decide) (.slice (some ⟨u, 0, none⟩) (q + 1) c) (q + 1) (ints x.ns) (by first | (simp [Act.eval]; done) | (simp [Act.eval, Act.put]; done)) (by first | exact HR3.out.drew.alloc _ | exact HR3.out.alloc _) (W3.heap.size + 1) (some ⟨W3.heap.size, 0, none⟩) 1 1 [.int .i64 nu] (by first | (simp [Act.eval]; done) | (simp [Act.eval, Act.put]; done)) (by have h := reads_one W3 (.int .i64 nu) 3; rw [show (W3.alloc (.cells #[.int .i64 nu] 3)).heap.size = W3.heap.size + 1 by simp] at h; exact h) (by simp [Value.oneCell']) (by simp only [maxLen]; omega) (by omega) (by have := hsz3.out; simp; omega) ?_; intro v4 w4 hown4 hg4 hn4; obtain ⟨A4, c4, rfl, hc4, -⟩ := own_slice hown4; have hb4 := (HB3.out.drew.alloc _).grown hg4 (fun e => hug (by injection e with e; exact e.symm)); have f4 : w4.frozen? ⟨g, 1, none⟩ = false := hb4.frozen 1; have c41 : w4.cell? ⟨g, 1, none⟩ = some (.slice (some ⟨u, 0, none⟩) (q + 1) c) := hb4.cell 1)
  all_goals go_wp2_with fail
  all_goals
    go_end0
    have hj := HJ.out
    have hg := HG.out
    have hxv : x.v.ownBlock = some u := by rw [HV.out]; rfl
    have hvol4 : Vol (fun b => b = x.g ∨ x.v.ownBlock = some b) w w4 := by
      have h1 : Vol (fun b => b = x.g ∨ x.v.ownBlock = some b) w W3 := (Vol.of_below HB.out).trans HVW.out (fun b e => .inl (.inl (by rw [hg]; exact e)))
      exact (h1.drew.alloc _).grown hg4 (fun k hk => .inl (.inr (by rw [hxv, ← hk]; rfl)))
    have hge4 : w.heap.size ≤ W3.heap.size := Nat.le_trans HB.out.size HVW.out.size
    refine ⟨rfl, _, R.set j { x with st := st, v := .slice A4 (q + 1 + 1) c4, ns := x.ns ++ [nu] }, ⟨_, by simp only [hg]; rfl⟩, HH.out.turn (x' := { x with st := st, v := .slice A4 (q + 1 + 1) c4, ns := x.ns ++ [nu] }) hj rfl rfl rfl (hvol4.setCell (a := ⟨g, 1, none⟩) (.inl (.inl hg.symm)) _) ?_ ?_ ?_, fun b e => .inl e, fun b e => e.imp id (fun e => e.1), (hvol4.setCell (a := ⟨g, 1, none⟩) (.inl (.inl hg.symm)) _).mono ?_⟩
    · rw [hg]
      exact hb4.set_ 1 _
    · have h5 := own_far (i := 1) (u := .slice A4 (q + 1 + 1) c4) hown4 hb4 (by decide)
      have e1 : ints (x.ns ++ [nu]) = ints x.ns ++ [.int .i64 nu] := by simp
      show World.ownsRow _ B 3 1 (.slice A4 (q + 1 + 1) c4) (x.ns ++ [nu]).length (ints (x.ns ++ [nu]))
      rw [e1, List.length_append, HQ.out]
      exact h5
    · intro b hb
      rcases hn4 with e | e
      · exact .inl (by rw [hxv]; rw [show (Value.slice A4 (q + 1 + 1) c4).ownBlock = some b from hb] at e; exact e.symm)
      · right
        rw [show (Value.slice A4 (q + 1 + 1) c4).ownBlock = some b from hb] at e
        injection e with e
        rw [e]
        simp
        omega
    · rintro b (e | e)
      · rw [e]; exact (HH.out.vx j x hj).1
      · exact (HH.out.vx j x hj).2 b e
end
end Go.Proofs.Ytiflhfhonhbcpaa.Mas
