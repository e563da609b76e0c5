/- What the master notes of a task that it does not know; what it hears. -/
import Derived.Test.YtiflhfhonhbcpaaMas4
namespace Go.Proofs.Ytiflhfhonhbcpaa.Mas
open Go Go.RowKit Go.Proofs.Ytiflhfhonhbcpaa Go.Proofs.Ytiflhfhonhbcpaa.Crw Go.ChangeShapes Go.WideShapes Go.ChangeAt
set_option linter.unusedVariables false
set_option maxRecDepth 100000
section
variable {w w' : World} {B m mb : Nat} {V U : Nat → Prop} {R : List Tk}
theorem put_no (h : MsP w B m mb V R) {f t : ByteArray} (hs : ∀ (k : Nat) (x : Tk), R[k]? = some x → same f t x = false) (g : Nat) :
    ∃ w', (Instr.mapUpdate 99 (.map (some mb)) (tkK f t) (.pointer (some ⟨g, 0, none⟩))).run Try.prog w = .ok () w' ∧ MapAt w' mb (R.map tkE ++ [(tkK f t, .pointer (some ⟨g, 0, none⟩))]) ∧ w.grownBy w' (some mb) := by
  letI : Toks := ⟨fun _ => 0⟩
  exact h.mp.put_no (P := Try.prog) (k := tkK f t) Try.underlying99 h.kv (key_fit f t) (fun p hp => by
    obtain ⟨y, hy, rfl⟩ := List.mem_map.1 hp
    obtain ⟨k, hk⟩ := List.getElem?_of_mem hy
    rw [same_beq]
    exact hs k y hk) _
set_option maxHeartbeats 4000000 in
theorem note_new (h : MsP w B m mb V R) {f t e : ByteArray} (hs : ∀ (k : Nat) (x : Tk), R[k]? = some x → same f t x = false) (n st nu ep : Int) :
    Calls Try.prog 50 #[.pointer (some ⟨m, 0, none⟩), .agg (msgC f e t n st nu ep)] w fun r w' => r = .returned (.tuple #[]) ∧ Noted w B m mb V (fun R1 => ∃ g v', R1 = R ++ [⟨f, t, g, st, v', [nu]⟩]) w' := by
  obtain ⟨W, hW⟩ : ∃ W, W = (w.alloc (.cells (msgC f e t n st nu ep) 30)).alloc (.cells #[.string f, .string t] 46) := ⟨_, rfl⟩
  have hb : Below w.heap.size w W := by rw [hW]; exact ((Below.refl _ _).alloc (Nat.le_refl _) _).alloc (by simp) _
  have hWs : W.heap.size = w.heap.size + 1 + 1 := by rw [hW]; simp
  have hM := h.below hb
  have hk : Blk W w.heap.size 30 (msgC f e t n st nu ep) := by rw [hW]; exact (Blk.new w 30 (msgC f e t n st nu ep)).below ((Below.refl _ _).alloc (Nat.le_refl _) _) (Blk.new w 30 (msgC f e t n st nu ep)).lt
  have hk2 : Blk W (w.heap.size + 1) 46 #[.string f, .string t] := by
    rw [hW]
    have := Blk.new (w.alloc (.cells (msgC f e t n st nu ep) 30)) 46 #[.string f, .string t]
    simpa using this
  have p0 : W.cell? ⟨w.heap.size + 1, 0, none⟩ = some (.string f) := hk2.cell 0
  have p1 : W.cell? ⟨w.heap.size + 1, 1, none⟩ = some (.string t) := hk2.cell 1
  have qm : W.cell? ⟨m, 0, none⟩ = some (.map (some mb)) := hM.blk.cell 0
  have hlk := fun k => look_no (hM.drewN k) hs
  have HW := Lib.hid hW
  have HB := Lib.hid hb
  have HM := Lib.hid hM
  have HS := Lib.hid hs
  have HH := Lib.hid h
  have HK := Lib.hid hk
  have HK2 := Lib.hid hk2
  have HWs := Lib.hid hWs
  clear hM hk hk2 hW hb h hs hWs
  go_enter Try.func50, Try.ntmps50
  go_wp2_with fail
  rw [← HW.out]
  go_quiet (fail)
  go_upto_region 5 with fail
  obtain ⟨W2, hW2⟩ : ∃ W2, W2 = (W.drewN nq).alloc (Obj.cells #[Value.int IntKind.i64 0, Value.slice none 0 0] 107) := ⟨_, rfl⟩
  rw [← hW2]
  obtain ⟨g, hg⟩ : ∃ g, g = W.heap.size := ⟨_, rfl⟩
  rw [← hg]
  have hbW2 : Below W.heap.size W W2 := by rw [hW2]; exact (below_drewN (Below.refl _ _) _).alloc (Nat.le_refl _) _
  have hM2 := (HM.out.below hbW2).below (w' := W2.drew) ⟨rfl, rfl, rfl, Nat.le_refl _, fun _ _ => rfl⟩
  have hb2 : Blk W2 g 107 #[.int .i64 0, .slice none 0 0] := by rw [hW2, hg]; exact Blk.new (W.drewN nq) 107 _
  have c0 : W2.cell? ⟨w.heap.size + 1, 0, none⟩ = some (.string f) := (hbW2.cell (p := ⟨w.heap.size + 1, 0, none⟩) HK2.out.lt).trans p0
  have c1 : W2.cell? ⟨w.heap.size + 1, 1, none⟩ = some (.string t) := (hbW2.cell (p := ⟨w.heap.size + 1, 1, none⟩) HK2.out.lt).trans p1
  have cm : W2.cell? ⟨m, 0, none⟩ = some (.map (some mb)) := (hbW2.cell (p := ⟨m, 0, none⟩) HM.out.blk.lt).trans qm
  obtain ⟨w5, hrun, hmp5, hg5⟩ := put_no hM2 HS.out g
  have HB2 := Lib.hid hb2
  have HBW2 := Lib.hid hbW2
  have HM2 := Lib.hid hM2
  have HG := Lib.hid hg
  have HMP := Lib.hid hmp5
  have HG5 := Lib.hid hg5
  clear hbW2 hM2 hb2 hg hmp5 hg5 hW2 p0 p1 qm hlk
  go_region
  clear hrun c0 c1 cm
  have hmlt := HH.out.mp.lt
  have hgW := HG.out
  have hws := HWs.out
  have hb5 : Blk w5 g 107 #[.int .i64 0, .slice none 0 0] := HB2.out.drew.grown HG5.out (fun e => by injection e; omega)
  have hk5 : Blk w5 w.heap.size 30 (msgC f e t n st nu ep) := (HK.out.below HBW2.out HK.out.lt).drew.grown HG5.out (fun e => by injection e; omega)
  have q5 : w5.cell? ⟨w.heap.size, 5, none⟩ = some (.int .i64 st) := hk5.cell 5
  have q6 : w5.cell? ⟨w.heap.size, 6, none⟩ = some (.int .i64 nu) := hk5.cell 6
  have g0 : w5.cell? ⟨g, 0, none⟩ = some (.int .i64 0) := hb5.cell 0
  have g1 : w5.cell? ⟨g, 1, none⟩ = some (.slice none 0 0) := hb5.cell 1
  have gf : w5.frozen? ⟨g, 0, none⟩ = false := hb5.frozen 0
  have HB5 := Lib.hid hb5
  have HK5 := Lib.hid hk5
  have hgn : g ≠ w.heap.size := by omega
  clear hb5 hk5 hgW hws hmlt
  go_upto_region 8 with fail
  obtain ⟨W6, hW6⟩ : ∃ W6, W6 = w5.setCell ⟨g, 0, none⟩ (.int .i64 st) := ⟨_, rfl⟩
  rw [← hW6]
  have hb6 : Blk W6 g 107 #[.int .i64 st, .slice none 0 0] := by rw [hW6]; exact HB5.out.set_ 0 _
  have hk6 : Blk W6 w.heap.size 30 (msgC f e t n st nu ep) := by rw [hW6]; exact HK5.out.far (fun e => hgn e.symm) _
  have HB6 := Lib.hid hb6
  have HK6 := Lib.hid hk6
  have HW6 := Lib.hid hW6
  clear hb6 hk6 hW6 q5 q6 g0 g1 gf
  go_quiet (fail)
  go_upto_region 9 with fail
  obtain ⟨W3, hW3⟩ : ∃ W3, W3 = W6.drewN nq := ⟨_, rfl⟩
  rw [← hW3]
  have hb3 : Blk W3 g 107 #[.int .i64 st, .slice none 0 0] := by rw [hW3]; exact HB6.out.drewN _
  have hk3 : Blk W3 w.heap.size 30 (msgC f e t n st nu ep) := by rw [hW3]; exact HK6.out.drewN _
  have x1 : W3.cell? ⟨g, 1, none⟩ = some (.slice none 0 0) := hb3.cell 1
  have x6 : W3.cell? ⟨w.heap.size, 6, none⟩ = some (.int .i64 nu) := hk3.cell 6
  have hgw : w.heap.size ≤ g := by have := HG.out; have := HWs.out; omega
  have hvol5 : Vol (fun b => b = mb) w w5 := ((Vol.of_below (HB.out.trans (HBW2.out.mono (by have := HWs.out; omega)))).drew).grown HG5.out (fun k hk => by injection hk with hk; exact .inl hk.symm)
  have hvol3 : Vol (fun b => b = mb) w W3 := by
    rw [hW3, HW6.out]
    exact (hvol5.setCell (a := ⟨g, 0, none⟩) (.inr hgw) _).drewN _
  have hmg : mb ≠ g := by have := HH.out.mp.lt; omega
  have hmp3 : MapAt W3 mb (R.map tkE ++ [(tkK f t, .pointer (some ⟨g, 0, none⟩))]) := by
    rw [hW3, HW6.out]
    exact (HMP.out.keep (Below.heap_setCell w5 ⟨g, 0, none⟩ _ mb hmg)).drewN _
  have xa1 : ∀ o, (W3.alloc o).cell? ⟨g, 1, none⟩ = some (.slice none 0 0) := fun o => (World.cell?_alloc_lt W3 o ⟨g, 1, none⟩ hb3.lt).trans x1
  have xa6 : ∀ o, (W3.alloc o).cell? ⟨w.heap.size, 6, none⟩ = some (.int .i64 nu) := fun o => (World.cell?_alloc_lt W3 o ⟨w.heap.size, 6, none⟩ hk3.lt).trans x6
  have HB3 := Lib.hid hb3
  have HV3 := Lib.hid hvol3
  have HM3 := Lib.hid hmp3
  have hsz3 : Hid (B ≤ W3.heap.size) := Lib.hid (Nat.le_trans (HH.out.ge m HH.out.vm.1) (Nat.le_trans (Nat.le_of_lt (HH.out.lt m HH.out.vm.1)) hvol3.size))
  obtain ⟨i0, hi, hz0, hz1, hz2⟩ := info_parts int_infoM
  clear hb3 hk3 hvol3 hmp3 hW3 hvol5
  go_region_law (refine step_append_any _ rfl (.tmp 61) (.tmp 64) 22 rfl B 3 i0 (.int .i64 0) 1 8 Try.underlying22 hi hz0 hz1 hz2 rfl (by decide) (.slice none 0 0) 0 [] (by first | (simp [Act.eval]; done) | (simp [Act.eval, Act.put]; done)) ⟨by simp, .inl ⟨rfl, rfl⟩⟩ (W3.heap.size + 1) (some ⟨W3.heap.size, 0, none⟩) 1 1 [.int .i64 nu] (by first | (simp [Act.eval]; done) | (simp [Act.eval, Act.put]; done)) (by have h := reads_one W3 (.int .i64 nu) 3; rw [show (W3.alloc (.cells #[.int .i64 nu] 3)).heap.size = W3.heap.size + 1 by simp] at h; exact h) (by simp [Value.oneCell']) (by simp only [maxLen]; omega) (by omega) (by have := hsz3.out; simp; omega) ?_; intro v4 w4 hown4 hg4 hn4; obtain ⟨A4, c4, rfl, hc4, -⟩ := own_slice hown4; have hb4 := (HB3.out.drew.alloc _).grown hg4 (by simp [Value.ownBlock]); have f4 : w4.frozen? ⟨g, 1, none⟩ = false := hb4.frozen 1; have c41 : w4.cell? ⟨g, 1, none⟩ = some (.slice none 0 0) := hb4.cell 1)
  all_goals go_wp2_with fail
  all_goals
    go_end0
    have hmlt := HH.out.mp.lt
    have hvol4 : Vol (fun b => b = mb) w w4 := (HV3.out.drew.alloc _).grown hg4 (fun k hk => by simp [Value.ownBlock] at hk)
    have hvolF := hvol4.setCell (a := ⟨g, 1, none⟩) (.inr hgw) (.slice A4 (0 + 1) c4)
    have hmpF : MapAt (w4.setCell ⟨g, 1, none⟩ (.slice A4 (0 + 1) c4)) mb ((R ++ [(⟨f, t, g, st, .slice A4 (0 + 1) c4, [nu]⟩ : Tk)]).map tkE) := by
      rw [List.map_append]
      refine MapAt.keep ?_ (Below.heap_setCell w4 ⟨g, 1, none⟩ _ mb hmg)
      have h1 : MapAt (W3.alloc (.cells #[.int .i64 nu] 3)).drew mb _ := HM3.out.keep (Below.heap_alloc W3 _ mb HM3.out.lt)
      exact h1.grown hg4 (by simp [Value.ownBlock])
    have hv4 : ∀ b, (Value.slice A4 (0 + 1) c4).ownBlock = some b → w.heap.size ≤ b := fun b hb => by
      rcases hn4 with e | e
      · rw [hb] at e; simp [Value.ownBlock] at e
      · rw [hb] at e
        injection e with e
        have := HV3.out.size
        rw [e]
        simp
        omega
    refine ⟨rfl, _, R ++ [⟨f, t, g, st, .slice A4 (0 + 1) c4, [nu]⟩], ⟨_, _, rfl⟩, HH.out.push ⟨f, t, g, st, .slice A4 (0 + 1) c4, [nu]⟩ (fun k x hx => HS.out k x hx) hvolF hmpF hgw (hb4.set_ 1 _) (own_far hown4 hb4 (by decide)) hv4, fun b e => .inl e, fun b e => e.imp id (fun e => e.1), hvolF.mono fun b e => by rw [e]; exact HH.out.vm.2⟩
end
end Go.Proofs.Ytiflhfhonhbcpaa.Mas
