/- message.only, Same, Check; script.parseMessage. -/
import Derived.Test.YtfbedlhigggggaaSpBB
import Derived.Laws.StructEq
import Derived.Lib.OthersKept
import Derived.WalkSmall
import Derived.Deep.RegionHeld3
namespace Go.Proofs.Ytfbedlhigggggaa.Sp
open Go Go.RowKit Go.Lib Go.Proofs.Ytfbedlhigggggaa Go.Proofs.Ytfbedlhigggggaa.Crw Go.Proofs.Ytfbedlhigggggaa.Vl Go.ChangeShapes Go.WideShapes Go.ChangeAt
set_option linter.unusedVariables false
set_option maxRecDepth 100000
/-- One field is taken over. -/
def cpM (m : Mg) (c : UInt8) (y : Mg) : Mg :=
  if c = 70 then { y with F := m.F }
  else if c = 69 then { y with E := m.E }
  else if c = 84 then { y with T := m.T }
  else if c = 78 then { y with N := m.N }
  else if c = 83 then { y with S := m.S }
  else if c = 85 then { y with U := m.U }
  else if c = 80 then { y with P := m.P }
  else { y with I := m.I }
def cpV (v : Value) (c : UInt8) (u : Value) : Value := if c = 73 then v else u
/-- The letters of all fields. -/
def letS : List UInt8 := [70, 69, 84, 78, 83, 85, 80, 73]
theorem flds_let (k : Nat) (h1 : 1 ≤ k) (h2 : k ≤ 9) : ∀ c ∈ flds k, c ∈ letS := by
  rcases (by omega : k = 1 ∨ k = 2 ∨ k = 3 ∨ k = 4 ∨ k = 5 ∨ k = 6 ∨ k = 7 ∨ k = 8 ∨ k = 9) with rfl | rfl | rfl | rfl | rfl | rfl | rfl | rfl | rfl
  all_goals decide
theorem fldB_size (k : Nat) : (fldB k).size = (flds k).length := by simp [fldB, ByteArray.size]
theorem fldB_at {k j : Nat} {c : UInt8} (h : (flds k)[j]? = some c) : ∃ hj : j < (fldB k).size, (fldB k)[j] = c := by
  obtain ⟨h1, h2⟩ := List.getElem?_eq_some_iff.1 h
  refine ⟨by rw [fldB_size]; exact h1, ?_⟩
  rw [← h2]
  rfl
theorem let_small {c : UInt8} (h : c ∈ letS) : c.toNat < 128 := by
  simp only [letS, List.mem_cons, List.not_mem_nil, or_false] at h
  rcases h with rfl | rfl | rfl | rfl | rfl | rfl | rfl | rfl <;> decide
theorem set_other {w : World} {k gx i : Nat} {o : Obj} {u : Value} (h : w.heap[k]? = some o) (hne : k ≠ gx) : (w.setCell ⟨gx, i, none⟩ u).heap[k]? = some o := (Below.heap_setCell _ _ _ _ (fun e => hne (by rw [e]))).trans h
theorem iterM {w w' : World} {k j n : Nat} {s : ByteArray} (hlt : j < n) (h : w'.heap[k]? = some (.stringIter s (j + 1))) (h0 : w.heap[k]? = some (.stringIter s j)) : n - w'.iterPos k < n - w.iterPos k := by
  rw [iterPos_of h, iterPos_of h0]; omega
theorem mc_one {m : Mg} {v : Value} (hv : v.oneCell' = true) : (mc m v).all (·.oneCell') = true := by
  rw [← Array.all_toList]
  show List.all [_, _, _, _, _, _, _, _, v] _ = true
  simp only [List.all_cons, List.all_nil, hv]
  rfl
theorem cpV_one : ∀ (L : List UInt8) (v u : Value), v.oneCell' = true → u.oneCell' = true → (L.foldl (fun u c => cpV v c u) u).oneCell' = true
  | [], v, u, hv, hu => hu
  | c :: L, v, u, hv, hu => by
    rw [List.foldl_cons]
    refine cpV_one L v _ hv ?_
    unfold cpV
    split
    · exact hv
    · exact hu
set_option maxHeartbeats 8000000 in
theorem only_any (m : Mg) (v : Value) (w : World) (hv : ∃ A n c, v = .slice A n c) (hk : 1 ≤ m.k ∧ m.k ≤ 9) :
    Calls Try.prog 46 #[.agg (mc m v), .string (fldB m.k)] w fun e w' => e = .returned (.agg (mc ((flds m.k).foldl (fun y c => cpM m c y) (mg0 m.k)) ((flds m.k).foldl (fun u c => cpV v c u) (.slice none 0 0)))) ∧ Below w.heap.size w w' := by
  obtain ⟨Av, nv, cv, rfl⟩ := hv
  have hlen := fldB_size m.k
  have hlet := flds_let m.k hk.1 hk.2
  obtain ⟨L, hL⟩ : ∃ L, L = flds m.k := ⟨_, rfl⟩
  obtain ⟨s, hs⟩ : ∃ s, s = fldB m.k := ⟨_, rfl⟩
  have hat : ∀ (j : Nat) (c : UInt8), L[j]? = some c → ∃ hj : j < s.size, s[j] = c := fun j c h => by subst hs; rw [hL] at h; exact fldB_at h
  rw [← hL, ← hs] at hlen
  rw [← hL] at hlet
  rw [← hL, ← hs]
  clear hL hs
  obtain ⟨n, hn⟩ : ∃ n, n = s.size := ⟨_, rfl⟩
  have HN := Lib.hid hn
  have HLEN := Lib.hid hlen
  have HLET := Lib.hid hlet
  have HAT := Lib.hid hat
  clear hlen hlet hat hn
  go_enter Try.func46, Try.ntmps46
  go_upto_region 1 with fail
  obtain ⟨g, hg⟩ : ∃ g, g = w.heap.size := ⟨_, rfl⟩
  obtain ⟨W1, hW1⟩ : ∃ W, W = (w.alloc (.cells (mc m (.slice Av nv cv)) 40)).alloc (.cells #[.int .i64 0, .string ⟨#[]⟩, .string ⟨#[]⟩, .string ⟨#[]⟩, .int .i64 0, .int .i64 0, .int .i64 0, .int .i64 0, .slice none 0 0] 40) := ⟨_, rfl⟩
  rw [← hW1, ← hg]
  have hs1 : W1.heap.size = g + 2 := by rw [hW1, hg]; simp
  have hb1 : Blk W1 g 40 (mc m (.slice Av nv cv)) := by rw [hW1, hg]; exact (Blk.new w 40 (mc m (.slice Av nv cv))).below ((Below.refl _ _).alloc (Nat.le_refl _) _) (Blk.new w 40 (mc m (.slice Av nv cv))).lt
  have hz1 : Blk W1 (g + 1) 40 #[.int .i64 0, .string ⟨#[]⟩, .string ⟨#[]⟩, .string ⟨#[]⟩, .int .i64 0, .int .i64 0, .int .i64 0, .int .i64 0, .slice none 0 0] := by
    rw [hW1, hg]
    have := Blk.new (w.alloc (.cells (mc m (.slice Av nv cv)) 40)) 40 #[.int .i64 0, .string ⟨#[]⟩, .string ⟨#[]⟩, .string ⟨#[]⟩, .int .i64 0, .int .i64 0, .int .i64 0, .int .i64 0, .slice none 0 0]
    simpa using this
  have hbe1 : Below w.heap.size w W1 := by rw [hW1]; exact ((Below.refl _ _).alloc (Nat.le_refl _) _).alloc (by simp) _
  have a0 : W1.cell? ⟨g, 0, none⟩ = some (.int .i64 m.k) := hb1.cell 0
  have HG := Lib.hid hg
  have HB1 := Lib.hid hb1
  have HZ1 := Lib.hid hz1
  have HBE1 := Lib.hid hbe1
  have HS1 := Lib.hid hs1
  clear hW1 hb1 hz1 hbe1 hg hs1
  go_upto_region 2 with fail
  obtain ⟨gx, hgx⟩ : ∃ g, g = W1.heap.size := ⟨_, rfl⟩
  obtain ⟨W2, hW2⟩ : ∃ W, W = W1.alloc (.cells (mc (mg0 m.k) (.slice none 0 0)) 40) := ⟨_, rfl⟩
  rw [show W1.alloc (.cells #[.int .i64 m.k, .string ⟨#[]⟩, .string ⟨#[]⟩, .string ⟨#[]⟩, .int .i64 0, .int .i64 0, .int .i64 0, .int .i64 0, .slice none 0 0] 40) = W2 from hW2.symm, ← hgx]
  have hbe2 : Below W1.heap.size W1 W2 := by rw [hW2]; exact (Below.refl _ _).alloc (Nat.le_refl _) _
  have hb2 := HB1.out.below hbe2 HB1.out.lt
  have hz2 := HZ1.out.below hbe2 HZ1.out.lt
  have hx2 : Blk W2 gx 40 (mc (mg0 m.k) (.slice none 0 0)) := by rw [hW2, hgx]; exact Blk.new _ _ _
  have HB2 := Lib.hid hb2
  have HZ2 := Lib.hid hz2
  have HX2 := Lib.hid hx2
  have HBE2 := Lib.hid (HBE1.out.trans (hbe2.mono HBE1.out.size))
  have hs2 : W2.heap.size = gx + 1 := by rw [hW2, hgx]; simp
  have HGX := Lib.hid (show gx = g + 2 by rw [hgx, HS1.out])
  have HS2 := Lib.hid hs2
  clear hW2 hbe2 hb2 hz2 hx2 a0 hgx hs2
  go_upto_block 0 with fail
  obtain ⟨kI, hkI⟩ : ∃ g, g = W2.heap.size := ⟨_, rfl⟩
  obtain ⟨W3, hW3⟩ : ∃ W, W = W2.iter s 0 := ⟨_, rfl⟩
  rw [← hW3, ← hkI]
  have hbe3 : Below W2.heap.size W2 W3 := by rw [hW3]; exact (Below.refl _ _).alloc (Nat.le_refl _) _
  have hb3 := HB2.out.below hbe3 HB2.out.lt
  have hz3 := HZ2.out.below hbe3 HZ2.out.lt
  have hx3 := HX2.out.below hbe3 HX2.out.lt
  have hi3 : W3.heap[kI]? = some (.stringIter s 0) := by rw [hW3, hkI]; exact World.iter_heap _ _ _
  have HB3 := Lib.hid hb3
  have HZ3 := Lib.hid hz3
  have HX3 := Lib.hid hx3
  have HI3 := Lib.hid hi3
  have HBE3 := Lib.hid (HBE2.out.trans (hbe3.mono HBE2.out.size))
  have HKI := Lib.hid (show kI = g + 3 by rw [hkI, HS2.out, HGX.out])
  clear hW3 hbe3 hb3 hz3 hx3 hi3 hkI
  go_wp2_with fail
  go_loopw [] (fun wr => Hid (∃ (j : Nat), j ≤ n ∧ wr.heap[kI]? = some (.stringIter s j) ∧ Blk wr g 40 (mc m (.slice Av nv cv)) ∧ (∃ zs, Blk wr (g + 1) 40 zs ∧ zs.size = 9) ∧ Blk wr gx 40 (mc ((L.take j).foldl (fun y c => cpM m c y) (mg0 m.k)) ((L.take j).foldl (fun u c => cpV (.slice Av nv cv) c u) (.slice none 0 0))) ∧ Below w.heap.size w wr ∧ ∃ w7, w7 = wr)) (fun wr => n - wr.iterPos kI)
  case atStart => exact Lib.hid ⟨0, by omega, HI3.out, HB3.out, ⟨_, HZ3.out, rfl⟩, HX3.out, HBE3.out, _, rfl⟩
  case round =>
    obtain ⟨j, hj, hi, hb, hz, hx, hbe, w7, hw7⟩ := hrel.out
    subst hw7
    clear hrel
    obtain ⟨zs, hz, hzs⟩ := hz
    have HI := Lib.hid hi
    have HB := Lib.hid hb
    have HZ := Lib.hid hz
    have HX := Lib.hid hx
    have HBE := Lib.hid hbe
    have HZS := Lib.hid hzs
    clear hi hb hz hx hbe hzs
    by_cases hlt : j < n
    · obtain ⟨c, hc⟩ : ∃ c, L[j]? = some c := ⟨L[j]'(by have := HN.out; have := HLEN.out; omega), List.getElem?_eq_getElem _⟩
      obtain ⟨hjs, hsc⟩ := HAT.out j c hc
      have hcl := HLET.out c (List.mem_of_getElem? hc)
      have hnx : ∀ ty, (Instr.next (.pointer (some ⟨kI, 0, none⟩)) true ty).run Try.prog w7 = .ok (.tuple #[.bool true, .int .i64 j, .int .i32 (c.toNat : Int)]) (w7.iterAt kI s (j + 1)) := fun ty => by
        have := run_next_ascii_at (P := Try.prog) w7 kI s j ty HI.out hjs (by rw [hsc]; exact let_small hcl)
        rw [hsc] at this
        exact this
      have HC := Lib.hid hc
      clear hjs hsc hc
      go_upto_region 4 with fail
      obtain ⟨W8, hW8⟩ : ∃ W, W = w7.iterAt kI s (j + 1) := ⟨_, rfl⟩
      rw [← hW8]
      have hi8 : W8.heap[kI]? = some (.stringIter s (j + 1)) := by rw [hW8]; exact iterAt_heap _ _ _ _ _ HI.out
      have hb8 : Blk W8 g 40 (mc m (.slice Av nv cv)) := by rw [hW8]; exact (iterAt_other w7 kI g s (j + 1) (by have := HKI.out; omega)).trans HB.out
      have hz8 : Blk W8 (g + 1) 40 zs := by rw [hW8]; exact (iterAt_other w7 kI (g + 1) s (j + 1) (by have := HKI.out; omega)).trans HZ.out
      have hx8 := (show W8.heap[gx]? = w7.heap[gx]? by rw [hW8]; exact iterAt_other w7 kI gx s (j + 1) (by have := HKI.out; have := HGX.out; omega)).trans HX.out
      have hx8' : Blk W8 gx 40 (mc ((L.take j).foldl (fun y c => cpM m c y) (mg0 m.k)) ((L.take j).foldl (fun u c => cpV (.slice Av nv cv) c u) (.slice none 0 0))) := hx8
      have hbe8 : Below w.heap.size w W8 := by rw [hW8]; exact below_iterAt HBE.out (by have := HKI.out; have := HG.out; omega) _ _
      obtain ⟨y, hy⟩ : ∃ y, y = (L.take j).foldl (fun y c => cpM m c y) (mg0 m.k) := ⟨_, rfl⟩
      obtain ⟨u, hu⟩ : ∃ u, u = (L.take j).foldl (fun u c => cpV (.slice Av nv cv) c u) (.slice none 0 0) := ⟨_, rfl⟩
      have HX8 := Lib.hid hx8'
      rw [← hy, ← hu] at hx8'
      clear hy hu hx8
      have a1 : W8.cell? ⟨g, 1, none⟩ = some (.string m.F) := hb8.cell 1
      have a2 : W8.cell? ⟨g, 2, none⟩ = some (.string m.E) := hb8.cell 2
      have a3 : W8.cell? ⟨g, 3, none⟩ = some (.string m.T) := hb8.cell 3
      have a4 : W8.cell? ⟨g, 4, none⟩ = some (.int .i64 m.N) := hb8.cell 4
      have a5 : W8.cell? ⟨g, 5, none⟩ = some (.int .i64 m.S) := hb8.cell 5
      have a6 : W8.cell? ⟨g, 6, none⟩ = some (.int .i64 m.U) := hb8.cell 6
      have a7 : W8.cell? ⟨g, 7, none⟩ = some (.int .i64 m.P) := hb8.cell 7
      have a8 : W8.cell? ⟨g, 8, none⟩ = some (.slice Av nv cv) := hb8.cell 8
      have b1 : W8.cell? ⟨gx, 1, none⟩ = some (.string y.F) := hx8'.cell 1
      have b2 : W8.cell? ⟨gx, 2, none⟩ = some (.string y.E) := hx8'.cell 2
      have b3 : W8.cell? ⟨gx, 3, none⟩ = some (.string y.T) := hx8'.cell 3
      have b4 : W8.cell? ⟨gx, 4, none⟩ = some (.int .i64 y.N) := hx8'.cell 4
      have b5 : W8.cell? ⟨gx, 5, none⟩ = some (.int .i64 y.S) := hx8'.cell 5
      have b6 : W8.cell? ⟨gx, 6, none⟩ = some (.int .i64 y.U) := hx8'.cell 6
      have b7 : W8.cell? ⟨gx, 7, none⟩ = some (.int .i64 y.P) := hx8'.cell 7
      have b8 : W8.cell? ⟨gx, 8, none⟩ = some u := hx8'.cell 8
      have hfr := hx8'.frozen
      have HI8 := Lib.hid hi8
      have HB8 := Lib.hid hb8
      have HZ8 := Lib.hid hz8
      have HBE8 := Lib.hid hbe8
      clear hW8 hi8 hb8 hz8 hx8' hbe8 hnx
      simp only [letS, List.mem_cons, List.not_mem_nil, or_false] at hcl
      rcases hcl with rfl | rfl | rfl | rfl | rfl | rfl | rfl | rfl
      · go_wp2_with fail
        refine ⟨?_, iterM hlt ?_ HI.out⟩
        · exact Lib.hid ⟨j + 1, by omega, (set_other HI8.out (by have := HKI.out; have := HGX.out; omega)), HB8.out.far (p := ⟨gx, 1, none⟩) (by have := HGX.out; show g ≠ gx; omega) _, ⟨_, HZ8.out.far (p := ⟨gx, 1, none⟩) (by have := HGX.out; show g + 1 ≠ gx; omega) _, HZS.out⟩, by rw [List.take_add_one, HC.out, List.foldl_append, List.foldl_append]; exact HX8.out.set_ 1 _, HBE8.out.setCell (by show w.heap.size ≤ gx; have := HGX.out; have := HG.out; omega) _, _, rfl⟩
        · exact set_other HI8.out (by have := HKI.out; have := HGX.out; omega)
      · go_wp2_with fail
        refine ⟨?_, iterM hlt ?_ HI.out⟩
        · exact Lib.hid ⟨j + 1, by omega, (set_other HI8.out (by have := HKI.out; have := HGX.out; omega)), HB8.out.far (p := ⟨gx, 2, none⟩) (by have := HGX.out; show g ≠ gx; omega) _, ⟨_, HZ8.out.far (p := ⟨gx, 2, none⟩) (by have := HGX.out; show g + 1 ≠ gx; omega) _, HZS.out⟩, by rw [List.take_add_one, HC.out, List.foldl_append, List.foldl_append]; exact HX8.out.set_ 2 _, HBE8.out.setCell (by show w.heap.size ≤ gx; have := HGX.out; have := HG.out; omega) _, _, rfl⟩
        · exact set_other HI8.out (by have := HKI.out; have := HGX.out; omega)
      · go_wp2_with fail
        refine ⟨?_, iterM hlt ?_ HI.out⟩
        · exact Lib.hid ⟨j + 1, by omega, (set_other HI8.out (by have := HKI.out; have := HGX.out; omega)), HB8.out.far (p := ⟨gx, 3, none⟩) (by have := HGX.out; show g ≠ gx; omega) _, ⟨_, HZ8.out.far (p := ⟨gx, 3, none⟩) (by have := HGX.out; show g + 1 ≠ gx; omega) _, HZS.out⟩, by rw [List.take_add_one, HC.out, List.foldl_append, List.foldl_append]; exact HX8.out.set_ 3 _, HBE8.out.setCell (by show w.heap.size ≤ gx; have := HGX.out; have := HG.out; omega) _, _, rfl⟩
        · exact set_other HI8.out (by have := HKI.out; have := HGX.out; omega)
      · go_wp2_with fail
        refine ⟨?_, iterM hlt ?_ HI.out⟩
        · exact Lib.hid ⟨j + 1, by omega, (set_other HI8.out (by have := HKI.out; have := HGX.out; omega)), HB8.out.far (p := ⟨gx, 4, none⟩) (by have := HGX.out; show g ≠ gx; omega) _, ⟨_, HZ8.out.far (p := ⟨gx, 4, none⟩) (by have := HGX.out; show g + 1 ≠ gx; omega) _, HZS.out⟩, by rw [List.take_add_one, HC.out, List.foldl_append, List.foldl_append]; exact HX8.out.set_ 4 _, HBE8.out.setCell (by show w.heap.size ≤ gx; have := HGX.out; have := HG.out; omega) _, _, rfl⟩
        · exact set_other HI8.out (by have := HKI.out; have := HGX.out; omega)
      · go_wp2_with fail
        refine ⟨?_, iterM hlt ?_ HI.out⟩
        · exact Lib.hid ⟨j + 1, by omega, (set_other HI8.out (by have := HKI.out; have := HGX.out; omega)), HB8.out.far (p := ⟨gx, 5, none⟩) (by have := HGX.out; show g ≠ gx; omega) _, ⟨_, HZ8.out.far (p := ⟨gx, 5, none⟩) (by have := HGX.out; show g + 1 ≠ gx; omega) _, HZS.out⟩, by rw [List.take_add_one, HC.out, List.foldl_append, List.foldl_append]; exact HX8.out.set_ 5 _, HBE8.out.setCell (by show w.heap.size ≤ gx; have := HGX.out; have := HG.out; omega) _, _, rfl⟩
        · exact set_other HI8.out (by have := HKI.out; have := HGX.out; omega)
      · go_wp2_with fail
        refine ⟨?_, iterM hlt ?_ HI.out⟩
        · exact Lib.hid ⟨j + 1, by omega, (set_other HI8.out (by have := HKI.out; have := HGX.out; omega)), HB8.out.far (p := ⟨gx, 6, none⟩) (by have := HGX.out; show g ≠ gx; omega) _, ⟨_, HZ8.out.far (p := ⟨gx, 6, none⟩) (by have := HGX.out; show g + 1 ≠ gx; omega) _, HZS.out⟩, by rw [List.take_add_one, HC.out, List.foldl_append, List.foldl_append]; exact HX8.out.set_ 6 _, HBE8.out.setCell (by show w.heap.size ≤ gx; have := HGX.out; have := HG.out; omega) _, _, rfl⟩
        · exact set_other HI8.out (by have := HKI.out; have := HGX.out; omega)
      · go_wp2_with fail
        refine ⟨?_, iterM hlt ?_ HI.out⟩
        · exact Lib.hid ⟨j + 1, by omega, (set_other HI8.out (by have := HKI.out; have := HGX.out; omega)), HB8.out.far (p := ⟨gx, 7, none⟩) (by have := HGX.out; show g ≠ gx; omega) _, ⟨_, HZ8.out.far (p := ⟨gx, 7, none⟩) (by have := HGX.out; show g + 1 ≠ gx; omega) _, HZS.out⟩, by rw [List.take_add_one, HC.out, List.foldl_append, List.foldl_append]; exact HX8.out.set_ 7 _, HBE8.out.setCell (by show w.heap.size ≤ gx; have := HGX.out; have := HG.out; omega) _, _, rfl⟩
        · exact set_other HI8.out (by have := HKI.out; have := HGX.out; omega)
      · go_wp2_with fail
        refine ⟨?_, iterM hlt ?_ HI.out⟩
        · exact Lib.hid ⟨j + 1, by omega, (set_other HI8.out (by have := HKI.out; have := HGX.out; omega)), HB8.out.far (p := ⟨gx, 8, none⟩) (by have := HGX.out; show g ≠ gx; omega) _, ⟨_, HZ8.out.far (p := ⟨gx, 8, none⟩) (by have := HGX.out; show g + 1 ≠ gx; omega) _, HZS.out⟩, by rw [List.take_add_one, HC.out, List.foldl_append, List.foldl_append]; exact HX8.out.set_ 8 _, HBE8.out.setCell (by show w.heap.size ≤ gx; have := HGX.out; have := HG.out; omega) _, _, rfl⟩
        · exact set_other HI8.out (by have := HKI.out; have := HGX.out; omega)
    · have hnx : ∀ ty, (Instr.next (.pointer (some ⟨kI, 0, none⟩)) true ty).run Try.prog w7 = .ok (.tuple #[.bool false]) w7 := fun ty => run_next_end_at (P := Try.prog) w7 kI s j ty HI.out (by have := HN.out; omega)
      have hx0 := HX.out
      rw [List.take_of_length_le (by have := HN.out; have := HLEN.out; omega)] at hx0
      have hz0 := HZ.out
      obtain ⟨Y, hY⟩ : ∃ Y, Y = L.foldl (fun y c => cpM m c y) (mg0 m.k) := ⟨_, rfl⟩
      obtain ⟨U, hU⟩ : ∃ U, U = L.foldl (fun u c => cpV (.slice Av nv cv) c u) (.slice none 0 0) := ⟨_, rfl⟩
      have hU1 : U.oneCell' = true := by rw [hU]; exact cpV_one L _ _ rfl rfl
      rw [← hY, ← hU] at hx0
      have HY := Lib.hid hY
      have HU := Lib.hid hU
      have a0 : w7.cell? ⟨gx, 0, none⟩ = some (.int .i64 Y.k) := hx0.cell 0
      have a1 : w7.cell? ⟨gx, 1, none⟩ = some (.string Y.F) := hx0.cell 1
      have a2 : w7.cell? ⟨gx, 2, none⟩ = some (.string Y.E) := hx0.cell 2
      have a3 : w7.cell? ⟨gx, 3, none⟩ = some (.string Y.T) := hx0.cell 3
      have a4 : w7.cell? ⟨gx, 4, none⟩ = some (.int .i64 Y.N) := hx0.cell 4
      have a5 : w7.cell? ⟨gx, 5, none⟩ = some (.int .i64 Y.S) := hx0.cell 5
      have a6 : w7.cell? ⟨gx, 6, none⟩ = some (.int .i64 Y.U) := hx0.cell 6
      have a7 : w7.cell? ⟨gx, 7, none⟩ = some (.int .i64 Y.P) := hx0.cell 7
      have a8 : w7.cell? ⟨gx, 8, none⟩ = some U := hx0.cell 8
      clear hx0 hY hU
      go_upto_region 22 with fail
      repeat (first | (refine wpList_storeG 40 (cs := mc Y U) (by kernel_rfl) rfl rfl rfl rfl (mc_one hU1) HZ.out HZS.out ?_; intro w9 hbe9 hot9 hk9) | go_step)
      refine Mark.intro ?_
      have HB9 := Lib.hid (hbe9 w (by have := HG.out; omega) HBE.out)
      have HK9 := Lib.hid hk9
      clear hbe9 hot9 hk9
      go_wp2_with fail
      rw [← HY.out, ← HU.out]
      refine bodyPost_ret (ret_cell1 rfl rfl HK9.out Try.underlying40 rfl (by kernel_rfl)) rfl ⟨rfl, HB9.out⟩
end Go.Proofs.Ytfbedlhigggggaa.Sp
namespace Go.Proofs.Ytfbedlhigggggaa.Sp
open Go Go.RowKit Go.Lib Go.Proofs.Ytfbedlhigggggaa Go.Proofs.Ytfbedlhigggggaa.Crw Go.Proofs.Ytfbedlhigggggaa.Vl Go.ChangeShapes Go.WideShapes Go.ChangeAt
set_option linter.unusedVariables false
set_option maxRecDepth 100000
theorem run_equalIn_cx (w : World) (d : Nat) (t : TypeId) (k : FloatKind) (a b : Nat) (hu : Try.prog.underlying t = some (.complex k)) (h1 : Op.floatEq .f64 a a = true) (h2 : Op.floatEq .f64 b b = true) : (Op.equalIn (d + 1) t (.complex .f64 a b) (.complex .f64 a b)).run Try.prog w = .ok true w := by
  simp [Op.equalIn, run_underlying hu, h1, h2, Sem.run_pure]
theorem run_part_cx (w : World) {t : TypeId} {k : FloatKind} (hu : Try.prog.underlying t = some (.complex k)) {xs : Array Value} {off : Nat} {v : Value} (hx : xs[off]? = some v) : (part t xs off).run Try.prog w = .ok v w := by
  unfold part isAgg
  simp [Sem.run_bind, run_underlying hu, Sem.run_pure, hx]
theorem feq_FV {x : Nat} {s : Bool} {v : Nat} (h : FV x s v) : Op.floatEq .f64 x x = true := by
  have := o_eql h h
  rw [decide_eq_true rfl] at this
  exact this
theorem feq_fw {n : Nat} (h : n < 2 ^ 53) : Op.floatEq .f64 (fw n) (fw n) = true := feq_FV (fw_FV h)
theorem feq_ofW (a b n : Int) (h : n = a ∨ n = b) : Op.floatEq .f64 (ofW a b n) (ofW a b n) = true := by
  unfold ofW
  split
  · exact feq_fw (by omega)
  · exact feq_FV zero_FV
theorem item_eqI (w : World) (t : ByteArray) (x y : Nat) (hx : Op.floatEq .f64 x x = true) (hy : Op.floatEq .f64 y y = true) : (Op.equalIn 10000 63 (.agg #[.string t, .complex .f64 x y]) (.agg #[.string t, .complex .f64 x y])).run Try.prog w = .ok true w := by
  rw [run_equalIn_agg (P := Try.prog) w 9999 63 _ _ (by kernel_rfl) (by kernel_rfl)]
  have hk : (Try.prog.fieldsOf 63).toList.map (fun x => (decide (x.name = "_"), x.offset, x.type)) = [(false, 0, 9), (false, 1, 61)] := by kernel_rfl
  generalize (Try.prog.fieldsOf 63).toList = l at hk ⊢
  rcases l with _ | ⟨p, _ | ⟨q, _ | ⟨z, r⟩⟩⟩
  · simp at hk
  · simp at hk
  · simp only [List.map_cons, List.map_nil, List.cons.injEq, Prod.mk.injEq, and_true] at hk
    obtain ⟨⟨n1, h1, h2⟩, n2, h3, h4⟩ := hk
    have n1' := of_decide_eq_false n1
    have n2' := of_decide_eq_false n2
    have hpk : Try.prog.plainKey 9 = true := by kernel_rfl
    have hus := Try.underlying9
    unfold Op.eqFields
    rw [if_pos n1', h1, h2, Sem.run_bind, run_part_plain _ hpk (v := .string t) rfl, Result.andThen_ok, Sem.run_bind, run_part_plain _ hpk (v := .string t) rfl, Result.andThen_ok, Sem.run_bind, run_equalIn_string w _ _ t t hus, Result.andThen_ok]
    unfold Op.eqFields
    rw [if_pos n2', h3, h4]
    have hf : (t.toList == t.toList) = true := by simp
    rw [hf]
    simp only [Bool.not_true, Bool.false_eq_true, if_false, Sem.run_bind]
    rw [run_part_cx w Try.underlying61 (v := .complex .f64 x y) rfl, Result.andThen_ok, run_part_cx w Try.underlying61 (v := .complex .f64 x y) rfl, Result.andThen_ok, run_equalIn_cx w _ _ _ _ _ Try.underlying61 hx hy, Result.andThen_ok]
    unfold Op.eqFields
    simp [Sem.run_pure]
  · simp at hk
theorem item_neq (w : World) (t : ByteArray) (x y : Nat) (hx : Op.floatEq .f64 x x = true) (hy : Op.floatEq .f64 y y = true) : (binOp .neq 63 (.agg #[.string t, .complex .f64 x y]) (.agg #[.string t, .complex .f64 x y])).run Try.prog w = .ok (.bool false) w := by
  rw [run_neq_struct, item_eqI w t x y hx hy]
  rfl
/-- Words that are equal to themselves. -/
def Feq (φ : Itm → Nat × Nat) (l : List Itm) : Prop := ∀ i ∈ l, Op.floatEq .f64 (φ i).1 (φ i).1 = true ∧ Op.floatEq .f64 (φ i).2 (φ i).2 = true
theorem feq_pw (l : List Itm) : Feq pw l := fun i _ => ⟨feq_ofW _ _ _ (.inl rfl), feq_ofW _ _ _ (.inr rfl)⟩
set_option maxHeartbeats 4000000 in
theorem Equal_refl (φ : Itm → Nat × Nat) (v : Value) (l : List Itm) (w : World) (h : Its φ w v l) (hf : Feq φ l) (hl : l.length ≤ 1001) :
    Calls Try.prog 54 #[v, v] w fun e w' => e = .returned (.bool true) ∧ Below w.heap.size w w' := by
  obtain ⟨A, c, rfl, h⟩ := h
  obtain ⟨n, hn⟩ : ∃ n, n = l.length := ⟨_, rfl⟩
  rw [← hn] at hl ⊢
  have heg : Try.prog.eqGuardType Try.prog.depth 63 = false := by kernel_rfl
  have H := Lib.hid h
  have HF := Lib.hid hf
  have HN := Lib.hid hn
  clear h hf hn
  go_enter Try.func54, Try.ntmps54
  go_wp2_with fail
  go_loopw [13] (fun v13 wx => Hid (∃ (k : Nat), v13 = .int .i64 k ∧ k ≤ n ∧ Below w.heap.size w wx ∧ ∃ w7, w7 = wx)) (fun v13 _ => n - (intOf v13).toNat)
  case atStart => exact Lib.hid ⟨0, rfl, by omega, Below.refl _ _, _, rfl⟩
  case round =>
    obtain ⟨k, rfl, hk, hb, w7, hw7⟩ := hrel.out
    subst hw7
    clear hrel
    have HB := Lib.hid hb
    clear hb
    by_cases hlt : (k : Int) < (n : Int)
    · obtain ⟨it, hit⟩ : ∃ i, l[k]? = some i := ⟨l[k]'(by have := HN.out; omega), List.getElem?_eq_getElem _⟩
      obtain ⟨g, rfl, hg, hc⟩ := H.out (by intro e; subst e; have := HN.out; simp at this; omega)
      obtain ⟨c0, c1⟩ := hc k it hit
      have q0 := (HB.out.cell (p := ⟨g, k * 2, none⟩) hg).trans c0
      have q1 := (HB.out.cell (p := ⟨g, k * 2 + 1, none⟩) hg).trans c1
      obtain ⟨f1, f2⟩ := HF.out it (List.mem_of_getElem? hit)
      have heq := fun W => item_neq W it.t _ _ f1 f2
      clear c0 c1 hit hc f1 f2 hg
      go_wp2_with fail
      go_quiet (fail)
      go_wp2_with fail
      refine ⟨?_, by simp [intOf]; omega⟩
      exact Lib.hid ⟨k + 1, by simp, by omega, below_drewN HB.out _, _, rfl⟩
    · go_wp2_with fail
      go_ret
      exact ⟨rfl, HB.out⟩
set_option maxHeartbeats 8000000 in
theorem Same_refl (φ : Itm → Nat × Nat) (m : Mg) (v : Value) (w : World) (hi : Its φ w v m.I) (hf : Feq φ m.I) (hl : m.I.length ≤ 1001) :
    Calls Try.prog 45 #[.agg (mc m v), .agg (mc m v)] w fun e w' => e = .returned (.bool true) ∧ Below w.heap.size w w' := by
  obtain ⟨W, hW⟩ : ∃ W, W = (w.alloc (.cells (mc m v) 40)).alloc (.cells (mc m v) 40) := ⟨_, rfl⟩
  obtain ⟨g, hg⟩ : ∃ g, g = w.heap.size := ⟨_, rfl⟩
  have hb : Below w.heap.size w W := by rw [hW]; exact ((Below.refl _ _).alloc (Nat.le_refl _) _).alloc (by simp) _
  have hk1 : Blk W g 40 (mc m v) := by rw [hW, hg]; exact (Blk.new w 40 (mc m v)).below ((Below.refl _ _).alloc (Nat.le_refl _) _) (Blk.new w 40 (mc m v)).lt
  have hk2 : Blk W (g + 1) 40 (mc m v) := by
    rw [hW, hg]
    have := Blk.new (w.alloc (.cells (mc m v) 40)) 40 (mc m v)
    simpa using this
  have hq := Equal_refl φ v m.I W (hi.below hb) hf hl
  have a0 : W.cell? ⟨g, 0, none⟩ = some (.int .i64 m.k) := hk1.cell 0
  have a1 : W.cell? ⟨g, 1, none⟩ = some (.string m.F) := hk1.cell 1
  have a2 : W.cell? ⟨g, 2, none⟩ = some (.string m.E) := hk1.cell 2
  have a3 : W.cell? ⟨g, 3, none⟩ = some (.string m.T) := hk1.cell 3
  have a4 : W.cell? ⟨g, 4, none⟩ = some (.int .i64 m.N) := hk1.cell 4
  have a5 : W.cell? ⟨g, 5, none⟩ = some (.int .i64 m.S) := hk1.cell 5
  have a6 : W.cell? ⟨g, 6, none⟩ = some (.int .i64 m.U) := hk1.cell 6
  have a7 : W.cell? ⟨g, 7, none⟩ = some (.int .i64 m.P) := hk1.cell 7
  have a8 : W.cell? ⟨g, 8, none⟩ = some v := hk1.cell 8
  have b0 : W.cell? ⟨g + 1, 0, none⟩ = some (.int .i64 m.k) := hk2.cell 0
  have b1 : W.cell? ⟨g + 1, 1, none⟩ = some (.string m.F) := hk2.cell 1
  have b2 : W.cell? ⟨g + 1, 2, none⟩ = some (.string m.E) := hk2.cell 2
  have b3 : W.cell? ⟨g + 1, 3, none⟩ = some (.string m.T) := hk2.cell 3
  have b4 : W.cell? ⟨g + 1, 4, none⟩ = some (.int .i64 m.N) := hk2.cell 4
  have b5 : W.cell? ⟨g + 1, 5, none⟩ = some (.int .i64 m.S) := hk2.cell 5
  have b6 : W.cell? ⟨g + 1, 6, none⟩ = some (.int .i64 m.U) := hk2.cell 6
  have b7 : W.cell? ⟨g + 1, 7, none⟩ = some (.int .i64 m.P) := hk2.cell 7
  have b8 : W.cell? ⟨g + 1, 8, none⟩ = some v := hk2.cell 8
  obtain ⟨Av, cv, hvs, _⟩ := hi
  subst hvs
  have HB := Lib.hid hb
  have HW := Lib.hid hW
  have HG := Lib.hid hg
  clear hb hk1 hk2 hW hg
  go_enter Try.func45, Try.ntmps45
  go_upto_region 1 with fail
  rw [← HW.out, ← HG.out]
  go_wp2_with (go_at_call 54; refine hq.mono ?_; rintro e w' ⟨rfl, hb5⟩; clear hq)
  go_ret
  exact ⟨rfl, HB.out.trans (hb5.mono HB.out.size)⟩
end Go.Proofs.Ytfbedlhigggggaa.Sp
namespace Go.Proofs.Ytfbedlhigggggaa.Sp
open Go Go.RowKit Go.Lib Go.Proofs.Ytfbedlhigggggaa Go.Proofs.Ytfbedlhigggggaa.Crw Go.Proofs.Ytfbedlhigggggaa.Vl Go.ChangeShapes Go.WideShapes Go.ChangeAt
set_option linter.unusedVariables false
set_option maxRecDepth 100000
theorem cells9 {w : World} {g : Nat} {t : TypeId} {m : Mg} {v : Value} (h : Blk w g t (mc m v)) : w.cell? ⟨g, 0, none⟩ = some (.int .i64 m.k) ∧ w.cell? ⟨g, 1, none⟩ = some (.string m.F) ∧ w.cell? ⟨g, 2, none⟩ = some (.string m.E) ∧ w.cell? ⟨g, 3, none⟩ = some (.string m.T) ∧ w.cell? ⟨g, 4, none⟩ = some (.int .i64 m.N) ∧ w.cell? ⟨g, 5, none⟩ = some (.int .i64 m.S) ∧ w.cell? ⟨g, 6, none⟩ = some (.int .i64 m.U) ∧ w.cell? ⟨g, 7, none⟩ = some (.int .i64 m.P) ∧ w.cell? ⟨g, 8, none⟩ = some v :=
  ⟨h.cell 0, h.cell 1, h.cell 2, h.cell 3, h.cell 4, h.cell 5, h.cell 6, h.cell 7, h.cell 8⟩
/-- No field is used that the kind has not. -/
def FilP (m : Mg) (v : Value) : Prop := mc ((flds m.k).foldl (fun y c => cpM m c y) (mg0 m.k)) ((flds m.k).foldl (fun u c => cpV v c u) (.slice none 0 0)) = mc m v
theorem fld_q (k : Nat) (h1 : 1 ≤ k) (h2 : k ≤ 9) : ((fldB k).toList == [63]) = false := by
  rcases (by omega : k = 1 ∨ k = 2 ∨ k = 3 ∨ k = 4 ∨ k = 5 ∨ k = 6 ∨ k = 7 ∨ k = 8 ∨ k = 9) with rfl | rfl | rfl | rfl | rfl | rfl | rfl | rfl | rfl
  all_goals
    rw [ByteArray.toList_eq]
    rfl
theorem flds_I (k : Nat) (h1 : 1 ≤ k) (h2 : k ≤ 9) (h : (73 : UInt8) ∈ flds k) : k = 1 ∨ k = 5 := by
  rcases (by omega : k = 1 ∨ k = 2 ∨ k = 3 ∨ k = 4 ∨ k = 5 ∨ k = 6 ∨ k = 7 ∨ k = 8 ∨ k = 9) with rfl | rfl | rfl | rfl | rfl | rfl | rfl | rfl | rfl
  all_goals first | (left; rfl) | (right; rfl) | (exact absurd h (by decide))
theorem let_right {c : UInt8} (h : c ∈ letS) : c ∈ [(70 : UInt8), 69, 84, 83, 73, 78, 85, 80] := by
  simp only [letS, List.mem_cons, List.not_mem_nil, or_false] at h ⊢
  rcases h with rfl | rfl | rfl | rfl | rfl | rfl | rfl | rfl <;> decide
set_option maxHeartbeats 8000000 in
theorem Check_any (m : Mg) (v : Value) (w : World) (h : MgP w m v) (hf : FilP m v) :
    Calls Try.prog 35 #[.agg (mc m v)] w fun e w' => e = .returned (.int .i64 (if chk m = true then 0 else 1)) ∧ Below w.heap.size w w' := by
  obtain ⟨E, hE⟩ : ∃ E : Int, E = if chk m = true then 0 else 1 := ⟨_, rfl⟩
  rw [← hE]
  have HE := Lib.hid hE
  clear hE
  have hlI := h.hI
  have hOn : ∀ wa, Calls Try.prog 46 #[.agg (mc m v), .string (fldB m.k)] wa fun e w' => e = .returned (.agg (mc m v)) ∧ Below wa.heap.size wa w' := fun wa => by
    have := only_any m v wa (by obtain ⟨A, c, hv, _⟩ := h.its; exact ⟨_, _, _, hv⟩) h.kd
    rw [hf] at this
    exact this
  have hFl := fun wa => Fields_any m.k wa h.kd.1 h.kd.2
  have hFq := fld_q m.k h.kd.1 h.kd.2
  have hlen := fldB_size m.k
  have hlet := flds_let m.k h.kd.1 h.kd.2
  have hfI := flds_I m.k h.kd.1 h.kd.2
  obtain ⟨L, hL⟩ : ∃ L, L = flds m.k := ⟨_, rfl⟩
  obtain ⟨s, hs⟩ : ∃ s, s = fldB m.k := ⟨_, rfl⟩
  have hat : ∀ (j : Nat) (c : UInt8), L[j]? = some c → ∃ hj : j < s.size, s[j] = c := fun j c h => by subst hs; rw [hL] at h; exact fldB_at h
  rw [← hL, ← hs] at hlen
  rw [← hL] at hlet hfI
  rw [← hs] at hFl hFq hOn
  have hck : chk m = L.all (chkF m) := by rw [hL]; rfl
  clear hL hs hf
  obtain ⟨n, hn⟩ : ∃ n, n = s.size := ⟨_, rfl⟩
  have HN := Lib.hid hn
  have HLEN := Lib.hid hlen
  have HLET := Lib.hid hlet
  have HAT := Lib.hid hat
  have HCK := Lib.hid hck
  have HFI := Lib.hid hfI
  clear hlen hlet hat hn hck hfI
  obtain ⟨W, hW⟩ : ∃ W, W = w.alloc (.cells (mc m v) 40) := ⟨_, rfl⟩
  obtain ⟨g, hg⟩ : ∃ g, g = w.heap.size := ⟨_, rfl⟩
  have hb : Blk W g 40 (mc m v) := by rw [hW, hg]; exact Blk.new _ _ _
  have hbe : Below w.heap.size w W := by rw [hW]; exact (Below.refl _ _).alloc (Nat.le_refl _) _
  have a0 : W.cell? ⟨g, 0, none⟩ = some (.int .i64 m.k) := hb.cell 0
  have HG := Lib.hid hg
  have HB := Lib.hid hb
  have HW := Lib.hid hW
  have HBE := Lib.hid hbe
  have HP := Lib.hid h
  have HS : Blk W.drew g 40 (mc m v) ∧ Its pw W.drew v m.I ∧ Below w.heap.size w W.drew := ⟨hb, (h.its.below hbe).below (Below.refl _ _).drew, hbe.drew⟩
  clear hb hbe hg hW h
  go_enter Try.func35, Try.ntmps35
  go_upto_region 1 with fail
  rw [← HW.out, ← HG.out]
  go_upto_region 2 with (go_at_call 32; refine (hFl _).mono ?_; rintro e w2 ⟨rfl, rfl⟩)
  refine wp_region_noPanic ?_
  refine wp_region_held_drew (S := fun wa => Blk wa g 40 (mc m v) ∧ Its pw wa v m.I ∧ Below w.heap.size w wa) (by kernel_rfl) HS (fun hHeld => ?_)
  refine wpAnyH_take (i := 0) (oi := ?ois1) (v := ?vs1) ?his1 (by kernel_rfl) (by kernel_rfl) (by kernel_rfl) (fun _ _ _ h => h) ?hys1 HS ?rests1
  case his1 => (simp only [List.getElem?_toArray, List.getElem?_cons_zero]; try rfl)
  case hys1 => (refine Or.inl ⟨by rfl, ?_⟩; intro w hSw; go_simp; (try with_reducible rfl))
  try simp only [Act.put, List.setIfInBounds_toArray, List.set_cons_zero, List.set_cons_succ]
  refine wpAnyH_take (i := 1) (oi := ?ois2) (v := ?vs2) ?his2 (by kernel_rfl) (by kernel_rfl) (by kernel_rfl) (fun _ _ _ h => h) ?hys2 HS ?rests2
  case his2 => (simp only [List.getElem?_toArray, List.getElem?_cons_succ, List.getElem?_cons_zero]; try rfl)
  case hys2 => (refine Or.inl ⟨by rfl, ?_⟩; intro w hSw; go_simp; (try with_reducible rfl))
  try simp only [Act.put, List.setIfInBounds_toArray, List.set_cons_zero, List.set_cons_succ]
  refine wpAnyH_take (i := 2) (oi := ?ois3) (v := ?vs3) ?his3 (by kernel_rfl) (by kernel_rfl) (by kernel_rfl) (fun _ _ _ h => h) ?hys3 HS ?rests3
  case his3 => (simp only [List.getElem?_toArray, List.getElem?_cons_succ, List.getElem?_cons_zero]; try rfl)
  case hys3 => (refine Or.inl ⟨by rfl, ?_⟩; intro w hSw; go_simp; (try with_reducible rfl))
  try simp only [Act.put, List.setIfInBounds_toArray, List.set_cons_zero, List.set_cons_succ]
  refine wpAnyH_take (i := 3) (oi := ?ois4) (v := ?vs4) ?his4 (by kernel_rfl) (by kernel_rfl) (by kernel_rfl) (fun _ _ _ h => h) ?hys4 HS ?rests4
  case his4 => (simp only [List.getElem?_toArray, List.getElem?_cons_succ, List.getElem?_cons_zero]; try rfl)
  case hys4 => (refine Or.inl ⟨by rfl, ?_⟩; intro w hSw; have q := cells9 hSw.1; go_simp; (try with_reducible rfl))
  try simp only [Act.put, List.setIfInBounds_toArray, List.set_cons_zero, List.set_cons_succ]
  refine wpAnyH_take (i := 4) (oi := ?ois5) (v := ?vs5) ?his5 (by kernel_rfl) (by kernel_rfl) (by kernel_rfl) (fun _ _ _ h => h) ?hys5 HS ?rests5
  case his5 => (simp only [List.getElem?_toArray, List.getElem?_cons_succ, List.getElem?_cons_zero]; try rfl)
  case hys5 => (refine Or.inl ⟨by rfl, ?_⟩; intro w hSw; have q := cells9 hSw.1; go_simp; (try with_reducible rfl))
  try simp only [Act.put, List.setIfInBounds_toArray, List.set_cons_zero, List.set_cons_succ]
  refine wpAnyH_take (i := 5) (oi := ?ois6) (v := ?vs6) ?his6 (by kernel_rfl) (by kernel_rfl) (by kernel_rfl) (fun _ _ _ h => h) ?hys6 HS ?rests6
  case his6 => (simp only [List.getElem?_toArray, List.getElem?_cons_succ, List.getElem?_cons_zero]; try rfl)
  case hys6 => (refine Or.inl ⟨by rfl, ?_⟩; intro w hSw; go_simp; (try with_reducible rfl))
  try simp only [Act.put, List.setIfInBounds_toArray, List.set_cons_zero, List.set_cons_succ]
  refine wpAnyH_ready (rs := [6]) (by kernel_rfl) (by simp) ?_
  refine AllReadyH.cons (o := ?ois7) ?his7 (fun K hK => ?sts7) AllReadyH.nil
  case his7 => (simp only [List.getElem?_toArray, List.getElem?_cons_succ, List.getElem?_cons_zero]; try rfl)
  go_simp
  go_at_call 46
  refine (hOn _).mono ?_
  rintro e9 w8 ⟨rfl, hb8⟩
  try dsimp only
  have HS8 := (show Blk w8 g 40 (mc m v) ∧ Its pw w8 v m.I ∧ Below w.heap.size w w8 from ⟨HS.1.below hb8 HS.1.lt, HS.2.1.below hb8, HS.2.2.trans (hb8.mono HS.2.2.size)⟩)
  refine hK.out _ _ HS8 (fun _ => ?rss7)
  clear hK K
  try simp only [Act.put, List.setIfInBounds_toArray, List.set_cons_zero, List.set_cons_succ]
  refine wpAnyH_ready (rs := [7]) (by kernel_rfl) (by simp) ?_
  refine AllReadyH.cons (o := ?ois8) ?his8 (fun K hK => ?sts8) AllReadyH.nil
  case his8 => (simp only [List.getElem?_toArray, List.getElem?_cons_succ, List.getElem?_cons_zero]; try rfl)
  go_simp
  go_at_call 45
  refine (Same_refl pw m v _ HS8.2.1 (feq_pw _) hlI).mono ?_
  rintro e9 w9 ⟨rfl, hb9⟩
  try dsimp only
  have HS9 := (show Blk w9 g 40 (mc m v) ∧ Its pw w9 v m.I ∧ Below w.heap.size w w9 from ⟨HS8.1.below hb9 HS8.1.lt, HS8.2.1.below hb9, HS8.2.2.trans (hb9.mono HS8.2.2.size)⟩)
  refine hK.out _ _ HS9 (fun _ => ?rss8)
  clear hK K
  try simp only [Act.put, List.setIfInBounds_toArray, List.set_cons_zero, List.set_cons_succ]
  refine wpAnyH_take (i := 8) (oi := ?ois9) (v := ?vs9) ?his9 (by kernel_rfl) (by kernel_rfl) (by kernel_rfl) (fun _ _ _ h => h) ?hys9 HS9 ?rests9
  case his9 => (simp only [List.getElem?_toArray, List.getElem?_cons_succ, List.getElem?_cons_zero]; try rfl)
  case hys9 => (refine Or.inl ⟨by rfl, ?_⟩; intro w hSw; go_simp; (try with_reducible rfl))
  try simp only [Act.put, List.setIfInBounds_toArray, List.set_cons_zero, List.set_cons_succ]
  refine wpAnyH_take (i := 9) (oi := ?ois10) (v := ?vs10) ?his10 (by kernel_rfl) (by kernel_rfl) (by kernel_rfl) (fun _ _ _ h => h) ?hys10 HS9 ?rests10
  case his10 => (simp only [List.getElem?_toArray, List.getElem?_cons_succ, List.getElem?_cons_zero]; try rfl)
  case hys10 => (refine Or.inl ⟨by rfl, ?_⟩; intro w hSw; go_simp; (try with_reducible rfl))
  try simp only [Act.put, List.setIfInBounds_toArray, List.set_cons_zero, List.set_cons_succ]
  refine wpAnyH_done (by kernel_rfl) ?_ _
  refine NoPanic.normal ?_
  clear hOn hFl
  go_upto_block 0 with fail
  obtain ⟨kI, hkI⟩ : ∃ g, g = w9.heap.size := ⟨_, rfl⟩
  obtain ⟨W3, hW3⟩ : ∃ W, W = w9.iter s 0 := ⟨_, rfl⟩
  rw [← hW3, ← hkI]
  have hbe3 : Below w9.heap.size w9 W3 := by rw [hW3]; exact (Below.refl _ _).alloc (Nat.le_refl _) _
  have hb3 := HS9.1.below hbe3 HS9.1.lt
  have hi3 : W3.heap[kI]? = some (.stringIter s 0) := by rw [hW3, hkI]; exact World.iter_heap _ _ _
  have HB3 := Lib.hid hb3
  have HI3 := Lib.hid hi3
  have HBE3 := Lib.hid (HS9.2.2.trans (hbe3.mono HS9.2.2.size))
  have HKI := Lib.hid (show g < kI by rw [hkI]; exact HS9.1.lt)
  have HKW := Lib.hid (show w.heap.size ≤ kI by rw [hkI]; exact HS9.2.2.size)
  have HP3 := Lib.hid (HP.out.below (HBE3.out))
  clear hW3 hbe3 hb3 hi3 hkI hHeld HS HS8 HS9
  go_wp2_with fail
  go_loopw [] (fun wr => Hid (∃ (j : Nat), j ≤ n ∧ wr.heap[kI]? = some (.stringIter s j) ∧ Blk wr g 40 (mc m v) ∧ MgP wr m v ∧ Below w.heap.size w wr ∧ (L.take j).all (chkF m) = true ∧ ∃ w7, w7 = wr)) (fun wr => n - wr.iterPos kI)
  case atStart => exact Lib.hid ⟨0, by omega, HI3.out, HB3.out, HP3.out, HBE3.out, rfl, _, rfl⟩
  case round =>
    obtain ⟨j, hj, hi, hb, hp, hbe, hall, w7, hw7⟩ := hrel.out
    subst hw7
    clear hrel
    have HI := Lib.hid hi
    have HB7 := Lib.hid hb
    have HP7 := Lib.hid hp
    have HBE7 := Lib.hid hbe
    have HAL := Lib.hid hall
    clear hi hb hp hbe hall
    by_cases hlt : j < n
    · obtain ⟨c, hc⟩ : ∃ c, L[j]? = some c := ⟨L[j]'(by have := HN.out; have := HLEN.out; omega), List.getElem?_eq_getElem _⟩
      obtain ⟨hjs, hsc⟩ := HAT.out j c hc
      have hcl := HLET.out c (List.mem_of_getElem? hc)
      have hnx : ∀ ty, (Instr.next (.pointer (some ⟨kI, 0, none⟩)) true ty).run Try.prog w7 = .ok (.tuple #[.bool true, .int .i64 j, .int .i32 (c.toNat : Int)]) (w7.iterAt kI s (j + 1)) := fun ty => by
        have := run_next_ascii_at (P := Try.prog) w7 kI s j ty HI.out hjs (by rw [hsc]; exact let_small hcl)
        rw [hsc] at this
        exact this
      have HC := Lib.hid hc
      clear hjs hsc hc
      go_upto_region 7 with fail
      obtain ⟨W8, hW8⟩ : ∃ W, W = w7.iterAt kI s (j + 1) := ⟨_, rfl⟩
      rw [← hW8]
      have hi8 : W8.heap[kI]? = some (.stringIter s (j + 1)) := by rw [hW8]; exact iterAt_heap _ _ _ _ _ HI.out
      have hb8 : Blk W8 g 40 (mc m v) := by rw [hW8]; exact (iterAt_other w7 kI g s (j + 1) (by have := HKI.out; omega)).trans HB7.out
      have hbe8 : Below w.heap.size w W8 := by rw [hW8]; exact below_iterAt HBE7.out HKW.out _ _
      have hp8 : MgP W8 m v := HP.out.below hbe8
      obtain ⟨a0, a1, a2, a3, a4, a5, a6, a7, a8⟩ := cells9 hb8
      have hR := right_any m v c W8 hp8 (let_right hcl) (fun e => HFI.out (by rw [← e]; exact List.mem_of_getElem? HC.out))
      have HI8 := Lib.hid hi8
      have HB8 := Lib.hid hb8
      have HBE8 := Lib.hid hbe8
      clear hW8 hi8 hb8 hbe8 hp8 hnx hcl
      cases hr : chkF m c with
      | false =>
        have HR := Lib.hid hr
        rw [hr] at hR
        clear hr
        go_wp2_with (go_at_call 47; refine hR.mono ?_; rintro e w9 ⟨rfl, hb9⟩; have HBE9 := Lib.hid (HBE8.out.trans (hb9.mono HBE8.out.size)); clear hb9 hR)
        go_ret
        have hE1 : E = 1 := by
          rw [HE.out, if_neg]
          rw [HCK.out]
          intro e
          have := List.all_eq_true.1 e c (List.mem_of_getElem? HC.out)
          rw [HR.out] at this
          cases this
        rw [hE1]
        exact ⟨rfl, HBE9.out⟩
      | true =>
        have HR := Lib.hid hr
        rw [hr] at hR
        clear hr
        go_wp2_with (go_at_call 47; refine hR.mono ?_; rintro e w9 ⟨rfl, hb9⟩; have HB9 := Lib.hid (HB8.out.below hb9 HB8.out.lt); have HBE9 := Lib.hid (HBE8.out.trans (hb9.mono HBE8.out.size)); have HI9 := Lib.hid ((hb9.block kI (Array.getElem?_eq_some_iff.1 HI8.out).1).trans HI8.out); clear hb9 hR)
        refine ⟨Lib.hid ⟨j + 1, by omega, HI9.out, HB9.out, HP.out.below HBE9.out, HBE9.out, ?_, _, rfl⟩, iterM hlt HI9.out HI.out⟩
        rw [List.take_add_one, HC.out, List.all_append, HAL.out]
        simp [HR.out]
    · have hnx : ∀ ty, (Instr.next (.pointer (some ⟨kI, 0, none⟩)) true ty).run Try.prog w7 = .ok (.tuple #[.bool false]) w7 := fun ty => run_next_end_at (P := Try.prog) w7 kI s j ty HI.out (by have := HN.out; omega)
      have hal := HAL.out
      rw [List.take_of_length_le (by have := HN.out; have := HLEN.out; omega)] at hal
      have HAL2 := Lib.hid hal
      clear hal
      go_wp2_with fail
      go_ret
      have hE0 : E = 0 := by rw [HE.out, if_pos (by rw [HCK.out]; exact HAL2.out)]
      rw [hE0]
      exact ⟨rfl, HBE7.out⟩
end Go.Proofs.Ytfbedlhigggggaa.Sp
namespace Go.Proofs.Ytfbedlhigggggaa.Sp
open Go Go.RowKit Go.Lib Go.Proofs.Ytfbedlhigggggaa Go.Proofs.Ytfbedlhigggggaa.Crw Go.Proofs.Ytfbedlhigggggaa.Vl Go.ChangeShapes Go.WideShapes Go.ChangeAt
set_option linter.unusedVariables false
set_option maxRecDepth 100000
theorem fill_I (k : Nat) (fs : List UInt8) (m : Mg) (ws : List ByteArray) : fill k (73 :: fs) m ws = (itS k ws).bind fun l => fill k fs { m with I := l } [] := rfl
theorem fill_no (k : Nat) (c : UInt8) (hc : c ≠ 73) (fs : List UInt8) (m : Mg) : fill k (c :: fs) m [] = none := by
  conv => lhs; unfold fill
  rw [if_neg hc]
theorem fill_c (k : Nat) (c : UInt8) (hc : c ≠ 73) (fs : List UInt8) (m : Mg) (q : ByteArray) (r : List ByteArray) : fill k (c :: fs) m (q :: r) = (setM m c q).bind fun m' => fill k fs m' r := by
  conv => lhs; unfold fill
  rw [if_neg hc]
theorem setM_k {m m' : Mg} {c : UInt8} {q : ByteArray} (h : setM m c q = some m') : m'.k = m.k ∧ m'.I = m.I ∧ (c ≠ 70 → m'.F = m.F) ∧ (c ≠ 69 → m'.E = m.E) ∧ (c ≠ 84 → m'.T = m.T) ∧ (c ≠ 78 → m'.N = m.N) ∧ (c ≠ 83 → m'.S = m.S) ∧ (c ≠ 85 → m'.U = m.U) ∧ (c = 70 ∨ c = 69 ∨ c = 84 ∨ c = 78 ∨ c = 83 ∨ c = 85 ∨ m'.P = (numS q.data.toList).1) ∧ (c = 70 ∨ c = 69 ∨ c = 84 ∨ c = 78 ∨ c = 83 ∨ c = 85 → m'.P = m.P) := by
  unfold setM at h
  repeat' split at h
  all_goals first | (injection h with h; subst h; simp_all; done) | (cases h; done)
theorem setM_size {m m' : Mg} {c : UInt8} {q : ByteArray} (h : setM m c q = some m') : (m'.F = m.F ∨ m'.F = q) ∧ (m'.E = m.E ∨ m'.E = q) ∧ (m'.T = m.T ∨ m'.T = q) := by
  unfold setM at h
  repeat' split at h
  all_goals first | (injection h with h; subst h; simp_all; done) | (cases h; done)
/-- What is not named stays as it is. -/
theorem fill_keep (k : Nat) : ∀ (fs : List UInt8) (m y : Mg) (ws : List ByteArray), (∀ c ∈ fs, c ∈ letS) → fill k fs m ws = some y → y.k = m.k ∧ (70 ∉ fs → y.F = m.F) ∧ (69 ∉ fs → y.E = m.E) ∧ (84 ∉ fs → y.T = m.T) ∧ (78 ∉ fs → y.N = m.N) ∧ (83 ∉ fs → y.S = m.S) ∧ (85 ∉ fs → y.U = m.U) ∧ (80 ∉ fs → y.P = m.P) ∧ (73 ∉ fs → y.I = m.I)
  | [], m, y, [], hl, h => by
    injection h with h
    subst h
    simp
  | [], m, y, _ :: _, hl, h => by cases h
  | c :: fs, m, y, ws, hl, h => by
    by_cases hc : c = 73
    · subst hc
      rw [fill_I] at h
      obtain ⟨l, _, h⟩ := Option.bind_eq_some_iff.1 h
      have := fill_keep k fs _ y _ (fun c hc => hl c (by simp [hc])) h
      simp only [List.mem_cons, not_or] at this ⊢
      obtain ⟨h1, h2, h3, h4, h5, h6, h7, h8, h9⟩ := this
      exact ⟨h1, fun e => h2 e.2, fun e => h3 e.2, fun e => h4 e.2, fun e => h5 e.2, fun e => h6 e.2, fun e => h7 e.2, fun e => h8 e.2, fun e => absurd trivial e.1⟩
    · rcases ws with _ | ⟨q, r⟩
      · rw [fill_no k c hc] at h; cases h
      · rw [fill_c k c hc] at h
        obtain ⟨m', hm, h⟩ := Option.bind_eq_some_iff.1 h
        have := fill_keep k fs m' y r (fun c hc => hl c (by simp [hc])) h
        obtain ⟨h1, h2, h3, h4, h5, h6, h7, h8, h9⟩ := this
        obtain ⟨k1, k2, k3, k4, k5, k6, k7, k8, _, k10⟩ := setM_k hm
        have hcl := hl c (by simp)
        simp only [letS, List.mem_cons, List.not_mem_nil, or_false] at hcl
        simp only [List.mem_cons, not_or]
        refine ⟨h1.trans k1, fun e => (h2 e.2).trans (k3 (fun e' => e.1 e'.symm)), fun e => (h3 e.2).trans (k4 (fun e' => e.1 e'.symm)), fun e => (h4 e.2).trans (k5 (fun e' => e.1 e'.symm)), fun e => (h5 e.2).trans (k6 (fun e' => e.1 e'.symm)), fun e => (h6 e.2).trans (k7 (fun e' => e.1 e'.symm)), fun e => (h7 e.2).trans (k8 (fun e' => e.1 e'.symm)), fun e => (h8 e.2).trans (k10 ?_), fun e => (h9 e.2).trans k2⟩
        rcases hcl with rfl | rfl | rfl | rfl | rfl | rfl | rfl | rfl <;> simp_all
theorem fill_filP (k : Nat) (h1 : 1 ≤ k) (h2 : k ≤ 9) (ws : List ByteArray) (y : Mg) (v : Value) (h : fill k (flds k) (mg0 k) ws = some y) (hv : (73 : UInt8) ∉ flds k → v = .slice none 0 0) : FilP y v := by
  have hkeep := fill_keep k (flds k) (mg0 k) y ws (flds_let k h1 h2) h
  clear h
  rcases y with ⟨yk, yF, yE, yT, yN, yS, yU, yP, yI⟩
  unfold FilP
  simp only [mg0] at hkeep ⊢
  obtain ⟨rfl, e1, e2, e3, e4, e5, e6, e7, e8⟩ := hkeep
  rcases (by omega : yk = 1 ∨ yk = 2 ∨ yk = 3 ∨ yk = 4 ∨ yk = 5 ∨ yk = 6 ∨ yk = 7 ∨ yk = 8 ∨ yk = 9) with rfl | rfl | rfl | rfl | rfl | rfl | rfl | rfl | rfl
  all_goals
    simp [flds] at e1 e2 e3 e4 e5 e6 e7 e8 hv
    subst_vars
    rfl
theorem below_vol {V : Nat → Prop} {B : Nat} {a w w' : World} (h : Below B a w) (hv : Vol V w w') (hV : ∀ b, V b → B ≤ b) (hs : B ≤ w.heap.size) : Below B a w' :=
  ⟨hv.os.trans h.os, hv.tape.trans h.tape, hv.output.trans h.output, Nat.le_trans h.size hv.size, fun b hb => (hv.block b (Nat.lt_of_lt_of_le hb hs) (fun e => by have := hV b e; omega)).trans (h.block b hb)⟩
def zs9 : Array Value := #[.int .i64 0, .string ⟨#[]⟩, .string ⟨#[]⟩, .string ⟨#[]⟩, .int .i64 0, .int .i64 0, .int .i64 0, .int .i64 0, .slice none 0 0]
def MsgPost (w : World) (k : Nat) (ws : List ByteArray) (e : Ending) (w' : World) : Prop := Below w.heap.size w w' ∧ match msgS k ws with
  | some m => ∃ v, e = .returned (.tuple #[.agg (mc m v), .bool true]) ∧ MgP w' m v ∧ FilP m v ∧ (∀ b, v.ownBlock = some b → w.heap.size ≤ b)
  | none => e = .returned (.tuple #[.agg zs9, .bool false])
theorem itsV_F (l : List Itm) : itsV l = itsF pw l := rfl
theorem itS_facts {k : Nat} {ws : List ByteArray} {l : List Itm} (h : itS k ws = some l) (hs : ∀ q ∈ ws, q.size ≤ 1000) : l.length ≤ ws.length ∧ (∀ i ∈ l, i.t.size ≤ 1000) ∧ (k ≠ 1 → ∀ i ∈ l, i.a = 0 ∧ i.b = 0) := by
  unfold itS at h
  split at h
  · rename_i hk
    suffices ∀ (n : Nat) (ws : List ByteArray) (l : List Itm), ws.length ≤ n → itR ws = some l → (∀ q ∈ ws, q.size ≤ 1000) → l.length ≤ ws.length ∧ (∀ i ∈ l, i.t.size ≤ 1000) by
      obtain ⟨h1, h2⟩ := this _ ws l (Nat.le_refl _) h hs
      exact ⟨h1, h2, fun hn => absurd hk hn⟩
    intro n
    induction n with
    | zero =>
      intro ws l hn h hs
      rw [List.eq_nil_of_length_eq_zero (by omega : ws.length = 0)] at h
      injection h with h
      subst h
      simp
    | succ n ih =>
      intro ws l hn h hs
      rcases ws with _ | ⟨a, _ | ⟨b, _ | ⟨c, r⟩⟩⟩
      · injection h with h; subst h; simp
      · cases h
      · cases h
      · rw [itR_cons3] at h
        split at h
        · obtain ⟨l', hl', rfl⟩ := Option.map_eq_some_iff.1 h
          simp only [List.length_cons] at hn
          obtain ⟨h1, h2⟩ := ih r l' (by omega) hl' (fun q hq => hs q (by simp [hq]))
          refine ⟨by simp; omega, fun i hi => ?_⟩
          rcases List.mem_cons.1 hi with rfl | hi
          · exact hs a (by simp)
          · exact h2 i hi
        · cases h
  · injection h with h
    subst h
    refine ⟨by simp [itA], fun i hi => ?_, fun _ i hi => ?_⟩
    · obtain ⟨q, hq, rfl⟩ := List.mem_map.1 hi
      exact hs q hq
    · obtain ⟨q, hq, rfl⟩ := List.mem_map.1 hi
      exact ⟨rfl, rfl⟩
end Go.Proofs.Ytfbedlhigggggaa.Sp
namespace Go.Proofs.Ytfbedlhigggggaa.Sp
open Go Go.RowKit Go.Lib Go.Proofs.Ytfbedlhigggggaa Go.Proofs.Ytfbedlhigggggaa.Crw Go.Proofs.Ytfbedlhigggggaa.Vl Go.ChangeShapes Go.WideShapes Go.ChangeAt
set_option linter.unusedVariables false
set_option maxRecDepth 100000
theorem size_of_keep {w w' : World} {g : Nat} (h : ∀ b, b < w.heap.size → b ≠ g → w'.heap[b]? = w.heap[b]?) (hg : g + 1 < w.heap.size) : w.heap.size ≤ w'.heap.size := by
  have h1 := h (w.heap.size - 1) (by omega) (by omega)
  rw [Array.getElem?_eq_getElem (show w.heap.size - 1 < w.heap.size by omega)] at h1
  have := (Array.getElem?_eq_some_iff.1 h1).1
  omega
set_option maxHeartbeats 16000000 in
theorem parseMessage_any (k : Nat) (h1 : 1 ≤ k) (h2 : k ≤ 9) (Ad : Option Addr) (c0 : Nat) (ws : List ByteArray) (w : World) (hL : ws.length ≤ c0) (hc : c0 ≤ 1001) (hq : ∀ q ∈ ws, q.size ≤ 1000) (hs : Ws w Ad ws) :
    Calls Try.prog 25 #[.int .i64 k, .slice Ad ws.length c0] w (MsgPost w k ws) := by
  have hlet := flds_let k h1 h2
  have hlen := fldB_size k
  have hFl := fun wa => Fields_any k wa h1 h2
  obtain ⟨L, hLf⟩ : ∃ L, L = flds k := ⟨_, rfl⟩
  obtain ⟨s, hsf⟩ : ∃ s, s = fldB k := ⟨_, rfl⟩
  have hat : ∀ (j : Nat) (c : UInt8), L[j]? = some c → ∃ hj : j < s.size, s[j] = c := fun j c h => by subst hsf; rw [hLf] at h; exact fldB_at h
  rw [← hLf, ← hsf] at hlen
  rw [← hLf] at hlet
  rw [← hsf] at hFl
  have HLF := Lib.hid hLf
  obtain ⟨n, hn⟩ : ∃ n, n = s.size := ⟨_, rfl⟩
  obtain ⟨m0, hm0⟩ : ∃ m, m = ws.length := ⟨_, rfl⟩
  rw [← hm0] at hL ⊢
  have HN := Lib.hid hn
  have HLEN := Lib.hid hlen
  have HLET := Lib.hid hlet
  have HAT := Lib.hid hat
  have HM0 := Lib.hid hm0
  have HQ := Lib.hid hq
  have HS := Lib.hid hs
  have HK := Lib.hid (And.intro h1 h2)
  clear hlet hlen hat hn hLf hsf hm0 hq hs
  go_enter Try.func25, Try.ntmps25
  go_upto_region 1 with fail
  obtain ⟨g4, hg4⟩ : ∃ g, g = w.heap.size := ⟨_, rfl⟩
  obtain ⟨W1, hW1⟩ : ∃ W, W = w.alloc (.cells zs9 40) := ⟨_, rfl⟩
  rw [show w.alloc (.cells #[.int .i64 0, .string ⟨#[]⟩, .string ⟨#[]⟩, .string ⟨#[]⟩, .int .i64 0, .int .i64 0, .int .i64 0, .int .i64 0, .slice none 0 0] 40) = W1 from hW1.symm, ← hg4]
  have hb1 : Below w.heap.size w W1 := by rw [hW1]; exact (Below.refl _ _).alloc (Nat.le_refl _) _
  have hz1 : Blk W1 g4 40 zs9 := by rw [hW1, hg4]; exact Blk.new _ _ _
  have hs1 : W1.heap.size = g4 + 1 := by rw [hW1, hg4]; simp
  have HG4 := Lib.hid hg4
  have HB1 := Lib.hid hb1
  have HZ1 := Lib.hid hz1
  have HS1 := Lib.hid hs1
  clear hW1 hg4 hb1 hz1 hs1
  go_upto_region 2 with fail
  obtain ⟨g6, hg6⟩ : ∃ g, g = W1.heap.size := ⟨_, rfl⟩
  obtain ⟨W2, hW2⟩ : ∃ W, W = W1.alloc (.cells (mc (mg0 k) (.slice none 0 0)) 40) := ⟨_, rfl⟩
  rw [show W1.alloc (.cells #[.int .i64 k, .string ⟨#[]⟩, .string ⟨#[]⟩, .string ⟨#[]⟩, .int .i64 0, .int .i64 0, .int .i64 0, .int .i64 0, .slice none 0 0] 40) = W2 from hW2.symm, ← hg6]
  have hb2 : Below W1.heap.size W1 W2 := by rw [hW2]; exact (Below.refl _ _).alloc (Nat.le_refl _) _
  have hz2 := HZ1.out.below hb2 HZ1.out.lt
  have hx2 : Blk W2 g6 40 (mc (mg0 k) (.slice none 0 0)) := by rw [hW2, hg6]; exact Blk.new _ _ _
  have HB2 := Lib.hid (HB1.out.trans (hb2.mono HB1.out.size))
  have HZ2 := Lib.hid hz2
  have HX2 := Lib.hid hx2
  have HG6 := Lib.hid (show g6 = g4 + 1 by rw [hg6, HS1.out])
  clear hW2 hb2 hz2 hx2 hg6
  go_upto_block 0 with (go_at_call 32; refine (hFl _).mono ?_; rintro e w3 ⟨rfl, rfl⟩)
  obtain ⟨kI, hkI⟩ : ∃ g, g = w3.heap.size := ⟨_, rfl⟩
  obtain ⟨W3, hW3⟩ : ∃ W, W = w3.iter s 0 := ⟨_, rfl⟩
  rw [← hW3, ← hkI]
  have hb3 : Below w3.heap.size w3 W3 := by rw [hW3]; exact (Below.refl _ _).alloc (Nat.le_refl _) _
  have hz3 := HZ2.out.below hb3 HZ2.out.lt
  have hx3 := HX2.out.below hb3 HX2.out.lt
  have hi3 : W3.heap[kI]? = some (.stringIter s 0) := by rw [hW3, hkI]; exact World.iter_heap _ _ _
  have HZ3 := Lib.hid hz3
  have HX3 := Lib.hid hx3
  have HI3 := Lib.hid hi3
  have HB3 := Lib.hid (HB2.out.trans (hb3.mono HB2.out.size))
  have HKI := Lib.hid (show g6 < kI by rw [hkI]; exact HX2.out.lt)
  clear hW3 hb3 hz3 hx3 hi3 hkI hFl
  go_wp2_with fail
  go_loopw [1] (fun sv wr => Hid (∃ (j : Nat) (ws' : List ByteArray) (A' : Option Addr) (n' c' : Nat) (y : Mg) (u : Value), sv = .slice A' n' c' ∧ n' = ws'.length ∧ n' ≤ c' ∧ c' ≤ 1001 ∧ j ≤ n ∧ wr.heap[kI]? = some (.stringIter s j) ∧ Blk wr g6 40 (mc y u) ∧ (∃ zs, Blk wr g4 40 zs ∧ zs.size = 9) ∧ Ws wr A' ws' ∧ (∀ q ∈ ws', q.size ≤ 1000) ∧ (∀ g o, A' = some ⟨g, o, none⟩ → ws' ≠ [] → g < w.heap.size) ∧ MgP wr y u ∧ (∀ b, u.ownBlock = some b → kI < b) ∧ (73 ∉ L.take j → u = .slice none 0 0) ∧ y.k = k ∧ Below w.heap.size w wr ∧ fill k L (mg0 k) ws = fill k (L.drop j) y ws' ∧ ∃ w7, w7 = wr)) (fun _ wr => n - wr.iterPos kI)
  case atStart =>
    refine Lib.hid ⟨0, ws, Ad, m0, c0, mg0 k, .slice none 0 0, rfl, HM0.out, hL, hc, by omega, HI3.out, HX3.out, ⟨_, HZ3.out, rfl⟩, HS.out.below HB3.out, HQ.out, fun g o e hne => ?_, ⟨Its.nil _ _, rfl, HK.out, (show nob.size ≤ 1000 by decide), (show nob.size ≤ 1000 by decide), (show nob.size ≤ 1000 by decide), by simp [mg0], by simp [mg0], by simp [mg0]⟩, fun b hb => by simp [Value.ownBlock] at hb, fun _ => rfl, rfl, HB3.out, by simp, _, rfl⟩
    obtain ⟨g', o', e1, e2, _⟩ := HS.out hne
    rw [e] at e1
    injection e1 with e1
    injection e1 with e1 _
    rw [e1]
    exact e2
  case round =>
    obtain ⟨j, ws', A', n', c', y, u, rfl, hn', hnc', hc', hj, hi, hx, ⟨zs, hz, hzs⟩, hw', hq', hgb, hp, hub, hui, hyk, hbe, hfi, w7, hw7⟩ := hrel.out
    subst hw7
    clear hrel
    have HI := Lib.hid hi
    have HX := Lib.hid hx
    have HZ := Lib.hid hz
    have HZS := Lib.hid hzs
    have HW := Lib.hid hw'
    have HQ' := Lib.hid hq'
    have HGB := Lib.hid hgb
    have HP := Lib.hid hp
    have HUB := Lib.hid hub
    have HUI := Lib.hid hui
    have HYK := Lib.hid hyk
    have HBE := Lib.hid hbe
    have HFI := Lib.hid hfi
    have HN' := Lib.hid hn'
    clear hi hx hz hzs hw' hq' hgb hp hub hui hyk hbe hfi hn'
    by_cases hlt : j < n
    · obtain ⟨c, hcj⟩ : ∃ c, L[j]? = some c := ⟨L[j]'(by have := HN.out; have := HLEN.out; omega), List.getElem?_eq_getElem _⟩
      obtain ⟨hjs, hsc⟩ := HAT.out j c hcj
      have hcl := HLET.out c (List.mem_of_getElem? hcj)
      have hnx : ∀ ty, (Instr.next (.pointer (some ⟨kI, 0, none⟩)) true ty).run Try.prog w7 = .ok (.tuple #[.bool true, .int .i64 j, .int .i32 (c.toNat : Int)]) (w7.iterAt kI s (j + 1)) := fun ty => by
        have := run_next_ascii_at (P := Try.prog) w7 kI s j ty HI.out hjs (by rw [hsc]; exact let_small hcl)
        rw [hsc] at this
        exact this
      have hdr : L.drop j = c :: L.drop (j + 1) := by
        obtain ⟨e1, e2⟩ := List.getElem?_eq_some_iff.1 hcj
        rw [List.drop_eq_getElem_cons e1, e2]
      have HC := Lib.hid hcj
      have HDR := Lib.hid hdr
      clear hjs hsc hcj hdr
      go_upto_region 5 with fail
      obtain ⟨W8, hW8⟩ : ∃ W, W = w7.iterAt kI s (j + 1) := ⟨_, rfl⟩
      rw [← hW8]
      have hv8 : Vol (fun b => b = kI) w7 W8 := by rw [hW8]; exact ⟨rfl, rfl, rfl, by rw [iterAt_size]; exact Nat.le_refl _, fun b _ hb => iterAt_other w7 kI b s (j + 1) hb⟩
      have hi8 : W8.heap[kI]? = some (.stringIter s (j + 1)) := by rw [hW8]; exact iterAt_heap _ _ _ _ _ HI.out
      have hx8 : Blk W8 g6 40 (mc y u) := (hv8.block g6 HX.out.lt (by have := HKI.out; omega)).trans HX.out
      have hz8 : Blk W8 g4 40 zs := (hv8.block g4 HZ.out.lt (by have := HKI.out; have := HG6.out; omega)).trans HZ.out
      have hbe8 : Below w.heap.size w W8 := below_vol HBE.out hv8 (fun b e => by have := HKI.out; have := HG6.out; have := HG4.out; omega) HBE.out.size
      have hits8 : Its pw W8 u y.I := HP.out.its.keep hv8.size (fun b hb hlt => hv8.block b hlt (by have := HUB.out b hb; omega))
      have hws8 : Ws W8 A' ws' := fun hne => by
        obtain ⟨g, o, e1, e2, e3⟩ := HW.out hne
        have hgw := HGB.out g o e1 hne
        have := hv8.block g e2 (by have := HKI.out; have := HG6.out; have := HG4.out; omega)
        exact ⟨g, o, e1, Nat.lt_of_lt_of_le e2 hv8.size, fun i q hq => by have h4 := e3 i q hq; simpa [World.cell?, this] using h4⟩
      have HI8 := Lib.hid hi8
      have HX8 := Lib.hid hx8
      have HZ8 := Lib.hid hz8
      have HBE8 := Lib.hid hbe8
      have HITS8 := Lib.hid hits8
      have HWS8 := Lib.hid hws8
      clear hW8 hv8 hi8 hx8 hz8 hbe8 hits8 hws8 hnx
      by_cases h73 : c = 73
      · subst h73
        have hdI : fill k (L.drop j) y ws' = (itS k ws').bind fun l => fill k (L.drop (j + 1)) { y with I := l } [] := by rw [HDR.out]; rfl
        have HDI := Lib.hid hdI
        clear hdI
        have hPI : Calls Try.prog 33 #[.int .i64 k, .slice A' n' c'] W8 (ItPost W8 k ws') := by
          rw [HN'.out]
          by_cases hk1 : k = 1
          · rw [hk1]
            exact parseItemsR A' c' ws' W8 (by have := HN'.out; omega) (by have := HN'.out; omega) hc' HQ'.out HWS8.out
          · exact parseItemsA k hk1 HK.out.2 A' c' ws' W8 (by have := HN'.out; omega) HWS8.out
        cases hit : itS k ws' with
        | none =>
          have HIT := Lib.hid hit
          clear hit
          go_upto_region 7 with (go_at_call 33; refine hPI.mono ?_; rintro e w9 ⟨hb9, hp9⟩; rw [HIT.out] at hp9; obtain ⟨v9, rfl⟩ := hp9)
          have HBE9 := Lib.hid (HBE8.out.trans (hb9.mono HBE8.out.size))
          have HZ9 := Lib.hid (HZ8.out.below hb9 HZ8.out.lt)
          clear hb9 hPI
          go_upto_region 8 with fail
          have HZX := Lib.hid (HZ9.out)
          have HBX := Lib.hid (HBE9.out)
          repeat (first | (refine wpList_storeG 40 (cs := zs9) (by kernel_rfl) rfl rfl rfl rfl (by simp [Value.oneCell', zs9]) HZX.out HZS.out ?_; intro wz hbez hotz hkz) | go_step)
          refine Mark.intro ?_
          have HBZ := Lib.hid (hbez w (by have := HG4.out; omega) HBX.out)
          have HKZ := Lib.hid hkz
          clear hbez hotz hkz
          go_wp2_with fail
          refine bodyPost_ret (ret_cell2 rfl rfl HKZ.out Try.underlying40 rfl (by kernel_rfl)) rfl ⟨HBZ.out, ?_⟩
          rw [show msgS k ws = none from by unfold msgS; rw [← HLF.out, HFI.out, HDI.out, HIT.out]; rfl]
          rfl
        | some l =>
          have HIT := Lib.hid hit
          clear hit
          go_upto_region 7 with (go_at_call 33; refine hPI.mono ?_; rintro e w9 ⟨hb9, hp9⟩; rw [HIT.out] at hp9; obtain ⟨v9, rfl, ho9⟩ := hp9)
          have HBE9 := Lib.hid (HBE8.out.trans (hb9.mono HBE8.out.size))
          have HZ9 := Lib.hid (HZ8.out.below hb9 HZ8.out.lt)
          have hx9 := HX8.out.below hb9 HX8.out.lt
          have HX9 := Lib.hid hx9
          have HI9 := Lib.hid ((hb9.block kI (Array.getElem?_eq_some_iff.1 HI8.out).1).trans HI8.out)
          have HO9 := Lib.hid ho9
          have HKL := Lib.hid (show kI < W8.heap.size from (Array.getElem?_eq_some_iff.1 HI8.out).1)
          obtain ⟨A9, c9, rfl, -, -⟩ := own_slice ho9
          have hfr := hx9.frozen
          have a8 : w9.cell? ⟨g6, 8, none⟩ = some u := hx9.cell 8
          clear hb9 hPI ho9 hx9
          go_wp2_with fail
          obtain ⟨f1, f2, f3⟩ := itS_facts HIT.out HQ'.out
          have hlw : l.length ≤ 1001 := by have := HN'.out; omega
          refine ⟨?_, iterM hlt (set_other HI9.out (by have := HKI.out; omega)) HI.out⟩
          have hown : ∀ b, (Value.slice A9 l.length c9).ownBlock = some b → kI < b := fun b hb => by have := (HO9.out.lt b hb).1; have := HKL.out; omega
          refine Lib.hid ⟨j + 1, [], none, 0, 0, { y with I := l }, .slice A9 l.length c9, rfl, rfl, by omega, by omega, by omega, set_other HI9.out (by have := HKI.out; omega), HX9.out.set_ 8 _, ⟨_, HZ9.out.far (p := ⟨g6, 8, none⟩) (by have := HG6.out; show g4 ≠ g6; omega) _, HZS.out⟩, fun h => absurd rfl h, by simp, fun _ _ _ h => absurd rfl h, ⟨?_, rfl, HP.out.kd, HP.out.hF, HP.out.hE, HP.out.hT, hlw, f2, fun hk => f3 (by rw [← HYK.out]; exact hk)⟩, hown, fun h => ?_, HYK.out, HBE9.out.setCell (by show w.heap.size ≤ g6; have := HG6.out; have := HG4.out; omega) _, ?_, _, rfl⟩
          · refine (Its.of_own (φ := pw) (by rw [← itsV_F]; exact HO9.out)).keep (by simp) (fun b hb hlt2 => ?_)
            exact Below.heap_setCell _ _ _ _ (fun e => by have := hown b hb; have := HKI.out; have e' : b = g6 := e; omega)
          · exact absurd (by rw [List.take_add_one, HC.out]; simp) h
          · rw [HFI.out, HDI.out, HIT.out]
            rfl
      · have hc7 : c ∈ [(70 : UInt8), 69, 84, 78, 83, 85, 80] := by
          simp only [letS, List.mem_cons, List.not_mem_nil, or_false] at hcl ⊢
          rcases hcl with h | h | h | h | h | h | h | h <;> simp_all
        have hc73 : ((c.toNat : Int) == 73) = false := by
          rw [beq_eq_false_iff_ne]
          intro e
          exact h73 (UInt8.toNat_inj.1 (by have e2 : (73 : UInt8).toNat = 73 := rfl; omega))
        rcases ws' with _ | ⟨q, r⟩
        · have h0 : n' = 0 := HN'.out
          have HDI := Lib.hid (show fill k (L.drop j) y [] = none by rw [HDR.out, fill_no k c h73])
          subst h0
          clear hcl hc7
          go_upto_region 12 with fail
          have HZX := Lib.hid (HZ8.out)
          have HBX := Lib.hid (HBE8.out)
          repeat (first | (refine wpList_storeG 40 (cs := zs9) (by kernel_rfl) rfl rfl rfl rfl (by simp [Value.oneCell', zs9]) HZX.out HZS.out ?_; intro wz hbez hotz hkz) | go_step)
          refine Mark.intro ?_
          have HBZ := Lib.hid (hbez w (by have := HG4.out; omega) HBX.out)
          have HKZ := Lib.hid hkz
          clear hbez hotz hkz
          go_wp2_with fail
          refine bodyPost_ret (ret_cell2 rfl rfl HKZ.out Try.underlying40 rfl (by kernel_rfl)) rfl ⟨HBZ.out, ?_⟩
          rw [show msgS k ws = none from by unfold msgS; rw [← HLF.out, HFI.out, HDI.out]; rfl]
          rfl
        · have h0 : 0 < n' := by have := HN'.out; simp at this; omega
          have h0i : ((n' : Int) == 0) = false := by rw [beq_eq_false_iff_ne]; omega
          obtain ⟨gw, ow, rfl, hgw, hcw⟩ := HWS8.out (by simp)
          have hcw := hcw 0 q rfl
          have hcw : W8.cell? ⟨gw, ow, none⟩ = some (.string q) := hcw
          have hgwl := HGB.out gw ow rfl (by simp)
          have hSet := set_any y u c q g6 W8 hc7 (HQ'.out q (by simp)) HX8.out
          have HDI := Lib.hid (show fill k (L.drop j) y (q :: r) = (setM y c q).bind fun m' => fill k (L.drop (j + 1)) m' r by rw [HDR.out, fill_c k c h73])
          have HGWL := Lib.hid hgwl
          have HGW := Lib.hid hgw
          have HCL := Lib.hid hcl
          clear hcl hc7 hgw hgwl
          cases hm : setM y c q with
          | none =>
            have HM := Lib.hid hm
            clear hm
            go_upto_region 12 with (go_at_call 34; refine hSet.mono ?_; rintro e w9 ⟨hv9, hp9⟩; rw [HM.out] at hp9; obtain ⟨rfl, cs9, hx9, hxs9⟩ := hp9)
            have HBE9 := Lib.hid (below_vol HBE8.out hv9 (fun b e => by have := HG6.out; have := HG4.out; omega) HBE8.out.size)
            have HZ9 := Lib.hid (show Blk w9 g4 40 zs from (hv9.block g4 HZ8.out.lt (by have := HG6.out; omega)).trans HZ8.out)
            clear hv9 hx9 hxs9 hSet
            go_upto_region 12 with fail
            have HZX := Lib.hid (HZ9.out)
            have HBX := Lib.hid (HBE9.out)
            repeat (first | (refine wpList_storeG 40 (cs := zs9) (by kernel_rfl) rfl rfl rfl rfl (by simp [Value.oneCell', zs9]) HZX.out HZS.out ?_; intro wz hbez hotz hkz) | go_step)
            refine Mark.intro ?_
            have HBZ := Lib.hid (hbez w (by have := HG4.out; omega) HBX.out)
            have HKZ := Lib.hid hkz
            clear hbez hotz hkz
            go_wp2_with fail
            refine bodyPost_ret (ret_cell2 rfl rfl HKZ.out Try.underlying40 rfl (by kernel_rfl)) rfl ⟨HBZ.out, ?_⟩
            rw [show msgS k ws = none from by unfold msgS; rw [← HLF.out, HFI.out, HDI.out, HM.out]; rfl]
            rfl
          | some m' =>
            have HM := Lib.hid hm
            clear hm
            go_upto_region 13 with (go_at_call 34; refine hSet.mono ?_; rintro e w9 ⟨hv9, hp9⟩; rw [HM.out] at hp9; obtain ⟨rfl, hx9⟩ := hp9)
            have HBE9 := Lib.hid (below_vol HBE8.out hv9 (fun b e => by have := HG6.out; have := HG4.out; omega) HBE8.out.size)
            have HZ9 := Lib.hid (show Blk w9 g4 40 zs from (hv9.block g4 HZ8.out.lt (by have := HG6.out; omega)).trans HZ8.out)
            have HX9 := Lib.hid hx9
            have HI9 := Lib.hid ((hv9.block kI (Array.getElem?_eq_some_iff.1 HI8.out).1 (by have := HKI.out; omega)).trans HI8.out)
            have HITS9 := Lib.hid (HITS8.out.keep hv9.size (fun b hb hlt => hv9.block b hlt (by have := HUB.out b hb; have := HKI.out; omega)))
            have HWS9 := Lib.hid (HWS8.out.vol hv9 (fun g o e => by injection e with e; injection e with e _; have := HGWL.out; have := HG6.out; have := HG4.out; omega))
            clear hv9 hx9 hSet hcw
            have h0c : 0 < c' := by omega
            have h1n : (1 : Int) ≤ (n' : Int) := by omega
            have h1c : (1 : Int) ≤ (c' : Int) := by omega
            go_wp2_with fail
            refine ⟨?_, iterM hlt HI9.out HI.out⟩
            obtain ⟨k1, k2, _⟩ := setM_k HM.out
            obtain ⟨z1, z2, z3⟩ := setM_size HM.out
            have hqs := HQ'.out q (by simp)
            refine Lib.hid ⟨j + 1, r, _, n' - 1, c' - 1, m', u, rfl, by have := HN'.out; simp at this; omega, by omega, by omega, by omega, HI9.out, HX9.out, ⟨_, HZ9.out, HZS.out⟩, ?_, fun x hx => HQ'.out x (by simp [hx]), ?_, ⟨by rw [k2]; exact HITS9.out, HP.out.one, by rw [k1]; exact HP.out.kd, ?_, ?_, ?_, by rw [k2]; exact HP.out.hI, by rw [k2]; exact HP.out.hq, by rw [k1, k2]; exact HP.out.ask⟩, HUB.out, fun h => HUI.out (fun h' => h (by rw [List.take_add_one]; exact List.mem_append_left _ h')), by rw [k1]; exact HYK.out, HBE9.out, ?_, _, rfl⟩
            · refine HWS9.out.drop (n := 1) (by simp) (fun hne => ?_)
              rw [if_neg]
              intro e
              apply hne
              have := HN'.out
              simp at this
              exact List.eq_nil_of_length_eq_zero (by omega)
            · intro g o e _
              have : g = gw := by
                split at e
                · injection e with e; injection e with e _; exact e.symm
                · injection e with e; injection e with e _; exact e.symm
              rw [this]
              exact HGWL.out
            · rcases z1 with h | h <;> rw [h]
              · exact HP.out.hF
              · exact hqs
            · rcases z2 with h | h <;> rw [h]
              · exact HP.out.hE
              · exact hqs
            · rcases z3 with h | h <;> rw [h]
              · exact HP.out.hT
              · exact hqs
            · rw [HFI.out, HDI.out, HM.out]
              rfl
    · have hnx : ∀ ty, (Instr.next (.pointer (some ⟨kI, 0, none⟩)) true ty).run Try.prog w7 = .ok (.tuple #[.bool false]) w7 := fun ty => run_next_end_at (P := Try.prog) w7 kI s j ty HI.out (by have := HN.out; omega)
      have hdn : L.drop j = [] := List.drop_of_length_le (by have := HN.out; have := HLEN.out; omega)
      have htk : L.take j = L := List.take_of_length_le (by have := HN.out; have := HLEN.out; omega)
      have HDN := Lib.hid hdn
      have HTK := Lib.hid htk
      clear hdn htk
      rcases ws' with _ | ⟨q, r⟩
      · have h0 : n' = 0 := HN'.out
        subst h0
        have hFIL : FilP y u := fill_filP k HK.out.1 HK.out.2 ws y u (by rw [← HLF.out, HFI.out, HDN.out]; rfl) (by rw [← HLF.out]; intro h; exact HUI.out (by rw [HTK.out]; exact h))
        obtain ⟨a0, a1, a2, a3, a4, a5, a6, a7, a8⟩ := cells9 HX.out
        have hCk := Check_any y u w7 HP.out hFIL
        have HFIL := Lib.hid hFIL
        have HMS : Hid (msgS k ws = if chk y = true then some y else none) := by show _ = _; unfold msgS; rw [← HLF.out, HFI.out, HDN.out]; rfl
        clear hFIL
        cases hck : chk y with
        | false =>
          rw [hck] at hCk
          have HCK := Lib.hid hck
          clear hck
          go_upto_region 15 with (go_at_call 35; refine hCk.mono ?_; rintro e w9 ⟨rfl, hb9⟩; rw [if_neg (by decide)])
          have HBE9 := Lib.hid (HBE.out.trans (hb9.mono HBE.out.size))
          have HZ9 := Lib.hid (HZ.out.below hb9 HZ.out.lt)
          clear hb9 hCk
          go_upto_region 15 with fail
          have HZX := Lib.hid (HZ9.out)
          have HBX := Lib.hid (HBE9.out)
          repeat (first | (refine wpList_storeG 40 (cs := zs9) (by kernel_rfl) rfl rfl rfl rfl (by simp [Value.oneCell', zs9]) HZX.out HZS.out ?_; intro wz hbez hotz hkz) | go_step)
          refine Mark.intro ?_
          have HBZ := Lib.hid (hbez w (by have := HG4.out; omega) HBX.out)
          have HKZ := Lib.hid hkz
          clear hbez hotz hkz
          go_wp2_with fail
          refine bodyPost_ret (ret_cell2 rfl rfl HKZ.out Try.underlying40 rfl (by kernel_rfl)) rfl ⟨HBZ.out, ?_⟩
          rw [show msgS k ws = none from by have := HMS.out; rw [HCK.out] at this; exact this]
          rfl
        | true =>
          rw [hck] at hCk
          have HCK := Lib.hid hck
          clear hck
          go_upto_region 16 with (go_at_call 35; refine hCk.mono ?_; rintro e w9 ⟨rfl, hb9⟩; rw [if_pos rfl])
          have hx9 := HX.out.below hb9 HX.out.lt
          obtain ⟨d0, d1, d2, d3, d4, d5, d6, d7, d8⟩ := cells9 hx9
          have HBE9 := Lib.hid (HBE.out.trans (hb9.mono HBE.out.size))
          have HZ9 := Lib.hid (HZ.out.below hb9 HZ.out.lt)
          have HP9 := Lib.hid (HP.out.below hb9)
          have HX9 := Lib.hid hx9.lt
          have hu1 := HP.out.one
          have HUL := Lib.hid (show ∀ b, u.ownBlock = some b → b ≠ g4 from fun b hb => by have := HUB.out b hb; have := HKI.out; have := HG6.out; omega)
          clear hb9 hCk hx9 a0 a1 a2 a3 a4 a5 a6 a7 a8
          repeat (first | (refine wpList_storeG 40 (cs := mc y u) (by kernel_rfl) rfl rfl rfl rfl (mc_one hu1) HZ9.out HZS.out ?_; intro wz hbez hotz hkz) | go_step)
          refine Mark.intro ?_
          have HBZ := Lib.hid (hbez w (by have := HG4.out; omega) HBE9.out)
          have HKZ := Lib.hid hkz
          have HPZ := Lib.hid (show MgP wz y u from ⟨HP9.out.its.keep (size_of_keep hotz (by have := HX9.out; have := HG6.out; omega)) (fun b hb hlt => hotz b hlt (HUL.out b hb)), HP9.out.one, HP9.out.kd, HP9.out.hF, HP9.out.hE, HP9.out.hT, HP9.out.hI, HP9.out.hq, HP9.out.ask⟩)
          clear hbez hotz hkz
          go_wp2_with fail
          refine bodyPost_ret (ret_cell2 rfl rfl HKZ.out Try.underlying40 rfl (by kernel_rfl)) rfl ⟨HBZ.out, ?_⟩
          rw [show msgS k ws = some y from by have := HMS.out; rw [HCK.out] at this; exact this]
          exact ⟨u, rfl, HPZ.out, HFIL.out, fun b hb => by have := HUB.out b hb; have := HKI.out; have := HG6.out; have := HG4.out; omega⟩
      · have h0 : 0 < n' := by have := HN'.out; simp at this; omega
        have h0i : (0 : Int) < (n' : Int) := by omega
        have HDI := Lib.hid (show fill k L (mg0 k) ws = none by rw [HFI.out, HDN.out]; rfl)
        go_upto_region 15 with fail
        have HZX := Lib.hid (HZ.out)
        have HBX := Lib.hid (HBE.out)
        repeat (first | (refine wpList_storeG 40 (cs := zs9) (by kernel_rfl) rfl rfl rfl rfl (by simp [Value.oneCell', zs9]) HZX.out HZS.out ?_; intro wz hbez hotz hkz) | go_step)
        refine Mark.intro ?_
        have HBZ := Lib.hid (hbez w (by have := HG4.out; omega) HBX.out)
        have HKZ := Lib.hid hkz
        clear hbez hotz hkz
        go_wp2_with fail
        refine bodyPost_ret (ret_cell2 rfl rfl HKZ.out Try.underlying40 rfl (by kernel_rfl)) rfl ⟨HBZ.out, ?_⟩
        rw [show msgS k ws = none from by unfold msgS; rw [← HLF.out, HDI.out]; rfl]
        rfl
end Go.Proofs.Ytfbedlhigggggaa.Sp
