/- The walk of PlayTasks, in stages. -/
import Derived.Test.YtffaicfhcljacaaGreatDoorPTW0
import Derived.Test.YtffaicfhcljacaaGreatDoorPTW1
import Derived.Test.YtffaicfhcljacaaGreatDoorPTW2
import Derived.Test.YtffaicfhcljacaaGreatDoorPTW3
import Derived.Test.YtffaicfhcljacaaGreatDoorPTW4
import Derived.Test.YtffaicfhcljacaaGreatDoorPTW5
import Derived.Test.YtffaicfhcljacaaGreatDoorPTW6
namespace Go.Proofs.YtffaicfhcljacaaGreatDoor.playTasks
open Go Go.ChangeShapes Go.WideShapes Go.ChangeAt Go.RowKit Lit
set_option maxRecDepth 1000000
set_option linter.unusedVariables false
theorem k1 : kindsOk m1 = true := by kernel_rfl
theorem k4 : kindsOk m4 = true := by kernel_rfl
theorem k7 : kindsOk m7 = true := by kernel_rfl
theorem k10 : kindsOk m10 = true := by kernel_rfl
theorem k13 : kindsOk m13 = true := by kernel_rfl
theorem k16 : kindsOk m16 = true := by kernel_rfl
theorem k19 : kindsOk m19 = true := by kernel_rfl

/-- What is known of the numbers. -/
def bds [Toks] : List (Nat × Nat × Nat) → Prop
  | [] => True
  | (t, lo, hi) :: r => (((lo : Nat) : Int) ≤ Toks.A t ∧ Toks.A t ≤ ((hi : Nat) : Int)) ∧ bds r
/-- From here on all is well. -/
def K (l : List (Nat × Nat × Nat)) (f : List Value) (m : AHeap) (p : Pt) : Prop := ∀ [Toks] (W : World), CallOk Tryz.prog cc ∧ CallMono cc → bds l → ∀ a w, Stg 134 W (argsTr f 0 .nil) m a w → wpAt Tryz.prog fn bd W p a w
theorem st {l : List (Nat × Nat × Nat)} {n : Nat} {p p2 : Pt} {f l2 : List Value} {m h2 : AHeap} {k0 : Nat} {s : Tr Nat} (hx : G n p f m (Z p2 l2 h2 k0 s) = true) (H : K l l2 h2 p2) : K l f m p := fun W hc hb a w h => stage hc mixed hx (H W hc hb) a w h
theorem la {l : List (Nat × Nat × Nat)} {n : Nat} {p : Pt} {f : List Value} {m : AHeap} (hx : G n p f m E = true) : K l f m p := fun W hc hb a w h => stage_last hc mixed hx a w h
theorem sp {l l1 l2 : List (Nat × Nat × Nat)} {p : Pt} {f : List Value} {m : AHeap} {t lo mid hi : Nat} (hk : kindsOk m = true) (e1 : ∀ [Toks], bds l → ((lo : Nat) : Int) ≤ Toks.A t ∧ Toks.A t ≤ ((hi : Nat) : Int)) (e2 : ∀ [Toks], bds l → Toks.A t ≤ ((mid : Nat) : Int) → bds l1) (e3 : ∀ [Toks], bds l → (((mid + 1 : Nat)) : Int) ≤ Toks.A t → bds l2)
    (h1 : K l1 (f.map (nrw2 t lo mid)) (nrwH t lo mid m) p) (h2 : K l2 (f.map (nrw2 t (mid + 1) hi)) (nrwH t (mid + 1) hi m) p) : K l f m p := fun W hc hb a w h =>
  if hh : Toks.A t ≤ ((mid : Nat) : Int) then h1 W hc (e2 hb hh) a w (h.narrow hk (e1 hb).1 hh)
  else h2 W hc (e3 hb (by omega)) a w (h.narrow hk (by omega) (e1 hb).2)
theorem n31 : K [(100,2,2), (101,0,1), (102,0,2), (103,0,4)] f31 m31 (.sp 21) := la s31
theorem n30 : K [(100,3,3), (101,0,1), (102,0,2), (103,0,4)] f30 m30 (.lp 19) := la s30
theorem n29 : K [(100,4,4), (101,0,1), (102,0,2), (103,0,4)] f29 m29 (.lp 9) := la s29
theorem n28 : K [(100,5,5), (101,0,1), (102,0,2), (103,0,4)] f28 m28 (.lp 19) := la s28
theorem n27 : K [(100,5,5), (101,0,1), (102,0,2), (103,0,4)] f27 m27 (.lp 9) := st s27 n28
theorem n26 : K [(100,6,6), (101,0,1), (102,0,2), (103,0,4)] f26 m26 (.lp 9) := la s26
theorem n25 : K [(100,6,6), (101,0,1), (102,0,2), (103,0,4)] f25 m25 (.lp 9) := st s25 n26
theorem n24 : K [(100,7,7), (101,0,1), (102,0,2), (103,0,4)] f24 m24 (.lp 19) := la s24
theorem n23 : K [(100,7,7), (101,0,1), (102,0,2), (103,0,4)] f23 m23 (.lp 9) := st s23 n24
theorem n22 : K [(100,7,7), (101,0,1), (102,0,2), (103,0,4)] f22 m22 (.lp 9) := st s22 n23
theorem n21 : K [(100,7,7), (101,0,1), (102,0,2), (103,0,4)] (f19.map (nrw2 100 7 7)) (nrwH 100 7 7 m19) (.lp 7) := st s21 n22
theorem n20 : K [(100,6,6), (101,0,1), (102,0,2), (103,0,4)] (f19.map (nrw2 100 6 6)) (nrwH 100 6 6 m19) (.lp 7) := st s20 n25
theorem n19 : K [(100,6,7), (101,0,1), (102,0,2), (103,0,4)] f19 m19 (.lp 7) := sp (mid := 6) k19 (by exact fun b => b.1) (by exact fun b h => ⟨⟨b.1.1, h⟩, b.2⟩) (by exact fun b h => ⟨⟨h, b.1.2⟩, b.2⟩) n20 n21
theorem n18 : K [(100,6,7), (101,0,1), (102,0,2), (103,0,4)] (f16.map (nrw2 100 6 7)) (nrwH 100 6 7 m16) (.lp 7) := st s18 n19
theorem n17 : K [(100,5,5), (101,0,1), (102,0,2), (103,0,4)] (f16.map (nrw2 100 5 5)) (nrwH 100 5 5 m16) (.lp 7) := st s17 n27
theorem n16 : K [(100,5,7), (101,0,1), (102,0,2), (103,0,4)] f16 m16 (.lp 7) := sp (mid := 5) k16 (by exact fun b => b.1) (by exact fun b h => ⟨⟨b.1.1, h⟩, b.2⟩) (by exact fun b h => ⟨⟨h, b.1.2⟩, b.2⟩) n17 n18
theorem n15 : K [(100,5,7), (101,0,1), (102,0,2), (103,0,4)] (f13.map (nrw2 100 5 7)) (nrwH 100 5 7 m13) (.lp 7) := st s15 n16
theorem n14 : K [(100,4,4), (101,0,1), (102,0,2), (103,0,4)] (f13.map (nrw2 100 4 4)) (nrwH 100 4 4 m13) (.lp 7) := st s14 n29
theorem n13 : K [(100,4,7), (101,0,1), (102,0,2), (103,0,4)] f13 m13 (.lp 7) := sp (mid := 4) k13 (by exact fun b => b.1) (by exact fun b h => ⟨⟨b.1.1, h⟩, b.2⟩) (by exact fun b h => ⟨⟨h, b.1.2⟩, b.2⟩) n14 n15
theorem n12 : K [(100,4,7), (101,0,1), (102,0,2), (103,0,4)] (f10.map (nrw2 100 4 7)) (nrwH 100 4 7 m10) (.lp 7) := st s12 n13
theorem n11 : K [(100,3,3), (101,0,1), (102,0,2), (103,0,4)] (f10.map (nrw2 100 3 3)) (nrwH 100 3 3 m10) (.lp 7) := st s11 n30
theorem n10 : K [(100,3,7), (101,0,1), (102,0,2), (103,0,4)] f10 m10 (.lp 7) := sp (mid := 3) k10 (by exact fun b => b.1) (by exact fun b h => ⟨⟨b.1.1, h⟩, b.2⟩) (by exact fun b h => ⟨⟨h, b.1.2⟩, b.2⟩) n11 n12
theorem n9 : K [(100,3,7), (101,0,1), (102,0,2), (103,0,4)] (f7.map (nrw2 100 3 7)) (nrwH 100 3 7 m7) (.lp 7) := st s9 n10
theorem n8 : K [(100,2,2), (101,0,1), (102,0,2), (103,0,4)] (f7.map (nrw2 100 2 2)) (nrwH 100 2 2 m7) (.lp 7) := st s8 n31
theorem n7 : K [(100,2,7), (101,0,1), (102,0,2), (103,0,4)] f7 m7 (.lp 7) := sp (mid := 2) k7 (by exact fun b => b.1) (by exact fun b h => ⟨⟨b.1.1, h⟩, b.2⟩) (by exact fun b h => ⟨⟨h, b.1.2⟩, b.2⟩) n8 n9
theorem n6 : K [(100,2,7), (101,0,1), (102,0,2), (103,0,4)] (f4.map (nrw2 100 2 7)) (nrwH 100 2 7 m4) (.lp 7) := st s6 n7
theorem n5 : K [(100,1,1), (101,0,1), (102,0,2), (103,0,4)] (f4.map (nrw2 100 1 1)) (nrwH 100 1 1 m4) (.lp 7) := la s5
theorem n4 : K [(100,1,7), (101,0,1), (102,0,2), (103,0,4)] f4 m4 (.lp 7) := sp (mid := 1) k4 (by exact fun b => b.1) (by exact fun b h => ⟨⟨b.1.1, h⟩, b.2⟩) (by exact fun b h => ⟨⟨h, b.1.2⟩, b.2⟩) n5 n6
theorem n3 : K [(100,1,7), (101,0,1), (102,0,2), (103,0,4)] (f1.map (nrw2 100 1 7)) (nrwH 100 1 7 m1) (.lp 7) := st s3 n4
theorem n2 : K [(100,0,0), (101,0,1), (102,0,2), (103,0,4)] (f1.map (nrw2 100 0 0)) (nrwH 100 0 0 m1) (.lp 7) := la s2
theorem n1 : K [(100,0,7), (101,0,1), (102,0,2), (103,0,4)] f1 m1 (.lp 7) := sp (mid := 0) k1 (by exact fun b => b.1) (by exact fun b h => ⟨⟨b.1.1, h⟩, b.2⟩) (by exact fun b h => ⟨⟨h, b.1.2⟩, b.2⟩) n2 n3
theorem n0 : K [(100,0,7), (101,0,1), (102,0,2), (103,0,4)] [.chan (some 0), .chan (some 1)] h0 (.sp 0) := st s0 n1
theorem walk (a0 : Int) (a1 : Int) (w : World) (b0 : -9223372036854775808 ≤ a0 ∧ a0 ≤ 9223372036854775807) (b1 : -9223372036854775808 ≤ a1 ∧ a1 ≤ 9223372036854775807) :
    Calls Tryz.prog 6 #[.int .i64 a0, .int .i64 a1] w fun e w' => e = .returned (.bool true) ∧ Below w.heap.size w w' := by
  letI : Toks := ⟨fun k => if k = 0 then a0 else if k = 1 then a1 else if k = 100 then a0 % 8 else if k = 101 then jitI 2 a1 else if k = 102 then jitI 4 a1 else if k = 103 then jitI 8 a1 else 0⟩
  obtain ⟨c0, g0, e0⟩ := cover_get (t := 100) (n := 8) (l := [(0, 7)]) (by kernel_rfl) (a := a0) (by decide) rfl
  simp only [List.mem_cons, List.not_mem_nil, or_false] at g0
  subst g0
  obtain ⟨c1, g1, e1⟩ := cover_jit (t := 101) (m := 2) (d := 2) (l := [(0, 1)]) (by kernel_rfl) (a := a1) (by decide) rfl
  simp only [List.mem_cons, List.not_mem_nil, or_false] at g1
  subst g1
  obtain ⟨c2, g2, e2⟩ := cover_jit (t := 102) (m := 3) (d := 4) (l := [(0, 2)]) (by kernel_rfl) (a := a1) (by decide) rfl
  simp only [List.mem_cons, List.not_mem_nil, or_false] at g2
  subst g2
  obtain ⟨c3, g3, e3⟩ := cover_jit (t := 103) (m := 5) (d := 8) (l := [(0, 4)]) (by kernel_rfl) (a := a1) (by decide) rfl
  simp only [List.mem_cons, List.not_mem_nil, or_false] at g3
  subst g3
  have hok : ∀ q ∈ ents, (-9223372036854775808 ≤ Toks.A q.1 ∧ Toks.A q.1 ≤ 9223372036854775807) ∧ (q.2.1 < 5000000 → 1 ≤ (q.2.1 : Int) ∧ (q.2.1 : Int) ≤ 9223372036854775807 ∧ ∀ ρ : Ren, VR ρ (caseV q.2.2.1 (q.2.2.2.1, q.2.2.2.2)) (.int .i64 (Toks.A q.1 % (q.2.1 : Int)))) ∧ (¬ q.2.1 < 5000000 → ∀ ρ : Ren, VR ρ (caseV q.2.2.1 (q.2.2.2.1, q.2.2.2.2)) (.int .i64 (jitI ((q.2.1 : Int) - 5000000) (Toks.A q.1)))) := by
    intro q hq
    unfold ents at hq
    simp only [List.mem_cons, List.not_mem_nil, or_false] at hq
    rcases hq with rfl | rfl | rfl | rfl
    · exact ⟨b0, (fun _ => ⟨(by show (1 : Int) ≤ 8; decide), (by show (8 : Int) ≤ 9223372036854775807; decide), e0⟩), fun h => absurd (by show (8 : Nat) < 5000000; decide) h⟩
    · exact ⟨b1, (fun h => absurd h (by show ¬ (5000002 : Nat) < 5000000; decide)), fun _ => by
        have e : ((5000002 : Nat) : Int) - 5000000 = 2 := by decide
        show ∀ ρ : Ren, VR ρ _ (.int .i64 (jitI (((5000002 : Nat) : Int) - 5000000) _))
        rw [e]
        exact e1⟩
    · exact ⟨b1, (fun h => absurd h (by show ¬ (5000004 : Nat) < 5000000; decide)), fun _ => by
        have e : ((5000004 : Nat) : Int) - 5000000 = 4 := by decide
        show ∀ ρ : Ren, VR ρ _ (.int .i64 (jitI (((5000004 : Nat) : Int) - 5000000) _))
        rw [e]
        exact e2⟩
    · exact ⟨b1, (fun h => absurd h (by show ¬ (5000008 : Nat) < 5000000; decide)), fun _ => by
        have e : ((5000008 : Nat) : Int) - 5000000 = 8 := by decide
        show ∀ ρ : Ren, VR ρ _ (.int .i64 (jitI (((5000008 : Nat) : Int) - 5000000) _))
        rw [e]
        exact e3⟩
  have hcfg : CfgOk Tryz.prog cfg := by
    refine ⟨overJ_ok (tabOf ents) (tabJ ents) (overW_ok (tabOf ents) (fun q hq => ?_) fun q hq => ?_) (fun q hq => ?_) (fun q hq => ?_), summAll_ok, summAll_mono⟩
    · obtain ⟨x, hx, he⟩ := List.mem_filterMap.1 hq
      by_cases hlt : x.2.1 < 5000000
      · rw [if_pos hlt] at he; cases he; exact (hok x hx).1
      · rw [if_neg hlt] at he; cases he
    · obtain ⟨x, hx, he⟩ := List.mem_filterMap.1 hq
      by_cases hlt : x.2.1 < 5000000
      · rw [if_pos hlt] at he; cases he; exact (hok x hx).2.1 hlt
      · rw [if_neg hlt] at he; cases he
    · obtain ⟨x, hx, he⟩ := List.mem_filterMap.1 hq
      by_cases hlt : x.2.1 < 5000000
      · rw [if_pos hlt] at he; cases he
      · rw [if_neg hlt] at he; cases he; exact (hok x hx).1.2
    · obtain ⟨x, hx, he⟩ := List.mem_filterMap.1 hq
      by_cases hlt : x.2.1 < 5000000
      · rw [if_pos hlt] at he; cases he
      · rw [if_neg hlt] at he; cases he; exact (hok x hx).2.2 hlt
  have h100 : ((0 : Nat) : Int) ≤ Toks.A 100 ∧ Toks.A 100 ≤ ((7 : Nat) : Int) := (e0 fun _ => none).2
  have h101 : ((0 : Nat) : Int) ≤ Toks.A 101 ∧ Toks.A 101 ≤ ((1 : Nat) : Int) := (e1 fun _ => none).2
  have h102 : ((0 : Nat) : Int) ≤ Toks.A 102 ∧ Toks.A 102 ≤ ((2 : Nat) : Int) := (e2 fun _ => none).2
  have h103 : ((0 : Nat) : Int) ≤ Toks.A 103 ∧ Toks.A 103 ≤ ((4 : Nat) : Int) := (e3 fun _ => none).2
  have hc := gcall_ok tabAll_ok (deep_ok hcfg mixed 3000).1 (deep_ok hcfg mixed 3000).2 60
  exact top_stage (fn := fn) (body := bd) rfl rfl rfl w (args := [.chan (some 0), .chan (some 1)]) (.cons (rfl) (.cons (rfl) .nil)) (nt := 134) (by decide) (n0 w hc ⟨h100, ⟨h101, ⟨h102, ⟨h103, trivial⟩⟩⟩⟩)
end Go.Proofs.YtffaicfhcljacaaGreatDoor.playTasks
