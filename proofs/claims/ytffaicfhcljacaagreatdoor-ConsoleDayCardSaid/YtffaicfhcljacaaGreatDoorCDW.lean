/- The walk of ConsoleDay, in stages. -/
import Derived.Test.YtffaicfhcljacaaGreatDoorCDW0
import Derived.Test.YtffaicfhcljacaaGreatDoorCDW1
import Derived.Test.YtffaicfhcljacaaGreatDoorCDW2
import Derived.Test.YtffaicfhcljacaaGreatDoorCDW3
import Derived.Test.YtffaicfhcljacaaGreatDoorCDW4
namespace Go.Proofs.YtffaicfhcljacaaGreatDoor.consoleDay
open Go Go.ChangeShapes Go.WideShapes Go.ChangeAt Go.RowKit Lit
set_option maxRecDepth 1000000
set_option linter.unusedVariables false

/-- What is known of the numbers. -/
def bds [Toks] : List (Nat × Nat × Nat) → Prop
  | [] => True
  | (t, lo, hi) :: r => (((lo : Nat) : Int) ≤ Toks.A t ∧ Toks.A t ≤ ((hi : Nat) : Int)) ∧ bds r
/-- From here on all is well. -/
def K (v : Nat) (l : List (Nat × Nat × Nat)) (f : List Value) (m : AHeap) (p : Pt) : Prop := ∀ [Toks] (W : World), CallOk Tryz.prog (cc v) ∧ CallMono (cc v) → bds l → ∀ a w, Stg 105 W (argsTr f 0 .nil) m a w → wpAt Tryz.prog fn bd W p a w
theorem st {v : Nat} {l : List (Nat × Nat × Nat)} {n : Nat} {p p2 : Pt} {f l2 : List Value} {m h2 : AHeap} {k0 : Nat} {s : Tr Nat} (hx : G v n p f m (Z p2 l2 h2 k0 s) = true) (H : K v l l2 h2 p2) : K v l f m p := fun W hc hb a w h => stage hc mixed hx (H W hc hb) a w h
theorem la {v : Nat} {l : List (Nat × Nat × Nat)} {n : Nat} {p : Pt} {f : List Value} {m : AHeap} (hx : G v n p f m E = true) : K v l f m p := fun W hc hb a w h => stage_last hc mixed hx a w h
theorem sp {v : Nat} {l l1 l2 : List (Nat × Nat × Nat)} {p : Pt} {f : List Value} {m : AHeap} {t lo mid hi : Nat} (hk : kindsOk m = true) (e1 : ∀ [Toks], bds l → ((lo : Nat) : Int) ≤ Toks.A t ∧ Toks.A t ≤ ((hi : Nat) : Int)) (e2 : ∀ [Toks], bds l → Toks.A t ≤ ((mid : Nat) : Int) → bds l1) (e3 : ∀ [Toks], bds l → (((mid + 1 : Nat)) : Int) ≤ Toks.A t → bds l2)
    (h1 : K v l1 (f.map (nrw2 t lo mid)) (nrwH t lo mid m) p) (h2 : K v l2 (f.map (nrw2 t (mid + 1) hi)) (nrwH t (mid + 1) hi m) p) : K v l f m p := fun W hc hb a w h =>
  if hh : Toks.A t ≤ ((mid : Nat) : Int) then h1 W hc (e2 hb hh) a w (h.narrow hk (e1 hb).1 hh)
  else h2 W hc (e3 hb (by omega)) a w (h.narrow hk (by omega) (e1 hb).2)
theorem n8000 : K 8 [] [.chan (some 0)] h0 (.sp 0) := la s8000
theorem n7000 : K 7 [] [.chan (some 0)] h0 (.sp 0) := la s7000
theorem n6000 : K 6 [] [.chan (some 0)] h0 (.sp 0) := la s6000
theorem n5000 : K 5 [] [.chan (some 0)] h0 (.sp 0) := la s5000
theorem n4000 : K 4 [] [.chan (some 0)] h0 (.sp 0) := la s4000
theorem n3000 : K 3 [] [.chan (some 0)] h0 (.sp 0) := la s3000
theorem n2000 : K 2 [] [.chan (some 0)] h0 (.sp 0) := la s2000
theorem n1000 : K 1 [] [.chan (some 0)] h0 (.sp 0) := la s1000
theorem n0 : K 0 [] [.chan (some 0)] h0 (.sp 0) := la s0
theorem walk (a0 : Int) (w : World) (b0 : -9223372036854775808 ≤ a0 ∧ a0 ≤ 9223372036854775807) :
    Calls Tryz.prog 8 #[.int .i64 a0] w fun e w' => e = .returned (.bool true) ∧ Below w.heap.size w w' := by
  letI : Toks := ⟨fun k => if k = 0 then a0 else if k = 100 then a0 % 9 else 0⟩
  obtain ⟨c0, g0, e0⟩ := cover_get (t := 100) (n := 9) (l := [(0, 0), (1, 1), (2, 2), (3, 3), (4, 4), (5, 5), (6, 6), (7, 7), (8, 8)]) (by kernel_rfl) (a := a0) (by decide) rfl
  simp only [List.mem_cons, List.not_mem_nil, or_false] at g0
  rcases g0 with rfl | rfl | rfl | rfl | rfl | rfl | rfl | rfl | rfl
  · skip
    have hok : ∀ q ∈ ents 0, (-9223372036854775808 ≤ Toks.A q.1 ∧ Toks.A q.1 ≤ 9223372036854775807) ∧ 1 ≤ (q.2.1 : Int) ∧ (q.2.1 : Int) ≤ 9223372036854775807 ∧ ∀ ρ : Ren, VR ρ (caseV q.2.2.1 (q.2.2.2.1, q.2.2.2.2)) (.int .i64 (Toks.A q.1 % (q.2.1 : Int))) := by
      intro q hq
      unfold ents at hq
      simp only [List.mem_cons, List.not_mem_nil, or_false] at hq
      subst hq
      exact ⟨b0, (by show (1 : Int) ≤ 9; decide), (by show (9 : Int) ≤ 9223372036854775807; decide), e0⟩
    have hcfg : CfgOk Tryz.prog (cfg 0) := by
      refine ⟨overW_ok (tabOf (ents 0)) (fun q hq => ?_) fun q hq => ?_, summJ_ok, summJ_mono⟩
      · obtain ⟨x, hx, rfl⟩ := List.mem_map.1 hq
        exact (hok x hx).1
      · obtain ⟨x, hx, rfl⟩ := List.mem_map.1 hq
        exact (hok x hx).2
    have hc := gcall_ok tabAll_ok (deep_ok hcfg mixed 3000).1 (deep_ok hcfg mixed 3000).2 60
    exact top_stage (fn := fn) (body := bd) rfl rfl rfl w (args := [.chan (some 0)]) (.cons (rfl) .nil) (nt := 105) (by decide) (n0 w hc trivial)
  · skip
    have hok : ∀ q ∈ ents 1, (-9223372036854775808 ≤ Toks.A q.1 ∧ Toks.A q.1 ≤ 9223372036854775807) ∧ 1 ≤ (q.2.1 : Int) ∧ (q.2.1 : Int) ≤ 9223372036854775807 ∧ ∀ ρ : Ren, VR ρ (caseV q.2.2.1 (q.2.2.2.1, q.2.2.2.2)) (.int .i64 (Toks.A q.1 % (q.2.1 : Int))) := by
      intro q hq
      unfold ents at hq
      simp only [List.mem_cons, List.not_mem_nil, or_false] at hq
      subst hq
      exact ⟨b0, (by show (1 : Int) ≤ 9; decide), (by show (9 : Int) ≤ 9223372036854775807; decide), e0⟩
    have hcfg : CfgOk Tryz.prog (cfg 1) := by
      refine ⟨overW_ok (tabOf (ents 1)) (fun q hq => ?_) fun q hq => ?_, summJ_ok, summJ_mono⟩
      · obtain ⟨x, hx, rfl⟩ := List.mem_map.1 hq
        exact (hok x hx).1
      · obtain ⟨x, hx, rfl⟩ := List.mem_map.1 hq
        exact (hok x hx).2
    have hc := gcall_ok tabAll_ok (deep_ok hcfg mixed 3000).1 (deep_ok hcfg mixed 3000).2 60
    exact top_stage (fn := fn) (body := bd) rfl rfl rfl w (args := [.chan (some 0)]) (.cons (rfl) .nil) (nt := 105) (by decide) (n1000 w hc trivial)
  · skip
    have hok : ∀ q ∈ ents 2, (-9223372036854775808 ≤ Toks.A q.1 ∧ Toks.A q.1 ≤ 9223372036854775807) ∧ 1 ≤ (q.2.1 : Int) ∧ (q.2.1 : Int) ≤ 9223372036854775807 ∧ ∀ ρ : Ren, VR ρ (caseV q.2.2.1 (q.2.2.2.1, q.2.2.2.2)) (.int .i64 (Toks.A q.1 % (q.2.1 : Int))) := by
      intro q hq
      unfold ents at hq
      simp only [List.mem_cons, List.not_mem_nil, or_false] at hq
      subst hq
      exact ⟨b0, (by show (1 : Int) ≤ 9; decide), (by show (9 : Int) ≤ 9223372036854775807; decide), e0⟩
    have hcfg : CfgOk Tryz.prog (cfg 2) := by
      refine ⟨overW_ok (tabOf (ents 2)) (fun q hq => ?_) fun q hq => ?_, summJ_ok, summJ_mono⟩
      · obtain ⟨x, hx, rfl⟩ := List.mem_map.1 hq
        exact (hok x hx).1
      · obtain ⟨x, hx, rfl⟩ := List.mem_map.1 hq
        exact (hok x hx).2
    have hc := gcall_ok tabAll_ok (deep_ok hcfg mixed 3000).1 (deep_ok hcfg mixed 3000).2 60
    exact top_stage (fn := fn) (body := bd) rfl rfl rfl w (args := [.chan (some 0)]) (.cons (rfl) .nil) (nt := 105) (by decide) (n2000 w hc trivial)
  · skip
    have hok : ∀ q ∈ ents 3, (-9223372036854775808 ≤ Toks.A q.1 ∧ Toks.A q.1 ≤ 9223372036854775807) ∧ 1 ≤ (q.2.1 : Int) ∧ (q.2.1 : Int) ≤ 9223372036854775807 ∧ ∀ ρ : Ren, VR ρ (caseV q.2.2.1 (q.2.2.2.1, q.2.2.2.2)) (.int .i64 (Toks.A q.1 % (q.2.1 : Int))) := by
      intro q hq
      unfold ents at hq
      simp only [List.mem_cons, List.not_mem_nil, or_false] at hq
      subst hq
      exact ⟨b0, (by show (1 : Int) ≤ 9; decide), (by show (9 : Int) ≤ 9223372036854775807; decide), e0⟩
    have hcfg : CfgOk Tryz.prog (cfg 3) := by
      refine ⟨overW_ok (tabOf (ents 3)) (fun q hq => ?_) fun q hq => ?_, summJ_ok, summJ_mono⟩
      · obtain ⟨x, hx, rfl⟩ := List.mem_map.1 hq
        exact (hok x hx).1
      · obtain ⟨x, hx, rfl⟩ := List.mem_map.1 hq
        exact (hok x hx).2
    have hc := gcall_ok tabAll_ok (deep_ok hcfg mixed 3000).1 (deep_ok hcfg mixed 3000).2 60
    exact top_stage (fn := fn) (body := bd) rfl rfl rfl w (args := [.chan (some 0)]) (.cons (rfl) .nil) (nt := 105) (by decide) (n3000 w hc trivial)
  · skip
    have hok : ∀ q ∈ ents 4, (-9223372036854775808 ≤ Toks.A q.1 ∧ Toks.A q.1 ≤ 9223372036854775807) ∧ 1 ≤ (q.2.1 : Int) ∧ (q.2.1 : Int) ≤ 9223372036854775807 ∧ ∀ ρ : Ren, VR ρ (caseV q.2.2.1 (q.2.2.2.1, q.2.2.2.2)) (.int .i64 (Toks.A q.1 % (q.2.1 : Int))) := by
      intro q hq
      unfold ents at hq
      simp only [List.mem_cons, List.not_mem_nil, or_false] at hq
      subst hq
      exact ⟨b0, (by show (1 : Int) ≤ 9; decide), (by show (9 : Int) ≤ 9223372036854775807; decide), e0⟩
    have hcfg : CfgOk Tryz.prog (cfg 4) := by
      refine ⟨overW_ok (tabOf (ents 4)) (fun q hq => ?_) fun q hq => ?_, summJ_ok, summJ_mono⟩
      · obtain ⟨x, hx, rfl⟩ := List.mem_map.1 hq
        exact (hok x hx).1
      · obtain ⟨x, hx, rfl⟩ := List.mem_map.1 hq
        exact (hok x hx).2
    have hc := gcall_ok tabAll_ok (deep_ok hcfg mixed 3000).1 (deep_ok hcfg mixed 3000).2 60
    exact top_stage (fn := fn) (body := bd) rfl rfl rfl w (args := [.chan (some 0)]) (.cons (rfl) .nil) (nt := 105) (by decide) (n4000 w hc trivial)
  · skip
    have hok : ∀ q ∈ ents 5, (-9223372036854775808 ≤ Toks.A q.1 ∧ Toks.A q.1 ≤ 9223372036854775807) ∧ 1 ≤ (q.2.1 : Int) ∧ (q.2.1 : Int) ≤ 9223372036854775807 ∧ ∀ ρ : Ren, VR ρ (caseV q.2.2.1 (q.2.2.2.1, q.2.2.2.2)) (.int .i64 (Toks.A q.1 % (q.2.1 : Int))) := by
      intro q hq
      unfold ents at hq
      simp only [List.mem_cons, List.not_mem_nil, or_false] at hq
      subst hq
      exact ⟨b0, (by show (1 : Int) ≤ 9; decide), (by show (9 : Int) ≤ 9223372036854775807; decide), e0⟩
    have hcfg : CfgOk Tryz.prog (cfg 5) := by
      refine ⟨overW_ok (tabOf (ents 5)) (fun q hq => ?_) fun q hq => ?_, summJ_ok, summJ_mono⟩
      · obtain ⟨x, hx, rfl⟩ := List.mem_map.1 hq
        exact (hok x hx).1
      · obtain ⟨x, hx, rfl⟩ := List.mem_map.1 hq
        exact (hok x hx).2
    have hc := gcall_ok tabAll_ok (deep_ok hcfg mixed 3000).1 (deep_ok hcfg mixed 3000).2 60
    exact top_stage (fn := fn) (body := bd) rfl rfl rfl w (args := [.chan (some 0)]) (.cons (rfl) .nil) (nt := 105) (by decide) (n5000 w hc trivial)
  · skip
    have hok : ∀ q ∈ ents 6, (-9223372036854775808 ≤ Toks.A q.1 ∧ Toks.A q.1 ≤ 9223372036854775807) ∧ 1 ≤ (q.2.1 : Int) ∧ (q.2.1 : Int) ≤ 9223372036854775807 ∧ ∀ ρ : Ren, VR ρ (caseV q.2.2.1 (q.2.2.2.1, q.2.2.2.2)) (.int .i64 (Toks.A q.1 % (q.2.1 : Int))) := by
      intro q hq
      unfold ents at hq
      simp only [List.mem_cons, List.not_mem_nil, or_false] at hq
      subst hq
      exact ⟨b0, (by show (1 : Int) ≤ 9; decide), (by show (9 : Int) ≤ 9223372036854775807; decide), e0⟩
    have hcfg : CfgOk Tryz.prog (cfg 6) := by
      refine ⟨overW_ok (tabOf (ents 6)) (fun q hq => ?_) fun q hq => ?_, summJ_ok, summJ_mono⟩
      · obtain ⟨x, hx, rfl⟩ := List.mem_map.1 hq
        exact (hok x hx).1
      · obtain ⟨x, hx, rfl⟩ := List.mem_map.1 hq
        exact (hok x hx).2
    have hc := gcall_ok tabAll_ok (deep_ok hcfg mixed 3000).1 (deep_ok hcfg mixed 3000).2 60
    exact top_stage (fn := fn) (body := bd) rfl rfl rfl w (args := [.chan (some 0)]) (.cons (rfl) .nil) (nt := 105) (by decide) (n6000 w hc trivial)
  · skip
    have hok : ∀ q ∈ ents 7, (-9223372036854775808 ≤ Toks.A q.1 ∧ Toks.A q.1 ≤ 9223372036854775807) ∧ 1 ≤ (q.2.1 : Int) ∧ (q.2.1 : Int) ≤ 9223372036854775807 ∧ ∀ ρ : Ren, VR ρ (caseV q.2.2.1 (q.2.2.2.1, q.2.2.2.2)) (.int .i64 (Toks.A q.1 % (q.2.1 : Int))) := by
      intro q hq
      unfold ents at hq
      simp only [List.mem_cons, List.not_mem_nil, or_false] at hq
      subst hq
      exact ⟨b0, (by show (1 : Int) ≤ 9; decide), (by show (9 : Int) ≤ 9223372036854775807; decide), e0⟩
    have hcfg : CfgOk Tryz.prog (cfg 7) := by
      refine ⟨overW_ok (tabOf (ents 7)) (fun q hq => ?_) fun q hq => ?_, summJ_ok, summJ_mono⟩
      · obtain ⟨x, hx, rfl⟩ := List.mem_map.1 hq
        exact (hok x hx).1
      · obtain ⟨x, hx, rfl⟩ := List.mem_map.1 hq
        exact (hok x hx).2
    have hc := gcall_ok tabAll_ok (deep_ok hcfg mixed 3000).1 (deep_ok hcfg mixed 3000).2 60
    exact top_stage (fn := fn) (body := bd) rfl rfl rfl w (args := [.chan (some 0)]) (.cons (rfl) .nil) (nt := 105) (by decide) (n7000 w hc trivial)
  · skip
    have hok : ∀ q ∈ ents 8, (-9223372036854775808 ≤ Toks.A q.1 ∧ Toks.A q.1 ≤ 9223372036854775807) ∧ 1 ≤ (q.2.1 : Int) ∧ (q.2.1 : Int) ≤ 9223372036854775807 ∧ ∀ ρ : Ren, VR ρ (caseV q.2.2.1 (q.2.2.2.1, q.2.2.2.2)) (.int .i64 (Toks.A q.1 % (q.2.1 : Int))) := by
      intro q hq
      unfold ents at hq
      simp only [List.mem_cons, List.not_mem_nil, or_false] at hq
      subst hq
      exact ⟨b0, (by show (1 : Int) ≤ 9; decide), (by show (9 : Int) ≤ 9223372036854775807; decide), e0⟩
    have hcfg : CfgOk Tryz.prog (cfg 8) := by
      refine ⟨overW_ok (tabOf (ents 8)) (fun q hq => ?_) fun q hq => ?_, summJ_ok, summJ_mono⟩
      · obtain ⟨x, hx, rfl⟩ := List.mem_map.1 hq
        exact (hok x hx).1
      · obtain ⟨x, hx, rfl⟩ := List.mem_map.1 hq
        exact (hok x hx).2
    have hc := gcall_ok tabAll_ok (deep_ok hcfg mixed 3000).1 (deep_ok hcfg mixed 3000).2 60
    exact top_stage (fn := fn) (body := bd) rfl rfl rfl w (args := [.chan (some 0)]) (.cons (rfl) .nil) (nt := 105) (by decide) (n8000 w hc trivial)
end Go.Proofs.YtffaicfhcljacaaGreatDoor.consoleDay
