/- The walk of ConsoleGroup, in stages. -/
import Derived.Test.YtffaicfhcljacaaGreatDoorCGW0
import Derived.Test.YtffaicfhcljacaaGreatDoorCGW1
namespace Go.Proofs.YtffaicfhcljacaaGreatDoor.consoleGroup
open Go Go.ChangeShapes Go.WideShapes Go.ChangeAt Go.RowKit Lit
set_option maxRecDepth 1000000
set_option linter.unusedVariables false
theorem k1 : kindsOk m1 = true := by kernel_rfl
theorem k3 : kindsOk (nrwH 100 1 2 m1) = true := by kernel_rfl

/-- What is known of the numbers. -/
def bds [Toks] : List (Nat × Nat × Nat) → Prop
  | [] => True
  | (t, lo, hi) :: r => (((lo : Nat) : Int) ≤ Toks.A t ∧ Toks.A t ≤ ((hi : Nat) : Int)) ∧ bds r
/-- From here on all is well. -/
def K (v : Nat) (l : List (Nat × Nat × Nat)) (f : List Value) (m : AHeap) (p : Pt) : Prop := ∀ [Toks] (W : World), CallOk Tryz.prog (cc v) ∧ CallMono (cc v) → bds l → ∀ a w, Stg 94 W (argsTr f 0 .nil) m a w → wpAt Tryz.prog fn bd W p a w
theorem st {v : Nat} {l : List (Nat × Nat × Nat)} {n : Nat} {p p2 : Pt} {f l2 : List Value} {m h2 : AHeap} {k0 : Nat} {s : Tr Nat} (hx : G v n p f m (Z p2 l2 h2 k0 s) = true) (H : K v l l2 h2 p2) : K v l f m p := fun W hc hb a w h => stage hc mixed hx (H W hc hb) a w h
theorem la {v : Nat} {l : List (Nat × Nat × Nat)} {n : Nat} {p : Pt} {f : List Value} {m : AHeap} (hx : G v n p f m E = true) : K v l f m p := fun W hc hb a w h => stage_last hc mixed hx a w h
theorem sp {v : Nat} {l l1 l2 : List (Nat × Nat × Nat)} {p : Pt} {f : List Value} {m : AHeap} {t lo mid hi : Nat} (hk : kindsOk m = true) (e1 : ∀ [Toks], bds l → ((lo : Nat) : Int) ≤ Toks.A t ∧ Toks.A t ≤ ((hi : Nat) : Int)) (e2 : ∀ [Toks], bds l → Toks.A t ≤ ((mid : Nat) : Int) → bds l1) (e3 : ∀ [Toks], bds l → (((mid + 1 : Nat)) : Int) ≤ Toks.A t → bds l2)
    (h1 : K v l1 (f.map (nrw2 t lo mid)) (nrwH t lo mid m) p) (h2 : K v l2 (f.map (nrw2 t (mid + 1) hi)) (nrwH t (mid + 1) hi m) p) : K v l f m p := fun W hc hb a w h =>
  if hh : Toks.A t ≤ ((mid : Nat) : Int) then h1 W hc (e2 hb hh) a w (h.narrow hk (e1 hb).1 hh)
  else h2 W hc (e3 hb (by omega)) a w (h.narrow hk (by omega) (e1 hb).2)
theorem n5 : K 0 [(100,2,2)] ((f1.map (nrw2 100 1 2)).map (nrw2 100 2 2)) (nrwH 100 2 2 (nrwH 100 1 2 m1)) (.sp 5) := la s5
theorem n4 : K 0 [(100,1,1)] ((f1.map (nrw2 100 1 2)).map (nrw2 100 1 1)) (nrwH 100 1 1 (nrwH 100 1 2 m1)) (.sp 5) := la s4
theorem n3 : K 0 [(100,1,2)] (f1.map (nrw2 100 1 2)) (nrwH 100 1 2 m1) (.sp 5) := sp (mid := 1) k3 (by exact fun b => b.1) (by exact fun b h => ⟨⟨b.1.1, h⟩, b.2⟩) (by exact fun b h => ⟨⟨h, b.1.2⟩, b.2⟩) n4 n5
theorem n2 : K 0 [(100,0,0)] (f1.map (nrw2 100 0 0)) (nrwH 100 0 0 m1) (.sp 5) := la s2
theorem n1 : K 0 [(100,0,2)] f1 m1 (.sp 5) := sp (mid := 0) k1 (by exact fun b => b.1) (by exact fun b h => ⟨⟨b.1.1, h⟩, b.2⟩) (by exact fun b h => ⟨⟨h, b.1.2⟩, b.2⟩) n2 n3
theorem n0 : K 0 [(100,0,2)] [.chan (some 0)] h0 (.sp 0) := st s0 n1
theorem walk (a0 : Int) (w : World) (b0 : -9223372036854775808 ≤ a0 ∧ a0 ≤ 9223372036854775807) :
    Calls Tryz.prog 9 #[.int .i64 a0] w fun e w' => e = .returned (.bool true) ∧ Below w.heap.size w w' := by
  letI : Toks := ⟨fun k => if k = 0 then a0 else if k = 100 then a0 % 3 else 0⟩
  obtain ⟨c0, g0, e0⟩ := cover_get (t := 100) (n := 3) (l := [(0, 2)]) (by kernel_rfl) (a := a0) (by decide) rfl
  simp only [List.mem_cons, List.not_mem_nil, or_false] at g0
  subst g0
  have hok : ∀ q ∈ ents 0, (-9223372036854775808 ≤ Toks.A q.1 ∧ Toks.A q.1 ≤ 9223372036854775807) ∧ 1 ≤ (q.2.1 : Int) ∧ (q.2.1 : Int) ≤ 9223372036854775807 ∧ ∀ ρ : Ren, VR ρ (caseV q.2.2.1 (q.2.2.2.1, q.2.2.2.2)) (.int .i64 (Toks.A q.1 % (q.2.1 : Int))) := by
    intro q hq
    unfold ents at hq
    simp only [List.mem_cons, List.not_mem_nil, or_false] at hq
    subst hq
    exact ⟨b0, (by show (1 : Int) ≤ 3; decide), (by show (3 : Int) ≤ 9223372036854775807; decide), e0⟩
  have hcfg : CfgOk Tryz.prog (cfg 0) := by
    refine ⟨overW_ok (tabOf (ents 0)) (fun q hq => ?_) fun q hq => ?_, summJ_ok, summJ_mono⟩
    · obtain ⟨x, hx, rfl⟩ := List.mem_map.1 hq
      exact (hok x hx).1
    · obtain ⟨x, hx, rfl⟩ := List.mem_map.1 hq
      exact (hok x hx).2
  have h100 : ((0 : Nat) : Int) ≤ Toks.A 100 ∧ Toks.A 100 ≤ ((2 : Nat) : Int) := (e0 fun _ => none).2
  have hc := gcall_ok tabAll_ok (deep_ok hcfg mixed 3000).1 (deep_ok hcfg mixed 3000).2 60
  exact top_stage (fn := fn) (body := bd) rfl rfl rfl w (args := [.chan (some 0)]) (.cons (rfl) .nil) (nt := 94) (by decide) (n0 w hc ⟨h100, trivial⟩)
end Go.Proofs.YtffaicfhcljacaaGreatDoor.consoleGroup
