/- A log on a disk: the contract of Load, with the files told. -/
import Derived.Test.YtplmfmcogbdpjaaRecM
namespace Go.Proofs.Ytplmfmcogbdpjaa.Dk
open Go Go.RowKit Go.Proofs.Ytplmfmcogbdpjaa Go.Proofs.Ytplmfmcogbdpjaa.Crw Go.Proofs.Ytplmfmcogbdpjaa.Vl Go.ChangeShapes Go.WideShapes Go.ChangeAt
set_option linter.unusedVariables false
set_option maxRecDepth 100000
section
variable {w w' : World} {B d mb : Nat} {U V : Nat → Prop} {s s1 s2 : Ds} {F : List Fi}
def LoadPost2 (w : World) (B d mb : Nat) (V : Nat → Prop) (s : Ds) (F : List Fi) (bs : List Int) (r : Ending) (w' : World) : Prop :=
  ∃ (v : Value) (X : List (List Int)) (t : List Int) (F' : List Fi) (sy' : Nat) (fi' : Bool), r = .returned (.tuple #[v, .int .i64 0]) ∧ bs = catL X ++ t ∧ badL t ∧ (∀ x ∈ X, x.length ≤ 200) ∧ RwP w' w.heap.size v X ∧ DkP w' B d mb V { s with u := ((catL X).length : Nat) } F' ∧ isLog F' (catL X) sy' fi' ∧ F'.length = F.length ∧ sy' ≤ (catL X).length ∧ Vol V w w'
set_option maxHeartbeats 4000000 in
theorem Load2_ (H : DkP w B d mb V s F) {bs : List Int} {sy : Nat} {fi : Bool} (hF : isLog F bs sy fi) (hsy : sy ≤ bs.length) (hs : s.de = false ∧ s.fu = false) (hu : s.u = bs.length) (hbl : bs.length ≤ 65536) (hb : ∀ x ∈ bs, 0 ≤ x ∧ x ≤ 255) :
    Calls Try.prog 39 #[.pointer (some ⟨d, 0, none⟩), .string nmL] w fun r w' => LoadPost2 w B d mb V s F bs r w' := by
  rcases hF with ⟨rfl, rfl, rfl, rfl⟩ | ⟨g, v, rfl⟩
  · have hRd := Read_no H (p := nmL) (fun k x hx => by simp at hx)
    have hSc : ∀ w1, _ := fun (w1 : World) => Scan_ (w := w1) (B' := 0) (n := 0) (c := 0) (A := none) (l := []) ⟨by simp, fun h => absurd h (by omega)⟩ (Nat.zero_le _) (by omega) (Nat.le_refl _) (by omega) (fun x hx => by simp at hx)
    have HD := Lib.hid H
    have HU := Lib.hid hu
    clear H hu hbl hb hsy hs
    go_enter Try.func39, Try.ntmps39
    go_wp2_with fail
    refine hRd.mono ?_
    rintro r w1 ⟨rfl, hb1⟩
    have HB1 := Lib.hid hb1
    clear hRd hb1
    go_wp2_with fail
    refine (hSc w1).mono ?_
    rintro r w2 ⟨v, X, t, rfl, hl, hbad, hX, hrw, hb2⟩
    obtain ⟨e1, e2⟩ := List.append_eq_nil_iff.1 hl.symm
    rw [e1]
    have HE1 := Lib.hid e1
    have HX := Lib.hid (And.intro hl (And.intro hbad (And.intro hX (And.intro hrw hb2))))
    obtain ⟨Av, cv, rfl, -, -⟩ := hrw.shape
    clear hl hbad hX hrw hb2 e1 e2
    go_wp2_with fail
    go_ret2
    obtain ⟨hl, hbad, hX, hrw, hb2⟩ := HX.out
    have hz1 := HB1.out.size
    have hB12 : Below w.heap.size w w2 := HB1.out.trans (hb2.mono hz1)
    have hlo : RwP w2 w.heap.size (.slice Av X.length cv) X := by
      obtain ⟨vs, h1, h2⟩ := hrw
      exact ⟨vs, own_lo h1 hz1, fun i x hx => by obtain ⟨vi, h3, h4⟩ := h2 i x hx; exact ⟨vi, h3, own_lo h4 hz1⟩⟩
    refine ⟨_, X, t, [], 0, false, rfl, hl, hbad, hX, hlo, ?_, .inl ⟨rfl, HE1.out, rfl, rfl⟩, rfl, Nat.zero_le _, Vol.of_below hB12⟩
    have := HD.out.below hB12
    rw [HE1.out]
    have hu0 : s.u = 0 := HU.out
    obtain ⟨sq, su, sf, sl, sd⟩ := s
    simp only at hu0
    subst hu0
    exact this
  · have hRd := Read_yes H (p := nmL) (j := 0) rfl rfl hbl
    have hSc : ∀ (w1 : World) (A1 : Option Addr) (c1 : Nat), w1.ownsRow w.heap.size 5 1 (.slice A1 bs.length c1) bs.length (bsV bs) → bs.length ≤ c1 → (c1 : Int) ≤ 9223372036854775807 → _ := fun w1 A1 c1 ho h1 h2 => Scan_ (own_reads ho) (Nat.le_refl _) hbl h1 h2 hb
    have hCut : ∀ (w2 : World) (m : Nat), Below w.heap.size w w2 → m ≤ bs.length → _ := fun w2 m hb2 hm => Cut_yes (H.below hb2) (p := nmL) (j := 0) (n := m) rfl rfl nmL_ne hs hm hbl (by rw [hu]; omega)
    have HCut := Lib.hid hCut
    have HSc := Lib.hid hSc
    have HD := Lib.hid H
    have HU := Lib.hid hu
    have HSY := Lib.hid hsy
    have hVlt := Lib.hid H.lt
    clear H hu hb hs hSc hCut hsy
    obtain ⟨n, hn⟩ : ∃ n, n = bs.length := ⟨_, rfl⟩
    have HN := Lib.hid hn
    simp only [← hn] at hRd hbl
    clear hn
    go_enter Try.func39, Try.ntmps39
    go_wp2_with fail
    refine hRd.mono ?_
    rintro r w1 ⟨v1, rfl, ho1, hb1⟩
    obtain ⟨A1, c1, rfl, hc1, hc2⟩ := own_slice ho1
    have hSc := HSc.out w1 A1 c1 (HN.out ▸ ho1) (HN.out ▸ hc1) (by unfold maxLen at hc2; omega)
    rw [← HN.out] at hSc
    have HB1 := Lib.hid hb1
    clear hRd hb1 ho1 HSc hc1 hc2
    go_wp2_with fail
    refine hSc.mono ?_
    rintro r w2 ⟨v2, X, t, rfl, hl, hbad, hX, hrw, hb2⟩
    obtain ⟨m, hm⟩ : ∃ m, m = (catL X).length := ⟨_, rfl⟩
    rw [← hm]
    have hmn : m + t.length = n := by rw [HN.out, hl, List.length_append, hm]
    have hz1 := HB1.out.size
    have hB12 : Below w.heap.size w w2 := HB1.out.trans (hb2.mono hz1)
    have hlo : RwP w2 w.heap.size v2 X := by
      obtain ⟨vs, h1, h2⟩ := hrw
      exact ⟨vs, own_lo h1 hz1, fun i x hx => by obtain ⟨vi, h3, h4⟩ := h2 i x hx; exact ⟨vi, h3, own_lo h4 hz1⟩⟩
    obtain ⟨Av, cv, rfl, -, -⟩ := hrw.shape
    have HM := Lib.hid hm
    have HX := Lib.hid (And.intro hl (And.intro hbad (And.intro hX (And.intro hlo hB12))))
    clear hl hbad hX hrw hb2 hm hlo hB12 hSc
    by_cases ht : t = []
    · have hmn2 : m = n := by subst ht; simpa using hmn
      have HMN := Lib.hid hmn2
      have hlt : ¬ (m : Int) < (n : Int) := by omega
      clear hmn hmn2
      go_wp2_with fail
      go_ret2
      obtain ⟨hl, hbad, hX, hlo, hB12⟩ := HX.out
      have hbs : catL X = bs := by rw [hl, ht, List.append_nil]
      refine ⟨_, X, t, _, sy, fi, rfl, hl, hbad, hX, hlo, ?_, by rw [hbs]; exact .inr ⟨g, v, rfl⟩, rfl, by rw [hbs]; exact HSY.out, Vol.of_below hB12⟩
      have := HD.out.below hB12
      rw [hbs]
      have hu0 := HU.out
      obtain ⟨sq, su, sf, sl, sd⟩ := s
      simp only at hu0
      subst hu0
      exact this
    · have htl : 0 < t.length := List.length_pos_iff.2 ht
      have hlt : (m : Int) < (n : Int) := by omega
      have hmn3 : m ≤ bs.length := by have := HN.out; omega
      have hC := HCut.out w2 m HX.out.2.2.2.2 hmn3
      clear hmn HCut hmn3
      go_wp2_with fail
      refine hC.mono ?_
      rintro r w3 ⟨rfl, v3, hD3, hV3⟩
      clear hC
      have HD3 := Lib.hid hD3
      have HV3 := Lib.hid hV3
      clear hD3 hV3
      go_wp2_with fail
      go_ret2
      obtain ⟨hl, hbad, hX, hlo, hB12⟩ := HX.out
      have hbs : catL X = bs.take m := by rw [hl, HM.out, List.take_left]
      refine ⟨_, X, t, [⟨nmL, g, v3, bs.take m, m, true⟩], m, true, rfl, hl, hbad, hX, hlo.vol HV3.out (fun b hb hv => by have := hVlt.out b hv; omega), ?_, by rw [hbs]; exact .inr ⟨g, v3, rfl⟩, rfl, by rw [← HM.out]; exact Nat.le_refl _, (Vol.of_below hB12).trans HV3.out fun b hb => .inl hb⟩
      have := HD3.out
      have hu0 := HU.out
      obtain ⟨sq, su, sf, sl, sd⟩ := s
      simp only at hu0 this
      subst hu0
      rw [← HM.out]
      have e : (bs.length : Int) - ((bs.length : Int) - (m : Int)) = (m : Int) := by omega
      rw [e] at this
      exact this
end
end Go.Proofs.Ytplmfmcogbdpjaa.Dk
