/- Rec9 RecF RecS RecT RecU: merged texts. -/
import Derived.Test.YtplmfmcogbdpjaaRecM
import Derived.Test.YtplmfmcogbdpjaaLendR
namespace Go.Proofs.Ytplmfmcogbdpjaa.Dk
open Go Go.RowKit Go.Proofs.Ytplmfmcogbdpjaa Go.Proofs.Ytplmfmcogbdpjaa.Crw Go.Proofs.Ytplmfmcogbdpjaa.Vl Go.ChangeShapes Go.WideShapes Go.ChangeAt
set_option linter.unusedVariables false
set_option maxRecDepth 100000
section
variable {w w' : World} {B d mb : Nat} {U V : Nat → Prop} {s s1 s2 : Ds} {F : List Fi}
def LoadPost2 (w : World) (B d mb : Nat) (V : Nat → Prop) (s : Ds) (F : List Fi) (bs : List Int) (r : Ending) (w' : World) : Prop :=
  ∃ (v : Value) (X : List (List Int)) (t : List Int) (F' : List Fi) (sy' : Nat) (fi' : Bool), r = .returned (.tuple #[v, .int .i64 0]) ∧ bs = catL X ++ t ∧ badL t ∧ (∀ x ∈ X, x.length ≤ 200) ∧ RwP w' w.heap.size v X ∧ DkP w' B d mb V { s with u := ((catL X).length : Nat) } F' ∧ isLog F' (catL X) sy' fi' ∧ F'.length = F.length ∧ sy' ≤ (catL X).length ∧ Vol V w w'
set_option maxHeartbeats 4000000 in
theorem Load2_ (H : DkP w B d mb V s F) {bs : List Int} {sy : Nat} {fi : Bool} (hF : isLog F bs sy fi) (hsy : sy ≤ bs.length) (hs : s.de = false ∧ s.fu = false) (hu : s.u = bs.length) (hbl : bs.length ≤ 65536) (hb : ∀ x ∈ bs, 0 ≤ x ∧ x ≤ 255) :
    Calls Try.prog 39 #[.pointer (some ⟨d, 0, none⟩), .string nmL] w fun r w' => LoadPost2 w B d mb V s F bs r w' := by
  rcases hF with ⟨rfl, rfl, rfl, rfl⟩ | ⟨g, v, rfl⟩
  · have hRd := Read_no H (p := nmL) (fun k x hx => by simp at hx)
    have hSc : ∀ w1, _ := fun (w1 : World) => Scan_ (w := w1) (B' := 0) (n := 0) (c := 0) (A := none) (l := []) ⟨by simp, fun h => absurd h (by omega)⟩ (Nat.zero_le _) (by omega) (Nat.le_refl _) (by omega) (fun x hx => by simp at hx)
    have HD := Lib.hid H
    have HU := Lib.hid hu
    clear H hu hbl hb hsy hs
    go_enter Try.func39, Try.ntmps39
    go_wp2_with fail
    refine hRd.mono ?_
    rintro r w1 ⟨rfl, hb1⟩
    have HB1 := Lib.hid hb1
    clear hRd hb1
    go_wp2_with fail
    refine (hSc w1).mono ?_
    rintro r w2 ⟨v, X, t, rfl, hl, hbad, hX, hrw, hb2⟩
    obtain ⟨e1, e2⟩ := List.append_eq_nil_iff.1 hl.symm
    rw [e1]
    have HE1 := Lib.hid e1
    have HX := Lib.hid (And.intro hl (And.intro hbad (And.intro hX (And.intro hrw hb2))))
    obtain ⟨Av, cv, rfl, -, -⟩ := hrw.shape
    clear hl hbad hX hrw hb2 e1 e2
    go_wp2_with fail
    go_ret2
    obtain ⟨hl, hbad, hX, hrw, hb2⟩ := HX.out
    have hz1 := HB1.out.size
    have hB12 : Below w.heap.size w w2 := HB1.out.trans (hb2.mono hz1)
    have hlo : RwP w2 w.heap.size (.slice Av X.length cv) X := by
      obtain ⟨vs, h1, h2⟩ := hrw
      exact ⟨vs, own_lo h1 hz1, fun i x hx => by obtain ⟨vi, h3, h4⟩ := h2 i x hx; exact ⟨vi, h3, own_lo h4 hz1⟩⟩
    refine ⟨_, X, t, [], 0, false, rfl, hl, hbad, hX, hlo, ?_, .inl ⟨rfl, HE1.out, rfl, rfl⟩, rfl, Nat.zero_le _, Vol.of_below hB12⟩
    have := HD.out.below hB12
    rw [HE1.out]
    have hu0 : s.u = 0 := HU.out
    obtain ⟨sq, su, sf, sl, sd⟩ := s
    simp only at hu0
    subst hu0
    exact this
  · have hRd := Read_yes H (p := nmL) (j := 0) rfl rfl hbl
    have hSc : ∀ (w1 : World) (A1 : Option Addr) (c1 : Nat), w1.ownsRow w.heap.size 5 1 (.slice A1 bs.length c1) bs.length (bsV bs) → bs.length ≤ c1 → (c1 : Int) ≤ 9223372036854775807 → _ := fun w1 A1 c1 ho h1 h2 => Scan_ (own_reads ho) (Nat.le_refl _) hbl h1 h2 hb
    have hCut : ∀ (w2 : World) (m : Nat), Below w.heap.size w w2 → m ≤ bs.length → _ := fun w2 m hb2 hm => Cut_yes (H.below hb2) (p := nmL) (j := 0) (n := m) rfl rfl nmL_ne hs hm hbl (by rw [hu]; omega)
    have HCut := Lib.hid hCut
    have HSc := Lib.hid hSc
    have HD := Lib.hid H
    have HU := Lib.hid hu
    have HSY := Lib.hid hsy
    have hVlt := Lib.hid H.lt
    clear H hu hb hs hSc hCut hsy
    obtain ⟨n, hn⟩ : ∃ n, n = bs.length := ⟨_, rfl⟩
    have HN := Lib.hid hn
    simp only [← hn] at hRd hbl
    clear hn
    go_enter Try.func39, Try.ntmps39
    go_wp2_with fail
    refine hRd.mono ?_
    rintro r w1 ⟨v1, rfl, ho1, hb1⟩
    obtain ⟨A1, c1, rfl, hc1, hc2⟩ := own_slice ho1
    have hSc := HSc.out w1 A1 c1 (HN.out ▸ ho1) (HN.out ▸ hc1) (by unfold maxLen at hc2; omega)
    rw [← HN.out] at hSc
    have HB1 := Lib.hid hb1
    clear hRd hb1 ho1 HSc hc1 hc2
    go_wp2_with fail
    refine hSc.mono ?_
    rintro r w2 ⟨v2, X, t, rfl, hl, hbad, hX, hrw, hb2⟩
    obtain ⟨m, hm⟩ : ∃ m, m = (catL X).length := ⟨_, rfl⟩
    rw [← hm]
    have hmn : m + t.length = n := by rw [HN.out, hl, List.length_append, hm]
    have hz1 := HB1.out.size
    have hB12 : Below w.heap.size w w2 := HB1.out.trans (hb2.mono hz1)
    have hlo : RwP w2 w.heap.size v2 X := by
      obtain ⟨vs, h1, h2⟩ := hrw
      exact ⟨vs, own_lo h1 hz1, fun i x hx => by obtain ⟨vi, h3, h4⟩ := h2 i x hx; exact ⟨vi, h3, own_lo h4 hz1⟩⟩
    obtain ⟨Av, cv, rfl, -, -⟩ := hrw.shape
    have HM := Lib.hid hm
    have HX := Lib.hid (And.intro hl (And.intro hbad (And.intro hX (And.intro hlo hB12))))
    clear hl hbad hX hrw hb2 hm hlo hB12 hSc
    by_cases ht : t = []
    · have hmn2 : m = n := by subst ht; simpa using hmn
      have HMN := Lib.hid hmn2
      have hlt : ¬ (m : Int) < (n : Int) := by omega
      clear hmn hmn2
      go_wp2_with fail
      go_ret2
      obtain ⟨hl, hbad, hX, hlo, hB12⟩ := HX.out
      have hbs : catL X = bs := by rw [hl, ht, List.append_nil]
      refine ⟨_, X, t, _, sy, fi, rfl, hl, hbad, hX, hlo, ?_, by rw [hbs]; exact .inr ⟨g, v, rfl⟩, rfl, by rw [hbs]; exact HSY.out, Vol.of_below hB12⟩
      have := HD.out.below hB12
      rw [hbs]
      have hu0 := HU.out
      obtain ⟨sq, su, sf, sl, sd⟩ := s
      simp only at hu0
      subst hu0
      exact this
    · have htl : 0 < t.length := List.length_pos_iff.2 ht
      have hlt : (m : Int) < (n : Int) := by omega
      have hmn3 : m ≤ bs.length := by have := HN.out; omega
      have hC := HCut.out w2 m HX.out.2.2.2.2 hmn3
      clear hmn HCut hmn3
      go_wp2_with fail
      refine hC.mono ?_
      rintro r w3 ⟨rfl, v3, hD3, hV3⟩
      clear hC
      have HD3 := Lib.hid hD3
      have HV3 := Lib.hid hV3
      clear hD3 hV3
      go_wp2_with fail
      go_ret2
      obtain ⟨hl, hbad, hX, hlo, hB12⟩ := HX.out
      have hbs : catL X = bs.take m := by rw [hl, HM.out, List.take_left]
      refine ⟨_, X, t, [⟨nmL, g, v3, bs.take m, m, true⟩], m, true, rfl, hl, hbad, hX, hlo.vol HV3.out (fun b hb hv => by have := hVlt.out b hv; omega), ?_, by rw [hbs]; exact .inr ⟨g, v3, rfl⟩, rfl, by rw [← HM.out]; exact Nat.le_refl _, (Vol.of_below hB12).trans HV3.out fun b hb => .inl hb⟩
      have := HD3.out
      have hu0 := HU.out
      obtain ⟨sq, su, sf, sl, sd⟩ := s
      simp only at hu0 this
      subst hu0
      rw [← HM.out]
      have e : (bs.length : Int) - ((bs.length : Int) - (m : Int)) = (m : Int) := by omega
      rw [e] at this
      exact this
end
end Go.Proofs.Ytplmfmcogbdpjaa.Dk
namespace Go.Proofs.Ytplmfmcogbdpjaa.Dk
open Go Go.RowKit Go.Proofs.Ytplmfmcogbdpjaa Go.Proofs.Ytplmfmcogbdpjaa.Crw Go.Proofs.Ytplmfmcogbdpjaa.Vl Go.ChangeShapes Go.WideShapes Go.ChangeAt
set_option linter.unusedVariables false
set_option maxRecDepth 100000
abbrev intsF (l : List Int) : List Value := l.map (Value.int .i64)
def endsL (W : List (List Int)) : List Int := (List.range W.length).map fun i => ((catL (W.take (i + 1))).length : Int)
theorem endsL_len (W : List (List Int)) : (endsL W).length = W.length := by simp [endsL]
theorem endsL_snoc (W : List (List Int)) (y : List Int) : endsL (W ++ [y]) = endsL W ++ [((catL (W ++ [y])).length : Int)] := by
  unfold endsL
  rw [List.length_append, List.length_singleton, List.range_succ, List.map_append]
  congr 1
  · refine List.map_congr_left fun i hi => ?_
    have := List.mem_range.1 hi
    rw [List.take_append_of_le_length (by omega)]
  · simp only [List.map_cons, List.map_nil]
    rw [List.take_of_length_le (by simp)]
theorem endsL_get {W : List (List Int)} {i : Nat} (h : i < W.length) : (endsL W)[i]? = some ((catL (W.take (i + 1))).length : Int) := by
  simp [endsL, List.getElem?_map, List.getElem?_range h]
theorem catL_take_le (W : List (List Int)) (i : Nat) : (catL (W.take i)).length ≤ (catL W).length := by
  conv => rhs; rw [← List.take_append_drop i W]
  rw [catL_app, List.length_append]
  omega
/-- What is cut within a record: those ahead of it are whole. -/
theorem cut_at {W : List (List Int)} {j K : Nat} (hj : j ≤ W.length) (h1 : (catL (W.take j)).length ≤ K) (h2 : (j = W.length ∧ K ≤ (catL W).length) ∨ (j < W.length ∧ K < (catL (W.take (j + 1))).length)) :
    ∃ s, (catL W).take K = catL (W.take j) ++ s ∧ badL s := by
  have hs : (catL W).take K = catL (W.take j) ++ (catL (W.drop j)).take (K - (catL (W.take j)).length) := by
    conv => lhs; rw [← List.take_append_drop j W]
    rw [catL_app, List.take_append, List.take_of_length_le h1]
  refine ⟨_, hs, ?_⟩
  rcases h2 with ⟨rfl, h3⟩ | ⟨h3, h4⟩
  · rw [List.drop_of_length_le (Nat.le_refl _)]
    simp [catL, badL_nil]
  · obtain ⟨y, hy⟩ : ∃ y, W[j]? = some y := ⟨_, List.getElem?_eq_getElem h3⟩
    have hd : W.drop j = y :: W.drop (j + 1) := by
      rw [List.drop_eq_getElem_cons h3]
      rw [List.getElem?_eq_getElem h3] at hy
      injection hy with hy
      rw [hy]
    rw [List.take_add_one, hy] at h4
    simp only [Option.toList_some, catL_snoc, List.length_append] at h4
    rw [hd, catL_cons, List.take_append_of_le_length (by omega)]
    refine bad_cut (y := y) (t := (packL y).drop (K - (catL (W.take j)).length)) (List.take_append_drop _ _) (fun e => ?_)
    have := congrArg List.length e
    rw [List.length_drop] at this
    simp only [List.length_nil] at this
    omega
/-- A record whose end is spoilt is none. -/
theorem bad_spoilt {x r : List Int} : badL ((packL x ++ r).set (x.length + 1) 166) := by
  have e : (packL x ++ r).set (x.length + 1) 166 = (x.length : Int) :: ((x ++ [166]) ++ r) := by
    unfold packL
    simp only [List.cons_append, List.set_cons_succ, List.append_assoc]
    rw [List.set_append_right _ _ (Nat.le_refl _)]
    simp
  rw [e]
  exact bad_of (.inr (.inr ⟨x.length, rfl, 166, by simp, by decide⟩))
theorem scan_bad {X : List (List Int)} {l t : List Int} (hX : ∀ x ∈ X, x.length ≤ 200) (hb : badL l) (ht : badL t) (h : l = catL X ++ t) : X = [] :=
  (scan_uniq (X := []) (s := l) (fun x hx => by simp at hx) hX hb ht (by rw [catL_nil, List.nil_append]; exact h)).1.symm
section
variable {w w' w3 : World} {B d mb lo : Nat} {U V V' : Nat → Prop} {v v3 vi u : Value} {X Y W : List (List Int)} {x : List Int} {vs : List Value}
theorem RwV.other {n : Nat} {e : TypeId} {xs : List Value} (h : RwV w V lo v X) (ho : w.ownsRow B e 1 u n xs) (h1 : e ≠ 28) (h2 : e ≠ 5) (hv : Vol (fun b => u.ownBlock = some b) w w') : RwV w' V lo v X := by
  obtain ⟨vs, k1, k2, k3⟩ := h
  exact ⟨vs, own_vol k1 hv (own_apart ho k1 h1), k2, fun i x hx => by obtain ⟨vi, k4, k5, k6⟩ := k3 i x hx; exact ⟨vi, k4, own_vol k5 hv (own_apart ho k5 h2), k6⟩⟩
theorem made_zeros (n : Nat) : (madeCells #[.int .u8 0] n).toList = bsV (List.replicate n 0) := by
  rw [toList_madeCells_one]
  simp [bsV]
theorem reads_mk (w : World) (n : Nat) : Reads (w.alloc (.cells (madeCells #[.int .u8 0] n) 5)) (w.alloc (.cells (madeCells #[.int .u8 0] n) 5)).heap.size 1 (some ⟨w.heap.size, 0, none⟩) n (bsV (List.replicate n 0)) := by
  have hb := Blk.new w 5 (madeCells #[.int .u8 0] n)
  refine ⟨by simp [bsV], fun _ => ⟨_, rfl, hb.lt, fun j u hu => ?_⟩⟩
  have e : ((⟨w.heap.size, 0, none⟩ : Addr).add j) = ⟨w.heap.size, j, none⟩ := by unfold Addr.add; split <;> simp_all
  rw [e, hb.cell j, ← Array.getElem?_toList, made_zeros]
  exact hu
theorem mk_made (n : Nat) (hn : n ≤ 1000000) : ∀ W, (Instr.makeSlice 28 (.int .i64 (n : Int)) (.int .i64 (n : Int))).run Try.prog W = .ok (.slice (some ⟨W.heap.size, 0, none⟩) n n) (W.alloc (.cells (madeCells #[.int .u8 0] n) 5)) := fun W => by
  obtain ⟨i0, hi, hz0, hz1, hz2⟩ := info_parts byte_infoD
  have h := run_make_rowN (P := Try.prog) 28 5 i0 (.int .u8 0) Try.underlying28 hi hz0 .i64 .i64 n n (by omega) (by rw [hz2]; omega) (by omega) W
  rw [hz1, Nat.mul_one] at h
  exact h
set_option maxHeartbeats 4000000 in
theorem Pack_no {n c : Nat} {A : Option Addr} (hn : 200 < n) :
    Calls Try.prog 31 #[.slice A n c] w fun e w' => e = .returned (.slice none 0 0) ∧ Below w.heap.size w w' := by
  have hle : 200 < (n : Int) := by omega
  go_enter Try.func31, Try.ntmps31
  go_wp2_with fail
  go_ret
  exact ⟨rfl, Below.refl _ _⟩
theorem own_setR {g n cap : Nat} {l : List Int} (h : w.ownsRow B 5 1 (.slice (some ⟨g, 0, none⟩) n cap) n (bsV l)) (i : Nat) (z : Int) :
    Reads (w.setCell ⟨g, i, none⟩ (.int .u8 z)) (w.setCell ⟨g, i, none⟩ (.int .u8 z)).heap.size 1 (some ⟨g, 0, none⟩) n (bsV (l.set i z)) ∧ Vol (fun b => b = g) w (w.setCell ⟨g, i, none⟩ (.int .u8 z)) := by
  rcases h.2 with ⟨e, -⟩ | ⟨g', cap', cur, e, -, hh, hn, -, hc1, hc2⟩
  · cases e
  · injection e with e1 e2 e3
    injection e1 with e1
    injection e1 with e1 e4 e5
    subst e1
    have hB : Blk w g 5 cur := hh
    have hB2 := hB.set_ i (.int .u8 z)
    have hl : l.length = n := by have := h.1; simpa [bsV] using this
    refine ⟨⟨by simp [bsV, hl], fun hp => ⟨_, rfl, hB2.lt, fun j u hj => ?_⟩⟩, Vol.setCell (V := fun q => q = g) (a := ⟨g, i, none⟩) (Vol.refl w) (.inl rfl) _⟩
    have e6 : ((⟨g, 0, none⟩ : Addr).add j) = ⟨g, j, none⟩ := by unfold Addr.add; split <;> simp_all
    rw [e6, hB2.cell j]
    have e7 : bsV (l.set i z) = (bsV l).set i (.int .u8 z) := by simp [bsV]
    have hjn : j < n := by
      have := (List.getElem?_eq_some_iff.1 hj).1
      rw [e7, List.length_set] at this
      simpa [bsV, hl] using this
    rw [e7, List.getElem?_set] at hj
    rw [Array.getElem?_setIfInBounds]
    have hsz : cur.size = cap' := by omega
    have hle : n ≤ cap' := by omega
    by_cases hij : i = j
    · rw [if_pos hij] at hj ⊢
      have hbl : (bsV l).length = n := by simp [bsV, hl]
      rw [if_pos (by omega)] at hj ⊢
      exact hj
    · rw [if_neg hij] at hj ⊢
      rw [← hc2, List.getElem?_take, if_pos (by omega)] at hj
      rw [← Array.getElem?_toList]
      exact hj
end
end Go.Proofs.Ytplmfmcogbdpjaa.Dk
namespace Go.Proofs.Ytplmfmcogbdpjaa.Dk
open Go Go.RowKit Go.Proofs.Ytplmfmcogbdpjaa Go.Proofs.Ytplmfmcogbdpjaa.Crw Go.Proofs.Ytplmfmcogbdpjaa.Vl Go.ChangeShapes Go.WideShapes Go.ChangeAt
set_option linter.unusedVariables false
set_option maxRecDepth 100000
section
variable {w w' : World} {B d mb : Nat} {U V : Nat → Prop}
set_option maxHeartbeats 4000000 in
theorem Scan2_ {B' n c : Nat} {A : Option Addr} {l : List Int} (hr : Reads w B' 1 A n (bsV l)) (hB : B' ≤ w.heap.size) (hn : n ≤ 2000000) (hnc : n ≤ c) (hcm : (c : Int) ≤ 9223372036854775807) (hb : ∀ x ∈ l, 0 ≤ x ∧ x ≤ 255) :
    Calls Try.prog 32 #[.slice A n c] w fun e w' => ∃ v X t, e = .returned (.tuple #[v, .int .i64 ((catL X).length : Nat)]) ∧ l = catL X ++ t ∧ badL t ∧ (∀ x ∈ X, x.length ≤ 200) ∧ RwP w' w.heap.size v X ∧ Below w.heap.size w w' := by
  obtain ⟨i0, hi, hz0, hz1, hz2⟩ := info_parts row_infoD
  have hlen : l.length = n := by have := hr.1; simpa [bsV] using this
  have hR := Lib.hid hr
  have hBd := Lib.hid hb
  clear hr hb
  go_enter Try.func32, Try.ntmps32
  go_wp2
  refine wp_scope_falls (fun l => l == 0 || l == 1) (fun lb a' w' => if lb = 0 then ScInv w A n c l (fun _ => True) a' w' else ScInv w A n c l badL a' w') (fun lb a' w' => if lb = 0 then n + 1 - (intOf (a'.tmps.getD 3 undef)).toNat + 1 else 0) (fun lb rest hl h => ?_) ?_ ?_
  · by_cases h1 : lb = 1
    · subst h1
      exact ⟨_, (Option.some.inj h).symm⟩
    · have h0 : lb = 0 := by simp at hl; omega
      subst h0
      exact ⟨_, (Option.some.inj h).symm⟩
  · intro hp
    go_wp2
    go_step3
    apply_assumption
    exact hp 0 _ _ _ rfl rfl (S0 ⟨_, [], 0, _, _, _, _, _, _, _, _, _, _, _, _, _, _, _, _, _, _, _, _, _, _, _, _, _, _, _, _, _, _, _, _, _, _, _, _, _, _, _, _, _, _, _, _, rfl, Lib.hid (Below.refl _ _), Lib.hid (RwP.nil _), Lib.hid rfl, Nat.zero_le _, Lib.hid (by simp [catL]), Lib.hid (fun x hx => by simp at hx), Lib.hid (Nat.le_refl _), Lib.hid trivial⟩)
  · intro lb rest a' w' hl hR2 hJ
    by_cases h0l : lb = 0
    · subst h0l
      rw [if_pos rfl] at hJ
      obtain ⟨v, X, p, u1, u4, u5, u6, u7, u8, u9, u10, u11, u12, u13, u14, u15, u16, u17, u18, u19, u20, u21, u22, u23, u24, u25, u26, u27, u28, u29, u30, u31, u32, u33, u34, u35, u36, u37, u38, u39, u40, u41, u42, u43, u44, u45, u46, rfl, HBe, HRw, Hp, hpn, Hl, HX, HXp, -⟩ := hJ
      simp [findLabel] at hR2
      subst hR2
      have hrw := reads_belR hR.out hB HBe.out
      have hcp : p ≤ c := by omega
      by_cases hpe : p = n
      · have hq : ((n - p : Nat) : Int) = 0 := by omega
        have hq2 : ((n : Int) - (p : Int)) = 0 := by omega
        have hbad : Hid (badL (l.drop p)) := Lib.hid (by rw [List.drop_of_length_le (by omega)]; exact badL_nil)
        by_cases hcn : c = n
        · subst hcn
          go_wp2
          go_step3
          exact ⟨⟨_, rfl⟩, S1 ⟨_, X, c, _, _, _, _, _, _, _, _, _, _, _, _, _, _, _, _, _, _, _, _, _, _, _, _, _, _, _, _, _, _, _, _, _, _, _, _, _, _, _, _, _, _, _, _, rfl, HBe, HRw, Lib.hid (by have := Hp.out; omega), Nat.le_refl _, Lib.hid (by rw [← hpe]; exact Hl.out), HX, Lib.hid (by have := HXp.out; omega), Lib.hid (by rw [← hpe]; exact hbad.out)⟩, ltS10⟩
        · go_wp2
          go_step3
          exact ⟨⟨_, rfl⟩, S1 ⟨_, X, n, _, _, _, _, _, _, _, _, _, _, _, _, _, _, _, _, _, _, _, _, _, _, _, _, _, _, _, _, _, _, _, _, _, _, _, _, _, _, _, _, _, _, _, _, rfl, HBe, HRw, Lib.hid (by have := Hp.out; omega), Nat.le_refl _, Lib.hid (by rw [← hpe]; exact Hl.out), HX, Lib.hid (by have := HXp.out; omega), Lib.hid (by rw [← hpe]; exact hbad.out)⟩, ltS10⟩
      · have hlt : p < n := by omega
        have hne : ¬ c = p := by omega
        obtain ⟨ad, u, rfl, hadb, hx, hc0⟩ := hrw.at_ hlt
        have hr1 : Reads w' B' 1 (some (ad.add p)) (n - p) (bsV (l.drop p)) := by
          have h := hrw.cut hpn hnc
          rw [if_neg hne] at h
          simpa [bsV, List.map_drop] using h
        obtain ⟨k, hk, hk1⟩ : ∃ k : Nat, l[p]? = some (k : Int) ∧ k ≤ 255 := by
          rw [List.getElem?_eq_getElem (by omega)]
          have := hBd.out _ (List.getElem_mem (show p < l.length by omega))
          exact ⟨(l[p]'(by omega)).toNat, by congr 1; omega, by omega⟩
        have hu : u = .int .u8 (k : Int) := by
          simp only [bsV, List.getElem?_map, hk, Option.map_some, Option.some.injEq] at hx
          exact hx.symm
        subst hu
        have hd : l.drop p = (k : Int) :: l.drop (p + 1) := by
          rw [List.drop_eq_getElem_cons (by omega)]
          rw [List.getElem?_eq_getElem (by omega)] at hk
          injection hk with hk
          rw [hk]
        have Hd := Lib.hid hd
        have hld : (l.drop (p + 1)).length = n - p - 1 := by rw [List.length_drop]; omega
        clear hd hx hk
        have HR1 := Lib.hid hr1
        clear hr1 hrw
        have hz : ((n - p : Nat) : Int) ≠ 0 := by omega
        have hzz : ((n : Int) - (p : Int)) ≠ 0 := by omega
        by_cases hbig : 200 < (k : Int)
        · go_wp2
          go_step3
          exact ⟨⟨_, rfl⟩, S1 ⟨_, X, p, _, _, _, _, _, _, _, _, _, _, _, _, _, _, _, _, _, _, _, _, _, _, _, _, _, _, _, _, _, _, _, _, _, _, _, _, _, _, _, _, _, _, _, _, rfl, HBe, HRw, Hp, hpn, Hl, HX, HXp, Lib.hid (by rw [Hd.out]; exact bad_of (.inl hbig))⟩, ltS10⟩
        · by_cases hsh : ((n - p : Nat) : Int) < (k : Int) + 2
          · go_wp2
            go_step3
            exact ⟨⟨_, rfl⟩, S1 ⟨_, X, p, _, _, _, _, _, _, _, _, _, _, _, _, _, _, _, _, _, _, _, _, _, _, _, _, _, _, _, _, _, _, _, _, _, _, _, _, _, _, _, _, _, _, _, _, rfl, HBe, HRw, Hp, hpn, Hl, HX, HXp, Lib.hid (by rw [Hd.out]; exact bad_of (.inr (.inl (by omega))))⟩, ltS10⟩
          · obtain ⟨e, he⟩ : ∃ e : Int, (l.drop (p + 1))[k]? = some e := ⟨_, List.getElem?_eq_getElem (by omega)⟩
            have c1 : w'.cell? ((ad.add p).add (k + 1)) = some (.int .u8 e) := by
              obtain ⟨ad2, u2, e2, -, e3, e4⟩ := HR1.out.at_ (k := k + 1) (by omega)
              injection e2 with e2
              subst e2
              rw [e4, ← e3, Hd.out]
              show (List.map (Value.int .u8) ((k : Int) :: l.drop (p + 1)))[k + 1]? = _
              rw [List.map_cons, List.getElem?_cons_succ, List.getElem?_map, he]
              rfl
            have c1 := addr_cell c1 (by omega)
            have hb1 : (k : Int) + 1 < ((n - p : Nat) : Int) := by omega
            have HE := Lib.hid he
            clear he
            by_cases he5 : e = 165
            · subst he5
              have hk2 : k + 2 ≤ n - p := by omega
              obtain ⟨x, hxe⟩ : ∃ x, x = (l.drop (p + 1)).take k := ⟨_, rfl⟩
              have hxl : x.length = k := by rw [hxe, List.length_take]; omega
              have hr2 : Reads w' B' 1 (some ⟨(ad.add p).block, (ad.add p).off + 1, none⟩) k (bsV x) := by
                have h := HR1.out.cut (k := 1) (by omega) (show n - p ≤ c - p by omega)
                rw [if_neg (by omega)] at h
                have h := reads_take h (m := k) (by omega)
                rw [Hd.out] at h
                have e1 : (Option.map (fun y : Addr => y.add 1) (some (ad.add p))) = some ⟨(ad.add p).block, (ad.add p).off + 1, none⟩ := rfl
                rw [e1] at h
                rw [hxe, bsV, List.map_take]
                exact h
              have hCl := CloneR (c := c - p - 1) hr2 (Nat.le_trans hB HBe.out.size) (by omega)
              have HXL := Lib.hid hxl
              have hgd : Hid (l.drop p = packL x ++ l.drop (p + (k + 2))) := Lib.hid (by
                rw [Hd.out, hxe, good_of (n := k) (by omega) HE.out, List.drop_drop]
                congr 2
                omega)
              clear hxe hr2 hxl
              have Hcl := Lib.hid hCl
              clear hCl
              obtain ⟨vs, hvs, hel⟩ := HRw.out
              have HVS := Lib.hid hvs
              have HEL := Lib.hid hel
              obtain ⟨Av, cv, rfl, -, -⟩ := own_slice hvs
              clear hvs hel
              have hXp : X.length ≤ 2000000 := by have := HXp.out; omega
              go_wp2_with (first | (go_at_call 69; refine Hcl.out.mono ?_; rintro r w1 ⟨v1, rfl, ho1, hb1⟩; have HO1 := Lib.hid ho1; have HB1 := Lib.hid hb1; obtain ⟨A1, c1, rfl, -, -⟩ := own_slice ho1; clear ho1 hb1) | (at_builtin; refine wpList_append_any _ rfl _ _ 44 rfl w.heap.size 28 i0 (.slice none 0 0) 1 24 Try.underlying44 hi hz0 hz1 hz2 rfl (by decide) (.slice Av X.length cv) X.length vs rfl ((own_keep HVS.out HB1.out).alloc _) (w1.alloc (.cells #[.slice A1 k c1] 28)).heap.size (some ⟨w1.heap.size, 0, none⟩) 1 1 [.slice A1 k c1] rfl (reads_one w1 (.slice A1 k c1) 28) (by simp [Value.oneCell']) (by simp only [maxLen]; omega) (by omega) (by have h1 := HB1.out.size; have h2 := HBe.out.size; simp; omega) ?_; intro v3 w3 hown3 hg3 _hne; clear _hne; have HO3 := Lib.hid hown3; have HG3 := Lib.hid hg3; clear hown3 hg3))
              go_step3
              have hsz1 := HB1.out.size
              have hsz0 := HBe.out.size
              have hsz3 := HG3.out.size
              simp at hsz3
              have hb1 : Below w.heap.size w w1 := HBe.out.trans (HB1.out.mono hsz0)
              have hb3 : Below w.heap.size w w3 := (hb1.alloc (by omega) _).grown HG3.out (by simp; omega) (fun b hb => (HVS.out.lt b hb).1)
              have hvol : Vol (fun b => Value.ownBlock (.slice Av X.length cv) = some b) w1 w3 := ((Vol.refl w1).alloc _).grown HG3.out (fun b hb => .inl hb)
              refine ⟨⟨_, rfl⟩, S0 ⟨v3, X ++ [x], p + (k + 2), _, _, _, _, _, _, _, _, _, _, _, _, _, _, _, _, _, _, _, _, _, _, _, _, _, _, _, _, _, _, _, _, _, _, _, _, _, _, _, _, _, _, _, _, rfl, Lib.hid hb3, Lib.hid ⟨vs ++ [.slice A1 k c1], by simpa using HO3.out, fun i y hy => ?_⟩, Lib.hid ?_, by omega, Lib.hid ?_, Lib.hid ?_, Lib.hid ?_, Lib.hid trivial⟩, ltS00 ?_⟩
              · have hap : ∀ {Bx nx : Nat} {vx : Value} {ys : List Value}, w1.ownsRow Bx 5 1 vx nx ys → w3.ownsRow Bx 5 1 vx nx ys := fun ho => own_vol ho hvol (own_apart (own_keep HVS.out HB1.out) ho (by decide))
                have hvl : vs.length = X.length := by have := HVS.out.1; omega
                by_cases hi : i < X.length
                · rw [List.getElem?_append_left hi] at hy
                  obtain ⟨vi, h3, h4⟩ := HEL.out i y hy
                  exact ⟨vi, by rw [List.getElem?_append_left (by omega)]; exact h3, hap (own_keep h4 HB1.out)⟩
                · rw [List.getElem?_append_right (by omega)] at hy
                  have hi0 : i - X.length = 0 := by
                    have := (List.getElem?_eq_some_iff.1 hy).1
                    simp at this
                    exact this
                  rw [hi0] at hy
                  simp at hy
                  subst hy
                  refine ⟨.slice A1 k c1, by rw [List.getElem?_append_right (by omega), hvl, hi0]; rfl, ?_⟩
                  rw [HXL.out]
                  exact own_lo (hap HO1.out) hsz0
              · rw [catL_snoc, List.length_append, packL_len, HXL.out, ← Hp.out]
              · rw [catL_snoc, List.append_assoc, ← hgd.out]
                exact Hl.out
              · intro y hy
                rcases List.mem_append.1 hy with h | h
                · exact HX.out y h
                · simp at h
                  subst h
                  have := HXL.out
                  omega
              · rw [List.length_append]
                have := HXp.out
                simp
                omega
              · show n + 1 - (((p : Int) + ((k : Int) + 2)).toNat) + 1 < n + 1 - (p : Int).toNat + 1
                omega
            · have hen : (e == 165) = false := by simpa using he5
              go_wp2
              go_step3
              exact ⟨⟨_, rfl⟩, S1 ⟨_, X, p, _, _, _, _, _, _, _, _, _, _, _, _, _, _, _, _, _, _, _, _, _, _, _, _, _, _, _, _, _, _, _, _, _, _, _, _, _, _, _, _, _, _, _, _, rfl, HBe, HRw, Hp, hpn, Hl, HX, HXp, Lib.hid (by rw [Hd.out]; exact bad_of (.inr (.inr ⟨k, rfl, e, HE.out, he5⟩)))⟩, ltS10⟩
    · have h1l : lb = 1 := by simp at hl; omega
      subst h1l
      rw [if_neg (by decide)] at hJ
      obtain ⟨v, X, p, u1, u4, u5, u6, u7, u8, u9, u10, u11, u12, u13, u14, u15, u16, u17, u18, u19, u20, u21, u22, u23, u24, u25, u26, u27, u28, u29, u30, u31, u32, u33, u34, u35, u36, u37, u38, u39, u40, u41, u42, u43, u44, u45, u46, rfl, HBe, HRw, Hp, hpn, Hl, HX, HXp, HBad⟩ := hJ
      simp [findLabel] at hR2
      subst hR2
      obtain ⟨Av, cv, rfl, -, -⟩ := HRw.out.shape
      go_wp2
      rw [jumpM_retS]
      go_ret2
      exact ⟨_, X, l.drop p, by rw [← Hp.out]; rfl, Hl.out, HBad.out, HX.out, HRw.out, HBe.out⟩
set_option maxHeartbeats 4000000 in
theorem RefRecord_yes {B' n c : Nat} {A : Option Addr} {xs : List Int} (hr : Reads w B' 1 A n (bsV xs)) (hB : B' ≤ w.heap.size) (hn : n ≤ 200) :
    Calls Try.prog 35 #[.slice A n c] w fun e w' => ∃ v', e = .returned v' ∧ w'.ownsRow w.heap.size 5 1 v' (packL xs).length (bsV (packL xs)) ∧ Below w.heap.size w w' := by
  obtain ⟨i0, hi, hz0, hz1, hz2⟩ := info_parts byte_infoD
  have hlen : xs.length = n := by have := hr.1; simpa [bsV] using this
  have hwr := u8_small n (by omega)
  have hle : ¬ 200 < (n : Int) := by omega
  have hpl : (packL xs).length = 1 + n + 1 := by rw [packL_len]; omega
  have hpb : bsV (packL xs) = [Value.int .u8 (n : Int)] ++ bsV xs ++ [Value.int .u8 165] := by simp [packL, bsV, hlen]
  have HP := Lib.hid hpb
  rw [hpl]
  clear hpb hpl
  have hR := Lib.hid hr
  clear hr
  go_enter Try.func35, Try.ntmps35
  go_wp2_with (first | (at_builtin; refine wpList_append_any _ rfl _ _ 28 rfl w.heap.size 5 i0 (.int .u8 0) 1 1 Try.underlying28 hi hz0 hz1 hz2 rfl (by decide) v2 (1 + n) ([.int .u8 (n : Int)] ++ bsV xs) rfl (H2.out.alloc (.cells #[.int .u8 165] 5)) (w2.alloc (.cells #[.int .u8 165] 5)).heap.size (some ⟨w2.heap.size, 0, none⟩) 1 1 [.int .u8 165] rfl (reads_one w2 (.int .u8 165) 5) (by simp [Value.oneCell']) (by simp only [maxLen]; omega) (by omega) (by have := HG2.out.size; simp at this ⊢; omega) ?_; intro v3 w3 hown3 hg3 _hne; clear _hne) | (at_builtin; refine wpList_append_any _ rfl _ _ 28 rfl w.heap.size 5 i0 (.int .u8 0) 1 1 Try.underlying28 hi hz0 hz1 hz2 rfl (by decide) (.slice (some ⟨w.heap.size, 0, none⟩) 1 1) 1 [.int .u8 (n : Int)] rfl ⟨by simp, .inr ⟨w.heap.size, 1, #[.int .u8 (n : Int)], rfl, Nat.le_refl _, heap_alloc_new w _, Nat.le_refl _, by decide, rfl, rfl⟩⟩ B' A n c (bsV xs) rfl (reads_belR hR.out hB ((Below.refl _ _).alloc (Nat.le_refl _) _)) (bsV_one xs) (by simp only [maxLen]; omega) (by omega) (by simp) ?_; intro v2 w2 hown2 hg2 _hne; clear _hne; have H2 := Lib.hid hown2; clear hown2; have HG2 := Lib.hid hg2; clear hg2))
  go_ret
  have hs2 := HG2.out.size
  simp at hs2
  refine ⟨v3, rfl, by rw [HP.out]; exact hown3, ?_⟩
  have hb2 : Below w.heap.size w w2 := ((Below.refl w.heap.size w).alloc (Nat.le_refl _) _).grown HG2.out (by simp) (fun k hk => by injection hk with hk; subst hk; exact Nat.le_refl _)
  refine (hb2.alloc hb2.size _).grown hg3 (by simp; omega) (fun k hk => ?_)
  have := (H2.out.lt k hk).1
  omega
set_option maxHeartbeats 4000000 in
theorem RefRecord_no {n c : Nat} {A : Option Addr} (hn : 200 < n) :
    Calls Try.prog 35 #[.slice A n c] w fun e w' => e = .returned (.slice none 0 0) ∧ Below w.heap.size w w' := by
  have hle : 200 < (n : Int) := by omega
  go_enter Try.func35, Try.ntmps35
  go_wp2_with fail
  go_ret
  exact ⟨rfl, Below.refl _ _⟩
theorem own_setO {g n cap : Nat} {l : List Int} (h : w.ownsRow B 5 1 (.slice (some ⟨g, 0, none⟩) n cap) n (bsV l)) (i : Nat) (z : Int) :
    (w.setCell ⟨g, i, none⟩ (.int .u8 z)).ownsRow B 5 1 (.slice (some ⟨g, 0, none⟩) n cap) n (bsV (l.set i z)) := by
  rcases h.2 with ⟨e, -⟩ | ⟨g', cap', cur, e, hbg, hh, hn, hm, hc1, hc2⟩
  · cases e
  · injection e with e1 e2 e3
    injection e1 with e1
    injection e1 with e1 e4 e5
    subst e1 e3
    have hB : Blk w g 5 cur := hh
    have hB2 := hB.set_ i (.int .u8 z)
    have hl : l.length = n := by have := h.1; simpa [bsV] using this
    refine ⟨by simp [bsV, hl], .inr ⟨g, cap, _, rfl, hbg, hB2, hn, hm, by simpa using hc1, ?_⟩⟩
    rw [Array.toList_setIfInBounds, List.take_set, hc2]
    simp [bsV]
end
end Go.Proofs.Ytplmfmcogbdpjaa.Dk
namespace Go.Proofs.Ytplmfmcogbdpjaa.Dk
open Go Go.RowKit Go.Proofs.Ytplmfmcogbdpjaa Go.Proofs.Ytplmfmcogbdpjaa.Crw Go.Proofs.Ytplmfmcogbdpjaa.Vl Go.ChangeShapes Go.WideShapes Go.ChangeAt
set_option linter.unusedVariables false
set_option maxRecDepth 100000
def RsInv (w : World) (n : Nat) (l : List Int) (vo va : Value) (w' : World) : Prop :=
  ∃ (X : List (List Int)) (p : Nat), va = .int .i64 (p : Nat) ∧ Below w.heap.size w w' ∧ RwP w' w.heap.size vo X ∧ p = (catL X).length ∧ p ≤ n ∧ l = catL X ++ l.drop p ∧ (∀ x ∈ X, x.length ≤ 200) ∧ X.length ≤ p ∧ ∃ w7, w7 = w'
def RsPost (w : World) (l : List Int) (e : Ending) (w' : World) : Prop := ∃ v X t, e = .returned (.tuple #[v, .int .i64 ((catL X).length : Nat)]) ∧ l = catL X ++ t ∧ badL t ∧ (∀ x ∈ X, x.length ≤ 200) ∧ RwP w' w.heap.size v X ∧ Below w.heap.size w w'
section
variable {w w' : World} {B d mb : Nat} {U V : Nat → Prop}
set_option maxHeartbeats 8000000 in
theorem RefScan_ {B' n c : Nat} {A : Option Addr} {l : List Int} (hr : Reads w B' 1 A n (bsV l)) (hB : B' ≤ w.heap.size) (hn : n ≤ 2000000) (hnc : n ≤ c) (hcm : (c : Int) ≤ 9223372036854775807) (hb : ∀ x ∈ l, 0 ≤ x ∧ x ≤ 255) :
    Calls Try.prog 37 #[.slice A n c] w fun e w' => RsPost w l e w' := by
  obtain ⟨i0, hi, hz0, hz1, hz2⟩ := info_parts row_infoD
  obtain ⟨i1, hi1, hy0, hy1, hy2⟩ := info_parts byte_infoD
  have hlen : l.length = n := by have := hr.1; simpa [bsV] using this
  have hR := Lib.hid hr
  have hBd := Lib.hid hb
  clear hr hb
  go_enter Try.func37, Try.ntmps37
  go_wp2_with fail
  go_loopw [4, 5] (fun vo va wr => Hid (RsInv w n l vo va wr)) (fun _ va _ => n - (intOf va).toNat)
  case atStart => exact Lib.hid ⟨[], 0, rfl, Below.refl _ _, RwP.nil _, rfl, Nat.zero_le _, by simp [catL], fun x hx => by simp at hx, Nat.le_refl _, _, rfl⟩
  case round =>
    obtain ⟨X, p, rfl, hBe, hRw, hp, hpn, hl, hX, hXp, w1, hw1⟩ := hrel.out
    subst hw1
    obtain ⟨Av, cv, rfl, -, -⟩ := hRw.shape
    have HBe := Lib.hid hBe
    have HRw := Lib.hid hRw
    have Hp := Lib.hid hp
    have Hl := Lib.hid hl
    have HX := Lib.hid hX
    have HXp := Lib.hid hXp
    clear hrel hBe hRw hp hl hX hXp
    have hrw := reads_belR hR.out hB HBe.out
    by_cases hlt : p < n
    · obtain ⟨ad, u, rfl, hadb, hx, hc0⟩ := hrw.at_ hlt
      obtain ⟨k, hk, hk1⟩ : ∃ k : Nat, l[p]? = some (k : Int) ∧ k ≤ 255 := by
        rw [List.getElem?_eq_getElem (by omega)]
        have := hBd.out _ (List.getElem_mem (show p < l.length by omega))
        exact ⟨(l[p]'(by omega)).toNat, by congr 1; omega, by omega⟩
      have hu : u = .int .u8 (k : Int) := by
        simp only [bsV, List.getElem?_map, hk, Option.map_some, Option.some.injEq] at hx
        exact hx.symm
      subst hu
      have hd : l.drop p = (k : Int) :: l.drop (p + 1) := by
        rw [List.drop_eq_getElem_cons (by omega)]
        rw [List.getElem?_eq_getElem (by omega)] at hk
        injection hk with hk
        rw [hk]
      have Hd := Lib.hid hd
      have hld : (l.drop (p + 1)).length = n - p - 1 := by rw [List.length_drop]; omega
      have HRW := Lib.hid hrw
      clear hd hx hk hrw
      have g1 : (p : Int) < (n : Int) := by omega
      by_cases hbig : 200 < (k : Int)
      · go_wp2_with fail
        go_ret2
        exact ⟨_, X, l.drop p, by rw [← Hp.out]; rfl, Hl.out, by rw [Hd.out]; exact bad_of (.inl hbig), HX.out, HRw.out, HBe.out⟩
      · by_cases hsh : (n : Int) < (p : Int) + 2 + (k : Int)
        · go_wp2_with fail
          go_ret2
          exact ⟨_, X, l.drop p, by rw [← Hp.out]; rfl, Hl.out, by rw [Hd.out]; exact bad_of (.inr (.inl (by omega))), HX.out, HRw.out, HBe.out⟩
        · obtain ⟨e, he⟩ : ∃ e : Int, (l.drop (p + 1))[k]? = some e := ⟨_, List.getElem?_eq_getElem (by omega)⟩
          have c1 : w1.cell? (ad.add (p + 1 + k)) = some (.int .u8 e) := by
            obtain ⟨ad2, u2, e2, -, e3, e4⟩ := HRW.out.at_ (k := p + 1 + k) (by omega)
            injection e2 with e2
            subst e2
            rw [e4, ← e3, bsV, List.getElem?_map]
            rw [List.getElem?_drop] at he
            rw [he]
            rfl
          have c1 := addr_cell c1 (by omega)
          have hb1 : (p : Int) + 1 + (k : Int) < (n : Int) := by omega
          have HE := Lib.hid he
          clear he
          by_cases he5 : e = 165
          · subst he5
            have hk2 : p + 2 + k ≤ n := by omega
            obtain ⟨x, hxe⟩ : ∃ x, x = (l.drop (p + 1)).take k := ⟨_, rfl⟩
            have hxl : x.length = k := by rw [hxe, List.length_take]; omega
            have hne : ¬ c = p + 1 := by omega
            have hr2 : Reads w1 B' 1 (some ⟨ad.block, ad.off + (p + 1), none⟩) k (bsV x) := by
              have h := HRW.out.cut (k := p + 1) (by omega) hnc
              rw [if_neg hne] at h
              have h := reads_take h (m := k) (by omega)
              simp only [Nat.mul_one] at h
              have e1 : (Option.map (fun y : Addr => y.add (p + 1)) (some ad)) = some ⟨ad.block, ad.off + (p + 1), none⟩ := rfl
              rw [e1] at h
              rw [hxe, bsV, List.map_take, List.map_drop]
              exact h
            have hgd : Hid (l.drop p = packL x ++ l.drop (p + (2 + k))) := Lib.hid (by
              rw [Hd.out, hxe, good_of (n := k) (by omega) HE.out, List.drop_drop]
              congr 2
              omega)
            have hek : p + 1 + k - (p + 1) = k := by omega
            have HXL := Lib.hid hxl
            have HR2 := Lib.hid hr2
            obtain ⟨vs, hvs, hel⟩ := HRw.out
            have HVS := Lib.hid hvs
            have HEL := Lib.hid hel
            have hXb : X.length ≤ 2000000 := by have := HXp.out; omega
            have hsz0 := HBe.out.size
            clear hxe hxl hr2 hvs hel
            go_upto_region 6 with fail
            go_wp2_with (first | (at_builtin; refine wpList_append_any _ rfl _ _ 44 rfl w.heap.size 28 i0 (.slice none 0 0) 1 24 Try.underlying44 hi hz0 hz1 hz2 rfl (by decide) (.slice Av X.length cv) X.length vs rfl ((own_keep HVS.out HB3.out).alloc _) (w3.alloc (.cells #[.slice A3 k c3] 28)).heap.size (some ⟨w3.heap.size, 0, none⟩) 1 1 [.slice A3 k c3] rfl (reads_one w3 (.slice A3 k c3) 28) (by simp [Value.oneCell']) (by simp only [maxLen]; omega) (by omega) (by have h1 := HB3.out.size; simp; omega) ?_; intro v4 w4 hown4 hg4 _hne; clear _hne; have HO4 := Lib.hid hown4; have HG4 := Lib.hid hg4; clear hown4 hg4) | (at_builtin; refine wpList_append_any _ rfl _ _ 28 rfl w1.heap.size 5 i1 (.int .u8 0) 1 1 Try.underlying28 hi1 hy0 hy1 hy2 rfl (by decide) (.slice none 0 0) 0 [] rfl ⟨by simp, .inl ⟨rfl, rfl⟩⟩ B' (some ⟨ad.block, ad.off + (p + 1), none⟩) k (c - (p + 1)) (bsV x) (by first | rfl | (simp [Act.eval]; done) | (simp [Act.eval]; omega)) HR2.out (bsV_one _) (by simp only [maxLen]; omega) (by omega) (Nat.le_refl _) ?_; intro v3 w3 hown3 hg3 _hne; clear _hne; rw [Nat.zero_add, List.nil_append] at hown3; obtain ⟨A3, c3, rfl, -, -⟩ := own_slice hown3; have HO3 := Lib.hid hown3; have HB3 := Lib.hid ((Below.refl w1.heap.size w1).grown hg3 (Nat.le_refl _) (fun b hb => by cases hb)); clear hown3 hg3))
            go_roundw
            case rel =>
              have hsz3 := HB3.out.size
              have hb3 : Below w.heap.size w w3 := HBe.out.trans (HB3.out.mono hsz0)
              have hb4 : Below w.heap.size w w4 := (hb3.alloc hb3.size _).grown HG4.out (by have := hb3.size; simp; omega) (fun b hb => (HVS.out.lt b hb).1)
              have hvol : Vol (fun b => Value.ownBlock (.slice Av X.length cv) = some b) w3 w4 := ((Vol.refl w3).alloc _).grown HG4.out (fun b hb => .inl hb)
              have hap : ∀ {Bx nx : Nat} {vx : Value} {ys : List Value}, w3.ownsRow Bx 5 1 vx nx ys → w4.ownsRow Bx 5 1 vx nx ys := fun ho => own_vol ho hvol (own_apart (own_keep HVS.out HB3.out) ho (by decide))
              have hvl : vs.length = X.length := by have := HVS.out.1; omega
              refine Lib.hid ⟨X ++ [x], p + (2 + k), by go_num, hb4, ⟨vs ++ [.slice A3 k c3], by simpa using HO4.out, fun i y hy => ?_⟩, ?_, by omega, ?_, ?_, ?_, _, rfl⟩
              · by_cases hi : i < X.length
                · rw [List.getElem?_append_left hi] at hy
                  obtain ⟨vi, h3, h4⟩ := HEL.out i y hy
                  exact ⟨vi, by rw [List.getElem?_append_left (by omega)]; exact h3, hap (own_keep h4 HB3.out)⟩
                · rw [List.getElem?_append_right (by omega)] at hy
                  have hi0 : i - X.length = 0 := by
                    have := (List.getElem?_eq_some_iff.1 hy).1
                    simp at this
                    exact this
                  rw [hi0] at hy
                  simp at hy
                  subst hy
                  refine ⟨.slice A3 k c3, by rw [List.getElem?_append_right (by omega), hvl, hi0]; rfl, ?_⟩
                  rw [HXL.out]
                  have h := HO3.out
                  exact own_lo (hap h) hsz0
              · rw [catL_snoc, List.length_append, packL_len, HXL.out, ← Hp.out]
                omega
              · rw [catL_snoc, List.append_assoc, ← hgd.out]
                exact Hl.out
              · intro y hy
                rcases List.mem_append.1 hy with h | h
                · exact HX.out y h
                · simp at h
                  subst h
                  have := HXL.out
                  omega
              · rw [List.length_append]
                have := HXp.out
                simp
                omega
            case measure => simp [intOf]; omega
          · have hen : (e == 165) = false := by simpa using he5
            go_wp2_with fail
            go_ret2
            exact ⟨_, X, l.drop p, by rw [← Hp.out]; rfl, Hl.out, by rw [Hd.out]; exact bad_of (.inr (.inr ⟨k, rfl, e, HE.out, he5⟩)), HX.out, HRw.out, HBe.out⟩
    · have g1 : ¬ (p : Int) < (n : Int) := by omega
      go_wp2_with fail
      go_ret2
      exact ⟨_, X, l.drop p, by rw [← Hp.out]; rfl, Hl.out, by rw [List.drop_of_length_le (by omega)]; exact badL_nil, HX.out, HRw.out, HBe.out⟩
end
end Go.Proofs.Ytplmfmcogbdpjaa.Dk
namespace Go.Proofs.Ytplmfmcogbdpjaa.Dk
open Go Go.RowKit Go.Proofs.Ytplmfmcogbdpjaa Go.Proofs.Ytplmfmcogbdpjaa.Crw Go.Proofs.Ytplmfmcogbdpjaa.Vl Go.ChangeShapes Go.WideShapes Go.ChangeAt
set_option linter.unusedVariables false
set_option maxRecDepth 100000
section
variable {w w' : World} {B d mb : Nat} {U V : Nat → Prop}
set_option maxHeartbeats 8000000 in
theorem Same_rows2 {B1 B2 : Nat} {v1 v2 : Value} {X : List (List Int)} (h1 : RdP w B1 v1 X) (h2 : RdP w B2 v2 X) (hB1 : B1 ≤ w.heap.size) (hB2 : B2 ≤ w.heap.size) (hX : X.length ≤ 2000000) (hXs : ∀ x ∈ X, x.length ≤ 65536) :
    Calls Try.prog 33 #[v1, v2] w fun r w' => r = .returned (.bool true) ∧ Below w.heap.size w w' := by
  obtain ⟨A, c, vs, rfl, hr1, he1⟩ := h1
  obtain ⟨A', c', vs', rfl, hr2, he2⟩ := h2
  have HE1 := Lib.hid he1
  have HE2 := Lib.hid he2
  have HR1 := Lib.hid hr1
  have HR2 := Lib.hid hr2
  have HXs := Lib.hid hXs
  clear he1 he2 hr1 hr2 hXs
  obtain ⟨n, hn⟩ : ∃ n, n = X.length := ⟨_, rfl⟩
  rw [← hn] at hX
  have HN := Lib.hid hn
  rw [← hn]
  clear hn
  go_enter Try.func33, Try.ntmps33
  go_wp2_with fail
  go_loopw [13] (fun i wr => ∃ k : Nat, k ≤ n ∧ i = .int .i64 k ∧ Below w.heap.size w wr) (fun i _ => n - (intOf i).toNat)
  case atStart => exact ⟨0, Nat.zero_le _, rfl, Below.refl _ _⟩
  case round =>
    obtain ⟨k, hk, rfl, hbel⟩ := hrel
    by_cases hlt : k < n
    · obtain ⟨ad, u, rfl, -, hu, hc⟩ := (reads_belR HR1.out hB1 hbel).at_ (HN.out ▸ hlt)
      obtain ⟨ad', u', rfl, -, hu', hc'⟩ := (reads_belR HR2.out hB2 hbel).at_ (HN.out ▸ hlt)
      obtain ⟨x, hx⟩ : ∃ x, X[k]? = some x := ⟨_, List.getElem?_eq_getElem (HN.out ▸ hlt)⟩
      obtain ⟨Ai, ci, e1, hra⟩ := HE1.out k x hx
      obtain ⟨Aj, cj, e2, hrb⟩ := HE2.out k x hx
      have hxl := HXs.out x (List.mem_of_getElem? hx)
      rw [e1] at hu
      rw [e2] at hu'
      injection hu with hu
      injection hu' with hu'
      subst hu
      subst hu'
      have k1 : (k : Int) < (n : Int) := by omega
      have hsz := hbel.size
      have hSm := SameByte_int Ai Aj x.length ci x.length cj x x B1 B2
      obtain ⟨wd, hwd⟩ : ∃ wd, wd = ({ wr with drawn := wr.drawn + 1 } : World) := ⟨_, rfl⟩
      have hbd : Below w.heap.size w wd := by rw [hwd]; exact below_drewN hbel 1
      have hcd : wd.cell? (ad.add k) = some (.slice Ai x.length ci) := by rw [hwd]; exact hc
      have hcd' : wd.cell? (ad'.add k) = some (.slice Aj x.length cj) := by rw [hwd]; exact hc'
      have hSd := hSm wd (Nat.le_trans hB1 hbd.size) (Nat.le_trans hB2 hbd.size) (reads_belR hra hB1 hbd) (reads_belR hrb hB2 hbd) (by omega) (by omega)
      have HSd := Lib.hid hSd
      have HBd := Lib.hid hbd
      clear hx hra hrb e1 e2 hSm hbd hc hc' hSd
      go_wp2
      refine wp_region_still_tail 8 (by kernel_rfl) (by kernel_rfl) ?_
      simp only [List.take_succ_cons, List.take_zero, List.drop_succ_cons, List.drop_zero]
      rw [show ({ wr with drawn := wr.drawn + 1 } : World) = wd from hwd.symm]
      clear hwd
      repeat still_step
      refine wpStill_nil ?_
      go_wp2_with fail
      refine HSd.out.mono ?_
      rintro r w1 ⟨hr, hb1⟩
      have hr2 : r = .returned (.bool true) := by rw [hr]; simp
      clear hr
      subst hr2
      go_wp2
      go_roundw
      case rel => exact ⟨k + 1, by omega, by go_num, HBd.out.trans (hb1.mono HBd.out.size)⟩
      case measure => simp [intOf]; omega
    · have k1 : ¬ (k : Int) < (n : Int) := by omega
      go_wp2
      go_ret
      exact ⟨rfl, hbel⟩
def u8L (l : List Int) : List UInt8 := l.map fun z => UInt8.ofNat z.toNat
theorem u8L_bytes {l : List Int} (h : ∀ z ∈ l, 0 ≤ z ∧ z ≤ 255) : bytesV (u8L l) = bsV l := by
  unfold bytesV u8L bsV
  rw [List.map_map]
  refine List.map_congr_left fun z hz => ?_
  have := h z hz
  show Value.int .u8 ((UInt8.ofNat z.toNat).toNat : Int) = Value.int .u8 z
  have e : (UInt8.ofNat z.toNat).toNat = z.toNat := by
    rw [UInt8.toNat_ofNat']
    omega
  rw [e]
  congr 1
  omega
theorem lent_reads {g n : Nat} {l : List UInt8} (hb : Blk w g 5 (lentV l)) (hl : l.length = n) : Reads w w.heap.size 1 (some ⟨g, 0, none⟩) n (bytesV l) := by
  refine ⟨by simp [bytesV, hl], fun hp => ⟨_, rfl, hb.lt, fun j u hu => ?_⟩⟩
  have e6 : ((⟨g, 0, none⟩ : Addr).add j) = ⟨g, j, none⟩ := by unfold Addr.add; split <;> simp_all
  rw [e6, hb.cell j]
  unfold bytesV at hu
  rw [List.getElem?_map] at hu
  cases hc : l[j]? with
  | none => rw [hc] at hu; cases hu
  | some c =>
    rw [hc] at hu
    injection hu with hu
    rw [lent_in l j c hc]
    exact congrArg some hu
end
end Go.Proofs.Ytplmfmcogbdpjaa.Dk
