/- What RecordForms wants of rows and records. -/
import Derived.Test.YtplmfmcogbdpjaaRec9
namespace Go.Proofs.Ytplmfmcogbdpjaa.Dk
open Go Go.RowKit Go.Proofs.Ytplmfmcogbdpjaa Go.Proofs.Ytplmfmcogbdpjaa.Crw Go.Proofs.Ytplmfmcogbdpjaa.Vl Go.ChangeShapes Go.WideShapes Go.ChangeAt
set_option linter.unusedVariables false
set_option maxRecDepth 100000
abbrev intsF (l : List Int) : List Value := l.map (Value.int .i64)
def endsL (W : List (List Int)) : List Int := (List.range W.length).map fun i => ((catL (W.take (i + 1))).length : Int)
theorem endsL_len (W : List (List Int)) : (endsL W).length = W.length := by simp [endsL]
theorem endsL_snoc (W : List (List Int)) (y : List Int) : endsL (W ++ [y]) = endsL W ++ [((catL (W ++ [y])).length : Int)] := by
  unfold endsL
  rw [List.length_append, List.length_singleton, List.range_succ, List.map_append]
  congr 1
  · refine List.map_congr_left fun i hi => ?_
    have := List.mem_range.1 hi
    rw [List.take_append_of_le_length (by omega)]
  · simp only [List.map_cons, List.map_nil]
    rw [List.take_of_length_le (by simp)]
theorem endsL_get {W : List (List Int)} {i : Nat} (h : i < W.length) : (endsL W)[i]? = some ((catL (W.take (i + 1))).length : Int) := by
  simp [endsL, List.getElem?_map, List.getElem?_range h]
theorem catL_take_le (W : List (List Int)) (i : Nat) : (catL (W.take i)).length ≤ (catL W).length := by
  conv => rhs; rw [← List.take_append_drop i W]
  rw [catL_app, List.length_append]
  omega
/-- What is cut within a record: those ahead of it are whole. -/
theorem cut_at {W : List (List Int)} {j K : Nat} (hj : j ≤ W.length) (h1 : (catL (W.take j)).length ≤ K) (h2 : (j = W.length ∧ K ≤ (catL W).length) ∨ (j < W.length ∧ K < (catL (W.take (j + 1))).length)) :
    ∃ s, (catL W).take K = catL (W.take j) ++ s ∧ badL s := by
  have hs : (catL W).take K = catL (W.take j) ++ (catL (W.drop j)).take (K - (catL (W.take j)).length) := by
    conv => lhs; rw [← List.take_append_drop j W]
    rw [catL_app, List.take_append, List.take_of_length_le h1]
  refine ⟨_, hs, ?_⟩
  rcases h2 with ⟨rfl, h3⟩ | ⟨h3, h4⟩
  · rw [List.drop_of_length_le (Nat.le_refl _)]
    simp [catL, badL_nil]
  · obtain ⟨y, hy⟩ : ∃ y, W[j]? = some y := ⟨_, List.getElem?_eq_getElem h3⟩
    have hd : W.drop j = y :: W.drop (j + 1) := by
      rw [List.drop_eq_getElem_cons h3]
      rw [List.getElem?_eq_getElem h3] at hy
      injection hy with hy
      rw [hy]
    rw [List.take_add_one, hy] at h4
    simp only [Option.toList_some, catL_snoc, List.length_append] at h4
    rw [hd, catL_cons, List.take_append_of_le_length (by omega)]
    refine bad_cut (y := y) (t := (packL y).drop (K - (catL (W.take j)).length)) (List.take_append_drop _ _) (fun e => ?_)
    have := congrArg List.length e
    rw [List.length_drop] at this
    simp only [List.length_nil] at this
    omega
/-- A record whose end is spoilt is none. -/
theorem bad_spoilt {x r : List Int} : badL ((packL x ++ r).set (x.length + 1) 166) := by
  have e : (packL x ++ r).set (x.length + 1) 166 = (x.length : Int) :: ((x ++ [166]) ++ r) := by
    unfold packL
    simp only [List.cons_append, List.set_cons_succ, List.append_assoc]
    rw [List.set_append_right _ _ (Nat.le_refl _)]
    simp
  rw [e]
  exact bad_of (.inr (.inr ⟨x.length, rfl, 166, by simp, by decide⟩))
theorem scan_bad {X : List (List Int)} {l t : List Int} (hX : ∀ x ∈ X, x.length ≤ 200) (hb : badL l) (ht : badL t) (h : l = catL X ++ t) : X = [] :=
  (scan_uniq (X := []) (s := l) (fun x hx => by simp at hx) hX hb ht (by rw [catL_nil, List.nil_append]; exact h)).1.symm
section
variable {w w' w3 : World} {B d mb lo : Nat} {U V V' : Nat → Prop} {v v3 vi u : Value} {X Y W : List (List Int)} {x : List Int} {vs : List Value}
theorem RwV.other {n : Nat} {e : TypeId} {xs : List Value} (h : RwV w V lo v X) (ho : w.ownsRow B e 1 u n xs) (h1 : e ≠ 28) (h2 : e ≠ 5) (hv : Vol (fun b => u.ownBlock = some b) w w') : RwV w' V lo v X := by
  obtain ⟨vs, k1, k2, k3⟩ := h
  exact ⟨vs, own_vol k1 hv (own_apart ho k1 h1), k2, fun i x hx => by obtain ⟨vi, k4, k5, k6⟩ := k3 i x hx; exact ⟨vi, k4, own_vol k5 hv (own_apart ho k5 h2), k6⟩⟩
theorem made_zeros (n : Nat) : (madeCells #[.int .u8 0] n).toList = bsV (List.replicate n 0) := by
  rw [toList_madeCells_one]
  simp [bsV]
theorem reads_mk (w : World) (n : Nat) : Reads (w.alloc (.cells (madeCells #[.int .u8 0] n) 5)) (w.alloc (.cells (madeCells #[.int .u8 0] n) 5)).heap.size 1 (some ⟨w.heap.size, 0, none⟩) n (bsV (List.replicate n 0)) := by
  have hb := Blk.new w 5 (madeCells #[.int .u8 0] n)
  refine ⟨by simp [bsV], fun _ => ⟨_, rfl, hb.lt, fun j u hu => ?_⟩⟩
  have e : ((⟨w.heap.size, 0, none⟩ : Addr).add j) = ⟨w.heap.size, j, none⟩ := by unfold Addr.add; split <;> simp_all
  rw [e, hb.cell j, ← Array.getElem?_toList, made_zeros]
  exact hu
theorem mk_made (n : Nat) (hn : n ≤ 1000000) : ∀ W, (Instr.makeSlice 28 (.int .i64 (n : Int)) (.int .i64 (n : Int))).run Try.prog W = .ok (.slice (some ⟨W.heap.size, 0, none⟩) n n) (W.alloc (.cells (madeCells #[.int .u8 0] n) 5)) := fun W => by
  obtain ⟨i0, hi, hz0, hz1, hz2⟩ := info_parts byte_infoD
  have h := run_make_rowN (P := Try.prog) 28 5 i0 (.int .u8 0) Try.underlying28 hi hz0 .i64 .i64 n n (by omega) (by rw [hz2]; omega) (by omega) W
  rw [hz1, Nat.mul_one] at h
  exact h
set_option maxHeartbeats 4000000 in
theorem Pack_no {n c : Nat} {A : Option Addr} (hn : 200 < n) :
    Calls Try.prog 31 #[.slice A n c] w fun e w' => e = .returned (.slice none 0 0) ∧ Below w.heap.size w w' := by
  have hle : 200 < (n : Int) := by omega
  go_enter Try.func31, Try.ntmps31
  go_wp2_with fail
  go_ret
  exact ⟨rfl, Below.refl _ _⟩
theorem own_setR {g n cap : Nat} {l : List Int} (h : w.ownsRow B 5 1 (.slice (some ⟨g, 0, none⟩) n cap) n (bsV l)) (i : Nat) (z : Int) :
    Reads (w.setCell ⟨g, i, none⟩ (.int .u8 z)) (w.setCell ⟨g, i, none⟩ (.int .u8 z)).heap.size 1 (some ⟨g, 0, none⟩) n (bsV (l.set i z)) ∧ Vol (fun b => b = g) w (w.setCell ⟨g, i, none⟩ (.int .u8 z)) := by
  rcases h.2 with ⟨e, -⟩ | ⟨g', cap', cur, e, -, hh, hn, -, hc1, hc2⟩
  · cases e
  · injection e with e1 e2 e3
    injection e1 with e1
    injection e1 with e1 e4 e5
    subst e1
    have hB : Blk w g 5 cur := hh
    have hB2 := hB.set_ i (.int .u8 z)
    have hl : l.length = n := by have := h.1; simpa [bsV] using this
    refine ⟨⟨by simp [bsV, hl], fun hp => ⟨_, rfl, hB2.lt, fun j u hj => ?_⟩⟩, Vol.setCell (V := fun q => q = g) (a := ⟨g, i, none⟩) (Vol.refl w) (.inl rfl) _⟩
    have e6 : ((⟨g, 0, none⟩ : Addr).add j) = ⟨g, j, none⟩ := by unfold Addr.add; split <;> simp_all
    rw [e6, hB2.cell j]
    have e7 : bsV (l.set i z) = (bsV l).set i (.int .u8 z) := by simp [bsV]
    have hjn : j < n := by
      have := (List.getElem?_eq_some_iff.1 hj).1
      rw [e7, List.length_set] at this
      simpa [bsV, hl] using this
    rw [e7, List.getElem?_set] at hj
    rw [Array.getElem?_setIfInBounds]
    have hsz : cur.size = cap' := by omega
    have hle : n ≤ cap' := by omega
    by_cases hij : i = j
    · rw [if_pos hij] at hj ⊢
      have hbl : (bsV l).length = n := by simp [bsV, hl]
      rw [if_pos (by omega)] at hj ⊢
      exact hj
    · rw [if_neg hij] at hj ⊢
      rw [← hc2, List.getElem?_take, if_pos (by omega)] at hj
      rw [← Array.getElem?_toList]
      exact hj
end
end Go.Proofs.Ytplmfmcogbdpjaa.Dk
