/- Words, numbers, items, needs: the contracts of script and message. -/
import Derived.Test.YtfbedlhigggggaaSpAA
import Derived.Test.YtfbedlhigggggaaCeShelf
import Derived.Test.YtfbedlhigggggaaVol
import Derived.Deep.CutRange
import Derived.Deep.DeepCutAuto
import Derived.Deep.CutBlock
import Derived.Deep.MidRow
import Derived.Deep.Upon
import Derived.Test.YtfbedlhigggggaaFloat2
import Derived.Test.YtfbedlhigggggaaWithin
import Derived.Deep.RegionHeld3
import Derived.Test.YtfbedlhigggggaaAll
namespace Go.Proofs.Ytfbedlhigggggaa.Sp
open Go Go.RowKit Go.Lib Go.Proofs.Ytfbedlhigggggaa Go.Proofs.Ytfbedlhigggggaa.Crw Go.Proofs.Ytfbedlhigggggaa.Vl Go.ChangeShapes Go.WideShapes Go.ChangeAt
set_option linter.unusedVariables false
set_option maxRecDepth 100000
/-- Words in memory, from an address on. -/
def Ws (w : World) (Ad : Option Addr) (L : List ByteArray) : Prop := L ≠ [] → ∃ g o, Ad = some ⟨g, o, none⟩ ∧ g < w.heap.size ∧ ∀ (k : Nat) (q : ByteArray), L[k]? = some q → w.cell? ⟨g, o + k, none⟩ = some (.string q)
theorem Ws.vol {U : Nat → Prop} {w w' : World} {Ad : Option Addr} {L : List ByteArray} (h : Ws w Ad L) (hv : Vol U w w') (hn : ∀ g o, Ad = some ⟨g, o, none⟩ → ¬ U g) : Ws w' Ad L := fun hl => by
  obtain ⟨g, o, h1, h2, h3⟩ := h hl
  refine ⟨g, o, h1, Nat.lt_of_lt_of_le h2 hv.size, fun k q hq => ?_⟩
  have := hv.block g h2 (hn g o h1)
  have h4 := h3 k q hq
  simpa [World.cell?, this] using h4
theorem Ws.below {w w' : World} {Ad : Option Addr} {L : List ByteArray} (h : Ws w Ad L) (hb : Below w.heap.size w w') : Ws w' Ad L := h.vol (U := fun _ => False) (Vol.of_below hb) (fun _ _ _ => id)
theorem Ws.at_ {w : World} {Ad : Option Addr} {q : ByteArray} {L : List ByteArray} (h : Ws w Ad (q :: L)) : ∃ g o, Ad = some ⟨g, o, none⟩ ∧ g < w.heap.size ∧ ∀ (k : Nat) (p : ByteArray), (q :: L)[k]? = some p → w.cell? ⟨g, o + k, none⟩ = some (.string p) := h (by simp)
theorem Ws.drop {w : World} {g o n : Nat} {L M : List ByteArray} (h : Ws w (some ⟨g, o, none⟩) L) (hM : M = L.drop n) {A : Option Addr} (hA : M ≠ [] → A = some ⟨g, o + n, none⟩) : Ws w A M := fun hl => by
  subst hM
  have hne : L ≠ [] := by intro e; subst e; simp at hl
  obtain ⟨g', o', e1, h2, h3⟩ := h hne
  injection e1 with e1
  injection e1 with e1 e2
  subst e1 e2
  refine ⟨g, o + n, hA hl, h2, fun k q hq => ?_⟩
  rw [List.getElem?_drop] at hq
  rw [Nat.add_assoc]
  exact h3 _ _ hq
theorem cloS (w : World) : PredGrows Try.prog 23 #[] spB w := by
  intro W x hx hb
  show Calls Try.prog 23 #[.int .i32 (x : Int)] W _
  unfold spB
  clear hb
  go_enter Try.func23, Try.ntmps23
  go_wp2
  go_ret
  exact ⟨rfl, Below.refl _ _⟩
theorem FFs (s : ByteArray) (w : World) (hs : s.size ≤ 1000) :
    Calls Try.prog 22 #[.string s, .func (.func 23) #[] #[]] w fun e w' => ∃ A, e = .returned (.slice (some ⟨A, 0, none⟩) (wrd s.data.toList).length (wrd s.data.toList).length) ∧ Ws w' (some ⟨A, 0, none⟩) (wrd s.data.toList) ∧ Below w.heap.size w w' ∧ Hid (w.heap.size ≤ A) := by
  refine (Try.strings_FieldsFunc_grows 23 #[] (enters_of Try.func23 (by kernel_rfl) rfl) spB s w (by omega) (cloS w)).mono ?_
  rw [fields_wrd s]
  rintro e w' ⟨A, rfl, h1, h2, h3⟩
  refine ⟨A, rfl, fun _ => ⟨A, 0, rfl, (h2.lt A rfl).2, fun k q hq => ?_⟩, h3, Lib.hid (h2.lt A rfl).1⟩
  have hk : k < (wrd s.data.toList).length := (List.getElem?_eq_some_iff.1 hq).1
  have := h2.cellAt k (by omega)
  rw [Nat.zero_add, this, List.getElem?_map, hq]
  rfl
theorem split_any (s : ByteArray) (w : World) (hs : s.size ≤ 1000) :
    Calls Try.prog 14 #[.string s] w fun e w' => ∃ A, e = .returned (.slice (some ⟨A, 0, none⟩) (wrd s.data.toList).length (wrd s.data.toList).length) ∧ Ws w' (some ⟨A, 0, none⟩) (wrd s.data.toList) ∧ Below w.heap.size w w' ∧ Hid (w.heap.size ≤ A) := by
  have hF := FFs s w hs
  generalize wrd s.data.toList = L at hF ⊢
  go_enter Try.func14, Try.ntmps14
  go_wp2_with (go_at_call 22; refine hF.mono ?_; rintro e w' ⟨A, rfl, h2, h3, h4⟩)
  go_ret
  exact ⟨A, rfl, h2, h3, h4⟩
theorem Index_any (s : ByteArray) (w : World) : Calls Try.prog 30 #[.string s, .string ⟨#[10]⟩] w fun e w' => e = .returned (.int .i64 (indexByte s.data.toList 10)) ∧ w' = w := Try.stringslite_Index_one s 10 w
theorem Cut_lite (s : ByteArray) (w : World) (h : ¬ 0 ≤ indexByte s.data.toList 10) :
    Calls Try.prog 21 #[.string s, .string ⟨#[10]⟩] w fun e w' => e = .returned (.tuple #[.string s, .string ⟨#[]⟩, .bool false]) ∧ w' = w := by
  have hI := Index_any s
  generalize indexByte s.data.toList 10 = I at hI h
  go_enter Try.func21, Try.ntmps21
  go_wp2_with (go_at_call 30; refine (hI _).mono ?_; rintro e w' ⟨rfl, rfl⟩)
  go_ret3
  exact ⟨rfl, rfl⟩
theorem Cut_no (s : ByteArray) (w : World) (h : ¬ 0 ≤ indexByte s.data.toList 10) :
    Calls Try.prog 13 #[.string s, .string ⟨#[10]⟩] w fun e w' => e = .returned (.tuple #[.string s, .string ⟨#[]⟩, .bool false]) ∧ w' = w := by
  have hI := fun w => Cut_lite s w h
  clear h
  go_enter Try.func13, Try.ntmps13
  go_wp2_with (go_at_call 21; refine (hI _).mono ?_; rintro e w' ⟨rfl, rfl⟩)
  go_ret3
  exact ⟨rfl, rfl⟩
theorem Cut_liteY (s : ByteArray) (w : World) (i : Nat) (hi : i < s.size) (hs : s.size ≤ 1000) (h : indexByte s.data.toList 10 = i) :
    Calls Try.prog 21 #[.string s, .string ⟨#[10]⟩] w fun e w' => e = .returned (.tuple #[.string (s.extract 0 i), .string (s.extract (i + 1) s.size), .bool true]) ∧ ∃ n, w' = w.drewN n := by
  have hI := Index_any s
  rw [h] at hI
  clear h
  have hi1 : (i : Int) + 1 ≤ (s.size : Int) := by omega
  have hi2 : (i : Int) ≤ (s.size : Int) := by omega
  have hi3 : i + 1 ≤ s.size := by omega
  have hi4 : i ≤ s.size := by omega
  have mixed : Try.prog.follows Departure.mixedOrders = true := by kernel_rfl
  have hw1 : IntKind.i64.wrap ((i : Int) + 1) = ((i + 1 : Nat) : Int) := by rw [IntKind.wrap_i64]; omega
  have hi5 : ((i + 1 : Nat) : Int) ≤ (s.size : Int) := by omega
  have hi6 : (0 : Int) ≤ ((i + 1 : Nat) : Int) := by omega
  have hi7 : (0 : Int) ≤ (i : Int) := by omega
  go_enter Try.func21, Try.ntmps21
  go_wp2_with (go_at_call 30; refine (hI _).mono ?_; rintro e w' ⟨rfl, rfl⟩)
  go_region_o
  go_wp2
  go_ret3
  exact ⟨rfl, 1, rfl⟩
theorem Cut_yes (s : ByteArray) (w : World) (i : Nat) (hi : i < s.size) (hs : s.size ≤ 1000) (h : indexByte s.data.toList 10 = i) :
    Calls Try.prog 13 #[.string s, .string ⟨#[10]⟩] w fun e w' => e = .returned (.tuple #[.string (s.extract 0 i), .string (s.extract (i + 1) s.size), .bool true]) ∧ ∃ n, w' = w.drewN n := by
  have hI := fun w => Cut_liteY s w i hi hs h
  clear h
  go_enter Try.func13, Try.ntmps13
  go_wp2_with (go_at_call 21; refine (hI _).mono ?_; rintro e w' ⟨rfl, n, rfl⟩)
  go_ret3
  exact ⟨rfl, n, rfl⟩
theorem wordOf_any (k : Nat) (w : World) (h1 : 1 ≤ k) (h2 : k ≤ 9) : Calls Try.prog 31 #[.int .i64 k] w fun e w' => e = .returned (.string (kwB k)) ∧ w' = w := by
  rcases (by omega : k = 1 ∨ k = 2 ∨ k = 3 ∨ k = 4 ∨ k = 5 ∨ k = 6 ∨ k = 7 ∨ k = 8 ∨ k = 9) with rfl | rfl | rfl | rfl | rfl | rfl | rfl | rfl | rfl
  all_goals
    go_enter Try.func31, Try.ntmps31
    go_wp2
    go_ret
    exact ⟨rfl, rfl⟩
theorem isW_eq (k : Nat) (q : ByteArray) : ((kwB k).toList == q.toList) = isW k q := by
  unfold isW kwB
  rw [ByteArray.toList_eq, ByteArray.toList_eq]
theorem kindF_succ (q : ByteArray) (f k : Nat) : kindF q (f + 1) k = if isW k q = true then k else kindF q f (k + 1) := rfl
theorem kindOf_any (q : ByteArray) (w : World) : Calls Try.prog 24 #[.string q] w fun e w' => e = .returned (.int .i64 (kindS q)) ∧ w' = w := by
  obtain ⟨K, hK⟩ : ∃ K, K = kindS q := ⟨_, rfl⟩
  rw [← hK]
  have HK := Lib.hid hK
  clear hK
  go_enter Try.func24, Try.ntmps24
  go_wp2_with fail
  go_loopw [3] (fun i wr => Hid (∃ k : Nat, 1 ≤ k ∧ k ≤ 10 ∧ i = .int .i64 k ∧ wr = w ∧ K = kindF q (10 - k) k)) (fun i _ => 10 - (intOf i).toNat)
  case atStart => exact Lib.hid ⟨1, by omega, by omega, rfl, by first | rfl | trivial, HK.out⟩
  case round =>
    obtain ⟨k, h1, h2, rfl, rfl, hk⟩ := hrel.out
    clear hrel
    have HKF := Lib.hid hk
    clear hk
    by_cases hlt : (k : Int) ≤ 9
    · have hW := wordOf_any k wr h1 (by omega)
      have hne := isW_eq k q
      obtain ⟨b, hb⟩ : ∃ b, b = isW k q := ⟨_, rfl⟩
      rw [← hb] at hne
      have HB := Lib.hid hb
      clear hb
      generalize kwB k = p at hW hne
      cases b
      · go_wp2_with (go_at_call 31; refine hW.mono ?_; rintro e w' ⟨rfl, rfl⟩)
        go_roundw
        case rel =>
          refine Lib.hid ⟨k + 1, by omega, by omega, by go_num, by first | rfl | trivial, ?_⟩
          rw [HKF.out, show 10 - k = (10 - (k + 1)) + 1 by omega, kindF_succ, ← HB.out]
          rfl
        case measure => simp [intOf]; omega
      · go_wp2_with (go_at_call 31; refine hW.mono ?_; rintro e w' ⟨rfl, rfl⟩)
        go_ret
        refine ⟨?_, by first | rfl | trivial⟩
        rw [HKF.out, show 10 - k = (10 - (k + 1)) + 1 by omega, kindF_succ, ← HB.out]
        rfl
    · have e : k = 10 := by omega
      subst e
      go_wp2
      go_ret
      refine ⟨?_, by first | rfl | trivial⟩
      rw [HKF.out]
      rfl
def fldB (k : Nat) : ByteArray := ⟨(flds k).toArray⟩
theorem Fields_any (k : Nat) (w : World) (h1 : 1 ≤ k) (h2 : k ≤ 9) : Calls Try.prog 32 #[.int .i64 k] w fun e w' => e = .returned (.string (fldB k)) ∧ w' = w := by
  rcases (by omega : k = 1 ∨ k = 2 ∨ k = 3 ∨ k = 4 ∨ k = 5 ∨ k = 6 ∨ k = 7 ∨ k = 8 ∨ k = 9) with rfl | rfl | rfl | rfl | rfl | rfl | rfl | rfl | rfl
  all_goals
    go_enter Try.func32, Try.ntmps32
    go_wp2
    go_ret
    exact ⟨rfl, rfl⟩
end Go.Proofs.Ytfbedlhigggggaa.Sp
namespace Go.Proofs.Ytfbedlhigggggaa.Sp
open Go Go.RowKit Go.Lib Go.Proofs.Ytfbedlhigggggaa Go.Proofs.Ytfbedlhigggggaa.Crw Go.Proofs.Ytfbedlhigggggaa.Vl Go.ChangeShapes Go.WideShapes Go.ChangeAt
set_option linter.unusedVariables false
set_option maxRecDepth 100000
theorem int_infoD : (Try.prog.info? 3).map (fun i => (i.zero, i.size, i.bytes)) = some (some (.int .i64 0), 1, 8) := by kernel_rfl
def NumPost (w : World) (L : List ByteArray) (e : Ending) (w' : World) : Prop := Below w.heap.size w w' ∧ match numsS L with
  | some l => ∃ v, e = .returned (.tuple #[v, .bool true]) ∧ w'.ownsRow w.heap.size 3 1 v l.length (l.map (Value.int .i64))
  | none => ∃ v, e = .returned (.tuple #[v, .bool false])
theorem numsS_cons (q : ByteArray) (r : List ByteArray) : numsS (q :: r) = if (numS q.data.toList).2 = true then (numsS r).map ((numS q.data.toList).1 :: ·) else none := rfl
theorem numsS_drop (L : List ByteArray) (k : Nat) (q : ByteArray) (h : L[k]? = some q) : numsS (L.drop k) = if (numS q.data.toList).2 = true then (numsS (L.drop (k + 1))).map ((numS q.data.toList).1 :: ·) else none := by
  obtain ⟨h1, h2⟩ := List.getElem?_eq_some_iff.1 h
  rw [List.drop_eq_getElem_cons h1, h2, numsS_cons]
set_option maxHeartbeats 4000000 in
theorem numbers_any (Ad : Option Addr) (c : Nat) (L : List ByteArray) (w : World) (hL : L.length ≤ 1001) (hq : ∀ q ∈ L, q.size ≤ 1000) (hs : Ws w Ad L) :
    Calls Try.prog 26 #[.slice Ad L.length c] w (NumPost w L) := by
  obtain ⟨m, hm⟩ : ∃ m, m = L.length := ⟨_, rfl⟩
  have hm1 : m ≤ 1001 := by omega
  rw [← hm]
  have HM := Lib.hid hm
  have HS := Lib.hid hs
  have HQ := Lib.hid hq
  clear hs hm hL hq
  go_enter Try.func26, Try.ntmps26
  go_wp2_with fail
  go_loopw [4, 11] (fun l i wr => Hid (∃ (k : Nat) (xs : List Int), k ≤ m ∧ i = .int .i64 k ∧ xs.length = k ∧ wr.ownsRow w.heap.size 3 1 l k (xs.map (Value.int .i64)) ∧ Below w.heap.size w wr ∧ numsS L = (numsS (L.drop k)).map (xs ++ ·))) (fun _ i _ => m - (intOf i).toNat)
  case atStart => exact Lib.hid ⟨0, [], by omega, rfl, rfl, World.ownsRow_nil _ _ _ _, Below.refl _ _, by simp⟩
  case round =>
    obtain ⟨k, xs, hk, rfl, hx, ho, hb, hsp⟩ := hrel.out
    clear hrel
    obtain ⟨A4, c4, rfl, -, -⟩ := own_slice ho
    have HO := Lib.hid ho
    have HB := Lib.hid hb
    have HSP := Lib.hid hsp
    clear ho hb hsp
    by_cases hlt : (k : Int) < (m : Int)
    · obtain ⟨q, hq⟩ : ∃ q, L[k]? = some q := ⟨L[k]'(by have := HM.out; omega), List.getElem?_eq_getElem _⟩
      obtain ⟨g, o, rfl, hgl, hc⟩ := (HS.out.below HB.out) (by intro e; rw [e] at hq; simp at hq)
      have hc := hc k q hq
      have hqs := HQ.out q (List.mem_of_getElem? hq)
      have HDR := Lib.hid (numsS_drop L k q hq)
      have hN := fun wa => Number_any q wa (by unfold maxLen; omega)
      obtain ⟨z, hz⟩ : ∃ z, z = numS q.data.toList := ⟨_, rfl⟩
      rw [← hz] at hN
      have HZ := Lib.hid hz
      clear hz hq hqs
      obtain ⟨z1, z2⟩ := z
      obtain ⟨ii, hii, hi0, hi1, hi2⟩ := info_parts int_infoD
      have hmx : 1001 ≤ maxLen := by decide
      clear hgl
      cases z2
      · go_wp2_with (go_at_call 7; refine (hN _).mono ?_; rintro e w2 ⟨rfl, rfl⟩)
        go_ret2
        refine ⟨HB.out, ?_⟩
        rw [HSP.out, HDR.out, ← HZ.out]
        exact ⟨_, rfl⟩
      · go_wp2_with (first | (go_at_call 7; refine (hN _).mono ?_; rintro e w2 ⟨rfl, rfl⟩) | (at_builtin; refine wpList_append_own _ rfl _ _ 22 rfl w.heap.size 3 ii (.int .i64 0) 1 8 Try.underlying22 hii hi0 hi1 hi2 rfl (by decide) _ _ _ rfl (HO.out.alloc _) ⟨_, 0, none⟩ 1 1 [.int .i64 z1] rfl rfl (cell_one_new _ _ _) (one_cell_int _ _) (by simp only [maxLen]; omega) (by omega) (by have := HB.out.size; simp; omega) ?_; intro v1 w1 hown1 hg1 _hne; have hbe1 := push_below HB.out HB.out.size HO.out _ hg1))
        go_roundw
        case rel =>
          refine Lib.hid ⟨k + 1, xs ++ [z1], by omega, by go_num, by simp [hx], by simpa using hown1, hbe1, ?_⟩
          rw [HSP.out, HDR.out, ← HZ.out]
          simp
          rfl
        case measure => simp [intOf]; omega
    · have e : k = m := by omega
      subst e
      go_wp2
      go_ret2
      refine ⟨HB.out, ?_⟩
      have h1 : L.drop k = [] := List.drop_of_length_le (by have := HM.out; omega)
      rw [HSP.out, h1]
      refine ⟨_, rfl, ?_⟩
      have := HO.out
      simpa [hx] using this
/-! A message in memory. -/
def mc (m : Mg) (v : Value) : Array Value := #[.int .i64 m.k, .string m.F, .string m.E, .string m.T, .int .i64 m.N, .int .i64 m.S, .int .i64 m.U, .int .i64 m.P, v]
def SetPost (w : World) (g : Nat) (v : Value) (m : Mg) (c : UInt8) (q : ByteArray) (e : Ending) (w' : World) : Prop := Vol (· = g) w w' ∧ match setM m c q with
  | some m' => e = .returned (.bool true) ∧ Blk w' g 40 (mc m' v)
  | none => e = .returned (.bool false) ∧ ∃ cs, Blk w' g 40 cs ∧ cs.size = 9
theorem vol_cell {w : World} {g i : Nat} (u : Value) : Vol (· = g) w (w.setCell ⟨g, i, none⟩ u) := by
  have := only_setCell (p := ⟨g, i, none⟩) (World.grownBy.refl w (some g)) (.inl rfl) u
  exact (Vol.refl w).grown this (fun k hk => .inl (by injection hk with hk; exact hk.symm))
set_option maxHeartbeats 4000000 in
theorem set_any (m : Mg) (v : Value) (c : UInt8) (q : ByteArray) (g : Nat) (w : World) (hc : c ∈ [(70 : UInt8), 69, 84, 78, 83, 85, 80]) (hq : q.size ≤ 1000) (hb : Blk w g 40 (mc m v)) :
    Calls Try.prog 34 #[.pointer (some ⟨g, 0, none⟩), .int .i32 c.toNat, .string q] w (SetPost w g v m c q) := by
  have f0 := hb.frozen
  have hN := fun wa => Number_any q wa (by unfold maxLen; omega)
  obtain ⟨z, hz⟩ : ∃ z, z = numS q.data.toList := ⟨_, rfl⟩
  rw [← hz] at hN
  have HZ := Lib.hid hz
  clear hz
  obtain ⟨z1, z2⟩ := z
  have c0 : w.cell? ⟨g, 0, none⟩ = _ := hb.cell 0
  have c1 : w.cell? ⟨g, 1, none⟩ = _ := hb.cell 1
  have c2 : w.cell? ⟨g, 2, none⟩ = _ := hb.cell 2
  have c3 : w.cell? ⟨g, 3, none⟩ = _ := hb.cell 3
  have c4 : w.cell? ⟨g, 4, none⟩ = _ := hb.cell 4
  have c5 : w.cell? ⟨g, 5, none⟩ = _ := hb.cell 5
  have c6 : w.cell? ⟨g, 6, none⟩ = _ := hb.cell 6
  have c7 : w.cell? ⟨g, 7, none⟩ = _ := hb.cell 7
  have HB := Lib.hid hb
  clear hb
  simp only [List.mem_cons, List.not_mem_nil, or_false] at hc
  rcases hc with rfl | rfl | rfl | rfl | rfl | rfl | rfl
  · go_enter Try.func34, Try.ntmps34
    go_wp2_with fail
    go_ret
    exact ⟨vol_cell _, rfl, HB.out.set_ 1 _⟩
  · go_enter Try.func34, Try.ntmps34
    go_wp2_with fail
    go_ret
    exact ⟨vol_cell _, rfl, HB.out.set_ 2 _⟩
  · go_enter Try.func34, Try.ntmps34
    go_wp2_with fail
    go_ret
    exact ⟨vol_cell _, rfl, HB.out.set_ 3 _⟩
  all_goals
    cases z2
    · go_enter Try.func34, Try.ntmps34
      go_wp2_with (go_at_call 7; refine (hN _).mono ?_; rintro e w2 ⟨rfl, rfl⟩)
      go_ret
      refine ⟨vol_cell _, ?_⟩
      first
        | (have e : setM m 78 q = none := by unfold setM; rw [← HZ.out]; rfl
           rw [e]; exact ⟨rfl, _, HB.out.set_ 4 _, rfl⟩)
        | (have e : setM m 83 q = none := by unfold setM; rw [← HZ.out]; rfl
           rw [e]; exact ⟨rfl, _, HB.out.set_ 5 _, rfl⟩)
        | (have e : setM m 85 q = none := by unfold setM; rw [← HZ.out]; rfl
           rw [e]; exact ⟨rfl, _, HB.out.set_ 6 _, rfl⟩)
        | (have e : setM m 80 q = none := by unfold setM; rw [← HZ.out]; rfl
           rw [e]; exact ⟨rfl, _, HB.out.set_ 7 _, rfl⟩)
    · go_enter Try.func34, Try.ntmps34
      go_wp2_with (go_at_call 7; refine (hN _).mono ?_; rintro e w2 ⟨rfl, rfl⟩)
      go_ret
      refine ⟨vol_cell _, ?_⟩
      first
        | (have e : setM m 78 q = some { m with N := z1 } := by unfold setM; rw [← HZ.out]; rfl
           rw [e]; exact ⟨rfl, HB.out.set_ 4 _⟩)
        | (have e : setM m 83 q = some { m with S := z1 } := by unfold setM; rw [← HZ.out]; rfl
           rw [e]; exact ⟨rfl, HB.out.set_ 5 _⟩)
        | (have e : setM m 85 q = some { m with U := z1 } := by unfold setM; rw [← HZ.out]; rfl
           rw [e]; exact ⟨rfl, HB.out.set_ 6 _⟩)
        | (have e : setM m 80 q = some { m with P := z1 } := by unfold setM; rw [← HZ.out]; rfl
           rw [e]; exact ⟨rfl, HB.out.set_ 7 _⟩)
end Go.Proofs.Ytfbedlhigggggaa.Sp
namespace Go.Proofs.Ytfbedlhigggggaa
open Go.ChangeShapes Go.WideShapes Go.ChangeAt Go.RowKit
open Ieee (Datum)
set_option maxRecDepth 100000

theorem fw1000 : fw 1000 = 4652007308841189376 := by decide +kernel
theorem fw100000 : fw 100000 = 4681608360884174848 := by decide +kernel
set_option maxHeartbeats 400000 in
theorem Trunc_any {x : Nat} {s : Bool} {v : Nat} (h : FV x s v) (w : World) : Calls Try.prog 66 #[.float .f64 x] w fun e w' => e = .returned (.float .f64 (W s (v / U) 0)) ∧ w = w' := by
  have hd := run_trunc (P := Try.prog) (f := 67) (fn := Try.f67) Try.func67 (by kernel_rfl) (by kernel_rfl) (by kernel_rfl) (by kernel_rfl) h w
  go_enter Try.func66, Try.ntmps66
  go_wp2
  go_ret
  exact ⟨rfl, rfl⟩
theorem order_nan {x y : Nat} {s : Bool} {t : Nat} (h : Ieee.double.read x = .nan s t) : FloatKind.f64.format.order x y = none := by
  show (Ieee.double.read x).order (Ieee.double.read y) = none
  rw [h]; rfl
theorem order_inf {x y : Nat} {s t : Bool} {v : Nat} (h : Ieee.double.read x = .infinity s) (hy : FV y t v) : FloatKind.f64.format.order x y = some (if s then .lt else .gt) := by
  obtain ⟨m, e, h2, _, _⟩ := hy
  show (Ieee.double.read x).order (Ieee.double.read y) = _
  rw [h, h2]; rfl
set_option maxHeartbeats 800000 in
theorem integer_any (x M : Nat) (w : World) (hM : M < 2 ^ 53) : Calls Try.prog 65 #[.float .f64 x, .float .f64 (fw M)] w fun e w' => e = .returned (.bool (wOf x M)) ∧ w = w' := by
  have hm := fw_FV hM
  cases hr : Ieee.double.read x with
  | nan s t =>
    have h1 : (FloatKind.f64.format.order x 0 == some .gt || FloatKind.f64.format.order x 0 == some .eq) = false := by rw [order_nan hr]; rfl
    have hw : wOf x M = false := by unfold wOf; rw [hr]
    rw [hw]
    go_enter Try.func65, Try.ntmps65
    go_wp2
    go_ret
    exact ⟨rfl, rfl⟩
  | infinity s =>
    have hw : wOf x M = false := by unfold wOf; rw [hr]
    rw [hw]
    cases s with
    | true =>
      have h1 : (FloatKind.f64.format.order x 0 == some .gt || FloatKind.f64.format.order x 0 == some .eq) = false := by rw [order_inf hr zero_FV]; rfl
      go_enter Try.func65, Try.ntmps65
      go_wp2
      go_ret
      exact ⟨rfl, rfl⟩
    | false =>
      have h1 : (FloatKind.f64.format.order x 0 == some .gt || FloatKind.f64.format.order x 0 == some .eq) = true := by rw [order_inf hr zero_FV]; rfl
      have h2 : (FloatKind.f64.format.order x (fw M) == some .lt || FloatKind.f64.format.order x (fw M) == some .eq) = false := by rw [order_inf hr hm]; rfl
      go_enter Try.func65, Try.ntmps65
      go_wp2
      go_ret
      exact ⟨rfl, rfl⟩
  | number s m e =>
    have hf := FV.of hr
    generalize m * 2 ^ (e + 1074).toNat = v at hf
    have h1 := o_geq hf zero_FV
    have h2 := o_leq hf hm
    rw [wOf_FV hf]
    have hU := U_pos
    by_cases c1 : s = false ∨ v = 0
    · have c1' : sv false 0 ≤ sv s v := by rcases c1 with rfl | rfl <;> simp [sv]
      rw [decide_eq_true c1'] at h1
      by_cases c2 : v ≤ M * U
      · have c2' : sv s v ≤ sv false (M * U) := by
          rcases c1 with rfl | rfl
          · simp only [sv, Bool.false_eq_true, if_false]; omega
          · have : sv s 0 = 0 := by cases s <;> rfl
            rw [this]; simp only [sv, Bool.false_eq_true, if_false]; omega
        rw [decide_eq_true c2'] at h2
        have hq : v / U < 2 ^ 53 := by
          have : v / U ≤ M := by
            have := Nat.div_le_div_right (c := U) c2
            rwa [Nat.mul_div_cancel _ hU] at this
          omega
        have hW := W_FV s hq (show 0 ≤ 1000 by omega)
        rw [show (2 : Nat) ^ (LP - 0) = U by unfold U; rw [Nat.sub_zero]] at hW
        have h3 := o_eql hf hW
        have h4 : decide (sv s v = sv s (v / U * U)) = decide ((s = false ∨ v = 0) ∧ v ≤ M * U ∧ v % U = 0) := by
          have hd := Nat.div_add_mod v U
          rw [Nat.mul_comm] at hd
          rw [decide_eq_decide]
          constructor
          · intro h
            refine ⟨c1, c2, ?_⟩
            have : v = v / U * U := by
              unfold sv at h
              generalize v / U * U = q at *
              cases s <;> simp at h <;> omega
            omega
          · rintro ⟨_, _, h⟩
            have : v / U * U = v := by omega
            rw [this]
        rw [h4] at h3
        go_enter Try.func65, Try.ntmps65
        go_wp2_with (go_at_call 66; refine (Trunc_any hf _).mono ?_; rintro e w' ⟨rfl, rfl⟩)
        go_ret
        exact ⟨ret_bool (by simp [c1, c2]), rfl⟩
      · have c2' : ¬ sv s v ≤ sv false (M * U) := by
          rcases c1 with rfl | rfl
          · simp only [sv, Bool.false_eq_true, if_false]; omega
          · omega
        rw [decide_eq_false c2'] at h2
        rw [decide_eq_false (fun h => c2 h.2.1)]
        go_enter Try.func65, Try.ntmps65
        go_wp2
        go_ret
        exact ⟨rfl, rfl⟩
    · have c1' : ¬ sv false 0 ≤ sv s v := by
        cases s
        · simp at c1
        · simp [sv] at c1 ⊢; omega
      rw [decide_eq_false c1'] at h1
      rw [decide_eq_false (fun h => c1 h.1)]
      go_enter Try.func65, Try.ntmps65
      go_wp2
      go_ret
      exact ⟨rfl, rfl⟩
def bigN (x y M : Nat) : Bool := wOf x M && wOf y M
set_option maxHeartbeats 400000 in
theorem whole_any (x y M : Nat) (w : World) (hM : M < 2 ^ 53) : Calls Try.prog 64 #[.complex .f64 x y, .float .f64 (fw M)] w fun e w' => e = .returned (.bool (bigN x y M)) ∧ w = w' := by
  unfold bigN
  cases h1 : wOf x M
  all_goals
    go_enter Try.func64, Try.ntmps64
    go_wp2_with (go_at_call 65; refine (integer_any _ _ _ hM).mono ?_; rintro e w' ⟨rfl, rfl⟩)
    go_ret
    exact ⟨rfl, rfl⟩
def rightN (x y : Nat) : Bool := bigN x y 1000 && !(nOf x == 0 && nOf y == 0)
theorem eq0 {x : Nat} (h : wOf x 1000 = true) : (FloatKind.f64.format.order x 0 == some .eq) = (nOf x == 0) := by
  obtain ⟨s, n, hf, hs, _, hn⟩ := wOf_true h
  rw [o_eql hf zero_FV, hn]
  have hU := U_pos
  rcases Nat.eq_zero_or_pos n with h0 | h0
  · subst h0
    rw [Nat.zero_mul]
    cases s <;> rfl
  · have := Nat.mul_pos h0 hU
    have h1 : (n == 0) = false := by simp; omega
    rw [h1, decide_eq_false]
    unfold sv
    split <;> simp <;> omega
set_option maxHeartbeats 400000 in
theorem NRight_any (x y : Nat) (w : World) : Calls Try.prog 61 #[.complex .f64 x y] w fun e w' => e = .returned (.bool (rightN x y)) ∧ w = w' := by
  have hk := fun w => whole_any x y 1000 w (by omega)
  rw [fw1000] at hk
  unfold rightN
  cases h1 : bigN x y 1000
  · rw [h1] at hk
    go_enter Try.func61, Try.ntmps61
    go_wp2_with (go_at_call 64; refine (hk _).mono ?_; rintro e w' ⟨rfl, rfl⟩)
    go_ret
    exact ⟨rfl, rfl⟩
  · rw [h1] at hk
    unfold bigN at h1
    rw [Bool.and_eq_true] at h1
    have e1 := eq0 h1.1
    have e2 := eq0 h1.2
    have hb : (binOp .neq 61 (.complex .f64 x y) (.complex .f64 0 0)) = pure (.bool (!(nOf x == 0 && nOf y == 0))) := by
      simp [binOp, Op.complexOp, Op.Complex.cmp, Op.floatCmp, asBool, e1, e2]
    go_enter Try.func61, Try.ntmps61
    go_wp2_with (go_at_call 64; refine (hk _).mono ?_; rintro e w' ⟨rfl, rfl⟩)
    go_ret
    exact ⟨ret_bool (by simp), rfl⟩
theorem part_any (n : Int) (w : World) : Calls Try.prog 53 #[.int .i64 n] w fun e w' => e = .returned (.bool (decide (0 ≤ n ∧ n ≤ 100000))) ∧ w = w' := by
  by_cases h : 0 ≤ n
  all_goals
    go_enter Try.func53, Try.ntmps53
    go_wp2
    go_ret
    exact ⟨ret_bool (by first | (simp [h]; done) | (rw [decide_eq_false (show ¬ (0 ≤ n) by omega)]; rfl)), rfl⟩
def ofW (a b n : Int) : Nat := if (0 ≤ a ∧ a ≤ 100000) ∧ 0 ≤ b ∧ b ≤ 100000 then fw n.toNat else 0
set_option maxHeartbeats 400000 in
theorem Of_any (a b : Int) (w : World) : Calls Try.prog 44 #[.int .i64 a, .int .i64 b] w fun e w' => e = .returned (.complex .f64 (ofW a b a) (ofW a b b)) ∧ w = w' := by
  unfold ofW
  by_cases h1 : 0 ≤ a ∧ a ≤ 100000
  · have k1 := decide_eq_true h1
    by_cases h2 : 0 ≤ b ∧ b ≤ 100000
    · have k2 := decide_eq_true h2
      have e1 := ofInt_fw (n := a) (by omega)
      have e2 := ofInt_fw (n := b) (by omega)
      rw [if_pos ⟨h1, h2⟩, if_pos ⟨h1, h2⟩, ← e1, ← e2]
      clear e1 e2
      go_enter Try.func44, Try.ntmps44
      go_wp2_with (go_at_call 53; refine (part_any _ _).mono ?_; rintro e w' ⟨rfl, rfl⟩)
      go_ret
      exact ⟨rfl, rfl⟩
    · have k2 := decide_eq_false h2
      rw [if_neg (fun h => h2 h.2), if_neg (fun h => h2 h.2)]
      go_enter Try.func44, Try.ntmps44
      go_wp2_with (go_at_call 53; refine (part_any _ _).mono ?_; rintro e w' ⟨rfl, rfl⟩)
      go_ret
      exact ⟨rfl, rfl⟩
  · have k1 := decide_eq_false h1
    rw [if_neg (fun h => h1 h.1), if_neg (fun h => h1 h.1)]
    go_enter Try.func44, Try.ntmps44
    go_wp2_with (go_at_call 53; refine (part_any _ _).mono ?_; rintro e w' ⟨rfl, rfl⟩)
    go_ret
    exact ⟨rfl, rfl⟩
end Go.Proofs.Ytfbedlhigggggaa
namespace Go.Proofs.Ytfbedlhigggggaa.Sp
open Go Go.RowKit Go.Lib Go.Proofs.Ytfbedlhigggggaa Go.Proofs.Ytfbedlhigggggaa.Crw Go.Proofs.Ytfbedlhigggggaa.Vl Go.ChangeShapes Go.WideShapes Go.ChangeAt
set_option linter.unusedVariables false
set_option maxRecDepth 100000
theorem cells_new (W : World) (xs : List Value) (t : TypeId) : ∀ (j : Nat) (u : Value), xs[j]? = some u → (W.alloc (.cells xs.toArray t)).cell? ((⟨W.heap.size, 0, none⟩ : Addr).add j) = some u := by
  intro j u hu
  have h := (Blk.new W t xs.toArray).cell j
  have e : ((⟨W.heap.size, 0, none⟩ : Addr).add j) = ⟨W.heap.size, j, none⟩ := by
    unfold Addr.add; split <;> simp_all
  rw [e, h]
  simpa using hu
theorem reads_row (W : World) (xs : List Value) (t : TypeId) {n z : Nat} (hn : xs.length = n * z) : Reads (W.alloc (.cells xs.toArray t)) (W.heap.size + 1) z (some ⟨W.heap.size, 0, none⟩) n xs :=
  ⟨hn, fun _ => ⟨_, rfl, Nat.lt_succ_self _, cells_new W xs t⟩⟩
theorem cell_alloc_old {w : World} {b i : Nat} (h : b < w.heap.size) (o : Obj) : (w.alloc o).cell? ⟨b, i, none⟩ = w.cell? ⟨b, i, none⟩ := ((Below.refl w.heap.size w).alloc (Nat.le_refl _) o).cell (p := ⟨b, i, none⟩) h
theorem grown_cell {w w' : World} {r : Option Nat} {b i : Nat} (hg : w.grownBy w' r) (h : b < w.heap.size) (hn : some b ≠ r) : w'.cell? ⟨b, i, none⟩ = w.cell? ⟨b, i, none⟩ := by
  have := hg.block b h hn
  simp [World.cell?, this]
theorem item_infoE : (Try.prog.info? 63).map (fun i => (i.zero, i.size, i.bytes)) = some (some (.agg #[.string ⟨#[]⟩, .complex .f64 0 0]), 2, 32) := by kernel_rfl
def itZ : Value := .agg #[.string ⟨#[]⟩, .complex .f64 0 0]
/-- An item's cells, as the program makes them. -/
def itV (i : Itm) : List Value := [.string i.t, .complex .f64 (ofW i.a i.b i.a) (ofW i.a i.b i.b)]
def itsV (l : List Itm) : List Value := l.flatMap itV
theorem itV_one (i : Itm) : ∀ u ∈ itV i, u.oneCell' = true := by
  intro u hu; simp [itV] at hu; rcases hu with rfl | rfl <;> rfl
theorem itsV_app (a b : List Itm) : itsV (a ++ b) = itsV a ++ itsV b := by unfold itsV; rw [List.flatMap_append]
theorem itsV_single (i : Itm) : itsV [i] = itV i := by simp [itsV]
theorem itsV_len (l : List Itm) : (itsV l).length = l.length * 2 := by
  induction l with
  | nil => rfl
  | cons a r ih =>
    show (itV a ++ itsV r).length = _
    rw [List.length_append, ih, List.length_cons]
    simp [itV]
    omega
theorem ofW_zero : ofW 0 0 0 = 0 := by unfold ofW; simp [fw_zero]
def ItPost (w : World) (k : Nat) (L : List ByteArray) (e : Ending) (w' : World) : Prop := Below w.heap.size w w' ∧ match itS k L with
  | some l => ∃ v, e = .returned (.tuple #[v, .bool true]) ∧ w'.ownsRow w.heap.size 63 2 v l.length (itsV l)
  | none => ∃ v, e = .returned (.tuple #[v, .bool false])
theorem push_b {base : Nat} {a w w' : World} {row : Option Nat} (h : Below base a w) (hg : w.grownBy w' row) (hr : ∀ k, row = some k → base ≤ k) (hs : base ≤ w.heap.size) : Below base a w' :=
  ⟨hg.os.trans h.os, hg.tape.trans h.tape, hg.output.trans h.output, Nat.le_trans h.size hg.size, fun b hb => (hg.block b (Nat.lt_of_lt_of_le hb hs) (fun e => by have := hr b e.symm; omega)).trans (h.block b hb)⟩
set_option maxHeartbeats 8000000 in
theorem parseItemsA (k : Nat) (hk1 : k ≠ 1) (hkb : k ≤ 9) (Ad : Option Addr) (c : Nat) (L : List ByteArray) (w : World) (hL : L.length ≤ 1001) (hs : Ws w Ad L) :
    Calls Try.prog 33 #[.int .i64 k, .slice Ad L.length c] w (ItPost w k L) := by
  obtain ⟨m, hm⟩ : ∃ m, m = L.length := ⟨_, rfl⟩
  have hm1 : m ≤ 1001 := by omega
  have hk2 : ((k : Int) != 1) = true := by simp; omega
  rw [← hm]
  have HIT : Hid (itS k L = some (itA L)) := Lib.hid (if_neg hk1)
  have HM := Lib.hid hm
  have HS := Lib.hid hs
  clear hs hm hL hk1 hkb
  obtain ⟨i0, hi0, hz0, hz1, hz2⟩ := info_parts item_infoE
  have hmx : 1001 ≤ maxLen := by decide
  go_enter Try.func33, Try.ntmps33
  go_wp2_with fail
  go_loopw [6, 15] (fun l i wr => Hid (∃ (k : Nat), k ≤ m ∧ i = .int .i64 k ∧ wr.ownsRow w.heap.size 63 2 l k (itsV (itA (L.take k))) ∧ Below w.heap.size w wr)) (fun _ i _ => m - (intOf i).toNat)
  case atStart => exact Lib.hid ⟨0, by omega, rfl, World.ownsRow_nil _ _ _ _, Below.refl _ _⟩
  case round =>
    obtain ⟨j, hk, rfl, ho, hb⟩ := hrel.out
    clear hrel
    obtain ⟨A4, c4, rfl, -, -⟩ := own_slice ho
    have HO := Lib.hid ho
    have HB := Lib.hid hb
    clear ho hb
    by_cases hlt : (j : Int) < (m : Int)
    · obtain ⟨q, hq⟩ : ∃ q, L[j]? = some q := ⟨L[j]'(by have := HM.out; omega), List.getElem?_eq_getElem _⟩
      obtain ⟨g, o, rfl, hgl, hc⟩ := (HS.out.below HB.out) (by intro e; rw [e] at hq; simp at hq)
      have hc := hc j q hq
      have HQ := Lib.hid hq
      clear hq hgl
      go_wp2_with (at_builtin; refine wpList_append_own _ rfl _ _ 38 rfl w.heap.size 63 i0 itZ 2 32 Try.underlying38 hi0 hz0 hz1 hz2 rfl (by decide) _ _ _ rfl (HO.out.alloc _) ⟨_, 0, none⟩ 1 1 (itV ⟨q, 0, 0⟩) rfl (by rw [itV, ofW_zero]; rfl) (by rw [itV, ofW_zero]; exact cells_new _ _ _) (itV_one _) (by simp only [maxLen]; omega) (by omega) (by have := HB.out.size; simp; omega) ?_; intro v1 w1 hown1 hg1 _hne; have hbe1 := push_b (HB.out.alloc HB.out.size _) hg1 (fun k hk => (HO.out.lt k hk).1) (by have := HB.out.size; simp; omega))
      go_roundw
      case rel =>
        refine Lib.hid ⟨j + 1, by omega, by go_num, ?_, hbe1⟩
        rw [List.take_add_one, HQ.out]
        simp only [itA, List.map_append, itsV_app, Option.toList, List.map_cons, List.map_nil, itsV_single]
        exact hown1
      case measure => simp [intOf]; omega
    · have e : j = m := by omega
      subst e
      go_wp2
      go_ret2
      refine ⟨HB.out, ?_⟩
      rw [HIT.out]
      refine ⟨_, rfl, ?_⟩
      have := HO.out
      rw [List.take_of_length_le (by have := HM.out; omega)] at this
      rw [show (itA L).length = j by simp [itA, ← HM.out]]
      exact this
theorem own2 {w : World} {B : Nat} {v : Value} {x y : Int} (h : w.ownsRow B 3 1 v 2 [.int .i64 x, .int .i64 y]) : ∃ gl cl, v = .slice (some ⟨gl, 0, none⟩) 2 cl ∧ B ≤ gl ∧ gl < w.heap.size ∧ w.cell? ⟨gl, 0, none⟩ = some (.int .i64 x) ∧ w.cell? ⟨gl, 1, none⟩ = some (.int .i64 y) := by
  rcases h.2 with ⟨_, h0⟩ | ⟨g, cap, cur, rfl, h2, h3, h4, h5, h6, h7⟩
  · cases h0
  · have hb : Blk w g 3 cur := h3
    have hx : ∀ j, j < 2 → cur[j]? = [Value.int .i64 x, .int .i64 y][j]? := fun j hj => by
      rw [← h7, List.getElem?_take, if_pos (by omega)]; simp
    refine ⟨g, cap, rfl, h2, hb.lt, ?_, ?_⟩
    · rw [hb.cell, hx 0 (by omega)]; rfl
    · rw [hb.cell, hx 1 (by omega)]; rfl
theorem ws_grown {w w' : World} {r Ad : Option _} {L : List ByteArray} (h : Ws w Ad L) (hg : w.grownBy w' r) (hn : ∀ g o, Ad = some ⟨g, o, none⟩ → some g ≠ r) : Ws w' Ad L := fun hl => by
  obtain ⟨g, o, h1, h2, h3⟩ := h hl
  exact ⟨g, o, h1, Nat.lt_of_lt_of_le h2 hg.size, fun k q hq => (grown_cell hg h2 (hn g o h1)).trans (h3 k q hq)⟩
def lenV : Value → Nat
  | .slice _ n _ => n
  | _ => 0
theorem itR_cons3 (a b c : ByteArray) (r : List ByteArray) : itR (a :: b :: c :: r) = if (numS b.data.toList).2 = true ∧ (numS c.data.toList).2 = true then (itR r).map (fun l => ⟨a, (numS b.data.toList).1, (numS c.data.toList).1⟩ :: l) else none := rfl
theorem nums2 (b c : ByteArray) : numsS [b, c] = if (numS b.data.toList).2 = true ∧ (numS c.data.toList).2 = true then some [(numS b.data.toList).1, (numS c.data.toList).1] else none := by
  rw [numsS_cons, numsS_cons]
  cases (numS b.data.toList).2 <;> cases (numS c.data.toList).2 <;> rfl
theorem itR_short {L : List ByteArray} (h : L.length < 3) : itR L = if L.length = 0 then some [] else none := by
  rcases L with _ | ⟨a, _ | ⟨b, _ | ⟨c, r⟩⟩⟩
  · rfl
  · rfl
  · rfl
  · simp at h; omega
set_option maxHeartbeats 8000000 in
theorem parseItemsR (Ad : Option Addr) (c : Nat) (L : List ByteArray) (w : World) (hL : L.length ≤ 1001) (hc : L.length ≤ c) (hc2 : c ≤ 1001) (hq : ∀ q ∈ L, q.size ≤ 1000) (hs : Ws w Ad L) :
    Calls Try.prog 33 #[.int .i64 1, .slice Ad L.length c] w (ItPost w 1 L) := by
  have HS := Lib.hid hs
  have HQ := Lib.hid hq
  obtain ⟨m, hm⟩ : ∃ m, m = L.length := ⟨_, rfl⟩
  rw [← hm] at hL hc ⊢
  have HM := Lib.hid hm
  clear hs hq hm
  obtain ⟨i0, hi0, hz0, hz1, hz2⟩ := info_parts item_infoE
  have hmx : 1001 ≤ maxLen := by decide
  go_enter Try.func33, Try.ntmps33
  go_wp2_with fail
  go_loopw [1, 6] (fun s l wr => Hid (∃ (M : List ByteArray) (A : Option Addr) (n c' N : Nat) (xs : List Itm), s = .slice A n c' ∧ n = M.length ∧ n ≤ c' ∧ c' ≤ 1001 ∧ N + n ≤ m ∧ Ws wr A M ∧ (∀ q ∈ M, q.size ≤ 1000) ∧ N = xs.length ∧ wr.ownsRow w.heap.size 63 2 l N (itsV xs) ∧ Below w.heap.size w wr ∧ (∀ g o, A = some ⟨g, o, none⟩ → M ≠ [] → g < w.heap.size) ∧ itR L = (itR M).map (xs ++ ·) ∧ ∃ w7, w7 = wr)) (fun s _ _ => lenV s)
  case atStart => exact Lib.hid ⟨L, Ad, m, c, 0, [], rfl, HM.out, hc, hc2, by omega, HS.out, HQ.out, rfl, World.ownsRow_nil _ _ _ _, Below.refl _ _, fun g o e hne => by obtain ⟨g', o', h1, h2, _⟩ := HS.out hne; rw [e] at h1; injection h1 with h1; injection h1 with h1 _; rw [h1]; exact h2, by simp, _, rfl⟩
  case round =>
    obtain ⟨M, A, n, c', N, xs, rfl, hn, hnc, hc', hNn, hws, hqs, hN, ho, hb, hgb, hsp, w7, hw7⟩ := hrel.out
    subst hw7
    clear hrel
    obtain ⟨Ai, ci, rfl, -, -⟩ := own_slice ho
    have HO := Lib.hid ho
    have HB := Lib.hid hb
    have HSP := Lib.hid hsp
    have HNX := Lib.hid hN
    clear ho hb hsp hN
    by_cases h3 : 3 ≤ n
    · obtain ⟨qa, qb, qc, R, rfl⟩ : ∃ a b c R, M = a :: b :: c :: R := by
        rcases M with _ | ⟨a, _ | ⟨b, _ | ⟨c, r⟩⟩⟩
        · simp at hn; omega
        · simp at hn; omega
        · simp at hn; omega
        · exact ⟨a, b, c, r, rfl⟩
      obtain ⟨g, o, rfl, hgl, hcell⟩ := hws (by simp)
      have hgw := hgb g o rfl (by simp)
      have c0 : w7.cell? ⟨g, o, none⟩ = some (.string qa) := hcell 0 qa rfl
      have hw2 : Ws w7 (some ⟨g, o + 1, none⟩) [qb, qc] := Ws.drop (L := [qb, qc]) (n := 0) (fun _ => ⟨g, o + 1, rfl, hgl, fun k q hq => by
        have := hcell (k + 1) q (by rcases k with _ | _ | k <;> simp_all)
        rw [show o + 1 + k = o + (k + 1) by omega]; exact this⟩) rfl (fun _ => rfl)
      have hS3 := itR_cons3 qa qb qc R
      obtain ⟨p1, hp1⟩ : ∃ z, z = numS qb.data.toList := ⟨_, rfl⟩
      obtain ⟨p2, hp2⟩ : ∃ z, z = numS qc.data.toList := ⟨_, rfl⟩
      have hnm := fun wa (hba : Ws wa (some ⟨g, o + 1, none⟩) [qb, qc]) => numbers_any (some ⟨g, o + 1, none⟩) (c' - 1) [qb, qc] wa (by simp) (fun q hq => hqs q (by simp at hq ⊢; rcases hq with rfl | rfl <;> simp)) hba
      rw [← hp1, ← hp2] at hS3
      have hn2 := nums2 qb qc
      rw [← hp1, ← hp2] at hn2
      clear hp1 hp2
      have HW2 := Lib.hid hw2
      have HNM := Lib.hid hnm
      have HC0 := Lib.hid c0
      have HWS := Lib.hid hws
      have HQS := Lib.hid hqs
      have HNN := Lib.hid hn
      have HGW := Lib.hid hgw
      have HGL7 := Lib.hid hgl
      clear hw2 hnm hws hqs hn hgb hcell hgw hgl c0
      have hc1 : ¬ c' = 1 := by omega
      have h3i : (3 : Int) ≤ (n : Int) := by omega
      have h3c : 3 ≤ c' := by omega
      have h0n : 0 < n := by omega
      have h0c : 0 < c' := by omega
      have h3n : 3 ≤ n := h3
      have h3ci : (3 : Int) ≤ (c' : Int) := by omega
      have HS3 := Lib.hid hS3
      have HN2 := Lib.hid hn2
      clear hS3 hn2
      by_cases hok : p1.2 = true ∧ p2.2 = true
      · obtain ⟨x, hx⟩ : ∃ x, x = p1.1 := ⟨_, rfl⟩
        obtain ⟨y, hy⟩ : ∃ y, y = p2.1 := ⟨_, rfl⟩
        have HS4 : Hid (itR (qa :: qb :: qc :: R) = (itR R).map (fun l => ⟨qa, x, y⟩ :: l)) := by show _ = _; rw [HS3.out, if_pos hok, hx, hy]
        have HN4 : Hid (numsS [qb, qc] = some [x, y]) := by show _ = _; rw [HN2.out, if_pos hok, hx, hy]
        clear HS3 HN2 hok hx hy
        go_upto_region 12 with (go_at_call 26; refine (HNM.out _ HW2.out).mono ?_; rintro e w2 ⟨hb2, hp2⟩; rw [HN4.out] at hp2; obtain ⟨v2, rfl, ho2⟩ := hp2; obtain ⟨gl, cl, rfl, hgl2, hlt2, cx, cy⟩ := own2 ho2; clear ho2)
        have HB2 := Lib.hid (HB.out.trans (hb2.mono HB.out.size))
        have HO2 := Lib.hid (own_keep HO.out hb2)
        have HGL : Hid (g < w2.heap.size ∧ gl < w2.heap.size) := Lib.hid ⟨Nat.lt_of_lt_of_le HGL7.out hb2.size, hlt2⟩
        have HNE : Hid (some g ≠ (Value.slice Ai N ci).ownBlock ∧ some gl ≠ (Value.slice Ai N ci).ownBlock) := Lib.hid ⟨fun e => by have := (HO.out.lt _ e.symm).1; have := HGW.out; omega, fun e => by have := (HO.out.lt _ e.symm).2; omega⟩
        have HS := (show w2.drew.cell? ⟨g, o, none⟩ = some (.string qa) ∧ w2.drew.cell? ⟨gl, 0, none⟩ = some (.int .i64 x) ∧ w2.drew.cell? ⟨gl, 1, none⟩ = some (.int .i64 y) from ⟨(hb2.cell (p := ⟨g, o, none⟩) HGL7.out).trans HC0.out, cx, cy⟩)
        have HWS2 := Lib.hid (HWS.out.below hb2)
        clear hb2 cx cy hgl2 hlt2
        go_upto_region 14 with fail
        refine wp_region_noPanic ?_
        refine wp_region_held_drew (S := fun wa => wa.cell? ⟨g, o, none⟩ = some (.string qa) ∧ wa.cell? ⟨gl, 0, none⟩ = some (.int .i64 x) ∧ wa.cell? ⟨gl, 1, none⟩ = some (.int .i64 y)) (by kernel_rfl) HS (fun hHeld => ?_)
        refine wpAnyH_take (i := 0) (oi := ?ois1) (v := ?vs1) ?his1 (by kernel_rfl) (by kernel_rfl) (by kernel_rfl) (fun _ _ _ h => h) ?hys1 HS ?rests1
        case his1 => (simp only [List.getElem?_toArray, List.getElem?_cons_zero]; try rfl)
        case hys1 => (refine Or.inl ⟨by rfl, ?_⟩; intro w hSw; go_simp; (try with_reducible rfl))
        try simp only [Act.put, List.setIfInBounds_toArray, List.set_cons_zero, List.set_cons_succ]
        refine wpAnyH_take (i := 1) (oi := ?ois2) (v := ?vs2) ?his2 (by kernel_rfl) (by kernel_rfl) (by kernel_rfl) (fun _ _ _ h => h) ?hys2 HS ?rests2
        case his2 => (simp only [List.getElem?_toArray, List.getElem?_cons_succ, List.getElem?_cons_zero]; try rfl)
        case hys2 => (refine Or.inl ⟨by rfl, ?_⟩; intro w hSw; go_simp; (try with_reducible rfl))
        try simp only [Act.put, List.setIfInBounds_toArray, List.set_cons_zero, List.set_cons_succ]
        refine wpAnyH_take (i := 2) (oi := ?ois3) (v := ?vs3) ?his3 (by kernel_rfl) (by kernel_rfl) (by kernel_rfl) (fun _ _ _ h => h) ?hys3 HS ?rests3
        case his3 => (simp only [List.getElem?_toArray, List.getElem?_cons_succ, List.getElem?_cons_zero]; try rfl)
        case hys3 => (refine Or.inl ⟨by rfl, ?_⟩; intro w hSw; go_simp; (try with_reducible rfl))
        try simp only [Act.put, List.setIfInBounds_toArray, List.set_cons_zero, List.set_cons_succ]
        refine wpAnyH_take (i := 3) (oi := ?ois4) (v := ?vs4) ?his4 (by kernel_rfl) (by kernel_rfl) (by kernel_rfl) (fun _ _ _ h => h) ?hys4 HS ?rests4
        case his4 => (simp only [List.getElem?_toArray, List.getElem?_cons_succ, List.getElem?_cons_zero]; try rfl)
        case hys4 => (refine Or.inl ⟨by rfl, ?_⟩; intro w hSw; have q := hSw.1; go_simp; (try with_reducible rfl))
        try simp only [Act.put, List.setIfInBounds_toArray, List.set_cons_zero, List.set_cons_succ]
        refine wpAnyH_take (i := 4) (oi := ?ois5) (v := ?vs5) ?his5 (by kernel_rfl) (by kernel_rfl) (by kernel_rfl) (fun _ _ _ h => h) ?hys5 HS ?rests5
        case his5 => (simp only [List.getElem?_toArray, List.getElem?_cons_succ, List.getElem?_cons_zero]; try rfl)
        case hys5 => (refine Or.inl ⟨by rfl, ?_⟩; intro w hSw; go_simp; (try with_reducible rfl))
        try simp only [Act.put, List.setIfInBounds_toArray, List.set_cons_zero, List.set_cons_succ]
        refine wpAnyH_take (i := 5) (oi := ?ois6) (v := ?vs6) ?his6 (by kernel_rfl) (by kernel_rfl) (by kernel_rfl) (fun _ _ _ h => h) ?hys6 HS ?rests6
        case his6 => (simp only [List.getElem?_toArray, List.getElem?_cons_succ, List.getElem?_cons_zero]; try rfl)
        case hys6 => (refine Or.inl ⟨by rfl, ?_⟩; intro w hSw; go_simp; (try with_reducible rfl))
        try simp only [Act.put, List.setIfInBounds_toArray, List.set_cons_zero, List.set_cons_succ]
        refine wpAnyH_take (i := 6) (oi := ?ois7) (v := ?vs7) ?his7 (by kernel_rfl) (by kernel_rfl) (by kernel_rfl) (fun _ _ _ h => h) ?hys7 HS ?rests7
        case his7 => (simp only [List.getElem?_toArray, List.getElem?_cons_succ, List.getElem?_cons_zero]; try rfl)
        case hys7 => (refine Or.inl ⟨by rfl, ?_⟩; intro w hSw; have q := hSw.2.1; go_simp; (try with_reducible rfl))
        try simp only [Act.put, List.setIfInBounds_toArray, List.set_cons_zero, List.set_cons_succ]
        refine wpAnyH_take (i := 7) (oi := ?ois8) (v := ?vs8) ?his8 (by kernel_rfl) (by kernel_rfl) (by kernel_rfl) (fun _ _ _ h => h) ?hys8 HS ?rests8
        case his8 => (simp only [List.getElem?_toArray, List.getElem?_cons_succ, List.getElem?_cons_zero]; try rfl)
        case hys8 => (refine Or.inl ⟨by rfl, ?_⟩; intro w hSw; go_simp; (try with_reducible rfl))
        try simp only [Act.put, List.setIfInBounds_toArray, List.set_cons_zero, List.set_cons_succ]
        refine wpAnyH_take (i := 8) (oi := ?ois9) (v := ?vs9) ?his9 (by kernel_rfl) (by kernel_rfl) (by kernel_rfl) (fun _ _ _ h => h) ?hys9 HS ?rests9
        case his9 => (simp only [List.getElem?_toArray, List.getElem?_cons_succ, List.getElem?_cons_zero]; try rfl)
        case hys9 => (refine Or.inl ⟨by rfl, ?_⟩; intro w hSw; go_simp; (try with_reducible rfl))
        try simp only [Act.put, List.setIfInBounds_toArray, List.set_cons_zero, List.set_cons_succ]
        refine wpAnyH_take (i := 9) (oi := ?ois10) (v := ?vs10) ?his10 (by kernel_rfl) (by kernel_rfl) (by kernel_rfl) (fun _ _ _ h => h) ?hys10 HS ?rests10
        case his10 => (simp only [List.getElem?_toArray, List.getElem?_cons_succ, List.getElem?_cons_zero]; try rfl)
        case hys10 => (refine Or.inl ⟨by rfl, ?_⟩; intro w hSw; have q := hSw.2.2; go_simp; (try with_reducible rfl))
        try simp only [Act.put, List.setIfInBounds_toArray, List.set_cons_zero, List.set_cons_succ]
        refine wpAnyH_ready (rs := [10]) (by kernel_rfl) (by simp) ?_
        refine AllReadyH.cons (o := ?ois11) ?his11 (fun K hK => ?sts11) AllReadyH.nil
        case his11 => (simp only [List.getElem?_toArray, List.getElem?_cons_succ, List.getElem?_cons_zero]; try rfl)
        go_simp
        go_at_call 44
        refine (Of_any x y _).mono ?_
        rintro e9 w8 ⟨rfl, hw8⟩
        try dsimp only
        subst hw8
        refine hK.out _ _ HS (fun _ => ?rss11)
        clear hK K
        try simp only [Act.put, List.setIfInBounds_toArray, List.set_cons_zero, List.set_cons_succ]
        refine wpAnyH_take (i := 11) (oi := ?ois12) (v := ?vs12) ?his12 (by kernel_rfl) (by kernel_rfl) (by kernel_rfl) (fun _ _ _ h => h) ?hys12 HS ?rests12
        case his12 => (simp only [List.getElem?_toArray, List.getElem?_cons_succ, List.getElem?_cons_zero]; try rfl)
        case hys12 => (refine Or.inl ⟨by rfl, ?_⟩; intro w hSw; go_simp; (try with_reducible rfl))
        try simp only [Act.put, List.setIfInBounds_toArray, List.set_cons_zero, List.set_cons_succ]
        refine wpAnyH_ready (rs := [12]) (by kernel_rfl) (by simp) ?_
        refine AllReadyH.cons (o := ?ois13) ?his13 (fun K hK => ?sts13) AllReadyH.nil
        case his13 => (simp only [List.getElem?_toArray, List.getElem?_cons_succ, List.getElem?_cons_zero]; try rfl)
        go_simp
        try dsimp only
        have HSa := (show (w2.drew.alloc (.cells #[.string qa, .complex .f64 (ofW x y x) (ofW x y y)] 63)).cell? ⟨g, o, none⟩ = some (.string qa) ∧ (w2.drew.alloc (.cells #[.string qa, .complex .f64 (ofW x y x) (ofW x y y)] 63)).cell? ⟨gl, 0, none⟩ = some (.int .i64 x) ∧ (w2.drew.alloc (.cells #[.string qa, .complex .f64 (ofW x y x) (ofW x y y)] 63)).cell? ⟨gl, 1, none⟩ = some (.int .i64 y) from ⟨(cell_alloc_old HGL.out.1 _).trans HS.1, (cell_alloc_old HGL.out.2 _).trans HS.2.1, (cell_alloc_old HGL.out.2 _).trans HS.2.2⟩)
        refine hK.out _ _ HSa (fun _ => ?rss13)
        clear hK K
        try simp only [Act.put, List.setIfInBounds_toArray, List.set_cons_zero, List.set_cons_succ]
        refine wpAnyH_ready (rs := [13]) (by kernel_rfl) (by simp) ?_
        refine AllReadyH.cons (o := ?ois14) ?his14 (fun K hK => ?sts14) AllReadyH.nil
        case his14 => (simp only [List.getElem?_toArray, List.getElem?_cons_succ, List.getElem?_cons_zero]; try rfl)
        refine step_append_any _ rfl (.tmp 39) (.tmp 51) 38 rfl w.heap.size 63 i0 itZ 2 32 Try.underlying38 hi0 hz0 hz1 hz2 rfl (by decide) (.slice Ai N ci) N (itsV xs) (by first | (simp [Act.eval]; done) | (simp [Act.eval, Act.put]; done)) (HO2.out.drew.alloc _) (w2.heap.size + 1) (some ⟨w2.heap.size, 0, none⟩) 1 1 (itV ⟨qa, x, y⟩) (by first | (simp [Act.eval]; done) | (simp [Act.eval, Act.put]; done)) (reads_row w2.drew _ _ rfl) (itV_one _) (by simp only [maxLen]; omega) (by omega) (by have := HB2.out.size; simp at this ⊢; omega) ?_
        intro v9 w9 hown9 hg9 hn9
        try dsimp only
        have HS9 := (show w9.cell? ⟨g, o, none⟩ = some (.string qa) ∧ w9.cell? ⟨gl, 0, none⟩ = some (.int .i64 x) ∧ w9.cell? ⟨gl, 1, none⟩ = some (.int .i64 y) from ⟨(grown_cell hg9 (by simp; have := HGL.out.1; omega) (fun e => HNE.out.1 (by simpa using e))).trans HSa.1, (grown_cell hg9 (by simp; have := HGL.out.2; omega) (fun e => HNE.out.2 (by simpa using e))).trans HSa.2.1, (grown_cell hg9 (by simp; have := HGL.out.2; omega) (fun e => HNE.out.2 (by simpa using e))).trans HSa.2.2⟩)
        refine hK.out _ _ HS9 (fun _ => ?rss14)
        clear hK K
        try simp only [Act.put, List.setIfInBounds_toArray, List.set_cons_zero, List.set_cons_succ]
        refine wpAnyH_take (i := 14) (oi := ?ois15) (v := ?vs15) ?his15 (by kernel_rfl) (by kernel_rfl) (by kernel_rfl) (fun _ _ _ h => h) ?hys15 HS9 ?rests15
        case his15 => (simp only [List.getElem?_toArray, List.getElem?_cons_succ, List.getElem?_cons_zero]; try rfl)
        case hys15 => (refine Or.inl ⟨by rfl, ?_⟩; intro w hSw; go_simp; (try with_reducible rfl))
        try simp only [Act.put, List.setIfInBounds_toArray, List.set_cons_zero, List.set_cons_succ]
        refine wpAnyH_done (by kernel_rfl) ?_ _
        refine NoPanic.normal ?_
        go_wp2_with fail
        case _ =>
          refine ⟨Lib.hid ⟨R, _, n - 3, c' - 3, N + 1, xs ++ [⟨qa, x, y⟩], rfl, by have := HNN.out; simp at this; omega, by omega, by omega, by omega, ?_, fun q hq => HQS.out q (by simp [hq]), by simp [HNX.out], ?_, ?_, ?_, ?_, _, rfl⟩, by simp [lenV]; omega⟩
          · have hw9 : Ws w9 (some ⟨g, o, none⟩) (qa :: qb :: qc :: R) := ws_grown ((HWS2.out.below (Below.refl _ _).drew).below ((Below.refl _ _).alloc (Nat.le_refl _) _)) hg9 (fun g' o' e => by injection e with e; injection e with e _; subst e; exact HNE.out.1)
            refine hw9.drop (n := 3) (by simp) (fun hne => ?_)
            rw [if_neg]
            intro e
            subst e
            apply hne
            have := HNN.out
            simp at this
            exact List.eq_nil_of_length_eq_zero (by omega)
          · rw [itsV_app, itsV_single]
            exact hown9
          · exact push_b ((HB2.out.trans ((Below.refl _ _).drew.mono HB2.out.size)).alloc (by have := HB2.out.size; simpa using this) _) hg9 (fun k hk => (HO2.out.lt k hk).1) (by have := HB2.out.size; simp; omega)
          · intro g' o' e _
            have : g' = g := by
              split at e
              · injection e with e; injection e with e _; exact e.symm
              · injection e with e; injection e with e _; exact e.symm
            rw [this]
            exact HGW.out
          · rw [HSP.out, HS4.out, Option.map_map]
            congr 1
            funext l
            simp
      · have HN4 : Hid (numsS [qb, qc] = none) := by show _ = _; rw [HN2.out, if_neg hok]
        have HS4 : Hid (itR (qa :: qb :: qc :: R) = none) := by show _ = _; rw [HS3.out, if_neg hok]
        clear HS3 HN2 hok
        go_wp2_with (go_at_call 26; refine (HNM.out _ HW2.out).mono ?_; rintro e w2 ⟨hb2, hp2⟩; rw [HN4.out] at hp2; obtain ⟨v2, rfl⟩ := hp2; have HB2 := Lib.hid (HB.out.trans (hb2.mono HB.out.size)); clear hb2)
        go_ret2
        refine ⟨HB2.out, ?_⟩
        rw [show itS 1 L = itR L from rfl, HSP.out, HS4.out]
        exact ⟨_, rfl⟩
    · have h3i : ¬ (3 : Int) ≤ (n : Int) := by omega
      obtain ⟨bz, hbz⟩ : ∃ b : Bool, b = ((n : Int) == 0) := ⟨_, rfl⟩
      have HN0 := Lib.hid (show M.length < 3 by omega)
      have HNM := Lib.hid hn
      have HBZ := Lib.hid hbz
      clear hws hqs hn hgb
      go_wp2_with fail
      go_ret2
      refine ⟨HB.out, ?_⟩
      rw [show itS 1 L = itR L from rfl, HSP.out, itR_short HN0.out, ← HNM.out]
      by_cases h0 : n = 0
      · rw [if_pos h0]
        subst h0
        refine ⟨_, rfl, ?_⟩
        simp only [List.append_nil]
        rw [← HNX.out]
        exact HO.out
      · rw [if_neg h0]
        refine ⟨.slice Ai N ci, ?_⟩
        first
          | rfl
          | (have : ((n : Int) == 0) = false := by simp; omega
             rw [this]; rfl)
end Go.Proofs.Ytfbedlhigggggaa.Sp
namespace Go.Proofs.Ytfbedlhigggggaa.Sp
open Go Go.RowKit Go.Lib Go.Proofs.Ytfbedlhigggggaa Go.Proofs.Ytfbedlhigggggaa.Crw Go.Proofs.Ytfbedlhigggggaa.Vl Go.ChangeShapes Go.WideShapes Go.ChangeAt
set_option linter.unusedVariables false
set_option maxRecDepth 100000
/-- Items in memory, to be read; φ: the words of an item's need. -/
def Its (φ : Itm → Nat × Nat) (w : World) (v : Value) (l : List Itm) : Prop := ∃ A c, v = .slice A l.length c ∧ (l ≠ [] → ∃ g, A = some ⟨g, 0, none⟩ ∧ g < w.heap.size ∧ ∀ (k : Nat) (i : Itm), l[k]? = some i → w.cell? ⟨g, k * 2, none⟩ = some (.string i.t) ∧ w.cell? ⟨g, k * 2 + 1, none⟩ = some (.complex .f64 (φ i).1 (φ i).2))
def pw (i : Itm) : Nat × Nat := (ofW i.a i.b i.a, ofW i.a i.b i.b)
def itsF (φ : Itm → Nat × Nat) (l : List Itm) : List Value := l.flatMap fun i => [.string i.t, .complex .f64 (φ i).1 (φ i).2]
theorem itsF_at (φ : Itm → Nat × Nat) : ∀ (l : List Itm) (k : Nat) (i : Itm), l[k]? = some i → (itsF φ l)[k * 2]? = some (.string i.t) ∧ (itsF φ l)[k * 2 + 1]? = some (.complex .f64 (φ i).1 (φ i).2)
  | [], k, i, h => by simp at h
  | a :: r, 0, i, h => by
    simp at h
    subst h
    exact ⟨rfl, rfl⟩
  | a :: r, k + 1, i, h => by
    have := itsF_at φ r k i (by simpa using h)
    rw [show (k + 1) * 2 = k * 2 + 2 by omega, show k * 2 + 2 + 1 = (k * 2 + 1) + 2 by omega]
    exact this
theorem Its.of_own {φ : Itm → Nat × Nat} {w : World} {B : Nat} {e : TypeId} {v : Value} {l : List Itm} (h : w.ownsRow B e 2 v l.length (itsF φ l)) : Its φ w v l := by
  rcases h.2 with ⟨rfl, h0⟩ | ⟨g, cap, cur, rfl, h2, h3, h4, h5, h6, h7⟩
  · exact ⟨none, 0, by rw [h0], fun hne => absurd (List.eq_nil_of_length_eq_zero h0) hne⟩
  · have hb : Blk w g e cur := h3
    refine ⟨_, cap, rfl, fun _ => ⟨g, rfl, hb.lt, fun k i hi => ?_⟩⟩
    have hl : k < l.length := (List.getElem?_eq_some_iff.1 hi).1
    obtain ⟨h8, h9⟩ := itsF_at φ l k i hi
    rw [← h7] at h8 h9
    rw [List.getElem?_take, if_pos (by omega)] at h8 h9
    exact ⟨by rw [hb.cell, ← h8]; simp, by rw [hb.cell, ← h9]; simp⟩
theorem Its.keep {φ : Itm → Nat × Nat} {w w' : World} {v : Value} {l : List Itm} (h : Its φ w v l) (hs : w.heap.size ≤ w'.heap.size) (hk : ∀ g, v.ownBlock = some g → g < w.heap.size → w'.heap[g]? = w.heap[g]?) : Its φ w' v l := by
  obtain ⟨A, c, rfl, h2⟩ := h
  refine ⟨A, c, rfl, fun hne => ?_⟩
  obtain ⟨g, rfl, hg, h3⟩ := h2 hne
  refine ⟨g, rfl, Nat.lt_of_lt_of_le hg hs, fun k i hi => ?_⟩
  have e := hk g rfl hg
  have := h3 k i hi
  simpa [World.cell?, e] using this
theorem Its.below {φ : Itm → Nat × Nat} {w w' : World} {v : Value} {l : List Itm} (h : Its φ w v l) (hb : Below w.heap.size w w') : Its φ w' v l := h.keep hb.size (fun g _ hg => hb.block g hg)
theorem Its.nil (φ : Itm → Nat × Nat) (w : World) : Its φ w (.slice none 0 0) [] := ⟨none, 0, rfl, fun h => absurd rfl h⟩
theorem str_infoF : (Try.prog.info? 9).map (fun i => (i.zero, i.size, i.bytes)) = some (some (.string ⟨#[]⟩), 1, 16) := by kernel_rfl
theorem mk_names (n : Nat) (h : n ≤ 4) (W : World) : (Instr.makeSlice 36 (.int .i64 (n : Int)) (.int .i64 (n : Int))).run Try.prog W = .ok (.slice (some ⟨W.heap.size, 0, none⟩) n n) (W.alloc (.cells (madeCells #[.string ⟨#[]⟩] n) 9)) := by
  obtain ⟨i0, hi, hz0, hz1, hz2⟩ := info_parts str_infoF
  have h := run_make_rowN (P := Try.prog) 36 9 i0 (.string ⟨#[]⟩) Try.underlying36 hi hz0 .i64 .i64 n n (Nat.le_refl _) (by rw [hz2]; omega) (by omega) W
  rw [hz1, Nat.mul_one] at h
  exact h
/-- The names so far. -/
def nmC (l : List Itm) (j : Nat) : Array Value := ((l.take j).map (fun i : Itm => Value.string i.t) ++ List.replicate (l.length - j) (Value.string ⟨#[]⟩)).toArray
theorem nmC_zero (l : List Itm) : madeCells #[.string ⟨#[]⟩] l.length = nmC l 0 := by
  have h : (madeCells #[.string ⟨#[]⟩] l.length).toList = (nmC l 0).toList := by rw [toList_madeCells_one]; simp [nmC]
  exact Array.toList_inj.1 h
theorem nmC_set (l : List Itm) (j : Nat) (i : Itm) (h : l[j]? = some i) : (nmC l j).setIfInBounds j (.string i.t) = nmC l (j + 1) := by
  have hj : j < l.length := (List.getElem?_eq_some_iff.1 h).1
  apply Array.toList_inj.1
  unfold nmC
  rw [List.take_add_one, h, Array.toList_setIfInBounds]
  obtain ⟨d, hd⟩ : ∃ d, l.length - j = d + 1 := ⟨l.length - j - 1, by omega⟩
  rw [hd, show l.length - (j + 1) = d by omega, List.replicate_succ]
  simp only [List.map_append, Option.toList, List.map_cons, List.map_nil]
  have hl : ((l.take j).map (fun i : Itm => Value.string i.t)).length = j := by simp; omega
  rw [List.set_append_right _ _ (by omega), hl]
  simp
theorem nmC_all (l : List Itm) : nmC l l.length = ((l.map (·.t)).map Value.string).toArray := by
  unfold nmC
  simp
theorem names_reads {w : World} {g : Nat} {xs : List ByteArray} (h : Blk w g 9 (xs.map Value.string).toArray) : Reads w w.heap.size 1 (some ⟨g, 0, none⟩) xs.length (xs.map Value.string) := by
  refine ⟨by simp, fun _ => ⟨_, rfl, h.lt, fun j u hu => ?_⟩⟩
  have e : ((⟨g, 0, none⟩ : Addr).add j) = ⟨g, j, none⟩ := by
    unfold Addr.add; split <;> simp_all
  rw [e, h.cell]
  simpa using hu
theorem itOk_big (k : Nat) (l : List Itm) (h : 4 < l.length) : itOk k l = false := by
  unfold itOk
  rw [decide_eq_false (show ¬ l.length ≤ 4 by omega)]
  simp
theorem itOk_none (k : Nat) (hk : k ≠ 5) : itOk k [] = false := by
  unfold itOk
  simp [hk]
theorem itOk_bad {k : Nat} {l : List Itm} (hk : k ≠ 5) (h : l.all rgt = false) : itOk k l = false := by
  unfold itOk
  simp [hk, h]
theorem itOk_run {k : Nat} {l : List Itm} (hk : k ≠ 5) (h1 : 1 ≤ l.length) (h2 : l.length ≤ 4) (h : l.all rgt = true) : itOk k l = allB (l.map (·.t)) := by
  unfold itOk
  simp [h, h1, h2]
theorem itOk_ask {l : List Itm} (h2 : l.length ≤ 4) : itOk 5 l = allB (l.map (·.t)) := by
  unfold itOk
  simp [h2]
theorem all_take {l : List Itm} {j : Nat} {i : Itm} (h : l[j]? = some i) (p : Itm → Bool) : (l.take (j + 1)).all p = ((l.take j).all p && p i) := by
  rw [List.take_add_one, h, List.all_append]; simp
theorem all_no {l : List Itm} {j : Nat} {i : Itm} (h : l[j]? = some i) {p : Itm → Bool} (hp : p i = false) : l.all p = false := by
  rw [List.all_eq_false]
  exact ⟨i, List.mem_of_getElem? h, by simp [hp]⟩
attribute [local go_sem] run_store_complex
theorem rightN_fw (a b : Nat) (ha : a < 2 ^ 53) (hb : b < 2 ^ 53) : rightN (fw a) (fw b) = decide (a ≤ 1000 ∧ b ≤ 1000 ∧ 0 < a + b) := by
  unfold rightN bigN
  rw [wOf_fw ha, wOf_fw hb, nOf_fw ha, nOf_fw hb, Bool.eq_iff_iff]
  simp
  omega
theorem rgt_pw (i : Itm) : rightN (pw i).1 (pw i).2 = rgt i := by
  unfold pw ofW rgt
  by_cases h : (0 ≤ i.a ∧ i.a ≤ 100000) ∧ 0 ≤ i.b ∧ i.b ≤ 100000
  · simp only [if_pos h]
    rw [rightN_fw _ _ (by omega) (by omega), Bool.eq_iff_iff]
    simp
    omega
  · simp only [if_neg h]
    rw [show rightN 0 0 = false by rw [← fw_zero, rightN_fw 0 0 (by decide) (by decide)]; rfl, Bool.eq_iff_iff]
    simp
    omega
set_option maxHeartbeats 8000000 in
theorem itemsRun (v : Value) (l : List Itm) (w : World) (hi : Its pw w v l) (hl : l.length ≤ 1001) (hq : ∀ i ∈ l, i.t.size ≤ 1000) :
    Calls Try.prog 57 #[.int .i64 1, v] w fun e w' => e = .returned (.bool (itOk 1 l)) ∧ Below w.heap.size w w' := by
  obtain ⟨A, c, rfl, hi⟩ := hi
  obtain ⟨n, hn⟩ : ∃ n, n = l.length := ⟨_, rfl⟩
  rw [← hn] at hl ⊢
  by_cases h1 : n < 1
  · have h0 : l = [] := List.eq_nil_of_length_eq_zero (by omega)
    subst h0
    rw [itOk_none 1 (by decide)]
    have e : n = 0 := by omega
    subst e
    clear hi hn
    go_enter Try.func57, Try.ntmps57
    go_wp2_with fail
    go_ret
    exact ⟨rfl, Below.refl _ _⟩
  by_cases h4 : 4 < n
  · rw [itOk_big 1 l (by omega)]
    have h1i : ¬ (n : Int) < 1 := by omega
    have h4i : (4 : Int) < (n : Int) := by omega
    clear hi hn
    go_enter Try.func57, Try.ntmps57
    go_wp2_with fail
    go_ret
    exact ⟨rfl, Below.refl _ _⟩
  have h1i : ¬ (n : Int) < 1 := by omega
  have h4i : ¬ (4 : Int) < (n : Int) := by omega
  obtain ⟨g, rfl, hg, hc⟩ := hi (by intro e; subst e; simp at hn; omega)
  have hmk := mk_names n (by omega)
  have HMK := Lib.hid (show madeCells #[.string ⟨#[]⟩] n = nmC l 0 by rw [hn]; exact nmC_zero l)
  have HN := Lib.hid hn
  have HC := Lib.hid hc
  have HQ := Lib.hid hq
  clear hn hc hi hq
  go_enter Try.func57, Try.ntmps57
  go_upto_region 10 with fail
  obtain ⟨gN, hgN⟩ : ∃ gN, gN = w.heap.size := ⟨_, rfl⟩
  obtain ⟨W, hW⟩ : ∃ W, W = w.alloc (.cells (madeCells #[.string ⟨#[]⟩] n) 9) := ⟨_, rfl⟩
  rw [← hW, ← hgN]
  have hb0 : Blk W gN 9 (nmC l 0) := by rw [hW, hgN, HMK.out]; exact Blk.new _ _ _
  have hbe0 : Below w.heap.size w W := by rw [hW]; exact (Below.refl _ _).alloc (Nat.le_refl _) _
  have HB0 := Lib.hid hb0
  have HBE0 := Lib.hid hbe0
  have HGN := Lib.hid hgN
  clear hW hb0 hbe0 hmk hgN
  go_wp2_with fail
  go_loopw [30] (fun i wr => Hid (∃ (j : Nat), j ≤ n ∧ i = .int .i64 j ∧ Blk wr gN 9 (nmC l j) ∧ Below w.heap.size w wr ∧ (l.take j).all rgt = true ∧ ∃ w7, w7 = wr)) (fun i _ => n - (intOf i).toNat)
  case atStart => exact Lib.hid ⟨0, by omega, rfl, HB0.out, HBE0.out, rfl, _, rfl⟩
  case round =>
    obtain ⟨j, hj, rfl, hb, hbe, hall, w7, hw7⟩ := hrel.out
    subst hw7
    clear hrel
    have HBN := Lib.hid hb
    have HBE := Lib.hid hbe
    have HAL := Lib.hid hall
    clear hb hbe hall
    by_cases hlt : (j : Int) < (n : Int)
    · obtain ⟨it, hit⟩ : ∃ i, l[j]? = some i := ⟨l[j]'(by have := HN.out; omega), List.getElem?_eq_getElem _⟩
      obtain ⟨c0, c1⟩ := HC.out j it hit
      have d0 := (HBE.out.cell (p := ⟨g, j * 2, none⟩) hg).trans c0
      have d1 := (HBE.out.cell (p := ⟨g, j * 2 + 1, none⟩) hg).trans c1
      have HIT := Lib.hid hit
      have hNR := fun wa => NRight_any (pw it).1 (pw it).2 wa
      rw [rgt_pw] at hNR
      obtain ⟨x, hx⟩ : ∃ x, x = (pw it).1 := ⟨_, rfl⟩
      obtain ⟨y, hy⟩ : ∃ y, y = (pw it).2 := ⟨_, rfl⟩
      rw [← hx, ← hy] at hNR d1
      clear c0 c1 hit hx hy
      go_upto_region 13 with fail
      obtain ⟨gI, hgI⟩ : ∃ g, g = w7.heap.size := ⟨_, rfl⟩
      obtain ⟨w8, hw8⟩ : ∃ W, W = w7.alloc (.cells #[.string it.t, .complex .f64 x y] 63) := ⟨_, rfl⟩
      rw [← hw8, ← hgI]
      have hbe8 : Below w7.heap.size w7 w8 := by rw [hw8]; exact (Below.refl _ _).alloc (Nat.le_refl _) _
      have hk8 : Blk w8 gI 63 #[.string it.t, .complex .f64 x y] := by rw [hw8, hgI]; exact Blk.new _ _ _
      have hN8 := HBN.out.below hbe8 HBN.out.lt
      have e0 : w8.cell? ⟨gI, 0, none⟩ = some (.string it.t) := hk8.cell 0
      have hf8 := hN8.frozen
      have hcN : ∃ u, w8.cell? ⟨gN, j, none⟩ = some u := by
        rw [hN8.cell]
        have : j < (nmC l j).size := by simp [nmC]; have := HN.out; omega
        exact ⟨_, Array.getElem?_eq_getElem this⟩
      obtain ⟨u0, hcN⟩ := hcN
      have hgne : gI ≠ gN := by have := HBN.out.lt; omega
      have HK8 := Lib.hid hk8
      have HN8 := Lib.hid hN8
      have HBE8 := Lib.hid (HBE.out.trans (hbe8.mono HBE.out.size))
      have HGNE := Lib.hid hgne
      clear hw8 hbe8 hk8 hN8 hgI hgne
      go_upto_region 14 with fail
      obtain ⟨w9, hw9⟩ : ∃ W, W = w8.setCell ⟨gN, j, none⟩ (.string it.t) := ⟨_, rfl⟩
      rw [← hw9]
      have hN9 : Blk w9 gN 9 (nmC l (j + 1)) := by rw [hw9, ← nmC_set l j it HIT.out]; exact HN8.out.set_ j _
      have hk9 : Blk w9 gI 63 #[.string it.t, .complex .f64 x y] := by rw [hw9]; exact HK8.out.far (p := ⟨gN, j, none⟩) (fun e => HGNE.out e) _
      have hbe9 : Below w.heap.size w w9 := by rw [hw9]; exact HBE8.out.setCell (by show w.heap.size ≤ gN; rw [HGN.out]; exact Nat.le_refl _) _
      have e1 : w9.cell? ⟨gI, 1, none⟩ = some (.complex .f64 x y) := hk9.cell 1
      have HN9 := Lib.hid hN9
      have HBE9 := Lib.hid hbe9
      clear hw9 hN9 hk9 hbe9 e0 hf8 hcN d0 d1
      cases hr : rgt it with
      | false =>
        have HR := Lib.hid hr
        rw [hr] at hNR
        clear hr
        go_wp2_with (go_at_call 61; refine (hNR _).mono ?_; rintro e w' ⟨rfl, rfl⟩)
        go_ret
        rw [itOk_bad (by decide) (all_no HIT.out HR.out)]
        exact ⟨rfl, HBE9.out⟩
      | true =>
        have HR := Lib.hid hr
        rw [hr] at hNR
        clear hr
        go_wp2_with (go_at_call 61; refine (hNR _).mono ?_; rintro e w' ⟨rfl, rfl⟩)
        go_roundw
        case rel => exact Lib.hid ⟨j + 1, by omega, by go_num, HN9.out, HBE9.out, by rw [all_take HIT.out, HAL.out, HR.out]; rfl, _, rfl⟩
        case measure => simp [intOf]; omega
    · have e : j = n := by omega
      subst e
      have hall := HAL.out
      rw [List.take_of_length_le (by have := HN.out; omega)] at hall
      have hOK := itOk_run (k := 1) (by decide) (by have := HN.out; omega) (by have := HN.out; omega) hall
      have hR : Reads w7 w7.heap.size 1 (some ⟨gN, 0, none⟩) j ((l.map (·.t)).map Value.string) := by
        have h := HBN.out
        have e : nmC l j = ((l.map (·.t)).map Value.string).toArray := by rw [HN.out]; exact nmC_all l
        rw [e] at h
        have := names_reads h
        rwa [List.length_map, ← HN.out] at this
      have hA := All_any (some ⟨gN, 0, none⟩) j j (l.map (·.t)) w7 hR (by omega) (fun s hs => by
        obtain ⟨i, hi, rfl⟩ := List.mem_map.1 hs
        have := HQ.out i hi
        unfold maxLen; omega)
      have HOK := Lib.hid hOK
      clear hall hOK hR
      go_wp2_with (go_at_call 62; refine hA.mono ?_; rintro e w8 ⟨rfl, hb8⟩; have HB8 := Lib.hid (HBE.out.trans (hb8.mono HBE.out.size)); clear hb8)
      go_ret
      rw [HOK.out]
      exact ⟨rfl, HB8.out⟩
set_option maxHeartbeats 8000000 in
theorem itemsAsk (v : Value) (l : List Itm) (w : World) (hi : Its (fun _ => (0, 0)) w v l) (hl : l.length ≤ 1001) (hq : ∀ i ∈ l, i.t.size ≤ 1000) :
    Calls Try.prog 57 #[.int .i64 5, v] w fun e w' => e = .returned (.bool (itOk 5 l)) ∧ Below w.heap.size w w' := by
  obtain ⟨A, c, rfl, hi⟩ := hi
  obtain ⟨n, hn⟩ : ∃ n, n = l.length := ⟨_, rfl⟩
  rw [← hn] at hl ⊢
  have h1i : ¬ (n : Int) < 0 := by omega
  by_cases h4 : 4 < n
  · rw [itOk_big 5 l (by omega)]
    have h4i : (4 : Int) < (n : Int) := by omega
    clear hi hn
    go_enter Try.func57, Try.ntmps57
    go_wp2_with fail
    go_ret
    exact ⟨rfl, Below.refl _ _⟩
  have h4i : ¬ (4 : Int) < (n : Int) := by omega
  have hmk := mk_names n (by omega)
  have HMK := Lib.hid (show madeCells #[.string ⟨#[]⟩] n = nmC l 0 by rw [hn]; exact nmC_zero l)
  have HN := Lib.hid hn
  have HI := Lib.hid hi
  have HQ := Lib.hid hq
  clear hn hi hq
  go_enter Try.func57, Try.ntmps57
  go_upto_region 10 with fail
  obtain ⟨gN, hgN⟩ : ∃ gN, gN = w.heap.size := ⟨_, rfl⟩
  obtain ⟨W, hW⟩ : ∃ W, W = w.alloc (.cells (madeCells #[.string ⟨#[]⟩] n) 9) := ⟨_, rfl⟩
  rw [← hW, ← hgN]
  have hb0 : Blk W gN 9 (nmC l 0) := by rw [hW, hgN, HMK.out]; exact Blk.new _ _ _
  have hbe0 : Below w.heap.size w W := by rw [hW]; exact (Below.refl _ _).alloc (Nat.le_refl _) _
  have HB0 := Lib.hid hb0
  have HBE0 := Lib.hid hbe0
  have HGN := Lib.hid hgN
  clear hW hb0 hbe0 hmk hgN
  go_wp2_with fail
  go_loopw [30] (fun i wr => Hid (∃ (j : Nat), j ≤ n ∧ i = .int .i64 j ∧ Blk wr gN 9 (nmC l j) ∧ Below w.heap.size w wr ∧ ∃ w7, w7 = wr)) (fun i _ => n - (intOf i).toNat)
  case atStart => exact Lib.hid ⟨0, by omega, rfl, HB0.out, HBE0.out, _, rfl⟩
  case round =>
    obtain ⟨j, hj, rfl, hb, hbe, w7, hw7⟩ := hrel.out
    subst hw7
    clear hrel
    have HBN := Lib.hid hb
    have HBE := Lib.hid hbe
    clear hb hbe
    by_cases hlt : (j : Int) < (n : Int)
    · obtain ⟨it, hit⟩ : ∃ i, l[j]? = some i := ⟨l[j]'(by have := HN.out; omega), List.getElem?_eq_getElem _⟩
      obtain ⟨g, rfl, hg, hc⟩ := HI.out (by intro e; subst e; have := HN.out; simp at this; omega)
      obtain ⟨c0, c1⟩ := hc j it hit
      have d0 := (HBE.out.cell (p := ⟨g, j * 2, none⟩) hg).trans c0
      have d1 := (HBE.out.cell (p := ⟨g, j * 2 + 1, none⟩) hg).trans c1
      have HIT := Lib.hid hit
      clear c0 c1 hit hc
      go_upto_region 13 with fail
      obtain ⟨gI, hgI⟩ : ∃ g, g = w7.heap.size := ⟨_, rfl⟩
      obtain ⟨w8, hw8⟩ : ∃ W, W = w7.alloc (.cells #[.string it.t, .complex .f64 0 0] 63) := ⟨_, rfl⟩
      rw [← hw8, ← hgI]
      have hbe8 : Below w7.heap.size w7 w8 := by rw [hw8]; exact (Below.refl _ _).alloc (Nat.le_refl _) _
      have hk8 : Blk w8 gI 63 #[.string it.t, .complex .f64 0 0] := by rw [hw8, hgI]; exact Blk.new _ _ _
      have hN8 := HBN.out.below hbe8 HBN.out.lt
      have e0 : w8.cell? ⟨gI, 0, none⟩ = some (.string it.t) := hk8.cell 0
      have hf8 := hN8.frozen
      have hcN : ∃ u, w8.cell? ⟨gN, j, none⟩ = some u := by
        rw [hN8.cell]
        have : j < (nmC l j).size := by simp [nmC]; have := HN.out; omega
        exact ⟨_, Array.getElem?_eq_getElem this⟩
      obtain ⟨u0, hcN⟩ := hcN
      have hgne : gI ≠ gN := by have := HBN.out.lt; omega
      have HK8 := Lib.hid hk8
      have HN8 := Lib.hid hN8
      have HBE8 := Lib.hid (HBE.out.trans (hbe8.mono HBE.out.size))
      have HGNE := Lib.hid hgne
      clear hw8 hbe8 hk8 hN8 hgI hgne
      go_upto_region 14 with fail
      obtain ⟨w9, hw9⟩ : ∃ W, W = w8.setCell ⟨gN, j, none⟩ (.string it.t) := ⟨_, rfl⟩
      rw [← hw9]
      have hN9 : Blk w9 gN 9 (nmC l (j + 1)) := by rw [hw9, ← nmC_set l j it HIT.out]; exact HN8.out.set_ j _
      have hk9 : Blk w9 gI 63 #[.string it.t, .complex .f64 0 0] := by rw [hw9]; exact HK8.out.far (p := ⟨gN, j, none⟩) (fun e => HGNE.out e) _
      have hbe9 : Below w.heap.size w w9 := by rw [hw9]; exact HBE8.out.setCell (by show w.heap.size ≤ gN; rw [HGN.out]; exact Nat.le_refl _) _
      have e1 : w9.cell? ⟨gI, 1, none⟩ = some (.complex .f64 0 0) := hk9.cell 1
      have HN9 := Lib.hid hN9
      have HBE9 := Lib.hid hbe9
      clear hw9 hN9 hk9 hbe9 e0 hf8 hcN d0 d1
      go_wp2_with fail
      go_roundw
      case rel => exact Lib.hid ⟨j + 1, by omega, by go_num, HN9.out, HBE9.out, _, rfl⟩
      case measure => simp [intOf]; omega
    · have e : j = n := by omega
      subst e
      have hOK := itOk_ask (l := l) (by have := HN.out; omega)
      have hR : Reads w7 w7.heap.size 1 (some ⟨gN, 0, none⟩) j ((l.map (·.t)).map Value.string) := by
        have h := HBN.out
        have e : nmC l j = ((l.map (·.t)).map Value.string).toArray := by rw [HN.out]; exact nmC_all l
        rw [e] at h
        have := names_reads h
        rwa [List.length_map, ← HN.out] at this
      have hA := All_any (some ⟨gN, 0, none⟩) j j (l.map (·.t)) w7 hR (by omega) (fun s hs => by
        obtain ⟨i, hi, rfl⟩ := List.mem_map.1 hs
        have := HQ.out i hi
        unfold maxLen; omega)
      have HOK := Lib.hid hOK
      clear hOK hR
      go_wp2_with (go_at_call 62; refine hA.mono ?_; rintro e w8 ⟨rfl, hb8⟩; have HB8 := Lib.hid (HBE.out.trans (hb8.mono HBE.out.size)); clear hb8)
      go_ret
      rw [HOK.out]
      exact ⟨rfl, HB8.out⟩
end Go.Proofs.Ytfbedlhigggggaa.Sp
namespace Go.Proofs.Ytfbedlhigggggaa.Sp
open Go Go.RowKit Go.Lib Go.Proofs.Ytfbedlhigggggaa Go.Proofs.Ytfbedlhigggggaa.Crw Go.Proofs.Ytfbedlhigggggaa.Vl Go.ChangeShapes Go.WideShapes Go.ChangeAt
set_option linter.unusedVariables false
set_option maxRecDepth 100000
def txM (m : Mg) (c : UInt8) : ByteArray := if c = 70 then m.F else if c = 69 then m.E else m.T
def nuM (m : Mg) (c : UInt8) : Int := if c = 78 then m.N else if c = 83 then m.S else if c = 85 then m.U else m.P
set_option maxHeartbeats 4000000 in
theorem text_any (m : Mg) (v : Value) (c : UInt8) (w : World) (hv : v.oneCell' = true) (hc : c = 70 ∨ c = 69 ∨ c = 84) :
    Calls Try.prog 56 #[.agg (mc m v), .int .i32 c.toNat] w fun e w' => e = .returned (.string (txM m c)) ∧ Below w.heap.size w w' := by
  obtain ⟨W, hW⟩ : ∃ W, W = w.alloc (.cells (mc m v) 40) := ⟨_, rfl⟩
  obtain ⟨g, hg⟩ : ∃ g, g = w.heap.size := ⟨_, rfl⟩
  have hb : Blk W g 40 (mc m v) := by rw [hW, hg]; exact Blk.new _ _ _
  have hbe : Below w.heap.size w W := by rw [hW]; exact (Below.refl _ _).alloc (Nat.le_refl _) _
  have c1 : W.cell? ⟨g, 1, none⟩ = some (.string m.F) := hb.cell 1
  have c2 : W.cell? ⟨g, 2, none⟩ = some (.string m.E) := hb.cell 2
  have c3 : W.cell? ⟨g, 3, none⟩ = some (.string m.T) := hb.cell 3
  have HG := Lib.hid hg
  have HW := Lib.hid hW
  have HBE := Lib.hid hbe
  clear hb hbe hg hW
  rcases hc with rfl | rfl | rfl
  all_goals
    go_enter Try.func56, Try.ntmps56
    go_upto_region 1 with fail
    rw [← HW.out, ← HG.out]
    go_wp2_with fail
    go_ret
    exact ⟨rfl, HBE.out⟩
set_option maxHeartbeats 4000000 in
theorem number_any (m : Mg) (v : Value) (c : UInt8) (w : World) (hv : v.oneCell' = true) (hc : c = 78 ∨ c = 85 ∨ c = 80) :
    Calls Try.prog 58 #[.agg (mc m v), .int .i32 c.toNat] w fun e w' => e = .returned (.int .i64 (nuM m c)) ∧ Below w.heap.size w w' := by
  obtain ⟨W, hW⟩ : ∃ W, W = w.alloc (.cells (mc m v) 40) := ⟨_, rfl⟩
  obtain ⟨g, hg⟩ : ∃ g, g = w.heap.size := ⟨_, rfl⟩
  have hb : Blk W g 40 (mc m v) := by rw [hW, hg]; exact Blk.new _ _ _
  have hbe : Below w.heap.size w W := by rw [hW]; exact (Below.refl _ _).alloc (Nat.le_refl _) _
  have c1 : W.cell? ⟨g, 4, none⟩ = some (.int .i64 m.N) := hb.cell 4
  have c2 : W.cell? ⟨g, 6, none⟩ = some (.int .i64 m.U) := hb.cell 6
  have c3 : W.cell? ⟨g, 7, none⟩ = some (.int .i64 m.P) := hb.cell 7
  have HG := Lib.hid hg
  have HW := Lib.hid hW
  have HBE := Lib.hid hbe
  clear hb hbe hg hW
  rcases hc with rfl | rfl | rfl
  all_goals
    go_enter Try.func58, Try.ntmps58
    go_upto_region 1 with fail
    rw [← HW.out, ← HG.out]
    go_wp2_with fail
    go_ret
    exact ⟨rfl, HBE.out⟩
/-- What is known of a message in memory. -/
structure MgP (w : World) (m : Mg) (v : Value) : Prop where
  its : Its pw w v m.I
  one : v.oneCell' = true
  kd : 1 ≤ m.k ∧ m.k ≤ 9
  hF : m.F.size ≤ 1000
  hE : m.E.size ≤ 1000
  hT : m.T.size ≤ 1000
  hI : m.I.length ≤ 1001
  hq : ∀ i ∈ m.I, i.t.size ≤ 1000
  ask : m.k ≠ 1 → ∀ i ∈ m.I, i.a = 0 ∧ i.b = 0
theorem MgP.below {w w' : World} {m : Mg} {v : Value} (h : MgP w m v) (hb : Below w.heap.size w w') : MgP w' m v := ⟨h.its.below hb, h.one, h.kd, h.hF, h.hE, h.hT, h.hI, h.hq, h.ask⟩
theorem its_zero {φ : Itm → Nat × Nat} {w : World} {v : Value} {l : List Itm} (h : Its φ w v l) (hz : ∀ i ∈ l, φ i = (0, 0)) : Its (fun _ => (0, 0)) w v l := by
  obtain ⟨A, c, rfl, h⟩ := h
  refine ⟨A, c, rfl, fun hne => ?_⟩
  obtain ⟨g, h1, h2, h3⟩ := h hne
  refine ⟨g, h1, h2, fun k i hi => ?_⟩
  obtain ⟨h4, h5⟩ := h3 k i hi
  rw [hz i (List.mem_of_getElem? hi)] at h5
  exact ⟨h4, h5⟩
theorem items_any {w : World} {m : Mg} {v : Value} (h : MgP w m v) (hk : m.k = 1 ∨ m.k = 5) : Calls Try.prog 57 #[.int .i64 m.k, v] w fun e w' => e = .returned (.bool (itOk m.k m.I)) ∧ Below w.heap.size w w' := by
  rcases hk with hk | hk
  · rw [hk]
    exact itemsRun v m.I w h.its h.hI h.hq
  · have hz : ∀ i ∈ m.I, pw i = (0, 0) := fun i hi => by
      obtain ⟨h1, h2⟩ := h.ask (by omega) i hi
      unfold pw
      rw [h1, h2, ofW_zero]
    rw [hk]
    exact itemsAsk v m.I w (its_zero h.its hz) h.hI h.hq
set_option maxHeartbeats 8000000 in
theorem right_any (m : Mg) (v : Value) (c : UInt8) (w : World) (h : MgP w m v) (hc : c ∈ [(70 : UInt8), 69, 84, 83, 73, 78, 85, 80]) (hk : c = 73 → m.k = 1 ∨ m.k = 5) :
    Calls Try.prog 47 #[.agg (mc m v), .int .i32 c.toNat] w fun e w' => e = .returned (.bool (chkF m c)) ∧ Below w.heap.size w w' := by
  have hv := h.one
  obtain ⟨W, hW⟩ : ∃ W, W = w.alloc (.cells (mc m v) 40) := ⟨_, rfl⟩
  obtain ⟨g, hg⟩ : ∃ g, g = w.heap.size := ⟨_, rfl⟩
  have hb : Blk W g 40 (mc m v) := by rw [hW, hg]; exact Blk.new _ _ _
  have hbe : Below w.heap.size w W := by rw [hW]; exact (Below.refl _ _).alloc (Nat.le_refl _) _
  have hcells : ∀ j, j < 9 → ∃ u, (mc m v)[j]? = some u ∧ W.cell? ⟨g, j, none⟩ = some u := fun j hj => by
    have : j < (mc m v).size := hj
    exact ⟨_, Array.getElem?_eq_getElem this, by rw [hb.cell, Array.getElem?_eq_getElem this]⟩
  have c0 : W.cell? ⟨g, 0, none⟩ = some (.int .i64 m.k) := hb.cell 0
  have c1 : W.cell? ⟨g, 1, none⟩ = some (.string m.F) := hb.cell 1
  have c2 : W.cell? ⟨g, 2, none⟩ = some (.string m.E) := hb.cell 2
  have c3 : W.cell? ⟨g, 3, none⟩ = some (.string m.T) := hb.cell 3
  have c4 : W.cell? ⟨g, 4, none⟩ = some (.int .i64 m.N) := hb.cell 4
  have c5 : W.cell? ⟨g, 5, none⟩ = some (.int .i64 m.S) := hb.cell 5
  have c6 : W.cell? ⟨g, 6, none⟩ = some (.int .i64 m.U) := hb.cell 6
  have c7 : W.cell? ⟨g, 7, none⟩ = some (.int .i64 m.P) := hb.cell 7
  have c8 : W.cell? ⟨g, 8, none⟩ = some v := hb.cell 8
  have hP := h.below hbe
  have HG := Lib.hid hg
  have HW := Lib.hid hW
  have HBE := Lib.hid hbe
  have HP := Lib.hid hP
  have hT := fun c hc => text_any m v c W hv hc
  have hNu := fun c hc => number_any m v c W hv hc
  have hRt := fun (q : ByteArray) (hq : q.size ≤ 1000) (wa : World) => Right_any q wa (by unfold maxLen; omega)
  have hIt := fun hk => items_any hP hk
  clear hb hbe hg hW hcells hP
  simp only [List.mem_cons, List.not_mem_nil, or_false] at hc
  rcases hc with rfl | rfl | rfl | rfl | rfl | rfl | rfl | rfl
  · go_enter Try.func47, Try.ntmps47
    go_upto_region 1 with fail
    rw [← HW.out, ← HG.out]
    go_wp2_with (first | (go_at_call 56; refine (hT 70 (by decide)).mono ?_; rintro e w2 ⟨rfl, hb2⟩; have HB2 := Lib.hid hb2; clear hb2) | (go_at_call 55; refine (hRt _ h.hF _).mono ?_; rintro e w3 ⟨rfl, rfl⟩))
    go_ret
    exact ⟨rfl, HBE.out.trans (HB2.out.mono HBE.out.size)⟩
  · go_enter Try.func47, Try.ntmps47
    go_upto_region 1 with fail
    rw [← HW.out, ← HG.out]
    go_wp2_with (first | (go_at_call 56; refine (hT 69 (by decide)).mono ?_; rintro e w2 ⟨rfl, hb2⟩; have HB2 := Lib.hid hb2; clear hb2) | (go_at_call 55; refine (hRt _ h.hE _).mono ?_; rintro e w3 ⟨rfl, rfl⟩))
    go_ret
    exact ⟨rfl, HBE.out.trans (HB2.out.mono HBE.out.size)⟩
  · go_enter Try.func47, Try.ntmps47
    go_upto_region 1 with fail
    rw [← HW.out, ← HG.out]
    go_wp2_with (first | (go_at_call 56; refine (hT 84 (by decide)).mono ?_; rintro e w2 ⟨rfl, hb2⟩; have HB2 := Lib.hid hb2; clear hb2) | (go_at_call 55; refine (hRt _ h.hT _).mono ?_; rintro e w3 ⟨rfl, rfl⟩))
    go_ret
    exact ⟨rfl, HBE.out.trans (HB2.out.mono HBE.out.size)⟩
  · rw [show chkF m 83 = (decide (1 ≤ m.S) && decide (m.S ≤ 7)) by unfold chkF; rw [Bool.eq_iff_iff]; simp]
    by_cases h1 : 1 ≤ m.S
    all_goals
      go_enter Try.func47, Try.ntmps47
      go_upto_region 1 with fail
      rw [← HW.out, ← HG.out]
      go_wp2_with fail
      go_ret
      exact ⟨ret_bool (by first | (simp [h1]; done) | (simp; omega)), HBE.out⟩
  · have hIt := hIt (hk rfl)
    rw [show chkF m 73 = itOk m.k m.I from rfl]
    go_enter Try.func47, Try.ntmps47
    go_upto_region 1 with fail
    rw [← HW.out, ← HG.out]
    go_wp2_with (go_at_call 57; refine hIt.mono ?_; rintro e w2 ⟨rfl, hb2⟩; have HB2 := Lib.hid hb2; clear hb2)
    go_ret
    exact ⟨rfl, HBE.out.trans (HB2.out.mono HBE.out.size)⟩
  · rw [show chkF m 78 = (decide (1 ≤ m.N) && decide (m.N ≤ 2147483647)) by unfold chkF; rw [Bool.eq_iff_iff]; simp]
    by_cases h1 : 1 ≤ m.N
    all_goals
      go_enter Try.func47, Try.ntmps47
      go_upto_region 1 with fail
      rw [← HW.out, ← HG.out]
      go_wp2_with (go_at_call 58; refine (hNu 78 (by decide)).mono ?_; rintro e w2 ⟨rfl, hb2⟩; have HB2 := Lib.hid hb2; clear hb2; rw [show nuM m 78 = m.N from rfl])
      go_ret
      exact ⟨ret_bool (by first | (simp [h1]; done) | (simp; omega)), HBE.out.trans (HB2.out.mono HBE.out.size)⟩
  · rw [show chkF m 85 = (decide (1 ≤ m.U) && decide (m.U ≤ 2147483647)) by unfold chkF; rw [Bool.eq_iff_iff]; simp]
    by_cases h1 : 1 ≤ m.U
    all_goals
      go_enter Try.func47, Try.ntmps47
      go_upto_region 1 with fail
      rw [← HW.out, ← HG.out]
      go_wp2_with (go_at_call 58; refine (hNu 85 (by decide)).mono ?_; rintro e w2 ⟨rfl, hb2⟩; have HB2 := Lib.hid hb2; clear hb2; rw [show nuM m 85 = m.U from rfl])
      go_ret
      exact ⟨ret_bool (by first | (simp [h1]; done) | (simp; omega)), HBE.out.trans (HB2.out.mono HBE.out.size)⟩
  · rw [show chkF m 80 = (decide (1 ≤ m.P) && decide (m.P ≤ 2147483647)) by unfold chkF; rw [Bool.eq_iff_iff]; simp]
    by_cases h1 : 1 ≤ m.P
    all_goals
      go_enter Try.func47, Try.ntmps47
      go_upto_region 1 with fail
      rw [← HW.out, ← HG.out]
      go_wp2_with (go_at_call 58; refine (hNu 80 (by decide)).mono ?_; rintro e w2 ⟨rfl, hb2⟩; have HB2 := Lib.hid hb2; clear hb2; rw [show nuM m 80 = m.P from rfl])
      go_ret
      exact ⟨ret_bool (by first | (simp [h1]; done) | (simp; omega)), HBE.out.trans (HB2.out.mono HBE.out.size)⟩
end Go.Proofs.Ytfbedlhigggggaa.Sp
namespace Go.Proofs.Ytfbedlhigggggaa.Sp
open Go Go.RowKit Go.Lib Go.Proofs.Ytfbedlhigggggaa Go.Proofs.Ytfbedlhigggggaa.Crw Go.Proofs.Ytfbedlhigggggaa.Vl Go.ChangeShapes Go.WideShapes Go.ChangeAt
set_option linter.unusedVariables false
set_option maxRecDepth 100000
theorem below_setCells {wd : World} {gk : Nat} (hg : wd.heap.size ≤ gk) : ∀ (l : List Value) (o : Nat) (w : World), Below wd.heap.size wd w → Below wd.heap.size wd (w.setCells gk o l)
  | [], o, w, h => h
  | v :: l, o, w, h => below_setCells hg l (o + 1) _ (h.setCell (show wd.heap.size ≤ (⟨gk, o, none⟩ : Addr).block from hg) v)
theorem blk_setAll {gk : Nat} {T : TypeId} : ∀ (l zs pre : List Value) (w : World), Blk w gk T (pre ++ zs).toArray → zs.length = l.length → Blk (w.setCells gk pre.length l) gk T (pre ++ l).toArray
  | [], [], pre, w, h, _ => h
  | [], _ :: _, _, _, _, e => by simp at e
  | _ :: _, [], _, _, _, e => by simp at e
  | v :: l, z :: zs, pre, w, h, e => by
    have h1 := h.set_ pre.length v
    have e1 : (pre ++ z :: zs).toArray.setIfInBounds pre.length v = (pre ++ [v] ++ zs).toArray := by simp
    have h2 : Blk (w.setCell ⟨gk, pre.length, none⟩ v) gk T (pre ++ [v] ++ zs).toArray := e1 ▸ h1
    have h3 := blk_setAll l zs (pre ++ [v]) _ h2 (by simpa using e)
    simpa [World.setCells] using h3
/-- A struct goes into its own block. -/
theorem storeG {ops : Array Oper} {op : Oper} {a : Act} {w : World} {K : Act → World → Prop} {Q : Exit → Act → World → Prop} {E : Prop} {x y : Operand} {gk : Nat} {cs zs : Array Value} (T : TypeId) (hT : (Try.prog.info? T).map (·.size) = some cs.size) (ho : op.op = .store T x y) (hg : op.guard = none)
    (hx : a.eval x = .pointer (some ⟨gk, 0, none⟩)) (hy : a.eval y = .agg cs) (h1 : cs.all (·.oneCell') = true) (hz : Blk w gk T zs) (hzs : zs.size = cs.size)
    (h : ∀ w', (∀ wd : World, wd.heap.size ≤ gk → Below wd.heap.size wd w → Below wd.heap.size wd w') → (∀ b, b < w.heap.size → b ≠ gk → w'.heap[b]? = w.heap[b]?) → Blk w' gk T cs → K (a.put op.dst undef) w') :
    if Region.wanted op (yielded ops a.tmps) = true then Oper.wp Try.prog op a w K Q else E := by
  rw [if_pos (by simp [Region.wanted, hg])]
  refine wp_store_mid T x y ho gk 0 cs hx hy (fun j hj => ?_) hT h1 ?_
  · have hj9 : j < zs.size := by rw [hzs]; exact hj
    have hc := hz.cell j
    rw [Array.getElem?_eq_getElem hj9] at hc
    rw [Nat.zero_add]
    exact ⟨by rw [hc]; rfl, hz.frozen j⟩
  · refine h _ (fun wd hwd hb => below_setCells hwd _ _ _ hb) (fun b hb hne => World.heap_setCells_other w gk 0 _ hb hne) ?_
    have h2 := blk_setAll cs.toList zs.toList [] w (by simpa using hz) (by simpa using hzs)
    simpa using h2
def Mark (p : Prop) : Prop := p
theorem Mark.intro {p : Prop} (h : p) : Mark p := h
theorem wpList_storeG {ops : Array Oper} {rest : List Oper} {op : Oper} {a : Act} {w : World} {Q : Exit → Act → World → Prop} {x y : Operand} {gk : Nat} {cs zs : Array Value} (T : TypeId) (hT : (Try.prog.info? T).map (·.size) = some cs.size) (ho : op.op = .store T x y) (hg : op.guard = none)
    (hx : a.eval x = .pointer (some ⟨gk, 0, none⟩)) (hy : a.eval y = .agg cs) (h1 : cs.all (·.oneCell') = true) (hz : Blk w gk T zs) (hzs : zs.size = cs.size)
    (h : ∀ w', (∀ wd : World, wd.heap.size ≤ gk → Below wd.heap.size wd w → Below wd.heap.size wd w') → (∀ b, b < w.heap.size → b ≠ gk → w'.heap[b]? = w.heap[b]?) → Blk w' gk T cs → Mark (wpList Try.prog ops Q rest (a.put op.dst undef) w')) : wpList Try.prog ops Q (op :: rest) a w :=
  wpList_step fun K hK => storeG T hT ho hg hx hy h1 hz hzs fun w' h2 h3 h4 => hK _ _ (h w' h2 h3 h4)
theorem ret_cell2 {P : Program} {fn : Func} {p u : Tmp} {ty : TypeId} {tmps : Array Value} {w : World} {g : Nat} {t : TypeId} {cs : Array Value} {d : TypeDesc} (h : fn.results = #[.cell p ty, .tmp u]) (ht : tmps.getD p undef = .pointer (some ⟨g, 0, none⟩)) (hb : Blk w g t cs)
    (hu : P.underlying ty = some d) (hd : (match d with | .struct _ | .array _ _ => true | _ => false) = true) (hi : (P.info? ty).map (·.size) = some cs.size) : (results fn tmps).run P w = .ok (.tuple #[.agg cs, tmps.getD u undef]) w := by
  rw [results_cell_tmp h, ht]
  simp only [asAddr, Sem.run_pure, Result.andThen_ok]
  rw [Go.run_loadVar_row w g t ty cs _ d hb hu hd hi]
  rfl
theorem ret_cell1 {P : Program} {fn : Func} {p : Tmp} {ty : TypeId} {tmps : Array Value} {w : World} {g : Nat} {t : TypeId} {cs : Array Value} {d : TypeDesc} (h : fn.results = #[.cell p ty]) (ht : tmps.getD p undef = .pointer (some ⟨g, 0, none⟩)) (hb : Blk w g t cs)
    (hu : P.underlying ty = some d) (hd : (match d with | .struct _ | .array _ _ => true | _ => false) = true) (hi : (P.info? ty).map (·.size) = some cs.size) : (results fn tmps).run P w = .ok (.agg cs) w := by
  exact results_cell_row h tmps w g t cs _ d ht hb hu hd hi
end Go.Proofs.Ytfbedlhigggggaa.Sp
