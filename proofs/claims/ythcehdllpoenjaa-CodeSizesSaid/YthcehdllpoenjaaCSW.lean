/- The walk of CodeSizes: the Go text returns true, and writes nothing that was there. -/
import Derived.Test.YthcehdllpoenjaaCBA
import Derived.Test.YthcehdllpoenjaaAllSum
namespace Go.Proofs.Ythcehdllpoenjaa.codeSizes
open Go.ChangeShapes Go.WideShapes Go.ChangeAt Go.RowKit
set_option linter.unusedVariables false
set_option maxRecDepth 100000
/-- zero bytes -/
def zs (k : Nat) : ByteArray := ⟨(List.replicate k 0).toArray⟩
theorem zs_size (k : Nat) : (zs k).size = k := by simp [zs, ByteArray.size]
theorem zs_len (k : Nat) : (zs k).data.toList.length = k := by simp [zs]
theorem make_zs (k : Nat) (h : k ≤ 260) (W : World) : (Instr.makeSlice 22 (.int .i64 (k : Int)) (.int .i64 (k : Int))).run Try.prog W = .ok (.slice (some ⟨W.heap.size, 0, none⟩) k k) (W.alloc (.cells (madeCells #[.int .u8 0] k) 5)) := by
  obtain ⟨i0, hi, hz0, hz1, hz2⟩ := info_parts byte_info
  have h := run_make_rowN (P := Try.prog) 22 5 i0 (.int .u8 0) Try.underlying22 hi hz0 .i64 .i64 k k (Nat.le_refl _) (by rw [hz2]; omega) (by omega) W
  rw [hz1, Nat.mul_one] at h
  exact h
theorem conv_zs (k : Nat) (W : World) : (convert 22 9 (.slice (some ⟨W.heap.size, 0, none⟩) k k)).run Try.prog (W.alloc (.cells (madeCells #[.int .u8 0] k) 5)) = .ok (.string (zs k)) (W.alloc (.cells (madeCells #[.int .u8 0] k) 5)) :=
  run_conv_reads Try.underlying22 Try.underlying5 Try.underlying9 (reads_made W k 5)
theorem text_none (k : Nat) (h : 200 < k) (w : World) : Calls Try.prog 24 #[.string (zs k)] w fun e w' => ∃ A c, e = .returned (.slice A 0 c) ∧ Below w.heap.size w w' := by
  have h2 := Text_any (zs k) w
  have e : textL (zs k) = [] := by unfold textL; rw [if_neg (by rw [zs_size]; omega)]
  rw [e] at h2
  refine h2.mono ?_
  rintro e w1 ⟨v, rfl, ho, hb⟩
  obtain ⟨A, c, rfl, -, -⟩ := own_slice ho
  exact ⟨A, c, rfl, hb⟩
theorem text_200 (w : World) : Calls Try.prog 24 #[.string (zs 200)] w fun e w' => ∃ A c, e = .returned (.slice A 202 c) ∧ Below w.heap.size w w' := by
  have h2 := Text_any (zs 200) w
  have e : (textL (zs 200)).length = 202 := by
    unfold textL
    rw [if_pos (by rw [zs_size]; omega), zs_size]
    have h1 : (numL 200).length = 2 := by decide
    rw [List.length_append, h1, zs_len]
  rw [e] at h2
  refine h2.mono ?_
  rintro e w1 ⟨v, rfl, ho, hb⟩
  obtain ⟨A, c, rfl, -, -⟩ := own_slice ho
  exact ⟨A, c, rfl, hb⟩
theorem blk_at (w : World) (b : Nat) (t : TypeId) (cs : Array Value) (h : w.heap.size = b) : Blk (w.alloc (.cells cs t)) b t cs := h ▸ Blk.new w t cs
theorem or_128 (c : Nat) (hc : c ≤ 255) : ∃ M : Nat, bits .or .u8 (c : Int) 128 = (M : Int) ∧ 128 ≤ M ∧ M ≤ 255 := by
  have h : ∀ c : Fin 256, 128 ≤ bits .or .u8 (c.val : Int) 128 ∧ bits .or .u8 (c.val : Int) 128 ≤ 255 := by decide +kernel
  have h1 : 128 ≤ bits .or .u8 (c : Int) 128 ∧ bits .or .u8 (c : Int) 128 ≤ 255 := h ⟨c, by omega⟩
  exact ⟨(bits .or .u8 (c : Int) 128).toNat, by omega, by omega, by omega⟩
theorem rd_a (M : Nat) (h : 128 ≤ M ∧ M ≤ 255) : rdNum [UInt8.ofNat M, 128, 0] 0 false = (0, 0, true) := by
  have e : (UInt8.ofNat M).toNat = M := by have := u8_nat M (by omega); omega
  refine rdNum_none ?_
  show decA 5 [UInt8.ofNat M, 128, 0] 0 0 = none
  rw [decA, if_pos (by omega), decA, if_pos (by decide), decA, if_neg (by decide), if_pos ⟨by decide, by omega⟩]
theorem rd_b (c : Nat) : rdNum [UInt8.ofNat (c % 128), 9] 0 false = (((c % 128 : Nat) : Int), 1, false) := by
  have e : (UInt8.ofNat (c % 128)).toNat = c % 128 := by have := u8_nat (c % 128) (by omega); omega
  refine rdNum_some (k := 1) ?_
  show decA 5 [UInt8.ofNat (c % 128), 9] 0 0 = some (((c % 128 : Nat) : Int), 1)
  rw [decA, if_neg (by omega), if_neg (by omega), e, Int.emod_eq_of_lt (by omega) (by omega)]
  simp [sz]
/-- Bytes in a block of their own, wherever that stands. -/
theorem reads_blk {w : World} {b : Nat} {l : List UInt8} (h : Blk w b 5 (bytesV l).toArray) : Reads w w.heap.size 1 (some ⟨b, 0, none⟩) l.length (bytesV l) := by
  refine ⟨by simp [bytesV], fun _ => ⟨_, rfl, h.lt, fun j u hu => ?_⟩⟩
  rw [add_plain, Nat.zero_add, h.cell j]
  simpa using hu
/-- The table of the statement, at every world that comes behind. -/
def Tab (WT : World) (bt : Nat) : Prop := ∀ k : Nat, k < 10 → ∃ (A : Option Addr) (m cp : Nat) (v : Int) (okb : Bool) (l : List UInt8) (p : Nat), l.length = m ∧ m ≤ 6 ∧ rdNum l 0 false = (v, p, !okb) ∧ (okb = false → v = 0) ∧
  ∀ w2, Below WT.heap.size WT w2 → w2.cell? ⟨bt, k * 3, none⟩ = some (.slice A m cp) ∧ w2.cell? ⟨bt, k * 3 + 1, none⟩ = some (.int .i64 v) ∧ w2.cell? ⟨bt, k * 3 + 2, none⟩ = some (.bool okb) ∧ Reads w2 WT.heap.size 1 A m (bytesV l)
theorem tab_row {WT : World} {bt k : Nat} {T : Array Value} {b cp : Nat} {v : Int} {okb : Bool} {l : List UInt8} {p : Nat} (hT : Blk WT bt 43 T) (hb : Blk WT b 5 (bytesV l).toArray) (h6 : l.length ≤ 6) (hr : rdNum l 0 false = (v, p, !okb)) (hv : okb = false → v = 0)
    (e0 : T[k * 3]? = some (.slice (some ⟨b, 0, none⟩) l.length cp)) (e1 : T[k * 3 + 1]? = some (.int .i64 v)) (e2 : T[k * 3 + 2]? = some (.bool okb)) :
    ∃ (A : Option Addr) (m cp : Nat) (v : Int) (okb : Bool) (l : List UInt8) (p : Nat), l.length = m ∧ m ≤ 6 ∧ rdNum l 0 false = (v, p, !okb) ∧ (okb = false → v = 0) ∧
      ∀ w2, Below WT.heap.size WT w2 → w2.cell? ⟨bt, k * 3, none⟩ = some (.slice A m cp) ∧ w2.cell? ⟨bt, k * 3 + 1, none⟩ = some (.int .i64 v) ∧ w2.cell? ⟨bt, k * 3 + 2, none⟩ = some (.bool okb) ∧ Reads w2 WT.heap.size 1 A m (bytesV l) := by
  refine ⟨some ⟨b, 0, none⟩, l.length, cp, v, okb, l, p, rfl, h6, hr, hv, fun w2 hw => ?_⟩
  have hT2 := hT.below hw hT.lt
  exact ⟨(hT2.cell _).trans e0, (hT2.cell _).trans e1, (hT2.cell _).trans e2, (reads_blk hb).below hw⟩
/-- The chain. -/
abbrev chain (W : World) (s c M : Nat) : World := ((((((((((W.alloc (.cells #[.int .u8 0] 5)).alloc (.cells #[.int .u8 127] 5)).alloc (.cells #[.int .u8 128, .int .u8 1] 5)).alloc (.cells #[.int .u8 255, .int .u8 255, .int .u8 255, .int .u8 255, .int .u8 127] 5)).alloc (.cells #[.int .u8 128, .int .u8 0] 5)).alloc (.cells #[.int .u8 128] 5)).alloc (.cells #[.int .u8 255, .int .u8 255, .int .u8 255, .int .u8 255, .int .u8 255, .int .u8 1] 5)).alloc (.cells #[.int .u8 (M : Int), .int .u8 128, .int .u8 0] 5)).alloc (.cells #[.int .u8 ((c : Int) % 128), .int .u8 9] 5)).alloc (.cells #[.slice (some ⟨s, 0, none⟩) 1 1, .int .i64 0, .bool true, .slice (some ⟨s + 1, 0, none⟩) 1 1, .int .i64 127, .bool true, .slice (some ⟨s + 1 + 1, 0, none⟩) 2 2, .int .i64 128, .bool true, .slice (some ⟨s + 1 + 1 + 1, 0, none⟩) 5 5, .int .i64 34359738367, .bool true, .slice (some ⟨s + 1 + 1 + 1 + 1, 0, none⟩) 2 2, .int .i64 0, .bool false, .slice (some ⟨s + 1 + 1 + 1 + 1 + 1, 0, none⟩) 1 1, .int .i64 0, .bool false, .slice none 0 0, .int .i64 0, .bool false, .slice (some ⟨s + 1 + 1 + 1 + 1 + 1 + 1, 0, none⟩) 6 6, .int .i64 0, .bool false, .slice (some ⟨s + 1 + 1 + 1 + 1 + 1 + 1 + 1, 0, none⟩) 3 3, .int .i64 0, .bool false, .slice (some ⟨s + 1 + 1 + 1 + 1 + 1 + 1 + 1 + 1, 0, none⟩) 2 2, .int .i64 ((c : Int) % 128), .bool true] 43))
theorem chain_below {B : Nat} {w W : World} (h : Below B w W) (hB : B ≤ W.heap.size) (s c M : Nat) : Below B w (chain W s c M) := ((((((((((h.alloc hB _).alloc (by simp; omega) _).alloc (by simp; omega) _).alloc (by simp; omega) _).alloc (by simp; omega) _).alloc (by simp; omega) _).alloc (by simp; omega) _).alloc (by simp; omega) _).alloc (by simp; omega) _).alloc (by simp; omega) _)
set_option maxHeartbeats 4000000 in
theorem tab_ok (W : World) (s c M : Nat) (hs : W.heap.size = s) (hc : c ≤ 255) (hM : 128 ≤ M ∧ M ≤ 255) : Tab (chain W s c M) (s + 1 + 1 + 1 + 1 + 1 + 1 + 1 + 1 + 1) := by
  have hT : Blk (chain W s c M) (s + 1 + 1 + 1 + 1 + 1 + 1 + 1 + 1 + 1) 43 #[.slice (some ⟨s, 0, none⟩) 1 1, .int .i64 0, .bool true, .slice (some ⟨s + 1, 0, none⟩) 1 1, .int .i64 127, .bool true, .slice (some ⟨s + 1 + 1, 0, none⟩) 2 2, .int .i64 128, .bool true, .slice (some ⟨s + 1 + 1 + 1, 0, none⟩) 5 5, .int .i64 34359738367, .bool true, .slice (some ⟨s + 1 + 1 + 1 + 1, 0, none⟩) 2 2, .int .i64 0, .bool false, .slice (some ⟨s + 1 + 1 + 1 + 1 + 1, 0, none⟩) 1 1, .int .i64 0, .bool false, .slice none 0 0, .int .i64 0, .bool false, .slice (some ⟨s + 1 + 1 + 1 + 1 + 1 + 1, 0, none⟩) 6 6, .int .i64 0, .bool false, .slice (some ⟨s + 1 + 1 + 1 + 1 + 1 + 1 + 1, 0, none⟩) 3 3, .int .i64 0, .bool false, .slice (some ⟨s + 1 + 1 + 1 + 1 + 1 + 1 + 1 + 1, 0, none⟩) 2 2, .int .i64 ((c : Int) % 128), .bool true] := blk_at _ _ _ _ (by simp [hs])
  have uM := u8_nat M (by omega)
  have uc := u8_nat (c % 128) (by omega)
  have h0 : Blk (chain W s c M) (s) 5 #[.int .u8 0] := (((((((((blk_at _ _ _ _ (by simp [hs])).alloc _).alloc _).alloc _).alloc _).alloc _).alloc _).alloc _).alloc _).alloc _
  have h1 : Blk (chain W s c M) (s + 1) 5 #[.int .u8 127] := ((((((((blk_at _ _ _ _ (by simp [hs])).alloc _).alloc _).alloc _).alloc _).alloc _).alloc _).alloc _).alloc _
  have h2 : Blk (chain W s c M) (s + 1 + 1) 5 #[.int .u8 128, .int .u8 1] := (((((((blk_at _ _ _ _ (by simp [hs])).alloc _).alloc _).alloc _).alloc _).alloc _).alloc _).alloc _
  have h3 : Blk (chain W s c M) (s + 1 + 1 + 1) 5 #[.int .u8 255, .int .u8 255, .int .u8 255, .int .u8 255, .int .u8 127] := ((((((blk_at _ _ _ _ (by simp [hs])).alloc _).alloc _).alloc _).alloc _).alloc _).alloc _
  have h4 : Blk (chain W s c M) (s + 1 + 1 + 1 + 1) 5 #[.int .u8 128, .int .u8 0] := (((((blk_at _ _ _ _ (by simp [hs])).alloc _).alloc _).alloc _).alloc _).alloc _
  have h5 : Blk (chain W s c M) (s + 1 + 1 + 1 + 1 + 1) 5 #[.int .u8 128] := ((((blk_at _ _ _ _ (by simp [hs])).alloc _).alloc _).alloc _).alloc _
  have h6 : Blk (chain W s c M) (s + 1 + 1 + 1 + 1 + 1 + 1) 5 #[.int .u8 255, .int .u8 255, .int .u8 255, .int .u8 255, .int .u8 255, .int .u8 1] := (((blk_at _ _ _ _ (by simp [hs])).alloc _).alloc _).alloc _
  have h7 : Blk (chain W s c M) (s + 1 + 1 + 1 + 1 + 1 + 1 + 1) 5 #[.int .u8 (M : Int), .int .u8 128, .int .u8 0] := ((blk_at _ _ _ _ (by simp [hs])).alloc _).alloc _
  have h8 : Blk (chain W s c M) (s + 1 + 1 + 1 + 1 + 1 + 1 + 1 + 1) 5 #[.int .u8 ((c : Int) % 128), .int .u8 9] := (blk_at _ _ _ _ (by simp [hs])).alloc _
  generalize chain W s c M = WT at *
  intro k hk
  obtain h | h | h | h | h | h | h | h | h | h : k = 0 ∨ k = 1 ∨ k = 2 ∨ k = 3 ∨ k = 4 ∨ k = 5 ∨ k = 6 ∨ k = 7 ∨ k = 8 ∨ k = 9 := by omega
  all_goals subst h
  · exact tab_row (l := [0]) (v := 0) (okb := true) (p := 1) hT (show Blk WT _ 5 (bytesV [0]).toArray from h0) (by simp) (by decide) (by first | (intro h; cases h; done) | exact fun _ => rfl) rfl rfl rfl
  · exact tab_row (l := [127]) (v := 127) (okb := true) (p := 1) hT (show Blk WT _ 5 (bytesV [127]).toArray from h1) (by simp) (by decide) (by first | (intro h; cases h; done) | exact fun _ => rfl) rfl rfl rfl
  · exact tab_row (l := [128, 1]) (v := 128) (okb := true) (p := 2) hT (show Blk WT _ 5 (bytesV [128, 1]).toArray from h2) (by simp) (by decide) (by first | (intro h; cases h; done) | exact fun _ => rfl) rfl rfl rfl
  · exact tab_row (l := [255, 255, 255, 255, 127]) (v := 34359738367) (okb := true) (p := 5) hT (show Blk WT _ 5 (bytesV [255, 255, 255, 255, 127]).toArray from h3) (by simp) (by decide) (by first | (intro h; cases h; done) | exact fun _ => rfl) rfl rfl rfl
  · exact tab_row (l := [128, 0]) (v := 0) (okb := false) (p := 0) hT (show Blk WT _ 5 (bytesV [128, 0]).toArray from h4) (by simp) (by decide) (by first | (intro h; cases h; done) | exact fun _ => rfl) rfl rfl rfl
  · exact tab_row (l := [128]) (v := 0) (okb := false) (p := 0) hT (show Blk WT _ 5 (bytesV [128]).toArray from h5) (by simp) (by decide) (by first | (intro h; cases h; done) | exact fun _ => rfl) rfl rfl rfl
  · refine ⟨none, 0, 0, 0, false, [], 0, rfl, by omega, by decide, fun _ => rfl, fun w2 hw => ?_⟩
    have hT2 := hT.below hw hT.lt
    exact ⟨hT2.cell _, hT2.cell _, hT2.cell _, Reads.none_⟩
  · exact tab_row (l := [255, 255, 255, 255, 255, 1]) (v := 0) (okb := false) (p := 0) hT (show Blk WT _ 5 (bytesV [255, 255, 255, 255, 255, 1]).toArray from h6) (by simp) (by decide) (by first | (intro h; cases h; done) | exact fun _ => rfl) rfl rfl rfl
  · exact tab_row (l := [UInt8.ofNat M, 128, 0]) (v := 0) (okb := false) (p := 0) hT (show Blk WT _ 5 (bytesV [UInt8.ofNat M, 128, 0]).toArray from (by rw [show (bytesV [UInt8.ofNat M, 128, 0]).toArray = #[.int .u8 (M : Int), .int .u8 128, .int .u8 0] by simp [bytesV]; omega]; exact h7)) (by simp) (rd_a M hM) (by first | (intro h; cases h; done) | exact fun _ => rfl) rfl rfl rfl
  · exact tab_row (l := [UInt8.ofNat (c % 128), 9]) (v := ((c : Int) % 128)) (okb := true) (p := 1) hT (show Blk WT _ 5 (bytesV [UInt8.ofNat (c % 128), 9]).toArray from (by rw [show (bytesV [UInt8.ofNat (c % 128), 9]).toArray = #[.int .u8 ((c : Int) % 128), .int .u8 9] by simp [bytesV]; omega]; exact h8)) (by simp) (by rw [rd_b]; simp) (by first | (intro h; cases h; done) | exact fun _ => rfl) rfl rfl rfl
set_option maxHeartbeats 40000000 in
theorem walk (a0 : Int) (a1 : Int) (w : World) (b0 : -9223372036854775808 ≤ a0 ∧ a0 ≤ 9223372036854775807) (b1 : 0 ≤ a1 ∧ a1 ≤ 255) :
    Calls Try.prog 5 #[.int .i64 a0, .int .u8 a1] w fun e w' => e = .returned (.bool true) ∧ Below w.heap.size w w' := by
  have m1 := Int.emod_nonneg a0 (show (34359738368 : Int) ≠ 0 by omega)
  have m2 := Int.emod_lt_of_pos a0 (show (0 : Int) < 34359738368 by omega)
  obtain ⟨n, hn⟩ := Int.eq_ofNat_of_zero_le m1
  have hnb : n < 34359738368 := by omega
  have hW : ∀ w, Calls Try.prog 7 #[.int .i64 a0, .int .i64 34359738368] w fun e w' => e = .returned (.int .i64 n) ∧ w = w' := fun w => by
    have h := Within_any a0 34359738368 w (by omega) (by omega) (by omega) (by omega)
    rwa [hn] at h
  clear hn m1 m2
  obtain ⟨c, rfl⟩ := Int.eq_ofNat_of_zero_le b1.1
  have hc : c ≤ 255 := by omega
  clear b1 b0
  go_enter Try.func5, Try.ntmps5
  go_wp2_with fail
  refine (hW _).mono ?_
  rintro e w' ⟨rfl, rfl⟩
  go_wp2
  go_loopw [5, 6] (fun vw vx wr => Hid (wr = w ∧ ∃ (j f y : Nat), vw = .int .i64 ((j : Int) + 1) ∧ vx = .int .i64 ((y : Int) / 128) ∧ (numL n).length = j + (numF f y).length ∧ y < numBd f ∧ y < 34359738368 ∧ j + f = 5)) (fun _ vx _ => match vx with | .int _ z => z.toNat | _ => 0)
  case atStart => exact Lib.hid ⟨rfl, 0, 5, n, rfl, rfl, by simp [numL], by rw [numBd_5]; omega, hnb, rfl⟩
  case round =>
    obtain ⟨rfl, j, f, y, rfl, rfl, hl, hy, hyb, hjf⟩ := hrel.out
    clear hrel
    by_cases hx : 0 < (y : Int) / 128
    · obtain ⟨f', rfl⟩ : ∃ f', f = f' + 1 := by
        cases f with
        | zero => simp [numBd] at hy; omega
        | succ f' => exact ⟨f', rfl⟩
      have hl2 : (numL n).length = (j + 1) + (numF f' (y / 128)).length := by
        rw [hl]
        simp only [numF, show ¬ y < 128 by omega, if_false, List.length_cons]
        omega
      have hy2 : y / 128 < numBd f' := by
        have : y < 128 * numBd f' := hy
        omega
      have HL := Lib.hid hl2
      clear hl hl2 hy
      go_wp2
      refine ⟨?_, by simp; omega⟩
      exact Lib.hid ⟨by first | rfl | trivial, j + 1, f', y / 128, by simp, by simp, HL.out, hy2, by omega, by omega⟩
    · have hlen : (numL n).length = j + 1 := by rw [hl, numF_small f y (by omega)]; rfl
      clear hl hy hyb hjf
      have hN1 : ∀ w, Calls Try.prog 23 #[.int .i64 n] w fun e w' => ∃ A c, e = .returned (.slice A (j + 1) c) ∧ Below w.heap.size w w' := fun w => by
        have h := Number_nat n w (by omega) (by omega)
        rw [Int.toNat_natCast, hlen] at h
        refine h.mono ?_
        rintro e w1 ⟨v, rfl, ho, hb⟩
        obtain ⟨A, c, rfl, -, -⟩ := own_slice ho
        exact ⟨A, c, rfl, hb⟩
      obtain ⟨k, hk⟩ : ∃ k : Nat, 201 + (n : Int) % 50 = (k : Int) := ⟨201 + n % 50, by omega⟩
      have hk2 : 200 < k ∧ k ≤ 250 := by omega
      have hmk := fun W => make_zs k (by omega) W
      have hcv := fun W => conv_zs k W
      have hmk2 := fun W => make_zs 200 (by omega) W
      have hcv2 := fun W => conv_zs 200 W
      have hT2 := fun w => text_200 w
      generalize zs 200 = Z2 at *
      generalize madeCells #[.int .u8 0] 200 = R2 at *
      simp only [Int.cast_ofNat_Int] at hmk2 hcv2
      go_wp2_with fail
      refine (hN1 _).mono ?_
      rintro e w2 ⟨A2, c2, rfl, hb2⟩
      go_wp2_with fail
      refine (Number_none _ _ (by omega)).mono ?_
      rintro e w3 ⟨rfl, rfl⟩
      go_wp2_with fail
      refine (Number_none _ _ (by omega)).mono ?_
      rintro e w4 ⟨rfl, rfl⟩
      go_wp2_with fail
      refine (text_none k (by omega) _).mono ?_
      rintro e w5 ⟨A5, c5, rfl, hb5⟩
      go_wp2_with fail
      refine (hT2 _).mono ?_
      rintro e w6 ⟨A6, c6, rfl, hb6⟩
      go_upto_region 9 with fail
      have hb3 : Below wr.heap.size wr w6 := by
        have s2 := hb2.size
        have q5 := (hb2.alloc s2 (.cells (madeCells #[.int .u8 0] k) 5)).trans (hb5.mono (by simp; omega))
        have s5 := q5.size
        exact (q5.alloc s5 (.cells R2 5)).trans (hb6.mono (by simp; omega))
      clear hmk hcv hmk2 hcv2 hT2 hN1 hb2 hb5 hb6 hx hlen hk hk2
      obtain ⟨M, hor, hM⟩ := or_128 c hc
      obtain ⟨s, hs⟩ : ∃ s, w6.heap.size = s := ⟨_, rfl⟩
      go_wp2
      have hTab := tab_ok w6 s c M hs hc hM
      have hbT := chain_below hb3 hb3.size s c M
      dsimp only [chain] at hTab hbT
      generalize ((((((((((w6.alloc _).alloc _).alloc _).alloc _).alloc _).alloc _).alloc _).alloc _).alloc _).alloc _) = WT at *
      have hTab : Tab WT (s + 1 + 1 + 1 + 1 + 1 + 1 + 1 + 1 + 1) := hTab
      clear hor hM
      generalize (s + 1 + 1 + 1 + 1 + 1 + 1 + 1 + 1 + 1) = bt at *
      have hsT := hbT.size
      have hTab := Lib.hid hTab
      go_loopw [85] (fun i wr2 => Hid (∃ k : Nat, i = .int .i64 k ∧ k ≤ 10 ∧ Below WT.heap.size WT wr2)) (fun i _ => match i with | .int _ z => (10 - z).toNat | _ => 0)
      case atStart => exact Lib.hid ⟨0, rfl, by omega, Below.refl _ _⟩
      case round =>
        obtain ⟨k, rfl, hk, hbw⟩ := hrel.out
        clear hrel
        by_cases hlt : k < 10
        · obtain ⟨A, m, cp, v, okb, l, p, hlm, hm6, hrd, hv0, hcell⟩ := hTab.out k hlt
          obtain ⟨t0, t1, t2, hrd2⟩ := hcell wr hbw
          have hki : (k : Int) < 10 := by omega
          have hsw := hbw.size
          clear hcell hTab
          cases okb with
          | true =>
            go_wp2_with fail
            refine (New_t A m cp _ l _ hlm (hrd2.alloc hsw _) (by omega)).mono ?_
            rintro e w7 ⟨g, rfl, hR, hb7⟩
            have hgg := hR.ge
            have hx := (Blk.new wr 43 #[.slice A m cp, .int .i64 v, .bool true]).below hb7 (by simp)
            have hb8 := (hbw.alloc hsw (.cells #[.slice A m cp, .int .i64 v, .bool true] 43)).trans (hb7.mono (by simp; omega))
            have hS : w7.cell? ⟨wr.heap.size, 1, none⟩ = some (.int .i64 v) ∧ w7.cell? ⟨wr.heap.size, 2, none⟩ = some (.bool true) ∧ Below WT.heap.size WT w7 ∧ wr.heap.size < w7.heap.size := ⟨hx.cell 1, hx.cell 2, hb8, hx.lt⟩
            have keepS : ∀ {wa wb : World}, (wa.cell? ⟨wr.heap.size, 1, none⟩ = some (.int .i64 v) ∧ wa.cell? ⟨wr.heap.size, 2, none⟩ = some (.bool true) ∧ Below WT.heap.size WT wa ∧ wr.heap.size < wa.heap.size) → wa.grownBy wb (some g) → (wb.cell? ⟨wr.heap.size, 1, none⟩ = some (.int .i64 v) ∧ wb.cell? ⟨wr.heap.size, 2, none⟩ = some (.bool true) ∧ Below WT.heap.size WT wb ∧ wr.heap.size < wb.heap.size) := fun h hg => by
              have hne : wr.heap.size ≠ g := by simp at hgg; omega
              exact ⟨(hg.cell_far _ h.2.2.2 (by simpa using hne)).trans h.1, (hg.cell_far _ h.2.2.2 (by simpa using hne)).trans h.2.1, h.2.2.1.grown hg h.2.2.1.size (fun q hq => by injection hq with hq; simp at hgg; omega), Nat.lt_of_lt_of_le h.2.2.2 hg.size⟩
            have keepD : ∀ {wa : World}, (wa.cell? ⟨wr.heap.size, 1, none⟩ = some (.int .i64 v) ∧ wa.cell? ⟨wr.heap.size, 2, none⟩ = some (.bool true) ∧ Below WT.heap.size WT wa ∧ wr.heap.size < wa.heap.size) → (wa.drew.cell? ⟨wr.heap.size, 1, none⟩ = some (.int .i64 v) ∧ wa.drew.cell? ⟨wr.heap.size, 2, none⟩ = some (.bool true) ∧ Below WT.heap.size WT wa.drew ∧ wr.heap.size < wa.drew.heap.size) := fun h => ⟨h.1, h.2.1, h.2.2.1.drew, h.2.2.2⟩
            have hNum : ∀ {wa : World}, RdS wa (wr.alloc (.cells #[.slice A m cp, .int .i64 v, .bool true] 43)).heap.size g l 0 false → Calls Try.prog 14 #[.pointer (some ⟨g, 0, none⟩)] wa fun e w' => e = .returned (.int .i64 v) ∧ RdS w' (wr.alloc (.cells #[.slice A m cp, .int .i64 v, .bool true] 43)).heap.size g l p false ∧ wa.grownBy w' (some g) := fun h => by
              have := h.Number
              rwa [hrd] at this
            clear hx hb8 hb7 hrd2 t0 t1 t2
            go_upto_region 13 with fail
            go_region_held3 (fun w' => w'.cell? ⟨wr.heap.size, 1, none⟩ = some (.int .i64 v) ∧ w'.cell? ⟨wr.heap.size, 2, none⟩ = some (.bool true) ∧ Below WT.heap.size WT w' ∧ wr.heap.size < w'.heap.size) (first | assumption | exact keepS (by assumption) (by assumption) | exact keepS (keepD (by assumption)) (by assumption) | exact keepD (by assumption)) (first | (go_at_call 14; refine (hNum (by first | assumption | exact RdS.drew (by assumption))).mono ?_; rintro e w8 ⟨rfl, hR8, hg8⟩) | (go_at_call 20; refine (RdS.Bad (by assumption)).mono ?_; rintro e w9 ⟨rfl, rfl⟩))
            rename_i hHeld
            have hH1 := hHeld.2.1
            go_wp2
            refine ⟨?_, by simp; omega⟩
            exact Lib.hid ⟨k + 1, by simp, by omega, hHeld.2.2.1⟩
          | false =>
            obtain rfl := hv0 rfl
            go_wp2_with fail
            refine (New_t A m cp _ l _ hlm (hrd2.alloc hsw _) (by omega)).mono ?_
            rintro e w7 ⟨g, rfl, hR, hb7⟩
            have hgg := hR.ge
            have hx := (Blk.new wr 43 #[.slice A m cp, .int .i64 0, .bool false]).below hb7 (by simp)
            have hb8 := (hbw.alloc hsw (.cells #[.slice A m cp, .int .i64 0, .bool false] 43)).trans (hb7.mono (by simp; omega))
            have hS : w7.cell? ⟨wr.heap.size, 1, none⟩ = some (.int .i64 0) ∧ w7.cell? ⟨wr.heap.size, 2, none⟩ = some (.bool false) ∧ Below WT.heap.size WT w7 ∧ wr.heap.size < w7.heap.size := ⟨hx.cell 1, hx.cell 2, hb8, hx.lt⟩
            have keepS : ∀ {wa wb : World}, (wa.cell? ⟨wr.heap.size, 1, none⟩ = some (.int .i64 0) ∧ wa.cell? ⟨wr.heap.size, 2, none⟩ = some (.bool false) ∧ Below WT.heap.size WT wa ∧ wr.heap.size < wa.heap.size) → wa.grownBy wb (some g) → (wb.cell? ⟨wr.heap.size, 1, none⟩ = some (.int .i64 0) ∧ wb.cell? ⟨wr.heap.size, 2, none⟩ = some (.bool false) ∧ Below WT.heap.size WT wb ∧ wr.heap.size < wb.heap.size) := fun h hg => by
              have hne : wr.heap.size ≠ g := by simp at hgg; omega
              exact ⟨(hg.cell_far _ h.2.2.2 (by simpa using hne)).trans h.1, (hg.cell_far _ h.2.2.2 (by simpa using hne)).trans h.2.1, h.2.2.1.grown hg h.2.2.1.size (fun q hq => by injection hq with hq; simp at hgg; omega), Nat.lt_of_lt_of_le h.2.2.2 hg.size⟩
            have keepD : ∀ {wa : World}, (wa.cell? ⟨wr.heap.size, 1, none⟩ = some (.int .i64 0) ∧ wa.cell? ⟨wr.heap.size, 2, none⟩ = some (.bool false) ∧ Below WT.heap.size WT wa ∧ wr.heap.size < wa.heap.size) → (wa.drew.cell? ⟨wr.heap.size, 1, none⟩ = some (.int .i64 0) ∧ wa.drew.cell? ⟨wr.heap.size, 2, none⟩ = some (.bool false) ∧ Below WT.heap.size WT wa.drew ∧ wr.heap.size < wa.drew.heap.size) := fun h => ⟨h.1, h.2.1, h.2.2.1.drew, h.2.2.2⟩
            have hNum : ∀ {wa : World}, RdS wa (wr.alloc (.cells #[.slice A m cp, .int .i64 0, .bool false] 43)).heap.size g l 0 false → Calls Try.prog 14 #[.pointer (some ⟨g, 0, none⟩)] wa fun e w' => e = .returned (.int .i64 0) ∧ RdS w' (wr.alloc (.cells #[.slice A m cp, .int .i64 0, .bool false] 43)).heap.size g l p true ∧ wa.grownBy w' (some g) := fun h => by
              have := h.Number
              rwa [hrd] at this
            have hNum2 : ∀ {wa : World}, RdS wa (wr.alloc (.cells #[.slice A m cp, .int .i64 0, .bool false] 43)).heap.size g l p true → Calls Try.prog 14 #[.pointer (some ⟨g, 0, none⟩)] wa fun e w' => e = .returned (.int .i64 0) ∧ RdS w' (wr.alloc (.cells #[.slice A m cp, .int .i64 0, .bool false] 43)).heap.size g l p true ∧ wa.grownBy w' (some g) := fun h => by
              have := h.Number
              rwa [rdNum_bad] at this
            clear hx hb8 hb7 hrd2 t0 t1 t2
            go_upto_region 13 with fail
            go_region_held3 (fun w' => w'.cell? ⟨wr.heap.size, 1, none⟩ = some (.int .i64 0) ∧ w'.cell? ⟨wr.heap.size, 2, none⟩ = some (.bool false) ∧ Below WT.heap.size WT w' ∧ wr.heap.size < w'.heap.size) (first | assumption | exact keepS (by assumption) (by assumption) | exact keepS (keepD (by assumption)) (by assumption) | exact keepD (by assumption)) (first | (go_at_call 14; refine (hNum (by first | assumption | exact RdS.drew (by assumption))).mono ?_; rintro e w8 ⟨rfl, hR8, hg8⟩) | (go_at_call 20; refine (RdS.Bad (by assumption)).mono ?_; rintro e w9 ⟨rfl, rfl⟩))
            rename_i hHeld
            have hH1 := hHeld.2.1
            go_wp2_with (first | (go_at_call 14; refine (hNum2 hR8).mono ?_; rintro e w10 ⟨rfl, hR10, hg10⟩; have hK10 := keepS hHeld hg10) | (go_at_call 16; refine hR10.TextBad.mono ?_; rintro e w11 ⟨rfl, hR11, hg11⟩; have hK11 := keepS hK10 hg11) | (go_at_call 18; refine hR11.DoneF.mono ?_; rintro e w12 ⟨rfl, kd, rfl⟩))
            refine ⟨?_, by simp; omega⟩
            exact Lib.hid ⟨k + 1, by simp, by omega, below_drewN hK11.2.2.1 kd⟩
        · have hk10 : k = 10 := by omega
          subst hk10
          have hsw := hbw.size
          go_wp2_with fail
          refine (New_t (some ⟨wr.heap.size, 0, none⟩) 3 3 _ [3, 97, 98] _ rfl (reads_three wr (.int .u8 3) (.int .u8 97) (.int .u8 98) 5) (by omega)).mono ?_
          rintro e w7 ⟨g, rfl, hR, hb7⟩
          have hgg := hR.ge
          have hb8 := (hbw.alloc hsw (.cells #[.int .u8 3, .int .u8 97, .int .u8 98] 5)).trans (hb7.mono (by simp; omega))
          have hT := hR.Text
          rw [show rdText [3, 97, 98] 0 false = ([], 1, true) by decide] at hT
          go_wp2_with (first | (go_at_call 16; refine hT.mono ?_; rintro e w8 ⟨rfl, hR8, hg8⟩; have hb9 := hb8.grown hg8 hb8.size (fun q hq => by injection hq with hq; simp at hgg; omega)) | (go_at_call 20; refine hR8.Bad.mono ?_; rintro e w9 ⟨rfl, rfl⟩) | (go_at_call 22; refine (wakes_22.2.2.2 _).mono ?_; rintro e w10 ⟨rfl, hb10⟩))
          go_ret
          exact ⟨rfl, (hbT.trans (hb9.mono hsT)).trans (hb10.mono (by have := hb9.size; omega))⟩

end Go.Proofs.Ythcehdllpoenjaa.codeSizes
