/- Bytes copied, cut, lent, and whether what was lent is as it was. -/
import Derived.Test.YtplmfmcogbdpjaaSameByte
import Derived.Laws.CopyOwn
import Derived.Deep.WholeRow
namespace Go.Proofs.Ytplmfmcogbdpjaa
open Go.ChangeShapes Go.WideShapes Go.ChangeAt Go.RowKit
set_option linter.unusedVariables false
set_option maxRecDepth 100000
theorem bytes_at {w : World} {B n k : Nat} {A : Option Addr} {l : List UInt8} (hr : Reads w B 1 A n (bytesV l)) (hk : k < n) : ∃ ad c, A = some ad ∧ l[k]? = some c ∧ w.cell? (ad.add k) = some (.int .u8 (c.toNat : Int)) := by
  obtain ⟨ad, u, rfl, _, hx, hc⟩ := hr.at_ hk
  simp only [bytesV, List.getElem?_map, Option.map_eq_some_iff] at hx
  obtain ⟨x, h1, h2⟩ := hx
  exact ⟨ad, x, rfl, h1, by rw [hc, h2]⟩
theorem addr_cell {w : World} {ad : Addr} {i : Nat} {v : Value} (h : w.cell? (ad.add i) = some v) (hi : i ≠ 0) : w.cell? ⟨ad.block, ad.off + i, none⟩ = some v := by
  unfold Addr.add at h
  split at h
  · omega
  · exact h
theorem cast_blk {w : World} {g : Nat} {t : TypeId} {cs cs' : Array Value} (h : Blk w g t cs) (e : cs = cs') : Blk w g t cs' := e ▸ h
theorem byte_info : (Try.prog.info? 5).map (fun i => (i.zero, i.size, i.bytes)) = some (some (.int .u8 0), 1, 1) := by kernel_rfl
theorem Reads.take_ {w : World} {B n m : Nat} {A : Option Addr} {xs : List Value} (h : Reads w B 1 A n xs) (hm : m ≤ n) : Reads w B 1 A m (xs.take m) := by
  have hl := h.1
  refine ⟨by rw [List.length_take]; omega, fun hp => ?_⟩
  obtain ⟨ad, rfl, hb, hc⟩ := h.2 (by omega)
  refine ⟨ad, rfl, hb, fun j u hu => hc j u ?_⟩
  rw [List.getElem?_take] at hu
  split at hu
  · exact hu
  · cases hu
set_option maxHeartbeats 4000000 in
theorem Copy_any (A : Option Addr) (n cp B : Nat) (l : List UInt8) (w : World) (hr : Reads w B 1 A n (bytesV l)) (hn : n ≤ 140737488355000) :
    Calls Try.prog 26 #[.slice A n cp] w fun e w' => ∃ v, e = .returned v ∧ w'.ownsRow w.heap.size 5 1 v n (bytesV l) ∧ Below w.heap.size w w' := by
  obtain ⟨i0, hi, hz0, hz1, hz2⟩ := info_parts byte_info
  go_enter Try.func26, Try.ntmps26
  go_wp2_with (first | (at_builtin; go_must (refine wpList_append_any _ rfl _ _ 28 rfl w.heap.size 5 i0 (.int .u8 0) 1 1 Try.underlying28 hi hz0 hz1 hz2 rfl (by decide) (.slice none 0 0) 0 [] rfl ⟨by simp, .inl ⟨rfl, rfl⟩⟩ B A n cp (bytesV l) rfl hr (by simp [bytesV, Value.oneCell']) (by simp only [maxLen]; omega) (by omega) (Nat.le_refl _) ?_); intro v1 w1 hown1 hg1 _hne; clear _hne; rw [Nat.zero_add, List.nil_append] at hown1))
  go_ret
  exact ⟨v1, rfl, hown1, (Below.refl _ _).grown hg1 (Nat.le_refl _) (fun k hk => by cases hk)⟩
set_option maxHeartbeats 4000000 in
theorem Cut_any (A : Option Addr) (n cp B : Nat) (l : List UInt8) (w : World) (hr : Reads w B 1 A n (bytesV l)) (hc : n ≤ cp) (hm : (cp : Int) ≤ 9223372036854775807) :
    Calls Try.prog 24 #[.slice A n cp, .int .i64 3] w fun e w' => ∃ v L, e = .returned v ∧ L.length ≤ 3 ∧ w'.ownsRow w.heap.size 5 1 v L.length (bytesV L) ∧ Below w.heap.size w w' := by
  have hlen : l.length = n := by have := hr.1; simpa [bytesV] using this
  by_cases h : n ≤ 3
  · have h1 : (n : Int) ≤ 3 := by omega
    have h2 : (n : Int) ≤ (cp : Int) := by omega
    have hC := fun w1 (hr : Reads w1 B 1 A n (bytesV l)) => Copy_any A n cp B l w1 hr (by omega)
    have HR := Lib.hid hr
    clear hr
    go_enter Try.func24, Try.ntmps24
    go_wp2_with fail
    refine (hC _ HR.out).mono ?_
    rintro e w1 ⟨v, rfl, ho, hb⟩
    go_wp2
    go_ret
    exact ⟨v, l, rfl, by omega, by rw [hlen]; exact ho, hb⟩
  · have h1 : ¬ (n : Int) ≤ 3 := by omega
    have h2 : (3 : Int) ≤ (cp : Int) := by omega
    have h3 : 3 ≤ cp := by omega
    have hC := fun w1 (hr : Reads w1 B 1 A 3 (bytesV (l.take 3))) => Copy_any A 3 cp B (l.take 3) w1 hr (by omega)
    have HR := Lib.hid (show Reads w B 1 A 3 (bytesV (l.take 3)) by have h := hr.take_ (m := 3) (by omega); simpa [bytesV, List.map_take] using h)
    clear hr
    go_enter Try.func24, Try.ntmps24
    go_wp2_with fail
    refine (hC _ HR.out).mono ?_
    rintro e w1 ⟨v, rfl, ho, hb⟩
    go_wp2
    go_ret
    have e3 : (l.take 3).length = 3 := by rw [List.length_take]; omega
    exact ⟨v, l.take 3, rfl, by omega, by rw [e3]; exact ho, hb⟩
/-- What lent bytes have behind them. -/
def padV : Nat → List Value
  | 0 => [Value.int .u8 0, Value.int .u8 0, Value.int .u8 0]
  | 1 => [Value.int .u8 85, Value.int .u8 0, Value.int .u8 0]
  | 2 => [Value.int .u8 85, Value.int .u8 85, Value.int .u8 0]
  | _ => [Value.int .u8 85, Value.int .u8 85, Value.int .u8 85]
def lentV (l : List UInt8) : Array Value := (bytesV l ++ padV 3).toArray
theorem made_list (n : Nat) : (madeCells #[.int .u8 0] n).toList = List.replicate n (.int .u8 0) := toList_madeCells_one _ n
theorem pad_set (l : List Value) (n k : Nat) (hl : l.length = n) (hk : k < 3) : (l ++ padV k).toArray.setIfInBounds (n + k) (Value.int .u8 85) = (l ++ padV (k + 1)).toArray := by
  subst hl
  obtain h | h | h : k = 0 ∨ k = 1 ∨ k = 2 := by omega
  all_goals
    subst h
    first
      | (simp [padV]; done)
      | simp [padV, List.set_append]
theorem pad_get (l : List Value) (n k : Nat) (hl : l.length = n) (hk : k < 3) : ∃ x, (l ++ padV k).toArray[n + k]? = some x := by
  subst hl
  obtain h | h | h : k = 0 ∨ k = 1 ∨ k = 2 := by omega
  all_goals
    subst h
    exact ⟨_, by simp [padV]; rfl⟩
set_option maxHeartbeats 4000000 in
theorem Lend_any (A : Option Addr) (n cp B : Nat) (l : List UInt8) (w : World) (hr : Reads w B 1 A n (bytesV l)) (hB : B ≤ w.heap.size) (hn : n ≤ 140737488355000) :
    Calls Try.prog 36 #[.slice A n cp] w fun e w' => ∃ g, e = .returned (.slice (some ⟨g, 0, none⟩) n (n + 3)) ∧ w.heap.size ≤ g ∧ Blk w' g 5 (lentV l) ∧ Below w.heap.size w w' := by
  obtain ⟨i0, hi, hz0, hz1, hz2⟩ := info_parts byte_info
  have hlen : l.length = n := by have := hr.1; simpa [bytesV] using this
  have hmk : ∀ W, (Instr.makeSlice 28 (.int .i64 (n : Int)) (.int .i64 ((n : Int) + 3))).run Try.prog W = .ok (.slice (some ⟨W.heap.size, 0, none⟩) n (n + 3)) (W.alloc (.cells (madeCells #[.int .u8 0] (n + 3)) 5)) := fun W => by
    have h := run_make_rowN (P := Try.prog) 28 5 i0 (.int .u8 0) Try.underlying28 hi hz0 .i64 .i64 n (n + 3) (by omega) (by rw [hz2]; omega) (by omega) W
    rw [hz1, Nat.mul_one, show (Value.int .u8 0).cells = #[Value.int .u8 0] from rfl] at h
    simpa using h
  have hsz1 : (Try.prog.info? 5).map (·.size) = some 1 := by rw [hi]; simp [hz1]
  have hml := made_list (n + 3)
  have hms : (madeCells #[.int .u8 0] (n + 3)).size = n + 3 := size_madeCells _ _
  generalize madeCells #[.int .u8 0] (n + 3) = R at *
  have hR : (R.toList.take 0 ++ bytesV l ++ R.toList.drop (0 + (bytesV l).length)).toArray = (bytesV l ++ padV 0).toArray := by
    rw [hml]
    have e : (bytesV l).length = n := hr.1.trans (by omega)
    rw [e]
    simp only [List.take_zero, List.nil_append, Nat.zero_add, List.drop_replicate, show n + 3 - n = 3 by omega]
    rfl
  have hR0 : n = 0 → R = (bytesV l ++ padV 0).toArray := fun h => by
    have e : bytesV l = [] := List.eq_nil_of_length_eq_zero (by have := hr.1; omega)
    rw [e, ← Array.toList_inj, hml, h]
    rfl
  have hbl : (bytesV l).length = n := hr.1.trans (by omega)
  go_enter Try.func36, Try.ntmps36
  have hfin : ∀ (Q : Prop), Q → Q := fun _ h => h
  have hb0 : Blk (w.alloc (.cells (bytesV l ++ padV 0).toArray 5)) w.heap.size 5 (bytesV l ++ padV 0).toArray := Blk.new _ _ _
  have hbe0 : Below w.heap.size w (w.alloc (.cells (bytesV l ++ padV 0).toArray 5)) := (Below.refl _ _).alloc (Nat.le_refl _) _
  have HB0 := Lib.hid (And.intro hb0 hbe0)
  clear hb0 hbe0 hfin hml
  by_cases h0 : n = 0
  · have hRe := hR0 h0
    have HN0 := Lib.hid h0
    clear hR hR0 h0
    subst hRe
    have hcp := run_copy_none (P := Try.prog) (w.alloc (.cells (bytesV l ++ padV 0).toArray 5)) 28 28 3 5 (some ⟨w.heap.size, 0, none⟩) A n (n + 3) n cp Try.underlying28 hsz1 (by have := HN0.out; simp; omega)
    go_wp2
    go_loopw [5] (fun i wr => Hid (∃ k : Nat, k ≤ 3 ∧ i = .int .i64 ((n : Int) + (k : Int)) ∧ Blk wr w.heap.size 5 (bytesV l ++ padV k).toArray ∧ Below w.heap.size w wr)) (fun i _ => match i with | .int _ z => (n + 3 - z).toNat | _ => 0)
    case atStart => exact Lib.hid ⟨0, by omega, by simp, HB0.out.1, HB0.out.2⟩
    case round =>
      obtain ⟨k, hk, rfl, hb, hbe⟩ := hrel.out
      clear hrel HB0
      by_cases hk3 : k = 3
      · subst hk3
        go_wp2
        go_ret
        exact ⟨_, rfl, Nat.le_refl _, hb, hbe⟩
      · have hkl : (k : Int) < 3 := by omega
        obtain ⟨x, hx⟩ := pad_get (bytesV l) n k hbl (by omega)
        have hcx : wr.cell? ⟨w.heap.size, n + k, none⟩ = some x := (hb.cell _).trans hx
        have hfx : wr.frozen? ⟨w.heap.size, n + k, none⟩ = false := hb.frozen _
        have hst := hb.set_ (n + k) (.int .u8 85)
        rw [pad_set _ _ _ hbl (by omega)] at hst
        have hbf := hbe.setCell (p := ⟨w.heap.size, n + k, none⟩) (Nat.le_refl _) (.int .u8 85)
        have HST := Lib.hid (And.intro hst hbf)
        clear hst hbf hx
        go_wp2
        refine ⟨?_, by simp; omega⟩
        exact Lib.hid ⟨k + 1, by omega, by simp; omega, HST.out.1, HST.out.2⟩
  · obtain ⟨ad, rfl, hadb, hsrc⟩ := hr.2 (by omega)
    have hsrc2 : ∀ j v, (bytesV l)[j]? = some v → (w.alloc (.cells R 5)).cell? (ad.add j) = some v := fun j v h => (World.cell?_alloc_lt w _ _ (by rw [block_of_add]; omega)).trans (hsrc j v h)
    have hcp := run_copy_row (P := Try.prog) (w.alloc (.cells R 5)) 28 28 3 5 w.heap.size 0 n (n + 3) ad n cp R 5 (bytesV l) Try.underlying28 hsz1 (Blk.new w _ R) (by rw [hbl]; simp) hsrc2 (by rw [hbl, hms]; omega) (by simp [bytesV, Value.oneCell'])
    rw [World.setRow_alloc_new, hR] at hcp
    clear hsrc2 hsrc hR hR0 hms h0
    go_wp2
    go_loopw [5] (fun i wr => Hid (∃ k : Nat, k ≤ 3 ∧ i = .int .i64 ((n : Int) + (k : Int)) ∧ Blk wr w.heap.size 5 (bytesV l ++ padV k).toArray ∧ Below w.heap.size w wr)) (fun i _ => match i with | .int _ z => (n + 3 - z).toNat | _ => 0)
    case atStart => exact Lib.hid ⟨0, by omega, by simp, HB0.out.1, HB0.out.2⟩
    case round =>
      obtain ⟨k, hk, rfl, hb, hbe⟩ := hrel.out
      clear hrel HB0
      by_cases hk3 : k = 3
      · subst hk3
        go_wp2
        go_ret
        exact ⟨_, rfl, Nat.le_refl _, hb, hbe⟩
      · have hkl : (k : Int) < 3 := by omega
        obtain ⟨x, hx⟩ := pad_get (bytesV l) n k hbl (by omega)
        have hcx : wr.cell? ⟨w.heap.size, n + k, none⟩ = some x := (hb.cell _).trans hx
        have hfx : wr.frozen? ⟨w.heap.size, n + k, none⟩ = false := hb.frozen _
        have hst := hb.set_ (n + k) (.int .u8 85)
        rw [pad_set _ _ _ hbl (by omega)] at hst
        have hbf := hbe.setCell (p := ⟨w.heap.size, n + k, none⟩) (Nat.le_refl _) (.int .u8 85)
        have HST := Lib.hid (And.intro hst hbf)
        clear hst hbf hx
        go_wp2
        refine ⟨?_, by simp; omega⟩
        exact Lib.hid ⟨k + 1, by omega, by simp; omega, HST.out.1, HST.out.2⟩
theorem lent_in (l : List UInt8) (k : Nat) (c : UInt8) (h : l[k]? = some c) : (lentV l)[k]? = some (.int .u8 (c.toNat : Int)) := by
  have hk := (List.getElem?_eq_some_iff.1 h).1
  unfold lentV
  rw [List.getElem?_toArray, List.getElem?_append_left (by simpa [bytesV] using hk)]
  simp [bytesV, h]
theorem lent_out (l : List UInt8) (k : Nat) (h1 : l.length ≤ k) (h2 : k < l.length + 3) : (lentV l)[k]? = some (.int .u8 85) := by
  have e : (bytesV l).length = l.length := by simp [bytesV]
  unfold lentV
  rw [List.getElem?_toArray, List.getElem?_append_right (by omega), e]
  obtain h | h | h : k - l.length = 0 ∨ k - l.length = 1 ∨ k - l.length = 2 := by omega
  all_goals
    rw [h]
    rfl
set_option maxHeartbeats 4000000 in
theorem Intact_any (g : Nat) (A : Option Addr) (n cp B : Nat) (l : List UInt8) (w : World) (hb : Blk w g 5 (lentV l)) (hr : Reads w B 1 A n (bytesV l)) (hn : n ≤ 140737488355000) :
    Calls Try.prog 38 #[.slice (some ⟨g, 0, none⟩) n (n + 3), .slice A n cp] w fun e w' => e = .returned (.bool true) ∧ ∃ k, w' = w.drewN k := by
  have hlen : l.length = n := by have := hr.1; simpa [bytesV] using this
  have F := Lib.hid (And.intro hb hr)
  clear hb hr
  go_enter Try.func38, Try.ntmps38
  go_wp2
  go_loopw [27] (fun i wr => ∃ k m : Nat, k ≤ n + 3 ∧ i = .int .i64 k ∧ wr = w.drewN m) (fun i _ => match i with | .int _ z => (n + 3 - z).toNat | _ => 0)
  case atStart => exact ⟨0, 0, by omega, rfl, rfl⟩
  case round =>
    obtain ⟨k, m, hk, rfl, rfl⟩ := hrel
    have hb2 := F.out.1.drewN m
    have hr2 := F.out.2.drewN m
    by_cases hlt : k < n
    · obtain ⟨ad, c, rfl, hlc, hcell⟩ := bytes_at hr2 hlt
      have hg : (w.drewN m).cell? ⟨g, k, none⟩ = some (.int .u8 (c.toNat : Int)) := (hb2.cell k).trans (lent_in l k c hlc)
      have hd1 : decide (k < n) = true := by simpa using hlt
      have hd2 : decide (n ≤ k) = false := by simpa using hlt
      have hki : (k : Int) < (n : Int) + 3 := by omega
      have hki2 : (k : Int) < (n : Int) := by omega
      have hF := Lib.hid (And.intro hlc hlt)
      clear hb2 hr2 hlc
      generalize hwd : w.drewN m = wd at *
      go_wp2
      go_quiet (fail)
      go_wp2
      refine ⟨⟨k + 1, m + nq, by omega, by simp, by rw [← hwd, World.drewN_drewN]⟩, by simp; omega⟩
    · by_cases hlt3 : k < n + 3
      · have hg : (w.drewN m).cell? ⟨g, k, none⟩ = some (.int .u8 85) := (hb2.cell k).trans (lent_out l k (by omega) (by omega))
        have hd1 : decide (k < n) = false := by simpa using hlt
        have hd2 : decide (n ≤ k) = true := by simp; omega
        have hki : (k : Int) < (n : Int) + 3 := by omega
        have hki2 : ¬ (k : Int) < (n : Int) := by omega
        have hki3 : (n : Int) ≤ (k : Int) := by omega
        clear hb2 hr2
        generalize hwd : w.drewN m = wd at *
        go_wp2
        go_quiet (fail)
        go_wp2
        refine ⟨⟨k + 1, m + nq, by omega, by simp, by rw [← hwd, World.drewN_drewN]⟩, by simp; omega⟩
      · have hki : ¬ (k : Int) < (n : Int) + 3 := by omega
        clear hb2 hr2
        go_wp2
        go_ret
        exact ⟨rfl, _, rfl⟩
end Go.Proofs.Ytplmfmcogbdpjaa
