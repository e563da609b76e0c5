/- The plain answer's reader: contracts. -/
import Derived.Test.YthcehdllpoenjaaRdS
namespace Go.Proofs.Ythcehdllpoenjaa
open Go.ChangeShapes Go.WideShapes Go.ChangeAt Go.RowKit
set_option linter.unusedVariables false
set_option maxRecDepth 100000
theorem addr_cell {w : World} {ad : Addr} {i : Nat} {v : Value} (h : w.cell? (ad.add i) = some v) (hi : i ≠ 0) : w.cell? ⟨ad.block, ad.off + i, none⟩ = some v := by
  unfold Addr.add at h
  split at h
  · omega
  · exact h
theorem cast_blk {w : World} {g : Nat} {t : TypeId} {cs cs' : Array Value} (h : Blk w g t cs) (e : cs = cs') : Blk w g t cs' := e ▸ h
def RrPost (g : Nat) (A : Option Addr) (n cp : Nat) (r : Option (Int × Nat)) (e : Ending) (w' : World) : Prop := match r with
  | some (v, k) => e = .returned (.int .i64 v) ∧ Blk w' g 35 #[.slice (if cp = k then A else Option.map (fun x => x.add k) A) (n - k) (cp - k), .bool false]
  | none => e = .returned (.int .i64 0) ∧ Blk w' g 35 #[.slice A n cp, .bool true]
set_option maxHeartbeats 40000000 in
theorem RrNumber_ok (g : Nat) (A : Option Addr) (n cp B : Nat) (l : List UInt8) (w : World) (hb : Blk w g 35 #[.slice A n cp, .bool false]) (hr : Reads w B 1 A n (bytesV l)) (hn : (n : Int) ≤ 140737488355328) (hcp : n ≤ cp) (hcm : (cp : Int) ≤ 9223372036854775807) :
    Calls Try.prog 15 #[.pointer (some ⟨g, 0, none⟩)] w fun e w' => w.grownBy w' (some g) ∧ RrPost g A n cp (decA 5 l 0 0) e w' := by
  have h0 : w.cell? ⟨g, 0, none⟩ = some (.slice A n cp) := hb.cell 0
  have h1 : w.cell? ⟨g, 1, none⟩ = some (.bool false) := hb.cell 1
  have f0 : w.frozen? ⟨g, 0, none⟩ = false := hb.frozen 0
  have f1 : w.frozen? ⟨g, 1, none⟩ = false := hb.frozen 1
  have hlen : l.length = n := by have := hr.1; simpa [bytesV] using this
  have HB := Lib.hid hb
  have HR := Lib.hid hr
  clear hb hr
  go_enter Try.func15, Try.ntmps15
  go_wp2
  go_loopw [3, 4] (fun a3 a4 wr => Hid (wr = w ∧ ∃ (i : Nat) (acc : Int), a3 = .int .i64 acc ∧ a4 = .int .i64 i ∧ i ≤ 5 ∧ i ≤ n ∧ 0 ≤ acc ∧ acc < sz i ∧ decA 5 l 0 0 = decA (5 - i) (l.drop i) i acc)) (fun _ a4 _ => match a4 with | .int _ z => (6 - z).toNat | _ => 0)
  case atStart => exact Lib.hid ⟨rfl, 0, 0, rfl, rfl, by omega, by omega, by omega, by decide, rfl⟩
  case round =>
    obtain ⟨hww, i, acc, rfl, rfl, hi5, hin, ha0, ha1, hd⟩ := hrel.out
    clear hrel
    subst hww
    by_cases hlt : i < n
    · obtain ⟨ad, c, rfl, hlc, hcell⟩ := bytes_at HR.out hlt
      have hc255 : (c.toNat : Int) ≤ 255 := by have := c.toNat_lt; omega
      have hc0 : (0 : Int) ≤ (c.toNat : Int) := by omega
      have hlti : (i : Int) < (n : Int) := by omega
      by_cases h5 : i = 5
      · subst h5
        have HD : Hid (decA 5 l 0 0 = none) := hd.trans (by rw [Nat.sub_self]; rfl)
        clear hd hlc
        go_wp2
        go_ret
        rw [HD.out]
        exact ⟨only_setCell (World.grownBy.refl _ _) (Or.inl rfl) _, rfl, HB.out.set_ 1 _⟩
      · have hst := hd.trans (show decA (5 - i) (l.drop i) i acc = _ by rw [show 5 - i = (5 - (i + 1)) + 1 by omega, decA_step l i _ i acc c hlc])
        have hs := sz_bd (i + 1) (by omega)
        have hsi := sz_bd i (by omega)
        have hs1 : sz (i + 1) = sz i * 128 := rfl
        have hm0 : 0 ≤ (c.toNat : Int) % 128 * sz i := Int.mul_nonneg (by omega) (by omega)
        have hm1 : (c.toNat : Int) % 128 * sz i ≤ 127 * sz i := Int.mul_le_mul_of_nonneg_right (by omega) (by omega)
        have hacc : acc + (c.toNat : Int) % 128 * sz i < sz (i + 1) := by omega
        have HST := Lib.hid hst
        have HAC := Lib.hid hacc
        have HM := Lib.hid hm0
        clear hd hlc hst hs1 hm1 hs
        by_cases h128 : (c.toNat : Int) < 128
        · by_cases hz : (c.toNat : Int) = 0 ∧ 1 ≤ i
          · obtain ⟨hz1, hz2⟩ := hz
            have HD : Hid (decA 5 l 0 0 = none) := HST.out.trans (by rw [if_neg (by omega), if_pos (by omega)])
            have hz3 : (0 : Int) < i := by omega
            obtain h | h | h | h | h : i = 0 ∨ i = 1 ∨ i = 2 ∨ i = 3 ∨ i = 4 := by omega
            · omega
            all_goals
              subst h
              have hcell := addr_cell hcell (by omega)
              clear HST HAC HM hm0 hacc hsi
              go_wp2
              go_ret
              rw [HD.out]
              exact ⟨only_setCell (World.grownBy.refl _ _) (Or.inl rfl) _, rfl, HB.out.set_ 1 _⟩
          · have HD : Hid (decA 5 l 0 0 = some (acc + (c.toNat : Int) % 128 * sz i, i + 1)) := HST.out.trans (by rw [if_neg (by omega), if_neg (by omega)])
            have hz3 : (c.toNat : Int) = 0 → i = 0 := fun h => by omega
            clear hm0 hacc hsi
            obtain h | h | h | h | h : i = 0 ∨ i = 1 ∨ i = 2 ∨ i = 3 ∨ i = 4 := by omega
            · subst h
              have hcell : wr.cell? ad = some (.int .u8 (c.toNat : Int)) := hcell
              have hm := HM.out
              have ha := HAC.out
              simp only [sz] at hm ha HD
              clear hz hz3 HM HAC HST
              go_wp2
              all_goals
                go_ret
                rw [HD.out]
                refine ⟨only_setCell (World.grownBy.refl _ _) (Or.inl rfl) _, ret_int (by omega), cast_blk (HB.out.set_ 0 _) ?_⟩
                simp_all [Addr.add]
            all_goals
              subst h
              have hcell := addr_cell hcell (by omega)
              have hz0 : ((c.toNat : Int) == 0) = false := by simp; omega
              have hm := HM.out
              have ha := HAC.out
              simp only [sz] at hm ha HD
              clear hz hz3 HM HAC HST
              go_wp2
              all_goals
                go_ret
                rw [HD.out]
                refine ⟨only_setCell (World.grownBy.refl _ _) (Or.inl rfl) _, ret_int (by omega), cast_blk (HB.out.set_ 0 _) ?_⟩
                simp_all [Addr.add]
        · have HD : Hid (decA 5 l 0 0 = decA (5 - (i + 1)) (l.drop (i + 1)) (i + 1) (acc + (c.toNat : Int) % 128 * sz i)) := HST.out.trans (by rw [if_pos (by omega)])
          have hin1 : i + 1 ≤ n := by omega
          clear hm0 hacc hsi HST
          obtain h | h | h | h | h : i = 0 ∨ i = 1 ∨ i = 2 ∨ i = 3 ∨ i = 4 := by omega
          · subst h
            have hcell : wr.cell? ad = some (.int .u8 (c.toNat : Int)) := hcell
            have hm := HM.out
            have ha := HAC.out
            simp only [sz] at hm ha
            go_wp2
            refine ⟨?_, by simp⟩
            exact Lib.hid ⟨by first | rfl | trivial, 0 + 1, acc + (c.toNat : Int) % 128 * sz 0, by simp [sz], by simp, by omega, hin1, by simp only [sz]; omega, HAC.out, HD.out⟩
          all_goals
            subst h
            have hcell := addr_cell hcell (by omega)
            have hm := HM.out
            have ha := HAC.out
            simp only [sz] at hm ha
            go_wp2
            refine ⟨?_, by simp⟩
            exact Lib.hid ⟨by first | rfl | trivial, _ + 1, _, by simp only [sz]; congr 1 <;> omega, by simp, by omega, hin1, by simp only [sz]; omega, HAC.out, HD.out⟩
    · have HD : Hid (decA 5 l 0 0 = none) := hd.trans (by rw [List.drop_of_length_le (by omega), decA_nil])
      clear hd
      by_cases h5 : i = 5
      · subst h5
        go_wp2
        go_ret
        rw [HD.out]
        exact ⟨only_setCell (World.grownBy.refl _ _) (Or.inl rfl) _, rfl, HB.out.set_ 1 _⟩
      · have hlti : ¬ (i : Int) < (n : Int) := by omega
        have h5i : (i : Int) < 5 := by omega
        go_wp2
        go_ret
        rw [HD.out]
        exact ⟨only_setCell (World.grownBy.refl _ _) (Or.inl rfl) _, rfl, HB.out.set_ 1 _⟩
set_option maxHeartbeats 4000000 in
theorem RrNumberBad_ok (g : Nat) (A : Option Addr) (n cp : Nat) (w : World) (hb : Blk w g 35 #[.slice A n cp, .bool true]) :
    Calls Try.prog 15 #[.pointer (some ⟨g, 0, none⟩)] w fun e w' => w.grownBy w' (some g) ∧ e = .returned (.int .i64 0) ∧ Blk w' g 35 #[.slice A n cp, .bool true] := by
  have h0 : w.cell? ⟨g, 0, none⟩ = some (.slice A n cp) := hb.cell 0
  have h1 : w.cell? ⟨g, 1, none⟩ = some (.bool true) := hb.cell 1
  have f1 : w.frozen? ⟨g, 1, none⟩ = false := hb.frozen 1
  have HB := Lib.hid hb
  clear hb
  go_enter Try.func15, Try.ntmps15
  go_wp2
  go_loopw [3, 4] (fun a3 a4 wr => wr = w) (fun _ _ _ => 0)
  case atStart => exact rfl
  case round =>
    subst hrel
    go_wp2
    go_ret
    exact ⟨only_setCell (World.grownBy.refl _ _) (Or.inl rfl) _, rfl, HB.out.set_ 1 _⟩
/-- The plain answer's reader at g, of the bytes l, at the place p. -/
structure RrS (w : World) (B g : Nat) (l : List UInt8) (p : Nat) (b : Bool) : Prop where
  ge : B ≤ g
  lt : g < w.heap.size
  ex : ∃ A cp, Blk w g 35 #[.slice A (l.length - p) cp, .bool b] ∧ l.length - p ≤ cp ∧ cp ≤ maxLen ∧ l.length ≤ 140737488355000 ∧ p ≤ l.length ∧ ∃ C, ∀ w2, w.grownBy w2 (some g) → Reads w2 C 1 A (l.length - p) (bytesV (l.drop p))
section
variable {w w' : World} {B g : Nat} {l : List UInt8} {p : Nat} {b : Bool}
theorem RrS.grow (h : RrS w B g l p b) (hg : w.grownBy w' none) : RrS w' B g l p b := by
  obtain ⟨A, cp, hb, h1, h2, h3, h4, C, hr⟩ := h.ex
  refine ⟨h.ge, Nat.lt_of_lt_of_le h.lt hg.size, A, cp, hb.grown hg (by simp), h1, h2, h3, h4, C, fun w2 h5 => hr w2 ?_⟩
  exact Lib.grownBy_trans ⟨hg.os, hg.tape, hg.output, hg.size, fun k hk _ => hg.block k hk (by simp)⟩ h5
theorem RrS.below (h : RrS w B g l p b) (hb : Below w.heap.size w w') : RrS w' B g l p b := h.grow (only_of_below hb none)
theorem cut_bytes {w : World} {C n k cp : Nat} {A : Option Addr} {l : List UInt8} (h : Reads w C 1 A n (bytesV l)) (hk : k ≤ n) (hc : n ≤ cp) : Reads w C 1 (if cp = k then A else Option.map (fun x => x.add k) A) (n - k) (bytesV (l.drop k)) := by
  have := h.cut hk hc
  simpa [bytesV, List.map_drop] using this
theorem RrS.Number (h : RrS w B g l p b) :
    Calls Try.prog 15 #[.pointer (some ⟨g, 0, none⟩)] w fun e w' => e = .returned (.int .i64 (rdNum l p b).1) ∧ RrS w' B g l (rdNum l p b).2.1 (rdNum l p b).2.2 ∧ w.grownBy w' (some g) := by
  obtain ⟨A, cp, hb, h1, h2, h3, h4, C, hr⟩ := h.ex
  cases b with
  | true =>
    refine (RrNumberBad_ok g A _ cp w hb).mono ?_
    rintro e w1 ⟨hg, rfl, hb1⟩
    exact ⟨rfl, ⟨h.ge, hb1.lt, A, cp, hb1, h1, h2, h3, h4, C, fun w2 h5 => hr w2 (Lib.grownBy_trans hg h5)⟩, hg⟩
  | false =>
    unfold maxLen at h2
    refine (RrNumber_ok g A _ cp C (l.drop p) w hb (hr w (World.grownBy.refl w _)) (by omega) h1 (by omega)).mono ?_
    rintro e w1 ⟨hg, hp⟩
    cases hd : decN l p with
    | none =>
      have hd' : decA 5 (l.drop p) 0 0 = none := hd
      rw [hd'] at hp
      obtain ⟨rfl, hb1⟩ := hp
      rw [rdNum_none hd]
      exact ⟨rfl, ⟨h.ge, hb1.lt, A, cp, hb1, h1, by unfold maxLen; omega, h3, h4, C, fun w2 h5 => hr w2 (Lib.grownBy_trans hg h5)⟩, hg⟩
    | some q =>
      obtain ⟨v, k⟩ := q
      have hd' : decA 5 (l.drop p) 0 0 = some (v, k) := hd
      rw [hd'] at hp
      obtain ⟨rfl, hb1⟩ := hp
      rw [rdNum_some hd]
      have hbd := decA_bd 5 (l.drop p) 0 0 v k hd' (by omega) (by decide) (by omega)
      have hkn : k ≤ l.length - p := by have := hbd.2.2.2.1; simp at this; omega
      have e1 : l.length - p - k = l.length - (p + k) := by omega
      rw [e1] at hb1
      have hpk : p + k ≤ l.length := by omega
      have hck : l.length - (p + k) ≤ cp - k := by omega
      have hcm : cp - k ≤ maxLen := by unfold maxLen; omega
      refine ⟨rfl, ⟨h.ge, hb1.lt, _, _, hb1, hck, hcm, h3, hpk, C, fun w2 h5 => ?_⟩, hg⟩
      have h6 := cut_bytes (hr w2 (Lib.grownBy_trans hg h5)) hkn h1
      rwa [e1, List.drop_drop] at h6
theorem rrs_next {w1 : World} {q k m cp C : Nat} {A : Option Addr} (hge : B ≤ g) (hb : Blk w1 g 35 #[.slice A m cp, .bool false]) (hr : ∀ w2, w1.grownBy w2 (some g) → Reads w2 C 1 A (l.length - q) (bytesV (l.drop q))) (hm : m = l.length - q) (hk : k ≤ m) (hq : q ≤ l.length) (hmc : m ≤ cp) (hcm : cp ≤ maxLen) (h3 : l.length ≤ 140737488355000) (V : Value)
    (hV : V = .slice (if cp = k then A else Option.map (fun x => x.add k) A) (m - k) (cp - k)) : RrS (w1.setCell ⟨g, 0, none⟩ V) B g l (q + k) false := by
  subst hV
  have hb2 := hb.set_ 0 (.slice (if cp = k then A else Option.map (fun x => x.add k) A) (m - k) (cp - k))
  have e1 : l.length - (q + k) = m - k := by omega
  refine ⟨hge, hb2.lt, _, cp - k, by rw [e1]; exact hb2, by omega, by omega, h3, by omega, C, fun w2 h5 => ?_⟩
  have h6 := cut_bytes (hr w2 (Lib.grownBy_trans (only_setCell (World.grownBy.refl _ _) (Or.inl rfl) _) h5)) (k := k) (cp := cp) (by omega) (by omega)
  rwa [show l.length - q - k = l.length - (q + k) by omega, List.drop_drop] at h6
set_option maxHeartbeats 4000000 in
theorem RrS.Text (h : RrS w B g l p b) :
    Calls Try.prog 17 #[.pointer (some ⟨g, 0, none⟩)] w fun e w' => e = .returned (.string ⟨(rdText l p b).1.toArray⟩) ∧ RrS w' B g l (rdText l p b).2.1 (rdText l p b).2.2 ∧ w.grownBy w' (some g) := by
  have hN := h.Number
  have hpl : p ≤ l.length := by obtain ⟨A, cp, hb, h1, h2, h3, h4, C, hr⟩ := h.ex; exact h4
  have hbd := rdNum_bd l p b hpl
  rcases hrd : rdNum l p b with ⟨v, q, d⟩
  rw [hrd] at hbd hN
  simp only at hbd hN
  have Ht := Lib.hid (rdText_out hrd)
  clear hrd h hpl
  obtain ⟨hv0, hv1, hq0, hq1, hbad⟩ := hbd
  obtain ⟨k, rfl⟩ : ∃ k : Nat, v = k := ⟨v.toNat, by omega⟩
  cases d with
  | true =>
    have Hx : Hid (rdText l p b = ([], q, true)) := Ht.out.trans (if_pos (Or.inl rfl))
    clear Ht hbad
    go_enter Try.func17, Try.ntmps17
    go_wp2_with fail
    refine hN.mono ?_
    rintro e w1 ⟨rfl, hR, hg⟩
    obtain ⟨A, cp, hb1, h1, h2, h3, h4, C, hr⟩ := hR.ex
    have z0 : w1.cell? ⟨g, 0, none⟩ = some (.slice A (l.length - q) cp) := hb1.cell 0
    have z1 : w1.cell? ⟨g, 1, none⟩ = some (.bool true) := hb1.cell 1
    have y1 : w1.frozen? ⟨g, 1, none⟩ = false := hb1.frozen 1
    have HR := Lib.hid (And.intro hR hr)
    clear hr hR hN
    go_wp2
    go_ret
    rw [Hx.out]
    have hb2 := hb1.set_ 1 (.bool true)
    exact ⟨rfl, ⟨HR.out.1.ge, hb2.lt, A, cp, hb2, h1, h2, h3, h4, C, fun w2 h5 => HR.out.2 w2 (Lib.grownBy_trans (only_setCell (World.grownBy.refl _ _) (Or.inl rfl) _) h5)⟩, only_setCell hg (Or.inl rfl) _⟩
  | false =>
    clear hbad
    by_cases hbig : 200 < (k : Int)
    · have Hx : Hid (rdText l p b = ([], q, true)) := Ht.out.trans (if_pos (Or.inr (Or.inl hbig)))
      clear Ht
      go_enter Try.func17, Try.ntmps17
      go_wp2_with fail
      refine hN.mono ?_
      rintro e w1 ⟨rfl, hR, hg⟩
      obtain ⟨A, cp, hb1, h1, h2, h3, h4, C, hr⟩ := hR.ex
      have z0 : w1.cell? ⟨g, 0, none⟩ = some (.slice A (l.length - q) cp) := hb1.cell 0
      have z1 : w1.cell? ⟨g, 1, none⟩ = some (.bool false) := hb1.cell 1
      have y1 : w1.frozen? ⟨g, 1, none⟩ = false := hb1.frozen 1
      have HR := Lib.hid (And.intro hR hr)
      clear hr hR hN
      go_wp2
      go_ret
      rw [Hx.out]
      have hb2 := hb1.set_ 1 (.bool true)
      exact ⟨rfl, ⟨HR.out.1.ge, hb2.lt, A, cp, hb2, h1, h2, h3, h4, C, fun w2 h5 => HR.out.2 w2 (Lib.grownBy_trans (only_setCell (World.grownBy.refl _ _) (Or.inl rfl) _) h5)⟩, only_setCell hg (Or.inl rfl) _⟩
    · by_cases hout : (l.length : Int) < (q : Int) + (k : Int)
      · have Hx : Hid (rdText l p b = ([], q, true)) := Ht.out.trans (if_pos (Or.inr (Or.inr hout)))
        obtain ⟨m, hm⟩ : ∃ m : Nat, m = l.length - q := ⟨_, rfl⟩
        have hout2 : (m : Int) < (k : Int) := by omega
        clear Ht
        go_enter Try.func17, Try.ntmps17
        go_wp2_with fail
        refine hN.mono ?_
        rintro e w1 ⟨rfl, hR, hg⟩
        obtain ⟨A, cp, hb1, h1, h2, h3, h4, C, hr⟩ := hR.ex
        have z0 : w1.cell? ⟨g, 0, none⟩ = some (.slice A (l.length - q) cp) := hb1.cell 0
        rw [← hm] at z0
        have z1 : w1.cell? ⟨g, 1, none⟩ = some (.bool false) := hb1.cell 1
        have y1 : w1.frozen? ⟨g, 1, none⟩ = false := hb1.frozen 1
        have HR := Lib.hid (And.intro hR hr)
        clear hr hR hN
        go_wp2
        go_ret
        rw [Hx.out]
        have hb2 := hb1.set_ 1 (.bool true)
        exact ⟨rfl, ⟨HR.out.1.ge, hb2.lt, A, cp, hb2, h1, h2, h3, h4, C, fun w2 h5 => HR.out.2 w2 (Lib.grownBy_trans (only_setCell (World.grownBy.refl _ _) (Or.inl rfl) _) h5)⟩, only_setCell hg (Or.inl rfl) _⟩
      · have Hx : Hid (rdText l p b = ((l.drop q).take k, q + k, false)) := Ht.out.trans (if_neg (fun h => h.elim (fun h => by cases h) (fun h => h.elim hbig hout)))
        obtain ⟨m, hm⟩ : ∃ m : Nat, m = l.length - q := ⟨_, rfl⟩
        have hout2 : ¬ (m : Int) < (k : Int) := by omega
        have hkm : k ≤ m := by omega
        clear Ht
        go_enter Try.func17, Try.ntmps17
        go_wp2_with fail
        refine hN.mono ?_
        rintro e w1 ⟨rfl, hR, hg⟩
        obtain ⟨A, cp, hb1, h1, h2, h3, h4, C, hr⟩ := hR.ex
        unfold maxLen at h2
        rw [← hm] at hb1 h1
        have z0 : w1.cell? ⟨g, 0, none⟩ = some (.slice A m cp) := hb1.cell 0
        have z1 : w1.cell? ⟨g, 1, none⟩ = some (.bool false) := hb1.cell 1
        have y0 : w1.frozen? ⟨g, 0, none⟩ = false := hb1.frozen 0
        have hmc : (m : Int) ≤ (cp : Int) := by omega
        have hkc : (k : Int) ≤ (cp : Int) := by omega
        have hcv : (convert 22 9 (.slice A k cp)).run Try.prog w1 = .ok (.string ⟨((l.drop q).take k).toArray⟩) w1 := run_conv_reads Try.underlying22 Try.underlying5 Try.underlying9 (show Reads _ C 1 _ _ _ by have h := (hr w1 (World.grownBy.refl _ _)).take_ (m := k) (by omega); simpa [bytesV, List.map_take, List.map_drop] using h)
        have HR := Lib.hid (And.intro hR hr)
        clear hr hR hN
        go_wp2
        all_goals
          go_ret
          rw [Hx.out]
          refine ⟨rfl, rrs_next HR.out.1.ge hb1 HR.out.2 hm hkm hq1 h1 (by unfold maxLen; omega) h3 _ ?_, only_setCell hg (Or.inl rfl) _⟩
          simp_all
          try omega
end
end Go.Proofs.Ythcehdllpoenjaa
