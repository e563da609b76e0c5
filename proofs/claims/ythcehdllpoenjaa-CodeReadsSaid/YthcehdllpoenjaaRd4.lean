/- Two readers beside one another: the program's, the plain answer's. -/
import Derived.Test.YthcehdllpoenjaaLend
import Derived.Test.YthcehdllpoenjaaRrDone
namespace Go.Proofs.Ythcehdllpoenjaa
open Go.ChangeShapes Go.WideShapes Go.ChangeAt Go.RowKit
set_option linter.unusedVariables false
/-- No block but V's is turned. -/
def Vol (w w2 : World) (V : Nat → Prop) : Prop := w.heap.size ≤ w2.heap.size ∧ ∀ k, k < w.heap.size → ¬ V k → w2.heap[k]? = w.heap[k]?
theorem Vol.refl (w : World) (V : Nat → Prop) : Vol w w V := ⟨Nat.le_refl _, fun _ _ _ => rfl⟩
theorem Vol.trans {a b c : World} {V : Nat → Prop} (h : Vol a b V) (k : Vol b c V) : Vol a c V := ⟨Nat.le_trans h.1 k.1, fun i hi hv => (k.2 i (Nat.lt_of_lt_of_le hi h.1) hv).trans (h.2 i hi hv)⟩
theorem Vol.of_grown {w w' : World} {V : Nat → Prop} {g : Nat} (h : w.grownBy w' (some g)) (hv : V g) : Vol w w' V := ⟨h.size, fun k hk hn => h.block k hk (fun e => hn (by injection e with e; subst e; exact hv))⟩
theorem Vol.of_below {w w' : World} {V : Nat → Prop} (h : Below w.heap.size w w') : Vol w w' V := ⟨h.size, fun k hk _ => h.block k hk⟩
theorem Reads.vol {w w2 : World} {V : Nat → Prop} {C n : Nat} {A : Option Addr} {xs : List Value} (h : Reads w C 1 A n xs) (hv : Vol w w2 V) (hC : C ≤ w.heap.size) (hn : ∀ k, k < C → ¬ V k) : Reads w2 C 1 A n xs := h.keep fun p hp => by
  have e := hv.2 p.block (by omega) (hn _ hp)
  unfold World.cell?
  rw [e]
set_option maxRecDepth 100000 in
set_option maxHeartbeats 1000000 in
theorem New_any2 (A : Option Addr) (n cp B : Nat) (l : List UInt8) (w : World) (hr : Reads w B 1 A n (bytesV l)) (hn : (n : Int) ≤ 140737488355000) :
    Calls Try.prog 12 #[.slice A n cp] w fun e w' => ∃ g A' cp', e = .returned (.pointer (some ⟨g, 0, none⟩)) ∧ w.heap.size ≤ g ∧ Blk w' g 47 #[.slice A' n cp', .int .i64 0, .bool false] ∧ n ≤ cp' ∧ cp' ≤ maxLen ∧ (∀ w2, w'.grownBy w2 (some g) → Reads w2 w'.heap.size 1 A' n (bytesV l)) ∧ Below w.heap.size w w' ∧ Reads w' g 1 A' n (bytesV l) := by
  obtain ⟨i0, hi, hz0, hz1, hz2⟩ := info_parts byte_info
  go_enter Try.func12, Try.ntmps12
  go_wp2_with (first | (at_builtin; go_must (refine wpList_append_any _ rfl _ _ 22 rfl w.heap.size 5 i0 (.int .u8 0) 1 1 Try.underlying22 hi hz0 hz1 hz2 rfl (by decide) (.slice none 0 0) 0 [] rfl ⟨by simp, .inl ⟨rfl, rfl⟩⟩ B A n cp (bytesV l) rfl hr (by simp [bytesV, Value.oneCell']) (by simp only [maxLen]; omega) (by omega) (Nat.le_refl _) ?_); intro v1 w1 hown1 hg1 _hne; clear _hne; rw [Nat.zero_add, List.nil_append] at hown1; obtain ⟨A1, c1, rfl, hc1, hcm⟩ := own_slice hown1))
  go_ret
  have h1 := Reads.of_own hown1
  refine ⟨w1.heap.size, A1, c1, rfl, hg1.size, Blk.new _ _ _, hc1, hcm, fun w2 hg2 => ?_, ?_, h1.alloc (Nat.le_refl _) (.cells #[.slice A1 n c1, .int .i64 0, .bool false] 47)⟩
  · have h2 := h1.alloc (Nat.le_refl _) (.cells #[.slice A1 n c1, .int .i64 0, .bool false] 47)
    have hs : (w1.alloc (.cells #[.slice A1 n c1, .int .i64 0, .bool false] 47)).heap.size = w1.heap.size + 1 := by simp
    exact (h2.keep (fun p hp => hg2.cell_far p (by omega) (by intro h; injection h with h; omega))).more (by omega)
  · exact ((Below.refl _ _).grown hg1 (Nat.le_refl _) (fun k hk => by cases hk)).alloc hg1.size _
set_option maxRecDepth 100000
/-- A reader at g, of the bytes l, at the place p. -/
structure RdV (w : World) (B g : Nat) (V : Nat → Prop) (l : List UInt8) (p : Nat) (b : Bool) : Prop where
  ge : B ≤ g
  lt : g < w.heap.size
  hv : V g
  ex : ∃ A cp, Blk w g 47 #[.slice A l.length cp, .int .i64 p, .bool b] ∧ l.length ≤ cp ∧ cp ≤ maxLen ∧ l.length ≤ 140737488355000 ∧ p ≤ l.length ∧ ∃ C, ∀ w2, Vol w w2 V → Reads w2 C 1 A l.length (bytesV l)
section
variable {w w' : World} {B g : Nat} {V : Nat → Prop} {l : List UInt8} {p : Nat} {b : Bool}
theorem RdV.Number (h : RdV w B g V l p b) :
    Calls Try.prog 14 #[.pointer (some ⟨g, 0, none⟩)] w fun e w' => e = .returned (.int .i64 (rdNum l p b).1) ∧ RdV w' B g V l (rdNum l p b).2.1 (rdNum l p b).2.2 ∧ w.grownBy w' (some g) := by
  obtain ⟨A, cp, hb, h1, h2, h3, h4, C, hr⟩ := h.ex
  have hbd := rdNum_bd l p b h4
  refine (RdNum_ok g A l.length cp p C l b w hb (hr w (Vol.refl w V)) (by omega) h4).mono ?_
  rintro e w1 ⟨rfl, hb1, hg1⟩
  exact ⟨rfl, ⟨h.ge, hb1.lt, h.hv, A, cp, hb1, h1, h2, h3, hbd.2.2.2.1, C, fun w2 h5 => hr w2 ((Vol.of_grown hg1 h.hv).trans h5)⟩, hg1⟩
theorem RdV.Text (h : RdV w B g V l p b) :
    Calls Try.prog 16 #[.pointer (some ⟨g, 0, none⟩)] w fun e w' => e = .returned (.string ⟨(rdText l p b).1.toArray⟩) ∧ RdV w' B g V l (rdText l p b).2.1 (rdText l p b).2.2 ∧ w.grownBy w' (some g) := by
  obtain ⟨A, cp, hb, h1, h2, h3, h4, C, hr⟩ := h.ex
  have hbd := rdNum_bd l p b h4
  have hp : (rdText l p b).2.1 ≤ l.length := by
    unfold rdText
    split
    · exact hbd.2.2.2.1
    · rename_i hn
      show (rdNum l p b).2.1 + (rdNum l p b).1.toNat ≤ l.length
      omega
  unfold maxLen at h2
  refine (RdText_ok g A l.length cp p C l b w hb (fun w2 h5 => hr w2 (Vol.of_grown h5 h.hv)) (by omega) h1 (by omega) h4).mono ?_
  rintro e w1 ⟨rfl, hb1, hg1⟩
  exact ⟨rfl, ⟨h.ge, hb1.lt, h.hv, A, cp, hb1, h1, by unfold maxLen; omega, h3, hp, C, fun w2 h5 => hr w2 ((Vol.of_grown hg1 h.hv).trans h5)⟩, hg1⟩
theorem RdV.Done (h : RdV w B g V l p b) :
    Calls Try.prog 18 #[.pointer (some ⟨g, 0, none⟩)] w fun e w' => e = .returned (.bool (!b && p == l.length)) ∧ ∃ m, w' = w.drewN m := by
  obtain ⟨A, cp, hb, h1, h2, h3, h4, C, hr⟩ := h.ex
  exact RdDone_ok g A l.length cp p b w hb
theorem RdV.Bad (h : RdV w B g V l p b) :
    Calls Try.prog 20 #[.pointer (some ⟨g, 0, none⟩)] w fun e w' => e = .returned (.bool b) ∧ w = w' := by
  obtain ⟨A, cp, hb, h1, h2, h3, h4, C, hr⟩ := h.ex
  exact RdBad_ok g A l.length cp p b w hb
end
/-- The plain answer's reader at g, of the bytes l, at the place p. -/
structure RrV (w : World) (B g : Nat) (V : Nat → Prop) (l : List UInt8) (p : Nat) (b : Bool) : Prop where
  ge : B ≤ g
  lt : g < w.heap.size
  hv : V g
  ex : ∃ A cp, Blk w g 35 #[.slice A (l.length - p) cp, .bool b] ∧ l.length - p ≤ cp ∧ cp ≤ maxLen ∧ l.length ≤ 140737488355000 ∧ p ≤ l.length ∧ ∃ C, ∀ w2, Vol w w2 V → Reads w2 C 1 A (l.length - p) (bytesV (l.drop p))
section
variable {w w' : World} {B g : Nat} {V : Nat → Prop} {l : List UInt8} {p : Nat} {b : Bool}
theorem RrV.Number (h : RrV w B g V l p b) :
    Calls Try.prog 15 #[.pointer (some ⟨g, 0, none⟩)] w fun e w' => e = .returned (.int .i64 (rdNum l p b).1) ∧ RrV w' B g V l (rdNum l p b).2.1 (rdNum l p b).2.2 ∧ w.grownBy w' (some g) := by
  obtain ⟨A, cp, hb, h1, h2, h3, h4, C, hr⟩ := h.ex
  cases b with
  | true =>
    refine (RrNumberBad_ok g A _ cp w hb).mono ?_
    rintro e w1 ⟨hg, rfl, hb1⟩
    exact ⟨rfl, ⟨h.ge, hb1.lt, h.hv, A, cp, hb1, h1, h2, h3, h4, C, fun w2 h5 => hr w2 ((Vol.of_grown hg h.hv).trans h5)⟩, hg⟩
  | false =>
    unfold maxLen at h2
    refine (RrNumber_ok g A _ cp C (l.drop p) w hb (hr w (Vol.refl w V)) (by omega) h1 (by omega)).mono ?_
    rintro e w1 ⟨hg, hp⟩
    cases hd : decN l p with
    | none =>
      have hd' : decA 5 (l.drop p) 0 0 = none := hd
      rw [hd'] at hp
      obtain ⟨rfl, hb1⟩ := hp
      rw [rdNum_none hd]
      exact ⟨rfl, ⟨h.ge, hb1.lt, h.hv, A, cp, hb1, h1, by unfold maxLen; omega, h3, h4, C, fun w2 h5 => hr w2 ((Vol.of_grown hg h.hv).trans h5)⟩, hg⟩
    | some q =>
      obtain ⟨v, k⟩ := q
      have hd' : decA 5 (l.drop p) 0 0 = some (v, k) := hd
      rw [hd'] at hp
      obtain ⟨rfl, hb1⟩ := hp
      rw [rdNum_some hd]
      have hbd := decA_bd 5 (l.drop p) 0 0 v k hd' (by omega) (by decide) (by omega)
      have hkn : k ≤ l.length - p := by have := hbd.2.2.2.1; simp at this; omega
      have e1 : l.length - p - k = l.length - (p + k) := by omega
      rw [e1] at hb1
      have hpk : p + k ≤ l.length := by omega
      have hck : l.length - (p + k) ≤ cp - k := by omega
      have hcm : cp - k ≤ maxLen := by unfold maxLen; omega
      refine ⟨rfl, ⟨h.ge, hb1.lt, h.hv, _, _, hb1, hck, hcm, h3, hpk, C, fun w2 h5 => ?_⟩, hg⟩
      have h6 := cut_bytes (hr w2 ((Vol.of_grown hg h.hv).trans h5)) hkn h1
      rwa [e1, List.drop_drop] at h6
theorem rrv_next (hv : V g) {w1 : World} {q k m cp C : Nat} {A : Option Addr} (hge : B ≤ g) (hb : Blk w1 g 35 #[.slice A m cp, .bool false]) (hr : ∀ w2, Vol w1 w2 V → Reads w2 C 1 A (l.length - q) (bytesV (l.drop q))) (hm : m = l.length - q) (hk : k ≤ m) (hq : q ≤ l.length) (hmc : m ≤ cp) (hcm : cp ≤ maxLen) (h3 : l.length ≤ 140737488355000) (VV : Value)
    (hV : VV = .slice (if cp = k then A else Option.map (fun x => x.add k) A) (m - k) (cp - k)) : RrV (w1.setCell ⟨g, 0, none⟩ VV) B g V l (q + k) false := by
  subst hV
  have hb2 := hb.set_ 0 (.slice (if cp = k then A else Option.map (fun x => x.add k) A) (m - k) (cp - k))
  have e1 : l.length - (q + k) = m - k := by omega
  refine ⟨hge, hb2.lt, hv, _, cp - k, by rw [e1]; exact hb2, by omega, by omega, h3, by omega, C, fun w2 h5 => ?_⟩
  have h6 := cut_bytes (hr w2 ((Vol.of_grown (only_setCell (World.grownBy.refl _ _) (Or.inl rfl) _) hv).trans h5)) (k := k) (cp := cp) (by omega) (by omega)
  rwa [show l.length - q - k = l.length - (q + k) by omega, List.drop_drop] at h6
set_option maxHeartbeats 4000000 in
theorem RrV.Text (h : RrV w B g V l p b) :
    Calls Try.prog 17 #[.pointer (some ⟨g, 0, none⟩)] w fun e w' => e = .returned (.string ⟨(rdText l p b).1.toArray⟩) ∧ RrV w' B g V l (rdText l p b).2.1 (rdText l p b).2.2 ∧ w.grownBy w' (some g) := by
  have hN := h.Number
  have hpl : p ≤ l.length := by obtain ⟨A, cp, hb, h1, h2, h3, h4, C, hr⟩ := h.ex; exact h4
  have hbd := rdNum_bd l p b hpl
  rcases hrd : rdNum l p b with ⟨v, q, d⟩
  rw [hrd] at hbd hN
  simp only at hbd hN
  have Ht := Lib.hid (rdText_out hrd)
  clear hrd h hpl
  obtain ⟨hv0, hv1, hq0, hq1, hbad⟩ := hbd
  obtain ⟨k, rfl⟩ : ∃ k : Nat, v = k := ⟨v.toNat, by omega⟩
  cases d with
  | true =>
    have Hx : Hid (rdText l p b = ([], q, true)) := Ht.out.trans (if_pos (Or.inl rfl))
    clear Ht hbad
    go_enter Try.func17, Try.ntmps17
    go_wp2_with fail
    refine hN.mono ?_
    rintro e w1 ⟨rfl, hR, hg⟩
    obtain ⟨A, cp, hb1, h1, h2, h3, h4, C, hr⟩ := hR.ex
    have z0 : w1.cell? ⟨g, 0, none⟩ = some (.slice A (l.length - q) cp) := hb1.cell 0
    have z1 : w1.cell? ⟨g, 1, none⟩ = some (.bool true) := hb1.cell 1
    have y1 : w1.frozen? ⟨g, 1, none⟩ = false := hb1.frozen 1
    have HR := Lib.hid (And.intro hR hr)
    clear hr hR hN
    go_wp2
    go_ret
    rw [Hx.out]
    have hb2 := hb1.set_ 1 (.bool true)
    exact ⟨rfl, ⟨HR.out.1.ge, hb2.lt, HR.out.1.hv, A, cp, hb2, h1, h2, h3, h4, C, fun w2 h5 => HR.out.2 w2 ((Vol.of_grown (only_setCell (World.grownBy.refl _ _) (Or.inl rfl) _) HR.out.1.hv).trans h5)⟩, only_setCell hg (Or.inl rfl) _⟩
  | false =>
    clear hbad
    by_cases hbig : 200 < (k : Int)
    · have Hx : Hid (rdText l p b = ([], q, true)) := Ht.out.trans (if_pos (Or.inr (Or.inl hbig)))
      clear Ht
      go_enter Try.func17, Try.ntmps17
      go_wp2_with fail
      refine hN.mono ?_
      rintro e w1 ⟨rfl, hR, hg⟩
      obtain ⟨A, cp, hb1, h1, h2, h3, h4, C, hr⟩ := hR.ex
      have z0 : w1.cell? ⟨g, 0, none⟩ = some (.slice A (l.length - q) cp) := hb1.cell 0
      have z1 : w1.cell? ⟨g, 1, none⟩ = some (.bool false) := hb1.cell 1
      have y1 : w1.frozen? ⟨g, 1, none⟩ = false := hb1.frozen 1
      have HR := Lib.hid (And.intro hR hr)
      clear hr hR hN
      go_wp2
      go_ret
      rw [Hx.out]
      have hb2 := hb1.set_ 1 (.bool true)
      exact ⟨rfl, ⟨HR.out.1.ge, hb2.lt, HR.out.1.hv, A, cp, hb2, h1, h2, h3, h4, C, fun w2 h5 => HR.out.2 w2 ((Vol.of_grown (only_setCell (World.grownBy.refl _ _) (Or.inl rfl) _) HR.out.1.hv).trans h5)⟩, only_setCell hg (Or.inl rfl) _⟩
    · by_cases hout : (l.length : Int) < (q : Int) + (k : Int)
      · have Hx : Hid (rdText l p b = ([], q, true)) := Ht.out.trans (if_pos (Or.inr (Or.inr hout)))
        obtain ⟨m, hm⟩ : ∃ m : Nat, m = l.length - q := ⟨_, rfl⟩
        have hout2 : (m : Int) < (k : Int) := by omega
        clear Ht
        go_enter Try.func17, Try.ntmps17
        go_wp2_with fail
        refine hN.mono ?_
        rintro e w1 ⟨rfl, hR, hg⟩
        obtain ⟨A, cp, hb1, h1, h2, h3, h4, C, hr⟩ := hR.ex
        have z0 : w1.cell? ⟨g, 0, none⟩ = some (.slice A (l.length - q) cp) := hb1.cell 0
        rw [← hm] at z0
        have z1 : w1.cell? ⟨g, 1, none⟩ = some (.bool false) := hb1.cell 1
        have y1 : w1.frozen? ⟨g, 1, none⟩ = false := hb1.frozen 1
        have HR := Lib.hid (And.intro hR hr)
        clear hr hR hN
        go_wp2
        go_ret
        rw [Hx.out]
        have hb2 := hb1.set_ 1 (.bool true)
        exact ⟨rfl, ⟨HR.out.1.ge, hb2.lt, HR.out.1.hv, A, cp, hb2, h1, h2, h3, h4, C, fun w2 h5 => HR.out.2 w2 ((Vol.of_grown (only_setCell (World.grownBy.refl _ _) (Or.inl rfl) _) HR.out.1.hv).trans h5)⟩, only_setCell hg (Or.inl rfl) _⟩
      · have Hx : Hid (rdText l p b = ((l.drop q).take k, q + k, false)) := Ht.out.trans (if_neg (fun h => h.elim (fun h => by cases h) (fun h => h.elim hbig hout)))
        obtain ⟨m, hm⟩ : ∃ m : Nat, m = l.length - q := ⟨_, rfl⟩
        have hout2 : ¬ (m : Int) < (k : Int) := by omega
        have hkm : k ≤ m := by omega
        clear Ht
        go_enter Try.func17, Try.ntmps17
        go_wp2_with fail
        refine hN.mono ?_
        rintro e w1 ⟨rfl, hR, hg⟩
        obtain ⟨A, cp, hb1, h1, h2, h3, h4, C, hr⟩ := hR.ex
        unfold maxLen at h2
        rw [← hm] at hb1 h1
        have z0 : w1.cell? ⟨g, 0, none⟩ = some (.slice A m cp) := hb1.cell 0
        have z1 : w1.cell? ⟨g, 1, none⟩ = some (.bool false) := hb1.cell 1
        have y0 : w1.frozen? ⟨g, 0, none⟩ = false := hb1.frozen 0
        have hmc : (m : Int) ≤ (cp : Int) := by omega
        have hkc : (k : Int) ≤ (cp : Int) := by omega
        have hcv : (convert 22 9 (.slice A k cp)).run Try.prog w1 = .ok (.string ⟨((l.drop q).take k).toArray⟩) w1 := run_conv_reads Try.underlying22 Try.underlying5 Try.underlying9 (show Reads _ C 1 _ _ _ by have h := (hr w1 (Vol.refl _ _)).take_ (m := k) (by omega); simpa [bytesV, List.map_take, List.map_drop] using h)
        have HR := Lib.hid (And.intro hR hr)
        clear hr hR hN
        go_wp2
        all_goals
          go_ret
          rw [Hx.out]
          refine ⟨rfl, rrv_next HR.out.1.hv HR.out.1.ge hb1 HR.out.2 hm hkm hq1 h1 (by unfold maxLen; omega) h3 _ ?_, only_setCell hg (Or.inl rfl) _⟩
          simp_all
          try omega
end
section
variable {w w' : World} {B g g' : Nat} {V : Nat → Prop} {l : List UInt8} {p : Nat} {b : Bool}
theorem RdV.keep (h : RdV w B g V l p b) (hg : w.grownBy w' (some g')) (hv : V g') (hne : g ≠ g') : RdV w' B g V l p b := by
  obtain ⟨A, cp, hb, h1, h2, h3, h4, C, hr⟩ := h.ex
  have hb1 := hb.grown hg (by simpa using hne)
  exact ⟨h.ge, hb1.lt, h.hv, A, cp, hb1, h1, h2, h3, h4, C, fun w2 h5 => hr w2 ((Vol.of_grown hg hv).trans h5)⟩
theorem RdV.below (h : RdV w B g V l p b) (hg : Below w.heap.size w w') : RdV w' B g V l p b := by
  obtain ⟨A, cp, hb, h1, h2, h3, h4, C, hr⟩ := h.ex
  have hb1 := hb.below hg h.lt
  exact ⟨h.ge, hb1.lt, h.hv, A, cp, hb1, h1, h2, h3, h4, C, fun w2 h5 => hr w2 ((Vol.of_below hg).trans h5)⟩
theorem RrV.keep (h : RrV w B g V l p b) (hg : w.grownBy w' (some g')) (hv : V g') (hne : g ≠ g') : RrV w' B g V l p b := by
  obtain ⟨A, cp, hb, h1, h2, h3, h4, C, hr⟩ := h.ex
  have hb1 := hb.grown hg (by simpa using hne)
  exact ⟨h.ge, hb1.lt, h.hv, A, cp, hb1, h1, h2, h3, h4, C, fun w2 h5 => hr w2 ((Vol.of_grown hg hv).trans h5)⟩
theorem RrV.below (h : RrV w B g V l p b) (hg : Below w.heap.size w w') : RrV w' B g V l p b := by
  obtain ⟨A, cp, hb, h1, h2, h3, h4, C, hr⟩ := h.ex
  have hb1 := hb.below hg h.lt
  exact ⟨h.ge, hb1.lt, h.hv, A, cp, hb1, h1, h2, h3, h4, C, fun w2 h5 => hr w2 ((Vol.of_below hg).trans h5)⟩
theorem RrV.Done (h : RrV w B g V l p b) :
    Calls Try.prog 19 #[.pointer (some ⟨g, 0, none⟩)] w fun e w' => e = .returned (.bool (!b && p == l.length)) ∧ w = w' := by
  obtain ⟨A, cp, hb, h1, h2, h3, h4, C, hr⟩ := h.ex
  have h5 := RrDone_ok g A (l.length - p) cp b w hb
  have e : (l.length - p == 0) = (p == l.length) := by rw [Bool.eq_iff_iff]; simp; omega
  rwa [e] at h5
theorem RrV.cell (h : RrV w B g V l p b) : w.cell? ⟨g, 1, none⟩ = some (.bool b) := by
  obtain ⟨A, cp, hb, -⟩ := h.ex
  exact hb.cell 1
end
theorem own_vol {w w2 : World} {V : Nat → Prop} {B : Nat} {e : TypeId} {z n : Nat} {v : Value} {xs : List Value} (h : w.ownsRow B e z v n xs) (hv : Vol w w2 V) (hn : ∀ k, v.ownBlock = some k → ¬ V k) : w2.ownsRow B e z v n xs := by
  refine ⟨h.1, ?_⟩
  rcases h.2 with h1 | ⟨u, cap, cur, e1, e2, e3, e4⟩
  · exact .inl h1
  · exact .inr ⟨u, cap, cur, e1, e2, (hv.2 u (Array.getElem?_eq_some_iff.1 e3).1 (hn u (by rw [e1]; rfl))).trans e3, e4⟩
theorem New_v (A : Option Addr) (n cp C : Nat) (l : List UInt8) (w : World) (hl : l.length = n) (hr : Reads w C 1 A n (bytesV l)) (hn : n ≤ 140737488355000) :
    Calls Try.prog 12 #[.slice A n cp] w fun e w' => ∃ g, e = .returned (.pointer (some ⟨g, 0, none⟩)) ∧ w.heap.size ≤ g ∧ (∀ V : Nat → Prop, V g → (∀ k, k < g → ¬ V k) → RdV w' w.heap.size g V l 0 false) ∧ Below w.heap.size w w' := by
  subst hl
  refine (New_any2 A l.length cp C l w hr (by omega)).mono ?_
  rintro e w1 ⟨g, A', cp', rfl, hge, hb, h1, h2, h3, h4, h5⟩
  exact ⟨g, rfl, hge, fun V hv hn2 => ⟨hge, hb.lt, hv, A', cp', hb, h1, h2, hn, by omega, g, fun w2 h6 => h5.vol h6 (Nat.le_of_lt hb.lt) hn2⟩, h4⟩
theorem RrV.new {w : World} {B base n c : Nat} {V : Nat → Prop} {A : Option Addr} {l : List UInt8} (hl : l.length = n) (ho : w.ownsRow base 5 1 (.slice A n c) n (bytesV l)) (hB : B ≤ w.heap.size) (hn : n ≤ 140737488355000) (hv : V w.heap.size) (hd : ∀ k, (Value.slice A n c).ownBlock = some k → ¬ V k) (hc : n ≤ c) (hm : c ≤ maxLen) :
    RrV (w.alloc (.cells #[.slice A n c, .bool false] 35)) B w.heap.size V l 0 false := by
  subst hl
  have hb := Blk.new w 35 #[.slice A l.length c, .bool false]
  refine ⟨hB, hb.lt, hv, A, c, hb, by omega, hm, hn, by omega, w.heap.size, fun w2 h5 => ?_⟩
  have h6 := own_vol (ho.alloc _) h5 hd
  have h7 := Reads.of_own h6
  have h8 := Reads.of_own ho
  refine ⟨by simpa using h7.1, fun hp => ?_⟩
  obtain ⟨ad, e1, _, h9⟩ := h7.2 (by omega)
  obtain ⟨ad', e2, h10, _⟩ := h8.2 (by omega)
  rw [e1] at e2
  injection e2 with e2
  subst e2
  exact ⟨ad, e1, h10, by simpa using h9⟩
theorem reads_lent {w : World} {g : Nat} {l : List UInt8} (h : Blk w g 5 (lentV l)) : Reads w w.heap.size 1 (some ⟨g, 0, none⟩) l.length (bytesV l) := by
  refine ⟨by simp [bytesV], fun _ => ⟨_, rfl, h.lt, fun j u hu => ?_⟩⟩
  rw [add_plain, Nat.zero_add, h.cell j]
  simp only [bytesV, List.getElem?_map, Option.map_eq_some_iff] at hu
  obtain ⟨c, hc, rfl⟩ := hu
  exact lent_in l j c hc
theorem ints_of2 {H : Type} {enc : TypeId × Value → H} {P : Program} {w : World} {held : Bool} {r : Reach} {b0 : Nat} {t e : TypeId} {k : IntKind} {v : Value} {d : DataW H} {ps : List MemPlace} (ht : P.underlying t = some (.slice e)) (he : P.underlying e = some (.int k)) (hc : P.cellsOf e = 1)
    (hval : Value.okWide P w r b0 t v) (h : DataW.Trod enc P w 0 (fun _ => true) held t v d ps) : ∃ A n c xs, v = .slice A n c ∧ IntRow k w A n c xs ∧ (n = 0 ∨ ∃ el sp, d = .slice el sp ∧ el.length + sp.length = c) := by
  obtain ⟨A, n, c, xs, rfl, hI⟩ := ints_of ht he hc hval h
  refine ⟨A, n, c, xs, rfl, hI, ?_⟩
  obtain ⟨fuel, hf⟩ := h
  rcases open_ints ht he hc hf with ⟨hcs, _⟩ | ⟨x, l, c', zs, hcs, _, hl, hm, hz, hx, _⟩
  · simp [Value.cells] at hcs
    exact .inl hcs.2.1
  · simp [Value.cells] at hcs
    obtain ⟨rfl, rfl, rfl⟩ := hcs
    have hz' : zs.length = c := by simpa using hz
    injection hx with hx1 hx2
    exact .inr ⟨_, _, hx1, by simp [lits]; omega⟩
theorem bytes_row {w : World} {A : Option Addr} {n c : Nat} {xs : List Int} (h : IntRow .u8 w A n c xs) : ∃ L : List UInt8, L.length = n ∧ Reads w w.heap.size 1 A n (bytesV L) ∧ n ≤ c ∧ c ≤ maxLen := by
  obtain ⟨h1, h2, h3, h4, h5⟩ := h
  refine ⟨xs.map fun z => z.toNat.toUInt8, by simpa using h3, ?_, h1, h2⟩
  have e : bytesV (xs.map fun z => z.toNat.toUInt8) = xs.map (Value.int .u8) := by
    unfold bytesV
    rw [List.map_map]
    apply List.map_congr_left
    intro z hz
    have hw := bounds_u8 (h5 z hz)
    show Value.int .u8 ((z.toNat.toUInt8).toNat : Int) = _
    rw [u8_of z hw.1 hw.2]
  rw [e]
  exact h4
end Go.Proofs.Ythcehdllpoenjaa
