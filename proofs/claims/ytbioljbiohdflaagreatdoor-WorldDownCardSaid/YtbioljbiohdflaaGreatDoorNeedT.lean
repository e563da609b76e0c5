/- Package need over tokens, and bytes.Equal over bytes that bear tokens: calls that are taken as known. -/
import Derived.Test.YtbioljbiohdflaaGreatDoorNeed
import Derived.Test.YtbioljbiohdflaaGreatDoorAllSum
namespace Go.Proofs.YtbioljbiohdflaaGreatDoor
open Go Go.RowKit
theorem bigN_fw' {a b M : Nat} (ha : a < 2 ^ 53) (hb : b < 2 ^ 53) : bigN (fw a) (fw b) M = (decide (a ≤ M) && decide (b ≤ M)) := by
  unfold bigN; rw [wOf_fw ha, wOf_fw hb]
theorem rightN_fw' {a b : Nat} (ha : a < 2 ^ 53) (hb : b < 2 ^ 53) : rightN (fw a) (fw b) = (decide (a ≤ 1000) && decide (b ≤ 1000) && !(a == 0 && b == 0)) := by
  unfold rightN; rw [bigN_fw' ha hb, nOf_fw ha, nOf_fw hb]
/-- need.Right, need.Parts, need.Of of tokens. -/
def needS (f : FuncId) (args : List Value) (h : AHeap) : Option (Value × AHeap) :=
  if f = 188 then match args with
    | [.iface _ (.iface lo (.iface hi (.iface _ (.iface lo2 (.iface hi2 (.complex _ c d))))))] => if Nat.ble (hi + c) 1000 && Nat.ble (hi2 + d) 1000 && (Nat.ble 1 (lo + c) || Nat.ble 1 (lo2 + d)) then some (.bool true, h) else none
    | _ => none
  else if f = 260 then match args with
    | [.iface t (.iface lo (.iface hi (.iface u (.iface lo2 (.iface hi2 (.complex _ c d))))))] => if Nat.ble (hi + c) 100000 && Nat.ble (hi2 + d) 100000 then some (.tuple #[.iface t (.iface lo (.iface hi (.int .i64 c))), .iface u (.iface lo2 (.iface hi2 (.int .i64 d)))], h) else none
    | _ => none
  else if f = 259 then match args with
    | [.iface t (.iface lo (.iface hi (.int .i64 (.ofNat c)))), .iface u (.iface lo2 (.iface hi2 (.int .i64 (.ofNat d))))] => if Nat.ble (hi + c) 100000 && Nat.ble (hi2 + d) 100000 then some (.iface t (.iface lo (.iface hi (.iface u (.iface lo2 (.iface hi2 (.complex .f64 c d)))))), h) else none
    | _ => none
  else none
theorem needS_mono : CallMono needS := by
  intro f args h v h' hx
  unfold needS at hx
  repeat' split at hx
  all_goals first | (cases hx; done) | (injection hx with hx; injection hx with _ hx; subst hx; exact Nat.le_refl _)
section
variable [Toks]
theorem one_arg {ρ : Ren} {x : Value} {args' : Array Value} (h : LR (VR ρ) [x] args'.toList) : ∃ x', args' = #[x'] ∧ VR ρ x x' := by
  obtain ⟨l⟩ := args'
  cases h with
  | cons h1 h2 => cases h2; exact ⟨_, rfl, h1⟩
theorem two_args {ρ : Ren} {x y : Value} {args' : Array Value} (h : LR (VR ρ) [x, y] args'.toList) : ∃ x' y', args' = #[x', y'] ∧ VR ρ x x' ∧ VR ρ y y' := by
  obtain ⟨l⟩ := args'
  cases h with
  | cons h1 h2 =>
    cases h2 with
    | cons h2 h3 => cases h3; exact ⟨_, _, rfl, h1, h2⟩
theorem needS_ok : CallOk Tryz.prog needS := by
  intro M ρ h w f args args' v h' s hM ha hx
  unfold needS at hx
  split at hx
  · rename_i hf
    subst hf
    split at hx
    · rename_i t lo hi u lo2 hi2 k c d
      split at hx
      · rename_i hc
        simp only [Bool.and_eq_true, Bool.or_eq_true] at hc
        obtain ⟨⟨hc1, hc2⟩, hc3⟩ := hc
        replace hc1 := Nat.le_of_ble_eq_true hc1
        replace hc2 := Nat.le_of_ble_eq_true hc2
        replace hc3 : (1 : Nat) ≤ (lo : Nat) + c ∨ (1 : Nat) ≤ (lo2 : Nat) + d := hc3.imp Nat.le_of_ble_eq_true Nat.le_of_ble_eq_true
        injection hx with hx
        injection hx with hx1 hx2
        subst hx1 hx2
        obtain ⟨x', rfl, g⟩ := one_arg ha
        obtain ⟨⟨a0, a1, a2⟩, ⟨b0, b1, b2⟩, rfl⟩ := g
        refine ⟨_, Tryz.func188, rfl, by decide +kernel, (Right_any _ _ w).mono ?_⟩
        rintro e w' ⟨rfl, rfl⟩
        refine ⟨ρ, _, rfl, Ext.refl _ _ _, s, ?_⟩
        have a3 : Toks.A t + (c : Int) ≤ 1000 := by omega
        have b3 : Toks.A u + (d : Int) ≤ 1000 := by omega
        rw [ofInt_fw (show 0 ≤ Toks.A t + (c : Int) by omega), ofInt_fw (show 0 ≤ Toks.A u + (d : Int) by omega), rightN_fw' (by omega) (by omega), decide_eq_true (show (Toks.A t + (c : Int)).toNat ≤ 1000 by omega), decide_eq_true (show (Toks.A u + (d : Int)).toNat ≤ 1000 by omega)]
        have e0 : ((Toks.A t + (c : Int)).toNat == 0 && (Toks.A u + (d : Int)).toNat == 0) = false := by
          rw [Bool.eq_false_iff]
          intro e
          simp only [Bool.and_eq_true, beq_iff_eq] at e
          omega
        rw [e0]
        exact VR.flat rfl
      · cases hx
    · cases hx
  · split at hx
    · rename_i hf
      subst hf
      split at hx
      · rename_i t lo hi u lo2 hi2 k c d
        split at hx
        · rename_i hc
          simp only [Bool.and_eq_true] at hc
          have hc1 := Nat.le_of_ble_eq_true hc.1
          have hc2 := Nat.le_of_ble_eq_true hc.2
          injection hx with hx
          injection hx with hx1 hx2
          subst hx1 hx2
          obtain ⟨x', rfl, g⟩ := one_arg ha
          obtain ⟨⟨a0, a1, a2⟩, ⟨b0, b1, b2⟩, rfl⟩ := g
          refine ⟨_, Tryz.func260, rfl, by decide +kernel, (Parts_any _ _ w).mono ?_⟩
          rintro e w' ⟨rfl, rfl⟩
          refine ⟨ρ, _, rfl, Ext.refl _ _ _, s, ?_⟩
          have a3 : Toks.A t + (c : Int) ≤ 100000 := by omega
          have b3 : Toks.A u + (d : Int) ≤ 100000 := by omega
          have a4 : 0 ≤ Toks.A t + (c : Int) := by omega
          have b4 : 0 ≤ Toks.A u + (d : Int) := by omega
          generalize hX : Toks.A t + (c : Int) = X at *
          generalize hY : Toks.A u + (d : Int) = Y at *
          have hb : bigN (floatOfInt .f64 X) (floatOfInt .f64 Y) 100000 = true := by
            rw [ofInt_fw a4, ofInt_fw b4, bigN_fw' (by omega) (by omega)]
            simp
            omega
          have e1 : ((partN (floatOfInt .f64 X) (floatOfInt .f64 Y) (floatOfInt .f64 X) : Nat) : Int) = X := by
            unfold partN
            rw [hb, if_pos rfl, ofInt_fw a4, nOf_fw (by omega)]
            omega
          have e2 : ((partN (floatOfInt .f64 X) (floatOfInt .f64 Y) (floatOfInt .f64 Y) : Nat) : Int) = Y := by
            unfold partN
            rw [hb, if_pos rfl, ofInt_fw b4, nOf_fw (by omega)]
            omega
          rw [e1, e2]
          exact ⟨_, rfl, .cons ⟨by rw [← hX], a1, a2⟩ (.cons ⟨by rw [← hY], b1, b2⟩ .nil)⟩
        · cases hx
      · cases hx
    · split at hx
      · rename_i hf
        subst hf
        split at hx
        · rename_i t lo hi c u lo2 hi2 d
          split at hx
          · rename_i hc
            simp only [Bool.and_eq_true] at hc
            have hc1 := Nat.le_of_ble_eq_true hc.1
            have hc2 := Nat.le_of_ble_eq_true hc.2
            injection hx with hx
            injection hx with hx1 hx2
            subst hx1 hx2
            obtain ⟨x', y', rfl, g1, g2⟩ := two_args ha
            obtain ⟨rfl, a1, a2⟩ := g1
            obtain ⟨rfl, b1, b2⟩ := g2
            refine ⟨_, Tryz.func259, rfl, by decide +kernel, (Of_any _ _ w).mono ?_⟩
            rintro e w' ⟨rfl, rfl⟩
            refine ⟨ρ, _, rfl, Ext.refl _ _ _, s, ?_⟩
            have hi1 : (0 ≤ Toks.A t + Int.ofNat c ∧ Toks.A t + Int.ofNat c ≤ 100000) ∧ 0 ≤ Toks.A u + Int.ofNat d ∧ Toks.A u + Int.ofNat d ≤ 100000 := by
              have z1 : Int.ofNat c = (c : Int) := rfl
              have z2 : Int.ofNat d = (d : Int) := rfl
              rw [z1, z2]
              omega
            unfold ofW
            rw [if_pos hi1, if_pos hi1, ← ofInt_fw hi1.1.1, ← ofInt_fw hi1.2.1]
            exact ⟨⟨by omega, a1, a2⟩, ⟨by omega, b1, b2⟩, rfl⟩
          · cases hx
        · cases hx
      · cases hx
end
/-! bytes.Equal. -/
def byteEq : Value → Value → Bool
  | .int .u8 a, .int .u8 b => a == b && decide (0 ≤ a) && decide (a ≤ 255)
  | .iface t (.iface lo (.iface hi (.int .u8 c))), .iface t' (.iface _ (.iface _ (.int .u8 c'))) => Nat.beq t t' && c == c' && decide ((0 : Int) ≤ (lo : Int) + c) && decide ((hi : Int) + c ≤ 255)
  | _, _ => false
def bytesEq : List Value → List Value → Bool
  | [], [] => true
  | a :: l, b :: m => byteEq a b && bytesEq l m
  | _, _ => false
def bytesS (f : FuncId) (args : List Value) (h : AHeap) : Option (Value × AHeap) :=
  if f = 220 then match args with
    | [.slice A n c, .slice B m d] => match firsts h 1 n (.slice A n c), firsts h 1 m (.slice B m d) with
      | some l1, some l2 => if l1.length = n ∧ l2.length = m ∧ n ≤ 1000000 ∧ bytesEq l1 l2 = true then some (.bool true, h) else none
      | _, _ => none
    | _ => none
  else none
theorem bytesS_mono : CallMono bytesS := by
  intro f args h v h' hx
  unfold bytesS at hx
  repeat' split at hx
  all_goals first | (cases hx; done) | (injection hx with hx; injection hx with _ hx; subst hx; exact Nat.le_refl _)
section
open Go.ChangeShapes Go.WideShapes Go.ChangeAt
set_option maxHeartbeats 400000 in
theorem BytesEqual_same (A A' : Option Addr) (n c c' : Nat) (l : List UInt8) (B B' : Nat) (w : World) (hr : Reads w B 1 A n (bytesV l)) (hr' : Reads w B' 1 A' n (bytesV l)) :
    Calls Tryz.prog 220 #[.slice A n c, .slice A' n c'] w fun e w' => e = .returned (.bool true) ∧ w = w' := by
  have h1 := run_conv_reads (P := Tryz.prog) (src := 96) (dst := 9) (e := 5) (c := c) (by kernel_rfl) (by kernel_rfl) (by kernel_rfl) hr
  have h2 := run_conv_reads (P := Tryz.prog) (src := 96) (dst := 9) (e := 5) (c := c') (by kernel_rfl) (by kernel_rfl) (by kernel_rfl) hr'
  generalize (⟨l.toArray⟩ : ByteArray) = z at h1 h2
  go_enter Tryz.func220, Tryz.ntmps220
  go_wp2
  go_ret
  exact ⟨ret_bool (by simp), rfl⟩
end
section
variable [Toks]
theorem byteEq_ok {ρ : Ren} {a b a' b' : Value} (h : byteEq a b = true) (ha : VR0 ρ a a') (hb : VR0 ρ b b') : ∃ x : UInt8, a' = .int .u8 (x.toNat : Int) ∧ b' = .int .u8 (x.toNat : Int) := by
  have mk : ∀ z : Int, 0 ≤ z → z ≤ 255 → ∃ x : UInt8, (x.toNat : Int) = z := fun z h0 h1 => ⟨z.toNat.toUInt8, u8_of z h0 h1⟩
  unfold byteEq at h
  split at h
  · simp only [Bool.and_eq_true, beq_iff_eq, decide_eq_true_eq] at h
    obtain ⟨⟨rfl, h1⟩, h2⟩ := h
    obtain ⟨x, hx⟩ := mk _ h1 h2
    have e1 : a' = _ := ha.2
    have e2 : b' = _ := hb.2
    exact ⟨x, by rw [e1, hx], by rw [e2, hx]⟩
  · rename_i t lo hi c t2 lo2 hi2 c2
    simp only [Bool.and_eq_true, beq_iff_eq, decide_eq_true_eq] at h
    obtain ⟨⟨⟨h0, rfl⟩, h1⟩, h2⟩ := h
    obtain rfl := Nat.eq_of_beq_eq_true h0
    obtain ⟨rfl, k1, k2⟩ := ha
    obtain ⟨rfl, _, _⟩ := hb
    obtain ⟨x, hx⟩ := mk (Toks.A t + c) (by omega) (by omega)
    exact ⟨x, by rw [hx], by rw [hx]⟩
  · cases h
theorem bytesEq_ok {ρ : Ren} : ∀ {l m l' m' : List Value}, bytesEq l m = true → LR (VR0 ρ) l l' → LR (VR0 ρ) m m' → ∃ z : List UInt8, l' = bytesV z ∧ m' = bytesV z
  | [], [], _, _, _, .nil, .nil => ⟨[], rfl, rfl⟩
  | a :: l, b :: m, _, _, h, .cons h1 h2, .cons h3 h4 => by
    simp only [bytesEq, Bool.and_eq_true] at h
    obtain ⟨x, rfl, rfl⟩ := byteEq_ok h.1 h1 h3
    obtain ⟨z, rfl, rfl⟩ := bytesEq_ok h.2 h2 h4
    exact ⟨x :: z, rfl, rfl⟩
  | [], _ :: _, _, _, h, _, _ => by cases h
  | _ :: _, [], _, _, h, _, _ => by cases h
theorem reads_slice {M : Nat} {ρ : Ren} {h : AHeap} {w : World} (s : Sim M ρ h w) {A : Option Addr} {n c : Nat} {x' : Value} (hx : VR ρ (.slice A n c) x') {vs : List Value} (hf : firsts h 1 n (.slice A n c) = some vs) (hl : vs.length = n) :
    ∃ A' c' us, x' = .slice A' n c' ∧ LR (VR0 ρ) vs us ∧ Reads w w.heap.size 1 A' n us := by
  cases A with
  | none =>
    have e := VR.eq (v := .slice none n c) rfl hx
    simp only [firsts, Option.some.injEq] at hf
    subst hf
    simp at hl
    subst hl
    exact ⟨_, _, [], e, .nil, Reads.none_⟩
  | some a =>
    obtain ⟨hnc, l, o', c', hl1, rfl, hc1, hc2, hc3, _⟩ := hx
    simp only [firsts] at hf
    split at hf
    · injection hf with hf
      subst hf
      simp at hl
      subst hl
      exact ⟨_, _, [], rfl, .nil, Reads.none_⟩
    · rename_i hn0
      split at hf
      · rename_i o ho
        obtain ⟨hg, hk⟩ := AHeap.cel_get ho
        obtain ⟨cs, fz, e1, e2, _⟩ := (s.ok _ o l hg hl1).cells hk
        obtain ⟨t1, t2⟩ := takeN_some hf
        have hn : 0 < n := by omega
        have ho' : o' = l.o + a.off := hc2 (by omega)
        have hcell : ∀ (k : Nat) (u : Value), vs[k]? = some u → ∃ u', cs[o' + k]? = some u' ∧ VR0 ρ u u' := by
          intro k u hu
          have hkn : k < n * 1 := by have := (List.getElem?_eq_some_iff.1 hu).1; omega
          obtain ⟨u', h1, h2⟩ := e2 (a.off + k) u (by rw [← t2 k hkn]; exact hu)
          exact ⟨u', by rw [ho', Nat.add_assoc]; exact h1, h2⟩
        have hlen : ∀ k, k < n → ∃ u', cs[o' + k]? = some u' ∧ ∀ u, vs[k]? = some u → VR0 ρ u u' := by
          intro k hkn
          obtain ⟨u', h1, h2⟩ := hcell k vs[k] (List.getElem?_eq_getElem (by omega))
          refine ⟨u', h1, fun u hu => ?_⟩
          rw [List.getElem?_eq_getElem (by omega)] at hu
          injection hu with hu
          subst hu
          exact h2
        refine ⟨_, _, (List.range n).map fun k => (cs[o' + k]?).getD undef, rfl, ?_, ?_⟩
        · refine LR.of_get (by simp [hl]) fun k u hu => ?_
          have hkn : k < n := by have := (List.getElem?_eq_some_iff.1 hu).1; omega
          obtain ⟨u', h1, h2⟩ := hlen k hkn
          exact ⟨u', by simp [hkn, h1], h2 u hu⟩
        · refine ⟨by simp, fun _ => ⟨_, rfl, (s.dom _ l hl1).2, fun k u hu => ?_⟩⟩
          have hkn : k < n := by have := (List.getElem?_eq_some_iff.1 hu).1; simpa using this
          obtain ⟨u', h1, _⟩ := hlen k hkn
          have hu2 : u = u' := by
            simp only [List.getElem?_map, List.getElem?_range hkn, Option.map_some, h1, Option.getD_some, Option.some.injEq] at hu
            exact hu.symm
          subst hu2
          rw [add_at]
          simp only [World.cell?, e1]
          exact h1
      · cases hf
theorem bytesS_ok : CallOk Tryz.prog bytesS := by
  intro M ρ h w f args args' v h' s hM ha hx
  unfold bytesS at hx
  split at hx
  · rename_i hf
    subst hf
    split at hx
    · rename_i A n c B m d
      split at hx
      · rename_i l1 l2 h1 h2
        split at hx
        · rename_i hc
          obtain ⟨c1, c2, _, c3⟩ := hc
          injection hx with hx
          injection hx with hx1 hx2
          subst hx1 hx2
          obtain ⟨x', y', rfl, g1, g2⟩ := two_args ha
          obtain ⟨A1, d1, u1, rfl, k1, r1⟩ := reads_slice s g1 h1 c1
          obtain ⟨A2, d2, u2, rfl, k2, r2⟩ := reads_slice s g2 h2 c2
          obtain ⟨z, rfl, rfl⟩ := bytesEq_ok c3 k1 k2
          have hnm : n = m := by have e1 := r1.1; have e2 := r2.1; simp at e1 e2; omega
          subst hnm
          refine ⟨_, Tryz.func220, rfl, by decide +kernel, (BytesEqual_same A1 A2 n d1 d2 z _ _ w r1 r2).mono ?_⟩
          rintro e w' ⟨rfl, rfl⟩
          exact ⟨ρ, _, rfl, Ext.refl _ _ _, s, VR.flat rfl⟩
        · cases hx
      · cases hx
    · cases hx
  · cases hx
end
/-! The rest of an unknown number: a token always. -/
def caseT (t : Nat) (c : Nat × Nat) : Value := .iface t (.iface c.1 (.iface c.2 (.int .i64 0)))
theorem cover_getT [Toks] {t n : Nat} {l : List (Nat × Nat)} (h : coverOk n l = true) {a : Int} (hn : 0 < n) (hA : Toks.A t = a % n) : ∃ c ∈ l, ∀ ρ : Ren, VR ρ (caseT t c) (.int .i64 (a % n)) := by
  have h1 := Int.emod_nonneg a (show (n : Int) ≠ 0 by omega)
  have h2 := Int.emod_lt_of_pos a (show (0 : Int) < n by omega)
  obtain ⟨r, hr⟩ : ∃ r : Nat, a % n = r := ⟨(a % n).toNat, by omega⟩
  simp only [coverOk, List.all_eq_true, List.any_eq_true, Bool.and_eq_true, Nat.ble_eq] at h
  obtain ⟨c, hc, k1, k2⟩ := h r (List.mem_range.2 (by omega))
  refine ⟨c, hc, fun ρ => ?_⟩
  show _ = _ ∧ _ ∧ _
  rw [hA, hr]
  exact ⟨by rw [Int.add_zero], by omega, by omega⟩
def summT : XCall := orS (orS needS bytesS) summAll
theorem summT_ok [Toks] : CallOk Tryz.prog summT := orS_ok (orS_ok needS_ok bytesS_ok) summAll_ok
theorem summT_mono : CallMono summT := orS_mono (orS_mono needS_mono bytesS_mono) summAll_mono
end Go.Proofs.YtbioljbiohdflaaGreatDoor
