/- The contract of (*code.Reader).Number: a number at the reader's place, or that there is none. -/
import Derived.Test.YthcehdllpoenjaaText
import Derived.Test.YthcehdllpoenjaaScope
namespace Go.Proofs.Ythcehdllpoenjaa
open Go.ChangeShapes Go.WideShapes Go.ChangeAt Go.RowKit

def sz : Nat → Int
  | 0 => 1
  | k + 1 => sz k * 128
theorem sz_bd (k : Nat) (h : k ≤ 5) : 1 ≤ sz k ∧ sz k ≤ 34359738368 := by
  obtain h | h | h | h | h | h : k = 0 ∨ k = 1 ∨ k = 2 ∨ k = 3 ∨ k = 4 ∨ k = 5 := by omega
  all_goals
    subst h
    decide
def decA : Nat → List UInt8 → Nat → Int → Option (Int × Nat)
  | 0, _, _, _ => none
  | _ + 1, [], _, _ => none
  | f + 1, c :: r, k, acc =>
    if 128 ≤ c.toNat then decA f r (k + 1) (acc + (c.toNat : Int) % 128 * sz k)
    else if c.toNat = 0 ∧ 1 ≤ k then none
    else some (acc + (c.toNat : Int) % 128 * sz k, k + 1)
/-- The number at a place: its value, and how many bytes it has; none: there is none. -/
def decN (l : List UInt8) (p : Nat) : Option (Int × Nat) := decA 5 (l.drop p) 0 0
theorem decA_nil (f k : Nat) (acc : Int) : decA f [] k acc = none := by cases f <;> rfl
theorem decA_step (l : List UInt8) (p f k : Nat) (acc : Int) (c : UInt8) (h : l[p]? = some c) : decA (f + 1) (l.drop p) k acc =
    if 128 ≤ c.toNat then decA f (l.drop (p + 1)) (k + 1) (acc + (c.toNat : Int) % 128 * sz k)
    else if c.toNat = 0 ∧ 1 ≤ k then none
    else some (acc + (c.toNat : Int) % 128 * sz k, k + 1) := by
  have hp : p < l.length := (List.getElem?_eq_some_iff.1 h).1
  have hx : l[p] = c := (List.getElem?_eq_some_iff.1 h).2
  rw [List.drop_eq_getElem_cons hp, hx]
  rfl
/-- What a reader's Number tells, where it stands then, whether it is bad. -/
def rdNum (l : List UInt8) (p : Nat) (b : Bool) : Int × Nat × Bool :=
  if b = true then (0, p, true) else match decN l p with
    | some (v, k) => (v, p + k, false)
    | none => (0, p, true)
theorem rdNum_none {l : List UInt8} {p : Nat} (h : decN l p = none) : rdNum l p false = (0, p, true) := by simp [rdNum, h]
theorem rdNum_some {l : List UInt8} {p k : Nat} {v : Int} (h : decN l p = some (v, k)) : rdNum l p false = (v, p + k, false) := by simp [rdNum, h]
theorem bytes_at {w : World} {B n k : Nat} {A : Option Addr} {l : List UInt8} (hr : Reads w B 1 A n (bytesV l)) (hk : k < n) : ∃ ad c, A = some ad ∧ l[k]? = some c ∧ w.cell? (ad.add k) = some (.int .u8 (c.toNat : Int)) := by
  obtain ⟨ad, u, rfl, _, hx, hc⟩ := hr.at_ hk
  simp only [bytesV, List.getElem?_map, Option.map_eq_some_iff] at hx
  obtain ⟨x, h1, h2⟩ := hx
  exact ⟨ad, x, rfl, h1, by rw [hc, h2]⟩

theorem jumpM_ret {R : Nat → Option Code} {J : Nat → Act → World → Prop} {Q : Exit → Act → World → Prop} {a : Act} {w : World} : jumpM R J Q .ret a w = Q .ret a w := rfl
theorem drewN_set_grown (w : World) (m g i : Nat) (u : Value) : w.grownBy ((w.drewN m).setCell ⟨g, i, none⟩ u) (some g) :=
  ⟨rfl, rfl, rfl, by show w.heap.size ≤ ((w.drewN m).setCell ⟨g, i, none⟩ u).heap.size; simp only [World.setCell, Array.size_modify]; exact Nat.le_refl _, fun k _ hk => Below.heap_setCell _ _ _ k (fun e => hk (by rw [e]))⟩
theorem J0 {P Q : Prop} (h : Q) : (if (0 : Nat) = 1 then P else Q) := by rw [if_neg (by decide)]; exact h
theorem J1 {P Q : Prop} (h : P) : (if (1 : Nat) = 1 then P else Q) := by rw [if_pos rfl]; exact h
theorem lt01 {a b : Nat} : (if (0 : Nat) = 1 then a else 0) < (if (1 : Nat) = 1 then b + 1 else 0) := by rw [if_neg (by decide), if_pos rfl]; exact Nat.succ_pos _
theorem lt11 {a b : Nat} (h : a < b) : (if (1 : Nat) = 1 then a else 0) < (if (1 : Nat) = 1 then b else 0) := by rw [if_pos rfl, if_pos rfl]; exact h
/-- What holds at the label 'next'. -/
def NextInv (g : Nat) (l : List UInt8) (at_ n : Nat) (w : World) (a' : Act) (w' : World) : Prop :=
  ∃ (m p k : Nat) (acc : Int) (cu u1 u7 u8 u9 u10 u11 u12 u13 u14 u15 u16 u17 u18 u19 u20 u21 u22 u23 u24 u25 u26 u27 u28 u29 u30 u31 u32 u33 u34 u35 u36 u37 u38 u39 u40 u41 u42 u43 u44 u45 u46 u47 u48 u49 u50 u51 u52 u53 u54 u55 u56 u57 u58 u59 u60 u61 u62 u63 u64 u65 u66 u67 u68 u69 u70 u71 : Value), w' = w.drewN m ∧ a' = { tmps := #[.pointer (some ⟨g, 0, none⟩), u1, .int .i64 0, .int .i64 acc, .int .i64 (p : Int), .int .i64 (sz k), cu, u7, u8, u9, u10, u11, u12, u13, u14, u15, u16, u17, u18, u19, u20, u21, u22, u23, u24, u25, u26, u27, u28, u29, u30, u31, u32, u33, u34, u35, u36, u37, u38, u39, u40, u41, u42, u43, u44, u45, u46, u47, u48, u49, u50, u51, u52, u53, u54, u55, u56, u57, u58, u59, u60, u61, u62, u63, u64, u65, u66, u67, u68, u69, u70, u71], defers := [] } ∧
    k ≤ 5 ∧ p ≤ n ∧ Hid (p = at_ + k) ∧ 0 ≤ acc ∧ acc ≤ 34359738368 ∧ acc < sz k ∧ Hid (decN l at_ = decA (5 - k) (l.drop p) k acc)
/-- What holds at the label 'wrong'. -/
def WrongInv (g : Nat) (w : World) (R : Prop) (a' : Act) (w' : World) : Prop :=
  ∃ (m : Nat) (v2 v3 v4 v5 cu u1 u7 u8 u9 u10 u11 u12 u13 u14 u15 u16 u17 u18 u19 u20 u21 u22 u23 u24 u25 u26 u27 u28 u29 u30 u31 u32 u33 u34 u35 u36 u37 u38 u39 u40 u41 u42 u43 u44 u45 u46 u47 u48 u49 u50 u51 u52 u53 u54 u55 u56 u57 u58 u59 u60 u61 u62 u63 u64 u65 u66 u67 u68 u69 u70 u71 : Value), w' = w.drewN m ∧ a' = { tmps := #[.pointer (some ⟨g, 0, none⟩), u1, v2, v3, v4, v5, cu, u7, u8, u9, u10, u11, u12, u13, u14, u15, u16, u17, u18, u19, u20, u21, u22, u23, u24, u25, u26, u27, u28, u29, u30, u31, u32, u33, u34, u35, u36, u37, u38, u39, u40, u41, u42, u43, u44, u45, u46, u47, u48, u49, u50, u51, u52, u53, u54, u55, u56, u57, u58, u59, u60, u61, u62, u63, u64, u65, u66, u67, u68, u69, u70, u71], defers := [] } ∧ Hid R

set_option maxRecDepth 100000 in
set_option maxHeartbeats 4000000 in
theorem RdNumber_ok (g : Nat) (A : Option Addr) (n cp at_ B : Nat) (l : List UInt8) (w : World) (hb : Blk w g 47 #[.slice A n cp, .int .i64 at_, .bool false]) (hr : Reads w B 1 A n (bytesV l)) (hn : (n : Int) ≤ 9223372036854775806) (hat : at_ ≤ n) :
    Calls Try.prog 14 #[.pointer (some ⟨g, 0, none⟩)] w fun e w' => e = .returned (.int .i64 (rdNum l at_ false).1) ∧ Blk w' g 47 #[.slice A n cp, .int .i64 (rdNum l at_ false).2.1, .bool (rdNum l at_ false).2.2] ∧ w.grownBy w' (some g) := by
  have h0 : w.cell? ⟨g, 0, none⟩ = some (.slice A n cp) := hb.cell 0
  have h1 : w.cell? ⟨g, 1, none⟩ = some (.int .i64 at_) := hb.cell 1
  have h2 : w.cell? ⟨g, 2, none⟩ = some (.bool false) := hb.cell 2
  have f1 : w.frozen? ⟨g, 1, none⟩ = false := hb.frozen 1
  have f2 : w.frozen? ⟨g, 2, none⟩ = false := hb.frozen 2
  go_enter Try.func14, Try.ntmps14
  go_wp2
  refine wp_scope_falls (fun l => l == 0 || l == 1) (fun lb a' w' => if lb = 1 then NextInv g l at_ n w a' w' else WrongInv g w (rdNum l at_ false = (0, at_, true)) a' w') (fun lb a' w' => if lb = 1 then n + 1 - (intOf (a'.tmps.getD 4 undef)).toNat + 1 else 0) (fun lb rest hl h => ?_) ?_ ?_
  · by_cases h1 : lb = 1
    · subst h1
      exact ⟨_, (Option.some.inj h).symm⟩
    · have h0 : lb = 0 := by simp at hl; omega
      subst h0
      exact ⟨_, (Option.some.inj h).symm⟩
  · intro hp
    go_wp2
    go_quiet (fail)
    go_wp2
    go_step3
    apply_assumption
    exact hp 1 _ _ _ rfl rfl (J1 ⟨_, at_, 0, 0, _, _, _, _, _, _, _, _, _, _, _, _, _, _, _, _, _, _, _, _, _, _, _, _, _, _, _, _, _, _, _, _, _, _, _, _, _, _, _, _, _, _, _, _, _, _, _, _, _, _, _, _, _, _, _, _, _, _, _, _, _, _, _, _, _, _, _, rfl, rfl, by omega, hat, Lib.hid rfl, by omega, by omega, by decide, Lib.hid rfl⟩)
  · intro lb rest a' w' hl hR hJ
    by_cases h0l : lb = 1
    · subst h0l
      rw [if_pos rfl] at hJ
      obtain ⟨m, p, k, acc, cu, u1, u7, u8, u9, u10, u11, u12, u13, u14, u15, u16, u17, u18, u19, u20, u21, u22, u23, u24, u25, u26, u27, u28, u29, u30, u31, u32, u33, u34, u35, u36, u37, u38, u39, u40, u41, u42, u43, u44, u45, u46, u47, u48, u49, u50, u51, u52, u53, u54, u55, u56, u57, u58, u59, u60, u61, u62, u63, u64, u65, u66, u67, u68, u69, u70, u71, rfl, rfl, hk5, hpn0, Hpk, ha0, ha1, ha2, Hdec⟩ := hJ
      simp [findLabel] at hR
      subst hR
      have hpk1 : at_ ≤ p := by have := Hpk.out; omega
      have ks := sz_bd k hk5
      by_cases hpn : p < n
      · obtain ⟨ad, c, rfl, hlc, hc⟩ := bytes_at hr hpn
        have hc255 : (c.toNat : Int) ≤ 255 := by have := c.toNat_lt; omega
        have HLC := Lib.hid hlc
        have hne : ((p : Int) == (n : Int)) = false := by simp; omega
        have hpi : (p : Int) < (n : Int) := by omega
        clear hlc
        by_cases hk : k = 5
        · have h5 : ((p : Int) - (at_ : Int) == 5) = true := by have := Hpk.out; simp; omega
          have Hw : Hid (rdNum l at_ false = (0, at_, true)) := rdNum_none (by rw [Hdec.out, hk]; rfl)
          clear hk
          go_wp2
          go_step3
          exact ⟨⟨_, rfl⟩, J0 ⟨m, _, _, _, _, _, _, _, _, _, _, _, _, _, _, _, _, _, _, _, _, _, _, _, _, _, _, _, _, _, _, _, _, _, _, _, _, _, _, _, _, _, _, _, _, _, _, _, _, _, _, _, _, _, _, _, _, _, _, _, _, _, _, _, _, _, _, _, _, _, _, _, rfl, rfl, Hw⟩, lt01⟩
        · have h5 : ((p : Int) - (at_ : Int) == 5) = false := by have := Hpk.out; simp; omega
          have hm0 : 0 ≤ (c.toNat : Int) % 128 * sz k := Int.mul_nonneg (by omega) (by omega)
          have hm1 : (c.toNat : Int) % 128 * sz k ≤ 127 * sz k := Int.mul_le_mul_of_nonneg_right (by omega) (by omega)
          have kb : sz k * 128 ≤ 34359738368 := (sz_bd (k + 1) (by omega)).2
          have hm2 : acc + (c.toNat : Int) % 128 * sz k < sz k * 128 := by omega
          have hm3 : (c.toNat : Int) % 128 * sz k ≤ 34359738368 := by omega
          have hm4 : acc + (c.toNat : Int) % 128 * sz k ≤ 34359738368 := by omega
          have Hst := Lib.hid (Hdec.out.trans (show decA (5 - k) (l.drop p) k acc = _ by rw [show 5 - k = (5 - (k + 1)) + 1 by omega, decA_step l p _ k acc c HLC.out]))
          by_cases h128 : 128 ≤ (c.toNat : Int)
          · have Hd : Hid (decN l at_ = decA (5 - (k + 1)) (l.drop (p + 1)) (k + 1) (acc + (c.toNat : Int) % 128 * sz k)) := Lib.hid (by rw [Hst.out, if_pos (by omega)])
            go_wp2
            go_step3
            exact ⟨⟨_, rfl⟩, J1 ⟨m, p + 1, k + 1, acc + (c.toNat : Int) % 128 * sz k, _, _, _, _, _, _, _, _, _, _, _, _, _, _, _, _, _, _, _, _, _, _, _, _, _, _, _, _, _, _, _, _, _, _, _, _, _, _, _, _, _, _, _, _, _, _, _, _, _, _, _, _, _, _, _, _, _, _, _, _, _, _, _, _, _, _, _, rfl, rfl, by omega, by omega, Lib.hid (by have := Hpk.out; omega), by omega, hm4, hm2, Hd⟩, lt11 (by show n + 1 - ((p : Int) + 1).toNat + 1 < n + 1 - (p : Int).toNat + 1; omega)⟩
          · by_cases hc0 : (c.toNat : Int) = 0
            · by_cases hk1 : 1 ≤ k
              · have Hw : Hid (rdNum l at_ false = (0, at_, true)) := rdNum_none (by rw [Hst.out, if_neg (by omega), if_pos (by omega)])
                have hpk2 : 1 < (p : Int) + 1 - (at_ : Int) := by have := Hpk.out; omega
                go_wp2
                go_step3
                exact ⟨⟨_, rfl⟩, J0 ⟨m, _, _, _, _, _, _, _, _, _, _, _, _, _, _, _, _, _, _, _, _, _, _, _, _, _, _, _, _, _, _, _, _, _, _, _, _, _, _, _, _, _, _, _, _, _, _, _, _, _, _, _, _, _, _, _, _, _, _, _, _, _, _, _, _, _, _, _, _, _, _, _, rfl, rfl, Hw⟩, lt01⟩
              · have Hw : Hid (rdNum l at_ false = (acc, p + 1, false)) := by
                  have := Hpk.out
                  rw [rdNum_some (Hst.out.trans (by rw [if_neg (by omega), if_neg (by omega)])), hc0, show at_ + (k + 1) = p + 1 by omega]
                  simp only [Int.zero_emod, Int.zero_mul, Int.add_zero]
                  exact Lib.hid trivial
                have hpk2 : ¬ 1 < (p : Int) + 1 - (at_ : Int) := by have := Hpk.out; omega
                go_wp2
                rw [jumpM_ret]
                go_ret
                rw [Hw.out]
                exact ⟨rfl, (hb.drewN m).set_ 1 _, drewN_set_grown _ _ _ _ _⟩
            · have Hw : Hid (rdNum l at_ false = (acc + (c.toNat : Int) % 128 * sz k, p + 1, false)) := by
                have := Hpk.out
                rw [rdNum_some (Hst.out.trans (by rw [if_neg (by omega), if_neg (by omega)])), show at_ + (k + 1) = p + 1 by omega]
                exact Lib.hid rfl
              go_wp2
              rw [jumpM_ret]
              go_ret
              rw [Hw.out]
              exact ⟨rfl, (hb.drewN m).set_ 1 _, drewN_set_grown _ _ _ _ _⟩
      · have heq : ((p : Int) == (n : Int)) = true := by simp; omega
        have Hw : Hid (rdNum l at_ false = (0, at_, true)) := rdNum_none (by rw [Hdec.out, List.drop_of_length_le (by have := hr.1; simp [bytesV] at this; omega), decA_nil])
        go_wp2
        go_step3
        exact ⟨⟨_, rfl⟩, J0 ⟨m, _, _, _, _, _, _, _, _, _, _, _, _, _, _, _, _, _, _, _, _, _, _, _, _, _, _, _, _, _, _, _, _, _, _, _, _, _, _, _, _, _, _, _, _, _, _, _, _, _, _, _, _, _, _, _, _, _, _, _, _, _, _, _, _, _, _, _, _, _, _, _, rfl, rfl, Hw⟩, lt01⟩
    · have h0 : lb = 0 := by simp at hl; omega
      subst h0
      rw [if_neg h0l] at hJ
      obtain ⟨m, v2, v3, v4, v5, cu, u1, u7, u8, u9, u10, u11, u12, u13, u14, u15, u16, u17, u18, u19, u20, u21, u22, u23, u24, u25, u26, u27, u28, u29, u30, u31, u32, u33, u34, u35, u36, u37, u38, u39, u40, u41, u42, u43, u44, u45, u46, u47, u48, u49, u50, u51, u52, u53, u54, u55, u56, u57, u58, u59, u60, u61, u62, u63, u64, u65, u66, u67, u68, u69, u70, u71, rfl, rfl, Hw⟩ := hJ
      simp [findLabel] at hR
      subst hR
      go_wp2
      rw [jumpM_ret]
      go_ret
      rw [Hw.out]
      exact ⟨rfl, (hb.drewN m).set_ 2 _, drewN_set_grown _ _ _ _ _⟩
end Go.Proofs.Ythcehdllpoenjaa
