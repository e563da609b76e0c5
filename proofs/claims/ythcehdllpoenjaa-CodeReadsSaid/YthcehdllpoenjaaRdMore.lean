/- The contracts of the reader's Number, whether it is bad or not; Done, Bad. -/
import Derived.Test.YthcehdllpoenjaaRdNumber
namespace Go.Proofs.Ythcehdllpoenjaa
open Go.ChangeShapes Go.WideShapes Go.ChangeAt Go.RowKit

set_option maxRecDepth 100000 in
set_option maxHeartbeats 4000000 in
theorem RdNumberBad_ok (g : Nat) (A : Option Addr) (n cp at_ : Nat) (w : World) (hb : Blk w g 47 #[.slice A n cp, .int .i64 at_, .bool true]) :
    Calls Try.prog 14 #[.pointer (some ⟨g, 0, none⟩)] w fun e w' => e = .returned (.int .i64 0) ∧ Blk w' g 47 #[.slice A n cp, .int .i64 at_, .bool true] ∧ w.grownBy w' (some g) := by
  have h0 : w.cell? ⟨g, 0, none⟩ = some (.slice A n cp) := hb.cell 0
  have h1 : w.cell? ⟨g, 1, none⟩ = some (.int .i64 at_) := hb.cell 1
  have h2 : w.cell? ⟨g, 2, none⟩ = some (.bool true) := hb.cell 2
  have f1 : w.frozen? ⟨g, 1, none⟩ = false := hb.frozen 1
  have f2 : w.frozen? ⟨g, 2, none⟩ = false := hb.frozen 2
  go_enter Try.func14, Try.ntmps14
  go_wp2
  refine wp_scope_labels (fun l => l == 0) (fun _ a' w' => WrongInv g w True a' w') (fun _ _ _ => 0) ?_ ?_
  · go_wp2
    go_quiet (fail)
    go_wp2
    go_step3
    apply_assumption
    go_wp2
    go_step3
    exact ⟨⟨_, rfl⟩, ⟨_, _, _, _, _, _, _, _, _, _, _, _, _, _, _, _, _, _, _, _, _, _, _, _, _, _, _, _, _, _, _, _, _, _, _, _, _, _, _, _, _, _, _, _, _, _, _, _, _, _, _, _, _, _, _, _, _, _, _, _, _, _, _, _, _, _, _, _, _, _, _, _, rfl, rfl, Lib.hid trivial⟩⟩
  · intro lb rest a' w' hl hR hJ
    obtain ⟨m, v2, v3, v4, v5, cu, u1, u7, u8, u9, u10, u11, u12, u13, u14, u15, u16, u17, u18, u19, u20, u21, u22, u23, u24, u25, u26, u27, u28, u29, u30, u31, u32, u33, u34, u35, u36, u37, u38, u39, u40, u41, u42, u43, u44, u45, u46, u47, u48, u49, u50, u51, u52, u53, u54, u55, u56, u57, u58, u59, u60, u61, u62, u63, u64, u65, u66, u67, u68, u69, u70, u71, rfl, rfl, Hw⟩ := hJ
    have h0 : lb = 0 := by simpa using hl
    subst h0
    simp [findLabel] at hR
    subst hR
    go_wp2
    rw [jumpM_ret]
    go_ret
    exact ⟨rfl, (hb.drewN m).set_ 2 _, drewN_set_grown _ _ _ _ _⟩

theorem RdNum_ok (g : Nat) (A : Option Addr) (n cp at_ B : Nat) (l : List UInt8) (b : Bool) (w : World) (hb : Blk w g 47 #[.slice A n cp, .int .i64 at_, .bool b]) (hr : Reads w B 1 A n (bytesV l)) (hn : (n : Int) ≤ 9223372036854775806) (hat : at_ ≤ n) :
    Calls Try.prog 14 #[.pointer (some ⟨g, 0, none⟩)] w fun e w' => e = .returned (.int .i64 (rdNum l at_ b).1) ∧ Blk w' g 47 #[.slice A n cp, .int .i64 (rdNum l at_ b).2.1, .bool (rdNum l at_ b).2.2] ∧ w.grownBy w' (some g) := by
  cases b with
  | false => exact RdNumber_ok g A n cp at_ B l w hb hr hn hat
  | true => exact RdNumberBad_ok g A n cp at_ w hb

theorem decA_bd : ∀ (f : Nat) (r : List UInt8) (k : Nat) (acc v : Int) (j : Nat), decA f r k acc = some (v, j) → 0 ≤ acc → acc < sz k → k + f ≤ 5 → 0 ≤ v ∧ v < sz j ∧ k < j ∧ j ≤ k + r.length ∧ j ≤ 5
  | 0, _, _, _, _, _, h, _, _, _ => by simp [decA] at h
  | _ + 1, [], _, _, _, _, h, _, _, _ => by simp [decA] at h
  | f + 1, c :: r, k, acc, v, j, h, h0, h1, h5 => by
    have ks := sz_bd k (by omega)
    have hc255 : (c.toNat : Int) ≤ 255 := by have := c.toNat_lt; omega
    have hm0 : 0 ≤ (c.toNat : Int) % 128 * sz k := Int.mul_nonneg (by omega) (by omega)
    have hm1 : (c.toNat : Int) % 128 * sz k ≤ 127 * sz k := Int.mul_le_mul_of_nonneg_right (by omega) (by omega)
    have hs : sz (k + 1) = sz k * 128 := rfl
    simp only [decA] at h
    split at h
    · have := decA_bd f r (k + 1) _ v j h (by omega) (by omega) (by omega)
      simp only [List.length_cons]
      omega
    · split at h
      · cases h
      · simp only [Option.some.injEq, Prod.mk.injEq] at h
        obtain ⟨rfl, rfl⟩ := h
        simp only [List.length_cons]
        omega
theorem rdNum_bd (l : List UInt8) (p : Nat) (b : Bool) (hp : p ≤ l.length) : 0 ≤ (rdNum l p b).1 ∧ (rdNum l p b).1 ≤ 34359738368 ∧ p ≤ (rdNum l p b).2.1 ∧ (rdNum l p b).2.1 ≤ l.length ∧ ((rdNum l p b).2.2 = true → (rdNum l p b).1 = 0 ∧ (rdNum l p b).2.1 = p) := by
  cases b with
  | true => simp [rdNum, hp]
  | false =>
    cases hd : decN l p with
    | none => rw [rdNum_none hd]; simp [hp]
    | some q =>
      obtain ⟨v, k⟩ := q
      rw [rdNum_some hd]
      have := decA_bd 5 (l.drop p) 0 0 v k hd (by omega) (by decide) (by omega)
      have hk := sz_bd k (by omega)
      simp only [List.length_drop] at this
      refine ⟨this.1, ?_, ?_, ?_, ?_⟩
      · show v ≤ _; omega
      · show p ≤ p + k; omega
      · show p + k ≤ _; omega
      · intro h; cases h

set_option maxHeartbeats 1000000 in
theorem RdDone_ok (g : Nat) (A : Option Addr) (n cp at_ : Nat) (b : Bool) (w : World) (hb : Blk w g 47 #[.slice A n cp, .int .i64 at_, .bool b]) :
    Calls Try.prog 18 #[.pointer (some ⟨g, 0, none⟩)] w fun e w' => e = .returned (.bool (!b && at_ == n)) ∧ ∃ m, w' = w.drewN m := by
  have h0 : w.cell? ⟨g, 0, none⟩ = some (.slice A n cp) := hb.cell 0
  have h1 : w.cell? ⟨g, 1, none⟩ = some (.int .i64 at_) := hb.cell 1
  have h2 : w.cell? ⟨g, 2, none⟩ = some (.bool b) := hb.cell 2
  go_enter Try.func18, Try.ntmps18
  by_cases hpn : at_ = n
  · subst hpn
    cases b <;> go_wp2 <;> go_quiet (fail) <;> go_wp2 <;> go_ret
    all_goals
      refine ⟨?_, _, rfl⟩
      simp
  · have hne : ((at_ : Int) == (n : Int)) = false := by simp; omega
    have hne' : (at_ == n) = false := by simp; omega
    cases b <;> go_wp2 <;> go_quiet (fail) <;> go_wp2 <;> go_ret
    all_goals
      refine ⟨?_, _, rfl⟩
      simp [hne']
set_option maxHeartbeats 1000000 in
theorem RdBad_ok (g : Nat) (A : Option Addr) (n cp at_ : Nat) (b : Bool) (w : World) (hb : Blk w g 47 #[.slice A n cp, .int .i64 at_, .bool b]) :
    Calls Try.prog 20 #[.pointer (some ⟨g, 0, none⟩)] w fun e w' => e = .returned (.bool b) ∧ w = w' := by
  have h2 : w.cell? ⟨g, 2, none⟩ = some (.bool b) := hb.cell 2
  go_enter Try.func20, Try.ntmps20
  go_wp2
  go_ret
  exact ⟨rfl, rfl⟩
end Go.Proofs.Ythcehdllpoenjaa
