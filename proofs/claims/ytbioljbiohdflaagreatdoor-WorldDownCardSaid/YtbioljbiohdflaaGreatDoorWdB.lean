/- Config, need.Room, bin.Delay over tokens: taken as known. -/
import Derived.Test.YtbioljbiohdflaaGreatDoorWdA
namespace Go.Proofs.YtbioljbiohdflaaGreatDoor
open Go Go.RowKit
set_option linter.unusedVariables false
def tk (t lo hi c : Nat) : Value := .iface t (.iface lo (.iface hi (.int .i64 c)))
def cfgV : Value := .agg #[.iface 100 (.iface 0 (.iface 11 (.iface 101 (.iface 0 (.iface 11 (.complex .f64 2 2)))))), tk 102 0 5 1, tk 103 0 5 1, tk 104 0 7 1, tk 105 0 3 1, tk 106 0 8 1, tk 107 0 4032 64]
def chans : List Value := [.chan (some 0), .chan (some 1), .chan (some 2), .chan (some 3), .chan (some 4), .chan (some 5), .chan (some 6), .chan (some 7)]
def cfgS (f : FuncId) (args : List Value) (h : AHeap) : Option (Value × AHeap) :=
  if f = 4 then match args with
    | [.agg cs] => match cs.toList with
      | [.chan (some 0), .chan (some 1), .chan (some 2), .chan (some 3), .chan (some 4), .chan (some 5), .chan (some 6), .chan (some 7)] => some (cfgV, h)
      | _ => none
    | _ => none
  else none
def roomS (f : FuncId) (args : List Value) (h : AHeap) : Option (Value × AHeap) :=
  if f = 27 then match args with
    | [.iface _ (.iface lo (.iface hi (.iface _ (.iface lo2 (.iface hi2 (.complex _ c d))))))] => if Nat.ble (hi + c) 100000 && Nat.ble (hi2 + d) 100000 then some (.bool true, h) else none
    | _ => none
  else none
def delayS (f : FuncId) (args : List Value) (h : AHeap) : Option (Value × AHeap) :=
  if f = 90 then match args with
    | [.iface u (.iface lo2 (.iface hi2 (.int .i64 (.ofNat c2)))), .int .i64 (.ofNat 1), .iface _ (.iface lo (.iface hi (.int .i64 (.ofNat c))))] => if Nat.ble 2 (lo + c) && Nat.ble (hi + c) 1000000 && Nat.ble 1 (lo2 + c2) then some (.iface u (.iface lo2 (.iface hi2 (.int .i64 (.ofNat c2)))), h) else none
    | _ => none
  else none
theorem cfgS_mono : CallMono cfgS := by
  intro f args h v h' hx
  unfold cfgS at hx
  repeat' split at hx
  all_goals first | (cases hx; done) | (injection hx with hx; injection hx with _ hx; subst hx; exact Nat.le_refl _)
theorem roomS_mono : CallMono roomS := by
  intro f args h v h' hx
  unfold roomS at hx
  repeat' split at hx
  all_goals first | (cases hx; done) | (injection hx with hx; injection hx with _ hx; subst hx; exact Nat.le_refl _)
theorem delayS_mono : CallMono delayS := by
  intro f args h v h' hx
  unfold delayS at hx
  repeat' split at hx
  all_goals first | (cases hx; done) | (injection hx with hx; injection hx with _ hx; subst hx; exact Nat.le_refl _)
section
variable [Toks]
theorem three_args {ρ : Ren} {x y z : Value} {args' : Array Value} (h : LR (VR ρ) [x, y, z] args'.toList) : ∃ x' y' z', args' = #[x', y', z'] ∧ VR ρ x x' ∧ VR ρ y y' ∧ VR ρ z z' := by
  obtain ⟨l⟩ := args'
  cases h with
  | cons h1 h2 =>
    cases h2 with
    | cons h2 h3 =>
      cases h3 with
      | cons h3 h4 => cases h4; exact ⟨_, _, _, rfl, h1, h2, h3⟩
theorem roomS_ok : CallOk Tryz.prog roomS := by
  intro M ρ h w f args args' v h' s hM ha hx
  unfold roomS at hx
  split at hx
  · rename_i hf
    subst hf
    split at hx
    · rename_i t lo hi u lo2 hi2 k c d
      split at hx
      · rename_i hc
        simp only [Bool.and_eq_true] at hc
        have hc1 := Nat.le_of_ble_eq_true hc.1
        have hc2 := Nat.le_of_ble_eq_true hc.2
        injection hx with hx
        injection hx with hx1 hx2
        subst hx1 hx2
        obtain ⟨x', rfl, g⟩ := one_arg ha
        obtain ⟨⟨a0, a1, a2⟩, ⟨b0, b1, b2⟩, rfl⟩ := g
        refine ⟨_, Tryz.func27, rfl, by decide +kernel, (Room_any _ _ w).mono ?_⟩
        rintro e w' ⟨rfl, rfl⟩
        refine ⟨ρ, _, rfl, Ext.refl _ _ _, s, ?_⟩
        have a3 : Toks.A t + (c : Int) ≤ 100000 := by omega
        have b3 : Toks.A u + (d : Int) ≤ 100000 := by omega
        rw [ofInt_fw (show 0 ≤ Toks.A t + (c : Int) by omega), ofInt_fw (show 0 ≤ Toks.A u + (d : Int) by omega), bigN_fw' (by omega) (by omega), decide_eq_true (show (Toks.A t + (c : Int)).toNat ≤ 100000 by omega), decide_eq_true (show (Toks.A u + (d : Int)).toNat ≤ 100000 by omega)]
        exact VR.flat rfl
      · cases hx
    · cases hx
  · cases hx
theorem delayS_ok : CallOk Tryz.prog delayS := by
  intro M ρ h w f args args' v h' s hM ha hx
  unfold delayS at hx
  split at hx
  · rename_i hf
    subst hf
    split at hx
    · rename_i u lo2 hi2 c2 t lo hi c
      split at hx
      · rename_i hc
        simp only [Bool.and_eq_true] at hc
        have hc1 := Nat.le_of_ble_eq_true hc.1.1
        have hc2 := Nat.le_of_ble_eq_true hc.1.2
        have hc3 := Nat.le_of_ble_eq_true hc.2
        injection hx with hx
        injection hx with hx1 hx2
        subst hx1 hx2
        obtain ⟨x', y', z', rfl, g1, g2, g3⟩ := three_args ha
        obtain ⟨rfl, a1, a2⟩ := g1
        obtain rfl := g2.int
        obtain ⟨rfl, b1, b2⟩ := g3
        have z1 : Int.ofNat c = (c : Int) := rfl
        have z2 : Int.ofNat c2 = (c2 : Int) := rfl
        refine ⟨_, Tryz.func90, rfl, by decide +kernel, (Delay_one (Toks.A u + Int.ofNat c2) (Toks.A t + Int.ofNat c) (by omega) (by omega) (by omega) w).mono ?_⟩
        rintro e w' ⟨rfl, rfl⟩
        exact ⟨ρ, _, rfl, Ext.refl _ _ _, s, rfl, a1, a2⟩
      · cases hx
    · cases hx
  · cases hx
theorem cfgS_ok (hb : ∀ k, k < 8 → i64b (Toks.A k)) (h0 : Toks.A 100 = Toks.A 0 % 12) (h1 : Toks.A 101 = Toks.A 1 % 12) (h2 : Toks.A 102 = Toks.A 2 % 6) (h3 : Toks.A 103 = Toks.A 3 % 6) (h4 : Toks.A 104 = Toks.A 4 % 8) (h5 : Toks.A 105 = Toks.A 5 % 4) (h6 : Toks.A 106 = Toks.A 6 % 9) (h7 : Toks.A 107 = quotaI (Toks.A 7) - 64) : CallOk Tryz.prog cfgS := by
  intro M ρ h w f args args' v h' s hM ha hx
  unfold cfgS at hx
  split at hx
  · rename_i hf
    subst hf
    split at hx
    · rename_i cs
      split at hx
      · rename_i hcs
        injection hx with hx
        injection hx with hx1 hx2
        subst hx1 hx2
        obtain ⟨x', rfl, g⟩ := one_arg ha
        obtain ⟨cs', rfl, g⟩ := g
        rw [hcs] at g
        obtain ⟨l'⟩ := cs'
        simp only at g
        cases g with
        | cons g0 g => cases g with
          | cons g1 g => cases g with
            | cons g2 g => cases g with
              | cons g3 g => cases g with
                | cons g4 g => cases g with
                  | cons g5 g => cases g with
                    | cons g6 g => cases g with
                      | cons g7 g =>
                        cases g
                        have e0 : _ = _ := g0
                        have e1 : _ = _ := g1
                        have e2 : _ = _ := g2
                        have e3 : _ = _ := g3
                        have e4 : _ = _ := g4
                        have e5 : _ = _ := g5
                        have e6 : _ = _ := g6
                        have e7 : _ = _ := g7
                        subst e0 e1 e2 e3 e4 e5 e6 e7
                        refine ⟨_, Tryz.func4, rfl, by decide +kernel, (Config_any (Toks.A 0) (Toks.A 1) (Toks.A 2) (Toks.A 3) (Toks.A 4) (Toks.A 5) (Toks.A 6) (Toks.A 7) (hb 0 (by omega)) (hb 1 (by omega)) (hb 2 (by omega)) (hb 3 (by omega)) (hb 4 (by omega)) (hb 5 (by omega)) (hb 6 (by omega)) (hb 7 (by omega)) w).mono ?_⟩
                        rintro e w' ⟨rfl, hbl⟩
                        refine ⟨ρ, _, rfl, Ext.below s hbl.block hbl.size hbl.os hbl.tape hbl.output, s.below hbl.block hbl.size, ?_⟩
                        have q := quotaI_bd (Toks.A 7)
                        refine ⟨_, rfl, .cons ⟨⟨by omega, by omega, by omega⟩, ⟨by omega, by omega, by omega⟩, ?_⟩ (.cons ⟨?_, by omega, by omega⟩ (.cons ⟨?_, by omega, by omega⟩ (.cons ⟨?_, by omega, by omega⟩ (.cons ⟨?_, by omega, by omega⟩ (.cons ⟨?_, by omega, by omega⟩ (.cons ⟨?_, by omega, by omega⟩ .nil))))))⟩
                        · rw [h0, h1, Int.add_comm 2, Int.add_comm 2]; rfl
                        · rw [h2, Int.add_comm 1]; rfl
                        · rw [h3, Int.add_comm 1]; rfl
                        · rw [h4, Int.add_comm 1]; rfl
                        · rw [h5, Int.add_comm 1]; rfl
                        · rw [h6, Int.add_comm 1]; rfl
                        · rw [h7]
                          congr 1
                          omega
      · cases hx
    · cases hx
  · cases hx
end
end Go.Proofs.YtbioljbiohdflaaGreatDoor
