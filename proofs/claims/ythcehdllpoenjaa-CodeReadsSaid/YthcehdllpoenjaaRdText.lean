/- The contract of the reader's Text. -/
import Derived.Test.YthcehdllpoenjaaRdMore
namespace Go.Proofs.Ythcehdllpoenjaa
open Go.ChangeShapes Go.WideShapes Go.ChangeAt Go.RowKit

/-- What a reader's Text tells, where it stands then, whether it is bad. -/
def rdText (l : List UInt8) (p : Nat) (b : Bool) : List UInt8 × Nat × Bool :=
  if (rdNum l p b).2.2 = true ∨ 200 < (rdNum l p b).1 ∨ (l.length : Int) < ((rdNum l p b).2.1 : Int) + (rdNum l p b).1 then ([], (rdNum l p b).2.1, true)
  else ((l.drop (rdNum l p b).2.1).take (rdNum l p b).1.toNat, (rdNum l p b).2.1 + (rdNum l p b).1.toNat, false)
theorem rdText_out {l : List UInt8} {p q : Nat} {b d : Bool} {v : Int} (h : rdNum l p b = (v, q, d)) : rdText l p b = if d = true ∨ 200 < v ∨ (l.length : Int) < (q : Int) + v then ([], q, true) else ((l.drop q).take v.toNat, q + v.toNat, false) := by
  unfold rdText
  rw [h]
theorem i64_small (x : Int) (h0 : 0 ≤ x) (h1 : x ≤ 9223372036854775806) : IntKind.i64.wrap x = x := by
  have hm : x % 2 ^ 64 = x := by omega
  exact (if_neg (show ¬ (true && decide (x % 2 ^ 64 ≥ 2 ^ (64 - 1))) = true by simp; omega)).trans hm
theorem Reads.take_ {w : World} {B n m : Nat} {A : Option Addr} {xs : List Value} (h : Reads w B 1 A n xs) (hm : m ≤ n) : Reads w B 1 A m (xs.take m) := by
  have hl := h.1
  refine ⟨by rw [List.length_take]; omega, fun hp => ?_⟩
  obtain ⟨ad, rfl, hb, hc⟩ := h.2 (by omega)
  refine ⟨ad, rfl, hb, fun j u hu => hc j u ?_⟩
  rw [List.getElem?_take] at hu
  split at hu
  · exact hu
  · cases hu

set_option maxRecDepth 100000 in
set_option maxHeartbeats 4000000 in
theorem RdText_ok (g : Nat) (A : Option Addr) (n cp at_ B : Nat) (l : List UInt8) (b : Bool) (w : World) (hb : Blk w g 47 #[.slice A n cp, .int .i64 at_, .bool b]) (hr : ∀ w', w.grownBy w' (some g) → Reads w' B 1 A n (bytesV l)) (hn : (n : Int) ≤ 4611686018427387904) (hcp : n ≤ cp) (hcp' : (cp : Int) ≤ 9223372036854775807) (hat : at_ ≤ n) :
    Calls Try.prog 16 #[.pointer (some ⟨g, 0, none⟩)] w fun e w' => e = .returned (.string ⟨(rdText l at_ b).1.toArray⟩) ∧ Blk w' g 47 #[.slice A n cp, .int .i64 (rdText l at_ b).2.1, .bool (rdText l at_ b).2.2] ∧ w.grownBy w' (some g) := by
  have hr0 := hr w ⟨rfl, rfl, rfl, Nat.le_refl _, fun _ _ _ => rfl⟩
  have hlen : l.length = n := by have := hr0.1; simpa [bytesV] using this
  have hbd := rdNum_bd l at_ b (by omega)
  have hN := RdNum_ok g A n cp at_ B l b w hb hr0 (by omega) hat
  rcases hrd : rdNum l at_ b with ⟨v, q, d⟩
  rw [hrd] at hbd hN
  simp only at hbd hN
  have Ht := Lib.hid (rdText_out hrd)
  clear hrd
  rw [hlen] at hbd Ht
  obtain ⟨hv0, hv1, hq0, hq1, hbad⟩ := hbd
  have hw : IntKind.i64.wrap ((n : Int) - (q : Int)) = (n : Int) - (q : Int) := i64_small _ (by omega) (by omega)
  obtain ⟨k, rfl⟩ : ∃ k : Nat, v = k := ⟨v.toNat, by omega⟩
  cases d with
  | true =>
    obtain ⟨hk0, rfl⟩ := hbad rfl
    have hk0 : k = 0 := by omega
    subst hk0
    have Hx : Hid (rdText l q b = ([], q, true)) := Ht.out.trans (if_pos (Or.inl rfl))
    clear Ht hbad hb hr hr0
    go_enter Try.func16, Try.ntmps16
    go_wp2_with (first | (go_at_call 14; refine hN.mono ?_; rintro e w1 ⟨rfl, hb1, hg1⟩; have h0 : w1.cell? ⟨g, 0, none⟩ = some (.slice A n cp) := hb1.cell 0; have h1 : w1.cell? ⟨g, 1, none⟩ = some (.int .i64 q) := hb1.cell 1; have h2 : w1.cell? ⟨g, 2, none⟩ = some (.bool true) := hb1.cell 2) | (go_quiet (fail); try simp only [hw]))
    go_ret
    rw [Hx.out]
    exact ⟨rfl, hb1.drewN _, only_drewN hg1 _⟩
  | false =>
    clear hbad
    by_cases hbig : 200 < (k : Int)
    · have Hx : Hid (rdText l at_ b = ([], q, true)) := Ht.out.trans (if_pos (Or.inr (Or.inl hbig)))
      have hpk : (decide (200 < (k : Int)) || decide ((n : Int) - (q : Int) < (k : Int))) = true := by simp; omega
      clear Ht hb hr hr0
      go_enter Try.func16, Try.ntmps16
      go_wp2_with (first | (go_at_call 14; refine hN.mono ?_; rintro e w1 ⟨rfl, hb1, hg1⟩; have h0 : w1.cell? ⟨g, 0, none⟩ = some (.slice A n cp) := hb1.cell 0; have h1 : w1.cell? ⟨g, 1, none⟩ = some (.int .i64 q) := hb1.cell 1; have h2 : w1.cell? ⟨g, 2, none⟩ = some (.bool false) := hb1.cell 2; have f2 : w1.frozen? ⟨g, 2, none⟩ = false := hb1.frozen 2) | (go_quiet (fail); try simp only [hw, hpk]))
      go_ret
      rw [Hx.out]
      exact ⟨rfl, (hb1.drewN _).set_ 2 _, only_setCell (only_drewN hg1 _) (Or.inl rfl) _⟩
    · by_cases hout : (n : Int) < (q : Int) + (k : Int)
      · have Hx : Hid (rdText l at_ b = ([], q, true)) := Ht.out.trans (if_pos (Or.inr (Or.inr hout)))
        have hout2 : (n : Int) - (q : Int) < (k : Int) := by omega
        have hpk : (decide (200 < (k : Int)) || decide ((n : Int) - (q : Int) < (k : Int))) = true := by simp; omega
        clear Ht hb hr hr0
        go_enter Try.func16, Try.ntmps16
        go_wp2_with (first | (go_at_call 14; refine hN.mono ?_; rintro e w1 ⟨rfl, hb1, hg1⟩; have h0 : w1.cell? ⟨g, 0, none⟩ = some (.slice A n cp) := hb1.cell 0; have h1 : w1.cell? ⟨g, 1, none⟩ = some (.int .i64 q) := hb1.cell 1; have h2 : w1.cell? ⟨g, 2, none⟩ = some (.bool false) := hb1.cell 2; have f2 : w1.frozen? ⟨g, 2, none⟩ = false := hb1.frozen 2) | (go_quiet (fail); try simp only [hw, hpk]))
        go_ret
        rw [Hx.out]
        exact ⟨rfl, (hb1.drewN _).set_ 2 _, only_setCell (only_drewN hg1 _) (Or.inl rfl) _⟩
      · have Hx : Hid (rdText l at_ b = ((l.drop q).take k, q + k, false)) := Ht.out.trans (if_neg (fun h => h.elim (fun h => by cases h) (fun h => h.elim hbig hout)))
        have hout2 : ¬ (n : Int) - (q : Int) < (k : Int) := by omega
        obtain ⟨e, he⟩ : ∃ e, e = q + k := ⟨_, rfl⟩
        have hw2 : IntKind.i64.wrap ((q : Int) + (k : Int)) = (e : Int) := (i64_small _ (by omega) (by omega)).trans (by omega)
        have hqe : (q : Int) ≤ (e : Int) := by omega
        have hqe' : q ≤ e := by omega
        have hec : (e : Int) ≤ (cp : Int) := by omega
        have hec' : e ≤ cp := by omega
        have hek : e - q = k := by omega
        have hpk : (decide (200 < (k : Int)) || decide ((n : Int) - (q : Int) < (k : Int))) = false := by simp; omega
        clear Ht hb hr0
        go_enter Try.func16, Try.ntmps16
        go_wp2_with (first | (go_at_call 14; refine hN.mono ?_; rintro e w1 ⟨rfl, hb1, hg1⟩; have h0 : w1.cell? ⟨g, 0, none⟩ = some (.slice A n cp) := hb1.cell 0; have h1 : w1.cell? ⟨g, 1, none⟩ = some (.int .i64 q) := hb1.cell 1; have h2 : w1.cell? ⟨g, 2, none⟩ = some (.bool false) := hb1.cell 2; have f1 : w1.frozen? ⟨g, 1, none⟩ = false := hb1.frozen 1; have hcv : ∀ m, (convert 22 9 (.slice (if cp = q then A else Option.map (fun x => x.add q) A) k (cp - q))).run Try.prog (w1.drewN m) = .ok (.string ⟨((l.drop q).take k).toArray⟩) (w1.drewN m) := (fun m => run_conv_reads Try.underlying22 Try.underlying5 Try.underlying9 (show Reads _ B 1 _ _ _ by have h := (((hr w1 hg1).drewN m).cut hq1 hcp).take_ (m := k) (by omega); simpa [bytesV, List.map_drop, List.map_take] using h)); have hcv2 : ∀ m, (convert 22 9 (.slice (if cp = q then A else Option.map (fun x => x.add q) A) (q + k - q) (cp - q))).run Try.prog (w1.drewN m) = .ok (.string ⟨((l.drop q).take k).toArray⟩) (w1.drewN m) := (fun m => (by rw [show q + k - q = k by omega]; exact hcv m))) | (go_quiet (fail); try simp only [hw, hpk]))
        all_goals
          go_ret
          rw [Hx.out]
          first
            | exact ⟨rfl, (hb1.drewN _).set_ 1 _, only_setCell (only_drewN hg1 _) (Or.inl rfl) _⟩
            | (subst_vars; exact ⟨rfl, (hb1.drewN _).set_ 1 _, only_setCell (only_drewN hg1 _) (Or.inl rfl) _⟩)
end Go.Proofs.Ythcehdllpoenjaa
