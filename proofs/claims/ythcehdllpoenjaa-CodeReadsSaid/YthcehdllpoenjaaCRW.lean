/- The walk of CodeReads: the Go text returns true, and writes nothing that was there. -/
import Derived.Test.YthcehdllpoenjaaRd4
import Derived.Test.YthcehdllpoenjaaCBA
import Derived.Test.YthcehdllpoenjaaAllSum
namespace Go.Proofs.Ythcehdllpoenjaa.codeReads
open Go.ChangeShapes Go.WideShapes Go.ChangeAt Go.RowKit
set_option linter.unusedVariables false
set_option maxRecDepth 100000
theorem own_app {w : World} {B : Nat} {v : Value} {a b : List UInt8} {n m : Nat} (h : w.ownsRow B 5 1 v (n + m) (bytesV a ++ bytesV b)) (ha : a.length = n) (hb : b.length = m) : w.ownsRow B 5 1 v (a ++ b).length (bytesV (a ++ b)) := by
  subst ha hb
  rw [List.length_append, show bytesV (a ++ b) = bytesV a ++ bytesV b by simp [bytesV]]
  exact h
theorem own_app2 {w : World} {B n : Nat} {v : Value} {a b c : List UInt8} (h : w.ownsRow B 5 1 v n ((bytesV a ++ bytesV b) ++ bytesV c)) : w.ownsRow B 5 1 v n (bytesV (a ++ b) ++ bytesV c) := by
  rwa [show bytesV (a ++ b) = bytesV a ++ bytesV b by simp [bytesV]]
structure CrI (w wr : World) (vc : Value) (L : List UInt8) (k : Nat) : Prop where
  own : wr.ownsRow w.heap.size 5 1 vc L.length (bytesV L)
  len : L.length ≤ 300 * k
  bel : Below w.heap.size w wr
def CrB (w wx : World) (vb : Value) : Prop := ∃ (A : Option Addr) (n c : Nat) (L : List UInt8), vb = .slice A n c ∧ n ≤ c ∧ (c : Int) ≤ 9223372036854775807 ∧ L.length = n ∧ n ≤ 140737488352000 ∧ (∃ C, C ≤ wx.heap.size ∧ Reads wx C 1 A n (bytesV L)) ∧ Below w.heap.size w wx
set_option maxHeartbeats 40000000 in
theorem walk (A0 : Option Addr) (n0 c0 : Nat) (x0 : List Int) (A1 : Option Addr) (n1 c1 : Nat) (x1 : List Int) (A2 : Option Addr) (n2 c2 : Nat) (x2 : List ByteArray) (A3 : Option Addr) (n3 c3 : Nat) (x3 : List Int) (a4 : Bool) (w : World) (b0 : IntRow .u8 w A0 n0 c0 x0) (z0 : n0 ≤ 140737488351232) (b1 : IntRow .i64 w A1 n1 c1 x1) (b2 : StrRow w A2 n2 c2 x2) (b3 : IntRow .i64 w A3 n3 c3 x3) :
    Calls Try.prog 3 #[.slice A0 n0 c0, .slice A1 n1 c1, .slice A2 n2 c2, .slice A3 n3 c3, .bool a4] w fun e w' => e = .returned (.bool true) ∧ Below w.heap.size w w' := by
  obtain ⟨L0, hL0, hr0, hc0, hm0⟩ := bytes_row b0
  obtain ⟨hc1, hm1, hl1, hr1, hw1⟩ := b1
  obtain ⟨hc2, hm2, hl2, hr2, hw2⟩ := b2
  obtain ⟨hc3, hm3, hl3, hr3, hw3⟩ := b3
  unfold maxLen at hm0 hm1 hm2 hm3
  have HR0 := Lib.hid hr0
  have HR1 := Lib.hid hr1
  have HR2 := Lib.hid hr2
  have HR3 := Lib.hid hr3
  have HW1 := Lib.hid hw1
  have HW2 := Lib.hid hw2
  have HW3 := Lib.hid hw3
  clear hr0 hr1 hr2 hr3 hw1 hw2 hw3 b0
  obtain ⟨i0, hib, hz0, hz1, hz2⟩ := info_parts byte_info
  go_enter Try.func3, Try.ntmps3
  go_upto_if 18 with fail
  go_cut [0] from 11 to 52 (fun vb wx => Hid (CrB w wx vb))
  case first =>
    cases a4 with
    | true =>
      go_wp2_with fail
      go_meet
      exact Lib.hid ⟨A0, n0, c0, L0, rfl, hc0, by omega, hL0, by omega, ⟨_, Nat.le_refl _, HR0.out⟩, Below.refl _ _⟩
    | false =>
      simp only [Bool.not_false]
      go_wp2_with fail
      go_loopw [11, 12] (fun vc vi wr => Hid (∃ (k : Nat) (L : List UInt8), vi = .int .i64 k ∧ k ≤ 8 ∧ CrI w wr vc L k)) (fun _ vi _ => 8 - (intOf vi).toNat)
      case atStart => exact Lib.hid ⟨0, [], rfl, by omega, ⟨⟨by simp [bytesV], .inl ⟨rfl, rfl⟩⟩, by simp, Below.refl _ _⟩⟩
      case round =>
        obtain ⟨k, L, rfl, hk8, hI⟩ := hrel.out
        clear hrel
        have hLl := hI.len
        have hsz := hI.bel.size
        have HI := Lib.hid hI
        clear hI
        by_cases h1 : (k : Int) < n1
        · by_cases h2 : (k : Int) < 8
          · obtain ⟨ad1, u1, rfl, hab1, hx1, hcx1⟩ := HR1.out.at_ (k := k) (by omega)
            rw [List.getElem?_map, Option.map_eq_some_iff] at hx1
            obtain ⟨z, hz, rfl⟩ := hx1
            have hzb := bounds_i64 (HW1.out z (List.mem_of_getElem? hz))
            have hcz : wr.cell? (ad1.add k) = some (.int .i64 z) := (HI.out.bel.cell (by rw [block_of_add]; exact hab1)).trans hcx1
            clear hz hcx1
            have m1 := Int.emod_nonneg z (show (34359738368 : Int) ≠ 0 by omega)
            have m2 := Int.emod_lt_of_pos z (show (0 : Int) < 34359738368 by omega)
            have hzn := numZ_len (z % 34359738368)
            have hNm := fun w => rNumber_any (z % 34359738368) w
            generalize numZ (z % 34359738368) = L2 at *
            by_cases h3 : (k : Int) < n2
            · obtain ⟨ad2, u2, rfl, hab2, hx2, hcx2⟩ := HR2.out.at_ (k := k) (by omega)
              rw [List.getElem?_map, Option.map_eq_some_iff] at hx2
              obtain ⟨s, hs, rfl⟩ := hx2
              have hsb := HW2.out s (List.mem_of_getElem? hs)
              have hKT := fun w => KText_nat s 40 w hsb (by decide)
              generalize s.extract 0 (min s.size 40) = s2 at hKT
              have htl := textL_len s2
              clear hs
              go_wp2_with (first | (go_at_call 7; refine (Within_any _ _ _ (by omega) (by omega) (by omega) (by omega)).mono ?_; rintro e w' ⟨rfl, rfl⟩) | (go_at_call 6; refine (hNm _).mono ?_; rintro e w2 ⟨v2, rfl, ho2, hb2⟩; obtain ⟨A5, c5, rfl, -, -⟩ := own_slice ho2; have hob2 := own_keep HI.out.own hb2; have hbe2 := HI.out.bel.trans (hb2.mono HI.out.bel.size); have hs2 := hbe2.size; have hr2 := Reads.of_own ho2) | (at_builtin; refine wpList_append_any _ rfl _ _ 22 rfl w.heap.size 5 i0 (.int .u8 0) 1 1 Try.underlying22 hib hz0 hz1 hz2 rfl (by decide) u11 _ _ rfl hob2 w2.heap.size A5 _ c5 (bytesV L2) rfl hr2 (by simp [bytesV, Value.oneCell']) (by simp only [maxLen]; omega) (by omega) (by omega) ?_; intro v3 w3 ho3 hg3 _hne; clear _hne; have hbe3 := hbe2.grown hg3 hs2 (fun k hk => (hob2.lt k hk).1); have hs3 := hbe3.size; have hcx3 : w3.cell? (ad2.add k) = some (.string s) := (hbe3.cell (by rw [block_of_add]; exact hab2)).trans hcx2) | (go_at_call 9; refine (hKT _).mono ?_; rintro e w' ⟨rfl, rfl⟩) | (go_at_call 8; refine (rText_any _ _).mono ?_; rintro e w4 ⟨v4, rfl, ho4, hb4⟩; obtain ⟨A6, c6, rfl, -, -⟩ := own_slice ho4; have hob4 := own_keep ho3 hb4; have hbe4 := hbe3.trans (hb4.mono hbe3.size); have hs4 := hbe4.size; have hr4 := Reads.of_own ho4) | (at_builtin; refine wpList_append_any _ rfl _ _ 22 rfl w.heap.size 5 i0 (.int .u8 0) 1 1 Try.underlying22 hib hz0 hz1 hz2 rfl (by decide) v3 _ _ rfl hob4 w4.heap.size A6 _ c6 (bytesV (textL s2)) rfl hr4 (by simp [bytesV, Value.oneCell']) (by simp only [maxLen]; omega) (by omega) (by omega) ?_; intro v5 w5 ho5 hg5 _hne; clear _hne))
              have hbe5 := hbe4.grown hg5 hs4 (fun k hk => (hob4.lt k hk).1)
              go_roundw
              case measure => simp [intOf]; omega
              case rel => exact Lib.hid ⟨k + 1, (L ++ L2) ++ textL s2, by simp, by omega, ⟨own_app (own_app2 ho5) (by simp) rfl, by simp only [List.length_append]; omega, hbe5⟩⟩
            · go_wp2_with (first | (go_at_call 7; refine (Within_any _ _ _ (by omega) (by omega) (by omega) (by omega)).mono ?_; rintro e w' ⟨rfl, rfl⟩) | (go_at_call 6; refine (hNm _).mono ?_; rintro e w2 ⟨v2, rfl, ho2, hb2⟩; obtain ⟨A5, c5, rfl, -, -⟩ := own_slice ho2; have hob2 := own_keep HI.out.own hb2; have hbe2 := HI.out.bel.trans (hb2.mono HI.out.bel.size); have hs2 := hbe2.size; have hr2 := Reads.of_own ho2) | (at_builtin; refine wpList_append_any _ rfl _ _ 22 rfl w.heap.size 5 i0 (.int .u8 0) 1 1 Try.underlying22 hib hz0 hz1 hz2 rfl (by decide) u11 _ _ rfl hob2 w2.heap.size A5 _ c5 (bytesV L2) rfl hr2 (by simp [bytesV, Value.oneCell']) (by simp only [maxLen]; omega) (by omega) (by omega) ?_; intro v3 w3 ho3 hg3 _hne; clear _hne; have hbe3 := hbe2.grown hg3 hs2 (fun k hk => (hob2.lt k hk).1); have hs3 := hbe3.size))
              go_roundw
              case measure => simp [intOf]; omega
              case rel => exact Lib.hid ⟨k + 1, L ++ L2, by simp, by omega, ⟨own_app ho3 rfl rfl, by simp only [List.length_append]; omega, hbe3⟩⟩
          · go_wp2_with fail
            refine (Cut_any A0 n0 c0 _ L0 _ (HR0.out.below HI.out.bel) hc0 (by omega)).mono ?_
            rintro e w2 ⟨v2, L5, rfl, hl5, ho2, hb2⟩
            obtain ⟨A5, c5, rfl, -, -⟩ := own_slice ho2
            have hob2 := own_keep HI.out.own hb2
            have hbe2 := HI.out.bel.trans (hb2.mono HI.out.bel.size)
            have hs2 := hbe2.size
            have hr2 := Reads.of_own ho2
            go_wp2_with (at_builtin; refine wpList_append_any _ rfl _ _ 22 rfl w.heap.size 5 i0 (.int .u8 0) 1 1 Try.underlying22 hib hz0 hz1 hz2 rfl (by decide) u11 _ _ rfl hob2 w2.heap.size A5 _ c5 (bytesV L5) rfl hr2 (by simp [bytesV, Value.oneCell']) (by simp only [maxLen]; omega) (by omega) (by omega) ?_; intro v3 w3 ho3 hg3 _hne; clear _hne)
            have hbe3 := hbe2.grown hg3 hs2 (fun k hk => (hob2.lt k hk).1)
            go_meet
            obtain ⟨A6, c6, rfl, h6, h7⟩ := own_slice ho3
            unfold maxLen at h7
            exact Lib.hid ⟨A6, _, c6, L ++ L5, rfl, h6, by omega, by simp, by omega, ⟨_, Nat.le_refl _, by have h := Reads.of_own ho3; rwa [show bytesV L ++ bytesV L5 = bytesV (L ++ L5) by simp [bytesV]] at h⟩, hbe3⟩
        · go_wp2_with fail
          refine (Cut_any A0 n0 c0 _ L0 _ (HR0.out.below HI.out.bel) hc0 (by omega)).mono ?_
          rintro e w2 ⟨v2, L5, rfl, hl5, ho2, hb2⟩
          obtain ⟨A5, c5, rfl, -, -⟩ := own_slice ho2
          have hob2 := own_keep HI.out.own hb2
          have hbe2 := HI.out.bel.trans (hb2.mono HI.out.bel.size)
          have hs2 := hbe2.size
          have hr2 := Reads.of_own ho2
          go_wp2_with (at_builtin; refine wpList_append_any _ rfl _ _ 22 rfl w.heap.size 5 i0 (.int .u8 0) 1 1 Try.underlying22 hib hz0 hz1 hz2 rfl (by decide) u11 _ _ rfl hob2 w2.heap.size A5 _ c5 (bytesV L5) rfl hr2 (by simp [bytesV, Value.oneCell']) (by simp only [maxLen]; omega) (by omega) (by omega) ?_; intro v3 w3 ho3 hg3 _hne; clear _hne)
          have hbe3 := hbe2.grown hg3 hs2 (fun k hk => (hob2.lt k hk).1)
          go_meet
          obtain ⟨A6, c6, rfl, h6, h7⟩ := own_slice ho3
          unfold maxLen at h7
          exact Lib.hid ⟨A6, _, c6, L ++ L5, rfl, h6, by omega, by simp, by omega, ⟨_, Nat.le_refl _, by have h := Reads.of_own ho3; rwa [show bytesV L ++ bytesV L5 = bytesV (L ++ L5) by simp [bytesV]] at h⟩, hbe3⟩
  case rest =>
    obtain ⟨A, n, c, L, rfl, hnc, hcm, hL, hn, ⟨C, hC, hr⟩, hbe⟩ := hcut.out
    clear hcut
    have hr := Lib.hid hr
    go_wp2_with fail
    refine (Lend_any A n c C L _ hr.out hC (by omega)).mono ?_
    rintro e w1 ⟨g0, rfl, hg0, hB0, hb1⟩
    have hr1 := Lib.hid (hr.out.below (hb1.mono hC))
    have hz1 := hb1.size
    have hbe1 := hbe.trans (hb1.mono hbe.size)
    have hrl := reads_lent hB0
    rw [hL] at hrl
    have hB0 := Lib.hid hB0
    go_wp2_with fail
    refine (New_v (some ⟨g0, 0, none⟩) n (n + 3) _ L _ hL hrl (by omega)).mono ?_
    rintro e w2 ⟨g, rfl, hgg, hV, hb2⟩
    have hgl := (hV (fun k => k = g) rfl (fun k hk e => by omega)).lt
    have hz2 := hb2.size
    clear hrl
    go_wp2_with fail
    refine (Copy_any A n c C L _ (hr1.out.below (hb2.mono (by omega))) (by omega)).mono ?_
    rintro e w3 ⟨v3, rfl, ho3, hb3⟩
    obtain ⟨A4, c4, rfl, h4, h5⟩ := own_slice ho3
    have hz3 := hb3.size
    have hRd := (hV (fun k => k = g ∨ k = w3.heap.size) (.inl rfl) (fun k hk e => by rcases e with e | e <;> omega)).below hb3
    obtain ⟨cs0, hcs0⟩ : ∃ cs, Blk w3 g 47 cs := by obtain ⟨_, _, hb, _⟩ := hRd.ex; exact ⟨_, hb⟩
    have hRr : RrV (w3.alloc (.cells #[.slice A4 n c4, .bool false] 35)) w1.heap.size w3.heap.size (fun k => k = g ∨ k = w3.heap.size) L 0 false :=
      RrV.new hL ho3 (by omega) (by omega) (.inr rfl) (fun k hk e => by
        rcases e with e | e
        · subst e; exact own_blk_ne ho3 hcs0 (by decide) hk
        · have := (ho3.lt k hk).2; omega) h4 h5
    have hRd4 := hRd.below ((Below.refl w3.heap.size w3).alloc (Nat.le_refl _) (.cells #[.slice A4 n c4, .bool false] 35))
    have hbw : Below w1.heap.size w1 (w3.alloc (.cells #[.slice A4 n c4, .bool false] 35)) := (hb2.trans (hb3.mono hz2)).alloc (by omega) _
    have hgx : g ≠ w3.heap.size := by omega
    have HH := Lib.hid (And.intro hRd4 (And.intro hRr hbw))
    clear hV hb2 hb3 ho3 hRd hRr hRd4 hbw hcs0
    have hgx1 : w1.heap.size ≤ w3.heap.size := by omega
    obtain ⟨gx, hgxe⟩ : ∃ gx, gx = w3.heap.size := ⟨_, rfl⟩
    go_wp2_with fail
    generalize (w3.alloc (.cells #[.slice A4 n c4, .bool false] 35)) = W4 at *
    rw [← hgxe] at HH hgx hgx1 ⊢
    obtain ⟨V, hV⟩ : ∃ V : Nat → Prop, V = fun k => k = g ∨ k = gx := ⟨_, rfl⟩
    rw [← hV] at HH
    have hVg : V g := by rw [hV]; exact .inl rfl
    have hVx : V gx := by rw [hV]; exact .inr rfl
    clear hV hgxe hb1 hbe hcm
    go_loopw [16] (fun i wr => Hid (∃ (k p : Nat) (b : Bool), i = .int .i64 k ∧ k ≤ 24 ∧ RdV wr w1.heap.size g V L p b ∧ RrV wr w1.heap.size gx V L p b ∧ Below w1.heap.size w1 wr)) (fun i _ => 24 - (intOf i).toNat)
    case atStart => exact Lib.hid ⟨0, 0, false, rfl, by omega, HH.out.1, HH.out.2.1, HH.out.2.2⟩
    case round =>
      obtain ⟨k, p, b, rfl, hk, hRd, hRr, hbw⟩ := hrel.out
      clear hrel HH
      by_cases h1 : (k : Int) < n3
      · by_cases h2 : (k : Int) < 24
        · obtain ⟨ad3, u3, rfl, hab3, hx3, hcx3⟩ := HR3.out.at_ (k := k) (by omega)
          rw [List.getElem?_map, Option.map_eq_some_iff] at hx3
          obtain ⟨z, hz, rfl⟩ := hx3
          have hzb := bounds_i64 (HW3.out z (List.mem_of_getElem? hz))
          have hcz : wr.cell? (ad3.add k) = some (.int .i64 z) := ((hbe1.trans (hbw.mono (by have := hbe1.size; omega))).cell (by rw [block_of_add]; exact hab3)).trans hcx3
          clear hz hcx3
          have hN := hRd.Number
          have hM := fun {wa : World} (h : RrV wa w1.heap.size gx V L p b) => h.Number
          have hT := hRd.Text
          have hU := fun {wa : World} (h : RrV wa w1.heap.size gx V L p b) => h.Text
          have HX := Lib.hid (And.intro hRd hRr)
          have HBW := Lib.hid hbw
          clear hRd hRr hbw
          have hpar : (z.tmod 2 == 0) = true ∨ (z.tmod 2 == 0) = false := by cases (z.tmod 2 == 0) <;> simp
          rcases hpar with hpar | hpar
          · rcases hrd : rdNum L p b with ⟨v, q, d⟩
            rw [hrd] at hN
            simp only [hrd] at hM
            clear hrd hT hU
            go_wp2_with fail
            refine hN.mono ?_
            rintro e w5 ⟨rfl, hd5, hg5⟩
            have hr5 := HX.out.2.keep hg5 hVg (fun e => hgx e.symm)
            have hb5 := Lib.hid (HBW.out.grown hg5 HBW.out.size (fun j hj => by injection hj with hj; have := HX.out.1.ge; omega))
            have hd5 := Lib.hid hd5
            clear hN hg5
            go_wp2_with fail
            refine (hM hr5).mono ?_
            rintro e w6 ⟨rfl, hr6, hg6⟩
            have hd6 := hd5.out.keep hg6 hVx hgx
            have hb6 := Lib.hid (hb5.out.grown hg6 hb5.out.size (fun j hj => by injection hj with hj; omega))
            clear hM hr5 hg6 hd5 hb5
            have hcb : w6.cell? ⟨gx, 1, none⟩ = some (.bool d) := hr6.cell
            have hD := fun k => (hd6.below (below_drewN (Below.refl _ w6) k)).Done
            have hE := fun k => (hr6.below (below_drewN (Below.refl _ w6) k)).Done
            have hB := fun k => (hd6.below (below_drewN (Below.refl _ w6) k)).Bad
            generalize (!d && q == L.length) = dn at *
            have HF := Lib.hid (And.intro hd6 hr6)
            clear hd6 hr6
            go_wp2_with fail
            go_quiet (first | (go_at_call 18; exact (hD _).mono fun e w' h => ⟨h.1, by obtain ⟨k1, e1⟩ := h.2; exact ⟨_, by rw [e1, World.drewN_drewN]⟩⟩) | (go_at_call 19; exact (hE _).mono fun e w' h => ⟨h.1, _, h.2.symm⟩) | (go_at_call 20; exact (hB _).mono fun e w' h => ⟨h.1, _, h.2.symm⟩))
            clear hD hE hB hcb
            go_wp2
            have hfd := HF.out.1.below (below_drewN (Below.refl _ w6) nq)
            have hfr := HF.out.2.below (below_drewN (Below.refl _ w6) nq)
            go_roundw
            case measure => simp [intOf]; omega
            case rel => exact Lib.hid ⟨k + 1, q, d, by simp, by omega, hfd, hfr, below_drewN hb6.out nq⟩
          · rcases hrd : rdText L p b with ⟨v, q, d⟩
            rw [hrd] at hT
            simp only [hrd] at hU
            clear hrd hN hM
            go_wp2_with fail
            refine hT.mono ?_
            rintro e w5 ⟨rfl, hd5, hg5⟩
            have hr5 := HX.out.2.keep hg5 hVg (fun e => hgx e.symm)
            have hb5 := Lib.hid (HBW.out.grown hg5 HBW.out.size (fun j hj => by injection hj with hj; have := HX.out.1.ge; omega))
            have hd5 := Lib.hid hd5
            clear hT hg5
            go_wp2_with fail
            refine (hU hr5).mono ?_
            rintro e w6 ⟨rfl, hr6, hg6⟩
            have hd6 := hd5.out.keep hg6 hVx hgx
            have hb6 := Lib.hid (hb5.out.grown hg6 hb5.out.size (fun j hj => by injection hj with hj; omega))
            clear hU hr5 hg6 hd5 hb5
            have hcb : w6.cell? ⟨gx, 1, none⟩ = some (.bool d) := hr6.cell
            have hD := fun k => (hd6.below (below_drewN (Below.refl _ w6) k)).Done
            have hE := fun k => (hr6.below (below_drewN (Below.refl _ w6) k)).Done
            have hB := fun k => (hd6.below (below_drewN (Below.refl _ w6) k)).Bad
            generalize (!d && q == L.length) = dn at *
            have HF := Lib.hid (And.intro hd6 hr6)
            clear hd6 hr6
            go_wp2_with fail
            go_quiet (first | (go_at_call 18; exact (hD _).mono fun e w' h => ⟨h.1, by obtain ⟨k1, e1⟩ := h.2; exact ⟨_, by rw [e1, World.drewN_drewN]⟩⟩) | (go_at_call 19; exact (hE _).mono fun e w' h => ⟨h.1, _, h.2.symm⟩) | (go_at_call 20; exact (hB _).mono fun e w' h => ⟨h.1, _, h.2.symm⟩))
            clear hD hE hB hcb
            go_wp2
            have hfd := HF.out.1.below (below_drewN (Below.refl _ w6) nq)
            have hfr := HF.out.2.below (below_drewN (Below.refl _ w6) nq)
            go_roundw
            case measure => simp [intOf]; omega
            case rel => exact Lib.hid ⟨k + 1, q, d, by simp, by omega, hfd, hfr, below_drewN hb6.out nq⟩
        · have hB := hB0.out.below hbw hB0.out.lt
          have hrr := hr1.out.below (hbw.mono (by omega))
          have hbf := hbe1.trans (hbw.mono (by have := hbe1.size; omega))
          clear hRd hRr hbw
          go_wp2_with (first | (go_at_call 21; refine (Intact_any g0 A n c C L _ hB hrr (by omega)).mono ?_; rintro e w8 ⟨rfl, kd, rfl⟩) | (go_at_call 22; refine (wakes_22.2.2.2 _).mono ?_; rintro e w9 ⟨rfl, hb9⟩))
          go_ret
          exact ⟨rfl, (below_drewN hbf kd).trans (hb9.mono (by have := hbf.size; show w.heap.size ≤ (wr.drewN kd).heap.size; exact this))⟩
      · have hB := hB0.out.below hbw hB0.out.lt
        have hrr := hr1.out.below (hbw.mono (by omega))
        have hbf := hbe1.trans (hbw.mono (by have := hbe1.size; omega))
        clear hRd hRr hbw
        go_wp2_with (first | (go_at_call 21; refine (Intact_any g0 A n c C L _ hB hrr (by omega)).mono ?_; rintro e w8 ⟨rfl, kd, rfl⟩) | (go_at_call 22; refine (wakes_22.2.2.2 _).mono ?_; rintro e w9 ⟨rfl, hb9⟩))
        go_ret
        exact ⟨rfl, (below_drewN hbf kd).trans (hb9.mono (by have := hbf.size; show w.heap.size ≤ (wr.drewN kd).heap.size; exact this))⟩

end Go.Proofs.Ythcehdllpoenjaa.codeReads
