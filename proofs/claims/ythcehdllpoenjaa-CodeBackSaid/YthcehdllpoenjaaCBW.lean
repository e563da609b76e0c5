/- The walk of CodeBack: the Go text returns true, and writes nothing that was there. -/
import Derived.Test.YthcehdllpoenjaaCBA
import Derived.Test.YthcehdllpoenjaaAllSum
namespace Go.Proofs.Ythcehdllpoenjaa.codeBack
open Go.ChangeShapes Go.WideShapes Go.ChangeAt Go.RowKit
set_option linter.unusedVariables false
set_option maxRecDepth 100000
structure CbI (w wr : World) (Q : List (Nat × ByteArray)) (vb vn vt : Value) : Prop where
  ok : OkQ Q
  len : Q.length ≤ 8
  ob : wr.ownsRow w.heap.size 5 1 vb (encQ Q).length (bytesV (encQ Q))
  on : wr.ownsRow w.heap.size 3 1 vn Q.length (Q.map fun q => Value.int .i64 q.1)
  ot : wr.ownsRow w.heap.size 9 1 vt Q.length (Q.map fun q => Value.string q.2)
  bel : Below w.heap.size w wr
theorem CbI.below {w wr w' : World} {Q : List (Nat × ByteArray)} {vb vn vt : Value} (h : CbI w wr Q vb vn vt) (hb : Below wr.heap.size wr w') : CbI w w' Q vb vn vt :=
  ⟨h.ok, h.len, own_keep h.ob hb, own_keep h.on hb, own_keep h.ot hb, h.bel.trans (hb.mono h.bel.size)⟩
theorem CbI.keepR {w wr w' : World} {Q : List (Nat × ByteArray)} {vb vn vt : Value} {B g p : Nat} {l : List UInt8} {b : Bool} (h : CbI w wr Q vb vn vt) (hR : RdS wr B g l p b) (hg : wr.grownBy w' (some g)) (hB : w.heap.size ≤ B) : CbI w w' Q vb vn vt :=
  ⟨h.ok, h.len, own_rds h.ob hR (by decide) hg, own_rds h.on hR (by decide) hg, own_rds h.ot hR (by decide) hg, h.bel.grown hg h.bel.size (fun k hk => by injection hk with hk; have := hR.ge; omega)⟩
theorem CbI.drewN {w wr : World} {Q : List (Nat × ByteArray)} {vb vn vt : Value} (h : CbI w wr Q vb vn vt) (k : Nat) : CbI w (wr.drewN k) Q vb vn vt := h.below (below_drewN (Below.refl _ _) k)
theorem CbI.drew {w wr : World} {Q : List (Nat × ByteArray)} {vb vn vt : Value} (h : CbI w wr Q vb vn vt) : CbI w wr.drew Q vb vn vt := h.below (Below.drew (Below.refl _ _))
theorem mkS {w wr : World} {Q : List (Nat × ByteArray)} {vb : Value} {gn gt n c c' k : Nat} {q : Nat × ByteArray} (h : CbI w wr Q vb (.slice (some ⟨gn, 0, none⟩) n c) (.slice (some ⟨gt, 0, none⟩) n c')) (hq : Q[k]? = some q) :
    wr.cell? ⟨gn, k, none⟩ = some (.int .i64 q.1) ∧ wr.cell? ⟨gt, k, none⟩ = some (.string q.2) ∧ CbI w wr Q vb (.slice (some ⟨gn, 0, none⟩) n c) (.slice (some ⟨gt, 0, none⟩) n c') := by
  have key : ∀ gg, ((⟨gg, 0, none⟩ : Addr).add k) = ⟨gg, k, none⟩ := fun gg => by unfold Addr.add; split <;> simp_all
  have h1 := h.on.cells rfl k (.int .i64 q.1) (by rw [List.getElem?_map, hq]; rfl)
  have h2 := h.ot.cells rfl k (.string q.2) (by rw [List.getElem?_map, hq]; rfl)
  rw [key] at h1 h2
  exact ⟨h1, h2, h⟩
set_option maxHeartbeats 40000000 in
theorem walk (A0 : Option Addr) (n0 c0 : Nat) (x0 : List Int) (A1 : Option Addr) (n1 c1 : Nat) (x1 : List ByteArray) (a2 : Int) (w : World) (b0 : IntRow .i64 w A0 n0 c0 x0) (b1 : StrRow w A1 n1 c1 x1) (b2 : -9223372036854775808 ≤ a2 ∧ a2 ≤ 9223372036854775807) :
    Calls Try.prog 4 #[.slice A0 n0 c0, .slice A1 n1 c1, .int .i64 a2] w fun e w' => e = .returned (.bool true) ∧ Below w.heap.size w w' := by
  obtain ⟨hc0, hm0, hl0, hr0, hw0⟩ := b0
  obtain ⟨hc1, hm1, hl1, hr1, hw1⟩ := b1
  have HR0 := Lib.hid hr0
  have HR1 := Lib.hid hr1
  have HW0 := Lib.hid hw0
  have HW1 := Lib.hid hw1
  clear hr0 hr1 hw0 hw1
  unfold maxLen at hm0 hm1
  go_enter Try.func4, Try.ntmps4
  go_upto_block 0 with fail
  go_cut [7, 8, 9] from 10 to 90 (fun vb vn vt wx => Hid (∃ Q, CbI w wx Q vb vn vt))
  case first =>
    go_wp2_with fail
    go_loopw [7, 8, 9, 10] (fun vb vn vt vi wr => Hid (∃ Q, vi = .int .i64 Q.length ∧ CbI w wr Q vb vn vt)) (fun _ _ _ vi _ => match vi with | .int _ z => (8 - z).toNat | _ => 0)
    case atStart => exact Lib.hid ⟨[], rfl, ⟨(fun q hq => by cases hq), by simp, ⟨by simp [encQ, bytesV], .inl ⟨rfl, rfl⟩⟩, ⟨by simp, .inl ⟨rfl, rfl⟩⟩, ⟨by simp, .inl ⟨rfl, rfl⟩⟩, Below.refl _ _⟩⟩
    case round =>
      obtain ⟨Q, rfl, hI⟩ := hrel.out
      clear hrel
      have hk8 := hI.len
      have HI := Lib.hid hI
      clear hI
      obtain ⟨k, hk⟩ : ∃ k, k = Q.length := ⟨_, rfl⟩
      rw [← hk] at hk8 ⊢
      have HK := Lib.hid hk
      clear hk
      by_cases h1 : (k : Int) < n0
      · by_cases h2 : (k : Int) < n1
        · by_cases h3 : (k : Int) < 8
          · obtain ⟨ad, u, rfl, hab, hx, hcx⟩ := (HR0.out.below HI.out.bel).at_ (k := k) (by omega)
            obtain ⟨ad1, u1, rfl, hab1, hx1, hcx1⟩ := (HR1.out.below HI.out.bel).at_ (k := k) (by omega)
            rw [List.getElem?_map, Option.map_eq_some_iff] at hx hx1
            obtain ⟨z, hz, rfl⟩ := hx
            obtain ⟨s, hs, rfl⟩ := hx1
            have hzb := bounds_i64 (HW0.out z (List.mem_of_getElem? hz))
            have hsb := HW1.out s (List.mem_of_getElem? hs)
            have HZ := Lib.hid (And.intro hz hs)
            clear hz hs
            have m1 := Int.emod_nonneg z (show (34359738368 : Int) ≠ 0 by omega)
            have m2 := Int.emod_lt_of_pos z (show (0 : Int) < 34359738368 by omega)
            obtain ⟨n, hn⟩ := Int.eq_ofNat_of_zero_le m1
            have hnb : n < 34359738368 := by omega
            have hW : ∀ w, Calls Try.prog 7 #[.int .i64 z, .int .i64 34359738368] w fun e w' => e = .returned (.int .i64 n) ∧ w = w' := fun w => by
              have h := Within_any z 34359738368 w (by omega) (by omega) (by omega) (by omega)
              rwa [hn] at h
            have hT := fun w => KText_nat s 60 w hsb (by decide)
            have ht60 : (s.extract 0 (min s.size 60)).size ≤ 60 := by simp; omega
            generalize s.extract 0 (min s.size 60) = t at *
            have hNum : ∀ w, Calls Try.prog 23 #[.int .i64 n] w fun e w' => ∃ v, e = .returned v ∧ w'.ownsRow w.heap.size 5 1 v (numL n).length (bytesV (numL n)) ∧ Below w.heap.size w w' := fun w => by
              have h := Number_nat n w (by omega) (by omega)
              rwa [Int.toNat_natCast] at h
            clear hn m1 m2 HZ hzb
            go_wp2_with fail
            go_quiet (first | (go_at_call 7; exact (hW _).mono fun e w' h => ⟨h.1, _, h.2.symm⟩) | (go_at_call 9; exact (hT _).mono fun e w' h => ⟨h.1, _, h.2.symm⟩))
            have hon := HI.out.on
            have hot := HI.out.ot
            rw [← HK.out] at hon hot
            have hon : (wr.drewN nq).ownsRow w.heap.size 3 1 u8 k (Q.map fun q => Value.int .i64 q.1) := hon
            have hot : (wr.drewN nq).ownsRow w.heap.size 9 1 u9 k (Q.map fun q => Value.string q.2) := hot
            have hob : (wr.drewN nq).ownsRow w.heap.size 5 1 u7 (encQ Q).length (bytesV (encQ Q)) := HI.out.ob
            have hbe := below_drewN HI.out.bel nq
            have hel : (encQ Q).length ≤ 576 := by have := encQ_len Q HI.out.ok; have := HI.out.len; omega
            have hsz : w.heap.size ≤ (wr.drewN nq).heap.size := hbe.size
            generalize hwd : wr.drewN nq = wd at *
            clear hwd hcx hcx1 hW hT
            obtain ⟨ii, hii, hi0, hi1, hi2⟩ := info_parts int_info
            obtain ⟨is, his, hs0, hs1, hs2⟩ := info_parts str_info
            obtain ⟨i0, hib, hz0, hz1, hz2⟩ := info_parts byte_info
            go_wp2_with (first | (at_builtin; refine wpList_append_own _ rfl _ _ 23 rfl w.heap.size 3 ii (.int .i64 0) 1 8 Try.underlying23 hii hi0 hi1 hi2 rfl (by decide) _ _ _ rfl (hon.alloc _) ⟨wd.heap.size, 0, none⟩ 1 1 [.int .i64 n] rfl rfl (cell_one_new _ _ _) (one_cell_int _ _) (by simp only [maxLen]; omega) (by omega) (by simp; omega) ?_; intro v1 w1 hown1 hg1 _hne; have hot1 := (hot.alloc _).kept hg1 (own_own_ne hot hon (by decide)); have hob1 := (hob.alloc _).kept hg1 (own_own_ne hob hon (by decide)); have hbe1 := push_below hbe hsz hon _ hg1; have hsz1 := hbe1.size; clear hg1 _hne) | (at_builtin; refine wpList_append_own _ rfl _ _ 24 rfl w.heap.size 9 is (.string ⟨#[]⟩) 1 16 Try.underlying24 his hs0 hs1 hs2 rfl (by decide) _ _ _ rfl (hot1.alloc _) ⟨w1.heap.size, 0, none⟩ 1 1 [.string t] rfl rfl (cell_one_new _ _ _) (one_cell_str _) (by simp only [maxLen]; omega) (by omega) (by simp; omega) ?_; intro v2 w2 hown2 hg2 _hne; have hob2 := (hob1.alloc _).kept hg2 (own_own_ne hob1 hot1 (by decide)); have hon2 := (hown1.alloc _).kept hg2 (own_own_ne hown1 hot1 (by decide)); have hbe2 := push_below hbe1 hsz1 hot1 _ hg2; have hsz2 := hbe2.size; clear hg2 _hne))
            refine (hNum _).mono ?_
            rintro e w3 ⟨v3, rfl, hown3, hb3⟩
            obtain ⟨A3, c3, rfl, -, -⟩ := own_slice hown3
            have hob3 := own_keep hob2 hb3
            have hon3 := own_keep hon2 hb3
            have hot3 := own_keep hown2 hb3
            have hbe3 := hbe2.trans (hb3.mono hsz2)
            have hsz3 := hbe3.size
            have hr3 := Reads.of_own hown3
            clear hob hob1 hob2 hon hon2 hot hot1 hown1 hown2 hbe hbe1 hbe2
            have hcs : ∃ L : Nat, (numL n).length = L ∧ ((L = 1 ∧ ((n : Int) / 128 != 0) = false) ∨ (L = 2 ∧ ((n : Int) / 128 == 0) = false ∧ ((n : Int) / 16384 != 0) = false) ∨ (L = 3 ∧ ((n : Int) / 16384 == 0) = false ∧ ((n : Int) / 2097152 != 0) = false) ∨ (L = 4 ∧ ((n : Int) / 2097152 == 0) = false ∧ ((n : Int) / 268435456 != 0) = false) ∨ (L = 5 ∧ ((n : Int) / 268435456 == 0) = false ∧ ((n : Int) / 34359738368 != 0) = false)) := by
              simp only [beq_eq_false_iff_ne, bne_eq_false_iff_eq, ne_eq]
              rcases numL_cases n hnb with ⟨hL, hn1⟩ | ⟨hL, hn1, hn2⟩ | ⟨hL, hn1, hn2⟩ | ⟨hL, hn1, hn2⟩ | ⟨hL, hn1⟩
              · exact ⟨1, hL, by omega⟩
              · exact ⟨2, hL, by omega⟩
              · exact ⟨3, hL, by omega⟩
              · exact ⟨4, hL, by omega⟩
              · exact ⟨5, hL, by omega⟩
            obtain ⟨L, hL, ⟨rfl, g1⟩ | ⟨rfl, g1, g2⟩ | ⟨rfl, g1, g2⟩ | ⟨rfl, g1, g2⟩ | ⟨rfl, g1, g2⟩⟩ := hcs
            all_goals
              rw [hL] at hr3 ⊢
              have hT5 := fun w => Text_any t w
              have hTl := textL_len2 t ht60
              go_wp2_with (first | (at_builtin; refine wpList_append_any _ rfl _ _ 22 rfl w.heap.size 5 i0 (.int .u8 0) 1 1 Try.underlying22 hib hz0 hz1 hz2 rfl (by decide) u7 (encQ Q).length (bytesV (encQ Q)) rfl hob3 w3.heap.size A3 _ c3 (bytesV (numL n)) rfl hr3 (by simp [bytesV, Value.oneCell']) (by simp only [maxLen]; omega) (by omega) (by omega) ?_; intro v4 w4 hown4 hg4 _hne; have hon4 := hon3.kept hg4 (own_own_ne hon3 hob3 (by decide)); have hot4 := hot3.kept hg4 (own_own_ne hot3 hob3 (by decide)); have hbe4 := hbe3.grown hg4 hsz3 (fun k hk => (hob3.lt k hk).1); have hsz4 := hbe4.size; clear hg4 _hne) | (go_at_call 24; refine (hT5 _).mono ?_; rintro e w5 ⟨v5, rfl, hown5, hb5⟩; obtain ⟨A5, c5, rfl, -, -⟩ := own_slice hown5; have hob5 := own_keep hown4 hb5; have hon5 := own_keep hon4 hb5; have hot5 := own_keep hot4 hb5; have hbe5 := hbe4.trans (hb5.mono hsz4); have hsz5 := hbe5.size; have hr5 := Reads.of_own hown5) | (at_builtin; refine wpList_append_any _ rfl _ _ 22 rfl w.heap.size 5 i0 (.int .u8 0) 1 1 Try.underlying22 hib hz0 hz1 hz2 rfl (by decide) v4 _ _ rfl hob5 w5.heap.size A5 _ c5 (bytesV (textL t)) rfl hr5 (by simp [bytesV, Value.oneCell']) (by simp only [maxLen]; omega) (by omega) (by omega) ?_; intro v6 w6 hown6 hg6 _hne; have hon6 := hon5.kept hg6 (own_own_ne hon5 hob5 (by decide)); have hot6 := hot5.kept hg6 (own_own_ne hot5 hob5 (by decide)); have hbe6 := hbe5.grown hg6 hsz5 (fun k hk => (hob5.lt k hk).1); clear hg6 _hne))
              have hfin : Hid (∃ Q, Value.int .i64 ((k : Int) + 1) = .int .i64 (Q.length : Int) ∧ CbI w w6 Q v6 v1 v2) := by
                refine Lib.hid ⟨Q ++ [(n, t)], ?_, HI.out.ok.snoc hnb ht60, ?_, cb_ob hown6 hL rfl, ?_, ?_, hbe6⟩
                · have := HK.out; simp; omega
                · have := HK.out; simp; omega
                · have e := HK.out; simp only [List.length_append, List.length_singleton, List.map_append, List.map_cons, List.map_nil, ← e]; exact hon6
                · have e := HK.out; simp only [List.length_append, List.length_singleton, List.map_append, List.map_cons, List.map_nil, ← e]; exact hot6
              first
                | (refine ⟨?_, by simp; omega⟩; exact hfin)
                | (go_outline; sorry)
          · go_wp2_with fail
            go_meet
            exact Lib.hid ⟨Q, HI.out⟩
        · go_wp2_with fail
          go_meet
          exact Lib.hid ⟨Q, HI.out⟩
      · go_wp2_with fail
        go_meet
        exact Lib.hid ⟨Q, HI.out⟩
  case rest =>
    obtain ⟨Q, hI⟩ := hcut.out
    clear hcut
    obtain ⟨A3, c3, rfl, hc3, -⟩ := own_slice hI.ob
    obtain ⟨A4, c4, rfl, -, -⟩ := own_slice hI.on
    obtain ⟨A5, c5, rfl, -, -⟩ := own_slice hI.ot
    have hel : (encQ Q).length ≤ 576 := by have := encQ_len Q hI.ok; have := hI.len; omega
    have HI := Lib.hid hI
    clear hI
    go_wp2_with fail
    refine (New_s A3 c3 _ (encQ Q) _ (Reads.of_own HI.out.ob) (by omega)).mono ?_
    rintro e w1 ⟨g, rfl, hR, hb1⟩
    have HI1 := Lib.hid (HI.out.below hb1)
    have HR := Lib.hid hR
    have hB := HI.out.bel.size
    clear hR hb1 HI
    go_wp2_with fail
    go_loopw [97] (fun i wr => Hid (∃ k : Nat, i = .int .i64 k ∧ k ≤ Q.length ∧ RdS wr wc.heap.size g (encQ Q) (posQ Q k) false ∧ CbI w wr Q (.slice A3 (encQ Q).length c3) (.slice A4 Q.length c4) (.slice A5 Q.length c5))) (fun i _ => match i with | .int _ z => (Q.length - z).toNat | _ => 0)
    case atStart => exact Lib.hid ⟨0, rfl, by omega, HR.out, HI1.out⟩
    case round =>
      obtain ⟨k, rfl, hk, hR, hI⟩ := hrel.out
      clear hrel HR HI1
      by_cases hlt : k < Q.length
      · obtain ⟨q, hq⟩ : ∃ q, Q[k]? = some q := ⟨_, List.getElem?_eq_getElem hlt⟩
        obtain ⟨p1, e1, e2⟩ := readQ Q hI.ok k q hq
        have hlti : (k : Int) < (Q.length : Int) := by omega
        obtain ⟨gn, rfl⟩ := own_some hI.on (by omega)
        obtain ⟨gt, rfl⟩ := own_some hI.ot (by omega)
        have HS := mkS hI hq
        have hS1 := HS.1
        have hS2 := HS.2.1
        have hn8 : Q.length ≤ 8 := hI.len
        obtain ⟨N, hN⟩ : ∃ N, N = Q.length := ⟨_, rfl⟩
        rw [← hN] at HS hlti hn8 ⊢
        have HN := Lib.hid hN
        have HQ := Lib.hid hq
        clear hN hq hI hlt hel
        have hkN : k < N := by omega
        have keepS : ∀ {wr w' : World} {p : Nat} {b : Bool}, (wr.cell? ⟨gn, k, none⟩ = some (.int .i64 q.1) ∧ wr.cell? ⟨gt, k, none⟩ = some (.string q.2) ∧ CbI w wr Q (.slice A3 (encQ Q).length c3) (.slice (some ⟨gn, 0, none⟩) N c4) (.slice (some ⟨gt, 0, none⟩) N c5)) → RdS wr wc.heap.size g (encQ Q) p b → wr.grownBy w' (some g) → (w'.cell? ⟨gn, k, none⟩ = some (.int .i64 q.1) ∧ w'.cell? ⟨gt, k, none⟩ = some (.string q.2) ∧ CbI w w' Q (.slice A3 (encQ Q).length c3) (.slice (some ⟨gn, 0, none⟩) N c4) (.slice (some ⟨gt, 0, none⟩) N c5)) := fun h hR hg => by
          rw [HN.out] at h ⊢
          exact mkS (h.2.2.keepR hR hg hB) HQ.out
        have keepD : ∀ {wr : World}, (wr.cell? ⟨gn, k, none⟩ = some (.int .i64 q.1) ∧ wr.cell? ⟨gt, k, none⟩ = some (.string q.2) ∧ CbI w wr Q (.slice A3 (encQ Q).length c3) (.slice (some ⟨gn, 0, none⟩) N c4) (.slice (some ⟨gt, 0, none⟩) N c5)) → (wr.drew.cell? ⟨gn, k, none⟩ = some (.int .i64 q.1) ∧ wr.drew.cell? ⟨gt, k, none⟩ = some (.string q.2) ∧ CbI w wr.drew Q (.slice A3 (encQ Q).length c3) (.slice (some ⟨gn, 0, none⟩) N c4) (.slice (some ⟨gt, 0, none⟩) N c5)) := fun h => ⟨h.1, h.2.1, h.2.2.drew⟩
        go_upto_region 19 with fail
        go_region_held3 (fun w' => w'.cell? ⟨gn, k, none⟩ = some (.int .i64 q.1) ∧ w'.cell? ⟨gt, k, none⟩ = some (.string q.2) ∧ CbI w w' Q (.slice A3 (encQ Q).length c3) (.slice (some ⟨gn, 0, none⟩) N c4) (.slice (some ⟨gt, 0, none⟩) N c5)) (first | assumption | exact keepS (by assumption) (by assumption) (by assumption) | exact keepS (by assumption) (RdS.drew (by assumption)) (by assumption) | exact keepD (by assumption)) (first | (go_at_call 14; refine (RdS.NumQ (by first | assumption | exact RdS.drew (by assumption)) e1).mono ?_; rintro e w2 ⟨rfl, hR2, hg2⟩) | (go_at_call 16; refine (RdS.TextQ (by assumption) e2).mono ?_; rintro e w3 ⟨rfl, hR3, hg3⟩) | (go_at_call 20; refine (RdS.Bad (by assumption)).mono ?_; rintro e w4 ⟨rfl, rfl⟩))
        rename_i hHeld
        go_wp2
        refine ⟨?_, by simp; omega⟩
        exact Lib.hid ⟨k + 1, by simp, by have := HN.out; omega, hR3, hHeld.2.2⟩
      · have hkQ : k = Q.length := by omega
        subst hkQ
        rw [posQ_all] at hR
        have HI := Lib.hid hI
        clear hI hk hlt
        obtain ⟨E, hE⟩ : ∃ E : Nat, E = (encQ Q).length := ⟨_, rfl⟩
        rw [← hE] at hel hc3 ⊢
        have HE := Lib.hid hE
        clear hE
        rcases Nat.eq_zero_or_pos E with h0 | h0
        · have hz0 : ((E : Int) == 0) = true := by rw [h0]; rfl
          clear h0
          go_wp2_with (first | (go_at_call 18; refine (RdS.DoneT (by assumption)).mono ?_; rintro e w2 ⟨rfl, kd, rfl⟩; have hR2 := hR.drewN kd; have HI2 := Lib.hid (HI.out.drewN kd)) | (go_at_call 14; refine (RdS.NumEnd (by assumption)).mono ?_; rintro e w3 ⟨rfl, hR3, hg3⟩; have HI3 := Lib.hid (HI2.out.keepR hR2 hg3 hB)) | (go_at_call 20; refine (RdS.Bad hR3).mono ?_; rintro e w4 ⟨rfl, rfl⟩) | (go_at_call 18; refine (RdS.DoneF (by assumption)).mono ?_; rintro e w5 ⟨rfl, kd5, rfl⟩; have HI5 := Lib.hid (HI3.out.drewN kd5)) | (go_at_call 22; refine (wakes_22.2.2.2 _).mono ?_; rintro e w9 ⟨rfl, hb9⟩))
          go_ret
          exact ⟨rfl, HI5.out.bel.trans (hb9.mono HI5.out.bel.size)⟩
        · have hz0 : ((E : Int) == 0) = false := by simp; omega
          go_wp2_with (first | (go_at_call 18; refine (RdS.DoneT (by assumption)).mono ?_; rintro e w2 ⟨rfl, kd, rfl⟩; have hR2 := hR.drewN kd; have HI2 := Lib.hid (HI.out.drewN kd)) | (go_at_call 14; refine (RdS.NumEnd (by assumption)).mono ?_; rintro e w3 ⟨rfl, hR3, hg3⟩; have HI3 := Lib.hid (HI2.out.keepR hR2 hg3 hB)) | (go_at_call 20; refine (RdS.Bad hR3).mono ?_; rintro e w4 ⟨rfl, rfl⟩) | (go_at_call 18; refine (RdS.DoneF (by assumption)).mono ?_; rintro e w5 ⟨rfl, kd5, rfl⟩; have HI5 := Lib.hid (HI3.out.drewN kd5)))
          refine (Within_any a2 E _ (by omega) (by omega) (by omega) (by omega)).mono ?_
          rintro e w' ⟨rfl, rfl⟩
          have q1 := Int.emod_nonneg a2 (show (E : Int) ≠ 0 by omega)
          have q2 := Int.emod_lt_of_pos a2 (show (0 : Int) < E by omega)
          obtain ⟨m, hm⟩ := Int.eq_ofNat_of_zero_le q1
          have hme : m < E := by omega
          rw [hm]
          clear q1 q2 hm
          have hmc : (m : Int) ≤ c3 := by omega
          have hmc2 : m ≤ c3 := by omega
          go_wp2_with fail
          refine (New_t A3 m c3 _ ((encQ Q).take m) _ (by have := HE.out; rw [List.length_take]; omega) (show Reads _ _ 1 A3 m (bytesV ((encQ Q).take m)) by have h := (Reads.of_own HI5.out.ob).take_ (m := m) (by have := HE.out; omega); simpa [bytesV, List.map_take] using h) (by omega)).mono ?_
          rintro e w6 ⟨g2, rfl, hR6, hb6⟩
          have HI6 := Lib.hid (HI5.out.below hb6)
          have HR6 := Lib.hid hR6
          have hB6 := HI5.out.bel.size
          clear hR hR2 hR3 hg3 HI HI2 HI3 hR6 hb6
          go_wp2_with fail
          go_loopw [153] (fun i wr2 => Hid (∃ (k p : Nat) (b : Bool), i = .int .i64 k ∧ k ≤ Q.length ∧ RdS wr2 (w3.drewN kd5).heap.size g2 ((encQ Q).take m) p b ∧ (b = false → p = posQ Q k) ∧ CbI w wr2 Q (.slice A3 (encQ Q).length c3) (.slice A4 Q.length c4) (.slice A5 Q.length c5))) (fun i _ => match i with | .int _ z => (Q.length - z).toNat | _ => 0)
          case atStart => exact Lib.hid ⟨0, 0, false, rfl, by omega, HR6.out, fun _ => rfl, HI6.out⟩
          case round =>
            obtain ⟨k, p, b, rfl, hk, hR, hpb, hI⟩ := hrel.out
            clear hrel HR6 HI6 HI5
            have HI := Lib.hid hI
            have HP := Lib.hid hpb
            have hRl := hR.len
            clear hI hpb
            by_cases hlt : k < Q.length
            · obtain ⟨q, hq⟩ : ∃ q, Q[k]? = some q := ⟨_, List.getElem?_eq_getElem hlt⟩
              have hlti : (k : Int) < (Q.length : Int) := by omega
              have hn8 : Q.length ≤ 8 := HI.out.len
              have HST := Lib.hid (stepTake Q HI.out.ok m k q hq p b HP.out hRl.1)
              go_wp2_with fail
              refine hR.Number.mono ?_
              rintro e w7 ⟨rfl, hR7, hg7⟩
              have HI7 := Lib.hid (HI.out.keepR hR hg7 hB6)
              go_wp2_with fail
              refine hR7.Text.mono ?_
              rintro e w8 ⟨rfl, hR8, hg8⟩
              have HI8 := Lib.hid (HI7.out.keepR hR7 hg8 hB6)
              go_wp2
              refine ⟨?_, by simp; omega⟩
              exact Lib.hid ⟨k + 1, _, _, by simp, by omega, hR8, HST.out, HI8.out⟩
            · have hkQ : k = Q.length := by omega
              subst hkQ
              have hb : b = true := by
                cases b with
                | true => rfl
                | false =>
                  have h1 := HP.out rfl
                  rw [posQ_all] at h1
                  have h2 := HE.out
                  have h3 := hRl.1
                  rw [List.length_take] at h3
                  omega
              subst hb
              clear HP hRl
              go_wp2_with (first | (go_at_call 20; refine hR.Bad.mono ?_; rintro e w7 ⟨rfl, rfl⟩) | (go_at_call 16; refine hR.TextBad.mono ?_; rintro e w8 ⟨rfl, hR8, hg8⟩; have HI8 := Lib.hid (HI.out.keepR hR hg8 hB6)) | (go_at_call 22; refine (wakes_22.2.2.2 _).mono ?_; rintro e w9 ⟨rfl, hb9⟩))
              go_ret
              exact ⟨rfl, HI8.out.bel.trans (hb9.mono HI8.out.bel.size)⟩

end Go.Proofs.Ythcehdllpoenjaa.codeBack
