/- script.parse, script.Parse. -/
import Derived.Test.YtfbedlhigggggaaSpCC
import Derived.Test.YtfbedlhigggggaaBase
import Derived.ScopeJumps
import Derived.WalkMore
import Derived.Deep.RegionHeld3
namespace Go.Proofs.Ytfbedlhigggggaa.Sp
open Go Go.RowKit Go.Lib Go.Proofs.Ytfbedlhigggggaa Go.Proofs.Ytfbedlhigggggaa.Crw Go.Proofs.Ytfbedlhigggggaa.Vl Go.ChangeShapes Go.WideShapes Go.ChangeAt
set_option linter.unusedVariables false
set_option maxRecDepth 100000
/-- A step's cells. -/
def sc (x : Stp) (v : Value) : Array Value := #[.int .i64 x.k, .int .i64 x.m.k, .string x.m.F, .string x.m.E, .string x.m.T, .int .i64 x.m.N, .int .i64 x.m.S, .int .i64 x.m.U, .int .i64 x.m.P, v, .int .i64 x.n, .int .i64 x.f]
def zsA : Array Value := #[.int .i64 0, .int .i64 0, .string ⟨#[]⟩, .string ⟨#[]⟩, .string ⟨#[]⟩, .int .i64 0, .int .i64 0, .int .i64 0, .int .i64 0, .slice none 0 0, .int .i64 0, .int .i64 0]
/-- What is known of a step in memory. -/
def StpP (w : World) (x : Stp) (v : Value) : Prop := Its pw w v x.m.I ∧ v.oneCell' = true ∧ x.m.I.length ≤ 1001
theorem StpP.below {w w' : World} {x : Stp} {v : Value} (h : StpP w x v) (hb : Below w.heap.size w w') : StpP w' x v := ⟨h.1.below hb, h.2⟩
def StepPost (w : World) (q : ByteArray) (ws : List ByteArray) (e : Ending) (w' : World) : Prop := Below w.heap.size w w' ∧ match stepS q ws with
  | some x => ∃ v, e = .returned (.tuple #[.agg (sc x v), .bool true]) ∧ StpP w' x v ∧ (∀ b, v.ownBlock = some b → w.heap.size ≤ b)
  | none => ∃ cs, e = .returned (.tuple #[.agg cs, .bool false]) ∧ cs.size = 12 ∧ cs.all (·.oneCell') = true
theorem own1 {w : World} {B : Nat} {v : Value} {x : Int} (h : w.ownsRow B 3 1 v 1 [.int .i64 x]) : ∃ gl cl, v = .slice (some ⟨gl, 0, none⟩) 1 cl ∧ w.cell? ⟨gl, 0, none⟩ = some (.int .i64 x) := by
  rcases h.2 with ⟨_, h0⟩ | ⟨g, cap, cur, rfl, h2, h3, h4, h5, h6, h7⟩
  · cases h0
  · have hb : Blk w g 3 cur := h3
    have hx : ∀ j, j < 1 → cur[j]? = [Value.int .i64 x][j]? := fun j hj => by
      rw [← h7, List.getElem?_take, if_pos (by omega)]; simp
    exact ⟨g, cap, rfl, by rw [hb.cell, hx 0 (by omega)]; rfl⟩
theorem sc_one {x : Stp} {v : Value} (hv : v.oneCell' = true) : (sc x v).all (·.oneCell') = true := by
  rw [← Array.all_toList]
  show List.all [_, _, _, _, _, _, _, _, _, v, _, _] _ = true
  simp only [List.all_cons, List.all_nil, hv]
  rfl
theorem lit_of {q : ByteArray} {l : List UInt8} (h : q.data.toList = l) : q = ⟨l.toArray⟩ := by
  subst h
  rfl
theorem keep_cell {w w' : World} {b i : Nat} (h : w'.heap[b]? = w.heap[b]?) : w'.cell? ⟨b, i, none⟩ = w.cell? ⟨b, i, none⟩ := by
  simp [World.cell?, h]
theorem actS_no {q : ByteArray} (h1 : ¬ q.data.toList = tickL) (h2 : ¬ q.data.toList = fuseL) (h3 : ¬ q.data.toList = crashL) (l : List Int) : actS q l = none := by
  rcases l with _ | ⟨x, _ | ⟨y, _ | ⟨z, r⟩⟩⟩
  · rfl
  · show (if _ then _ else if _ then _ else if _ then _ else none) = none
    rw [if_neg h1, if_neg h2, if_neg h3]
  · show (if _ then _ else none) = none
    rw [if_neg h3]
  · rfl
set_option maxHeartbeats 16000000 in
theorem parse_any (q : ByteArray) (ws : List ByteArray) (Ad : Option Addr) (c : Nat) (w : World) (hm : ws.length ≤ c) (hc : c ≤ 1001) (hqs : ∀ x ∈ ws, x.size ≤ 1000) (hs : Ws w Ad ws) :
    Calls Try.prog 15 #[.string q, .slice Ad ws.length c] w (StepPost w q ws) := by
  obtain ⟨W, hW⟩ : ∃ W, W = w.alloc (.cells zsA 42) := ⟨_, rfl⟩
  obtain ⟨g, hg⟩ : ∃ g, g = w.heap.size := ⟨_, rfl⟩
  have hbW : Below w.heap.size w W := by rw [hW]; exact (Below.refl _ _).alloc (Nat.le_refl _) _
  have hZ : Blk W g 42 zsA := by rw [hW, hg]; exact Blk.new _ _ _
  have hKk := fun wa => kindOf_any q wa
  have hle := kindS_le q
  obtain ⟨K, hK⟩ : ∃ K, K = kindS q := ⟨_, rfl⟩
  rw [← hK] at hKk hle
  have HK := Lib.hid hK
  have HG := Lib.hid hg
  have HZ := Lib.hid hZ
  have HB := Lib.hid hbW
  have HW := Lib.hid hW
  have hws := hs.below hbW
  obtain ⟨n, hn⟩ : ∃ n, n = ws.length := ⟨_, rfl⟩
  clear hbW hZ hW hg hK hs
  by_cases h0 : K = 0
  · have HST := Lib.hid (show stepS q ws = (numsS ws).bind (actS q) by unfold stepS; rw [← HK.out, h0]; rfl)
    have hNm := numbers_any Ad c ws W (by omega) hqs hws
    rw [← hn] at hNm hm ⊢
    subst h0
    clear hle hws hn hqs HK
    cases hns : numsS ws with
    | none =>
      have HNS := Lib.hid hns
      clear hns
      go_enter Try.func15, Try.ntmps15
      go_upto_region 1 with fail
      rw [show w.alloc (.cells #[.int .i64 0, .int .i64 0, .string ⟨#[]⟩, .string ⟨#[]⟩, .string ⟨#[]⟩, .int .i64 0, .int .i64 0, .int .i64 0, .int .i64 0, .slice none 0 0, .int .i64 0, .int .i64 0] 42) = W from HW.out.symm, ← HG.out]
      clear HW
      go_upto_region 6 with (first | (go_at_call 24; refine (hKk _).mono ?_; rintro e w2 ⟨rfl, rfl⟩) | (go_at_call 26; refine hNm.mono ?_; rintro e w3 ⟨hb3, hp3⟩; rw [HNS.out] at hp3; obtain ⟨v, rfl⟩ := hp3; have HB3 := Lib.hid hb3; clear hb3 hNm))
      have HZ3 := Lib.hid (HZ.out.below HB3.out HZ.out.lt)
      go_upto_region 7 with fail
      repeat (first | (refine wpList_storeG 42 (cs := zsA) (by kernel_rfl) rfl rfl rfl rfl (by simp [Value.oneCell', zsA]) HZ3.out rfl ?_; intro w4 hbe hot hk4) | go_step)
      refine Mark.intro ?_
      have HB4 := Lib.hid (hbe w (by rw [HG.out]; exact Nat.le_refl _) (HB.out.trans (HB3.out.mono HB.out.size)))
      have HK4 := Lib.hid hk4
      clear hbe hot hk4
      go_wp2_with fail
      refine bodyPost_ret (ret_cell2 rfl rfl HK4.out Try.underlying42 rfl (by kernel_rfl)) rfl ⟨HB4.out, ?_⟩
      rw [HST.out.trans (show (numsS ws).bind _ = none from by rw [HNS.out]; rfl)]
      exact ⟨zsA, rfl, rfl, by simp [Value.oneCell', zsA]⟩
    | some l =>
      have HNS := Lib.hid hns
      clear hns
      go_enter Try.func15, Try.ntmps15
      go_upto_region 1 with fail
      rw [show w.alloc (.cells #[.int .i64 0, .int .i64 0, .string ⟨#[]⟩, .string ⟨#[]⟩, .string ⟨#[]⟩, .int .i64 0, .int .i64 0, .int .i64 0, .int .i64 0, .slice none 0 0, .int .i64 0, .int .i64 0] 42) = W from HW.out.symm, ← HG.out]
      clear HW
      go_upto_region 6 with (first | (go_at_call 24; refine (hKk _).mono ?_; rintro e w2 ⟨rfl, rfl⟩) | (go_at_call 26; refine hNm.mono ?_; rintro e w3 ⟨hb3, hp3⟩; rw [HNS.out] at hp3; obtain ⟨v, rfl, ho3⟩ := hp3; have HB3 := Lib.hid hb3; clear hb3 hNm))
      have HZ3 := Lib.hid (HZ.out.below HB3.out HZ.out.lt)
      clear hKk
      by_cases ht : q.data.toList = tickL
      · obtain rfl := lit_of ht
        clear ht
        rcases l with _ | ⟨x, _ | ⟨y, r⟩⟩
        · obtain ⟨Al, cl, rfl, -, -⟩ := own_slice ho3
          clear ho3
          go_upto_region 16 with fail
          repeat (first | (refine wpList_storeG 42 (cs := zsA) (by kernel_rfl) rfl rfl rfl rfl (by simp [Value.oneCell', zsA]) HZ3.out rfl ?_; intro w4 hbe hot hk4) | go_step)
          refine Mark.intro ?_
          have HB4 := Lib.hid (hbe w (by rw [HG.out]; exact Nat.le_refl _) (HB.out.trans (HB3.out.mono HB.out.size)))
          have HK4 := Lib.hid hk4
          clear hbe hot hk4
          go_wp2_with fail
          refine bodyPost_ret (ret_cell2 rfl rfl HK4.out Try.underlying42 rfl (by kernel_rfl)) rfl ⟨HB4.out, ?_⟩
          rw [HST.out.trans (show (numsS ws).bind _ = none from by rw [HNS.out]; rfl)]
          exact ⟨zsA, rfl, rfl, by simp [Value.oneCell', zsA]⟩
        · obtain ⟨gl, cl, rfl, cx⟩ := own1 ho3
          clear ho3
          go_upto_region 9 with fail
          repeat (first | (refine wpList_storeG 42 (cs := sc ⟨2, mg0 0, x, 0⟩ (.slice none 0 0)) (by kernel_rfl) rfl rfl rfl rfl (by simp [Value.oneCell', sc, mg0]) HZ3.out rfl ?_; intro w4 hbe hot hk4) | go_step)
          refine Mark.intro ?_
          have HB4 := Lib.hid (hbe w (by rw [HG.out]; exact Nat.le_refl _) (HB.out.trans (HB3.out.mono HB.out.size)))
          have HK4 := Lib.hid hk4
          clear hbe hot hk4
          go_wp2_with fail
          refine bodyPost_ret (ret_cell2 rfl rfl HK4.out Try.underlying42 rfl (by kernel_rfl)) rfl ⟨HB4.out, ?_⟩
          rw [HST.out.trans (show (numsS ws).bind _ = some ⟨2, mg0 0, x, 0⟩ from by rw [HNS.out]; rfl)]
          exact ⟨.slice none 0 0, rfl, ⟨Its.nil _ _, rfl, by simp [mg0]⟩, fun b hb => by simp [Value.ownBlock] at hb⟩
        · obtain ⟨Al, cl, rfl, -, -⟩ := own_slice ho3
          clear ho3
          have hl1 : ¬ ((r.length : Int) + 1 + 1 = 1) := by omega
          have hl2 : ¬ (r.length + 1 + 1 = 1) := by omega
          go_upto_region 16 with fail
          repeat (first | (refine wpList_storeG 42 (cs := zsA) (by kernel_rfl) rfl rfl rfl rfl (by simp [Value.oneCell', zsA]) HZ3.out rfl ?_; intro w4 hbe hot hk4) | go_step)
          refine Mark.intro ?_
          have HB4 := Lib.hid (hbe w (by rw [HG.out]; exact Nat.le_refl _) (HB.out.trans (HB3.out.mono HB.out.size)))
          have HK4 := Lib.hid hk4
          clear hbe hot hk4
          go_wp2_with fail
          refine bodyPost_ret (ret_cell2 rfl rfl HK4.out Try.underlying42 rfl (by kernel_rfl)) rfl ⟨HB4.out, ?_⟩
          rw [HST.out.trans (show (numsS ws).bind _ = none from by rw [HNS.out]; rcases r with _ | ⟨z, r⟩ <;> rfl)]
          exact ⟨zsA, rfl, rfl, by simp [Value.oneCell', zsA]⟩
      by_cases hf : q.data.toList = fuseL
      · obtain rfl := lit_of hf
        clear hf ht
        rcases l with _ | ⟨x, _ | ⟨y, r⟩⟩
        · obtain ⟨Al, cl, rfl, -, -⟩ := own_slice ho3
          clear ho3
          go_upto_region 16 with fail
          repeat (first | (refine wpList_storeG 42 (cs := zsA) (by kernel_rfl) rfl rfl rfl rfl (by simp [Value.oneCell', zsA]) HZ3.out rfl ?_; intro w4 hbe hot hk4) | go_step)
          refine Mark.intro ?_
          have HB4 := Lib.hid (hbe w (by rw [HG.out]; exact Nat.le_refl _) (HB.out.trans (HB3.out.mono HB.out.size)))
          have HK4 := Lib.hid hk4
          clear hbe hot hk4
          go_wp2_with fail
          refine bodyPost_ret (ret_cell2 rfl rfl HK4.out Try.underlying42 rfl (by kernel_rfl)) rfl ⟨HB4.out, ?_⟩
          rw [HST.out.trans (show (numsS ws).bind _ = none from by rw [HNS.out]; rfl)]
          exact ⟨zsA, rfl, rfl, by simp [Value.oneCell', zsA]⟩
        · obtain ⟨gl, cl, rfl, cx⟩ := own1 ho3
          clear ho3
          go_upto_region 11 with fail
          repeat (first | (refine wpList_storeG 42 (cs := sc ⟨3, mg0 0, x, 0⟩ (.slice none 0 0)) (by kernel_rfl) rfl rfl rfl rfl (by simp [Value.oneCell', sc, mg0]) HZ3.out rfl ?_; intro w4 hbe hot hk4) | go_step)
          refine Mark.intro ?_
          have HB4 := Lib.hid (hbe w (by rw [HG.out]; exact Nat.le_refl _) (HB.out.trans (HB3.out.mono HB.out.size)))
          have HK4 := Lib.hid hk4
          clear hbe hot hk4
          go_wp2_with fail
          refine bodyPost_ret (ret_cell2 rfl rfl HK4.out Try.underlying42 rfl (by kernel_rfl)) rfl ⟨HB4.out, ?_⟩
          rw [HST.out.trans (show (numsS ws).bind _ = some ⟨3, mg0 0, x, 0⟩ from by rw [HNS.out]; rfl)]
          exact ⟨.slice none 0 0, rfl, ⟨Its.nil _ _, rfl, by simp [mg0]⟩, fun b hb => by simp [Value.ownBlock] at hb⟩
        · obtain ⟨Al, cl, rfl, -, -⟩ := own_slice ho3
          clear ho3
          have hl1 : ¬ ((r.length : Int) + 1 + 1 = 1) := by omega
          have hl2 : ¬ (r.length + 1 + 1 = 1) := by omega
          go_upto_region 16 with fail
          repeat (first | (refine wpList_storeG 42 (cs := zsA) (by kernel_rfl) rfl rfl rfl rfl (by simp [Value.oneCell', zsA]) HZ3.out rfl ?_; intro w4 hbe hot hk4) | go_step)
          refine Mark.intro ?_
          have HB4 := Lib.hid (hbe w (by rw [HG.out]; exact Nat.le_refl _) (HB.out.trans (HB3.out.mono HB.out.size)))
          have HK4 := Lib.hid hk4
          clear hbe hot hk4
          go_wp2_with fail
          refine bodyPost_ret (ret_cell2 rfl rfl HK4.out Try.underlying42 rfl (by kernel_rfl)) rfl ⟨HB4.out, ?_⟩
          rw [HST.out.trans (show (numsS ws).bind _ = none from by rw [HNS.out]; rcases r with _ | ⟨z, r⟩ <;> rfl)]
          exact ⟨zsA, rfl, rfl, by simp [Value.oneCell', zsA]⟩
      by_cases hcr : q.data.toList = crashL
      · obtain rfl := lit_of hcr
        clear hcr hf ht
        rcases l with _ | ⟨x, _ | ⟨y, _ | ⟨z, r⟩⟩⟩
        · obtain ⟨Al, cl, rfl, -, -⟩ := own_slice ho3
          clear ho3
          go_upto_region 16 with fail
          repeat (first | (refine wpList_storeG 42 (cs := zsA) (by kernel_rfl) rfl rfl rfl rfl (by simp [Value.oneCell', zsA]) HZ3.out rfl ?_; intro w4 hbe hot hk4) | go_step)
          refine Mark.intro ?_
          have HB4 := Lib.hid (hbe w (by rw [HG.out]; exact Nat.le_refl _) (HB.out.trans (HB3.out.mono HB.out.size)))
          have HK4 := Lib.hid hk4
          clear hbe hot hk4
          go_wp2_with fail
          refine bodyPost_ret (ret_cell2 rfl rfl HK4.out Try.underlying42 rfl (by kernel_rfl)) rfl ⟨HB4.out, ?_⟩
          rw [HST.out.trans (show (numsS ws).bind _ = none from by rw [HNS.out]; rfl)]
          exact ⟨zsA, rfl, rfl, by simp [Value.oneCell', zsA]⟩
        · obtain ⟨gl, cl, rfl, cx⟩ := own1 ho3
          clear ho3
          go_upto_region 13 with fail
          repeat (first | (refine wpList_storeG 42 (cs := sc ⟨4, mg0 0, x, -1⟩ (.slice none 0 0)) (by kernel_rfl) rfl rfl rfl rfl (by simp [Value.oneCell', sc, mg0]) HZ3.out rfl ?_; intro w4 hbe hot hk4) | go_step)
          refine Mark.intro ?_
          have HB4 := Lib.hid (hbe w (by rw [HG.out]; exact Nat.le_refl _) (HB.out.trans (HB3.out.mono HB.out.size)))
          have HK4 := Lib.hid hk4
          clear hbe hot hk4
          go_wp2_with fail
          refine bodyPost_ret (ret_cell2 rfl rfl HK4.out Try.underlying42 rfl (by kernel_rfl)) rfl ⟨HB4.out, ?_⟩
          rw [HST.out.trans (show (numsS ws).bind _ = some ⟨4, mg0 0, x, -1⟩ from by rw [HNS.out]; rfl)]
          exact ⟨.slice none 0 0, rfl, ⟨Its.nil _ _, rfl, by simp [mg0]⟩, fun b hb => by simp [Value.ownBlock] at hb⟩
        · obtain ⟨gl, cl, rfl, hBl, hll, cx, cy⟩ := own2 ho3
          clear ho3
          go_upto_region 15 with fail
          have HGL := Lib.hid (show gl < w3.drew.heap.size ∧ gl ≠ g from ⟨hll, by have := HZ.out.lt; omega⟩)
          have HS := (show w3.drew.cell? ⟨gl, 0, none⟩ = some (.int .i64 x) ∧ w3.drew.cell? ⟨gl, 1, none⟩ = some (.int .i64 y) ∧ Below w.heap.size w w3.drew ∧ ∃ zs, Blk w3.drew g 42 zs ∧ zs.size = 12 from ⟨cx, cy, (HB.out.trans (HB3.out.mono HB.out.size)).drew, zsA, HZ3.out, rfl⟩)
          clear cx cy hBl hll
          refine wp_region_noPanic ?_
          refine wp_region_held_drew (S := fun wa => wa.cell? ⟨gl, 0, none⟩ = some (.int .i64 x) ∧ wa.cell? ⟨gl, 1, none⟩ = some (.int .i64 y) ∧ Below w.heap.size w wa ∧ ∃ zs, Blk wa g 42 zs ∧ zs.size = 12) (by kernel_rfl) HS (fun hHeld => ?_)
          refine wpAnyH_take (i := 0) (oi := ?oir1) (v := ?vr1) ?hir1 (by kernel_rfl) (by kernel_rfl) (by kernel_rfl) (fun _ _ _ h => h) ?hyr1 HS ?restr1
          case hir1 => (simp only [List.getElem?_toArray, List.getElem?_cons_zero]; try rfl)
          case hyr1 => (refine Or.inl ⟨by rfl, ?_⟩; intro w hSw; go_simp; (try with_reducible rfl))
          try simp only [Act.put, List.setIfInBounds_toArray, List.set_cons_zero, List.set_cons_succ]
          refine wpAnyH_take (i := 1) (oi := ?oir2) (v := ?vr2) ?hir2 (by kernel_rfl) (by kernel_rfl) (by kernel_rfl) (fun _ _ _ h => h) ?hyr2 HS ?restr2
          case hir2 => (simp only [List.getElem?_toArray, List.getElem?_cons_succ, List.getElem?_cons_zero]; try rfl)
          case hyr2 => (refine Or.inl ⟨by rfl, ?_⟩; intro w hSw; go_simp; (try with_reducible rfl))
          try simp only [Act.put, List.setIfInBounds_toArray, List.set_cons_zero, List.set_cons_succ]
          refine wpAnyH_take (i := 2) (oi := ?oir3) (v := ?vr3) ?hir3 (by kernel_rfl) (by kernel_rfl) (by kernel_rfl) (fun _ _ _ h => h) ?hyr3 HS ?restr3
          case hir3 => (simp only [List.getElem?_toArray, List.getElem?_cons_succ, List.getElem?_cons_zero]; try rfl)
          case hyr3 => (refine Or.inl ⟨by rfl, ?_⟩; intro w hSw; have q := hSw.1; go_simp; (try with_reducible rfl))
          try simp only [Act.put, List.setIfInBounds_toArray, List.set_cons_zero, List.set_cons_succ]
          refine wpAnyH_take (i := 3) (oi := ?oir4) (v := ?vr4) ?hir4 (by kernel_rfl) (by kernel_rfl) (by kernel_rfl) (fun _ _ _ h => h) ?hyr4 HS ?restr4
          case hir4 => (simp only [List.getElem?_toArray, List.getElem?_cons_succ, List.getElem?_cons_zero]; try rfl)
          case hyr4 => (refine Or.inl ⟨by rfl, ?_⟩; intro w hSw; go_simp; (try with_reducible rfl))
          try simp only [Act.put, List.setIfInBounds_toArray, List.set_cons_zero, List.set_cons_succ]
          refine wpAnyH_take (i := 4) (oi := ?oir5) (v := ?vr5) ?hir5 (by kernel_rfl) (by kernel_rfl) (by kernel_rfl) (fun _ _ _ h => h) ?hyr5 HS ?restr5
          case hir5 => (simp only [List.getElem?_toArray, List.getElem?_cons_succ, List.getElem?_cons_zero]; try rfl)
          case hyr5 => (refine Or.inl ⟨by rfl, ?_⟩; intro w hSw; go_simp; (try with_reducible rfl))
          try simp only [Act.put, List.setIfInBounds_toArray, List.set_cons_zero, List.set_cons_succ]
          refine wpAnyH_take (i := 5) (oi := ?oir6) (v := ?vr6) ?hir6 (by kernel_rfl) (by kernel_rfl) (by kernel_rfl) (fun _ _ _ h => h) ?hyr6 HS ?restr6
          case hir6 => (simp only [List.getElem?_toArray, List.getElem?_cons_succ, List.getElem?_cons_zero]; try rfl)
          case hyr6 => (refine Or.inl ⟨by rfl, ?_⟩; intro w hSw; have q := hSw.2.1; go_simp; (try with_reducible rfl))
          try simp only [Act.put, List.setIfInBounds_toArray, List.set_cons_zero, List.set_cons_succ]
          refine wpAnyH_take (i := 6) (oi := ?oir7) (v := ?vr7) ?hir7 (by kernel_rfl) (by kernel_rfl) (by kernel_rfl) (fun _ _ _ h => h) ?hyr7 HS ?restr7
          case hir7 => (simp only [List.getElem?_toArray, List.getElem?_cons_succ, List.getElem?_cons_zero]; try rfl)
          case hyr7 => (refine Or.inl ⟨by rfl, ?_⟩; intro w hSw; go_simp; (try with_reducible rfl))
          try simp only [Act.put, List.setIfInBounds_toArray, List.set_cons_zero, List.set_cons_succ]
          refine wpAnyH_ready (rs := [7]) (by kernel_rfl) (by simp) ?_
          refine AllReadyH.cons (o := ?oir8) ?hir8 (fun K hK => ?str8) AllReadyH.nil
          case hir8 => (simp only [List.getElem?_toArray, List.getElem?_cons_succ, List.getElem?_cons_zero]; try rfl)
          refine storeG 42 (cs := sc ⟨4, mg0 0, x, y⟩ (.slice none 0 0)) (by kernel_rfl) rfl rfl (by simp [Act.eval]; done) (by simp [Act.eval, sc, mg0, nob]; done) (by simp [Value.oneCell', sc, mg0]) HS.2.2.2.choose_spec.1 HS.2.2.2.choose_spec.2 ?_
          intro w6 hbe hot hzz
          try dsimp only
          have HS6 := (show w6.cell? ⟨gl, 0, none⟩ = some (.int .i64 x) ∧ w6.cell? ⟨gl, 1, none⟩ = some (.int .i64 y) ∧ Below w.heap.size w w6 ∧ ∃ zs, Blk w6 g 42 zs ∧ zs.size = 12 from ⟨(keep_cell (hot gl HGL.out.1 HGL.out.2)).trans HS.1, (keep_cell (hot gl HGL.out.1 HGL.out.2)).trans HS.2.1, hbe w (by rw [HG.out]; exact Nat.le_refl _) HS.2.2.1, _, hzz, rfl⟩)
          refine hK.out _ _ HS6 (fun _ => ?rsr8)
          clear hK K
          try simp only [Act.put]
          refine wpAnyH_take (i := 8) (oi := ?oir9) (v := ?vr9) ?hir9 (by kernel_rfl) (by kernel_rfl) (by kernel_rfl) (fun _ _ _ h => h) ?hyr9 HS6 ?restr9
          case hir9 => (simp only [List.getElem?_toArray, List.getElem?_cons_succ, List.getElem?_cons_zero]; try rfl)
          case hyr9 => (refine Or.inl ⟨by rfl, ?_⟩; intro w hSw; go_simp; (try with_reducible rfl))
          try simp only [Act.put, List.setIfInBounds_toArray, List.set_cons_zero, List.set_cons_succ]
          refine wpAnyH_done (by kernel_rfl) ?_ _
          refine NoPanic.normal ?_
          go_wp2_with fail
          refine bodyPost_ret (ret_cell2 rfl rfl hzz Try.underlying42 rfl (by kernel_rfl)) rfl ⟨HS6.2.2.1, ?_⟩
          rw [HST.out.trans (show (numsS ws).bind _ = some ⟨4, mg0 0, x, y⟩ from by rw [HNS.out]; rfl)]
          exact ⟨.slice none 0 0, rfl, ⟨Its.nil _ _, rfl, by simp [mg0]⟩, fun b hb => by simp [Value.ownBlock] at hb⟩
        · obtain ⟨Al, cl, rfl, -, -⟩ := own_slice ho3
          clear ho3
          have hl1 : ¬ ((r.length : Int) + 1 + 1 + 1 = 1) := by omega
          have hl2 : ¬ ((r.length : Int) + 1 + 1 + 1 = 2) := by omega
          have hl3 : ¬ (r.length + 1 + 1 + 1 = 1) := by omega
          have hl4 : ¬ (r.length + 1 + 1 + 1 = 2) := by omega
          go_upto_region 16 with fail
          repeat (first | (refine wpList_storeG 42 (cs := zsA) (by kernel_rfl) rfl rfl rfl rfl (by simp [Value.oneCell', zsA]) HZ3.out rfl ?_; intro w4 hbe hot hk4) | go_step)
          refine Mark.intro ?_
          have HB4 := Lib.hid (hbe w (by rw [HG.out]; exact Nat.le_refl _) (HB.out.trans (HB3.out.mono HB.out.size)))
          have HK4 := Lib.hid hk4
          clear hbe hot hk4
          go_wp2_with fail
          refine bodyPost_ret (ret_cell2 rfl rfl HK4.out Try.underlying42 rfl (by kernel_rfl)) rfl ⟨HB4.out, ?_⟩
          rw [HST.out.trans (show (numsS ws).bind _ = none from by rw [HNS.out]; rfl)]
          exact ⟨zsA, rfl, rfl, by simp [Value.oneCell', zsA]⟩
      · have n1 : ¬ q.toList = [116, 105, 99, 107] := by rw [ByteArray.toList_eq]; exact ht
        have n2 : ¬ q.toList = [102, 117, 115, 101] := by rw [ByteArray.toList_eq]; exact hf
        have n3 : ¬ q.toList = [99, 114, 97, 115, 104] := by rw [ByteArray.toList_eq]; exact hcr
        have HT := Lib.hid ht
        have HF := Lib.hid hf
        have HC := Lib.hid hcr
        clear ht hf hcr
        obtain ⟨Al, cl, rfl, -, -⟩ := own_slice ho3
        clear ho3
        go_upto_region 16 with fail
        repeat (first | (refine wpList_storeG 42 (cs := zsA) (by kernel_rfl) rfl rfl rfl rfl (by simp [Value.oneCell', zsA]) HZ3.out rfl ?_; intro w4 hbe hot hk4) | go_step)
        refine Mark.intro ?_
        have HB4 := Lib.hid (hbe w (by rw [HG.out]; exact Nat.le_refl _) (HB.out.trans (HB3.out.mono HB.out.size)))
        have HK4 := Lib.hid hk4
        clear hbe hot hk4
        go_wp2_with fail
        refine bodyPost_ret (ret_cell2 rfl rfl HK4.out Try.underlying42 rfl (by kernel_rfl)) rfl ⟨HB4.out, ?_⟩
        rw [HST.out.trans (show (numsS ws).bind _ = none from by rw [HNS.out]; exact actS_no HT.out HF.out HC.out l)]
        exact ⟨zsA, rfl, rfl, by simp [Value.oneCell', zsA]⟩
  · have hK1 : 1 ≤ K := by omega
    have hKi : ((K : Int) != 0) = true := by simp; omega
    have HST := Lib.hid (show stepS q ws = (msgS K ws).map fun m => ⟨1, m, 0, 0⟩ by unfold stepS; rw [← HK.out, if_pos h0])
    have hPM := parseMessage_any K hK1 hle Ad c ws W hm hc hqs hws
    rw [← hn] at hPM hm ⊢
    clear h0 hle hws hn hqs HK hK1
    cases hns : msgS K ws with
    | none =>
      have HNS := Lib.hid hns
      clear hns
      go_enter Try.func15, Try.ntmps15
      go_upto_region 1 with fail
      rw [show w.alloc (.cells #[.int .i64 0, .int .i64 0, .string ⟨#[]⟩, .string ⟨#[]⟩, .string ⟨#[]⟩, .int .i64 0, .int .i64 0, .int .i64 0, .int .i64 0, .slice none 0 0, .int .i64 0, .int .i64 0] 42) = W from HW.out.symm, ← HG.out]
      clear HW
      go_upto_region 3 with (first | (go_at_call 24; refine (hKk _).mono ?_; rintro e w2 ⟨rfl, rfl⟩))
      repeat (first | (go_at_call 25; refine hPM.mono ?_; rintro e w3 ⟨hb3, hp3⟩; rw [HNS.out] at hp3; obtain rfl := hp3; have HB3 := Lib.hid hb3; clear hb3 hPM; try dsimp only) | (refine wpList_storeG 40 (cs := zs9) (by kernel_rfl) rfl rfl rfl rfl (by simp [Value.oneCell', zs9]) (Blk.new w3 40 zs9) rfl ?_; intro w5 hbe5 hot5 hk5) | go_step)
      refine Mark.intro ?_
      have hb5 : Below w3.heap.size w3 w5 := hbe5 w3 (Nat.le_refl _) ((Below.refl _ _).alloc (Nat.le_refl _) _)
      have HB5 := Lib.hid ((HB.out.trans (HB3.out.mono HB.out.size)).trans (hb5.mono (HB.out.trans (HB3.out.mono HB.out.size)).size))
      have hz3 := HZ.out.below HB3.out HZ.out.lt
      have HZ5 := Lib.hid (hz3.below hb5 hz3.lt)
      obtain ⟨g7, hg7⟩ : ∃ g, g = w3.heap.size := ⟨_, rfl⟩
      rw [← hg7] at hk5 ⊢
      have HGN := Lib.hid (show g < g7 by rw [hg7]; exact hz3.lt)
      clear hbe5 hot5 hb5 hz3 hg7
      have a0 : w5.cell? ⟨g7, 0, none⟩ = some (.int .i64 0) := hk5.cell 0
      have a1 : w5.cell? ⟨g7, 1, none⟩ = some (.string ⟨#[]⟩) := hk5.cell 1
      have a2 : w5.cell? ⟨g7, 2, none⟩ = some (.string ⟨#[]⟩) := hk5.cell 2
      have a3 : w5.cell? ⟨g7, 3, none⟩ = some (.string ⟨#[]⟩) := hk5.cell 3
      have a4 : w5.cell? ⟨g7, 4, none⟩ = some (.int .i64 0) := hk5.cell 4
      have a5 : w5.cell? ⟨g7, 5, none⟩ = some (.int .i64 0) := hk5.cell 5
      have a6 : w5.cell? ⟨g7, 6, none⟩ = some (.int .i64 0) := hk5.cell 6
      have a7 : w5.cell? ⟨g7, 7, none⟩ = some (.int .i64 0) := hk5.cell 7
      have a8 : w5.cell? ⟨g7, 8, none⟩ = some (.slice none 0 0) := hk5.cell 8
      clear hk5
      go_upto_region 4 with fail
      repeat (first | (refine wpList_storeG 42 (cs := #[.int .i64 1, .int .i64 0, .string ⟨#[]⟩, .string ⟨#[]⟩, .string ⟨#[]⟩, .int .i64 0, .int .i64 0, .int .i64 0, .int .i64 0, .slice none 0 0, .int .i64 0, .int .i64 0]) (by kernel_rfl) rfl rfl rfl rfl (by simp [Value.oneCell']) HZ5.out rfl ?_; intro w6 hbe hot hk6) | go_step)
      refine Mark.intro ?_
      have HB6 := Lib.hid (hbe w (by rw [HG.out]; exact Nat.le_refl _) HB5.out)
      have HK6 := Lib.hid hk6
      clear hbe hot hk6
      go_wp2_with fail
      refine bodyPost_ret (ret_cell2 rfl rfl HK6.out Try.underlying42 rfl (by kernel_rfl)) rfl ⟨HB6.out, ?_⟩
      rw [HST.out.trans (show (msgS K ws).map _ = none from by rw [HNS.out]; rfl)]
      exact ⟨_, rfl, rfl, by simp [Value.oneCell']⟩
    | some m =>
      have HNS := Lib.hid hns
      clear hns
      go_enter Try.func15, Try.ntmps15
      go_upto_region 1 with fail
      rw [show w.alloc (.cells #[.int .i64 0, .int .i64 0, .string ⟨#[]⟩, .string ⟨#[]⟩, .string ⟨#[]⟩, .int .i64 0, .int .i64 0, .int .i64 0, .int .i64 0, .slice none 0 0, .int .i64 0, .int .i64 0] 42) = W from HW.out.symm, ← HG.out]
      clear HW
      go_upto_region 3 with (first | (go_at_call 24; refine (hKk _).mono ?_; rintro e w2 ⟨rfl, rfl⟩))
      repeat (first | (go_at_call 25; refine hPM.mono ?_; rintro e w3 ⟨hb3, hp3⟩; rw [HNS.out] at hp3; obtain ⟨v, rfl, hp, hfil, hvb⟩ := hp3; have HVB := Lib.hid hvb; have HP := Lib.hid hp; have hv1 := hp.one; clear hp hfil; have HB3 := Lib.hid hb3; clear hb3 hPM; try dsimp only) | (refine wpList_storeG 40 (cs := mc m v) (by kernel_rfl) rfl rfl rfl rfl (mc_one hv1) (Blk.new w3 40 zs9) rfl ?_; intro w5 hbe5 hot5 hk5) | go_step)
      refine Mark.intro ?_
      have hb5 : Below w3.heap.size w3 w5 := hbe5 w3 (Nat.le_refl _) ((Below.refl _ _).alloc (Nat.le_refl _) _)
      have HB5 := Lib.hid ((HB.out.trans (HB3.out.mono HB.out.size)).trans (hb5.mono (HB.out.trans (HB3.out.mono HB.out.size)).size))
      have hz3 := HZ.out.below HB3.out HZ.out.lt
      have HZ5 := Lib.hid (hz3.below hb5 hz3.lt)
      obtain ⟨g7, hg7⟩ : ∃ g, g = w3.heap.size := ⟨_, rfl⟩
      rw [← hg7] at hk5 ⊢
      have HGN := Lib.hid (show g < g7 by rw [hg7]; exact hz3.lt)
      have HP5 := Lib.hid (HP.out.its.below hb5)
      have HPL := Lib.hid HP.out.hI
      obtain ⟨a0, a1, a2, a3, a4, a5, a6, a7, a8⟩ := cells9 hk5
      have HL5 := Lib.hid hk5.lt
      clear hbe5 hot5 hb5 hz3 hg7 hk5
      go_upto_region 4 with fail
      repeat (first | (refine wpList_storeG 42 (cs := sc ⟨1, m, 0, 0⟩ v) (by kernel_rfl) rfl rfl rfl rfl (sc_one hv1) HZ5.out rfl ?_; intro w6 hbe hot hk6) | go_step)
      refine Mark.intro ?_
      have HB6 := Lib.hid (hbe w (by rw [HG.out]; exact Nat.le_refl _) HB5.out)
      have HK6 := Lib.hid hk6
      have HSZ := Lib.hid (size_of_keep hot (by have := HGN.out; have := HL5.out; omega))
      have HP6 := Lib.hid (show Its pw w6 v m.I from HP5.out.keep HSZ.out (fun b hb hlt => hot b hlt (by have := HVB.out b hb; have := HZ.out.lt; omega)))
      clear hbe hot hk6
      go_wp2_with fail
      refine bodyPost_ret (ret_cell2 rfl rfl HK6.out Try.underlying42 rfl (by kernel_rfl)) rfl ⟨HB6.out, ?_⟩
      rw [HST.out.trans (show (msgS K ws).map _ = some ⟨1, m, 0, 0⟩ from by rw [HNS.out]; rfl)]
      exact ⟨v, rfl, ⟨HP6.out, hv1, HPL.out⟩, fun b hb => by have := HVB.out b hb; have := HB.out.size; omega⟩
end Go.Proofs.Ytfbedlhigggggaa.Sp
namespace Go.Proofs.Ytfbedlhigggggaa
open Go.ChangeShapes Go.WideShapes Go.ChangeAt Go.RowKit

/-- As Q; by a goto to a label of R: J at that label; by any other goto: no way out. -/
def jumpM (R : Nat → Option Code) (J : Nat → Act → World → Prop) (Q : Exit → Act → World → Prop) : Exit → Act → World → Prop
  | .goto l, a, w => (∃ rest, R l = some rest) ∧ J l a w
  | e, a, w => Q e a w

theorem wp_scope_multi {P : Program} {a : Act} {w : World} {Q : Exit → Act → World → Prop} {c : Code} (R : Nat → Option Code) (J : Nat → Act → World → Prop) (μ : Nat → Act → World → Nat)
    (hf : ∀ l rest, R l = some rest → findLabel c l = some rest)
    (first : c.wp P (jumpM R J Q) a w)
    (pass : ∀ l rest a w, R l = some rest → J l a w → rest.wp P (jumpM R (fun l' a' w' => J l' a' w' ∧ μ l' a' w' < μ l a w) Q) a w) : (Code.scope c).wp P Q a w := by
  intro b k cs
  have hg : ∀ l rest, R l = some rest → gotoIn l (.inScope c :: k) = some (.code rest :: .inScope c :: k) := fun l rest h => by simp [gotoIn, hf l rest h]
  have key : ∀ n l rest a w, μ l a w = n → R l = some rest → J l a w → ∃ e a' w', Q e a' w' ∧ Arrives P (lone (b.at a (.code rest :: .inScope c :: k)) cs w) b k cs e a' w' := by
    intro n
    induction n using Nat.strongRecOn with
    | _ n ih =>
      intro l rest a w hn hR hJ
      obtain ⟨e, a₁, w₁, hq, harr⟩ := pass l rest a w hR hJ b (.inScope c :: k) cs
      cases e with
      | normal => exact ⟨.normal, a₁, w₁, hq, Steps.trans harr (.one step_inScope)⟩
      | exit id => exact ⟨.exit id, a₁, w₁, hq, fun k' hk => harr k' (by simp [exitTo, hk])⟩
      | goto l' =>
        obtain ⟨⟨rest', hR'⟩, hJ', hlt⟩ := hq
        obtain ⟨e₂, a₂, w₂, hq₂, harr₂⟩ := ih _ (by omega) l' rest' a₁ w₁ rfl hR' hJ'
        exact ⟨e₂, a₂, w₂, hq₂, .of_steps (harr _ (hg l' rest' hR')) harr₂⟩
      | ret => exact ⟨_, a₁, w₁, hq, harr⟩
      | panic ch => exact ⟨_, a₁, w₁, hq, harr⟩
      | outgrown => exact ⟨_, a₁, w₁, hq, harr⟩
  obtain ⟨e, a₁, w₁, hq, harr⟩ := first b (.inScope c :: k) cs
  cases e with
  | normal => exact ⟨.normal, a₁, w₁, hq, .head step_scope (Steps.trans harr (.one step_inScope))⟩
  | exit id => exact ⟨.exit id, a₁, w₁, hq, fun k' hk => .head step_scope (harr k' (by simp [exitTo, hk]))⟩
  | goto l' =>
    obtain ⟨⟨rest', hR'⟩, hJ'⟩ := hq
    obtain ⟨e₂, a₂, w₂, hq₂, harr₂⟩ := key _ l' rest' a₁ w₁ rfl hR' hJ'
    exact ⟨e₂, a₂, w₂, hq₂, .of_steps (.head step_scope (harr _ (hg l' rest' hR'))) harr₂⟩
  | ret => exact ⟨_, a₁, w₁, hq, .of_steps (.one step_scope) harr⟩
  | panic ch => exact ⟨_, a₁, w₁, hq, .of_steps (.one step_scope) harr⟩
  | outgrown => exact ⟨_, a₁, w₁, hq, .of_steps (.one step_scope) harr⟩
theorem wp_scope_labels {P : Program} {a : Act} {w : World} {Q : Exit → Act → World → Prop} {c : Code} (ls : Nat → Bool) (J : Nat → Act → World → Prop) (μ : Nat → Act → World → Nat)
    (first : c.wp P (jumpM (fun l => if ls l = true then findLabel c l else none) J Q) a w)
    (pass : ∀ l rest a w, ls l = true → findLabel c l = some rest → J l a w → rest.wp P (jumpM (fun l => if ls l = true then findLabel c l else none) (fun l' a' w' => J l' a' w' ∧ μ l' a' w' < μ l a w) Q) a w) : (Code.scope c).wp P Q a w :=
  wp_scope_multi (fun l => if ls l = true then findLabel c l else none) J μ
    (fun l rest h => by
      by_cases hl : ls l = true
      · simpa [hl] using h
      · simp [hl] at h)
    first
    (fun l rest a w h hJ => by
      by_cases hl : ls l = true
      · exact pass l rest a w hl (by simpa [hl] using h) hJ
      · simp [hl] at h)
theorem jumpM_mono {R : Nat → Option Code} {J J' : Nat → Act → World → Prop} {Q : Exit → Act → World → Prop} (h : ∀ l a w, J l a w → J' l a w) : ∀ e a w, jumpM R J Q e a w → jumpM R J' Q e a w := by
  intro e a w q
  cases e with
  | goto l => exact ⟨q.1, h l a w q.2⟩
  | _ => exact q
/-- The same; the first way into the scope may run on into a label: a pass from there is given to it. -/
theorem wp_scope_into {P : Program} {a : Act} {w : World} {Q : Exit → Act → World → Prop} {c : Code} (ls : Nat → Bool) (J : Nat → Act → World → Prop) (μ : Nat → Act → World → Nat)
    (first : (∀ l rest a w, ls l = true → findLabel c l = some rest → J l a w → rest.wp P (jumpM (fun l => if ls l = true then findLabel c l else none) J Q) a w) → c.wp P (jumpM (fun l => if ls l = true then findLabel c l else none) J Q) a w)
    (pass : ∀ l rest a w, ls l = true → findLabel c l = some rest → J l a w → rest.wp P (jumpM (fun l => if ls l = true then findLabel c l else none) (fun l' a' w' => J l' a' w' ∧ μ l' a' w' < μ l a w) Q) a w) : (Code.scope c).wp P Q a w :=
  wp_scope_labels ls J μ (first (fun l rest a w h1 h2 h3 => Go.Code.wp_mono (jumpM_mono (fun _ _ _ q => q.1)) (pass l rest a w h1 h2 h3))) pass
/-- The same; every label's rest is a no-op and then a code: of that code alone, as the way that falls into the label needs it. -/
theorem wp_scope_falls {P : Program} {a : Act} {w : World} {Q : Exit → Act → World → Prop} {c : Code} (ls : Nat → Bool) (J : Nat → Act → World → Prop) (μ : Nat → Act → World → Nat)
    (hs : ∀ l rest, ls l = true → findLabel c l = some rest → ∃ x, rest = Code.seq .skip x)
    (first : (∀ l x a w, ls l = true → findLabel c l = some (Code.seq .skip x) → J l a w → x.wp P (jumpM (fun l => if ls l = true then findLabel c l else none) J Q) a w) → c.wp P (jumpM (fun l => if ls l = true then findLabel c l else none) J Q) a w)
    (pass : ∀ l x a w, ls l = true → findLabel c l = some (Code.seq .skip x) → J l a w → x.wp P (jumpM (fun l => if ls l = true then findLabel c l else none) (fun l' a' w' => J l' a' w' ∧ μ l' a' w' < μ l a w) Q) a w) : (Code.scope c).wp P Q a w :=
  wp_scope_labels ls J μ (first (fun l x a w h1 h2 h3 => Go.Code.wp_mono (jumpM_mono (fun _ _ _ q => q.1)) (pass l x a w h1 h2 h3)))
    (fun l rest a w h1 h2 h3 => by
      obtain ⟨x, rfl⟩ := hs l rest h1 h2
      exact wp_seq (wp_skip (pass l x a w h1 h2 h3)))
end Go.Proofs.Ytfbedlhigggggaa
namespace Go.Proofs.Ytfbedlhigggggaa.Sp
open Go Go.RowKit Go.Lib Go.Proofs.Ytfbedlhigggggaa Go.Proofs.Ytfbedlhigggggaa.Crw Go.Proofs.Ytfbedlhigggggaa.Vl Go.ChangeShapes Go.WideShapes Go.ChangeAt
set_option linter.unusedVariables false
set_option maxRecDepth 100000
theorem jumpM_ret {R : Nat → Option Code} {J : Nat → Act → World → Prop} {Q : Exit → Act → World → Prop} : jumpM R J Q .ret = Q .ret := rfl
abbrev Sv := Stp × Value
def stsV (l : List Sv) : List Value := l.flatMap fun p => (sc p.1 p.2).toList
theorem stsV_snoc (l : List Sv) (p : Sv) : stsV (l ++ [p]) = stsV l ++ (sc p.1 p.2).toList := by simp [stsV]
theorem parse_u (q : ByteArray) (ws : List ByteArray) (Ad : Option Addr) (n c : Nat) (w : World) (hn : n = ws.length) (hm : n ≤ c) (hc : c ≤ 1001) (hqs : ∀ x ∈ ws, x.size ≤ 1000) (hs : Ws w Ad ws) :
    Calls Try.prog 15 #[.string q, .slice Ad n c] w fun e w' => ∃ cs ok, e = .returned (.tuple #[.agg cs, .bool ok]) ∧ cs.size = 12 ∧ cs.all (·.oneCell') = true ∧ Below w.heap.size w w' ∧ match stepS q ws with
      | some x => ok = true ∧ ∃ v, cs = sc x v ∧ StpP w' x v ∧ (∀ b, v.ownBlock = some b → w.heap.size ≤ b)
      | none => ok = false := by
  subst hn
  refine (parse_any q ws Ad c w hm hc hqs hs).mono ?_
  rintro e w' ⟨h1, h2⟩
  cases hx : stepS q ws with
  | none =>
    rw [hx] at h2
    obtain ⟨cs, rfl, h3, h4⟩ := h2
    exact ⟨cs, false, rfl, h3, h4, h1, rfl⟩
  | some x =>
    rw [hx] at h2
    obtain ⟨v, rfl, h3, h4⟩ := h2
    exact ⟨_, true, rfl, rfl, sc_one h3.2.1, h1, rfl, v, rfl, h3, h4⟩
theorem vol_store {g : Nat} {w3 w5 w6 : World} (h : Vol (fun b => b = g) w3 w5) (hbe : ∀ wd : World, wd.heap.size ≤ g → Below wd.heap.size wd w5 → Below wd.heap.size wd w6) (hot : ∀ b, b < w5.heap.size → b ≠ g → w6.heap[b]? = w5.heap[b]?) (hg : g + 1 < w5.heap.size) (hg' : g < w5.heap.size) : Vol (fun b => b = g) w3 w6 := by
  have hs := size_of_keep hot hg
  have h0 := hbe { w5 with heap := #[] } (Nat.zero_le _) ⟨rfl, rfl, rfl, Nat.zero_le _, fun b hb => absurd hb (Nat.not_lt_zero _)⟩
  exact ⟨h0.os.trans h.os, h0.tape.trans h.tape, h0.output.trans h.output, Nat.le_trans h.size hs, fun b hb hne => (hot b (Nat.lt_of_lt_of_le hb h.size) hne).trans (h.block b hb hne)⟩
def sts (xs : List Sv) : List Stp := xs.map fun p => p.1
theorem sts_snoc (xs : List Sv) (p : Sv) : sts (xs ++ [p]) = sts xs ++ [p.1] := by simp [sts]
def moreN : Value → Nat
  | .bool true => 1
  | _ => 0
def sizeV : Value → Nat
  | .string s => s.size
  | _ => 0
theorem Its.keepN {φ : Itm → Nat × Nat} {w w' : World} {v : Value} {l : List Itm} (h : Its φ w v l) (hs : w.heap.size ≤ w'.heap.size) (hk : l ≠ [] → ∀ g, v.ownBlock = some g → g < w.heap.size → w'.heap[g]? = w.heap[g]?) : Its φ w' v l := by
  by_cases hne : l = []
  · obtain ⟨A, c, rfl, h2⟩ := h
    exact ⟨A, c, rfl, fun hn => absurd hne hn⟩
  · exact h.keep hs (hk hne)
theorem Its.lt {φ : Itm → Nat × Nat} {w : World} {v : Value} {l : List Itm} (h : Its φ w v l) (hne : l ≠ []) : ∀ b, v.ownBlock = some b → b < w.heap.size := by
  obtain ⟨A, c, rfl, h2⟩ := h
  obtain ⟨g, rfl, hg, _⟩ := h2 hne
  intro b hb
  injection hb with hb
  subst hb
  exact hg
/-- What is known of a step in memory. -/
def StpF (φ : Itm → Nat × Nat) (w : World) (x : Stp) (v : Value) : Prop := Its φ w v x.m.I ∧ v.oneCell' = true ∧ x.m.I.length ≤ 1001
theorem StpF.keepN {φ : Itm → Nat × Nat} {w w' : World} {x : Stp} {v : Value} (h : StpF φ w x v) (hs : w.heap.size ≤ w'.heap.size) (hk : x.m.I ≠ [] → ∀ g, v.ownBlock = some g → g < w.heap.size → w'.heap[g]? = w.heap[g]?) : StpF φ w' x v := ⟨h.1.keepN hs hk, h.2⟩
/-- The steps so far. -/
structure StsP (φ : Itm → Nat × Nat) (w : World) (g : Nat) (lv : Value) (xs : List Sv) : Prop where
  own : w.ownsRow (g + 1) 42 12 lv xs.length (stsV xs)
  stp : ∀ p ∈ xs, StpF φ w p.1 p.2
  far : ∀ p ∈ xs, p.1.m.I ≠ [] → ∀ b, p.2.ownBlock = some b → g < b ∧ b < w.heap.size ∧ lv.ownBlock ≠ some b
theorem StsP.vol {φ : Itm → Nat × Nat} {w w' : World} {g : Nat} {lv : Value} {xs : List Sv} (h : StsP φ w g lv xs) (hv : Vol (fun b => b = g) w w') : StsP φ w' g lv xs :=
  ⟨own_vol h.own hv (fun b hb e => by have := (h.own.lt b hb).1; omega), fun p hp => (h.stp p hp).keepN hv.size (fun hne b hb hlt => hv.block b hlt (by have := (h.far p hp hne b hb).1; omega)), fun p hp hne b hb => ⟨(h.far p hp hne b hb).1, Nat.lt_of_lt_of_le (h.far p hp hne b hb).2.1 hv.size, (h.far p hp hne b hb).2.2⟩⟩
theorem StsP.nil (φ : Itm → Nat × Nat) (w : World) (g : Nat) : StsP φ w g (.slice none 0 0) [] := ⟨World.ownsRow_nil _ _ _ _, by simp, by simp⟩
theorem StsP.push {φ : Itm → Nat × Nat} {w w1 : World} {o : Obj} {g : Nat} {lv v1 v : Value} {x : Stp} {xs : List Sv} (h : StsP φ w g lv xs) (hx : StpF φ w x v) (hxb : ∀ b, v.ownBlock = some b → g < b ∧ lv.ownBlock ≠ some b)
    (ho : w1.ownsRow (g + 1) 42 12 v1 (xs.length + 1) (stsV xs ++ (sc x v).toList)) (hg : (w.alloc o).grownBy w1 lv.ownBlock) (hn : v1.ownBlock = lv.ownBlock ∨ v1.ownBlock = some (w.alloc o).heap.size) : StsP φ w1 g v1 (xs ++ [(x, v)]) := by
  have hs1 : w.heap.size + 1 ≤ w1.heap.size := by have := hg.size; simpa using this
  have hk : ∀ b, b < w.heap.size → lv.ownBlock ≠ some b → w1.heap[b]? = w.heap[b]? := fun b hb hne => by
    rw [hg.block b (by simp; omega) (fun e => hne e.symm)]
    exact ((Below.refl w.heap.size w).alloc (Nat.le_refl _) o).block b hb
  have hnew : ∀ b, b < w.heap.size → lv.ownBlock ≠ some b → v1.ownBlock ≠ some b := fun b hb hne e => by
    rcases hn with hn | hn
    · rw [hn] at e; exact hne e
    · rw [hn] at e; injection e with e; simp at e; omega
  refine ⟨by rw [stsV_snoc, List.length_append]; exact ho, fun p hp => ?_, fun p hp hne b hb => ?_⟩
  · rcases List.mem_append.1 hp with hp | hp
    · exact (h.stp p hp).keepN (by omega) (fun hne b hb hlt => hk b hlt (h.far p hp hne b hb).2.2)
    · simp at hp
      subst hp
      exact hx.keepN (by omega) (fun hne b hb hlt => hk b hlt (hxb b hb).2)
  · rcases List.mem_append.1 hp with hp | hp
    · obtain ⟨h1, h2, h3⟩ := h.far p hp hne b hb
      exact ⟨h1, by omega, hnew b h2 h3⟩
    · simp at hp
      subst hp
      have h2 := hx.1.lt hne b hb
      obtain ⟨h1, h3⟩ := hxb b hb
      exact ⟨h1, by omega, hnew b h2 h3⟩
theorem step_infoP : (Try.prog.info? 42).map (fun i => (i.zero, i.size, i.bytes)) = some (some (.agg zsA), 12, 136) := by kernel_rfl
theorem sc_oneL {x : Stp} {v : Value} (hv : v.oneCell' = true) : ∀ u ∈ (sc x v).toList, u.oneCell' = true := by
  intro u hu
  have := sc_one (x := x) hv
  rw [← Array.all_toList, List.all_eq_true] at this
  exact this u hu
def PrPost (w : World) (l : List UInt8) (e : Ending) (w' : World) : Prop := Below w.heap.size w w' ∧ match prs l with
  | some L => ∃ v xs, e = .returned (.tuple #[v, .int .i64 0]) ∧ sts xs = L ∧ StsP pw w' w.heap.size v xs
  | none => e = .returned (.tuple #[.slice none 0 0, .int .i64 2])
def PrInv (w : World) (g : Nat) (s : ByteArray) (a' : Act) (w' : World) : Prop := ∃ (t : ByteArray) (more : Bool) (lv : Value) (xs : List Sv) (u1 u2 u3 u6 u7 u9 u10 u11 u12 u13 u14 u15 u16 u17 u18 u19 u20 u21 u22 u23 u24 u25 u26 u27 u28 u29 u30 u31 u32 u33 u34 u35 u36 u37 u38 : Value), a' = ⟨#[.string t, u1, u2, u3, lv, .pointer (some ⟨g, 0, none⟩), u6, u7, .bool more, u9, u10, u11, u12, u13, u14, u15, u16, u17, u18, u19, u20, u21, u22, u23, u24, u25, u26, u27, u28, u29, u30, u31, u32, u33, u34, u35, u36, u37, u38], []⟩ ∧ Hid (t.size ≤ 1000) ∧ Hid (StsP pw w' g lv xs) ∧ Hid (xs.length + t.size ≤ 1000 + (if more then 0 else 1)) ∧ Hid (∃ zs, Blk w' g 42 zs ∧ zs.size = 12) ∧ Hid (Below w.heap.size w w') ∧ Hid (prs s.data.toList = ((if more then prsL (lins t.data.toList) else some []).map fun r => sts xs ++ r))
def cutL (t : ByteArray) : ByteArray := if 0 ≤ indexByte t.data.toList 10 then t.extract 0 (indexByte t.data.toList 10).toNat else t
def cutT (t : ByteArray) : ByteArray := if 0 ≤ indexByte t.data.toList 10 then t.extract ((indexByte t.data.toList 10).toNat + 1) t.size else ⟨#[]⟩
def cutM (t : ByteArray) : Bool := decide (0 ≤ indexByte t.data.toList 10)
theorem Cut_u (t : ByteArray) (w : World) (ht : t.size ≤ 1000) : Calls Try.prog 13 #[.string t, .string ⟨#[10]⟩] w fun e w' => e = .returned (.tuple #[.string (cutL t), .string (cutT t), .bool (cutM t)]) ∧ ∃ n, w' = w.drewN n := by
  unfold cutL cutT cutM
  have h1 := ixB_lt t.data.toList
  by_cases h : 0 ≤ indexByte t.data.toList 10
  · simp only [h, if_true, decide_true]
    exact Cut_yes t w _ (by simp at h1; omega) ht (by omega)
  · simp only [h, if_false, decide_false]
    refine (Cut_no t w h).mono ?_
    rintro e w' ⟨rfl, rfl⟩
    exact ⟨rfl, 0, rfl⟩
theorem cut_facts (t : ByteArray) : lins t.data.toList = (cutL t).data.toList :: (if cutM t then lins (cutT t).data.toList else []) ∧ (cutL t).size ≤ t.size ∧ (cutM t = true → (cutT t).size < t.size) ∧ (cutM t = false → (cutT t).size = 0) := by
  have h1 := ixB_lt t.data.toList
  have hsz : t.data.toList.length = t.size := by simp
  unfold cutL cutT cutM lins
  by_cases h : 0 ≤ indexByte t.data.toList 10
  · simp only [h, if_true, decide_true]
    refine ⟨?_, ?_, fun _ => ?_, fun h => by cases h⟩
    · rw [linF_yes _ _ h, ext_mk, ext_mk]
      simp only [List.nil_append, List.drop_zero]
      rw [List.take_of_length_le (show t.data.toList.length ≤ t.size by omega)]
    · rw [ByteArray.size_extract]; omega
    · rw [ByteArray.size_extract]; omega
  · simp only [h, if_false, decide_false]
    refine ⟨?_, Nat.le_refl _, by simp, fun _ => rfl⟩
    rw [linF_no _ _ h]
    rfl
theorem prsL_cons (l : List UInt8) (ls : List (List UInt8)) : prsL (l :: ls) = match wrd l with
    | [] => prsL ls
    | q :: ws => (stepS q ws).bind fun x => (prsL ls).map (x :: ·) := by
  conv => lhs; unfold prsL
  cases wrd l <;> rfl
set_option maxHeartbeats 16000000 in
theorem Parse_any (s : ByteArray) (w : World) (hs : s.size ≤ 1000) : Calls Try.prog 5 #[.string s] w (PrPost w s.data.toList) := by
  obtain ⟨g, hg⟩ : ∃ g, g = w.heap.size := ⟨_, rfl⟩
  have HG := Lib.hid hg
  clear hg
  go_enter Try.func5, Try.ntmps5
  go_wp2_with fail
  refine wp_scope_falls (fun l => l == 0) (fun lb a' w' => PrInv w g s a' w') (fun lb a' w' => moreN (a'.tmps.getD 8 undef) * (sizeV (a'.tmps.getD 0 undef) + 1)) (fun lb rest hl h => ?_) ?_ ?_
  · have h0 : lb = 0 := by simpa using hl
    subst h0
    exact ⟨_, (Option.some.inj h).symm⟩
  · intro hp
    go_wp2_with fail
    obtain ⟨W, hW⟩ : ∃ W, W = w.alloc (.cells zsA 42) := ⟨_, rfl⟩
    rw [show w.alloc (.cells #[.int .i64 0, .int .i64 0, .string ⟨#[]⟩, .string ⟨#[]⟩, .string ⟨#[]⟩, .int .i64 0, .int .i64 0, .int .i64 0, .int .i64 0, .slice none 0 0, .int .i64 0, .int .i64 0] 42) = W from hW.symm, ← HG.out]
    have hZ : Blk W g 42 zsA := by rw [hW, HG.out]; exact Blk.new _ _ _
    have hbW : Below w.heap.size w W := by rw [hW]; exact (Below.refl _ _).alloc (Nat.le_refl _) _
    go_step3
    apply_assumption
    exact hp 0 _ _ _ rfl rfl ⟨s, true, .slice none 0 0, [], _, _, _, _, _, _, _, _, _, _, _, _, _, _, _, _, _, _, _, _, _, _, _, _, _, _, _, _, _, _, _, _, _, _, _, rfl, Lib.hid hs, Lib.hid (StsP.nil _ _ _), Lib.hid (by simpa using hs), Lib.hid ⟨_, hZ, rfl⟩, Lib.hid hbW, Lib.hid (by simp [prs, sts])⟩
  · intro lb rest a' w' hl hR2 hJ
    have h0 : lb = 0 := by simpa using hl
    subst h0
    obtain ⟨t, more, lv, xs, u1, u2, u3, u6, u7, u9, u10, u11, u12, u13, u14, u15, u16, u17, u18, u19, u20, u21, u22, u23, u24, u25, u26, u27, u28, u29, u30, u31, u32, u33, u34, u35, u36, u37, u38, rfl, HT, HST, HLN, HZ, HBE, HPR⟩ := hJ
    simp [findLabel] at hR2
    subst hR2
    cases more with
    | false =>
      go_wp2_with fail
      rw [jumpM_ret]
      go_ret2
      refine ⟨HBE.out, ?_⟩
      rw [HPR.out]
      exact ⟨lv, xs, rfl, by simp, by rw [← HG.out]; exact HST.out⟩
    | true =>
      have hCut := fun wa => Cut_u t wa HT.out
      obtain ⟨c1, c2, c3, c4⟩ := cut_facts t
      obtain ⟨line, hline⟩ : ∃ x, x = cutL t := ⟨_, rfl⟩
      obtain ⟨t', ht'⟩ : ∃ x, x = cutT t := ⟨_, rfl⟩
      obtain ⟨more', hmore'⟩ : ∃ x, x = cutM t := ⟨_, rfl⟩
      rw [← hline, ← ht', ← hmore'] at hCut c1
      rw [← hline] at c2
      rw [← ht', ← hmore'] at c3 c4
      have C1 := Lib.hid c1
      have C2 := Lib.hid c2
      have C3 := Lib.hid c3
      have C4 := Lib.hid c4
      have hls : line.size ≤ 1000 := Nat.le_trans c2 HT.out
      have hSp := fun wa => split_any line wa hls
      have hwl := wrd_len line.data.toList
      have HWLn := Lib.hid hwl
      have hlz : line.data.toList.length = line.size := by simp
      have HLZ := Lib.hid hlz
      clear hline ht' hmore' c1 c2 c3 c4 hwl hlz
      obtain ⟨L, hL⟩ : ∃ L, L = wrd line.data.toList := ⟨_, rfl⟩
      rw [← hL] at hSp HWLn
      have HL := Lib.hid hL
      have HPR2 := Lib.hid (show prs s.data.toList = (match L with
        | [] => prsL (if more' then lins t'.data.toList else [])
        | q :: ws => (stepS q ws).bind fun x => (prsL (if more' then lins t'.data.toList else [])).map (x :: ·)).map fun r => sts xs ++ r by rw [HPR.out, if_pos rfl, C1.out, prsL_cons, ← HL.out])
      have hms : moreN (.bool more') * (t'.size + 1) < t.size + 1 := by
        cases more' with
        | false => simp [moreN]
        | true => have := C3.out rfl; simp [moreN]; omega
      have HMS := Lib.hid hms
      clear hL hms HPR
      rcases L with _ | ⟨q, ws⟩
      · go_wp2_with (first | (go_at_call 13; refine (hCut _).mono ?_; rintro e w2 ⟨rfl, n2, rfl⟩) | (go_at_call 14; refine (hSp _).mono ?_; rintro e w3 ⟨A, rfl, hwd, hb3, HAG⟩; have HB3 := Lib.hid hb3; clear hwd hb3 hSp))
        go_step3
        have hv3 : Vol (fun b => b = g) w' w3 := (Vol.refl w').drewN n2 |>.below HB3.out
        obtain ⟨zs, hz, hzs⟩ := HZ.out
        refine ⟨⟨_, rfl⟩, ⟨t', more', lv, xs, _, _, _, _, _, _, _, _, _, _, _, _, _, _, _, _, _, _, _, _, _, _, _, _, _, _, _, _, _, _, _, _, _, _, _, rfl, Lib.hid ?_, Lib.hid (HST.out.vol hv3), Lib.hid ?_, Lib.hid ⟨zs, ((show Blk (w'.drewN n2) g _ zs from hz).below HB3.out hz.lt), hzs⟩, Lib.hid ((below_drewN HBE.out n2).trans (HB3.out.mono HBE.out.size)), Lib.hid ?_⟩, ?_⟩
        · cases more' with
          | false => have := C4.out rfl; omega
          | true => have := C3.out rfl; have := HT.out; omega
        · have h := HLN.out
          cases more' with
          | false => have := C4.out rfl; simp at h ⊢; omega
          | true => have := C3.out rfl; simp at h ⊢; omega
        · rw [HPR2.out]; cases more' <;> rfl
        · have h := HMS.out
          show moreN (.bool more') * (t'.size + 1) < 1 * (t.size + 1)
          rw [Nat.one_mul]
          exact h
      · obtain ⟨n3, hn3⟩ : ∃ n, n = ws.length + 1 := ⟨_, rfl⟩
        rw [show (q :: ws).length = n3 by rw [hn3]; simp] at hSp
        have hne : ¬ (n3 : Int) = 0 := by omega
        have hN1 : 1 ≤ n3 := by omega
        have hN0 : 0 < n3 := by omega
        have hN1' : (1 : Int) ≤ (n3 : Int) := by omega
        have hn1 : n3 - 1 ≤ 1001 := by have h1 := HWLn.out.1; have h2 := HLZ.out; rw [List.length_cons] at h1; omega
        have HWL := Lib.hid (show n3 - 1 = ws.length by omega)
        have hn33 : n3 - 1 ≤ n3 - 1 := Nat.le_refl _
        have HWQ := Lib.hid (show ∀ x ∈ ws, x.size ≤ 1000 from fun x hx => Nat.le_trans (HWLn.out.2 x (by simp [hx])) (by have := HLZ.out; omega))
        clear hn3
        go_upto_region 11 with (first | (go_at_call 13; refine (hCut _).mono ?_; rintro e w2 ⟨rfl, n2, rfl⟩) | (go_at_call 14; refine (hSp _).mono ?_; rintro e w3 ⟨A, rfl, hwd, hb3, HAG⟩; have HB3 := Lib.hid hb3; have HWD := Lib.hid hwd; clear hwd hb3 hSp))
        have hv3 : Vol (fun b => b = g) w' w3 := (Vol.refl w').drewN n2 |>.below HB3.out
        obtain ⟨zs, hz, hzs⟩ := HZ.out
        have hz3 := (show Blk (w'.drewN n2) g _ zs from hz).below HB3.out hz.lt
        have hbe3 : Below w.heap.size w w3 := (below_drewN HBE.out n2).trans (HB3.out.mono HBE.out.size)
        have hst3 := HST.out.vol hv3
        obtain ⟨gA, oA, hA1, hA2, hA3⟩ := HWD.out (by simp)
        injection hA1 with hA1
        injection hA1 with hA1 hA0
        subst hA1 hA0
        have hAg : g < A := by
          have h1 := HAG.out
          have h2 := hz.lt
          simp at h1
          omega
        have hwA : ∀ {wa : World}, Vol (fun b => b = g) w3 wa → wa.cell? ⟨A, 0, none⟩ = some (.string q) := fun hv => (keep_cell (hv.block A hA2 (by omega))).trans (hA3 0 q rfl)
        have HWT : Hid (∀ wa, Vol (fun b => b = g) w3 wa → Ws wa (if n3 = 1 then some ⟨A, 0, none⟩ else some ⟨A, 1, none⟩) ws) := Lib.hid (fun wa hv => by
          have h := (HWD.out.vol hv (fun g' o' e => by injection e with e; injection e with e _; omega)).drop (n := 1) (M := ws) (A := if n3 = 1 then some ⟨A, 0, none⟩ else some ⟨A, 1, none⟩) (by simp) (fun hne => by
            rw [if_neg]
            intro e
            apply hne
            exact List.eq_nil_of_length_eq_zero (by have := HWL.out; omega))
          exact h)
        have HGA := Lib.hid (show g + 1 < w3.heap.size by omega)
        have HBE3 := Lib.hid hbe3
        have HST3 := Lib.hid hst3
        have HS := (show Vol (fun b => b = g) w3 w3.drew ∧ ∃ zs, Blk w3.drew g 42 zs ∧ zs.size = 12 from ⟨(Vol.refl _).drew, zs, hz3, hzs⟩)
        have hwA' := hwA (wa := w3) (Vol.refl _)
        clear hv3 hz hz3 hbe3 hst3 hA2 hA3 hwA'
        refine wp_region_noPanic ?_
        refine wp_region_held_drew (S := fun wa => Vol (fun b => b = g) w3 wa ∧ ∃ zs, Blk wa g 42 zs ∧ zs.size = 12) (by kernel_rfl) HS (fun hHeld => ?_)
        refine wpAnyH_take (i := 0) (oi := ?oip1) (v := ?vp1) ?hip1 (by kernel_rfl) (by kernel_rfl) (by kernel_rfl) (fun _ _ _ h => h) ?hyp1 HS ?restp1
        case hip1 => (simp only [List.getElem?_toArray, List.getElem?_cons_zero]; try rfl)
        case hyp1 => (refine Or.inl ⟨by rfl, ?_⟩; intro w hSw; go_simp; (try with_reducible rfl))
        try simp only [Act.put, List.setIfInBounds_toArray, List.set_cons_zero, List.set_cons_succ]
        refine wpAnyH_take (i := 1) (oi := ?oip2) (v := ?vp2) ?hip2 (by kernel_rfl) (by kernel_rfl) (by kernel_rfl) (fun _ _ _ h => h) ?hyp2 HS ?restp2
        case hip2 => (simp only [List.getElem?_toArray, List.getElem?_cons_succ, List.getElem?_cons_zero]; try rfl)
        case hyp2 => (refine Or.inl ⟨by rfl, ?_⟩; intro w hSw; go_simp; (try with_reducible rfl))
        try simp only [Act.put, List.setIfInBounds_toArray, List.set_cons_zero, List.set_cons_succ]
        refine wpAnyH_take (i := 2) (oi := ?oip3) (v := ?vp3) ?hip3 (by kernel_rfl) (by kernel_rfl) (by kernel_rfl) (fun _ _ _ h => h) ?hyp3 HS ?restp3
        case hip3 => (simp only [List.getElem?_toArray, List.getElem?_cons_succ, List.getElem?_cons_zero]; try rfl)
        case hyp3 => (refine Or.inl ⟨by rfl, ?_⟩; intro w hSw; have q := hwA hSw.1; go_simp; (try with_reducible rfl))
        try simp only [Act.put, List.setIfInBounds_toArray, List.set_cons_zero, List.set_cons_succ]
        refine wpAnyH_take (i := 3) (oi := ?oip4) (v := ?vp4) ?hip4 (by kernel_rfl) (by kernel_rfl) (by kernel_rfl) (fun _ _ _ h => h) ?hyp4 HS ?restp4
        case hip4 => (simp only [List.getElem?_toArray, List.getElem?_cons_succ, List.getElem?_cons_zero]; try rfl)
        case hyp4 => (refine Or.inl ⟨by rfl, ?_⟩; intro w hSw; go_simp; (try with_reducible rfl))
        try simp only [Act.put, List.setIfInBounds_toArray, List.set_cons_zero, List.set_cons_succ]
        refine wpAnyH_take (i := 4) (oi := ?oip5) (v := ?vp5) ?hip5 (by kernel_rfl) (by kernel_rfl) (by kernel_rfl) (fun _ _ _ h => h) ?hyp5 HS ?restp5
        case hip5 => (simp only [List.getElem?_toArray, List.getElem?_cons_succ, List.getElem?_cons_zero]; try rfl)
        case hyp5 => (refine Or.inl ⟨by rfl, ?_⟩; intro w hSw; go_simp; (try with_reducible rfl))
        try simp only [Act.put, List.setIfInBounds_toArray, List.set_cons_zero, List.set_cons_succ]
        refine wpAnyH_ready (rs := [5]) (by kernel_rfl) (by simp) ?_
        refine AllReadyH.cons (o := ?oip6) ?hip6 (fun K hK => ?stp6) AllReadyH.nil
        case hip6 => (simp only [List.getElem?_toArray, List.getElem?_cons_succ, List.getElem?_cons_zero]; try rfl)
        go_simp
        go_at_call 15
        refine (parse_u q ws (if n3 = 1 then some ⟨A, 0, none⟩ else some ⟨A, 1, none⟩) (n3 - 1) (n3 - 1) _ HWL.out hn33 hn1 HWQ.out (HWT.out _ HS.1)).mono ?_
        rintro e w5 ⟨cs, ok, rfl, hcs, hcs1, hb5, hp5⟩
        try dsimp only
        have HS5 := (show Vol (fun b => b = g) w3 w5 ∧ ∃ zs, Blk w5 g 42 zs ∧ zs.size = 12 from ⟨HS.1.below hb5, HS.2.choose, HS.2.choose_spec.1.below hb5 HS.2.choose_spec.1.lt, HS.2.choose_spec.2⟩)
        refine hK.out _ _ HS5 (fun _ => ?rsp6)
        clear hK K
        try simp only [Act.put, List.setIfInBounds_toArray, List.set_cons_zero, List.set_cons_succ]
        refine wpAnyH_take (i := 6) (oi := ?oip7) (v := ?vp7) ?hip7 (by kernel_rfl) (by kernel_rfl) (by kernel_rfl) (fun _ _ _ h => h) ?hyp7 HS5 ?restp7
        case hip7 => (simp only [List.getElem?_toArray, List.getElem?_cons_succ, List.getElem?_cons_zero]; try rfl)
        case hyp7 => (refine Or.inl ⟨by rfl, ?_⟩; intro w hSw; go_simp; (try with_reducible rfl))
        try simp only [Act.put, List.setIfInBounds_toArray, List.set_cons_zero, List.set_cons_succ]
        refine wpAnyH_take (i := 7) (oi := ?oip8) (v := ?vp8) ?hip8 (by kernel_rfl) (by kernel_rfl) (by kernel_rfl) (fun _ _ _ h => h) ?hyp8 HS5 ?restp8
        case hip8 => (simp only [List.getElem?_toArray, List.getElem?_cons_succ, List.getElem?_cons_zero]; try rfl)
        case hyp8 => (refine Or.inl ⟨by rfl, ?_⟩; intro w hSw; go_simp; (try with_reducible rfl))
        try simp only [Act.put, List.setIfInBounds_toArray, List.set_cons_zero, List.set_cons_succ]
        refine wpAnyH_take (i := 8) (oi := ?oip9) (v := ?vp9) ?hip9 (by kernel_rfl) (by kernel_rfl) (by kernel_rfl) (fun _ _ _ h => h) ?hyp9 HS5 ?restp9
        case hip9 => (simp only [List.getElem?_toArray, List.getElem?_cons_succ, List.getElem?_cons_zero]; try rfl)
        case hyp9 => (refine Or.inl ⟨by rfl, ?_⟩; intro w hSw; go_simp; (try with_reducible rfl))
        try simp only [Act.put, List.setIfInBounds_toArray, List.set_cons_zero, List.set_cons_succ]
        refine wpAnyH_ready (rs := [9]) (by kernel_rfl) (by simp) ?_
        refine AllReadyH.cons (o := ?oip10) ?hip10 (fun K hK => ?stp10) AllReadyH.nil
        case hip10 => (simp only [List.getElem?_toArray, List.getElem?_cons_succ, List.getElem?_cons_zero]; try rfl)
        refine storeG 42 (cs := cs) (by rw [hcs]; kernel_rfl) rfl rfl (by simp [Act.eval]; done) (by simp [Act.eval]; done) hcs1 HS5.2.choose_spec.1 (HS5.2.choose_spec.2.trans hcs.symm) ?_
        intro w6 hbe hot hzz
        try dsimp only
        have HS6 := (show Vol (fun b => b = g) w3 w6 ∧ ∃ zs, Blk w6 g 42 zs ∧ zs.size = 12 from ⟨vol_store HS5.1 hbe hot (by have := HGA.out; have := HS5.1.size; omega) (by have := HS5.2.choose_spec.1.lt; omega), cs, hzz, hcs⟩)
        refine hK.out _ _ HS6 (fun _ => ?rsp10)
        clear hK K
        try simp only [Act.put]
        refine wpAnyH_take (i := 10) (oi := ?oip11) (v := ?vp11) ?hip11 (by kernel_rfl) (by kernel_rfl) (by kernel_rfl) (fun _ _ _ h => h) ?hyp11 HS6 ?restp11
        case hip11 => (simp only [List.getElem?_toArray, List.getElem?_cons_succ, List.getElem?_cons_zero]; try rfl)
        case hyp11 => (refine Or.inl ⟨by rfl, ?_⟩; intro w hSw; go_simp; (try with_reducible rfl))
        try simp only [Act.put, List.setIfInBounds_toArray, List.set_cons_zero, List.set_cons_succ]
        refine wpAnyH_done (by kernel_rfl) ?_ _
        refine NoPanic.normal ?_
        obtain ⟨zs6, hz6, hzs6⟩ := HS6.2
        have HV6 := Lib.hid HS6.1
        have HZ6 := Lib.hid hzz
        have HCS := Lib.hid hcs
        have HCS1 := Lib.hid hcs1
        have HB5 := Lib.hid hb5
        have HOT := Lib.hid hot
        have HPRq := Lib.hid (show prs s.data.toList = ((stepS q ws).bind fun x => (prsL (if more' then lins t'.data.toList else [])).map (x :: ·)).map fun r => sts xs ++ r from HPR2.out)
        have HS56 := Lib.hid (size_of_keep hot (by have := HGA.out; have := HS5.1.size; omega))
        clear HS6 HS5 HS hbe hot hzz hcs1 hb5 hz6 hzs6 hHeld hwA
        obtain ⟨A2, hA2⟩ : ∃ A2, A2 = (if n3 = 1 then some (⟨A, 0, none⟩ : Addr) else some ⟨A, 1, none⟩) := ⟨_, rfl⟩
        rw [← hA2]
        clear hA2
        cases hsq : stepS q ws with
        | none =>
          have HSQ := Lib.hid hsq
          rw [hsq] at hp5
          obtain rfl := hp5
          clear hsq
          go_wp2_with fail
          rw [jumpM_ret]
          go_ret2
          refine ⟨?_, ?_⟩
          · exact below_vol HBE3.out HV6.out (fun b e => by rw [e, HG.out]; exact Nat.le_refl _) HBE3.out.size
          · rw [HPRq.out, HSQ.out]
            rfl
        | some x =>
          have HSQ := Lib.hid hsq
          rw [hsq] at hp5
          obtain ⟨rfl, v, rfl, hp5, hp6⟩ := hp5
          have HST6 := Lib.hid (HST3.out.vol HV6.out)
          have hx6 : StpF pw w6 x v := (show StpF pw w5 x v from hp5).keepN HS56.out (fun hne b hb hlt => HOT.out b hlt (by have := hp6 b hb; have h2 := HGA.out; have h1 := hp6 b hb; try simp at h1; omega))
          have HX6 := Lib.hid hx6
          have HXB := Lib.hid (show ∀ b, v.ownBlock = some b → g < b ∧ lv.ownBlock ≠ some b from fun b hb => by
            have h1 := hp6 b hb
            have h2 := HGA.out
            try simp at h1
            refine ⟨by omega, fun e => ?_⟩
            have := (HST3.out.own.lt b e).2
            omega)
          have hv1 := hx6.2.1
          obtain ⟨A4, c4, rfl, -, -⟩ := own_slice HST3.out.own
          have hk6 := HZ6.out
          have k0 : w6.cell? ⟨g, 0, none⟩ = some (.int .i64 x.k) := hk6.cell 0
          have k1 : w6.cell? ⟨g, 1, none⟩ = some (.int .i64 x.m.k) := hk6.cell 1
          have k2 : w6.cell? ⟨g, 2, none⟩ = some (.string x.m.F) := hk6.cell 2
          have k3 : w6.cell? ⟨g, 3, none⟩ = some (.string x.m.E) := hk6.cell 3
          have k4 : w6.cell? ⟨g, 4, none⟩ = some (.string x.m.T) := hk6.cell 4
          have k5 : w6.cell? ⟨g, 5, none⟩ = some (.int .i64 x.m.N) := hk6.cell 5
          have k6 : w6.cell? ⟨g, 6, none⟩ = some (.int .i64 x.m.S) := hk6.cell 6
          have k7 : w6.cell? ⟨g, 7, none⟩ = some (.int .i64 x.m.U) := hk6.cell 7
          have k8 : w6.cell? ⟨g, 8, none⟩ = some (.int .i64 x.m.P) := hk6.cell 8
          have k9 : w6.cell? ⟨g, 9, none⟩ = some v := hk6.cell 9
          have k10 : w6.cell? ⟨g, 10, none⟩ = some (.int .i64 x.n) := hk6.cell 10
          have k11 : w6.cell? ⟨g, 11, none⟩ = some (.int .i64 x.f) := hk6.cell 11
          have HLX := Lib.hid (show xs.length ≤ 1001 by have := HLN.out; simp at this; omega)
          obtain ⟨ii, hii, hi0, hi1, hi2⟩ := info_parts step_infoP
          have hmx : 1001 ≤ maxLen := by decide
          clear hsq hp5 hp6 hx6 hk6
          go_upto_region 14 with fail
          go_wp2_with (at_builtin; refine wpList_append_any _ rfl _ _ 24 rfl (g + 1) 42 ii (.agg zsA) 12 136 Try.underlying24 hii hi0 hi1 hi2 rfl (by decide) _ _ _ rfl (HST6.out.own.alloc _) _ (some ⟨_, 0, none⟩) 1 1 (sc x v).toList rfl (reads_row _ (sc x v).toList _ (n := 1) (z := 12) rfl) (sc_oneL hv1) (by have := HLX.out; simp only [maxLen]; omega) (by have := HLX.out; omega) (by have := HGA.out; have := HV6.out.size; simp; omega) ?_; intro v1 w1 hown1 hg1 hne1; have HPU := Lib.hid (HST6.out.push HX6.out HXB.out hown1 hg1 hne1); have HG1 := Lib.hid hg1; clear hown1 hg1 hne1)
          go_step3
          refine ⟨⟨_, rfl⟩, ⟨t', more', v1, xs ++ [(x, v)], _, _, _, _, _, _, _, _, _, _, _, _, _, _, _, _, _, _, _, _, _, _, _, _, _, _, _, _, _, _, _, _, _, _, _, rfl, Lib.hid ?_, Lib.hid HPU.out, Lib.hid ?_, Lib.hid ⟨_, ((HG1.out.block g (HZ6.out.alloc _).lt (fun e => by have := (HST6.out.own.lt g e.symm).1; omega)).trans (HZ6.out.alloc _) : Blk w1 g 42 (sc x v)), rfl⟩, Lib.hid (push_b ((below_vol HBE3.out HV6.out (fun b e => by rw [e, HG.out]; exact Nat.le_refl _) HBE3.out.size).alloc (by have := HBE3.out.size; have := HV6.out.size; omega) _) HG1.out (fun k hk => by have := (HST6.out.own.lt k hk).1; have := HG.out; omega) (by have := HBE3.out.size; have := HV6.out.size; simp; omega)), Lib.hid ?_⟩, ?_⟩
          · cases more' with
            | false => have := C4.out rfl; omega
            | true => have := C3.out rfl; have := HT.out; omega
          · have h := HLN.out
            cases more' with
            | false => have := C4.out rfl; simp at h ⊢; omega
            | true => have := C3.out rfl; simp at h ⊢; omega
          · rw [HPRq.out, HSQ.out, sts_snoc]
            cases more'
            · simp [Option.map_map, Function.comp_def]
              rfl
            · simp [Option.map_map, Function.comp_def]
          · have h := HMS.out
            show moreN (.bool more') * (t'.size + 1) < 1 * (t.size + 1)
            rw [Nat.one_mul]
            exact h
end Go.Proofs.Ytfbedlhigggggaa.Sp
