/- The plain master hears a status of a new task. -/
import Derived.Test.YtiflhfhonhbcpaaRmE
namespace Go.Proofs.Ytiflhfhonhbcpaa.Mas
open Go Go.RowKit Go.Proofs.Ytiflhfhonhbcpaa Go.Proofs.Ytiflhfhonhbcpaa.Crw Go.ChangeShapes Go.WideShapes Go.ChangeAt
set_option linter.unusedVariables false
set_option maxRecDepth 100000
section
variable {w w' : World} {B m : Nat} {V U : Nat → Prop} {a b c : Value} {L : List Rk} {f t : ByteArray}
set_option maxHeartbeats 40000000 in
theorem RHear_new (h : RmP w B m V a b c L) {L1 : List Rk} {k : Nat} {x : Rk} (hx : L1[k]? = some x) (hu : UpL L L1 f t k x) (hOld : L1 = L ++ [x] ∧ x.ns = []) (hl1 : L1.length ≤ 100) (hn9 : x.ns.length ≤ 900) (hns : ∀ (j : Nat) (y : Rk), L[j]? = some y → y.ns ≠ []) (e : ByteArray) (n st nu ep : Int) :
    Calls Try.prog 19 #[.pointer (some ⟨m, 0, none⟩), .agg (msgC f e t n st nu ep)] w fun r w' => ∃ c, r = .returned (.slice (some ⟨c, 0, none⟩) 1 1) ∧ Blk w' c 30 (ackC f t nu ep) ∧ RHeard w B m V (fun L2 => ∃ v', L2 = L1.set k ⟨x.f, x.t, st, v', addN x.ns nu⟩) c w' := by
  obtain ⟨W, hW⟩ : ∃ W, W = w.alloc (.cells (msgC f e t n st nu ep) 30) := ⟨_, rfl⟩
  have hb : Below w.heap.size w W := by rw [hW]; exact (Below.refl _ _).alloc (Nat.le_refl _) _
  have hk : Blk W w.heap.size 30 (msgC f e t n st nu ep) := by rw [hW]; exact Blk.new w 30 _
  have hM := h.below hb
  obtain ⟨q, hAt, hq⟩ := At_any hM hx hu
  have HE : Hid (x.ns = [] → x.v = .slice none 0 0) := Lib.hid (by
    rcases hu with ⟨rfl, -, -⟩ | ⟨-, rfl, -, -⟩
    · exact fun e => absurd e (hns k x hx)
    · exact fun _ => rfl)
  clear hns
  obtain ⟨gk, egk⟩ : ∃ g, g = w.heap.size := ⟨_, rfl⟩
  rw [← egk] at hk
  have p0 : W.cell? ⟨gk, 0, none⟩ = some (.int .i64 11) := hk.cell 0
  have p1 : W.cell? ⟨gk, 1, none⟩ = some (.string f) := hk.cell 1
  have p3 : W.cell? ⟨gk, 3, none⟩ = some (.string t) := hk.cell 3
  have HG := Lib.hid egk
  have HW := Lib.hid hW
  have HB := Lib.hid hb
  have HK := Lib.hid hk
  have HH := Lib.hid h
  have HM := Lib.hid hM
  have HOld := Lib.hid hOld
  have HX := Lib.hid hx
  have HQ := Lib.hid hq
  clear hOld hM hW hb hk h hx hu hq egk
  go_enter Try.func19, Try.ntmps19
  go_upto_region 1 with fail
  rw [← HW.out, ← HG.out]
  go_wp2_with fail
  refine hAt.mono ?_
  rintro r w1 ⟨rfl, hb1⟩
  have HM1 := Lib.hid (HM.out.below hb1)
  have HK1 := Lib.hid (HK.out.below hb1 HK.out.lt)
  have HB1 := Lib.hid hb1
  clear hAt hb1 p0 p1 p3
  go_upto_if 23 with fail
  go_cut [5] from 22 to 60 (fun v5 wx => Hid (∃ w7, v5 = .int .i64 k ∧ RMid w B m V L1 wx ∧ Blk wx gk 30 (msgC f e t n st nu ep) ∧ w7 = wx))
  case first =>
    rcases HQ.out with ⟨rfl, rfl⟩ | ⟨rfl, rfl, rfl, rfl⟩
    · exfalso
      have := congrArg List.length HOld.out.1
      simp at this
    · have hR := HM1.out
      obtain ⟨Aa, ca, rfl, hca, -⟩ := own_slice hR.ks
      obtain ⟨Ab, cb, rfl, hcb, -⟩ := own_slice hR.ss
      obtain ⟨Ac, cc, rfl, hcc, -⟩ := own_slice hR.hs
      obtain ⟨N, hN⟩ : ∃ N, N = L.length := ⟨_, rfl⟩
      have p0 : w1.cell? ⟨m, 0, none⟩ = some (.slice Aa N ca) := by rw [hN]; exact hR.blk.cell 0
      have hl9 : L.length < 100 := by simp at hl1; omega
      have hN9 : N ≤ 100 := by omega
      have HV9 := Lib.hid (Vol.of_below (V := V) (HB.out.trans (HB1.out.mono HB.out.size)))
      have hBw : B ≤ w1.heap.size := Nat.le_trans (hR.ge m hR.vm) (Nat.le_of_lt hR.blk.lt)
      have lt_K : ∀ g, (Value.slice Aa N ca).ownBlock = some g → g < w1.heap.size := by rw [hN]; exact fun g hg => own_lt hR.ks hg
      have lt_S : ∀ g, (Value.slice Ab N cb).ownBlock = some g → g < w1.heap.size := by rw [hN]; exact fun g hg => own_lt hR.ss hg
      have lt_H : ∀ g, (Value.slice Ac N cc).ownBlock = some g → g < w1.heap.size := by rw [hN]; exact fun g hg => own_lt hR.hs hg
      obtain ⟨wd, ewd⟩ : ∃ x, x = w1.drew := ⟨_, rfl⟩
      have P0 : Hid (PuS w1 wd B m gk (msgC f e t n st nu ep) (.slice Aa N ca) (.slice Ab N cb) (.slice Ac N cc) (.slice Aa N ca) (.slice Ab N cb) (.slice Ac N cc) (.slice Aa N ca) (.slice Ab N cb) (.slice Ac N cc) N N N (rkV L) (rsV L) (rhV L)) := Lib.hid (by
        rw [ewd, hN]
        exact ⟨Nat.le_refl _, hR.ks.drew, hR.ss.drew, hR.hs.drew, hR.blk.drew, HK1.out.drew, (Vol.refl _).drew, fun g hg => .inl hg, fun g hg => .inl hg, fun g hg => .inl hg⟩)
      have k1_wd : wd.cell? ⟨gk, 1, none⟩ = some (.string f) := P0.out.msg_.cell 1
      have k3_wd : wd.cell? ⟨gk, 3, none⟩ = some (.string t) := P0.out.msg_.cell 3
      have hB_wd : B ≤ wd.heap.size := Nat.le_trans hBw P0.out.sz
      obtain ⟨ii, hi_ii, hz_ii, hs_ii, hb_ii⟩ := info_parts int_infoM
      obtain ⟨ik, hi_ik, hz_ik, hs_ik, hb_ik⟩ := info_parts key_infoM
      obtain ⟨ih, hi_ih, hz_ih, hs_ih, hb_ih⟩ := info_parts row_infoM
      have HN := Lib.hid hN
      clear hR hca hcb hcc hN hl1
      go_upto_region 8 with fail
      clear p0
      refine wp_region_noPanic ?_
      refine wp_region_heldL (S0 := puS0 gk f t) (ws := puW m (.slice Aa N ca) (.slice Ab N cb) (.slice Ac N cc)) (by kernel_rfl) (fun hc0 => ?_)
      have hnosel := noSel_of (by kernel_rfl) hc0
      rw [← ewd]
      clear ewd
      refine wpAnyL_take (i := 0) (oi := ?oi1) (v := ?v1) ?hi1 hnosel (by kernel_rfl) (by kernel_rfl) hc0 (by kernel_rfl) (fun _ _ _ h => h) ?hy1 (P0.out.held k1_wd k3_wd (.inr rfl) (.inr rfl) (.inr rfl)) (fun hc1 => ?rest1)
      case hi1 => (simp only [List.getElem?_toArray, List.getElem?_cons_zero]; try rfl)
      case hy1 => (refine Or.inl ⟨by rfl, ?_⟩; intro w hSw; go_simp; (try with_reducible rfl))
      try simp only [Act.put, List.setIfInBounds_toArray, List.set_cons_zero, List.set_cons_succ]
      refine wpAnyL_take (i := 1) (oi := ?oi2) (v := ?v2) ?hi2 hnosel (by kernel_rfl) (by kernel_rfl) hc1 (by kernel_rfl) (fun _ _ _ h => h) ?hy2 (P0.out.held k1_wd k3_wd (.inr rfl) (.inr rfl) (.inr rfl)) (fun hc2 => ?rest2)
      case hi2 => (simp only [List.getElem?_toArray, List.getElem?_cons_succ, List.getElem?_cons_zero]; try rfl)
      case hy2 => (refine Or.inl ⟨by rfl, ?_⟩; intro w hSw; go_simp; (try with_reducible rfl))
      try simp only [Act.put, List.setIfInBounds_toArray, List.set_cons_zero, List.set_cons_succ]
      refine wpAnyL_take (i := 2) (oi := ?oi3) (v := ?v3) ?hi3 hnosel (by kernel_rfl) (by kernel_rfl) hc2 (by kernel_rfl) (fun _ _ _ h => h) ?hy3 (P0.out.held k1_wd k3_wd (.inr rfl) (.inr rfl) (.inr rfl)) (fun hc3 => ?rest3)
      case hi3 => (simp only [List.getElem?_toArray, List.getElem?_cons_succ, List.getElem?_cons_zero]; try rfl)
      case hy3 => (refine Or.inl ⟨by rfl, ?_⟩; intro w hSw; go_simp; (try with_reducible rfl))
      try simp only [Act.put, List.setIfInBounds_toArray, List.set_cons_zero, List.set_cons_succ]
      refine wpAnyL_take (i := 3) (oi := ?oi4) (v := ?v4) ?hi4 hnosel (by kernel_rfl) (by kernel_rfl) hc3 (by kernel_rfl) (fun _ _ _ h => h) ?hy4 (P0.out.held k1_wd k3_wd (.inr rfl) (.inr rfl) (.inr rfl)) (fun hc4 => ?rest4)
      case hi4 => (simp only [List.getElem?_toArray, List.getElem?_cons_succ, List.getElem?_cons_zero]; try rfl)
      case hy4 => (refine Or.inl ⟨by rfl, ?_⟩; intro w hSw; go_simp; (try with_reducible rfl))
      try simp only [Act.put, List.setIfInBounds_toArray, List.set_cons_zero, List.set_cons_succ]
      refine wpAnyL_take (i := 4) (oi := ?oi5) (v := ?v5) ?hi5 hnosel (by kernel_rfl) (by kernel_rfl) hc4 (by kernel_rfl) (fun _ _ _ h => h) ?hy5 (P0.out.held k1_wd k3_wd (.inr rfl) (.inr rfl) (.inr rfl)) (fun hc5 => ?rest5)
      case hi5 => (simp only [List.getElem?_toArray, List.getElem?_cons_succ, List.getElem?_cons_zero]; try rfl)
      case hy5 => (refine Or.inl ⟨by rfl, ?_⟩; intro w hSw; go_simp; (try with_reducible rfl))
      try simp only [Act.put, List.setIfInBounds_toArray, List.set_cons_zero, List.set_cons_succ]
      refine wpAnyL_take (i := 5) (oi := ?oi6) (v := ?v6) ?hi6 hnosel (by kernel_rfl) (by kernel_rfl) hc5 (by kernel_rfl) (fun _ _ _ h => h) ?hy6 (P0.out.held k1_wd k3_wd (.inr rfl) (.inr rfl) (.inr rfl)) (fun hc6 => ?rest6)
      case hi6 => (simp only [List.getElem?_toArray, List.getElem?_cons_succ, List.getElem?_cons_zero]; try rfl)
      case hy6 => (refine Or.inl ⟨by rfl, ?_⟩; intro w hSw; go_simp; (try with_reducible rfl))
      try simp only [Act.put, List.setIfInBounds_toArray, List.set_cons_zero, List.set_cons_succ]
      refine wpAnyL_take (i := 6) (oi := ?oi7) (v := ?v7) ?hi7 hnosel (by kernel_rfl) (by kernel_rfl) hc6 (by kernel_rfl) (fun _ _ _ h => h) ?hy7 (P0.out.held k1_wd k3_wd (.inr rfl) (.inr rfl) (.inr rfl)) (fun hc7 => ?rest7)
      case hi7 => (simp only [List.getElem?_toArray, List.getElem?_cons_succ, List.getElem?_cons_zero]; try rfl)
      case hy7 => (refine Or.inl ⟨by rfl, ?_⟩; intro w hSw; have q := hSw.2 _ (List.Mem.head _) (by kernel_rfl); (try dsimp only at q); go_simp; (try with_reducible rfl))
      try simp only [Act.put, List.setIfInBounds_toArray, List.set_cons_zero, List.set_cons_succ]
      refine wpAnyL_take (i := 7) (oi := ?oi8) (v := ?v8) ?hi8 hnosel (by kernel_rfl) (by kernel_rfl) hc7 (by kernel_rfl) (fun _ _ _ h => h) ?hy8 (P0.out.held k1_wd k3_wd (.inr rfl) (.inr rfl) (.inr rfl)) (fun hc8 => ?rest8)
      case hi8 => (simp only [List.getElem?_toArray, List.getElem?_cons_succ, List.getElem?_cons_zero]; try rfl)
      case hy8 => (refine Or.inl ⟨by rfl, ?_⟩; intro w hSw; go_simp; (try with_reducible rfl))
      try simp only [Act.put, List.setIfInBounds_toArray, List.set_cons_zero, List.set_cons_succ]
      refine wpAnyL_take (i := 8) (oi := ?oi9) (v := ?v9) ?hi9 hnosel (by kernel_rfl) (by kernel_rfl) hc8 (by kernel_rfl) (fun _ _ _ h => h) ?hy9 (P0.out.held k1_wd k3_wd (.inr rfl) (.inr rfl) (.inr rfl)) (fun hc9 => ?rest9)
      case hi9 => (simp only [List.getElem?_toArray, List.getElem?_cons_succ, List.getElem?_cons_zero]; try rfl)
      case hy9 => (refine Or.inl ⟨by rfl, ?_⟩; intro w hSw; have q := hSw.1.1; (try dsimp only at q); go_simp; (try with_reducible rfl))
      try simp only [Act.put, List.setIfInBounds_toArray, List.set_cons_zero, List.set_cons_succ]
      refine wpAnyL_take (i := 9) (oi := ?oi10) (v := ?v10) ?hi10 hnosel (by kernel_rfl) (by kernel_rfl) hc9 (by kernel_rfl) (fun _ _ _ h => h) ?hy10 (P0.out.held k1_wd k3_wd (.inr rfl) (.inr rfl) (.inr rfl)) (fun hc10 => ?rest10)
      case hi10 => (simp only [List.getElem?_toArray, List.getElem?_cons_succ, List.getElem?_cons_zero]; try rfl)
      case hy10 => (refine Or.inl ⟨by rfl, ?_⟩; intro w hSw; go_simp; (try with_reducible rfl))
      try simp only [Act.put, List.setIfInBounds_toArray, List.set_cons_zero, List.set_cons_succ]
      refine wpAnyL_take (i := 10) (oi := ?oi11) (v := ?v11) ?hi11 hnosel (by kernel_rfl) (by kernel_rfl) hc10 (by kernel_rfl) (fun _ _ _ h => h) ?hy11 (P0.out.held k1_wd k3_wd (.inr rfl) (.inr rfl) (.inr rfl)) (fun hc11 => ?rest11)
      case hi11 => (simp only [List.getElem?_toArray, List.getElem?_cons_succ, List.getElem?_cons_zero]; try rfl)
      case hy11 => (refine Or.inl ⟨by rfl, ?_⟩; intro w hSw; have q := hSw.1.2; (try dsimp only at q); go_simp; (try with_reducible rfl))
      try simp only [Act.put, List.setIfInBounds_toArray, List.set_cons_zero, List.set_cons_succ]
      refine wpAnyL_take (i := 11) (oi := ?oi12) (v := ?v12) ?hi12 hnosel (by kernel_rfl) (by kernel_rfl) hc11 (by kernel_rfl) (fun _ _ _ h => h) ?hy12 (P0.out.held k1_wd k3_wd (.inr rfl) (.inr rfl) (.inr rfl)) (fun hc12 => ?rest12)
      case hi12 => (simp only [List.getElem?_toArray, List.getElem?_cons_succ, List.getElem?_cons_zero]; try rfl)
      case hy12 => (refine Or.inl ⟨by rfl, ?_⟩; intro w hSw; go_simp; (try with_reducible rfl))
      try simp only [Act.put, List.setIfInBounds_toArray, List.set_cons_zero, List.set_cons_succ]
      refine wpAnyL_take (i := 14) (oi := ?oi13) (v := ?v13) ?hi13 hnosel (by kernel_rfl) (by kernel_rfl) hc12 (by kernel_rfl) (fun _ _ _ h => h) ?hy13 (P0.out.held k1_wd k3_wd (.inr rfl) (.inr rfl) (.inr rfl)) (fun hc13 => ?rest13)
      case hi13 => (simp only [List.getElem?_toArray, List.getElem?_cons_succ, List.getElem?_cons_zero]; try rfl)
      case hy13 => (refine Or.inl ⟨by rfl, ?_⟩; intro w hSw; go_simp; (try with_reducible rfl))
      try simp only [Act.put, List.setIfInBounds_toArray, List.set_cons_zero, List.set_cons_succ]
      refine wpAnyL_take (i := 15) (oi := ?oi14) (v := ?v14) ?hi14 hnosel (by kernel_rfl) (by kernel_rfl) hc13 (by kernel_rfl) (fun _ _ _ h => h) ?hy14 (P0.out.held k1_wd k3_wd (.inr rfl) (.inr rfl) (.inr rfl)) (fun hc14 => ?rest14)
      case hi14 => (simp only [List.getElem?_toArray, List.getElem?_cons_succ, List.getElem?_cons_zero]; try rfl)
      case hy14 => (refine Or.inl ⟨by rfl, ?_⟩; intro w hSw; go_simp; (try with_reducible rfl))
      try simp only [Act.put, List.setIfInBounds_toArray, List.set_cons_zero, List.set_cons_succ]
      refine wpAnyL_take (i := 16) (oi := ?oi15) (v := ?v15) ?hi15 hnosel (by kernel_rfl) (by kernel_rfl) hc14 (by kernel_rfl) (fun _ _ _ h => h) ?hy15 (P0.out.held k1_wd k3_wd (.inr rfl) (.inr rfl) (.inr rfl)) (fun hc15 => ?rest15)
      case hi15 => (simp only [List.getElem?_toArray, List.getElem?_cons_succ, List.getElem?_cons_zero]; try rfl)
      case hy15 => (refine Or.inl ⟨by rfl, ?_⟩; intro w hSw; go_simp; (try with_reducible rfl))
      try simp only [Act.put, List.setIfInBounds_toArray, List.set_cons_zero, List.set_cons_succ]
      refine wpAnyL_take (i := 17) (oi := ?oi16) (v := ?v16) ?hi16 hnosel (by kernel_rfl) (by kernel_rfl) hc15 (by kernel_rfl) (fun _ _ _ h => h) ?hy16 (P0.out.held k1_wd k3_wd (.inr rfl) (.inr rfl) (.inr rfl)) (fun hc16 => ?rest16)
      case hi16 => (simp only [List.getElem?_toArray, List.getElem?_cons_succ, List.getElem?_cons_zero]; try rfl)
      case hy16 => (refine Or.inl ⟨by rfl, ?_⟩; intro w hSw; have q := hSw.2 _ (List.Mem.tail _ (List.Mem.head _)) (by kernel_rfl); (try dsimp only at q); go_simp; (try with_reducible rfl))
      try simp only [Act.put, List.setIfInBounds_toArray, List.set_cons_zero, List.set_cons_succ]
      refine wpAnyL_take (i := 20) (oi := ?oi17) (v := ?v17) ?hi17 hnosel (by kernel_rfl) (by kernel_rfl) hc16 (by kernel_rfl) (fun _ _ _ h => h) ?hy17 (P0.out.held k1_wd k3_wd (.inr rfl) (.inr rfl) (.inr rfl)) (fun hc17 => ?rest17)
      case hi17 => (simp only [List.getElem?_toArray, List.getElem?_cons_succ, List.getElem?_cons_zero]; try rfl)
      case hy17 => (refine Or.inl ⟨by rfl, ?_⟩; intro w hSw; go_simp; (try with_reducible rfl))
      try simp only [Act.put, List.setIfInBounds_toArray, List.set_cons_zero, List.set_cons_succ]
      refine wpAnyL_take (i := 21) (oi := ?oi18) (v := ?v18) ?hi18 hnosel (by kernel_rfl) (by kernel_rfl) hc17 (by kernel_rfl) (fun _ _ _ h => h) ?hy18 (P0.out.held k1_wd k3_wd (.inr rfl) (.inr rfl) (.inr rfl)) (fun hc18 => ?rest18)
      case hi18 => (simp only [List.getElem?_toArray, List.getElem?_cons_succ, List.getElem?_cons_zero]; try rfl)
      case hy18 => (refine Or.inl ⟨by rfl, ?_⟩; intro w hSw; go_simp; (try with_reducible rfl))
      try simp only [Act.put, List.setIfInBounds_toArray, List.set_cons_zero, List.set_cons_succ]
      refine wpAnyL_take (i := 22) (oi := ?oi19) (v := ?v19) ?hi19 hnosel (by kernel_rfl) (by kernel_rfl) hc18 (by kernel_rfl) (fun _ _ _ h => h) ?hy19 (P0.out.held k1_wd k3_wd (.inr rfl) (.inr rfl) (.inr rfl)) (fun hc19 => ?rest19)
      case hi19 => (simp only [List.getElem?_toArray, List.getElem?_cons_succ, List.getElem?_cons_zero]; try rfl)
      case hy19 => (refine Or.inl ⟨by rfl, ?_⟩; intro w hSw; go_simp; (try with_reducible rfl))
      try simp only [Act.put, List.setIfInBounds_toArray, List.set_cons_zero, List.set_cons_succ]
      refine wpAnyL_take (i := 23) (oi := ?oi20) (v := ?v20) ?hi20 hnosel (by kernel_rfl) (by kernel_rfl) hc19 (by kernel_rfl) (fun _ _ _ h => h) ?hy20 (P0.out.held k1_wd k3_wd (.inr rfl) (.inr rfl) (.inr rfl)) (fun hc20 => ?rest20)
      case hi20 => (simp only [List.getElem?_toArray, List.getElem?_cons_succ, List.getElem?_cons_zero]; try rfl)
      case hy20 => (refine Or.inl ⟨by rfl, ?_⟩; intro w hSw; have q := hSw.2 _ (List.Mem.tail _ (List.Mem.tail _ (List.Mem.head _))) (by kernel_rfl); (try dsimp only at q); go_simp; (try with_reducible rfl))
      try simp only [Act.put, List.setIfInBounds_toArray, List.set_cons_zero, List.set_cons_succ]
      refine wpAnyL_ready (rs := [12, 18, 24]) hc20 (by kernel_rfl) (by simp) ?_
      refine AllReadyL.cons (o := ?o22) ?hi22 (fun K hK => ?st22) ?mo22
      case hi22 => (simp only [List.getElem?_toArray, List.getElem?_cons_succ, List.getElem?_cons_zero]; try rfl)
      case st22 =>
        obtain ⟨W22, e22⟩ : ∃ x, x = wd.alloc (.cells #[.string f, .string t] 46) := ⟨_, rfl⟩
        obtain ⟨t22, s22⟩ : ∃ x, x = wd.heap.size := ⟨_, rfl⟩
        have P22 := Lib.hid (show PuS w1 W22 _ _ _ _ _ _ _ _ _ _ _ _ _ _ _ _ _ _ _ from e22 ▸ P0.out.alloc _)
        have T12_22 := Lib.hid (show TmpF w1 W22 t22 46 #[.string f, .string t] from by rw [e22, s22]; exact TmpF.new P0.out.sz _ _)
        have k1_W22 : W22.cell? ⟨gk, 1, none⟩ = some (.string f) := P22.out.msg_.cell 1
        have k3_W22 : W22.cell? ⟨gk, 3, none⟩ = some (.string t) := P22.out.msg_.cell 3
        have hB_W22 : B ≤ W22.heap.size := Nat.le_trans hBw P22.out.sz
        go_simp
        rw [← e22, ← s22]
        clear e22 s22
        refine hK.out _ _ (P22.out.held k1_W22 k3_W22 (.inr rfl) (.inr rfl) (.inr rfl)) (fun hc22 => ?rs22)
        clear hK K
        try simp only [Act.put, List.setIfInBounds_toArray, List.set_cons_zero, List.set_cons_succ]
        refine wpAnyL_ready (rs := [13, 18, 24]) hc22 (by kernel_rfl) (by simp) ?_
        refine AllReadyL.cons (o := ?o24) ?hi24 (fun K hK => ?st24) ?mo24
        case hi24 => (simp only [List.getElem?_toArray, List.getElem?_cons_succ, List.getElem?_cons_zero]; try rfl)
        case st24 =>
          refine step_append_any _ rfl (.tmp 35) (.tmp 41) 38 rfl B 46 ik (.agg #[.string ⟨#[]⟩, .string ⟨#[]⟩]) 2 32 Try.underlying38 hi_ik hz_ik hs_ik hb_ik rfl (by decide) (.slice Aa N ca) N (rkV L) (by first | (simp [Act.eval]; done) | (simp [Act.eval, Act.put]; done)) P22.out.hK W22.heap.size (some ⟨t22, 0, none⟩) 1 1 [.string f, .string t] (by first | (simp [Act.eval]; done) | (simp [Act.eval, Act.put]; done)) (T12_22.out.reads rfl) (by simp [Value.oneCell']) (by simp only [maxLen]; omega) (by omega) hB_W22 ?_
          intro v24 W24 ho24 hg24 hn24
          obtain ⟨A24, c24, rfl, -, -⟩ := own_slice ho24
          have P24 := Lib.hid (P22.out.appK ho24 hg24 hn24)
          clear ho24 hg24 hn24
          have k1_W24 : W24.cell? ⟨gk, 1, none⟩ = some (.string f) := P24.out.msg_.cell 1
          have k3_W24 : W24.cell? ⟨gk, 3, none⟩ = some (.string t) := P24.out.msg_.cell 3
          have hB_W24 : B ≤ W24.heap.size := Nat.le_trans hBw P24.out.sz
          refine hK.out _ _ (P24.out.held k1_W24 k3_W24 (.inr rfl) (.inr rfl) (.inr rfl)) (fun hc24 => ?rs24)
          clear hK K
          try simp only [Act.put, List.setIfInBounds_toArray, List.set_cons_zero, List.set_cons_succ]
          refine wpAnyL_ready (rs := [18, 24]) hc24 (by kernel_rfl) (by simp) ?_
          refine AllReadyL.cons (o := ?o26) ?hi26 (fun K hK => ?st26) ?mo26
          case hi26 => (simp only [List.getElem?_toArray, List.getElem?_cons_succ, List.getElem?_cons_zero]; try rfl)
          case st26 =>
            obtain ⟨W26, e26⟩ : ∃ x, x = W24.alloc (.cells #[.int .i64 0] 3) := ⟨_, rfl⟩
            obtain ⟨t26, s26⟩ : ∃ x, x = W24.heap.size := ⟨_, rfl⟩
            have P26 := Lib.hid (show PuS w1 W26 _ _ _ _ _ _ _ _ _ _ _ _ _ _ _ _ _ _ _ from e26 ▸ P24.out.alloc _)
            have T18_26 := Lib.hid (show TmpF w1 W26 t26 3 #[.int .i64 0] from by rw [e26, s26]; exact TmpF.new P24.out.sz _ _)
            have k1_W26 : W26.cell? ⟨gk, 1, none⟩ = some (.string f) := P26.out.msg_.cell 1
            have k3_W26 : W26.cell? ⟨gk, 3, none⟩ = some (.string t) := P26.out.msg_.cell 3
            have hB_W26 : B ≤ W26.heap.size := Nat.le_trans hBw P26.out.sz
            go_simp
            rw [← e26, ← s26]
            clear e26 s26
            refine hK.out _ _ (P26.out.held k1_W26 k3_W26 (.inr rfl) (.inr rfl) (.inr rfl)) (fun hc26 => ?rs26)
            clear hK K
            try simp only [Act.put, List.setIfInBounds_toArray, List.set_cons_zero, List.set_cons_succ]
            refine wpAnyL_ready (rs := [19, 24]) hc26 (by kernel_rfl) (by simp) ?_
            refine AllReadyL.cons (o := ?o28) ?hi28 (fun K hK => ?st28) ?mo28
            case hi28 => (simp only [List.getElem?_toArray, List.getElem?_cons_succ, List.getElem?_cons_zero]; try rfl)
            case st28 =>
              refine step_append_any _ rfl (.tmp 46) (.tmp 47) 22 rfl B 3 ii (.int .i64 0) 1 8 Try.underlying22 hi_ii hz_ii hs_ii hb_ii rfl (by decide) (.slice Ab N cb) N (rsV L) (by first | (simp [Act.eval]; done) | (simp [Act.eval, Act.put]; done)) P26.out.hS W26.heap.size (some ⟨t26, 0, none⟩) 1 1 [.int .i64 0] (by first | (simp [Act.eval]; done) | (simp [Act.eval, Act.put]; done)) (T18_26.out.reads rfl) (by simp [Value.oneCell']) (by simp only [maxLen]; omega) (by omega) hB_W26 ?_
              intro v28 W28 ho28 hg28 hn28
              obtain ⟨A28, c28, rfl, -, -⟩ := own_slice ho28
              have P28 := Lib.hid (P26.out.appS ho28 hg28 hn28)
              clear ho28 hg28 hn28
              have k1_W28 : W28.cell? ⟨gk, 1, none⟩ = some (.string f) := P28.out.msg_.cell 1
              have k3_W28 : W28.cell? ⟨gk, 3, none⟩ = some (.string t) := P28.out.msg_.cell 3
              have hB_W28 : B ≤ W28.heap.size := Nat.le_trans hBw P28.out.sz
              refine hK.out _ _ (P28.out.held k1_W28 k3_W28 (.inr rfl) (.inr rfl) (.inr rfl)) (fun hc28 => ?rs28)
              clear hK K
              try simp only [Act.put, List.setIfInBounds_toArray, List.set_cons_zero, List.set_cons_succ]
              refine wpAnyL_ready (rs := [24]) hc28 (by kernel_rfl) (by simp) ?_
              refine AllReadyL.cons (o := ?o30) ?hi30 (fun K hK => ?st30) ?mo30
              case hi30 => (simp only [List.getElem?_toArray, List.getElem?_cons_succ, List.getElem?_cons_zero]; try rfl)
              case st30 =>
                obtain ⟨W30, e30⟩ : ∃ x, x = W28.alloc (.cells #[.slice none 0 0] 22) := ⟨_, rfl⟩
                obtain ⟨t30, s30⟩ : ∃ x, x = W28.heap.size := ⟨_, rfl⟩
                have P30 := Lib.hid (show PuS w1 W30 _ _ _ _ _ _ _ _ _ _ _ _ _ _ _ _ _ _ _ from e30 ▸ P28.out.alloc _)
                have T24_30 := Lib.hid (show TmpF w1 W30 t30 22 #[.slice none 0 0] from by rw [e30, s30]; exact TmpF.new P28.out.sz _ _)
                have k1_W30 : W30.cell? ⟨gk, 1, none⟩ = some (.string f) := P30.out.msg_.cell 1
                have k3_W30 : W30.cell? ⟨gk, 3, none⟩ = some (.string t) := P30.out.msg_.cell 3
                have hB_W30 : B ≤ W30.heap.size := Nat.le_trans hBw P30.out.sz
                go_simp
                rw [← e30, ← s30]
                clear e30 s30
                refine hK.out _ _ (P30.out.held k1_W30 k3_W30 (.inr rfl) (.inr rfl) (.inr rfl)) (fun hc30 => ?rs30)
                clear hK K
                try simp only [Act.put, List.setIfInBounds_toArray, List.set_cons_zero, List.set_cons_succ]
                refine wpAnyL_ready (rs := [25]) hc30 (by kernel_rfl) (by simp) ?_
                refine AllReadyL.cons (o := ?o32) ?hi32 (fun K hK => ?st32) ?mo32
                case hi32 => (simp only [List.getElem?_toArray, List.getElem?_cons_succ, List.getElem?_cons_zero]; try rfl)
                case st32 =>
                  refine step_append_any _ rfl (.tmp 52) (.tmp 53) 39 rfl B 22 ih (.slice none 0 0) 1 24 Try.underlying39 hi_ih hz_ih hs_ih hb_ih rfl (by decide) (.slice Ac N cc) N (rhV L) (by first | (simp [Act.eval]; done) | (simp [Act.eval, Act.put]; done)) P30.out.hH W30.heap.size (some ⟨t30, 0, none⟩) 1 1 [.slice none 0 0] (by first | (simp [Act.eval]; done) | (simp [Act.eval, Act.put]; done)) (T24_30.out.reads rfl) (by simp [Value.oneCell']) (by simp only [maxLen]; omega) (by omega) hB_W30 ?_
                  intro v32 W32 ho32 hg32 hn32
                  obtain ⟨A32, c32, rfl, -, -⟩ := own_slice ho32
                  have P32 := Lib.hid (P30.out.appH ho32 hg32 hn32)
                  clear ho32 hg32 hn32
                  have k1_W32 : W32.cell? ⟨gk, 1, none⟩ = some (.string f) := P32.out.msg_.cell 1
                  have k3_W32 : W32.cell? ⟨gk, 3, none⟩ = some (.string t) := P32.out.msg_.cell 3
                  have hB_W32 : B ≤ W32.heap.size := Nat.le_trans hBw P32.out.sz
                  refine hK.out _ _ (P32.out.held k1_W32 k3_W32 (.inr rfl) (.inr rfl) (.inr rfl)) (fun hc32 => ?rs32)
                  clear hK K
                  try simp only [Act.put, List.setIfInBounds_toArray, List.set_cons_zero, List.set_cons_succ]
                  refine wpAnyL_take (i := 26) (oi := ?oi33) (v := ?v33) ?hi33 hnosel (by kernel_rfl) (by kernel_rfl) hc32 (by kernel_rfl) (fun _ _ _ h => h) ?hy33 (P32.out.held k1_W32 k3_W32 (.inr rfl) (.inr rfl) (.inr rfl)) (fun hc33 => ?rest33)
                  case hi33 => (simp only [List.getElem?_toArray, List.getElem?_cons_succ, List.getElem?_cons_zero]; try rfl)
                  case hy33 => (refine Or.inl ⟨by rfl, ?_⟩; intro w hSw; go_simp; (try with_reducible rfl))
                  try simp only [Act.put, List.setIfInBounds_toArray, List.set_cons_zero, List.set_cons_succ]
                  refine wpAnyL_take (i := 27) (oi := ?oi34) (v := ?v34) ?hi34 hnosel (by kernel_rfl) (by kernel_rfl) hc33 (by kernel_rfl) (fun _ _ _ h => h) ?hy34 (P32.out.held k1_W32 k3_W32 (.inr rfl) (.inr rfl) (.inr rfl)) (fun hc34 => ?rest34)
                  case hi34 => (simp only [List.getElem?_toArray, List.getElem?_cons_succ, List.getElem?_cons_zero]; try rfl)
                  case hy34 => (refine Or.inl ⟨by rfl, ?_⟩; intro w hSw; go_simp; (try with_reducible rfl))
                  try simp only [Act.put, List.setIfInBounds_toArray, List.set_cons_zero, List.set_cons_succ]
                  refine wpAnyL_ready (rs := [28]) hc34 (by kernel_rfl) (by simp) ?_
                  refine AllReadyL.cons (o := ?o36) ?hi36 (fun K hK => ?st36) ?mo36
                  case hi36 => (simp only [List.getElem?_toArray, List.getElem?_cons_succ, List.getElem?_cons_zero]; try rfl)
                  case st36 =>
                    have st36_ := P32.out.blk.cell 0
                    have sf36_ := P32.out.blk.frozen 0
                    obtain ⟨W36, e36⟩ : ∃ x, x = W32.setCell ⟨m, 0, none⟩ (.slice A24 (N + 1) c24) := ⟨_, rfl⟩
                    have P36 := Lib.hid (show PuS w1 W36 _ _ _ _ _ _ _ _ _ _ _ _ _ _ _ _ _ _ _ from e36 ▸ P32.out.set 0 (by rfl))
                    have k1_W36 : W36.cell? ⟨gk, 1, none⟩ = some (.string f) := P36.out.msg_.cell 1
                    have k3_W36 : W36.cell? ⟨gk, 3, none⟩ = some (.string t) := P36.out.msg_.cell 3
                    have hB_W36 : B ≤ W36.heap.size := Nat.le_trans hBw P36.out.sz
                    go_simp
                    rw [← e36]
                    clear st36_ sf36_ e36
                    refine hK.out _ _ (P36.out.held k1_W36 k3_W36 (.inl (by kernel_rfl)) (.inr rfl) (.inr rfl)) (fun hc36 => ?rs36)
                    clear hK K
                    try simp only [Act.put, List.setIfInBounds_toArray, List.set_cons_zero, List.set_cons_succ]
                    refine wpAnyL_take (i := 29) (oi := ?oi37) (v := ?v37) ?hi37 hnosel (by kernel_rfl) (by kernel_rfl) hc36 (by kernel_rfl) (fun _ _ _ h => h) ?hy37 (P36.out.held k1_W36 k3_W36 (.inl (by kernel_rfl)) (.inr rfl) (.inr rfl)) (fun hc37 => ?rest37)
                    case hi37 => (simp only [List.getElem?_toArray, List.getElem?_cons_succ, List.getElem?_cons_zero]; try rfl)
                    case hy37 => (refine Or.inl ⟨by rfl, ?_⟩; intro w hSw; go_simp; (try with_reducible rfl))
                    try simp only [Act.put, List.setIfInBounds_toArray, List.set_cons_zero, List.set_cons_succ]
                    refine wpAnyL_take (i := 30) (oi := ?oi38) (v := ?v38) ?hi38 hnosel (by kernel_rfl) (by kernel_rfl) hc37 (by kernel_rfl) (fun _ _ _ h => h) ?hy38 (P36.out.held k1_W36 k3_W36 (.inl (by kernel_rfl)) (.inr rfl) (.inr rfl)) (fun hc38 => ?rest38)
                    case hi38 => (simp only [List.getElem?_toArray, List.getElem?_cons_succ, List.getElem?_cons_zero]; try rfl)
                    case hy38 => (refine Or.inl ⟨by rfl, ?_⟩; intro w hSw; go_simp; (try with_reducible rfl))
                    try simp only [Act.put, List.setIfInBounds_toArray, List.set_cons_zero, List.set_cons_succ]
                    refine wpAnyL_ready (rs := [31]) hc38 (by kernel_rfl) (by simp) ?_
                    refine AllReadyL.cons (o := ?o40) ?hi40 (fun K hK => ?st40) ?mo40
                    case hi40 => (simp only [List.getElem?_toArray, List.getElem?_cons_succ, List.getElem?_cons_zero]; try rfl)
                    case st40 =>
                      have st40_ := P36.out.blk.cell 1
                      have sf40_ := P36.out.blk.frozen 1
                      obtain ⟨W40, e40⟩ : ∃ x, x = W36.setCell ⟨m, 1, none⟩ (.slice A28 (N + 1) c28) := ⟨_, rfl⟩
                      have P40 := Lib.hid (show PuS w1 W40 _ _ _ _ _ _ _ _ _ _ _ _ _ _ _ _ _ _ _ from e40 ▸ P36.out.set 1 (by rfl))
                      have k1_W40 : W40.cell? ⟨gk, 1, none⟩ = some (.string f) := P40.out.msg_.cell 1
                      have k3_W40 : W40.cell? ⟨gk, 3, none⟩ = some (.string t) := P40.out.msg_.cell 3
                      have hB_W40 : B ≤ W40.heap.size := Nat.le_trans hBw P40.out.sz
                      go_simp
                      rw [← e40]
                      clear st40_ sf40_ e40
                      refine hK.out _ _ (P40.out.held k1_W40 k3_W40 (.inl (by kernel_rfl)) (.inl (by kernel_rfl)) (.inr rfl)) (fun hc40 => ?rs40)
                      clear hK K
                      try simp only [Act.put, List.setIfInBounds_toArray, List.set_cons_zero, List.set_cons_succ]
                      refine wpAnyL_take (i := 32) (oi := ?oi41) (v := ?v41) ?hi41 hnosel (by kernel_rfl) (by kernel_rfl) hc40 (by kernel_rfl) (fun _ _ _ h => h) ?hy41 (P40.out.held k1_W40 k3_W40 (.inl (by kernel_rfl)) (.inl (by kernel_rfl)) (.inr rfl)) (fun hc41 => ?rest41)
                      case hi41 => (simp only [List.getElem?_toArray, List.getElem?_cons_succ, List.getElem?_cons_zero]; try rfl)
                      case hy41 => (refine Or.inl ⟨by rfl, ?_⟩; intro w hSw; go_simp; (try with_reducible rfl))
                      try simp only [Act.put, List.setIfInBounds_toArray, List.set_cons_zero, List.set_cons_succ]
                      refine wpAnyL_take (i := 33) (oi := ?oi42) (v := ?v42) ?hi42 hnosel (by kernel_rfl) (by kernel_rfl) hc41 (by kernel_rfl) (fun _ _ _ h => h) ?hy42 (P40.out.held k1_W40 k3_W40 (.inl (by kernel_rfl)) (.inl (by kernel_rfl)) (.inr rfl)) (fun hc42 => ?rest42)
                      case hi42 => (simp only [List.getElem?_toArray, List.getElem?_cons_succ, List.getElem?_cons_zero]; try rfl)
                      case hy42 => (refine Or.inl ⟨by rfl, ?_⟩; intro w hSw; go_simp; (try with_reducible rfl))
                      try simp only [Act.put, List.setIfInBounds_toArray, List.set_cons_zero, List.set_cons_succ]
                      refine wpAnyL_ready (rs := [34]) hc42 (by kernel_rfl) (by simp) ?_
                      refine AllReadyL.cons (o := ?o44) ?hi44 (fun K hK => ?st44) ?mo44
                      case hi44 => (simp only [List.getElem?_toArray, List.getElem?_cons_succ, List.getElem?_cons_zero]; try rfl)
                      case st44 =>
                        have st44_ := P40.out.blk.cell 2
                        have sf44_ := P40.out.blk.frozen 2
                        obtain ⟨W44, e44⟩ : ∃ x, x = W40.setCell ⟨m, 2, none⟩ (.slice A32 (N + 1) c32) := ⟨_, rfl⟩
                        have P44 := Lib.hid (show PuS w1 W44 _ _ _ _ _ _ _ _ _ _ _ _ _ _ _ _ _ _ _ from e44 ▸ P40.out.set 2 (by rfl))
                        have k1_W44 : W44.cell? ⟨gk, 1, none⟩ = some (.string f) := P44.out.msg_.cell 1
                        have k3_W44 : W44.cell? ⟨gk, 3, none⟩ = some (.string t) := P44.out.msg_.cell 3
                        have hB_W44 : B ≤ W44.heap.size := Nat.le_trans hBw P44.out.sz
                        go_simp
                        rw [← e44]
                        clear st44_ sf44_ e44
                        refine hK.out _ _ (P44.out.held k1_W44 k3_W44 (.inl (by kernel_rfl)) (.inl (by kernel_rfl)) (.inl (by kernel_rfl))) (fun hc44 => ?rs44)
                        clear hK K
                        try simp only [Act.put, List.setIfInBounds_toArray, List.set_cons_zero, List.set_cons_succ]
                        refine wpAnyL_done (by kernel_rfl) ?_ _
                        refine NoPanic.normal ?_
                        go_wp2_with fail
                        go_meet
                        exact Lib.hid ⟨_, by rw [HN.out], P44.out.fin (by rw [HN.out]; exact HM1.out) hl9 HN.out HV9.out, P44.out.msg_, rfl⟩
                      exact AllReadyL.nil
                    exact AllReadyL.nil
                  exact AllReadyL.nil
                exact AllReadyL.nil
              exact AllReadyL.nil
            refine AllReadyL.cons (o := ?o45) ?hi45 (fun K hK => ?st45) ?mo45
            case hi45 => (simp only [List.getElem?_toArray, List.getElem?_cons_succ, List.getElem?_cons_zero]; try rfl)
            case st45 =>
              obtain ⟨W45, e45⟩ : ∃ x, x = W26.alloc (.cells #[.slice none 0 0] 22) := ⟨_, rfl⟩
              obtain ⟨t45, s45⟩ : ∃ x, x = W26.heap.size := ⟨_, rfl⟩
              have P45 := Lib.hid (show PuS w1 W45 _ _ _ _ _ _ _ _ _ _ _ _ _ _ _ _ _ _ _ from e45 ▸ P26.out.alloc _)
              have T18_45 := Lib.hid (show TmpF w1 W45 _ _ _ from e45 ▸ T18_26.out.alloc _)
              have T24_45 := Lib.hid (show TmpF w1 W45 t45 22 #[.slice none 0 0] from by rw [e45, s45]; exact TmpF.new P26.out.sz _ _)
              have k1_W45 : W45.cell? ⟨gk, 1, none⟩ = some (.string f) := P45.out.msg_.cell 1
              have k3_W45 : W45.cell? ⟨gk, 3, none⟩ = some (.string t) := P45.out.msg_.cell 3
              have hB_W45 : B ≤ W45.heap.size := Nat.le_trans hBw P45.out.sz
              go_simp
              rw [← e45, ← s45]
              clear e45 s45
              refine hK.out _ _ (P45.out.held k1_W45 k3_W45 (.inr rfl) (.inr rfl) (.inr rfl)) (fun hc45 => ?rs45)
              clear hK K
              try simp only [Act.put, List.setIfInBounds_toArray, List.set_cons_zero, List.set_cons_succ]
              refine wpAnyL_ready (rs := [19]) hc45 (by kernel_rfl) (by simp) ?_
              refine AllReadyL.cons (o := ?o47) ?hi47 (fun K hK => ?st47) ?mo47
              case hi47 => (simp only [List.getElem?_toArray, List.getElem?_cons_succ, List.getElem?_cons_zero]; try rfl)
              case st47 =>
                refine step_append_any _ rfl (.tmp 46) (.tmp 47) 22 rfl B 3 ii (.int .i64 0) 1 8 Try.underlying22 hi_ii hz_ii hs_ii hb_ii rfl (by decide) (.slice Ab N cb) N (rsV L) (by first | (simp [Act.eval]; done) | (simp [Act.eval, Act.put]; done)) P45.out.hS W45.heap.size (some ⟨t26, 0, none⟩) 1 1 [.int .i64 0] (by first | (simp [Act.eval]; done) | (simp [Act.eval, Act.put]; done)) (T18_45.out.reads rfl) (by simp [Value.oneCell']) (by simp only [maxLen]; omega) (by omega) hB_W45 ?_
                intro v47 W47 ho47 hg47 hn47
                obtain ⟨A47, c47, rfl, -, -⟩ := own_slice ho47
                have P47 := Lib.hid (P45.out.appS ho47 hg47 hn47)
                have T24_47 := Lib.hid (T24_45.out.grown hg47 lt_S)
                clear ho47 hg47 hn47
                have k1_W47 : W47.cell? ⟨gk, 1, none⟩ = some (.string f) := P47.out.msg_.cell 1
                have k3_W47 : W47.cell? ⟨gk, 3, none⟩ = some (.string t) := P47.out.msg_.cell 3
                have hB_W47 : B ≤ W47.heap.size := Nat.le_trans hBw P47.out.sz
                refine hK.out _ _ (P47.out.held k1_W47 k3_W47 (.inr rfl) (.inr rfl) (.inr rfl)) (fun hc47 => ?rs47)
                clear hK K
                try simp only [Act.put, List.setIfInBounds_toArray, List.set_cons_zero, List.set_cons_succ]
                refine wpAnyL_ready (rs := [25]) hc47 (by kernel_rfl) (by simp) ?_
                refine AllReadyL.cons (o := ?o49) ?hi49 (fun K hK => ?st49) ?mo49
                case hi49 => (simp only [List.getElem?_toArray, List.getElem?_cons_succ, List.getElem?_cons_zero]; try rfl)
                case st49 =>
                  refine step_append_any _ rfl (.tmp 52) (.tmp 53) 39 rfl B 22 ih (.slice none 0 0) 1 24 Try.underlying39 hi_ih hz_ih hs_ih hb_ih rfl (by decide) (.slice Ac N cc) N (rhV L) (by first | (simp [Act.eval]; done) | (simp [Act.eval, Act.put]; done)) P47.out.hH W47.heap.size (some ⟨t45, 0, none⟩) 1 1 [.slice none 0 0] (by first | (simp [Act.eval]; done) | (simp [Act.eval, Act.put]; done)) (T24_47.out.reads rfl) (by simp [Value.oneCell']) (by simp only [maxLen]; omega) (by omega) hB_W47 ?_
                  intro v49 W49 ho49 hg49 hn49
                  obtain ⟨A49, c49, rfl, -, -⟩ := own_slice ho49
                  have P49 := Lib.hid (P47.out.appH ho49 hg49 hn49)
                  clear ho49 hg49 hn49
                  have k1_W49 : W49.cell? ⟨gk, 1, none⟩ = some (.string f) := P49.out.msg_.cell 1
                  have k3_W49 : W49.cell? ⟨gk, 3, none⟩ = some (.string t) := P49.out.msg_.cell 3
                  have hB_W49 : B ≤ W49.heap.size := Nat.le_trans hBw P49.out.sz
                  refine hK.out _ _ (P49.out.held k1_W49 k3_W49 (.inr rfl) (.inr rfl) (.inr rfl)) (fun hc49 => ?rs49)
                  clear hK K
                  try simp only [Act.put, List.setIfInBounds_toArray, List.set_cons_zero, List.set_cons_succ]
                  refine wpAnyL_take (i := 26) (oi := ?oi50) (v := ?v50) ?hi50 hnosel (by kernel_rfl) (by kernel_rfl) hc49 (by kernel_rfl) (fun _ _ _ h => h) ?hy50 (P49.out.held k1_W49 k3_W49 (.inr rfl) (.inr rfl) (.inr rfl)) (fun hc50 => ?rest50)
                  case hi50 => (simp only [List.getElem?_toArray, List.getElem?_cons_succ, List.getElem?_cons_zero]; try rfl)
                  case hy50 => (refine Or.inl ⟨by rfl, ?_⟩; intro w hSw; go_simp; (try with_reducible rfl))
                  try simp only [Act.put, List.setIfInBounds_toArray, List.set_cons_zero, List.set_cons_succ]
                  refine wpAnyL_take (i := 27) (oi := ?oi51) (v := ?v51) ?hi51 hnosel (by kernel_rfl) (by kernel_rfl) hc50 (by kernel_rfl) (fun _ _ _ h => h) ?hy51 (P49.out.held k1_W49 k3_W49 (.inr rfl) (.inr rfl) (.inr rfl)) (fun hc51 => ?rest51)
                  case hi51 => (simp only [List.getElem?_toArray, List.getElem?_cons_succ, List.getElem?_cons_zero]; try rfl)
                  case hy51 => (refine Or.inl ⟨by rfl, ?_⟩; intro w hSw; go_simp; (try with_reducible rfl))
                  try simp only [Act.put, List.setIfInBounds_toArray, List.set_cons_zero, List.set_cons_succ]
                  refine wpAnyL_ready (rs := [28]) hc51 (by kernel_rfl) (by simp) ?_
                  refine AllReadyL.cons (o := ?o53) ?hi53 (fun K hK => ?st53) ?mo53
                  case hi53 => (simp only [List.getElem?_toArray, List.getElem?_cons_succ, List.getElem?_cons_zero]; try rfl)
                  case st53 =>
                    have st53_ := P49.out.blk.cell 0
                    have sf53_ := P49.out.blk.frozen 0
                    obtain ⟨W53, e53⟩ : ∃ x, x = W49.setCell ⟨m, 0, none⟩ (.slice A24 (N + 1) c24) := ⟨_, rfl⟩
                    have P53 := Lib.hid (show PuS w1 W53 _ _ _ _ _ _ _ _ _ _ _ _ _ _ _ _ _ _ _ from e53 ▸ P49.out.set 0 (by rfl))
                    have k1_W53 : W53.cell? ⟨gk, 1, none⟩ = some (.string f) := P53.out.msg_.cell 1
                    have k3_W53 : W53.cell? ⟨gk, 3, none⟩ = some (.string t) := P53.out.msg_.cell 3
                    have hB_W53 : B ≤ W53.heap.size := Nat.le_trans hBw P53.out.sz
                    go_simp
                    rw [← e53]
                    clear st53_ sf53_ e53
                    refine hK.out _ _ (P53.out.held k1_W53 k3_W53 (.inl (by kernel_rfl)) (.inr rfl) (.inr rfl)) (fun hc53 => ?rs53)
                    clear hK K
                    try simp only [Act.put, List.setIfInBounds_toArray, List.set_cons_zero, List.set_cons_succ]
                    refine wpAnyL_take (i := 29) (oi := ?oi54) (v := ?v54) ?hi54 hnosel (by kernel_rfl) (by kernel_rfl) hc53 (by kernel_rfl) (fun _ _ _ h => h) ?hy54 (P53.out.held k1_W53 k3_W53 (.inl (by kernel_rfl)) (.inr rfl) (.inr rfl)) (fun hc54 => ?rest54)
                    case hi54 => (simp only [List.getElem?_toArray, List.getElem?_cons_succ, List.getElem?_cons_zero]; try rfl)
                    case hy54 => (refine Or.inl ⟨by rfl, ?_⟩; intro w hSw; go_simp; (try with_reducible rfl))
                    try simp only [Act.put, List.setIfInBounds_toArray, List.set_cons_zero, List.set_cons_succ]
                    refine wpAnyL_take (i := 30) (oi := ?oi55) (v := ?v55) ?hi55 hnosel (by kernel_rfl) (by kernel_rfl) hc54 (by kernel_rfl) (fun _ _ _ h => h) ?hy55 (P53.out.held k1_W53 k3_W53 (.inl (by kernel_rfl)) (.inr rfl) (.inr rfl)) (fun hc55 => ?rest55)
                    case hi55 => (simp only [List.getElem?_toArray, List.getElem?_cons_succ, List.getElem?_cons_zero]; try rfl)
                    case hy55 => (refine Or.inl ⟨by rfl, ?_⟩; intro w hSw; go_simp; (try with_reducible rfl))
                    try simp only [Act.put, List.setIfInBounds_toArray, List.set_cons_zero, List.set_cons_succ]
                    refine wpAnyL_ready (rs := [31]) hc55 (by kernel_rfl) (by simp) ?_
                    refine AllReadyL.cons (o := ?o57) ?hi57 (fun K hK => ?st57) ?mo57
                    case hi57 => (simp only [List.getElem?_toArray, List.getElem?_cons_succ, List.getElem?_cons_zero]; try rfl)
                    case st57 =>
                      have st57_ := P53.out.blk.cell 1
                      have sf57_ := P53.out.blk.frozen 1
                      obtain ⟨W57, e57⟩ : ∃ x, x = W53.setCell ⟨m, 1, none⟩ (.slice A47 (N + 1) c47) := ⟨_, rfl⟩
                      have P57 := Lib.hid (show PuS w1 W57 _ _ _ _ _ _ _ _ _ _ _ _ _ _ _ _ _ _ _ from e57 ▸ P53.out.set 1 (by rfl))
                      have k1_W57 : W57.cell? ⟨gk, 1, none⟩ = some (.string f) := P57.out.msg_.cell 1
                      have k3_W57 : W57.cell? ⟨gk, 3, none⟩ = some (.string t) := P57.out.msg_.cell 3
                      have hB_W57 : B ≤ W57.heap.size := Nat.le_trans hBw P57.out.sz
                      go_simp
                      rw [← e57]
                      clear st57_ sf57_ e57
                      refine hK.out _ _ (P57.out.held k1_W57 k3_W57 (.inl (by kernel_rfl)) (.inl (by kernel_rfl)) (.inr rfl)) (fun hc57 => ?rs57)
                      clear hK K
                      try simp only [Act.put, List.setIfInBounds_toArray, List.set_cons_zero, List.set_cons_succ]
                      refine wpAnyL_take (i := 32) (oi := ?oi58) (v := ?v58) ?hi58 hnosel (by kernel_rfl) (by kernel_rfl) hc57 (by kernel_rfl) (fun _ _ _ h => h) ?hy58 (P57.out.held k1_W57 k3_W57 (.inl (by kernel_rfl)) (.inl (by kernel_rfl)) (.inr rfl)) (fun hc58 => ?rest58)
                      case hi58 => (simp only [List.getElem?_toArray, List.getElem?_cons_succ, List.getElem?_cons_zero]; try rfl)
                      case hy58 => (refine Or.inl ⟨by rfl, ?_⟩; intro w hSw; go_simp; (try with_reducible rfl))
                      try simp only [Act.put, List.setIfInBounds_toArray, List.set_cons_zero, List.set_cons_succ]
                      refine wpAnyL_take (i := 33) (oi := ?oi59) (v := ?v59) ?hi59 hnosel (by kernel_rfl) (by kernel_rfl) hc58 (by kernel_rfl) (fun _ _ _ h => h) ?hy59 (P57.out.held k1_W57 k3_W57 (.inl (by kernel_rfl)) (.inl (by kernel_rfl)) (.inr rfl)) (fun hc59 => ?rest59)
                      case hi59 => (simp only [List.getElem?_toArray, List.getElem?_cons_succ, List.getElem?_cons_zero]; try rfl)
                      case hy59 => (refine Or.inl ⟨by rfl, ?_⟩; intro w hSw; go_simp; (try with_reducible rfl))
                      try simp only [Act.put, List.setIfInBounds_toArray, List.set_cons_zero, List.set_cons_succ]
                      refine wpAnyL_ready (rs := [34]) hc59 (by kernel_rfl) (by simp) ?_
                      refine AllReadyL.cons (o := ?o61) ?hi61 (fun K hK => ?st61) ?mo61
                      case hi61 => (simp only [List.getElem?_toArray, List.getElem?_cons_succ, List.getElem?_cons_zero]; try rfl)
                      case st61 =>
                        have st61_ := P57.out.blk.cell 2
                        have sf61_ := P57.out.blk.frozen 2
                        obtain ⟨W61, e61⟩ : ∃ x, x = W57.setCell ⟨m, 2, none⟩ (.slice A49 (N + 1) c49) := ⟨_, rfl⟩
                        have P61 := Lib.hid (show PuS w1 W61 _ _ _ _ _ _ _ _ _ _ _ _ _ _ _ _ _ _ _ from e61 ▸ P57.out.set 2 (by rfl))
                        have k1_W61 : W61.cell? ⟨gk, 1, none⟩ = some (.string f) := P61.out.msg_.cell 1
                        have k3_W61 : W61.cell? ⟨gk, 3, none⟩ = some (.string t) := P61.out.msg_.cell 3
                        have hB_W61 : B ≤ W61.heap.size := Nat.le_trans hBw P61.out.sz
                        go_simp
                        rw [← e61]
                        clear st61_ sf61_ e61
                        refine hK.out _ _ (P61.out.held k1_W61 k3_W61 (.inl (by kernel_rfl)) (.inl (by kernel_rfl)) (.inl (by kernel_rfl))) (fun hc61 => ?rs61)
                        clear hK K
                        try simp only [Act.put, List.setIfInBounds_toArray, List.set_cons_zero, List.set_cons_succ]
                        refine wpAnyL_done (by kernel_rfl) ?_ _
                        refine NoPanic.normal ?_
                        go_wp2_with fail
                        go_meet
                        exact Lib.hid ⟨_, by rw [HN.out], P61.out.fin (by rw [HN.out]; exact HM1.out) hl9 HN.out HV9.out, P61.out.msg_, rfl⟩
                      exact AllReadyL.nil
                    exact AllReadyL.nil
                  exact AllReadyL.nil
                exact AllReadyL.nil
              exact AllReadyL.nil
            exact AllReadyL.nil
          refine AllReadyL.cons (o := ?o62) ?hi62 (fun K hK => ?st62) ?mo62
          case hi62 => (simp only [List.getElem?_toArray, List.getElem?_cons_succ, List.getElem?_cons_zero]; try rfl)
          case st62 =>
            obtain ⟨W62, e62⟩ : ∃ x, x = W24.alloc (.cells #[.slice none 0 0] 22) := ⟨_, rfl⟩
            obtain ⟨t62, s62⟩ : ∃ x, x = W24.heap.size := ⟨_, rfl⟩
            have P62 := Lib.hid (show PuS w1 W62 _ _ _ _ _ _ _ _ _ _ _ _ _ _ _ _ _ _ _ from e62 ▸ P24.out.alloc _)
            have T24_62 := Lib.hid (show TmpF w1 W62 t62 22 #[.slice none 0 0] from by rw [e62, s62]; exact TmpF.new P24.out.sz _ _)
            have k1_W62 : W62.cell? ⟨gk, 1, none⟩ = some (.string f) := P62.out.msg_.cell 1
            have k3_W62 : W62.cell? ⟨gk, 3, none⟩ = some (.string t) := P62.out.msg_.cell 3
            have hB_W62 : B ≤ W62.heap.size := Nat.le_trans hBw P62.out.sz
            go_simp
            rw [← e62, ← s62]
            clear e62 s62
            refine hK.out _ _ (P62.out.held k1_W62 k3_W62 (.inr rfl) (.inr rfl) (.inr rfl)) (fun hc62 => ?rs62)
            clear hK K
            try simp only [Act.put, List.setIfInBounds_toArray, List.set_cons_zero, List.set_cons_succ]
            refine wpAnyL_ready (rs := [18]) hc62 (by kernel_rfl) (by simp) ?_
            refine AllReadyL.cons (o := ?o64) ?hi64 (fun K hK => ?st64) ?mo64
            case hi64 => (simp only [List.getElem?_toArray, List.getElem?_cons_succ, List.getElem?_cons_zero]; try rfl)
            case st64 =>
              obtain ⟨W64, e64⟩ : ∃ x, x = W62.alloc (.cells #[.int .i64 0] 3) := ⟨_, rfl⟩
              obtain ⟨t64, s64⟩ : ∃ x, x = W62.heap.size := ⟨_, rfl⟩
              have P64 := Lib.hid (show PuS w1 W64 _ _ _ _ _ _ _ _ _ _ _ _ _ _ _ _ _ _ _ from e64 ▸ P62.out.alloc _)
              have T24_64 := Lib.hid (show TmpF w1 W64 _ _ _ from e64 ▸ T24_62.out.alloc _)
              have T18_64 := Lib.hid (show TmpF w1 W64 t64 3 #[.int .i64 0] from by rw [e64, s64]; exact TmpF.new P62.out.sz _ _)
              have k1_W64 : W64.cell? ⟨gk, 1, none⟩ = some (.string f) := P64.out.msg_.cell 1
              have k3_W64 : W64.cell? ⟨gk, 3, none⟩ = some (.string t) := P64.out.msg_.cell 3
              have hB_W64 : B ≤ W64.heap.size := Nat.le_trans hBw P64.out.sz
              go_simp
              rw [← e64, ← s64]
              clear e64 s64
              refine hK.out _ _ (P64.out.held k1_W64 k3_W64 (.inr rfl) (.inr rfl) (.inr rfl)) (fun hc64 => ?rs64)
              clear hK K
              try simp only [Act.put, List.setIfInBounds_toArray, List.set_cons_zero, List.set_cons_succ]
              refine wpAnyL_ready (rs := [19]) hc64 (by kernel_rfl) (by simp) ?_
              refine AllReadyL.cons (o := ?o66) ?hi66 (fun K hK => ?st66) ?mo66
              case hi66 => (simp only [List.getElem?_toArray, List.getElem?_cons_succ, List.getElem?_cons_zero]; try rfl)
              case st66 =>
                refine step_append_any _ rfl (.tmp 46) (.tmp 47) 22 rfl B 3 ii (.int .i64 0) 1 8 Try.underlying22 hi_ii hz_ii hs_ii hb_ii rfl (by decide) (.slice Ab N cb) N (rsV L) (by first | (simp [Act.eval]; done) | (simp [Act.eval, Act.put]; done)) P64.out.hS W64.heap.size (some ⟨t64, 0, none⟩) 1 1 [.int .i64 0] (by first | (simp [Act.eval]; done) | (simp [Act.eval, Act.put]; done)) (T18_64.out.reads rfl) (by simp [Value.oneCell']) (by simp only [maxLen]; omega) (by omega) hB_W64 ?_
                intro v66 W66 ho66 hg66 hn66
                obtain ⟨A66, c66, rfl, -, -⟩ := own_slice ho66
                have P66 := Lib.hid (P64.out.appS ho66 hg66 hn66)
                have T24_66 := Lib.hid (T24_64.out.grown hg66 lt_S)
                clear ho66 hg66 hn66
                have k1_W66 : W66.cell? ⟨gk, 1, none⟩ = some (.string f) := P66.out.msg_.cell 1
                have k3_W66 : W66.cell? ⟨gk, 3, none⟩ = some (.string t) := P66.out.msg_.cell 3
                have hB_W66 : B ≤ W66.heap.size := Nat.le_trans hBw P66.out.sz
                refine hK.out _ _ (P66.out.held k1_W66 k3_W66 (.inr rfl) (.inr rfl) (.inr rfl)) (fun hc66 => ?rs66)
                clear hK K
                try simp only [Act.put, List.setIfInBounds_toArray, List.set_cons_zero, List.set_cons_succ]
                refine wpAnyL_ready (rs := [25]) hc66 (by kernel_rfl) (by simp) ?_
                refine AllReadyL.cons (o := ?o68) ?hi68 (fun K hK => ?st68) ?mo68
                case hi68 => (simp only [List.getElem?_toArray, List.getElem?_cons_succ, List.getElem?_cons_zero]; try rfl)
                case st68 =>
                  refine step_append_any _ rfl (.tmp 52) (.tmp 53) 39 rfl B 22 ih (.slice none 0 0) 1 24 Try.underlying39 hi_ih hz_ih hs_ih hb_ih rfl (by decide) (.slice Ac N cc) N (rhV L) (by first | (simp [Act.eval]; done) | (simp [Act.eval, Act.put]; done)) P66.out.hH W66.heap.size (some ⟨t62, 0, none⟩) 1 1 [.slice none 0 0] (by first | (simp [Act.eval]; done) | (simp [Act.eval, Act.put]; done)) (T24_66.out.reads rfl) (by simp [Value.oneCell']) (by simp only [maxLen]; omega) (by omega) hB_W66 ?_
                  intro v68 W68 ho68 hg68 hn68
                  obtain ⟨A68, c68, rfl, -, -⟩ := own_slice ho68
                  have P68 := Lib.hid (P66.out.appH ho68 hg68 hn68)
                  clear ho68 hg68 hn68
                  have k1_W68 : W68.cell? ⟨gk, 1, none⟩ = some (.string f) := P68.out.msg_.cell 1
                  have k3_W68 : W68.cell? ⟨gk, 3, none⟩ = some (.string t) := P68.out.msg_.cell 3
                  have hB_W68 : B ≤ W68.heap.size := Nat.le_trans hBw P68.out.sz
                  refine hK.out _ _ (P68.out.held k1_W68 k3_W68 (.inr rfl) (.inr rfl) (.inr rfl)) (fun hc68 => ?rs68)
                  clear hK K
                  try simp only [Act.put, List.setIfInBounds_toArray, List.set_cons_zero, List.set_cons_succ]
                  refine wpAnyL_take (i := 26) (oi := ?oi69) (v := ?v69) ?hi69 hnosel (by kernel_rfl) (by kernel_rfl) hc68 (by kernel_rfl) (fun _ _ _ h => h) ?hy69 (P68.out.held k1_W68 k3_W68 (.inr rfl) (.inr rfl) (.inr rfl)) (fun hc69 => ?rest69)
                  case hi69 => (simp only [List.getElem?_toArray, List.getElem?_cons_succ, List.getElem?_cons_zero]; try rfl)
                  case hy69 => (refine Or.inl ⟨by rfl, ?_⟩; intro w hSw; go_simp; (try with_reducible rfl))
                  try simp only [Act.put, List.setIfInBounds_toArray, List.set_cons_zero, List.set_cons_succ]
                  refine wpAnyL_take (i := 27) (oi := ?oi70) (v := ?v70) ?hi70 hnosel (by kernel_rfl) (by kernel_rfl) hc69 (by kernel_rfl) (fun _ _ _ h => h) ?hy70 (P68.out.held k1_W68 k3_W68 (.inr rfl) (.inr rfl) (.inr rfl)) (fun hc70 => ?rest70)
                  case hi70 => (simp only [List.getElem?_toArray, List.getElem?_cons_succ, List.getElem?_cons_zero]; try rfl)
                  case hy70 => (refine Or.inl ⟨by rfl, ?_⟩; intro w hSw; go_simp; (try with_reducible rfl))
                  try simp only [Act.put, List.setIfInBounds_toArray, List.set_cons_zero, List.set_cons_succ]
                  refine wpAnyL_ready (rs := [28]) hc70 (by kernel_rfl) (by simp) ?_
                  refine AllReadyL.cons (o := ?o72) ?hi72 (fun K hK => ?st72) ?mo72
                  case hi72 => (simp only [List.getElem?_toArray, List.getElem?_cons_succ, List.getElem?_cons_zero]; try rfl)
                  case st72 =>
                    have st72_ := P68.out.blk.cell 0
                    have sf72_ := P68.out.blk.frozen 0
                    obtain ⟨W72, e72⟩ : ∃ x, x = W68.setCell ⟨m, 0, none⟩ (.slice A24 (N + 1) c24) := ⟨_, rfl⟩
                    have P72 := Lib.hid (show PuS w1 W72 _ _ _ _ _ _ _ _ _ _ _ _ _ _ _ _ _ _ _ from e72 ▸ P68.out.set 0 (by rfl))
                    have k1_W72 : W72.cell? ⟨gk, 1, none⟩ = some (.string f) := P72.out.msg_.cell 1
                    have k3_W72 : W72.cell? ⟨gk, 3, none⟩ = some (.string t) := P72.out.msg_.cell 3
                    have hB_W72 : B ≤ W72.heap.size := Nat.le_trans hBw P72.out.sz
                    go_simp
                    rw [← e72]
                    clear st72_ sf72_ e72
                    refine hK.out _ _ (P72.out.held k1_W72 k3_W72 (.inl (by kernel_rfl)) (.inr rfl) (.inr rfl)) (fun hc72 => ?rs72)
                    clear hK K
                    try simp only [Act.put, List.setIfInBounds_toArray, List.set_cons_zero, List.set_cons_succ]
                    refine wpAnyL_take (i := 29) (oi := ?oi73) (v := ?v73) ?hi73 hnosel (by kernel_rfl) (by kernel_rfl) hc72 (by kernel_rfl) (fun _ _ _ h => h) ?hy73 (P72.out.held k1_W72 k3_W72 (.inl (by kernel_rfl)) (.inr rfl) (.inr rfl)) (fun hc73 => ?rest73)
                    case hi73 => (simp only [List.getElem?_toArray, List.getElem?_cons_succ, List.getElem?_cons_zero]; try rfl)
                    case hy73 => (refine Or.inl ⟨by rfl, ?_⟩; intro w hSw; go_simp; (try with_reducible rfl))
                    try simp only [Act.put, List.setIfInBounds_toArray, List.set_cons_zero, List.set_cons_succ]
                    refine wpAnyL_take (i := 30) (oi := ?oi74) (v := ?v74) ?hi74 hnosel (by kernel_rfl) (by kernel_rfl) hc73 (by kernel_rfl) (fun _ _ _ h => h) ?hy74 (P72.out.held k1_W72 k3_W72 (.inl (by kernel_rfl)) (.inr rfl) (.inr rfl)) (fun hc74 => ?rest74)
                    case hi74 => (simp only [List.getElem?_toArray, List.getElem?_cons_succ, List.getElem?_cons_zero]; try rfl)
                    case hy74 => (refine Or.inl ⟨by rfl, ?_⟩; intro w hSw; go_simp; (try with_reducible rfl))
                    try simp only [Act.put, List.setIfInBounds_toArray, List.set_cons_zero, List.set_cons_succ]
                    refine wpAnyL_ready (rs := [31]) hc74 (by kernel_rfl) (by simp) ?_
                    refine AllReadyL.cons (o := ?o76) ?hi76 (fun K hK => ?st76) ?mo76
                    case hi76 => (simp only [List.getElem?_toArray, List.getElem?_cons_succ, List.getElem?_cons_zero]; try rfl)
                    case st76 =>
                      have st76_ := P72.out.blk.cell 1
                      have sf76_ := P72.out.blk.frozen 1
                      obtain ⟨W76, e76⟩ : ∃ x, x = W72.setCell ⟨m, 1, none⟩ (.slice A66 (N + 1) c66) := ⟨_, rfl⟩
                      have P76 := Lib.hid (show PuS w1 W76 _ _ _ _ _ _ _ _ _ _ _ _ _ _ _ _ _ _ _ from e76 ▸ P72.out.set 1 (by rfl))
                      have k1_W76 : W76.cell? ⟨gk, 1, none⟩ = some (.string f) := P76.out.msg_.cell 1
                      have k3_W76 : W76.cell? ⟨gk, 3, none⟩ = some (.string t) := P76.out.msg_.cell 3
                      have hB_W76 : B ≤ W76.heap.size := Nat.le_trans hBw P76.out.sz
                      go_simp
                      rw [← e76]
                      clear st76_ sf76_ e76
                      refine hK.out _ _ (P76.out.held k1_W76 k3_W76 (.inl (by kernel_rfl)) (.inl (by kernel_rfl)) (.inr rfl)) (fun hc76 => ?rs76)
                      clear hK K
                      try simp only [Act.put, List.setIfInBounds_toArray, List.set_cons_zero, List.set_cons_succ]
                      refine wpAnyL_take (i := 32) (oi := ?oi77) (v := ?v77) ?hi77 hnosel (by kernel_rfl) (by kernel_rfl) hc76 (by kernel_rfl) (fun _ _ _ h => h) ?hy77 (P76.out.held k1_W76 k3_W76 (.inl (by kernel_rfl)) (.inl (by kernel_rfl)) (.inr rfl)) (fun hc77 => ?rest77)
                      case hi77 => (simp only [List.getElem?_toArray, List.getElem?_cons_succ, List.getElem?_cons_zero]; try rfl)
                      case hy77 => (refine Or.inl ⟨by rfl, ?_⟩; intro w hSw; go_simp; (try with_reducible rfl))
                      try simp only [Act.put, List.setIfInBounds_toArray, List.set_cons_zero, List.set_cons_succ]
                      refine wpAnyL_take (i := 33) (oi := ?oi78) (v := ?v78) ?hi78 hnosel (by kernel_rfl) (by kernel_rfl) hc77 (by kernel_rfl) (fun _ _ _ h => h) ?hy78 (P76.out.held k1_W76 k3_W76 (.inl (by kernel_rfl)) (.inl (by kernel_rfl)) (.inr rfl)) (fun hc78 => ?rest78)
                      case hi78 => (simp only [List.getElem?_toArray, List.getElem?_cons_succ, List.getElem?_cons_zero]; try rfl)
                      case hy78 => (refine Or.inl ⟨by rfl, ?_⟩; intro w hSw; go_simp; (try with_reducible rfl))
                      try simp only [Act.put, List.setIfInBounds_toArray, List.set_cons_zero, List.set_cons_succ]
                      refine wpAnyL_ready (rs := [34]) hc78 (by kernel_rfl) (by simp) ?_
                      refine AllReadyL.cons (o := ?o80) ?hi80 (fun K hK => ?st80) ?mo80
                      case hi80 => (simp only [List.getElem?_toArray, List.getElem?_cons_succ, List.getElem?_cons_zero]; try rfl)
                      case st80 =>
                        have st80_ := P76.out.blk.cell 2
                        have sf80_ := P76.out.blk.frozen 2
                        obtain ⟨W80, e80⟩ : ∃ x, x = W76.setCell ⟨m, 2, none⟩ (.slice A68 (N + 1) c68) := ⟨_, rfl⟩
                        have P80 := Lib.hid (show PuS w1 W80 _ _ _ _ _ _ _ _ _ _ _ _ _ _ _ _ _ _ _ from e80 ▸ P76.out.set 2 (by rfl))
                        have k1_W80 : W80.cell? ⟨gk, 1, none⟩ = some (.string f) := P80.out.msg_.cell 1
                        have k3_W80 : W80.cell? ⟨gk, 3, none⟩ = some (.string t) := P80.out.msg_.cell 3
                        have hB_W80 : B ≤ W80.heap.size := Nat.le_trans hBw P80.out.sz
                        go_simp
                        rw [← e80]
                        clear st80_ sf80_ e80
                        refine hK.out _ _ (P80.out.held k1_W80 k3_W80 (.inl (by kernel_rfl)) (.inl (by kernel_rfl)) (.inl (by kernel_rfl))) (fun hc80 => ?rs80)
                        clear hK K
                        try simp only [Act.put, List.setIfInBounds_toArray, List.set_cons_zero, List.set_cons_succ]
                        refine wpAnyL_done (by kernel_rfl) ?_ _
                        refine NoPanic.normal ?_
                        go_wp2_with fail
                        go_meet
                        exact Lib.hid ⟨_, by rw [HN.out], P80.out.fin (by rw [HN.out]; exact HM1.out) hl9 HN.out HV9.out, P80.out.msg_, rfl⟩
                      exact AllReadyL.nil
                    exact AllReadyL.nil
                  exact AllReadyL.nil
                exact AllReadyL.nil
              exact AllReadyL.nil
            exact AllReadyL.nil
          exact AllReadyL.nil
        refine AllReadyL.cons (o := ?o81) ?hi81 (fun K hK => ?st81) ?mo81
        case hi81 => (simp only [List.getElem?_toArray, List.getElem?_cons_succ, List.getElem?_cons_zero]; try rfl)
        case st81 =>
          obtain ⟨W81, e81⟩ : ∃ x, x = W22.alloc (.cells #[.int .i64 0] 3) := ⟨_, rfl⟩
          obtain ⟨t81, s81⟩ : ∃ x, x = W22.heap.size := ⟨_, rfl⟩
          have P81 := Lib.hid (show PuS w1 W81 _ _ _ _ _ _ _ _ _ _ _ _ _ _ _ _ _ _ _ from e81 ▸ P22.out.alloc _)
          have T12_81 := Lib.hid (show TmpF w1 W81 _ _ _ from e81 ▸ T12_22.out.alloc _)
          have T18_81 := Lib.hid (show TmpF w1 W81 t81 3 #[.int .i64 0] from by rw [e81, s81]; exact TmpF.new P22.out.sz _ _)
          have k1_W81 : W81.cell? ⟨gk, 1, none⟩ = some (.string f) := P81.out.msg_.cell 1
          have k3_W81 : W81.cell? ⟨gk, 3, none⟩ = some (.string t) := P81.out.msg_.cell 3
          have hB_W81 : B ≤ W81.heap.size := Nat.le_trans hBw P81.out.sz
          go_simp
          rw [← e81, ← s81]
          clear e81 s81
          refine hK.out _ _ (P81.out.held k1_W81 k3_W81 (.inr rfl) (.inr rfl) (.inr rfl)) (fun hc81 => ?rs81)
          clear hK K
          try simp only [Act.put, List.setIfInBounds_toArray, List.set_cons_zero, List.set_cons_succ]
          refine wpAnyL_ready (rs := [13, 24]) hc81 (by kernel_rfl) (by simp) ?_
          refine AllReadyL.cons (o := ?o83) ?hi83 (fun K hK => ?st83) ?mo83
          case hi83 => (simp only [List.getElem?_toArray, List.getElem?_cons_succ, List.getElem?_cons_zero]; try rfl)
          case st83 =>
            refine step_append_any _ rfl (.tmp 35) (.tmp 41) 38 rfl B 46 ik (.agg #[.string ⟨#[]⟩, .string ⟨#[]⟩]) 2 32 Try.underlying38 hi_ik hz_ik hs_ik hb_ik rfl (by decide) (.slice Aa N ca) N (rkV L) (by first | (simp [Act.eval]; done) | (simp [Act.eval, Act.put]; done)) P81.out.hK W81.heap.size (some ⟨t22, 0, none⟩) 1 1 [.string f, .string t] (by first | (simp [Act.eval]; done) | (simp [Act.eval, Act.put]; done)) (T12_81.out.reads rfl) (by simp [Value.oneCell']) (by simp only [maxLen]; omega) (by omega) hB_W81 ?_
            intro v83 W83 ho83 hg83 hn83
            obtain ⟨A83, c83, rfl, -, -⟩ := own_slice ho83
            have P83 := Lib.hid (P81.out.appK ho83 hg83 hn83)
            have T18_83 := Lib.hid (T18_81.out.grown hg83 lt_K)
            clear ho83 hg83 hn83
            have k1_W83 : W83.cell? ⟨gk, 1, none⟩ = some (.string f) := P83.out.msg_.cell 1
            have k3_W83 : W83.cell? ⟨gk, 3, none⟩ = some (.string t) := P83.out.msg_.cell 3
            have hB_W83 : B ≤ W83.heap.size := Nat.le_trans hBw P83.out.sz
            refine hK.out _ _ (P83.out.held k1_W83 k3_W83 (.inr rfl) (.inr rfl) (.inr rfl)) (fun hc83 => ?rs83)
            clear hK K
            try simp only [Act.put, List.setIfInBounds_toArray, List.set_cons_zero, List.set_cons_succ]
            refine wpAnyL_ready (rs := [19, 24]) hc83 (by kernel_rfl) (by simp) ?_
            refine AllReadyL.cons (o := ?o85) ?hi85 (fun K hK => ?st85) ?mo85
            case hi85 => (simp only [List.getElem?_toArray, List.getElem?_cons_succ, List.getElem?_cons_zero]; try rfl)
            case st85 =>
              refine step_append_any _ rfl (.tmp 46) (.tmp 47) 22 rfl B 3 ii (.int .i64 0) 1 8 Try.underlying22 hi_ii hz_ii hs_ii hb_ii rfl (by decide) (.slice Ab N cb) N (rsV L) (by first | (simp [Act.eval]; done) | (simp [Act.eval, Act.put]; done)) P83.out.hS W83.heap.size (some ⟨t81, 0, none⟩) 1 1 [.int .i64 0] (by first | (simp [Act.eval]; done) | (simp [Act.eval, Act.put]; done)) (T18_83.out.reads rfl) (by simp [Value.oneCell']) (by simp only [maxLen]; omega) (by omega) hB_W83 ?_
              intro v85 W85 ho85 hg85 hn85
              obtain ⟨A85, c85, rfl, -, -⟩ := own_slice ho85
              have P85 := Lib.hid (P83.out.appS ho85 hg85 hn85)
              clear ho85 hg85 hn85
              have k1_W85 : W85.cell? ⟨gk, 1, none⟩ = some (.string f) := P85.out.msg_.cell 1
              have k3_W85 : W85.cell? ⟨gk, 3, none⟩ = some (.string t) := P85.out.msg_.cell 3
              have hB_W85 : B ≤ W85.heap.size := Nat.le_trans hBw P85.out.sz
              refine hK.out _ _ (P85.out.held k1_W85 k3_W85 (.inr rfl) (.inr rfl) (.inr rfl)) (fun hc85 => ?rs85)
              clear hK K
              try simp only [Act.put, List.setIfInBounds_toArray, List.set_cons_zero, List.set_cons_succ]
              refine wpAnyL_ready (rs := [24]) hc85 (by kernel_rfl) (by simp) ?_
              refine AllReadyL.cons (o := ?o87) ?hi87 (fun K hK => ?st87) ?mo87
              case hi87 => (simp only [List.getElem?_toArray, List.getElem?_cons_succ, List.getElem?_cons_zero]; try rfl)
              case st87 =>
                obtain ⟨W87, e87⟩ : ∃ x, x = W85.alloc (.cells #[.slice none 0 0] 22) := ⟨_, rfl⟩
                obtain ⟨t87, s87⟩ : ∃ x, x = W85.heap.size := ⟨_, rfl⟩
                have P87 := Lib.hid (show PuS w1 W87 _ _ _ _ _ _ _ _ _ _ _ _ _ _ _ _ _ _ _ from e87 ▸ P85.out.alloc _)
                have T24_87 := Lib.hid (show TmpF w1 W87 t87 22 #[.slice none 0 0] from by rw [e87, s87]; exact TmpF.new P85.out.sz _ _)
                have k1_W87 : W87.cell? ⟨gk, 1, none⟩ = some (.string f) := P87.out.msg_.cell 1
                have k3_W87 : W87.cell? ⟨gk, 3, none⟩ = some (.string t) := P87.out.msg_.cell 3
                have hB_W87 : B ≤ W87.heap.size := Nat.le_trans hBw P87.out.sz
                go_simp
                rw [← e87, ← s87]
                clear e87 s87
                refine hK.out _ _ (P87.out.held k1_W87 k3_W87 (.inr rfl) (.inr rfl) (.inr rfl)) (fun hc87 => ?rs87)
                clear hK K
                try simp only [Act.put, List.setIfInBounds_toArray, List.set_cons_zero, List.set_cons_succ]
                refine wpAnyL_ready (rs := [25]) hc87 (by kernel_rfl) (by simp) ?_
                refine AllReadyL.cons (o := ?o89) ?hi89 (fun K hK => ?st89) ?mo89
                case hi89 => (simp only [List.getElem?_toArray, List.getElem?_cons_succ, List.getElem?_cons_zero]; try rfl)
                case st89 =>
                  refine step_append_any _ rfl (.tmp 52) (.tmp 53) 39 rfl B 22 ih (.slice none 0 0) 1 24 Try.underlying39 hi_ih hz_ih hs_ih hb_ih rfl (by decide) (.slice Ac N cc) N (rhV L) (by first | (simp [Act.eval]; done) | (simp [Act.eval, Act.put]; done)) P87.out.hH W87.heap.size (some ⟨t87, 0, none⟩) 1 1 [.slice none 0 0] (by first | (simp [Act.eval]; done) | (simp [Act.eval, Act.put]; done)) (T24_87.out.reads rfl) (by simp [Value.oneCell']) (by simp only [maxLen]; omega) (by omega) hB_W87 ?_
                  intro v89 W89 ho89 hg89 hn89
                  obtain ⟨A89, c89, rfl, -, -⟩ := own_slice ho89
                  have P89 := Lib.hid (P87.out.appH ho89 hg89 hn89)
                  clear ho89 hg89 hn89
                  have k1_W89 : W89.cell? ⟨gk, 1, none⟩ = some (.string f) := P89.out.msg_.cell 1
                  have k3_W89 : W89.cell? ⟨gk, 3, none⟩ = some (.string t) := P89.out.msg_.cell 3
                  have hB_W89 : B ≤ W89.heap.size := Nat.le_trans hBw P89.out.sz
                  refine hK.out _ _ (P89.out.held k1_W89 k3_W89 (.inr rfl) (.inr rfl) (.inr rfl)) (fun hc89 => ?rs89)
                  clear hK K
                  try simp only [Act.put, List.setIfInBounds_toArray, List.set_cons_zero, List.set_cons_succ]
                  refine wpAnyL_take (i := 26) (oi := ?oi90) (v := ?v90) ?hi90 hnosel (by kernel_rfl) (by kernel_rfl) hc89 (by kernel_rfl) (fun _ _ _ h => h) ?hy90 (P89.out.held k1_W89 k3_W89 (.inr rfl) (.inr rfl) (.inr rfl)) (fun hc90 => ?rest90)
                  case hi90 => (simp only [List.getElem?_toArray, List.getElem?_cons_succ, List.getElem?_cons_zero]; try rfl)
                  case hy90 => (refine Or.inl ⟨by rfl, ?_⟩; intro w hSw; go_simp; (try with_reducible rfl))
                  try simp only [Act.put, List.setIfInBounds_toArray, List.set_cons_zero, List.set_cons_succ]
                  refine wpAnyL_take (i := 27) (oi := ?oi91) (v := ?v91) ?hi91 hnosel (by kernel_rfl) (by kernel_rfl) hc90 (by kernel_rfl) (fun _ _ _ h => h) ?hy91 (P89.out.held k1_W89 k3_W89 (.inr rfl) (.inr rfl) (.inr rfl)) (fun hc91 => ?rest91)
                  case hi91 => (simp only [List.getElem?_toArray, List.getElem?_cons_succ, List.getElem?_cons_zero]; try rfl)
                  case hy91 => (refine Or.inl ⟨by rfl, ?_⟩; intro w hSw; go_simp; (try with_reducible rfl))
                  try simp only [Act.put, List.setIfInBounds_toArray, List.set_cons_zero, List.set_cons_succ]
                  refine wpAnyL_ready (rs := [28]) hc91 (by kernel_rfl) (by simp) ?_
                  refine AllReadyL.cons (o := ?o93) ?hi93 (fun K hK => ?st93) ?mo93
                  case hi93 => (simp only [List.getElem?_toArray, List.getElem?_cons_succ, List.getElem?_cons_zero]; try rfl)
                  case st93 =>
                    have st93_ := P89.out.blk.cell 0
                    have sf93_ := P89.out.blk.frozen 0
                    obtain ⟨W93, e93⟩ : ∃ x, x = W89.setCell ⟨m, 0, none⟩ (.slice A83 (N + 1) c83) := ⟨_, rfl⟩
                    have P93 := Lib.hid (show PuS w1 W93 _ _ _ _ _ _ _ _ _ _ _ _ _ _ _ _ _ _ _ from e93 ▸ P89.out.set 0 (by rfl))
                    have k1_W93 : W93.cell? ⟨gk, 1, none⟩ = some (.string f) := P93.out.msg_.cell 1
                    have k3_W93 : W93.cell? ⟨gk, 3, none⟩ = some (.string t) := P93.out.msg_.cell 3
                    have hB_W93 : B ≤ W93.heap.size := Nat.le_trans hBw P93.out.sz
                    go_simp
                    rw [← e93]
                    clear st93_ sf93_ e93
                    refine hK.out _ _ (P93.out.held k1_W93 k3_W93 (.inl (by kernel_rfl)) (.inr rfl) (.inr rfl)) (fun hc93 => ?rs93)
                    clear hK K
                    try simp only [Act.put, List.setIfInBounds_toArray, List.set_cons_zero, List.set_cons_succ]
                    refine wpAnyL_take (i := 29) (oi := ?oi94) (v := ?v94) ?hi94 hnosel (by kernel_rfl) (by kernel_rfl) hc93 (by kernel_rfl) (fun _ _ _ h => h) ?hy94 (P93.out.held k1_W93 k3_W93 (.inl (by kernel_rfl)) (.inr rfl) (.inr rfl)) (fun hc94 => ?rest94)
                    case hi94 => (simp only [List.getElem?_toArray, List.getElem?_cons_succ, List.getElem?_cons_zero]; try rfl)
                    case hy94 => (refine Or.inl ⟨by rfl, ?_⟩; intro w hSw; go_simp; (try with_reducible rfl))
                    try simp only [Act.put, List.setIfInBounds_toArray, List.set_cons_zero, List.set_cons_succ]
                    refine wpAnyL_take (i := 30) (oi := ?oi95) (v := ?v95) ?hi95 hnosel (by kernel_rfl) (by kernel_rfl) hc94 (by kernel_rfl) (fun _ _ _ h => h) ?hy95 (P93.out.held k1_W93 k3_W93 (.inl (by kernel_rfl)) (.inr rfl) (.inr rfl)) (fun hc95 => ?rest95)
                    case hi95 => (simp only [List.getElem?_toArray, List.getElem?_cons_succ, List.getElem?_cons_zero]; try rfl)
                    case hy95 => (refine Or.inl ⟨by rfl, ?_⟩; intro w hSw; go_simp; (try with_reducible rfl))
                    try simp only [Act.put, List.setIfInBounds_toArray, List.set_cons_zero, List.set_cons_succ]
                    refine wpAnyL_ready (rs := [31]) hc95 (by kernel_rfl) (by simp) ?_
                    refine AllReadyL.cons (o := ?o97) ?hi97 (fun K hK => ?st97) ?mo97
                    case hi97 => (simp only [List.getElem?_toArray, List.getElem?_cons_succ, List.getElem?_cons_zero]; try rfl)
                    case st97 =>
                      have st97_ := P93.out.blk.cell 1
                      have sf97_ := P93.out.blk.frozen 1
                      obtain ⟨W97, e97⟩ : ∃ x, x = W93.setCell ⟨m, 1, none⟩ (.slice A85 (N + 1) c85) := ⟨_, rfl⟩
                      have P97 := Lib.hid (show PuS w1 W97 _ _ _ _ _ _ _ _ _ _ _ _ _ _ _ _ _ _ _ from e97 ▸ P93.out.set 1 (by rfl))
                      have k1_W97 : W97.cell? ⟨gk, 1, none⟩ = some (.string f) := P97.out.msg_.cell 1
                      have k3_W97 : W97.cell? ⟨gk, 3, none⟩ = some (.string t) := P97.out.msg_.cell 3
                      have hB_W97 : B ≤ W97.heap.size := Nat.le_trans hBw P97.out.sz
                      go_simp
                      rw [← e97]
                      clear st97_ sf97_ e97
                      refine hK.out _ _ (P97.out.held k1_W97 k3_W97 (.inl (by kernel_rfl)) (.inl (by kernel_rfl)) (.inr rfl)) (fun hc97 => ?rs97)
                      clear hK K
                      try simp only [Act.put, List.setIfInBounds_toArray, List.set_cons_zero, List.set_cons_succ]
                      refine wpAnyL_take (i := 32) (oi := ?oi98) (v := ?v98) ?hi98 hnosel (by kernel_rfl) (by kernel_rfl) hc97 (by kernel_rfl) (fun _ _ _ h => h) ?hy98 (P97.out.held k1_W97 k3_W97 (.inl (by kernel_rfl)) (.inl (by kernel_rfl)) (.inr rfl)) (fun hc98 => ?rest98)
                      case hi98 => (simp only [List.getElem?_toArray, List.getElem?_cons_succ, List.getElem?_cons_zero]; try rfl)
                      case hy98 => (refine Or.inl ⟨by rfl, ?_⟩; intro w hSw; go_simp; (try with_reducible rfl))
                      try simp only [Act.put, List.setIfInBounds_toArray, List.set_cons_zero, List.set_cons_succ]
                      refine wpAnyL_take (i := 33) (oi := ?oi99) (v := ?v99) ?hi99 hnosel (by kernel_rfl) (by kernel_rfl) hc98 (by kernel_rfl) (fun _ _ _ h => h) ?hy99 (P97.out.held k1_W97 k3_W97 (.inl (by kernel_rfl)) (.inl (by kernel_rfl)) (.inr rfl)) (fun hc99 => ?rest99)
                      case hi99 => (simp only [List.getElem?_toArray, List.getElem?_cons_succ, List.getElem?_cons_zero]; try rfl)
                      case hy99 => (refine Or.inl ⟨by rfl, ?_⟩; intro w hSw; go_simp; (try with_reducible rfl))
                      try simp only [Act.put, List.setIfInBounds_toArray, List.set_cons_zero, List.set_cons_succ]
                      refine wpAnyL_ready (rs := [34]) hc99 (by kernel_rfl) (by simp) ?_
                      refine AllReadyL.cons (o := ?o101) ?hi101 (fun K hK => ?st101) ?mo101
                      case hi101 => (simp only [List.getElem?_toArray, List.getElem?_cons_succ, List.getElem?_cons_zero]; try rfl)
                      case st101 =>
                        have st101_ := P97.out.blk.cell 2
                        have sf101_ := P97.out.blk.frozen 2
                        obtain ⟨W101, e101⟩ : ∃ x, x = W97.setCell ⟨m, 2, none⟩ (.slice A89 (N + 1) c89) := ⟨_, rfl⟩
                        have P101 := Lib.hid (show PuS w1 W101 _ _ _ _ _ _ _ _ _ _ _ _ _ _ _ _ _ _ _ from e101 ▸ P97.out.set 2 (by rfl))
                        have k1_W101 : W101.cell? ⟨gk, 1, none⟩ = some (.string f) := P101.out.msg_.cell 1
                        have k3_W101 : W101.cell? ⟨gk, 3, none⟩ = some (.string t) := P101.out.msg_.cell 3
                        have hB_W101 : B ≤ W101.heap.size := Nat.le_trans hBw P101.out.sz
                        go_simp
                        rw [← e101]
                        clear st101_ sf101_ e101
                        refine hK.out _ _ (P101.out.held k1_W101 k3_W101 (.inl (by kernel_rfl)) (.inl (by kernel_rfl)) (.inl (by kernel_rfl))) (fun hc101 => ?rs101)
                        clear hK K
                        try simp only [Act.put, List.setIfInBounds_toArray, List.set_cons_zero, List.set_cons_succ]
                        refine wpAnyL_done (by kernel_rfl) ?_ _
                        refine NoPanic.normal ?_
                        go_wp2_with fail
                        go_meet
                        exact Lib.hid ⟨_, by rw [HN.out], P101.out.fin (by rw [HN.out]; exact HM1.out) hl9 HN.out HV9.out, P101.out.msg_, rfl⟩
                      exact AllReadyL.nil
                    exact AllReadyL.nil
                  exact AllReadyL.nil
                exact AllReadyL.nil
              exact AllReadyL.nil
            refine AllReadyL.cons (o := ?o102) ?hi102 (fun K hK => ?st102) ?mo102
            case hi102 => (simp only [List.getElem?_toArray, List.getElem?_cons_succ, List.getElem?_cons_zero]; try rfl)
            case st102 =>
              obtain ⟨W102, e102⟩ : ∃ x, x = W83.alloc (.cells #[.slice none 0 0] 22) := ⟨_, rfl⟩
              obtain ⟨t102, s102⟩ : ∃ x, x = W83.heap.size := ⟨_, rfl⟩
              have P102 := Lib.hid (show PuS w1 W102 _ _ _ _ _ _ _ _ _ _ _ _ _ _ _ _ _ _ _ from e102 ▸ P83.out.alloc _)
              have T18_102 := Lib.hid (show TmpF w1 W102 _ _ _ from e102 ▸ T18_83.out.alloc _)
              have T24_102 := Lib.hid (show TmpF w1 W102 t102 22 #[.slice none 0 0] from by rw [e102, s102]; exact TmpF.new P83.out.sz _ _)
              have k1_W102 : W102.cell? ⟨gk, 1, none⟩ = some (.string f) := P102.out.msg_.cell 1
              have k3_W102 : W102.cell? ⟨gk, 3, none⟩ = some (.string t) := P102.out.msg_.cell 3
              have hB_W102 : B ≤ W102.heap.size := Nat.le_trans hBw P102.out.sz
              go_simp
              rw [← e102, ← s102]
              clear e102 s102
              refine hK.out _ _ (P102.out.held k1_W102 k3_W102 (.inr rfl) (.inr rfl) (.inr rfl)) (fun hc102 => ?rs102)
              clear hK K
              try simp only [Act.put, List.setIfInBounds_toArray, List.set_cons_zero, List.set_cons_succ]
              refine wpAnyL_ready (rs := [19]) hc102 (by kernel_rfl) (by simp) ?_
              refine AllReadyL.cons (o := ?o104) ?hi104 (fun K hK => ?st104) ?mo104
              case hi104 => (simp only [List.getElem?_toArray, List.getElem?_cons_succ, List.getElem?_cons_zero]; try rfl)
              case st104 =>
                refine step_append_any _ rfl (.tmp 46) (.tmp 47) 22 rfl B 3 ii (.int .i64 0) 1 8 Try.underlying22 hi_ii hz_ii hs_ii hb_ii rfl (by decide) (.slice Ab N cb) N (rsV L) (by first | (simp [Act.eval]; done) | (simp [Act.eval, Act.put]; done)) P102.out.hS W102.heap.size (some ⟨t81, 0, none⟩) 1 1 [.int .i64 0] (by first | (simp [Act.eval]; done) | (simp [Act.eval, Act.put]; done)) (T18_102.out.reads rfl) (by simp [Value.oneCell']) (by simp only [maxLen]; omega) (by omega) hB_W102 ?_
                intro v104 W104 ho104 hg104 hn104
                obtain ⟨A104, c104, rfl, -, -⟩ := own_slice ho104
                have P104 := Lib.hid (P102.out.appS ho104 hg104 hn104)
                have T24_104 := Lib.hid (T24_102.out.grown hg104 lt_S)
                clear ho104 hg104 hn104
                have k1_W104 : W104.cell? ⟨gk, 1, none⟩ = some (.string f) := P104.out.msg_.cell 1
                have k3_W104 : W104.cell? ⟨gk, 3, none⟩ = some (.string t) := P104.out.msg_.cell 3
                have hB_W104 : B ≤ W104.heap.size := Nat.le_trans hBw P104.out.sz
                refine hK.out _ _ (P104.out.held k1_W104 k3_W104 (.inr rfl) (.inr rfl) (.inr rfl)) (fun hc104 => ?rs104)
                clear hK K
                try simp only [Act.put, List.setIfInBounds_toArray, List.set_cons_zero, List.set_cons_succ]
                refine wpAnyL_ready (rs := [25]) hc104 (by kernel_rfl) (by simp) ?_
                refine AllReadyL.cons (o := ?o106) ?hi106 (fun K hK => ?st106) ?mo106
                case hi106 => (simp only [List.getElem?_toArray, List.getElem?_cons_succ, List.getElem?_cons_zero]; try rfl)
                case st106 =>
                  refine step_append_any _ rfl (.tmp 52) (.tmp 53) 39 rfl B 22 ih (.slice none 0 0) 1 24 Try.underlying39 hi_ih hz_ih hs_ih hb_ih rfl (by decide) (.slice Ac N cc) N (rhV L) (by first | (simp [Act.eval]; done) | (simp [Act.eval, Act.put]; done)) P104.out.hH W104.heap.size (some ⟨t102, 0, none⟩) 1 1 [.slice none 0 0] (by first | (simp [Act.eval]; done) | (simp [Act.eval, Act.put]; done)) (T24_104.out.reads rfl) (by simp [Value.oneCell']) (by simp only [maxLen]; omega) (by omega) hB_W104 ?_
                  intro v106 W106 ho106 hg106 hn106
                  obtain ⟨A106, c106, rfl, -, -⟩ := own_slice ho106
                  have P106 := Lib.hid (P104.out.appH ho106 hg106 hn106)
                  clear ho106 hg106 hn106
                  have k1_W106 : W106.cell? ⟨gk, 1, none⟩ = some (.string f) := P106.out.msg_.cell 1
                  have k3_W106 : W106.cell? ⟨gk, 3, none⟩ = some (.string t) := P106.out.msg_.cell 3
                  have hB_W106 : B ≤ W106.heap.size := Nat.le_trans hBw P106.out.sz
                  refine hK.out _ _ (P106.out.held k1_W106 k3_W106 (.inr rfl) (.inr rfl) (.inr rfl)) (fun hc106 => ?rs106)
                  clear hK K
                  try simp only [Act.put, List.setIfInBounds_toArray, List.set_cons_zero, List.set_cons_succ]
                  refine wpAnyL_take (i := 26) (oi := ?oi107) (v := ?v107) ?hi107 hnosel (by kernel_rfl) (by kernel_rfl) hc106 (by kernel_rfl) (fun _ _ _ h => h) ?hy107 (P106.out.held k1_W106 k3_W106 (.inr rfl) (.inr rfl) (.inr rfl)) (fun hc107 => ?rest107)
                  case hi107 => (simp only [List.getElem?_toArray, List.getElem?_cons_succ, List.getElem?_cons_zero]; try rfl)
                  case hy107 => (refine Or.inl ⟨by rfl, ?_⟩; intro w hSw; go_simp; (try with_reducible rfl))
                  try simp only [Act.put, List.setIfInBounds_toArray, List.set_cons_zero, List.set_cons_succ]
                  refine wpAnyL_take (i := 27) (oi := ?oi108) (v := ?v108) ?hi108 hnosel (by kernel_rfl) (by kernel_rfl) hc107 (by kernel_rfl) (fun _ _ _ h => h) ?hy108 (P106.out.held k1_W106 k3_W106 (.inr rfl) (.inr rfl) (.inr rfl)) (fun hc108 => ?rest108)
                  case hi108 => (simp only [List.getElem?_toArray, List.getElem?_cons_succ, List.getElem?_cons_zero]; try rfl)
                  case hy108 => (refine Or.inl ⟨by rfl, ?_⟩; intro w hSw; go_simp; (try with_reducible rfl))
                  try simp only [Act.put, List.setIfInBounds_toArray, List.set_cons_zero, List.set_cons_succ]
                  refine wpAnyL_ready (rs := [28]) hc108 (by kernel_rfl) (by simp) ?_
                  refine AllReadyL.cons (o := ?o110) ?hi110 (fun K hK => ?st110) ?mo110
                  case hi110 => (simp only [List.getElem?_toArray, List.getElem?_cons_succ, List.getElem?_cons_zero]; try rfl)
                  case st110 =>
                    have st110_ := P106.out.blk.cell 0
                    have sf110_ := P106.out.blk.frozen 0
                    obtain ⟨W110, e110⟩ : ∃ x, x = W106.setCell ⟨m, 0, none⟩ (.slice A83 (N + 1) c83) := ⟨_, rfl⟩
                    have P110 := Lib.hid (show PuS w1 W110 _ _ _ _ _ _ _ _ _ _ _ _ _ _ _ _ _ _ _ from e110 ▸ P106.out.set 0 (by rfl))
                    have k1_W110 : W110.cell? ⟨gk, 1, none⟩ = some (.string f) := P110.out.msg_.cell 1
                    have k3_W110 : W110.cell? ⟨gk, 3, none⟩ = some (.string t) := P110.out.msg_.cell 3
                    have hB_W110 : B ≤ W110.heap.size := Nat.le_trans hBw P110.out.sz
                    go_simp
                    rw [← e110]
                    clear st110_ sf110_ e110
                    refine hK.out _ _ (P110.out.held k1_W110 k3_W110 (.inl (by kernel_rfl)) (.inr rfl) (.inr rfl)) (fun hc110 => ?rs110)
                    clear hK K
                    try simp only [Act.put, List.setIfInBounds_toArray, List.set_cons_zero, List.set_cons_succ]
                    refine wpAnyL_take (i := 29) (oi := ?oi111) (v := ?v111) ?hi111 hnosel (by kernel_rfl) (by kernel_rfl) hc110 (by kernel_rfl) (fun _ _ _ h => h) ?hy111 (P110.out.held k1_W110 k3_W110 (.inl (by kernel_rfl)) (.inr rfl) (.inr rfl)) (fun hc111 => ?rest111)
                    case hi111 => (simp only [List.getElem?_toArray, List.getElem?_cons_succ, List.getElem?_cons_zero]; try rfl)
                    case hy111 => (refine Or.inl ⟨by rfl, ?_⟩; intro w hSw; go_simp; (try with_reducible rfl))
                    try simp only [Act.put, List.setIfInBounds_toArray, List.set_cons_zero, List.set_cons_succ]
                    refine wpAnyL_take (i := 30) (oi := ?oi112) (v := ?v112) ?hi112 hnosel (by kernel_rfl) (by kernel_rfl) hc111 (by kernel_rfl) (fun _ _ _ h => h) ?hy112 (P110.out.held k1_W110 k3_W110 (.inl (by kernel_rfl)) (.inr rfl) (.inr rfl)) (fun hc112 => ?rest112)
                    case hi112 => (simp only [List.getElem?_toArray, List.getElem?_cons_succ, List.getElem?_cons_zero]; try rfl)
                    case hy112 => (refine Or.inl ⟨by rfl, ?_⟩; intro w hSw; go_simp; (try with_reducible rfl))
                    try simp only [Act.put, List.setIfInBounds_toArray, List.set_cons_zero, List.set_cons_succ]
                    refine wpAnyL_ready (rs := [31]) hc112 (by kernel_rfl) (by simp) ?_
                    refine AllReadyL.cons (o := ?o114) ?hi114 (fun K hK => ?st114) ?mo114
                    case hi114 => (simp only [List.getElem?_toArray, List.getElem?_cons_succ, List.getElem?_cons_zero]; try rfl)
                    case st114 =>
                      have st114_ := P110.out.blk.cell 1
                      have sf114_ := P110.out.blk.frozen 1
                      obtain ⟨W114, e114⟩ : ∃ x, x = W110.setCell ⟨m, 1, none⟩ (.slice A104 (N + 1) c104) := ⟨_, rfl⟩
                      have P114 := Lib.hid (show PuS w1 W114 _ _ _ _ _ _ _ _ _ _ _ _ _ _ _ _ _ _ _ from e114 ▸ P110.out.set 1 (by rfl))
                      have k1_W114 : W114.cell? ⟨gk, 1, none⟩ = some (.string f) := P114.out.msg_.cell 1
                      have k3_W114 : W114.cell? ⟨gk, 3, none⟩ = some (.string t) := P114.out.msg_.cell 3
                      have hB_W114 : B ≤ W114.heap.size := Nat.le_trans hBw P114.out.sz
                      go_simp
                      rw [← e114]
                      clear st114_ sf114_ e114
                      refine hK.out _ _ (P114.out.held k1_W114 k3_W114 (.inl (by kernel_rfl)) (.inl (by kernel_rfl)) (.inr rfl)) (fun hc114 => ?rs114)
                      clear hK K
                      try simp only [Act.put, List.setIfInBounds_toArray, List.set_cons_zero, List.set_cons_succ]
                      refine wpAnyL_take (i := 32) (oi := ?oi115) (v := ?v115) ?hi115 hnosel (by kernel_rfl) (by kernel_rfl) hc114 (by kernel_rfl) (fun _ _ _ h => h) ?hy115 (P114.out.held k1_W114 k3_W114 (.inl (by kernel_rfl)) (.inl (by kernel_rfl)) (.inr rfl)) (fun hc115 => ?rest115)
                      case hi115 => (simp only [List.getElem?_toArray, List.getElem?_cons_succ, List.getElem?_cons_zero]; try rfl)
                      case hy115 => (refine Or.inl ⟨by rfl, ?_⟩; intro w hSw; go_simp; (try with_reducible rfl))
                      try simp only [Act.put, List.setIfInBounds_toArray, List.set_cons_zero, List.set_cons_succ]
                      refine wpAnyL_take (i := 33) (oi := ?oi116) (v := ?v116) ?hi116 hnosel (by kernel_rfl) (by kernel_rfl) hc115 (by kernel_rfl) (fun _ _ _ h => h) ?hy116 (P114.out.held k1_W114 k3_W114 (.inl (by kernel_rfl)) (.inl (by kernel_rfl)) (.inr rfl)) (fun hc116 => ?rest116)
                      case hi116 => (simp only [List.getElem?_toArray, List.getElem?_cons_succ, List.getElem?_cons_zero]; try rfl)
                      case hy116 => (refine Or.inl ⟨by rfl, ?_⟩; intro w hSw; go_simp; (try with_reducible rfl))
                      try simp only [Act.put, List.setIfInBounds_toArray, List.set_cons_zero, List.set_cons_succ]
                      refine wpAnyL_ready (rs := [34]) hc116 (by kernel_rfl) (by simp) ?_
                      refine AllReadyL.cons (o := ?o118) ?hi118 (fun K hK => ?st118) ?mo118
                      case hi118 => (simp only [List.getElem?_toArray, List.getElem?_cons_succ, List.getElem?_cons_zero]; try rfl)
                      case st118 =>
                        have st118_ := P114.out.blk.cell 2
                        have sf118_ := P114.out.blk.frozen 2
                        obtain ⟨W118, e118⟩ : ∃ x, x = W114.setCell ⟨m, 2, none⟩ (.slice A106 (N + 1) c106) := ⟨_, rfl⟩
                        have P118 := Lib.hid (show PuS w1 W118 _ _ _ _ _ _ _ _ _ _ _ _ _ _ _ _ _ _ _ from e118 ▸ P114.out.set 2 (by rfl))
                        have k1_W118 : W118.cell? ⟨gk, 1, none⟩ = some (.string f) := P118.out.msg_.cell 1
                        have k3_W118 : W118.cell? ⟨gk, 3, none⟩ = some (.string t) := P118.out.msg_.cell 3
                        have hB_W118 : B ≤ W118.heap.size := Nat.le_trans hBw P118.out.sz
                        go_simp
                        rw [← e118]
                        clear st118_ sf118_ e118
                        refine hK.out _ _ (P118.out.held k1_W118 k3_W118 (.inl (by kernel_rfl)) (.inl (by kernel_rfl)) (.inl (by kernel_rfl))) (fun hc118 => ?rs118)
                        clear hK K
                        try simp only [Act.put, List.setIfInBounds_toArray, List.set_cons_zero, List.set_cons_succ]
                        refine wpAnyL_done (by kernel_rfl) ?_ _
                        refine NoPanic.normal ?_
                        go_wp2_with fail
                        go_meet
                        exact Lib.hid ⟨_, by rw [HN.out], P118.out.fin (by rw [HN.out]; exact HM1.out) hl9 HN.out HV9.out, P118.out.msg_, rfl⟩
                      exact AllReadyL.nil
                    exact AllReadyL.nil
                  exact AllReadyL.nil
                exact AllReadyL.nil
              exact AllReadyL.nil
            exact AllReadyL.nil
          refine AllReadyL.cons (o := ?o119) ?hi119 (fun K hK => ?st119) ?mo119
          case hi119 => (simp only [List.getElem?_toArray, List.getElem?_cons_succ, List.getElem?_cons_zero]; try rfl)
          case st119 =>
            obtain ⟨W119, e119⟩ : ∃ x, x = W81.alloc (.cells #[.slice none 0 0] 22) := ⟨_, rfl⟩
            obtain ⟨t119, s119⟩ : ∃ x, x = W81.heap.size := ⟨_, rfl⟩
            have P119 := Lib.hid (show PuS w1 W119 _ _ _ _ _ _ _ _ _ _ _ _ _ _ _ _ _ _ _ from e119 ▸ P81.out.alloc _)
            have T12_119 := Lib.hid (show TmpF w1 W119 _ _ _ from e119 ▸ T12_81.out.alloc _)
            have T18_119 := Lib.hid (show TmpF w1 W119 _ _ _ from e119 ▸ T18_81.out.alloc _)
            have T24_119 := Lib.hid (show TmpF w1 W119 t119 22 #[.slice none 0 0] from by rw [e119, s119]; exact TmpF.new P81.out.sz _ _)
            have k1_W119 : W119.cell? ⟨gk, 1, none⟩ = some (.string f) := P119.out.msg_.cell 1
            have k3_W119 : W119.cell? ⟨gk, 3, none⟩ = some (.string t) := P119.out.msg_.cell 3
            have hB_W119 : B ≤ W119.heap.size := Nat.le_trans hBw P119.out.sz
            go_simp
            rw [← e119, ← s119]
            clear e119 s119
            refine hK.out _ _ (P119.out.held k1_W119 k3_W119 (.inr rfl) (.inr rfl) (.inr rfl)) (fun hc119 => ?rs119)
            clear hK K
            try simp only [Act.put, List.setIfInBounds_toArray, List.set_cons_zero, List.set_cons_succ]
            refine wpAnyL_ready (rs := [13]) hc119 (by kernel_rfl) (by simp) ?_
            refine AllReadyL.cons (o := ?o121) ?hi121 (fun K hK => ?st121) ?mo121
            case hi121 => (simp only [List.getElem?_toArray, List.getElem?_cons_succ, List.getElem?_cons_zero]; try rfl)
            case st121 =>
              refine step_append_any _ rfl (.tmp 35) (.tmp 41) 38 rfl B 46 ik (.agg #[.string ⟨#[]⟩, .string ⟨#[]⟩]) 2 32 Try.underlying38 hi_ik hz_ik hs_ik hb_ik rfl (by decide) (.slice Aa N ca) N (rkV L) (by first | (simp [Act.eval]; done) | (simp [Act.eval, Act.put]; done)) P119.out.hK W119.heap.size (some ⟨t22, 0, none⟩) 1 1 [.string f, .string t] (by first | (simp [Act.eval]; done) | (simp [Act.eval, Act.put]; done)) (T12_119.out.reads rfl) (by simp [Value.oneCell']) (by simp only [maxLen]; omega) (by omega) hB_W119 ?_
              intro v121 W121 ho121 hg121 hn121
              obtain ⟨A121, c121, rfl, -, -⟩ := own_slice ho121
              have P121 := Lib.hid (P119.out.appK ho121 hg121 hn121)
              have T18_121 := Lib.hid (T18_119.out.grown hg121 lt_K)
              have T24_121 := Lib.hid (T24_119.out.grown hg121 lt_K)
              clear ho121 hg121 hn121
              have k1_W121 : W121.cell? ⟨gk, 1, none⟩ = some (.string f) := P121.out.msg_.cell 1
              have k3_W121 : W121.cell? ⟨gk, 3, none⟩ = some (.string t) := P121.out.msg_.cell 3
              have hB_W121 : B ≤ W121.heap.size := Nat.le_trans hBw P121.out.sz
              refine hK.out _ _ (P121.out.held k1_W121 k3_W121 (.inr rfl) (.inr rfl) (.inr rfl)) (fun hc121 => ?rs121)
              clear hK K
              try simp only [Act.put, List.setIfInBounds_toArray, List.set_cons_zero, List.set_cons_succ]
              refine wpAnyL_ready (rs := [19]) hc121 (by kernel_rfl) (by simp) ?_
              refine AllReadyL.cons (o := ?o123) ?hi123 (fun K hK => ?st123) ?mo123
              case hi123 => (simp only [List.getElem?_toArray, List.getElem?_cons_succ, List.getElem?_cons_zero]; try rfl)
              case st123 =>
                refine step_append_any _ rfl (.tmp 46) (.tmp 47) 22 rfl B 3 ii (.int .i64 0) 1 8 Try.underlying22 hi_ii hz_ii hs_ii hb_ii rfl (by decide) (.slice Ab N cb) N (rsV L) (by first | (simp [Act.eval]; done) | (simp [Act.eval, Act.put]; done)) P121.out.hS W121.heap.size (some ⟨t81, 0, none⟩) 1 1 [.int .i64 0] (by first | (simp [Act.eval]; done) | (simp [Act.eval, Act.put]; done)) (T18_121.out.reads rfl) (by simp [Value.oneCell']) (by simp only [maxLen]; omega) (by omega) hB_W121 ?_
                intro v123 W123 ho123 hg123 hn123
                obtain ⟨A123, c123, rfl, -, -⟩ := own_slice ho123
                have P123 := Lib.hid (P121.out.appS ho123 hg123 hn123)
                have T24_123 := Lib.hid (T24_121.out.grown hg123 lt_S)
                clear ho123 hg123 hn123
                have k1_W123 : W123.cell? ⟨gk, 1, none⟩ = some (.string f) := P123.out.msg_.cell 1
                have k3_W123 : W123.cell? ⟨gk, 3, none⟩ = some (.string t) := P123.out.msg_.cell 3
                have hB_W123 : B ≤ W123.heap.size := Nat.le_trans hBw P123.out.sz
                refine hK.out _ _ (P123.out.held k1_W123 k3_W123 (.inr rfl) (.inr rfl) (.inr rfl)) (fun hc123 => ?rs123)
                clear hK K
                try simp only [Act.put, List.setIfInBounds_toArray, List.set_cons_zero, List.set_cons_succ]
                refine wpAnyL_ready (rs := [25]) hc123 (by kernel_rfl) (by simp) ?_
                refine AllReadyL.cons (o := ?o125) ?hi125 (fun K hK => ?st125) ?mo125
                case hi125 => (simp only [List.getElem?_toArray, List.getElem?_cons_succ, List.getElem?_cons_zero]; try rfl)
                case st125 =>
                  refine step_append_any _ rfl (.tmp 52) (.tmp 53) 39 rfl B 22 ih (.slice none 0 0) 1 24 Try.underlying39 hi_ih hz_ih hs_ih hb_ih rfl (by decide) (.slice Ac N cc) N (rhV L) (by first | (simp [Act.eval]; done) | (simp [Act.eval, Act.put]; done)) P123.out.hH W123.heap.size (some ⟨t119, 0, none⟩) 1 1 [.slice none 0 0] (by first | (simp [Act.eval]; done) | (simp [Act.eval, Act.put]; done)) (T24_123.out.reads rfl) (by simp [Value.oneCell']) (by simp only [maxLen]; omega) (by omega) hB_W123 ?_
                  intro v125 W125 ho125 hg125 hn125
                  obtain ⟨A125, c125, rfl, -, -⟩ := own_slice ho125
                  have P125 := Lib.hid (P123.out.appH ho125 hg125 hn125)
                  clear ho125 hg125 hn125
                  have k1_W125 : W125.cell? ⟨gk, 1, none⟩ = some (.string f) := P125.out.msg_.cell 1
                  have k3_W125 : W125.cell? ⟨gk, 3, none⟩ = some (.string t) := P125.out.msg_.cell 3
                  have hB_W125 : B ≤ W125.heap.size := Nat.le_trans hBw P125.out.sz
                  refine hK.out _ _ (P125.out.held k1_W125 k3_W125 (.inr rfl) (.inr rfl) (.inr rfl)) (fun hc125 => ?rs125)
                  clear hK K
                  try simp only [Act.put, List.setIfInBounds_toArray, List.set_cons_zero, List.set_cons_succ]
                  refine wpAnyL_take (i := 26) (oi := ?oi126) (v := ?v126) ?hi126 hnosel (by kernel_rfl) (by kernel_rfl) hc125 (by kernel_rfl) (fun _ _ _ h => h) ?hy126 (P125.out.held k1_W125 k3_W125 (.inr rfl) (.inr rfl) (.inr rfl)) (fun hc126 => ?rest126)
                  case hi126 => (simp only [List.getElem?_toArray, List.getElem?_cons_succ, List.getElem?_cons_zero]; try rfl)
                  case hy126 => (refine Or.inl ⟨by rfl, ?_⟩; intro w hSw; go_simp; (try with_reducible rfl))
                  try simp only [Act.put, List.setIfInBounds_toArray, List.set_cons_zero, List.set_cons_succ]
                  refine wpAnyL_take (i := 27) (oi := ?oi127) (v := ?v127) ?hi127 hnosel (by kernel_rfl) (by kernel_rfl) hc126 (by kernel_rfl) (fun _ _ _ h => h) ?hy127 (P125.out.held k1_W125 k3_W125 (.inr rfl) (.inr rfl) (.inr rfl)) (fun hc127 => ?rest127)
                  case hi127 => (simp only [List.getElem?_toArray, List.getElem?_cons_succ, List.getElem?_cons_zero]; try rfl)
                  case hy127 => (refine Or.inl ⟨by rfl, ?_⟩; intro w hSw; go_simp; (try with_reducible rfl))
                  try simp only [Act.put, List.setIfInBounds_toArray, List.set_cons_zero, List.set_cons_succ]
                  refine wpAnyL_ready (rs := [28]) hc127 (by kernel_rfl) (by simp) ?_
                  refine AllReadyL.cons (o := ?o129) ?hi129 (fun K hK => ?st129) ?mo129
                  case hi129 => (simp only [List.getElem?_toArray, List.getElem?_cons_succ, List.getElem?_cons_zero]; try rfl)
                  case st129 =>
                    have st129_ := P125.out.blk.cell 0
                    have sf129_ := P125.out.blk.frozen 0
                    obtain ⟨W129, e129⟩ : ∃ x, x = W125.setCell ⟨m, 0, none⟩ (.slice A121 (N + 1) c121) := ⟨_, rfl⟩
                    have P129 := Lib.hid (show PuS w1 W129 _ _ _ _ _ _ _ _ _ _ _ _ _ _ _ _ _ _ _ from e129 ▸ P125.out.set 0 (by rfl))
                    have k1_W129 : W129.cell? ⟨gk, 1, none⟩ = some (.string f) := P129.out.msg_.cell 1
                    have k3_W129 : W129.cell? ⟨gk, 3, none⟩ = some (.string t) := P129.out.msg_.cell 3
                    have hB_W129 : B ≤ W129.heap.size := Nat.le_trans hBw P129.out.sz
                    go_simp
                    rw [← e129]
                    clear st129_ sf129_ e129
                    refine hK.out _ _ (P129.out.held k1_W129 k3_W129 (.inl (by kernel_rfl)) (.inr rfl) (.inr rfl)) (fun hc129 => ?rs129)
                    clear hK K
                    try simp only [Act.put, List.setIfInBounds_toArray, List.set_cons_zero, List.set_cons_succ]
                    refine wpAnyL_take (i := 29) (oi := ?oi130) (v := ?v130) ?hi130 hnosel (by kernel_rfl) (by kernel_rfl) hc129 (by kernel_rfl) (fun _ _ _ h => h) ?hy130 (P129.out.held k1_W129 k3_W129 (.inl (by kernel_rfl)) (.inr rfl) (.inr rfl)) (fun hc130 => ?rest130)
                    case hi130 => (simp only [List.getElem?_toArray, List.getElem?_cons_succ, List.getElem?_cons_zero]; try rfl)
                    case hy130 => (refine Or.inl ⟨by rfl, ?_⟩; intro w hSw; go_simp; (try with_reducible rfl))
                    try simp only [Act.put, List.setIfInBounds_toArray, List.set_cons_zero, List.set_cons_succ]
                    refine wpAnyL_take (i := 30) (oi := ?oi131) (v := ?v131) ?hi131 hnosel (by kernel_rfl) (by kernel_rfl) hc130 (by kernel_rfl) (fun _ _ _ h => h) ?hy131 (P129.out.held k1_W129 k3_W129 (.inl (by kernel_rfl)) (.inr rfl) (.inr rfl)) (fun hc131 => ?rest131)
                    case hi131 => (simp only [List.getElem?_toArray, List.getElem?_cons_succ, List.getElem?_cons_zero]; try rfl)
                    case hy131 => (refine Or.inl ⟨by rfl, ?_⟩; intro w hSw; go_simp; (try with_reducible rfl))
                    try simp only [Act.put, List.setIfInBounds_toArray, List.set_cons_zero, List.set_cons_succ]
                    refine wpAnyL_ready (rs := [31]) hc131 (by kernel_rfl) (by simp) ?_
                    refine AllReadyL.cons (o := ?o133) ?hi133 (fun K hK => ?st133) ?mo133
                    case hi133 => (simp only [List.getElem?_toArray, List.getElem?_cons_succ, List.getElem?_cons_zero]; try rfl)
                    case st133 =>
                      have st133_ := P129.out.blk.cell 1
                      have sf133_ := P129.out.blk.frozen 1
                      obtain ⟨W133, e133⟩ : ∃ x, x = W129.setCell ⟨m, 1, none⟩ (.slice A123 (N + 1) c123) := ⟨_, rfl⟩
                      have P133 := Lib.hid (show PuS w1 W133 _ _ _ _ _ _ _ _ _ _ _ _ _ _ _ _ _ _ _ from e133 ▸ P129.out.set 1 (by rfl))
                      have k1_W133 : W133.cell? ⟨gk, 1, none⟩ = some (.string f) := P133.out.msg_.cell 1
                      have k3_W133 : W133.cell? ⟨gk, 3, none⟩ = some (.string t) := P133.out.msg_.cell 3
                      have hB_W133 : B ≤ W133.heap.size := Nat.le_trans hBw P133.out.sz
                      go_simp
                      rw [← e133]
                      clear st133_ sf133_ e133
                      refine hK.out _ _ (P133.out.held k1_W133 k3_W133 (.inl (by kernel_rfl)) (.inl (by kernel_rfl)) (.inr rfl)) (fun hc133 => ?rs133)
                      clear hK K
                      try simp only [Act.put, List.setIfInBounds_toArray, List.set_cons_zero, List.set_cons_succ]
                      refine wpAnyL_take (i := 32) (oi := ?oi134) (v := ?v134) ?hi134 hnosel (by kernel_rfl) (by kernel_rfl) hc133 (by kernel_rfl) (fun _ _ _ h => h) ?hy134 (P133.out.held k1_W133 k3_W133 (.inl (by kernel_rfl)) (.inl (by kernel_rfl)) (.inr rfl)) (fun hc134 => ?rest134)
                      case hi134 => (simp only [List.getElem?_toArray, List.getElem?_cons_succ, List.getElem?_cons_zero]; try rfl)
                      case hy134 => (refine Or.inl ⟨by rfl, ?_⟩; intro w hSw; go_simp; (try with_reducible rfl))
                      try simp only [Act.put, List.setIfInBounds_toArray, List.set_cons_zero, List.set_cons_succ]
                      refine wpAnyL_take (i := 33) (oi := ?oi135) (v := ?v135) ?hi135 hnosel (by kernel_rfl) (by kernel_rfl) hc134 (by kernel_rfl) (fun _ _ _ h => h) ?hy135 (P133.out.held k1_W133 k3_W133 (.inl (by kernel_rfl)) (.inl (by kernel_rfl)) (.inr rfl)) (fun hc135 => ?rest135)
                      case hi135 => (simp only [List.getElem?_toArray, List.getElem?_cons_succ, List.getElem?_cons_zero]; try rfl)
                      case hy135 => (refine Or.inl ⟨by rfl, ?_⟩; intro w hSw; go_simp; (try with_reducible rfl))
                      try simp only [Act.put, List.setIfInBounds_toArray, List.set_cons_zero, List.set_cons_succ]
                      refine wpAnyL_ready (rs := [34]) hc135 (by kernel_rfl) (by simp) ?_
                      refine AllReadyL.cons (o := ?o137) ?hi137 (fun K hK => ?st137) ?mo137
                      case hi137 => (simp only [List.getElem?_toArray, List.getElem?_cons_succ, List.getElem?_cons_zero]; try rfl)
                      case st137 =>
                        have st137_ := P133.out.blk.cell 2
                        have sf137_ := P133.out.blk.frozen 2
                        obtain ⟨W137, e137⟩ : ∃ x, x = W133.setCell ⟨m, 2, none⟩ (.slice A125 (N + 1) c125) := ⟨_, rfl⟩
                        have P137 := Lib.hid (show PuS w1 W137 _ _ _ _ _ _ _ _ _ _ _ _ _ _ _ _ _ _ _ from e137 ▸ P133.out.set 2 (by rfl))
                        have k1_W137 : W137.cell? ⟨gk, 1, none⟩ = some (.string f) := P137.out.msg_.cell 1
                        have k3_W137 : W137.cell? ⟨gk, 3, none⟩ = some (.string t) := P137.out.msg_.cell 3
                        have hB_W137 : B ≤ W137.heap.size := Nat.le_trans hBw P137.out.sz
                        go_simp
                        rw [← e137]
                        clear st137_ sf137_ e137
                        refine hK.out _ _ (P137.out.held k1_W137 k3_W137 (.inl (by kernel_rfl)) (.inl (by kernel_rfl)) (.inl (by kernel_rfl))) (fun hc137 => ?rs137)
                        clear hK K
                        try simp only [Act.put, List.setIfInBounds_toArray, List.set_cons_zero, List.set_cons_succ]
                        refine wpAnyL_done (by kernel_rfl) ?_ _
                        refine NoPanic.normal ?_
                        go_wp2_with fail
                        go_meet
                        exact Lib.hid ⟨_, by rw [HN.out], P137.out.fin (by rw [HN.out]; exact HM1.out) hl9 HN.out HV9.out, P137.out.msg_, rfl⟩
                      exact AllReadyL.nil
                    exact AllReadyL.nil
                  exact AllReadyL.nil
                exact AllReadyL.nil
              exact AllReadyL.nil
            exact AllReadyL.nil
          exact AllReadyL.nil
        refine AllReadyL.cons (o := ?o138) ?hi138 (fun K hK => ?st138) ?mo138
        case hi138 => (simp only [List.getElem?_toArray, List.getElem?_cons_succ, List.getElem?_cons_zero]; try rfl)
        case st138 =>
          obtain ⟨W138, e138⟩ : ∃ x, x = W22.alloc (.cells #[.slice none 0 0] 22) := ⟨_, rfl⟩
          obtain ⟨t138, s138⟩ : ∃ x, x = W22.heap.size := ⟨_, rfl⟩
          have P138 := Lib.hid (show PuS w1 W138 _ _ _ _ _ _ _ _ _ _ _ _ _ _ _ _ _ _ _ from e138 ▸ P22.out.alloc _)
          have T12_138 := Lib.hid (show TmpF w1 W138 _ _ _ from e138 ▸ T12_22.out.alloc _)
          have T24_138 := Lib.hid (show TmpF w1 W138 t138 22 #[.slice none 0 0] from by rw [e138, s138]; exact TmpF.new P22.out.sz _ _)
          have k1_W138 : W138.cell? ⟨gk, 1, none⟩ = some (.string f) := P138.out.msg_.cell 1
          have k3_W138 : W138.cell? ⟨gk, 3, none⟩ = some (.string t) := P138.out.msg_.cell 3
          have hB_W138 : B ≤ W138.heap.size := Nat.le_trans hBw P138.out.sz
          go_simp
          rw [← e138, ← s138]
          clear e138 s138
          refine hK.out _ _ (P138.out.held k1_W138 k3_W138 (.inr rfl) (.inr rfl) (.inr rfl)) (fun hc138 => ?rs138)
          clear hK K
          try simp only [Act.put, List.setIfInBounds_toArray, List.set_cons_zero, List.set_cons_succ]
          refine wpAnyL_ready (rs := [13, 18]) hc138 (by kernel_rfl) (by simp) ?_
          refine AllReadyL.cons (o := ?o140) ?hi140 (fun K hK => ?st140) ?mo140
          case hi140 => (simp only [List.getElem?_toArray, List.getElem?_cons_succ, List.getElem?_cons_zero]; try rfl)
          case st140 =>
            refine step_append_any _ rfl (.tmp 35) (.tmp 41) 38 rfl B 46 ik (.agg #[.string ⟨#[]⟩, .string ⟨#[]⟩]) 2 32 Try.underlying38 hi_ik hz_ik hs_ik hb_ik rfl (by decide) (.slice Aa N ca) N (rkV L) (by first | (simp [Act.eval]; done) | (simp [Act.eval, Act.put]; done)) P138.out.hK W138.heap.size (some ⟨t22, 0, none⟩) 1 1 [.string f, .string t] (by first | (simp [Act.eval]; done) | (simp [Act.eval, Act.put]; done)) (T12_138.out.reads rfl) (by simp [Value.oneCell']) (by simp only [maxLen]; omega) (by omega) hB_W138 ?_
            intro v140 W140 ho140 hg140 hn140
            obtain ⟨A140, c140, rfl, -, -⟩ := own_slice ho140
            have P140 := Lib.hid (P138.out.appK ho140 hg140 hn140)
            have T24_140 := Lib.hid (T24_138.out.grown hg140 lt_K)
            clear ho140 hg140 hn140
            have k1_W140 : W140.cell? ⟨gk, 1, none⟩ = some (.string f) := P140.out.msg_.cell 1
            have k3_W140 : W140.cell? ⟨gk, 3, none⟩ = some (.string t) := P140.out.msg_.cell 3
            have hB_W140 : B ≤ W140.heap.size := Nat.le_trans hBw P140.out.sz
            refine hK.out _ _ (P140.out.held k1_W140 k3_W140 (.inr rfl) (.inr rfl) (.inr rfl)) (fun hc140 => ?rs140)
            clear hK K
            try simp only [Act.put, List.setIfInBounds_toArray, List.set_cons_zero, List.set_cons_succ]
            refine wpAnyL_ready (rs := [18]) hc140 (by kernel_rfl) (by simp) ?_
            refine AllReadyL.cons (o := ?o142) ?hi142 (fun K hK => ?st142) ?mo142
            case hi142 => (simp only [List.getElem?_toArray, List.getElem?_cons_succ, List.getElem?_cons_zero]; try rfl)
            case st142 =>
              obtain ⟨W142, e142⟩ : ∃ x, x = W140.alloc (.cells #[.int .i64 0] 3) := ⟨_, rfl⟩
              obtain ⟨t142, s142⟩ : ∃ x, x = W140.heap.size := ⟨_, rfl⟩
              have P142 := Lib.hid (show PuS w1 W142 _ _ _ _ _ _ _ _ _ _ _ _ _ _ _ _ _ _ _ from e142 ▸ P140.out.alloc _)
              have T24_142 := Lib.hid (show TmpF w1 W142 _ _ _ from e142 ▸ T24_140.out.alloc _)
              have T18_142 := Lib.hid (show TmpF w1 W142 t142 3 #[.int .i64 0] from by rw [e142, s142]; exact TmpF.new P140.out.sz _ _)
              have k1_W142 : W142.cell? ⟨gk, 1, none⟩ = some (.string f) := P142.out.msg_.cell 1
              have k3_W142 : W142.cell? ⟨gk, 3, none⟩ = some (.string t) := P142.out.msg_.cell 3
              have hB_W142 : B ≤ W142.heap.size := Nat.le_trans hBw P142.out.sz
              go_simp
              rw [← e142, ← s142]
              clear e142 s142
              refine hK.out _ _ (P142.out.held k1_W142 k3_W142 (.inr rfl) (.inr rfl) (.inr rfl)) (fun hc142 => ?rs142)
              clear hK K
              try simp only [Act.put, List.setIfInBounds_toArray, List.set_cons_zero, List.set_cons_succ]
              refine wpAnyL_ready (rs := [19]) hc142 (by kernel_rfl) (by simp) ?_
              refine AllReadyL.cons (o := ?o144) ?hi144 (fun K hK => ?st144) ?mo144
              case hi144 => (simp only [List.getElem?_toArray, List.getElem?_cons_succ, List.getElem?_cons_zero]; try rfl)
              case st144 =>
                refine step_append_any _ rfl (.tmp 46) (.tmp 47) 22 rfl B 3 ii (.int .i64 0) 1 8 Try.underlying22 hi_ii hz_ii hs_ii hb_ii rfl (by decide) (.slice Ab N cb) N (rsV L) (by first | (simp [Act.eval]; done) | (simp [Act.eval, Act.put]; done)) P142.out.hS W142.heap.size (some ⟨t142, 0, none⟩) 1 1 [.int .i64 0] (by first | (simp [Act.eval]; done) | (simp [Act.eval, Act.put]; done)) (T18_142.out.reads rfl) (by simp [Value.oneCell']) (by simp only [maxLen]; omega) (by omega) hB_W142 ?_
                intro v144 W144 ho144 hg144 hn144
                obtain ⟨A144, c144, rfl, -, -⟩ := own_slice ho144
                have P144 := Lib.hid (P142.out.appS ho144 hg144 hn144)
                have T24_144 := Lib.hid (T24_142.out.grown hg144 lt_S)
                clear ho144 hg144 hn144
                have k1_W144 : W144.cell? ⟨gk, 1, none⟩ = some (.string f) := P144.out.msg_.cell 1
                have k3_W144 : W144.cell? ⟨gk, 3, none⟩ = some (.string t) := P144.out.msg_.cell 3
                have hB_W144 : B ≤ W144.heap.size := Nat.le_trans hBw P144.out.sz
                refine hK.out _ _ (P144.out.held k1_W144 k3_W144 (.inr rfl) (.inr rfl) (.inr rfl)) (fun hc144 => ?rs144)
                clear hK K
                try simp only [Act.put, List.setIfInBounds_toArray, List.set_cons_zero, List.set_cons_succ]
                refine wpAnyL_ready (rs := [25]) hc144 (by kernel_rfl) (by simp) ?_
                refine AllReadyL.cons (o := ?o146) ?hi146 (fun K hK => ?st146) ?mo146
                case hi146 => (simp only [List.getElem?_toArray, List.getElem?_cons_succ, List.getElem?_cons_zero]; try rfl)
                case st146 =>
                  refine step_append_any _ rfl (.tmp 52) (.tmp 53) 39 rfl B 22 ih (.slice none 0 0) 1 24 Try.underlying39 hi_ih hz_ih hs_ih hb_ih rfl (by decide) (.slice Ac N cc) N (rhV L) (by first | (simp [Act.eval]; done) | (simp [Act.eval, Act.put]; done)) P144.out.hH W144.heap.size (some ⟨t138, 0, none⟩) 1 1 [.slice none 0 0] (by first | (simp [Act.eval]; done) | (simp [Act.eval, Act.put]; done)) (T24_144.out.reads rfl) (by simp [Value.oneCell']) (by simp only [maxLen]; omega) (by omega) hB_W144 ?_
                  intro v146 W146 ho146 hg146 hn146
                  obtain ⟨A146, c146, rfl, -, -⟩ := own_slice ho146
                  have P146 := Lib.hid (P144.out.appH ho146 hg146 hn146)
                  clear ho146 hg146 hn146
                  have k1_W146 : W146.cell? ⟨gk, 1, none⟩ = some (.string f) := P146.out.msg_.cell 1
                  have k3_W146 : W146.cell? ⟨gk, 3, none⟩ = some (.string t) := P146.out.msg_.cell 3
                  have hB_W146 : B ≤ W146.heap.size := Nat.le_trans hBw P146.out.sz
                  refine hK.out _ _ (P146.out.held k1_W146 k3_W146 (.inr rfl) (.inr rfl) (.inr rfl)) (fun hc146 => ?rs146)
                  clear hK K
                  try simp only [Act.put, List.setIfInBounds_toArray, List.set_cons_zero, List.set_cons_succ]
                  refine wpAnyL_take (i := 26) (oi := ?oi147) (v := ?v147) ?hi147 hnosel (by kernel_rfl) (by kernel_rfl) hc146 (by kernel_rfl) (fun _ _ _ h => h) ?hy147 (P146.out.held k1_W146 k3_W146 (.inr rfl) (.inr rfl) (.inr rfl)) (fun hc147 => ?rest147)
                  case hi147 => (simp only [List.getElem?_toArray, List.getElem?_cons_succ, List.getElem?_cons_zero]; try rfl)
                  case hy147 => (refine Or.inl ⟨by rfl, ?_⟩; intro w hSw; go_simp; (try with_reducible rfl))
                  try simp only [Act.put, List.setIfInBounds_toArray, List.set_cons_zero, List.set_cons_succ]
                  refine wpAnyL_take (i := 27) (oi := ?oi148) (v := ?v148) ?hi148 hnosel (by kernel_rfl) (by kernel_rfl) hc147 (by kernel_rfl) (fun _ _ _ h => h) ?hy148 (P146.out.held k1_W146 k3_W146 (.inr rfl) (.inr rfl) (.inr rfl)) (fun hc148 => ?rest148)
                  case hi148 => (simp only [List.getElem?_toArray, List.getElem?_cons_succ, List.getElem?_cons_zero]; try rfl)
                  case hy148 => (refine Or.inl ⟨by rfl, ?_⟩; intro w hSw; go_simp; (try with_reducible rfl))
                  try simp only [Act.put, List.setIfInBounds_toArray, List.set_cons_zero, List.set_cons_succ]
                  refine wpAnyL_ready (rs := [28]) hc148 (by kernel_rfl) (by simp) ?_
                  refine AllReadyL.cons (o := ?o150) ?hi150 (fun K hK => ?st150) ?mo150
                  case hi150 => (simp only [List.getElem?_toArray, List.getElem?_cons_succ, List.getElem?_cons_zero]; try rfl)
                  case st150 =>
                    have st150_ := P146.out.blk.cell 0
                    have sf150_ := P146.out.blk.frozen 0
                    obtain ⟨W150, e150⟩ : ∃ x, x = W146.setCell ⟨m, 0, none⟩ (.slice A140 (N + 1) c140) := ⟨_, rfl⟩
                    have P150 := Lib.hid (show PuS w1 W150 _ _ _ _ _ _ _ _ _ _ _ _ _ _ _ _ _ _ _ from e150 ▸ P146.out.set 0 (by rfl))
                    have k1_W150 : W150.cell? ⟨gk, 1, none⟩ = some (.string f) := P150.out.msg_.cell 1
                    have k3_W150 : W150.cell? ⟨gk, 3, none⟩ = some (.string t) := P150.out.msg_.cell 3
                    have hB_W150 : B ≤ W150.heap.size := Nat.le_trans hBw P150.out.sz
                    go_simp
                    rw [← e150]
                    clear st150_ sf150_ e150
                    refine hK.out _ _ (P150.out.held k1_W150 k3_W150 (.inl (by kernel_rfl)) (.inr rfl) (.inr rfl)) (fun hc150 => ?rs150)
                    clear hK K
                    try simp only [Act.put, List.setIfInBounds_toArray, List.set_cons_zero, List.set_cons_succ]
                    refine wpAnyL_take (i := 29) (oi := ?oi151) (v := ?v151) ?hi151 hnosel (by kernel_rfl) (by kernel_rfl) hc150 (by kernel_rfl) (fun _ _ _ h => h) ?hy151 (P150.out.held k1_W150 k3_W150 (.inl (by kernel_rfl)) (.inr rfl) (.inr rfl)) (fun hc151 => ?rest151)
                    case hi151 => (simp only [List.getElem?_toArray, List.getElem?_cons_succ, List.getElem?_cons_zero]; try rfl)
                    case hy151 => (refine Or.inl ⟨by rfl, ?_⟩; intro w hSw; go_simp; (try with_reducible rfl))
                    try simp only [Act.put, List.setIfInBounds_toArray, List.set_cons_zero, List.set_cons_succ]
                    refine wpAnyL_take (i := 30) (oi := ?oi152) (v := ?v152) ?hi152 hnosel (by kernel_rfl) (by kernel_rfl) hc151 (by kernel_rfl) (fun _ _ _ h => h) ?hy152 (P150.out.held k1_W150 k3_W150 (.inl (by kernel_rfl)) (.inr rfl) (.inr rfl)) (fun hc152 => ?rest152)
                    case hi152 => (simp only [List.getElem?_toArray, List.getElem?_cons_succ, List.getElem?_cons_zero]; try rfl)
                    case hy152 => (refine Or.inl ⟨by rfl, ?_⟩; intro w hSw; go_simp; (try with_reducible rfl))
                    try simp only [Act.put, List.setIfInBounds_toArray, List.set_cons_zero, List.set_cons_succ]
                    refine wpAnyL_ready (rs := [31]) hc152 (by kernel_rfl) (by simp) ?_
                    refine AllReadyL.cons (o := ?o154) ?hi154 (fun K hK => ?st154) ?mo154
                    case hi154 => (simp only [List.getElem?_toArray, List.getElem?_cons_succ, List.getElem?_cons_zero]; try rfl)
                    case st154 =>
                      have st154_ := P150.out.blk.cell 1
                      have sf154_ := P150.out.blk.frozen 1
                      obtain ⟨W154, e154⟩ : ∃ x, x = W150.setCell ⟨m, 1, none⟩ (.slice A144 (N + 1) c144) := ⟨_, rfl⟩
                      have P154 := Lib.hid (show PuS w1 W154 _ _ _ _ _ _ _ _ _ _ _ _ _ _ _ _ _ _ _ from e154 ▸ P150.out.set 1 (by rfl))
                      have k1_W154 : W154.cell? ⟨gk, 1, none⟩ = some (.string f) := P154.out.msg_.cell 1
                      have k3_W154 : W154.cell? ⟨gk, 3, none⟩ = some (.string t) := P154.out.msg_.cell 3
                      have hB_W154 : B ≤ W154.heap.size := Nat.le_trans hBw P154.out.sz
                      go_simp
                      rw [← e154]
                      clear st154_ sf154_ e154
                      refine hK.out _ _ (P154.out.held k1_W154 k3_W154 (.inl (by kernel_rfl)) (.inl (by kernel_rfl)) (.inr rfl)) (fun hc154 => ?rs154)
                      clear hK K
                      try simp only [Act.put, List.setIfInBounds_toArray, List.set_cons_zero, List.set_cons_succ]
                      refine wpAnyL_take (i := 32) (oi := ?oi155) (v := ?v155) ?hi155 hnosel (by kernel_rfl) (by kernel_rfl) hc154 (by kernel_rfl) (fun _ _ _ h => h) ?hy155 (P154.out.held k1_W154 k3_W154 (.inl (by kernel_rfl)) (.inl (by kernel_rfl)) (.inr rfl)) (fun hc155 => ?rest155)
                      case hi155 => (simp only [List.getElem?_toArray, List.getElem?_cons_succ, List.getElem?_cons_zero]; try rfl)
                      case hy155 => (refine Or.inl ⟨by rfl, ?_⟩; intro w hSw; go_simp; (try with_reducible rfl))
                      try simp only [Act.put, List.setIfInBounds_toArray, List.set_cons_zero, List.set_cons_succ]
                      refine wpAnyL_take (i := 33) (oi := ?oi156) (v := ?v156) ?hi156 hnosel (by kernel_rfl) (by kernel_rfl) hc155 (by kernel_rfl) (fun _ _ _ h => h) ?hy156 (P154.out.held k1_W154 k3_W154 (.inl (by kernel_rfl)) (.inl (by kernel_rfl)) (.inr rfl)) (fun hc156 => ?rest156)
                      case hi156 => (simp only [List.getElem?_toArray, List.getElem?_cons_succ, List.getElem?_cons_zero]; try rfl)
                      case hy156 => (refine Or.inl ⟨by rfl, ?_⟩; intro w hSw; go_simp; (try with_reducible rfl))
                      try simp only [Act.put, List.setIfInBounds_toArray, List.set_cons_zero, List.set_cons_succ]
                      refine wpAnyL_ready (rs := [34]) hc156 (by kernel_rfl) (by simp) ?_
                      refine AllReadyL.cons (o := ?o158) ?hi158 (fun K hK => ?st158) ?mo158
                      case hi158 => (simp only [List.getElem?_toArray, List.getElem?_cons_succ, List.getElem?_cons_zero]; try rfl)
                      case st158 =>
                        have st158_ := P154.out.blk.cell 2
                        have sf158_ := P154.out.blk.frozen 2
                        obtain ⟨W158, e158⟩ : ∃ x, x = W154.setCell ⟨m, 2, none⟩ (.slice A146 (N + 1) c146) := ⟨_, rfl⟩
                        have P158 := Lib.hid (show PuS w1 W158 _ _ _ _ _ _ _ _ _ _ _ _ _ _ _ _ _ _ _ from e158 ▸ P154.out.set 2 (by rfl))
                        have k1_W158 : W158.cell? ⟨gk, 1, none⟩ = some (.string f) := P158.out.msg_.cell 1
                        have k3_W158 : W158.cell? ⟨gk, 3, none⟩ = some (.string t) := P158.out.msg_.cell 3
                        have hB_W158 : B ≤ W158.heap.size := Nat.le_trans hBw P158.out.sz
                        go_simp
                        rw [← e158]
                        clear st158_ sf158_ e158
                        refine hK.out _ _ (P158.out.held k1_W158 k3_W158 (.inl (by kernel_rfl)) (.inl (by kernel_rfl)) (.inl (by kernel_rfl))) (fun hc158 => ?rs158)
                        clear hK K
                        try simp only [Act.put, List.setIfInBounds_toArray, List.set_cons_zero, List.set_cons_succ]
                        refine wpAnyL_done (by kernel_rfl) ?_ _
                        refine NoPanic.normal ?_
                        go_wp2_with fail
                        go_meet
                        exact Lib.hid ⟨_, by rw [HN.out], P158.out.fin (by rw [HN.out]; exact HM1.out) hl9 HN.out HV9.out, P158.out.msg_, rfl⟩
                      exact AllReadyL.nil
                    exact AllReadyL.nil
                  exact AllReadyL.nil
                exact AllReadyL.nil
              exact AllReadyL.nil
            exact AllReadyL.nil
          refine AllReadyL.cons (o := ?o159) ?hi159 (fun K hK => ?st159) ?mo159
          case hi159 => (simp only [List.getElem?_toArray, List.getElem?_cons_succ, List.getElem?_cons_zero]; try rfl)
          case st159 =>
            obtain ⟨W159, e159⟩ : ∃ x, x = W138.alloc (.cells #[.int .i64 0] 3) := ⟨_, rfl⟩
            obtain ⟨t159, s159⟩ : ∃ x, x = W138.heap.size := ⟨_, rfl⟩
            have P159 := Lib.hid (show PuS w1 W159 _ _ _ _ _ _ _ _ _ _ _ _ _ _ _ _ _ _ _ from e159 ▸ P138.out.alloc _)
            have T12_159 := Lib.hid (show TmpF w1 W159 _ _ _ from e159 ▸ T12_138.out.alloc _)
            have T24_159 := Lib.hid (show TmpF w1 W159 _ _ _ from e159 ▸ T24_138.out.alloc _)
            have T18_159 := Lib.hid (show TmpF w1 W159 t159 3 #[.int .i64 0] from by rw [e159, s159]; exact TmpF.new P138.out.sz _ _)
            have k1_W159 : W159.cell? ⟨gk, 1, none⟩ = some (.string f) := P159.out.msg_.cell 1
            have k3_W159 : W159.cell? ⟨gk, 3, none⟩ = some (.string t) := P159.out.msg_.cell 3
            have hB_W159 : B ≤ W159.heap.size := Nat.le_trans hBw P159.out.sz
            go_simp
            rw [← e159, ← s159]
            clear e159 s159
            refine hK.out _ _ (P159.out.held k1_W159 k3_W159 (.inr rfl) (.inr rfl) (.inr rfl)) (fun hc159 => ?rs159)
            clear hK K
            try simp only [Act.put, List.setIfInBounds_toArray, List.set_cons_zero, List.set_cons_succ]
            refine wpAnyL_ready (rs := [13]) hc159 (by kernel_rfl) (by simp) ?_
            refine AllReadyL.cons (o := ?o161) ?hi161 (fun K hK => ?st161) ?mo161
            case hi161 => (simp only [List.getElem?_toArray, List.getElem?_cons_succ, List.getElem?_cons_zero]; try rfl)
            case st161 =>
              refine step_append_any _ rfl (.tmp 35) (.tmp 41) 38 rfl B 46 ik (.agg #[.string ⟨#[]⟩, .string ⟨#[]⟩]) 2 32 Try.underlying38 hi_ik hz_ik hs_ik hb_ik rfl (by decide) (.slice Aa N ca) N (rkV L) (by first | (simp [Act.eval]; done) | (simp [Act.eval, Act.put]; done)) P159.out.hK W159.heap.size (some ⟨t22, 0, none⟩) 1 1 [.string f, .string t] (by first | (simp [Act.eval]; done) | (simp [Act.eval, Act.put]; done)) (T12_159.out.reads rfl) (by simp [Value.oneCell']) (by simp only [maxLen]; omega) (by omega) hB_W159 ?_
              intro v161 W161 ho161 hg161 hn161
              obtain ⟨A161, c161, rfl, -, -⟩ := own_slice ho161
              have P161 := Lib.hid (P159.out.appK ho161 hg161 hn161)
              have T24_161 := Lib.hid (T24_159.out.grown hg161 lt_K)
              have T18_161 := Lib.hid (T18_159.out.grown hg161 lt_K)
              clear ho161 hg161 hn161
              have k1_W161 : W161.cell? ⟨gk, 1, none⟩ = some (.string f) := P161.out.msg_.cell 1
              have k3_W161 : W161.cell? ⟨gk, 3, none⟩ = some (.string t) := P161.out.msg_.cell 3
              have hB_W161 : B ≤ W161.heap.size := Nat.le_trans hBw P161.out.sz
              refine hK.out _ _ (P161.out.held k1_W161 k3_W161 (.inr rfl) (.inr rfl) (.inr rfl)) (fun hc161 => ?rs161)
              clear hK K
              try simp only [Act.put, List.setIfInBounds_toArray, List.set_cons_zero, List.set_cons_succ]
              refine wpAnyL_ready (rs := [19]) hc161 (by kernel_rfl) (by simp) ?_
              refine AllReadyL.cons (o := ?o163) ?hi163 (fun K hK => ?st163) ?mo163
              case hi163 => (simp only [List.getElem?_toArray, List.getElem?_cons_succ, List.getElem?_cons_zero]; try rfl)
              case st163 =>
                refine step_append_any _ rfl (.tmp 46) (.tmp 47) 22 rfl B 3 ii (.int .i64 0) 1 8 Try.underlying22 hi_ii hz_ii hs_ii hb_ii rfl (by decide) (.slice Ab N cb) N (rsV L) (by first | (simp [Act.eval]; done) | (simp [Act.eval, Act.put]; done)) P161.out.hS W161.heap.size (some ⟨t159, 0, none⟩) 1 1 [.int .i64 0] (by first | (simp [Act.eval]; done) | (simp [Act.eval, Act.put]; done)) (T18_161.out.reads rfl) (by simp [Value.oneCell']) (by simp only [maxLen]; omega) (by omega) hB_W161 ?_
                intro v163 W163 ho163 hg163 hn163
                obtain ⟨A163, c163, rfl, -, -⟩ := own_slice ho163
                have P163 := Lib.hid (P161.out.appS ho163 hg163 hn163)
                have T24_163 := Lib.hid (T24_161.out.grown hg163 lt_S)
                clear ho163 hg163 hn163
                have k1_W163 : W163.cell? ⟨gk, 1, none⟩ = some (.string f) := P163.out.msg_.cell 1
                have k3_W163 : W163.cell? ⟨gk, 3, none⟩ = some (.string t) := P163.out.msg_.cell 3
                have hB_W163 : B ≤ W163.heap.size := Nat.le_trans hBw P163.out.sz
                refine hK.out _ _ (P163.out.held k1_W163 k3_W163 (.inr rfl) (.inr rfl) (.inr rfl)) (fun hc163 => ?rs163)
                clear hK K
                try simp only [Act.put, List.setIfInBounds_toArray, List.set_cons_zero, List.set_cons_succ]
                refine wpAnyL_ready (rs := [25]) hc163 (by kernel_rfl) (by simp) ?_
                refine AllReadyL.cons (o := ?o165) ?hi165 (fun K hK => ?st165) ?mo165
                case hi165 => (simp only [List.getElem?_toArray, List.getElem?_cons_succ, List.getElem?_cons_zero]; try rfl)
                case st165 =>
                  refine step_append_any _ rfl (.tmp 52) (.tmp 53) 39 rfl B 22 ih (.slice none 0 0) 1 24 Try.underlying39 hi_ih hz_ih hs_ih hb_ih rfl (by decide) (.slice Ac N cc) N (rhV L) (by first | (simp [Act.eval]; done) | (simp [Act.eval, Act.put]; done)) P163.out.hH W163.heap.size (some ⟨t138, 0, none⟩) 1 1 [.slice none 0 0] (by first | (simp [Act.eval]; done) | (simp [Act.eval, Act.put]; done)) (T24_163.out.reads rfl) (by simp [Value.oneCell']) (by simp only [maxLen]; omega) (by omega) hB_W163 ?_
                  intro v165 W165 ho165 hg165 hn165
                  obtain ⟨A165, c165, rfl, -, -⟩ := own_slice ho165
                  have P165 := Lib.hid (P163.out.appH ho165 hg165 hn165)
                  clear ho165 hg165 hn165
                  have k1_W165 : W165.cell? ⟨gk, 1, none⟩ = some (.string f) := P165.out.msg_.cell 1
                  have k3_W165 : W165.cell? ⟨gk, 3, none⟩ = some (.string t) := P165.out.msg_.cell 3
                  have hB_W165 : B ≤ W165.heap.size := Nat.le_trans hBw P165.out.sz
                  refine hK.out _ _ (P165.out.held k1_W165 k3_W165 (.inr rfl) (.inr rfl) (.inr rfl)) (fun hc165 => ?rs165)
                  clear hK K
                  try simp only [Act.put, List.setIfInBounds_toArray, List.set_cons_zero, List.set_cons_succ]
                  refine wpAnyL_take (i := 26) (oi := ?oi166) (v := ?v166) ?hi166 hnosel (by kernel_rfl) (by kernel_rfl) hc165 (by kernel_rfl) (fun _ _ _ h => h) ?hy166 (P165.out.held k1_W165 k3_W165 (.inr rfl) (.inr rfl) (.inr rfl)) (fun hc166 => ?rest166)
                  case hi166 => (simp only [List.getElem?_toArray, List.getElem?_cons_succ, List.getElem?_cons_zero]; try rfl)
                  case hy166 => (refine Or.inl ⟨by rfl, ?_⟩; intro w hSw; go_simp; (try with_reducible rfl))
                  try simp only [Act.put, List.setIfInBounds_toArray, List.set_cons_zero, List.set_cons_succ]
                  refine wpAnyL_take (i := 27) (oi := ?oi167) (v := ?v167) ?hi167 hnosel (by kernel_rfl) (by kernel_rfl) hc166 (by kernel_rfl) (fun _ _ _ h => h) ?hy167 (P165.out.held k1_W165 k3_W165 (.inr rfl) (.inr rfl) (.inr rfl)) (fun hc167 => ?rest167)
                  case hi167 => (simp only [List.getElem?_toArray, List.getElem?_cons_succ, List.getElem?_cons_zero]; try rfl)
                  case hy167 => (refine Or.inl ⟨by rfl, ?_⟩; intro w hSw; go_simp; (try with_reducible rfl))
                  try simp only [Act.put, List.setIfInBounds_toArray, List.set_cons_zero, List.set_cons_succ]
                  refine wpAnyL_ready (rs := [28]) hc167 (by kernel_rfl) (by simp) ?_
                  refine AllReadyL.cons (o := ?o169) ?hi169 (fun K hK => ?st169) ?mo169
                  case hi169 => (simp only [List.getElem?_toArray, List.getElem?_cons_succ, List.getElem?_cons_zero]; try rfl)
                  case st169 =>
                    have st169_ := P165.out.blk.cell 0
                    have sf169_ := P165.out.blk.frozen 0
                    obtain ⟨W169, e169⟩ : ∃ x, x = W165.setCell ⟨m, 0, none⟩ (.slice A161 (N + 1) c161) := ⟨_, rfl⟩
                    have P169 := Lib.hid (show PuS w1 W169 _ _ _ _ _ _ _ _ _ _ _ _ _ _ _ _ _ _ _ from e169 ▸ P165.out.set 0 (by rfl))
                    have k1_W169 : W169.cell? ⟨gk, 1, none⟩ = some (.string f) := P169.out.msg_.cell 1
                    have k3_W169 : W169.cell? ⟨gk, 3, none⟩ = some (.string t) := P169.out.msg_.cell 3
                    have hB_W169 : B ≤ W169.heap.size := Nat.le_trans hBw P169.out.sz
                    go_simp
                    rw [← e169]
                    clear st169_ sf169_ e169
                    refine hK.out _ _ (P169.out.held k1_W169 k3_W169 (.inl (by kernel_rfl)) (.inr rfl) (.inr rfl)) (fun hc169 => ?rs169)
                    clear hK K
                    try simp only [Act.put, List.setIfInBounds_toArray, List.set_cons_zero, List.set_cons_succ]
                    refine wpAnyL_take (i := 29) (oi := ?oi170) (v := ?v170) ?hi170 hnosel (by kernel_rfl) (by kernel_rfl) hc169 (by kernel_rfl) (fun _ _ _ h => h) ?hy170 (P169.out.held k1_W169 k3_W169 (.inl (by kernel_rfl)) (.inr rfl) (.inr rfl)) (fun hc170 => ?rest170)
                    case hi170 => (simp only [List.getElem?_toArray, List.getElem?_cons_succ, List.getElem?_cons_zero]; try rfl)
                    case hy170 => (refine Or.inl ⟨by rfl, ?_⟩; intro w hSw; go_simp; (try with_reducible rfl))
                    try simp only [Act.put, List.setIfInBounds_toArray, List.set_cons_zero, List.set_cons_succ]
                    refine wpAnyL_take (i := 30) (oi := ?oi171) (v := ?v171) ?hi171 hnosel (by kernel_rfl) (by kernel_rfl) hc170 (by kernel_rfl) (fun _ _ _ h => h) ?hy171 (P169.out.held k1_W169 k3_W169 (.inl (by kernel_rfl)) (.inr rfl) (.inr rfl)) (fun hc171 => ?rest171)
                    case hi171 => (simp only [List.getElem?_toArray, List.getElem?_cons_succ, List.getElem?_cons_zero]; try rfl)
                    case hy171 => (refine Or.inl ⟨by rfl, ?_⟩; intro w hSw; go_simp; (try with_reducible rfl))
                    try simp only [Act.put, List.setIfInBounds_toArray, List.set_cons_zero, List.set_cons_succ]
                    refine wpAnyL_ready (rs := [31]) hc171 (by kernel_rfl) (by simp) ?_
                    refine AllReadyL.cons (o := ?o173) ?hi173 (fun K hK => ?st173) ?mo173
                    case hi173 => (simp only [List.getElem?_toArray, List.getElem?_cons_succ, List.getElem?_cons_zero]; try rfl)
                    case st173 =>
                      have st173_ := P169.out.blk.cell 1
                      have sf173_ := P169.out.blk.frozen 1
                      obtain ⟨W173, e173⟩ : ∃ x, x = W169.setCell ⟨m, 1, none⟩ (.slice A163 (N + 1) c163) := ⟨_, rfl⟩
                      have P173 := Lib.hid (show PuS w1 W173 _ _ _ _ _ _ _ _ _ _ _ _ _ _ _ _ _ _ _ from e173 ▸ P169.out.set 1 (by rfl))
                      have k1_W173 : W173.cell? ⟨gk, 1, none⟩ = some (.string f) := P173.out.msg_.cell 1
                      have k3_W173 : W173.cell? ⟨gk, 3, none⟩ = some (.string t) := P173.out.msg_.cell 3
                      have hB_W173 : B ≤ W173.heap.size := Nat.le_trans hBw P173.out.sz
                      go_simp
                      rw [← e173]
                      clear st173_ sf173_ e173
                      refine hK.out _ _ (P173.out.held k1_W173 k3_W173 (.inl (by kernel_rfl)) (.inl (by kernel_rfl)) (.inr rfl)) (fun hc173 => ?rs173)
                      clear hK K
                      try simp only [Act.put, List.setIfInBounds_toArray, List.set_cons_zero, List.set_cons_succ]
                      refine wpAnyL_take (i := 32) (oi := ?oi174) (v := ?v174) ?hi174 hnosel (by kernel_rfl) (by kernel_rfl) hc173 (by kernel_rfl) (fun _ _ _ h => h) ?hy174 (P173.out.held k1_W173 k3_W173 (.inl (by kernel_rfl)) (.inl (by kernel_rfl)) (.inr rfl)) (fun hc174 => ?rest174)
                      case hi174 => (simp only [List.getElem?_toArray, List.getElem?_cons_succ, List.getElem?_cons_zero]; try rfl)
                      case hy174 => (refine Or.inl ⟨by rfl, ?_⟩; intro w hSw; go_simp; (try with_reducible rfl))
                      try simp only [Act.put, List.setIfInBounds_toArray, List.set_cons_zero, List.set_cons_succ]
                      refine wpAnyL_take (i := 33) (oi := ?oi175) (v := ?v175) ?hi175 hnosel (by kernel_rfl) (by kernel_rfl) hc174 (by kernel_rfl) (fun _ _ _ h => h) ?hy175 (P173.out.held k1_W173 k3_W173 (.inl (by kernel_rfl)) (.inl (by kernel_rfl)) (.inr rfl)) (fun hc175 => ?rest175)
                      case hi175 => (simp only [List.getElem?_toArray, List.getElem?_cons_succ, List.getElem?_cons_zero]; try rfl)
                      case hy175 => (refine Or.inl ⟨by rfl, ?_⟩; intro w hSw; go_simp; (try with_reducible rfl))
                      try simp only [Act.put, List.setIfInBounds_toArray, List.set_cons_zero, List.set_cons_succ]
                      refine wpAnyL_ready (rs := [34]) hc175 (by kernel_rfl) (by simp) ?_
                      refine AllReadyL.cons (o := ?o177) ?hi177 (fun K hK => ?st177) ?mo177
                      case hi177 => (simp only [List.getElem?_toArray, List.getElem?_cons_succ, List.getElem?_cons_zero]; try rfl)
                      case st177 =>
                        have st177_ := P173.out.blk.cell 2
                        have sf177_ := P173.out.blk.frozen 2
                        obtain ⟨W177, e177⟩ : ∃ x, x = W173.setCell ⟨m, 2, none⟩ (.slice A165 (N + 1) c165) := ⟨_, rfl⟩
                        have P177 := Lib.hid (show PuS w1 W177 _ _ _ _ _ _ _ _ _ _ _ _ _ _ _ _ _ _ _ from e177 ▸ P173.out.set 2 (by rfl))
                        have k1_W177 : W177.cell? ⟨gk, 1, none⟩ = some (.string f) := P177.out.msg_.cell 1
                        have k3_W177 : W177.cell? ⟨gk, 3, none⟩ = some (.string t) := P177.out.msg_.cell 3
                        have hB_W177 : B ≤ W177.heap.size := Nat.le_trans hBw P177.out.sz
                        go_simp
                        rw [← e177]
                        clear st177_ sf177_ e177
                        refine hK.out _ _ (P177.out.held k1_W177 k3_W177 (.inl (by kernel_rfl)) (.inl (by kernel_rfl)) (.inl (by kernel_rfl))) (fun hc177 => ?rs177)
                        clear hK K
                        try simp only [Act.put, List.setIfInBounds_toArray, List.set_cons_zero, List.set_cons_succ]
                        refine wpAnyL_done (by kernel_rfl) ?_ _
                        refine NoPanic.normal ?_
                        go_wp2_with fail
                        go_meet
                        exact Lib.hid ⟨_, by rw [HN.out], P177.out.fin (by rw [HN.out]; exact HM1.out) hl9 HN.out HV9.out, P177.out.msg_, rfl⟩
                      exact AllReadyL.nil
                    exact AllReadyL.nil
                  exact AllReadyL.nil
                exact AllReadyL.nil
              exact AllReadyL.nil
            exact AllReadyL.nil
          exact AllReadyL.nil
        exact AllReadyL.nil
      refine AllReadyL.cons (o := ?o178) ?hi178 (fun K hK => ?st178) ?mo178
      case hi178 => (simp only [List.getElem?_toArray, List.getElem?_cons_succ, List.getElem?_cons_zero]; try rfl)
      case st178 =>
        obtain ⟨W178, e178⟩ : ∃ x, x = wd.alloc (.cells #[.int .i64 0] 3) := ⟨_, rfl⟩
        obtain ⟨t178, s178⟩ : ∃ x, x = wd.heap.size := ⟨_, rfl⟩
        have P178 := Lib.hid (show PuS w1 W178 _ _ _ _ _ _ _ _ _ _ _ _ _ _ _ _ _ _ _ from e178 ▸ P0.out.alloc _)
        have T18_178 := Lib.hid (show TmpF w1 W178 t178 3 #[.int .i64 0] from by rw [e178, s178]; exact TmpF.new P0.out.sz _ _)
        have k1_W178 : W178.cell? ⟨gk, 1, none⟩ = some (.string f) := P178.out.msg_.cell 1
        have k3_W178 : W178.cell? ⟨gk, 3, none⟩ = some (.string t) := P178.out.msg_.cell 3
        have hB_W178 : B ≤ W178.heap.size := Nat.le_trans hBw P178.out.sz
        go_simp
        rw [← e178, ← s178]
        clear e178 s178
        refine hK.out _ _ (P178.out.held k1_W178 k3_W178 (.inr rfl) (.inr rfl) (.inr rfl)) (fun hc178 => ?rs178)
        clear hK K
        try simp only [Act.put, List.setIfInBounds_toArray, List.set_cons_zero, List.set_cons_succ]
        refine wpAnyL_ready (rs := [12, 24]) hc178 (by kernel_rfl) (by simp) ?_
        refine AllReadyL.cons (o := ?o180) ?hi180 (fun K hK => ?st180) ?mo180
        case hi180 => (simp only [List.getElem?_toArray, List.getElem?_cons_succ, List.getElem?_cons_zero]; try rfl)
        case st180 =>
          obtain ⟨W180, e180⟩ : ∃ x, x = W178.alloc (.cells #[.string f, .string t] 46) := ⟨_, rfl⟩
          obtain ⟨t180, s180⟩ : ∃ x, x = W178.heap.size := ⟨_, rfl⟩
          have P180 := Lib.hid (show PuS w1 W180 _ _ _ _ _ _ _ _ _ _ _ _ _ _ _ _ _ _ _ from e180 ▸ P178.out.alloc _)
          have T18_180 := Lib.hid (show TmpF w1 W180 _ _ _ from e180 ▸ T18_178.out.alloc _)
          have T12_180 := Lib.hid (show TmpF w1 W180 t180 46 #[.string f, .string t] from by rw [e180, s180]; exact TmpF.new P178.out.sz _ _)
          have k1_W180 : W180.cell? ⟨gk, 1, none⟩ = some (.string f) := P180.out.msg_.cell 1
          have k3_W180 : W180.cell? ⟨gk, 3, none⟩ = some (.string t) := P180.out.msg_.cell 3
          have hB_W180 : B ≤ W180.heap.size := Nat.le_trans hBw P180.out.sz
          go_simp
          rw [← e180, ← s180]
          clear e180 s180
          refine hK.out _ _ (P180.out.held k1_W180 k3_W180 (.inr rfl) (.inr rfl) (.inr rfl)) (fun hc180 => ?rs180)
          clear hK K
          try simp only [Act.put, List.setIfInBounds_toArray, List.set_cons_zero, List.set_cons_succ]
          refine wpAnyL_ready (rs := [13, 24]) hc180 (by kernel_rfl) (by simp) ?_
          refine AllReadyL.cons (o := ?o182) ?hi182 (fun K hK => ?st182) ?mo182
          case hi182 => (simp only [List.getElem?_toArray, List.getElem?_cons_succ, List.getElem?_cons_zero]; try rfl)
          case st182 =>
            refine step_append_any _ rfl (.tmp 35) (.tmp 41) 38 rfl B 46 ik (.agg #[.string ⟨#[]⟩, .string ⟨#[]⟩]) 2 32 Try.underlying38 hi_ik hz_ik hs_ik hb_ik rfl (by decide) (.slice Aa N ca) N (rkV L) (by first | (simp [Act.eval]; done) | (simp [Act.eval, Act.put]; done)) P180.out.hK W180.heap.size (some ⟨t180, 0, none⟩) 1 1 [.string f, .string t] (by first | (simp [Act.eval]; done) | (simp [Act.eval, Act.put]; done)) (T12_180.out.reads rfl) (by simp [Value.oneCell']) (by simp only [maxLen]; omega) (by omega) hB_W180 ?_
            intro v182 W182 ho182 hg182 hn182
            obtain ⟨A182, c182, rfl, -, -⟩ := own_slice ho182
            have P182 := Lib.hid (P180.out.appK ho182 hg182 hn182)
            have T18_182 := Lib.hid (T18_180.out.grown hg182 lt_K)
            clear ho182 hg182 hn182
            have k1_W182 : W182.cell? ⟨gk, 1, none⟩ = some (.string f) := P182.out.msg_.cell 1
            have k3_W182 : W182.cell? ⟨gk, 3, none⟩ = some (.string t) := P182.out.msg_.cell 3
            have hB_W182 : B ≤ W182.heap.size := Nat.le_trans hBw P182.out.sz
            refine hK.out _ _ (P182.out.held k1_W182 k3_W182 (.inr rfl) (.inr rfl) (.inr rfl)) (fun hc182 => ?rs182)
            clear hK K
            try simp only [Act.put, List.setIfInBounds_toArray, List.set_cons_zero, List.set_cons_succ]
            refine wpAnyL_ready (rs := [19, 24]) hc182 (by kernel_rfl) (by simp) ?_
            refine AllReadyL.cons (o := ?o184) ?hi184 (fun K hK => ?st184) ?mo184
            case hi184 => (simp only [List.getElem?_toArray, List.getElem?_cons_succ, List.getElem?_cons_zero]; try rfl)
            case st184 =>
              refine step_append_any _ rfl (.tmp 46) (.tmp 47) 22 rfl B 3 ii (.int .i64 0) 1 8 Try.underlying22 hi_ii hz_ii hs_ii hb_ii rfl (by decide) (.slice Ab N cb) N (rsV L) (by first | (simp [Act.eval]; done) | (simp [Act.eval, Act.put]; done)) P182.out.hS W182.heap.size (some ⟨t178, 0, none⟩) 1 1 [.int .i64 0] (by first | (simp [Act.eval]; done) | (simp [Act.eval, Act.put]; done)) (T18_182.out.reads rfl) (by simp [Value.oneCell']) (by simp only [maxLen]; omega) (by omega) hB_W182 ?_
              intro v184 W184 ho184 hg184 hn184
              obtain ⟨A184, c184, rfl, -, -⟩ := own_slice ho184
              have P184 := Lib.hid (P182.out.appS ho184 hg184 hn184)
              clear ho184 hg184 hn184
              have k1_W184 : W184.cell? ⟨gk, 1, none⟩ = some (.string f) := P184.out.msg_.cell 1
              have k3_W184 : W184.cell? ⟨gk, 3, none⟩ = some (.string t) := P184.out.msg_.cell 3
              have hB_W184 : B ≤ W184.heap.size := Nat.le_trans hBw P184.out.sz
              refine hK.out _ _ (P184.out.held k1_W184 k3_W184 (.inr rfl) (.inr rfl) (.inr rfl)) (fun hc184 => ?rs184)
              clear hK K
              try simp only [Act.put, List.setIfInBounds_toArray, List.set_cons_zero, List.set_cons_succ]
              refine wpAnyL_ready (rs := [24]) hc184 (by kernel_rfl) (by simp) ?_
              refine AllReadyL.cons (o := ?o186) ?hi186 (fun K hK => ?st186) ?mo186
              case hi186 => (simp only [List.getElem?_toArray, List.getElem?_cons_succ, List.getElem?_cons_zero]; try rfl)
              case st186 =>
                obtain ⟨W186, e186⟩ : ∃ x, x = W184.alloc (.cells #[.slice none 0 0] 22) := ⟨_, rfl⟩
                obtain ⟨t186, s186⟩ : ∃ x, x = W184.heap.size := ⟨_, rfl⟩
                have P186 := Lib.hid (show PuS w1 W186 _ _ _ _ _ _ _ _ _ _ _ _ _ _ _ _ _ _ _ from e186 ▸ P184.out.alloc _)
                have T24_186 := Lib.hid (show TmpF w1 W186 t186 22 #[.slice none 0 0] from by rw [e186, s186]; exact TmpF.new P184.out.sz _ _)
                have k1_W186 : W186.cell? ⟨gk, 1, none⟩ = some (.string f) := P186.out.msg_.cell 1
                have k3_W186 : W186.cell? ⟨gk, 3, none⟩ = some (.string t) := P186.out.msg_.cell 3
                have hB_W186 : B ≤ W186.heap.size := Nat.le_trans hBw P186.out.sz
                go_simp
                rw [← e186, ← s186]
                clear e186 s186
                refine hK.out _ _ (P186.out.held k1_W186 k3_W186 (.inr rfl) (.inr rfl) (.inr rfl)) (fun hc186 => ?rs186)
                clear hK K
                try simp only [Act.put, List.setIfInBounds_toArray, List.set_cons_zero, List.set_cons_succ]
                refine wpAnyL_ready (rs := [25]) hc186 (by kernel_rfl) (by simp) ?_
                refine AllReadyL.cons (o := ?o188) ?hi188 (fun K hK => ?st188) ?mo188
                case hi188 => (simp only [List.getElem?_toArray, List.getElem?_cons_succ, List.getElem?_cons_zero]; try rfl)
                case st188 =>
                  refine step_append_any _ rfl (.tmp 52) (.tmp 53) 39 rfl B 22 ih (.slice none 0 0) 1 24 Try.underlying39 hi_ih hz_ih hs_ih hb_ih rfl (by decide) (.slice Ac N cc) N (rhV L) (by first | (simp [Act.eval]; done) | (simp [Act.eval, Act.put]; done)) P186.out.hH W186.heap.size (some ⟨t186, 0, none⟩) 1 1 [.slice none 0 0] (by first | (simp [Act.eval]; done) | (simp [Act.eval, Act.put]; done)) (T24_186.out.reads rfl) (by simp [Value.oneCell']) (by simp only [maxLen]; omega) (by omega) hB_W186 ?_
                  intro v188 W188 ho188 hg188 hn188
                  obtain ⟨A188, c188, rfl, -, -⟩ := own_slice ho188
                  have P188 := Lib.hid (P186.out.appH ho188 hg188 hn188)
                  clear ho188 hg188 hn188
                  have k1_W188 : W188.cell? ⟨gk, 1, none⟩ = some (.string f) := P188.out.msg_.cell 1
                  have k3_W188 : W188.cell? ⟨gk, 3, none⟩ = some (.string t) := P188.out.msg_.cell 3
                  have hB_W188 : B ≤ W188.heap.size := Nat.le_trans hBw P188.out.sz
                  refine hK.out _ _ (P188.out.held k1_W188 k3_W188 (.inr rfl) (.inr rfl) (.inr rfl)) (fun hc188 => ?rs188)
                  clear hK K
                  try simp only [Act.put, List.setIfInBounds_toArray, List.set_cons_zero, List.set_cons_succ]
                  refine wpAnyL_take (i := 26) (oi := ?oi189) (v := ?v189) ?hi189 hnosel (by kernel_rfl) (by kernel_rfl) hc188 (by kernel_rfl) (fun _ _ _ h => h) ?hy189 (P188.out.held k1_W188 k3_W188 (.inr rfl) (.inr rfl) (.inr rfl)) (fun hc189 => ?rest189)
                  case hi189 => (simp only [List.getElem?_toArray, List.getElem?_cons_succ, List.getElem?_cons_zero]; try rfl)
                  case hy189 => (refine Or.inl ⟨by rfl, ?_⟩; intro w hSw; go_simp; (try with_reducible rfl))
                  try simp only [Act.put, List.setIfInBounds_toArray, List.set_cons_zero, List.set_cons_succ]
                  refine wpAnyL_take (i := 27) (oi := ?oi190) (v := ?v190) ?hi190 hnosel (by kernel_rfl) (by kernel_rfl) hc189 (by kernel_rfl) (fun _ _ _ h => h) ?hy190 (P188.out.held k1_W188 k3_W188 (.inr rfl) (.inr rfl) (.inr rfl)) (fun hc190 => ?rest190)
                  case hi190 => (simp only [List.getElem?_toArray, List.getElem?_cons_succ, List.getElem?_cons_zero]; try rfl)
                  case hy190 => (refine Or.inl ⟨by rfl, ?_⟩; intro w hSw; go_simp; (try with_reducible rfl))
                  try simp only [Act.put, List.setIfInBounds_toArray, List.set_cons_zero, List.set_cons_succ]
                  refine wpAnyL_ready (rs := [28]) hc190 (by kernel_rfl) (by simp) ?_
                  refine AllReadyL.cons (o := ?o192) ?hi192 (fun K hK => ?st192) ?mo192
                  case hi192 => (simp only [List.getElem?_toArray, List.getElem?_cons_succ, List.getElem?_cons_zero]; try rfl)
                  case st192 =>
                    have st192_ := P188.out.blk.cell 0
                    have sf192_ := P188.out.blk.frozen 0
                    obtain ⟨W192, e192⟩ : ∃ x, x = W188.setCell ⟨m, 0, none⟩ (.slice A182 (N + 1) c182) := ⟨_, rfl⟩
                    have P192 := Lib.hid (show PuS w1 W192 _ _ _ _ _ _ _ _ _ _ _ _ _ _ _ _ _ _ _ from e192 ▸ P188.out.set 0 (by rfl))
                    have k1_W192 : W192.cell? ⟨gk, 1, none⟩ = some (.string f) := P192.out.msg_.cell 1
                    have k3_W192 : W192.cell? ⟨gk, 3, none⟩ = some (.string t) := P192.out.msg_.cell 3
                    have hB_W192 : B ≤ W192.heap.size := Nat.le_trans hBw P192.out.sz
                    go_simp
                    rw [← e192]
                    clear st192_ sf192_ e192
                    refine hK.out _ _ (P192.out.held k1_W192 k3_W192 (.inl (by kernel_rfl)) (.inr rfl) (.inr rfl)) (fun hc192 => ?rs192)
                    clear hK K
                    try simp only [Act.put, List.setIfInBounds_toArray, List.set_cons_zero, List.set_cons_succ]
                    refine wpAnyL_take (i := 29) (oi := ?oi193) (v := ?v193) ?hi193 hnosel (by kernel_rfl) (by kernel_rfl) hc192 (by kernel_rfl) (fun _ _ _ h => h) ?hy193 (P192.out.held k1_W192 k3_W192 (.inl (by kernel_rfl)) (.inr rfl) (.inr rfl)) (fun hc193 => ?rest193)
                    case hi193 => (simp only [List.getElem?_toArray, List.getElem?_cons_succ, List.getElem?_cons_zero]; try rfl)
                    case hy193 => (refine Or.inl ⟨by rfl, ?_⟩; intro w hSw; go_simp; (try with_reducible rfl))
                    try simp only [Act.put, List.setIfInBounds_toArray, List.set_cons_zero, List.set_cons_succ]
                    refine wpAnyL_take (i := 30) (oi := ?oi194) (v := ?v194) ?hi194 hnosel (by kernel_rfl) (by kernel_rfl) hc193 (by kernel_rfl) (fun _ _ _ h => h) ?hy194 (P192.out.held k1_W192 k3_W192 (.inl (by kernel_rfl)) (.inr rfl) (.inr rfl)) (fun hc194 => ?rest194)
                    case hi194 => (simp only [List.getElem?_toArray, List.getElem?_cons_succ, List.getElem?_cons_zero]; try rfl)
                    case hy194 => (refine Or.inl ⟨by rfl, ?_⟩; intro w hSw; go_simp; (try with_reducible rfl))
                    try simp only [Act.put, List.setIfInBounds_toArray, List.set_cons_zero, List.set_cons_succ]
                    refine wpAnyL_ready (rs := [31]) hc194 (by kernel_rfl) (by simp) ?_
                    refine AllReadyL.cons (o := ?o196) ?hi196 (fun K hK => ?st196) ?mo196
                    case hi196 => (simp only [List.getElem?_toArray, List.getElem?_cons_succ, List.getElem?_cons_zero]; try rfl)
                    case st196 =>
                      have st196_ := P192.out.blk.cell 1
                      have sf196_ := P192.out.blk.frozen 1
                      obtain ⟨W196, e196⟩ : ∃ x, x = W192.setCell ⟨m, 1, none⟩ (.slice A184 (N + 1) c184) := ⟨_, rfl⟩
                      have P196 := Lib.hid (show PuS w1 W196 _ _ _ _ _ _ _ _ _ _ _ _ _ _ _ _ _ _ _ from e196 ▸ P192.out.set 1 (by rfl))
                      have k1_W196 : W196.cell? ⟨gk, 1, none⟩ = some (.string f) := P196.out.msg_.cell 1
                      have k3_W196 : W196.cell? ⟨gk, 3, none⟩ = some (.string t) := P196.out.msg_.cell 3
                      have hB_W196 : B ≤ W196.heap.size := Nat.le_trans hBw P196.out.sz
                      go_simp
                      rw [← e196]
                      clear st196_ sf196_ e196
                      refine hK.out _ _ (P196.out.held k1_W196 k3_W196 (.inl (by kernel_rfl)) (.inl (by kernel_rfl)) (.inr rfl)) (fun hc196 => ?rs196)
                      clear hK K
                      try simp only [Act.put, List.setIfInBounds_toArray, List.set_cons_zero, List.set_cons_succ]
                      refine wpAnyL_take (i := 32) (oi := ?oi197) (v := ?v197) ?hi197 hnosel (by kernel_rfl) (by kernel_rfl) hc196 (by kernel_rfl) (fun _ _ _ h => h) ?hy197 (P196.out.held k1_W196 k3_W196 (.inl (by kernel_rfl)) (.inl (by kernel_rfl)) (.inr rfl)) (fun hc197 => ?rest197)
                      case hi197 => (simp only [List.getElem?_toArray, List.getElem?_cons_succ, List.getElem?_cons_zero]; try rfl)
                      case hy197 => (refine Or.inl ⟨by rfl, ?_⟩; intro w hSw; go_simp; (try with_reducible rfl))
                      try simp only [Act.put, List.setIfInBounds_toArray, List.set_cons_zero, List.set_cons_succ]
                      refine wpAnyL_take (i := 33) (oi := ?oi198) (v := ?v198) ?hi198 hnosel (by kernel_rfl) (by kernel_rfl) hc197 (by kernel_rfl) (fun _ _ _ h => h) ?hy198 (P196.out.held k1_W196 k3_W196 (.inl (by kernel_rfl)) (.inl (by kernel_rfl)) (.inr rfl)) (fun hc198 => ?rest198)
                      case hi198 => (simp only [List.getElem?_toArray, List.getElem?_cons_succ, List.getElem?_cons_zero]; try rfl)
                      case hy198 => (refine Or.inl ⟨by rfl, ?_⟩; intro w hSw; go_simp; (try with_reducible rfl))
                      try simp only [Act.put, List.setIfInBounds_toArray, List.set_cons_zero, List.set_cons_succ]
                      refine wpAnyL_ready (rs := [34]) hc198 (by kernel_rfl) (by simp) ?_
                      refine AllReadyL.cons (o := ?o200) ?hi200 (fun K hK => ?st200) ?mo200
                      case hi200 => (simp only [List.getElem?_toArray, List.getElem?_cons_succ, List.getElem?_cons_zero]; try rfl)
                      case st200 =>
                        have st200_ := P196.out.blk.cell 2
                        have sf200_ := P196.out.blk.frozen 2
                        obtain ⟨W200, e200⟩ : ∃ x, x = W196.setCell ⟨m, 2, none⟩ (.slice A188 (N + 1) c188) := ⟨_, rfl⟩
                        have P200 := Lib.hid (show PuS w1 W200 _ _ _ _ _ _ _ _ _ _ _ _ _ _ _ _ _ _ _ from e200 ▸ P196.out.set 2 (by rfl))
                        have k1_W200 : W200.cell? ⟨gk, 1, none⟩ = some (.string f) := P200.out.msg_.cell 1
                        have k3_W200 : W200.cell? ⟨gk, 3, none⟩ = some (.string t) := P200.out.msg_.cell 3
                        have hB_W200 : B ≤ W200.heap.size := Nat.le_trans hBw P200.out.sz
                        go_simp
                        rw [← e200]
                        clear st200_ sf200_ e200
                        refine hK.out _ _ (P200.out.held k1_W200 k3_W200 (.inl (by kernel_rfl)) (.inl (by kernel_rfl)) (.inl (by kernel_rfl))) (fun hc200 => ?rs200)
                        clear hK K
                        try simp only [Act.put, List.setIfInBounds_toArray, List.set_cons_zero, List.set_cons_succ]
                        refine wpAnyL_done (by kernel_rfl) ?_ _
                        refine NoPanic.normal ?_
                        go_wp2_with fail
                        go_meet
                        exact Lib.hid ⟨_, by rw [HN.out], P200.out.fin (by rw [HN.out]; exact HM1.out) hl9 HN.out HV9.out, P200.out.msg_, rfl⟩
                      exact AllReadyL.nil
                    exact AllReadyL.nil
                  exact AllReadyL.nil
                exact AllReadyL.nil
              exact AllReadyL.nil
            refine AllReadyL.cons (o := ?o201) ?hi201 (fun K hK => ?st201) ?mo201
            case hi201 => (simp only [List.getElem?_toArray, List.getElem?_cons_succ, List.getElem?_cons_zero]; try rfl)
            case st201 =>
              obtain ⟨W201, e201⟩ : ∃ x, x = W182.alloc (.cells #[.slice none 0 0] 22) := ⟨_, rfl⟩
              obtain ⟨t201, s201⟩ : ∃ x, x = W182.heap.size := ⟨_, rfl⟩
              have P201 := Lib.hid (show PuS w1 W201 _ _ _ _ _ _ _ _ _ _ _ _ _ _ _ _ _ _ _ from e201 ▸ P182.out.alloc _)
              have T18_201 := Lib.hid (show TmpF w1 W201 _ _ _ from e201 ▸ T18_182.out.alloc _)
              have T24_201 := Lib.hid (show TmpF w1 W201 t201 22 #[.slice none 0 0] from by rw [e201, s201]; exact TmpF.new P182.out.sz _ _)
              have k1_W201 : W201.cell? ⟨gk, 1, none⟩ = some (.string f) := P201.out.msg_.cell 1
              have k3_W201 : W201.cell? ⟨gk, 3, none⟩ = some (.string t) := P201.out.msg_.cell 3
              have hB_W201 : B ≤ W201.heap.size := Nat.le_trans hBw P201.out.sz
              go_simp
              rw [← e201, ← s201]
              clear e201 s201
              refine hK.out _ _ (P201.out.held k1_W201 k3_W201 (.inr rfl) (.inr rfl) (.inr rfl)) (fun hc201 => ?rs201)
              clear hK K
              try simp only [Act.put, List.setIfInBounds_toArray, List.set_cons_zero, List.set_cons_succ]
              refine wpAnyL_ready (rs := [19]) hc201 (by kernel_rfl) (by simp) ?_
              refine AllReadyL.cons (o := ?o203) ?hi203 (fun K hK => ?st203) ?mo203
              case hi203 => (simp only [List.getElem?_toArray, List.getElem?_cons_succ, List.getElem?_cons_zero]; try rfl)
              case st203 =>
                refine step_append_any _ rfl (.tmp 46) (.tmp 47) 22 rfl B 3 ii (.int .i64 0) 1 8 Try.underlying22 hi_ii hz_ii hs_ii hb_ii rfl (by decide) (.slice Ab N cb) N (rsV L) (by first | (simp [Act.eval]; done) | (simp [Act.eval, Act.put]; done)) P201.out.hS W201.heap.size (some ⟨t178, 0, none⟩) 1 1 [.int .i64 0] (by first | (simp [Act.eval]; done) | (simp [Act.eval, Act.put]; done)) (T18_201.out.reads rfl) (by simp [Value.oneCell']) (by simp only [maxLen]; omega) (by omega) hB_W201 ?_
                intro v203 W203 ho203 hg203 hn203
                obtain ⟨A203, c203, rfl, -, -⟩ := own_slice ho203
                have P203 := Lib.hid (P201.out.appS ho203 hg203 hn203)
                have T24_203 := Lib.hid (T24_201.out.grown hg203 lt_S)
                clear ho203 hg203 hn203
                have k1_W203 : W203.cell? ⟨gk, 1, none⟩ = some (.string f) := P203.out.msg_.cell 1
                have k3_W203 : W203.cell? ⟨gk, 3, none⟩ = some (.string t) := P203.out.msg_.cell 3
                have hB_W203 : B ≤ W203.heap.size := Nat.le_trans hBw P203.out.sz
                refine hK.out _ _ (P203.out.held k1_W203 k3_W203 (.inr rfl) (.inr rfl) (.inr rfl)) (fun hc203 => ?rs203)
                clear hK K
                try simp only [Act.put, List.setIfInBounds_toArray, List.set_cons_zero, List.set_cons_succ]
                refine wpAnyL_ready (rs := [25]) hc203 (by kernel_rfl) (by simp) ?_
                refine AllReadyL.cons (o := ?o205) ?hi205 (fun K hK => ?st205) ?mo205
                case hi205 => (simp only [List.getElem?_toArray, List.getElem?_cons_succ, List.getElem?_cons_zero]; try rfl)
                case st205 =>
                  refine step_append_any _ rfl (.tmp 52) (.tmp 53) 39 rfl B 22 ih (.slice none 0 0) 1 24 Try.underlying39 hi_ih hz_ih hs_ih hb_ih rfl (by decide) (.slice Ac N cc) N (rhV L) (by first | (simp [Act.eval]; done) | (simp [Act.eval, Act.put]; done)) P203.out.hH W203.heap.size (some ⟨t201, 0, none⟩) 1 1 [.slice none 0 0] (by first | (simp [Act.eval]; done) | (simp [Act.eval, Act.put]; done)) (T24_203.out.reads rfl) (by simp [Value.oneCell']) (by simp only [maxLen]; omega) (by omega) hB_W203 ?_
                  intro v205 W205 ho205 hg205 hn205
                  obtain ⟨A205, c205, rfl, -, -⟩ := own_slice ho205
                  have P205 := Lib.hid (P203.out.appH ho205 hg205 hn205)
                  clear ho205 hg205 hn205
                  have k1_W205 : W205.cell? ⟨gk, 1, none⟩ = some (.string f) := P205.out.msg_.cell 1
                  have k3_W205 : W205.cell? ⟨gk, 3, none⟩ = some (.string t) := P205.out.msg_.cell 3
                  have hB_W205 : B ≤ W205.heap.size := Nat.le_trans hBw P205.out.sz
                  refine hK.out _ _ (P205.out.held k1_W205 k3_W205 (.inr rfl) (.inr rfl) (.inr rfl)) (fun hc205 => ?rs205)
                  clear hK K
                  try simp only [Act.put, List.setIfInBounds_toArray, List.set_cons_zero, List.set_cons_succ]
                  refine wpAnyL_take (i := 26) (oi := ?oi206) (v := ?v206) ?hi206 hnosel (by kernel_rfl) (by kernel_rfl) hc205 (by kernel_rfl) (fun _ _ _ h => h) ?hy206 (P205.out.held k1_W205 k3_W205 (.inr rfl) (.inr rfl) (.inr rfl)) (fun hc206 => ?rest206)
                  case hi206 => (simp only [List.getElem?_toArray, List.getElem?_cons_succ, List.getElem?_cons_zero]; try rfl)
                  case hy206 => (refine Or.inl ⟨by rfl, ?_⟩; intro w hSw; go_simp; (try with_reducible rfl))
                  try simp only [Act.put, List.setIfInBounds_toArray, List.set_cons_zero, List.set_cons_succ]
                  refine wpAnyL_take (i := 27) (oi := ?oi207) (v := ?v207) ?hi207 hnosel (by kernel_rfl) (by kernel_rfl) hc206 (by kernel_rfl) (fun _ _ _ h => h) ?hy207 (P205.out.held k1_W205 k3_W205 (.inr rfl) (.inr rfl) (.inr rfl)) (fun hc207 => ?rest207)
                  case hi207 => (simp only [List.getElem?_toArray, List.getElem?_cons_succ, List.getElem?_cons_zero]; try rfl)
                  case hy207 => (refine Or.inl ⟨by rfl, ?_⟩; intro w hSw; go_simp; (try with_reducible rfl))
                  try simp only [Act.put, List.setIfInBounds_toArray, List.set_cons_zero, List.set_cons_succ]
                  refine wpAnyL_ready (rs := [28]) hc207 (by kernel_rfl) (by simp) ?_
                  refine AllReadyL.cons (o := ?o209) ?hi209 (fun K hK => ?st209) ?mo209
                  case hi209 => (simp only [List.getElem?_toArray, List.getElem?_cons_succ, List.getElem?_cons_zero]; try rfl)
                  case st209 =>
                    have st209_ := P205.out.blk.cell 0
                    have sf209_ := P205.out.blk.frozen 0
                    obtain ⟨W209, e209⟩ : ∃ x, x = W205.setCell ⟨m, 0, none⟩ (.slice A182 (N + 1) c182) := ⟨_, rfl⟩
                    have P209 := Lib.hid (show PuS w1 W209 _ _ _ _ _ _ _ _ _ _ _ _ _ _ _ _ _ _ _ from e209 ▸ P205.out.set 0 (by rfl))
                    have k1_W209 : W209.cell? ⟨gk, 1, none⟩ = some (.string f) := P209.out.msg_.cell 1
                    have k3_W209 : W209.cell? ⟨gk, 3, none⟩ = some (.string t) := P209.out.msg_.cell 3
                    have hB_W209 : B ≤ W209.heap.size := Nat.le_trans hBw P209.out.sz
                    go_simp
                    rw [← e209]
                    clear st209_ sf209_ e209
                    refine hK.out _ _ (P209.out.held k1_W209 k3_W209 (.inl (by kernel_rfl)) (.inr rfl) (.inr rfl)) (fun hc209 => ?rs209)
                    clear hK K
                    try simp only [Act.put, List.setIfInBounds_toArray, List.set_cons_zero, List.set_cons_succ]
                    refine wpAnyL_take (i := 29) (oi := ?oi210) (v := ?v210) ?hi210 hnosel (by kernel_rfl) (by kernel_rfl) hc209 (by kernel_rfl) (fun _ _ _ h => h) ?hy210 (P209.out.held k1_W209 k3_W209 (.inl (by kernel_rfl)) (.inr rfl) (.inr rfl)) (fun hc210 => ?rest210)
                    case hi210 => (simp only [List.getElem?_toArray, List.getElem?_cons_succ, List.getElem?_cons_zero]; try rfl)
                    case hy210 => (refine Or.inl ⟨by rfl, ?_⟩; intro w hSw; go_simp; (try with_reducible rfl))
                    try simp only [Act.put, List.setIfInBounds_toArray, List.set_cons_zero, List.set_cons_succ]
                    refine wpAnyL_take (i := 30) (oi := ?oi211) (v := ?v211) ?hi211 hnosel (by kernel_rfl) (by kernel_rfl) hc210 (by kernel_rfl) (fun _ _ _ h => h) ?hy211 (P209.out.held k1_W209 k3_W209 (.inl (by kernel_rfl)) (.inr rfl) (.inr rfl)) (fun hc211 => ?rest211)
                    case hi211 => (simp only [List.getElem?_toArray, List.getElem?_cons_succ, List.getElem?_cons_zero]; try rfl)
                    case hy211 => (refine Or.inl ⟨by rfl, ?_⟩; intro w hSw; go_simp; (try with_reducible rfl))
                    try simp only [Act.put, List.setIfInBounds_toArray, List.set_cons_zero, List.set_cons_succ]
                    refine wpAnyL_ready (rs := [31]) hc211 (by kernel_rfl) (by simp) ?_
                    refine AllReadyL.cons (o := ?o213) ?hi213 (fun K hK => ?st213) ?mo213
                    case hi213 => (simp only [List.getElem?_toArray, List.getElem?_cons_succ, List.getElem?_cons_zero]; try rfl)
                    case st213 =>
                      have st213_ := P209.out.blk.cell 1
                      have sf213_ := P209.out.blk.frozen 1
                      obtain ⟨W213, e213⟩ : ∃ x, x = W209.setCell ⟨m, 1, none⟩ (.slice A203 (N + 1) c203) := ⟨_, rfl⟩
                      have P213 := Lib.hid (show PuS w1 W213 _ _ _ _ _ _ _ _ _ _ _ _ _ _ _ _ _ _ _ from e213 ▸ P209.out.set 1 (by rfl))
                      have k1_W213 : W213.cell? ⟨gk, 1, none⟩ = some (.string f) := P213.out.msg_.cell 1
                      have k3_W213 : W213.cell? ⟨gk, 3, none⟩ = some (.string t) := P213.out.msg_.cell 3
                      have hB_W213 : B ≤ W213.heap.size := Nat.le_trans hBw P213.out.sz
                      go_simp
                      rw [← e213]
                      clear st213_ sf213_ e213
                      refine hK.out _ _ (P213.out.held k1_W213 k3_W213 (.inl (by kernel_rfl)) (.inl (by kernel_rfl)) (.inr rfl)) (fun hc213 => ?rs213)
                      clear hK K
                      try simp only [Act.put, List.setIfInBounds_toArray, List.set_cons_zero, List.set_cons_succ]
                      refine wpAnyL_take (i := 32) (oi := ?oi214) (v := ?v214) ?hi214 hnosel (by kernel_rfl) (by kernel_rfl) hc213 (by kernel_rfl) (fun _ _ _ h => h) ?hy214 (P213.out.held k1_W213 k3_W213 (.inl (by kernel_rfl)) (.inl (by kernel_rfl)) (.inr rfl)) (fun hc214 => ?rest214)
                      case hi214 => (simp only [List.getElem?_toArray, List.getElem?_cons_succ, List.getElem?_cons_zero]; try rfl)
                      case hy214 => (refine Or.inl ⟨by rfl, ?_⟩; intro w hSw; go_simp; (try with_reducible rfl))
                      try simp only [Act.put, List.setIfInBounds_toArray, List.set_cons_zero, List.set_cons_succ]
                      refine wpAnyL_take (i := 33) (oi := ?oi215) (v := ?v215) ?hi215 hnosel (by kernel_rfl) (by kernel_rfl) hc214 (by kernel_rfl) (fun _ _ _ h => h) ?hy215 (P213.out.held k1_W213 k3_W213 (.inl (by kernel_rfl)) (.inl (by kernel_rfl)) (.inr rfl)) (fun hc215 => ?rest215)
                      case hi215 => (simp only [List.getElem?_toArray, List.getElem?_cons_succ, List.getElem?_cons_zero]; try rfl)
                      case hy215 => (refine Or.inl ⟨by rfl, ?_⟩; intro w hSw; go_simp; (try with_reducible rfl))
                      try simp only [Act.put, List.setIfInBounds_toArray, List.set_cons_zero, List.set_cons_succ]
                      refine wpAnyL_ready (rs := [34]) hc215 (by kernel_rfl) (by simp) ?_
                      refine AllReadyL.cons (o := ?o217) ?hi217 (fun K hK => ?st217) ?mo217
                      case hi217 => (simp only [List.getElem?_toArray, List.getElem?_cons_succ, List.getElem?_cons_zero]; try rfl)
                      case st217 =>
                        have st217_ := P213.out.blk.cell 2
                        have sf217_ := P213.out.blk.frozen 2
                        obtain ⟨W217, e217⟩ : ∃ x, x = W213.setCell ⟨m, 2, none⟩ (.slice A205 (N + 1) c205) := ⟨_, rfl⟩
                        have P217 := Lib.hid (show PuS w1 W217 _ _ _ _ _ _ _ _ _ _ _ _ _ _ _ _ _ _ _ from e217 ▸ P213.out.set 2 (by rfl))
                        have k1_W217 : W217.cell? ⟨gk, 1, none⟩ = some (.string f) := P217.out.msg_.cell 1
                        have k3_W217 : W217.cell? ⟨gk, 3, none⟩ = some (.string t) := P217.out.msg_.cell 3
                        have hB_W217 : B ≤ W217.heap.size := Nat.le_trans hBw P217.out.sz
                        go_simp
                        rw [← e217]
                        clear st217_ sf217_ e217
                        refine hK.out _ _ (P217.out.held k1_W217 k3_W217 (.inl (by kernel_rfl)) (.inl (by kernel_rfl)) (.inl (by kernel_rfl))) (fun hc217 => ?rs217)
                        clear hK K
                        try simp only [Act.put, List.setIfInBounds_toArray, List.set_cons_zero, List.set_cons_succ]
                        refine wpAnyL_done (by kernel_rfl) ?_ _
                        refine NoPanic.normal ?_
                        go_wp2_with fail
                        go_meet
                        exact Lib.hid ⟨_, by rw [HN.out], P217.out.fin (by rw [HN.out]; exact HM1.out) hl9 HN.out HV9.out, P217.out.msg_, rfl⟩
                      exact AllReadyL.nil
                    exact AllReadyL.nil
                  exact AllReadyL.nil
                exact AllReadyL.nil
              exact AllReadyL.nil
            exact AllReadyL.nil
          refine AllReadyL.cons (o := ?o218) ?hi218 (fun K hK => ?st218) ?mo218
          case hi218 => (simp only [List.getElem?_toArray, List.getElem?_cons_succ, List.getElem?_cons_zero]; try rfl)
          case st218 =>
            obtain ⟨W218, e218⟩ : ∃ x, x = W180.alloc (.cells #[.slice none 0 0] 22) := ⟨_, rfl⟩
            obtain ⟨t218, s218⟩ : ∃ x, x = W180.heap.size := ⟨_, rfl⟩
            have P218 := Lib.hid (show PuS w1 W218 _ _ _ _ _ _ _ _ _ _ _ _ _ _ _ _ _ _ _ from e218 ▸ P180.out.alloc _)
            have T18_218 := Lib.hid (show TmpF w1 W218 _ _ _ from e218 ▸ T18_180.out.alloc _)
            have T12_218 := Lib.hid (show TmpF w1 W218 _ _ _ from e218 ▸ T12_180.out.alloc _)
            have T24_218 := Lib.hid (show TmpF w1 W218 t218 22 #[.slice none 0 0] from by rw [e218, s218]; exact TmpF.new P180.out.sz _ _)
            have k1_W218 : W218.cell? ⟨gk, 1, none⟩ = some (.string f) := P218.out.msg_.cell 1
            have k3_W218 : W218.cell? ⟨gk, 3, none⟩ = some (.string t) := P218.out.msg_.cell 3
            have hB_W218 : B ≤ W218.heap.size := Nat.le_trans hBw P218.out.sz
            go_simp
            rw [← e218, ← s218]
            clear e218 s218
            refine hK.out _ _ (P218.out.held k1_W218 k3_W218 (.inr rfl) (.inr rfl) (.inr rfl)) (fun hc218 => ?rs218)
            clear hK K
            try simp only [Act.put, List.setIfInBounds_toArray, List.set_cons_zero, List.set_cons_succ]
            refine wpAnyL_ready (rs := [13]) hc218 (by kernel_rfl) (by simp) ?_
            refine AllReadyL.cons (o := ?o220) ?hi220 (fun K hK => ?st220) ?mo220
            case hi220 => (simp only [List.getElem?_toArray, List.getElem?_cons_succ, List.getElem?_cons_zero]; try rfl)
            case st220 =>
              refine step_append_any _ rfl (.tmp 35) (.tmp 41) 38 rfl B 46 ik (.agg #[.string ⟨#[]⟩, .string ⟨#[]⟩]) 2 32 Try.underlying38 hi_ik hz_ik hs_ik hb_ik rfl (by decide) (.slice Aa N ca) N (rkV L) (by first | (simp [Act.eval]; done) | (simp [Act.eval, Act.put]; done)) P218.out.hK W218.heap.size (some ⟨t180, 0, none⟩) 1 1 [.string f, .string t] (by first | (simp [Act.eval]; done) | (simp [Act.eval, Act.put]; done)) (T12_218.out.reads rfl) (by simp [Value.oneCell']) (by simp only [maxLen]; omega) (by omega) hB_W218 ?_
              intro v220 W220 ho220 hg220 hn220
              obtain ⟨A220, c220, rfl, -, -⟩ := own_slice ho220
              have P220 := Lib.hid (P218.out.appK ho220 hg220 hn220)
              have T18_220 := Lib.hid (T18_218.out.grown hg220 lt_K)
              have T24_220 := Lib.hid (T24_218.out.grown hg220 lt_K)
              clear ho220 hg220 hn220
              have k1_W220 : W220.cell? ⟨gk, 1, none⟩ = some (.string f) := P220.out.msg_.cell 1
              have k3_W220 : W220.cell? ⟨gk, 3, none⟩ = some (.string t) := P220.out.msg_.cell 3
              have hB_W220 : B ≤ W220.heap.size := Nat.le_trans hBw P220.out.sz
              refine hK.out _ _ (P220.out.held k1_W220 k3_W220 (.inr rfl) (.inr rfl) (.inr rfl)) (fun hc220 => ?rs220)
              clear hK K
              try simp only [Act.put, List.setIfInBounds_toArray, List.set_cons_zero, List.set_cons_succ]
              refine wpAnyL_ready (rs := [19]) hc220 (by kernel_rfl) (by simp) ?_
              refine AllReadyL.cons (o := ?o222) ?hi222 (fun K hK => ?st222) ?mo222
              case hi222 => (simp only [List.getElem?_toArray, List.getElem?_cons_succ, List.getElem?_cons_zero]; try rfl)
              case st222 =>
                refine step_append_any _ rfl (.tmp 46) (.tmp 47) 22 rfl B 3 ii (.int .i64 0) 1 8 Try.underlying22 hi_ii hz_ii hs_ii hb_ii rfl (by decide) (.slice Ab N cb) N (rsV L) (by first | (simp [Act.eval]; done) | (simp [Act.eval, Act.put]; done)) P220.out.hS W220.heap.size (some ⟨t178, 0, none⟩) 1 1 [.int .i64 0] (by first | (simp [Act.eval]; done) | (simp [Act.eval, Act.put]; done)) (T18_220.out.reads rfl) (by simp [Value.oneCell']) (by simp only [maxLen]; omega) (by omega) hB_W220 ?_
                intro v222 W222 ho222 hg222 hn222
                obtain ⟨A222, c222, rfl, -, -⟩ := own_slice ho222
                have P222 := Lib.hid (P220.out.appS ho222 hg222 hn222)
                have T24_222 := Lib.hid (T24_220.out.grown hg222 lt_S)
                clear ho222 hg222 hn222
                have k1_W222 : W222.cell? ⟨gk, 1, none⟩ = some (.string f) := P222.out.msg_.cell 1
                have k3_W222 : W222.cell? ⟨gk, 3, none⟩ = some (.string t) := P222.out.msg_.cell 3
                have hB_W222 : B ≤ W222.heap.size := Nat.le_trans hBw P222.out.sz
                refine hK.out _ _ (P222.out.held k1_W222 k3_W222 (.inr rfl) (.inr rfl) (.inr rfl)) (fun hc222 => ?rs222)
                clear hK K
                try simp only [Act.put, List.setIfInBounds_toArray, List.set_cons_zero, List.set_cons_succ]
                refine wpAnyL_ready (rs := [25]) hc222 (by kernel_rfl) (by simp) ?_
                refine AllReadyL.cons (o := ?o224) ?hi224 (fun K hK => ?st224) ?mo224
                case hi224 => (simp only [List.getElem?_toArray, List.getElem?_cons_succ, List.getElem?_cons_zero]; try rfl)
                case st224 =>
                  refine step_append_any _ rfl (.tmp 52) (.tmp 53) 39 rfl B 22 ih (.slice none 0 0) 1 24 Try.underlying39 hi_ih hz_ih hs_ih hb_ih rfl (by decide) (.slice Ac N cc) N (rhV L) (by first | (simp [Act.eval]; done) | (simp [Act.eval, Act.put]; done)) P222.out.hH W222.heap.size (some ⟨t218, 0, none⟩) 1 1 [.slice none 0 0] (by first | (simp [Act.eval]; done) | (simp [Act.eval, Act.put]; done)) (T24_222.out.reads rfl) (by simp [Value.oneCell']) (by simp only [maxLen]; omega) (by omega) hB_W222 ?_
                  intro v224 W224 ho224 hg224 hn224
                  obtain ⟨A224, c224, rfl, -, -⟩ := own_slice ho224
                  have P224 := Lib.hid (P222.out.appH ho224 hg224 hn224)
                  clear ho224 hg224 hn224
                  have k1_W224 : W224.cell? ⟨gk, 1, none⟩ = some (.string f) := P224.out.msg_.cell 1
                  have k3_W224 : W224.cell? ⟨gk, 3, none⟩ = some (.string t) := P224.out.msg_.cell 3
                  have hB_W224 : B ≤ W224.heap.size := Nat.le_trans hBw P224.out.sz
                  refine hK.out _ _ (P224.out.held k1_W224 k3_W224 (.inr rfl) (.inr rfl) (.inr rfl)) (fun hc224 => ?rs224)
                  clear hK K
                  try simp only [Act.put, List.setIfInBounds_toArray, List.set_cons_zero, List.set_cons_succ]
                  refine wpAnyL_take (i := 26) (oi := ?oi225) (v := ?v225) ?hi225 hnosel (by kernel_rfl) (by kernel_rfl) hc224 (by kernel_rfl) (fun _ _ _ h => h) ?hy225 (P224.out.held k1_W224 k3_W224 (.inr rfl) (.inr rfl) (.inr rfl)) (fun hc225 => ?rest225)
                  case hi225 => (simp only [List.getElem?_toArray, List.getElem?_cons_succ, List.getElem?_cons_zero]; try rfl)
                  case hy225 => (refine Or.inl ⟨by rfl, ?_⟩; intro w hSw; go_simp; (try with_reducible rfl))
                  try simp only [Act.put, List.setIfInBounds_toArray, List.set_cons_zero, List.set_cons_succ]
                  refine wpAnyL_take (i := 27) (oi := ?oi226) (v := ?v226) ?hi226 hnosel (by kernel_rfl) (by kernel_rfl) hc225 (by kernel_rfl) (fun _ _ _ h => h) ?hy226 (P224.out.held k1_W224 k3_W224 (.inr rfl) (.inr rfl) (.inr rfl)) (fun hc226 => ?rest226)
                  case hi226 => (simp only [List.getElem?_toArray, List.getElem?_cons_succ, List.getElem?_cons_zero]; try rfl)
                  case hy226 => (refine Or.inl ⟨by rfl, ?_⟩; intro w hSw; go_simp; (try with_reducible rfl))
                  try simp only [Act.put, List.setIfInBounds_toArray, List.set_cons_zero, List.set_cons_succ]
                  refine wpAnyL_ready (rs := [28]) hc226 (by kernel_rfl) (by simp) ?_
                  refine AllReadyL.cons (o := ?o228) ?hi228 (fun K hK => ?st228) ?mo228
                  case hi228 => (simp only [List.getElem?_toArray, List.getElem?_cons_succ, List.getElem?_cons_zero]; try rfl)
                  case st228 =>
                    have st228_ := P224.out.blk.cell 0
                    have sf228_ := P224.out.blk.frozen 0
                    obtain ⟨W228, e228⟩ : ∃ x, x = W224.setCell ⟨m, 0, none⟩ (.slice A220 (N + 1) c220) := ⟨_, rfl⟩
                    have P228 := Lib.hid (show PuS w1 W228 _ _ _ _ _ _ _ _ _ _ _ _ _ _ _ _ _ _ _ from e228 ▸ P224.out.set 0 (by rfl))
                    have k1_W228 : W228.cell? ⟨gk, 1, none⟩ = some (.string f) := P228.out.msg_.cell 1
                    have k3_W228 : W228.cell? ⟨gk, 3, none⟩ = some (.string t) := P228.out.msg_.cell 3
                    have hB_W228 : B ≤ W228.heap.size := Nat.le_trans hBw P228.out.sz
                    go_simp
                    rw [← e228]
                    clear st228_ sf228_ e228
                    refine hK.out _ _ (P228.out.held k1_W228 k3_W228 (.inl (by kernel_rfl)) (.inr rfl) (.inr rfl)) (fun hc228 => ?rs228)
                    clear hK K
                    try simp only [Act.put, List.setIfInBounds_toArray, List.set_cons_zero, List.set_cons_succ]
                    refine wpAnyL_take (i := 29) (oi := ?oi229) (v := ?v229) ?hi229 hnosel (by kernel_rfl) (by kernel_rfl) hc228 (by kernel_rfl) (fun _ _ _ h => h) ?hy229 (P228.out.held k1_W228 k3_W228 (.inl (by kernel_rfl)) (.inr rfl) (.inr rfl)) (fun hc229 => ?rest229)
                    case hi229 => (simp only [List.getElem?_toArray, List.getElem?_cons_succ, List.getElem?_cons_zero]; try rfl)
                    case hy229 => (refine Or.inl ⟨by rfl, ?_⟩; intro w hSw; go_simp; (try with_reducible rfl))
                    try simp only [Act.put, List.setIfInBounds_toArray, List.set_cons_zero, List.set_cons_succ]
                    refine wpAnyL_take (i := 30) (oi := ?oi230) (v := ?v230) ?hi230 hnosel (by kernel_rfl) (by kernel_rfl) hc229 (by kernel_rfl) (fun _ _ _ h => h) ?hy230 (P228.out.held k1_W228 k3_W228 (.inl (by kernel_rfl)) (.inr rfl) (.inr rfl)) (fun hc230 => ?rest230)
                    case hi230 => (simp only [List.getElem?_toArray, List.getElem?_cons_succ, List.getElem?_cons_zero]; try rfl)
                    case hy230 => (refine Or.inl ⟨by rfl, ?_⟩; intro w hSw; go_simp; (try with_reducible rfl))
                    try simp only [Act.put, List.setIfInBounds_toArray, List.set_cons_zero, List.set_cons_succ]
                    refine wpAnyL_ready (rs := [31]) hc230 (by kernel_rfl) (by simp) ?_
                    refine AllReadyL.cons (o := ?o232) ?hi232 (fun K hK => ?st232) ?mo232
                    case hi232 => (simp only [List.getElem?_toArray, List.getElem?_cons_succ, List.getElem?_cons_zero]; try rfl)
                    case st232 =>
                      have st232_ := P228.out.blk.cell 1
                      have sf232_ := P228.out.blk.frozen 1
                      obtain ⟨W232, e232⟩ : ∃ x, x = W228.setCell ⟨m, 1, none⟩ (.slice A222 (N + 1) c222) := ⟨_, rfl⟩
                      have P232 := Lib.hid (show PuS w1 W232 _ _ _ _ _ _ _ _ _ _ _ _ _ _ _ _ _ _ _ from e232 ▸ P228.out.set 1 (by rfl))
                      have k1_W232 : W232.cell? ⟨gk, 1, none⟩ = some (.string f) := P232.out.msg_.cell 1
                      have k3_W232 : W232.cell? ⟨gk, 3, none⟩ = some (.string t) := P232.out.msg_.cell 3
                      have hB_W232 : B ≤ W232.heap.size := Nat.le_trans hBw P232.out.sz
                      go_simp
                      rw [← e232]
                      clear st232_ sf232_ e232
                      refine hK.out _ _ (P232.out.held k1_W232 k3_W232 (.inl (by kernel_rfl)) (.inl (by kernel_rfl)) (.inr rfl)) (fun hc232 => ?rs232)
                      clear hK K
                      try simp only [Act.put, List.setIfInBounds_toArray, List.set_cons_zero, List.set_cons_succ]
                      refine wpAnyL_take (i := 32) (oi := ?oi233) (v := ?v233) ?hi233 hnosel (by kernel_rfl) (by kernel_rfl) hc232 (by kernel_rfl) (fun _ _ _ h => h) ?hy233 (P232.out.held k1_W232 k3_W232 (.inl (by kernel_rfl)) (.inl (by kernel_rfl)) (.inr rfl)) (fun hc233 => ?rest233)
                      case hi233 => (simp only [List.getElem?_toArray, List.getElem?_cons_succ, List.getElem?_cons_zero]; try rfl)
                      case hy233 => (refine Or.inl ⟨by rfl, ?_⟩; intro w hSw; go_simp; (try with_reducible rfl))
                      try simp only [Act.put, List.setIfInBounds_toArray, List.set_cons_zero, List.set_cons_succ]
                      refine wpAnyL_take (i := 33) (oi := ?oi234) (v := ?v234) ?hi234 hnosel (by kernel_rfl) (by kernel_rfl) hc233 (by kernel_rfl) (fun _ _ _ h => h) ?hy234 (P232.out.held k1_W232 k3_W232 (.inl (by kernel_rfl)) (.inl (by kernel_rfl)) (.inr rfl)) (fun hc234 => ?rest234)
                      case hi234 => (simp only [List.getElem?_toArray, List.getElem?_cons_succ, List.getElem?_cons_zero]; try rfl)
                      case hy234 => (refine Or.inl ⟨by rfl, ?_⟩; intro w hSw; go_simp; (try with_reducible rfl))
                      try simp only [Act.put, List.setIfInBounds_toArray, List.set_cons_zero, List.set_cons_succ]
                      refine wpAnyL_ready (rs := [34]) hc234 (by kernel_rfl) (by simp) ?_
                      refine AllReadyL.cons (o := ?o236) ?hi236 (fun K hK => ?st236) ?mo236
                      case hi236 => (simp only [List.getElem?_toArray, List.getElem?_cons_succ, List.getElem?_cons_zero]; try rfl)
                      case st236 =>
                        have st236_ := P232.out.blk.cell 2
                        have sf236_ := P232.out.blk.frozen 2
                        obtain ⟨W236, e236⟩ : ∃ x, x = W232.setCell ⟨m, 2, none⟩ (.slice A224 (N + 1) c224) := ⟨_, rfl⟩
                        have P236 := Lib.hid (show PuS w1 W236 _ _ _ _ _ _ _ _ _ _ _ _ _ _ _ _ _ _ _ from e236 ▸ P232.out.set 2 (by rfl))
                        have k1_W236 : W236.cell? ⟨gk, 1, none⟩ = some (.string f) := P236.out.msg_.cell 1
                        have k3_W236 : W236.cell? ⟨gk, 3, none⟩ = some (.string t) := P236.out.msg_.cell 3
                        have hB_W236 : B ≤ W236.heap.size := Nat.le_trans hBw P236.out.sz
                        go_simp
                        rw [← e236]
                        clear st236_ sf236_ e236
                        refine hK.out _ _ (P236.out.held k1_W236 k3_W236 (.inl (by kernel_rfl)) (.inl (by kernel_rfl)) (.inl (by kernel_rfl))) (fun hc236 => ?rs236)
                        clear hK K
                        try simp only [Act.put, List.setIfInBounds_toArray, List.set_cons_zero, List.set_cons_succ]
                        refine wpAnyL_done (by kernel_rfl) ?_ _
                        refine NoPanic.normal ?_
                        go_wp2_with fail
                        go_meet
                        exact Lib.hid ⟨_, by rw [HN.out], P236.out.fin (by rw [HN.out]; exact HM1.out) hl9 HN.out HV9.out, P236.out.msg_, rfl⟩
                      exact AllReadyL.nil
                    exact AllReadyL.nil
                  exact AllReadyL.nil
                exact AllReadyL.nil
              exact AllReadyL.nil
            exact AllReadyL.nil
          exact AllReadyL.nil
        refine AllReadyL.cons (o := ?o237) ?hi237 (fun K hK => ?st237) ?mo237
        case hi237 => (simp only [List.getElem?_toArray, List.getElem?_cons_succ, List.getElem?_cons_zero]; try rfl)
        case st237 =>
          obtain ⟨W237, e237⟩ : ∃ x, x = W178.alloc (.cells #[.slice none 0 0] 22) := ⟨_, rfl⟩
          obtain ⟨t237, s237⟩ : ∃ x, x = W178.heap.size := ⟨_, rfl⟩
          have P237 := Lib.hid (show PuS w1 W237 _ _ _ _ _ _ _ _ _ _ _ _ _ _ _ _ _ _ _ from e237 ▸ P178.out.alloc _)
          have T18_237 := Lib.hid (show TmpF w1 W237 _ _ _ from e237 ▸ T18_178.out.alloc _)
          have T24_237 := Lib.hid (show TmpF w1 W237 t237 22 #[.slice none 0 0] from by rw [e237, s237]; exact TmpF.new P178.out.sz _ _)
          have k1_W237 : W237.cell? ⟨gk, 1, none⟩ = some (.string f) := P237.out.msg_.cell 1
          have k3_W237 : W237.cell? ⟨gk, 3, none⟩ = some (.string t) := P237.out.msg_.cell 3
          have hB_W237 : B ≤ W237.heap.size := Nat.le_trans hBw P237.out.sz
          go_simp
          rw [← e237, ← s237]
          clear e237 s237
          refine hK.out _ _ (P237.out.held k1_W237 k3_W237 (.inr rfl) (.inr rfl) (.inr rfl)) (fun hc237 => ?rs237)
          clear hK K
          try simp only [Act.put, List.setIfInBounds_toArray, List.set_cons_zero, List.set_cons_succ]
          refine wpAnyL_ready (rs := [12]) hc237 (by kernel_rfl) (by simp) ?_
          refine AllReadyL.cons (o := ?o239) ?hi239 (fun K hK => ?st239) ?mo239
          case hi239 => (simp only [List.getElem?_toArray, List.getElem?_cons_succ, List.getElem?_cons_zero]; try rfl)
          case st239 =>
            obtain ⟨W239, e239⟩ : ∃ x, x = W237.alloc (.cells #[.string f, .string t] 46) := ⟨_, rfl⟩
            obtain ⟨t239, s239⟩ : ∃ x, x = W237.heap.size := ⟨_, rfl⟩
            have P239 := Lib.hid (show PuS w1 W239 _ _ _ _ _ _ _ _ _ _ _ _ _ _ _ _ _ _ _ from e239 ▸ P237.out.alloc _)
            have T18_239 := Lib.hid (show TmpF w1 W239 _ _ _ from e239 ▸ T18_237.out.alloc _)
            have T24_239 := Lib.hid (show TmpF w1 W239 _ _ _ from e239 ▸ T24_237.out.alloc _)
            have T12_239 := Lib.hid (show TmpF w1 W239 t239 46 #[.string f, .string t] from by rw [e239, s239]; exact TmpF.new P237.out.sz _ _)
            have k1_W239 : W239.cell? ⟨gk, 1, none⟩ = some (.string f) := P239.out.msg_.cell 1
            have k3_W239 : W239.cell? ⟨gk, 3, none⟩ = some (.string t) := P239.out.msg_.cell 3
            have hB_W239 : B ≤ W239.heap.size := Nat.le_trans hBw P239.out.sz
            go_simp
            rw [← e239, ← s239]
            clear e239 s239
            refine hK.out _ _ (P239.out.held k1_W239 k3_W239 (.inr rfl) (.inr rfl) (.inr rfl)) (fun hc239 => ?rs239)
            clear hK K
            try simp only [Act.put, List.setIfInBounds_toArray, List.set_cons_zero, List.set_cons_succ]
            refine wpAnyL_ready (rs := [13]) hc239 (by kernel_rfl) (by simp) ?_
            refine AllReadyL.cons (o := ?o241) ?hi241 (fun K hK => ?st241) ?mo241
            case hi241 => (simp only [List.getElem?_toArray, List.getElem?_cons_succ, List.getElem?_cons_zero]; try rfl)
            case st241 =>
              refine step_append_any _ rfl (.tmp 35) (.tmp 41) 38 rfl B 46 ik (.agg #[.string ⟨#[]⟩, .string ⟨#[]⟩]) 2 32 Try.underlying38 hi_ik hz_ik hs_ik hb_ik rfl (by decide) (.slice Aa N ca) N (rkV L) (by first | (simp [Act.eval]; done) | (simp [Act.eval, Act.put]; done)) P239.out.hK W239.heap.size (some ⟨t239, 0, none⟩) 1 1 [.string f, .string t] (by first | (simp [Act.eval]; done) | (simp [Act.eval, Act.put]; done)) (T12_239.out.reads rfl) (by simp [Value.oneCell']) (by simp only [maxLen]; omega) (by omega) hB_W239 ?_
              intro v241 W241 ho241 hg241 hn241
              obtain ⟨A241, c241, rfl, -, -⟩ := own_slice ho241
              have P241 := Lib.hid (P239.out.appK ho241 hg241 hn241)
              have T18_241 := Lib.hid (T18_239.out.grown hg241 lt_K)
              have T24_241 := Lib.hid (T24_239.out.grown hg241 lt_K)
              clear ho241 hg241 hn241
              have k1_W241 : W241.cell? ⟨gk, 1, none⟩ = some (.string f) := P241.out.msg_.cell 1
              have k3_W241 : W241.cell? ⟨gk, 3, none⟩ = some (.string t) := P241.out.msg_.cell 3
              have hB_W241 : B ≤ W241.heap.size := Nat.le_trans hBw P241.out.sz
              refine hK.out _ _ (P241.out.held k1_W241 k3_W241 (.inr rfl) (.inr rfl) (.inr rfl)) (fun hc241 => ?rs241)
              clear hK K
              try simp only [Act.put, List.setIfInBounds_toArray, List.set_cons_zero, List.set_cons_succ]
              refine wpAnyL_ready (rs := [19]) hc241 (by kernel_rfl) (by simp) ?_
              refine AllReadyL.cons (o := ?o243) ?hi243 (fun K hK => ?st243) ?mo243
              case hi243 => (simp only [List.getElem?_toArray, List.getElem?_cons_succ, List.getElem?_cons_zero]; try rfl)
              case st243 =>
                refine step_append_any _ rfl (.tmp 46) (.tmp 47) 22 rfl B 3 ii (.int .i64 0) 1 8 Try.underlying22 hi_ii hz_ii hs_ii hb_ii rfl (by decide) (.slice Ab N cb) N (rsV L) (by first | (simp [Act.eval]; done) | (simp [Act.eval, Act.put]; done)) P241.out.hS W241.heap.size (some ⟨t178, 0, none⟩) 1 1 [.int .i64 0] (by first | (simp [Act.eval]; done) | (simp [Act.eval, Act.put]; done)) (T18_241.out.reads rfl) (by simp [Value.oneCell']) (by simp only [maxLen]; omega) (by omega) hB_W241 ?_
                intro v243 W243 ho243 hg243 hn243
                obtain ⟨A243, c243, rfl, -, -⟩ := own_slice ho243
                have P243 := Lib.hid (P241.out.appS ho243 hg243 hn243)
                have T24_243 := Lib.hid (T24_241.out.grown hg243 lt_S)
                clear ho243 hg243 hn243
                have k1_W243 : W243.cell? ⟨gk, 1, none⟩ = some (.string f) := P243.out.msg_.cell 1
                have k3_W243 : W243.cell? ⟨gk, 3, none⟩ = some (.string t) := P243.out.msg_.cell 3
                have hB_W243 : B ≤ W243.heap.size := Nat.le_trans hBw P243.out.sz
                refine hK.out _ _ (P243.out.held k1_W243 k3_W243 (.inr rfl) (.inr rfl) (.inr rfl)) (fun hc243 => ?rs243)
                clear hK K
                try simp only [Act.put, List.setIfInBounds_toArray, List.set_cons_zero, List.set_cons_succ]
                refine wpAnyL_ready (rs := [25]) hc243 (by kernel_rfl) (by simp) ?_
                refine AllReadyL.cons (o := ?o245) ?hi245 (fun K hK => ?st245) ?mo245
                case hi245 => (simp only [List.getElem?_toArray, List.getElem?_cons_succ, List.getElem?_cons_zero]; try rfl)
                case st245 =>
                  refine step_append_any _ rfl (.tmp 52) (.tmp 53) 39 rfl B 22 ih (.slice none 0 0) 1 24 Try.underlying39 hi_ih hz_ih hs_ih hb_ih rfl (by decide) (.slice Ac N cc) N (rhV L) (by first | (simp [Act.eval]; done) | (simp [Act.eval, Act.put]; done)) P243.out.hH W243.heap.size (some ⟨t237, 0, none⟩) 1 1 [.slice none 0 0] (by first | (simp [Act.eval]; done) | (simp [Act.eval, Act.put]; done)) (T24_243.out.reads rfl) (by simp [Value.oneCell']) (by simp only [maxLen]; omega) (by omega) hB_W243 ?_
                  intro v245 W245 ho245 hg245 hn245
                  obtain ⟨A245, c245, rfl, -, -⟩ := own_slice ho245
                  have P245 := Lib.hid (P243.out.appH ho245 hg245 hn245)
                  clear ho245 hg245 hn245
                  have k1_W245 : W245.cell? ⟨gk, 1, none⟩ = some (.string f) := P245.out.msg_.cell 1
                  have k3_W245 : W245.cell? ⟨gk, 3, none⟩ = some (.string t) := P245.out.msg_.cell 3
                  have hB_W245 : B ≤ W245.heap.size := Nat.le_trans hBw P245.out.sz
                  refine hK.out _ _ (P245.out.held k1_W245 k3_W245 (.inr rfl) (.inr rfl) (.inr rfl)) (fun hc245 => ?rs245)
                  clear hK K
                  try simp only [Act.put, List.setIfInBounds_toArray, List.set_cons_zero, List.set_cons_succ]
                  refine wpAnyL_take (i := 26) (oi := ?oi246) (v := ?v246) ?hi246 hnosel (by kernel_rfl) (by kernel_rfl) hc245 (by kernel_rfl) (fun _ _ _ h => h) ?hy246 (P245.out.held k1_W245 k3_W245 (.inr rfl) (.inr rfl) (.inr rfl)) (fun hc246 => ?rest246)
                  case hi246 => (simp only [List.getElem?_toArray, List.getElem?_cons_succ, List.getElem?_cons_zero]; try rfl)
                  case hy246 => (refine Or.inl ⟨by rfl, ?_⟩; intro w hSw; go_simp; (try with_reducible rfl))
                  try simp only [Act.put, List.setIfInBounds_toArray, List.set_cons_zero, List.set_cons_succ]
                  refine wpAnyL_take (i := 27) (oi := ?oi247) (v := ?v247) ?hi247 hnosel (by kernel_rfl) (by kernel_rfl) hc246 (by kernel_rfl) (fun _ _ _ h => h) ?hy247 (P245.out.held k1_W245 k3_W245 (.inr rfl) (.inr rfl) (.inr rfl)) (fun hc247 => ?rest247)
                  case hi247 => (simp only [List.getElem?_toArray, List.getElem?_cons_succ, List.getElem?_cons_zero]; try rfl)
                  case hy247 => (refine Or.inl ⟨by rfl, ?_⟩; intro w hSw; go_simp; (try with_reducible rfl))
                  try simp only [Act.put, List.setIfInBounds_toArray, List.set_cons_zero, List.set_cons_succ]
                  refine wpAnyL_ready (rs := [28]) hc247 (by kernel_rfl) (by simp) ?_
                  refine AllReadyL.cons (o := ?o249) ?hi249 (fun K hK => ?st249) ?mo249
                  case hi249 => (simp only [List.getElem?_toArray, List.getElem?_cons_succ, List.getElem?_cons_zero]; try rfl)
                  case st249 =>
                    have st249_ := P245.out.blk.cell 0
                    have sf249_ := P245.out.blk.frozen 0
                    obtain ⟨W249, e249⟩ : ∃ x, x = W245.setCell ⟨m, 0, none⟩ (.slice A241 (N + 1) c241) := ⟨_, rfl⟩
                    have P249 := Lib.hid (show PuS w1 W249 _ _ _ _ _ _ _ _ _ _ _ _ _ _ _ _ _ _ _ from e249 ▸ P245.out.set 0 (by rfl))
                    have k1_W249 : W249.cell? ⟨gk, 1, none⟩ = some (.string f) := P249.out.msg_.cell 1
                    have k3_W249 : W249.cell? ⟨gk, 3, none⟩ = some (.string t) := P249.out.msg_.cell 3
                    have hB_W249 : B ≤ W249.heap.size := Nat.le_trans hBw P249.out.sz
                    go_simp
                    rw [← e249]
                    clear st249_ sf249_ e249
                    refine hK.out _ _ (P249.out.held k1_W249 k3_W249 (.inl (by kernel_rfl)) (.inr rfl) (.inr rfl)) (fun hc249 => ?rs249)
                    clear hK K
                    try simp only [Act.put, List.setIfInBounds_toArray, List.set_cons_zero, List.set_cons_succ]
                    refine wpAnyL_take (i := 29) (oi := ?oi250) (v := ?v250) ?hi250 hnosel (by kernel_rfl) (by kernel_rfl) hc249 (by kernel_rfl) (fun _ _ _ h => h) ?hy250 (P249.out.held k1_W249 k3_W249 (.inl (by kernel_rfl)) (.inr rfl) (.inr rfl)) (fun hc250 => ?rest250)
                    case hi250 => (simp only [List.getElem?_toArray, List.getElem?_cons_succ, List.getElem?_cons_zero]; try rfl)
                    case hy250 => (refine Or.inl ⟨by rfl, ?_⟩; intro w hSw; go_simp; (try with_reducible rfl))
                    try simp only [Act.put, List.setIfInBounds_toArray, List.set_cons_zero, List.set_cons_succ]
                    refine wpAnyL_take (i := 30) (oi := ?oi251) (v := ?v251) ?hi251 hnosel (by kernel_rfl) (by kernel_rfl) hc250 (by kernel_rfl) (fun _ _ _ h => h) ?hy251 (P249.out.held k1_W249 k3_W249 (.inl (by kernel_rfl)) (.inr rfl) (.inr rfl)) (fun hc251 => ?rest251)
                    case hi251 => (simp only [List.getElem?_toArray, List.getElem?_cons_succ, List.getElem?_cons_zero]; try rfl)
                    case hy251 => (refine Or.inl ⟨by rfl, ?_⟩; intro w hSw; go_simp; (try with_reducible rfl))
                    try simp only [Act.put, List.setIfInBounds_toArray, List.set_cons_zero, List.set_cons_succ]
                    refine wpAnyL_ready (rs := [31]) hc251 (by kernel_rfl) (by simp) ?_
                    refine AllReadyL.cons (o := ?o253) ?hi253 (fun K hK => ?st253) ?mo253
                    case hi253 => (simp only [List.getElem?_toArray, List.getElem?_cons_succ, List.getElem?_cons_zero]; try rfl)
                    case st253 =>
                      have st253_ := P249.out.blk.cell 1
                      have sf253_ := P249.out.blk.frozen 1
                      obtain ⟨W253, e253⟩ : ∃ x, x = W249.setCell ⟨m, 1, none⟩ (.slice A243 (N + 1) c243) := ⟨_, rfl⟩
                      have P253 := Lib.hid (show PuS w1 W253 _ _ _ _ _ _ _ _ _ _ _ _ _ _ _ _ _ _ _ from e253 ▸ P249.out.set 1 (by rfl))
                      have k1_W253 : W253.cell? ⟨gk, 1, none⟩ = some (.string f) := P253.out.msg_.cell 1
                      have k3_W253 : W253.cell? ⟨gk, 3, none⟩ = some (.string t) := P253.out.msg_.cell 3
                      have hB_W253 : B ≤ W253.heap.size := Nat.le_trans hBw P253.out.sz
                      go_simp
                      rw [← e253]
                      clear st253_ sf253_ e253
                      refine hK.out _ _ (P253.out.held k1_W253 k3_W253 (.inl (by kernel_rfl)) (.inl (by kernel_rfl)) (.inr rfl)) (fun hc253 => ?rs253)
                      clear hK K
                      try simp only [Act.put, List.setIfInBounds_toArray, List.set_cons_zero, List.set_cons_succ]
                      refine wpAnyL_take (i := 32) (oi := ?oi254) (v := ?v254) ?hi254 hnosel (by kernel_rfl) (by kernel_rfl) hc253 (by kernel_rfl) (fun _ _ _ h => h) ?hy254 (P253.out.held k1_W253 k3_W253 (.inl (by kernel_rfl)) (.inl (by kernel_rfl)) (.inr rfl)) (fun hc254 => ?rest254)
                      case hi254 => (simp only [List.getElem?_toArray, List.getElem?_cons_succ, List.getElem?_cons_zero]; try rfl)
                      case hy254 => (refine Or.inl ⟨by rfl, ?_⟩; intro w hSw; go_simp; (try with_reducible rfl))
                      try simp only [Act.put, List.setIfInBounds_toArray, List.set_cons_zero, List.set_cons_succ]
                      refine wpAnyL_take (i := 33) (oi := ?oi255) (v := ?v255) ?hi255 hnosel (by kernel_rfl) (by kernel_rfl) hc254 (by kernel_rfl) (fun _ _ _ h => h) ?hy255 (P253.out.held k1_W253 k3_W253 (.inl (by kernel_rfl)) (.inl (by kernel_rfl)) (.inr rfl)) (fun hc255 => ?rest255)
                      case hi255 => (simp only [List.getElem?_toArray, List.getElem?_cons_succ, List.getElem?_cons_zero]; try rfl)
                      case hy255 => (refine Or.inl ⟨by rfl, ?_⟩; intro w hSw; go_simp; (try with_reducible rfl))
                      try simp only [Act.put, List.setIfInBounds_toArray, List.set_cons_zero, List.set_cons_succ]
                      refine wpAnyL_ready (rs := [34]) hc255 (by kernel_rfl) (by simp) ?_
                      refine AllReadyL.cons (o := ?o257) ?hi257 (fun K hK => ?st257) ?mo257
                      case hi257 => (simp only [List.getElem?_toArray, List.getElem?_cons_succ, List.getElem?_cons_zero]; try rfl)
                      case st257 =>
                        have st257_ := P253.out.blk.cell 2
                        have sf257_ := P253.out.blk.frozen 2
                        obtain ⟨W257, e257⟩ : ∃ x, x = W253.setCell ⟨m, 2, none⟩ (.slice A245 (N + 1) c245) := ⟨_, rfl⟩
                        have P257 := Lib.hid (show PuS w1 W257 _ _ _ _ _ _ _ _ _ _ _ _ _ _ _ _ _ _ _ from e257 ▸ P253.out.set 2 (by rfl))
                        have k1_W257 : W257.cell? ⟨gk, 1, none⟩ = some (.string f) := P257.out.msg_.cell 1
                        have k3_W257 : W257.cell? ⟨gk, 3, none⟩ = some (.string t) := P257.out.msg_.cell 3
                        have hB_W257 : B ≤ W257.heap.size := Nat.le_trans hBw P257.out.sz
                        go_simp
                        rw [← e257]
                        clear st257_ sf257_ e257
                        refine hK.out _ _ (P257.out.held k1_W257 k3_W257 (.inl (by kernel_rfl)) (.inl (by kernel_rfl)) (.inl (by kernel_rfl))) (fun hc257 => ?rs257)
                        clear hK K
                        try simp only [Act.put, List.setIfInBounds_toArray, List.set_cons_zero, List.set_cons_succ]
                        refine wpAnyL_done (by kernel_rfl) ?_ _
                        refine NoPanic.normal ?_
                        go_wp2_with fail
                        go_meet
                        exact Lib.hid ⟨_, by rw [HN.out], P257.out.fin (by rw [HN.out]; exact HM1.out) hl9 HN.out HV9.out, P257.out.msg_, rfl⟩
                      exact AllReadyL.nil
                    exact AllReadyL.nil
                  exact AllReadyL.nil
                exact AllReadyL.nil
              exact AllReadyL.nil
            exact AllReadyL.nil
          exact AllReadyL.nil
        exact AllReadyL.nil
      refine AllReadyL.cons (o := ?o258) ?hi258 (fun K hK => ?st258) ?mo258
      case hi258 => (simp only [List.getElem?_toArray, List.getElem?_cons_succ, List.getElem?_cons_zero]; try rfl)
      case st258 =>
        obtain ⟨W258, e258⟩ : ∃ x, x = wd.alloc (.cells #[.slice none 0 0] 22) := ⟨_, rfl⟩
        obtain ⟨t258, s258⟩ : ∃ x, x = wd.heap.size := ⟨_, rfl⟩
        have P258 := Lib.hid (show PuS w1 W258 _ _ _ _ _ _ _ _ _ _ _ _ _ _ _ _ _ _ _ from e258 ▸ P0.out.alloc _)
        have T24_258 := Lib.hid (show TmpF w1 W258 t258 22 #[.slice none 0 0] from by rw [e258, s258]; exact TmpF.new P0.out.sz _ _)
        have k1_W258 : W258.cell? ⟨gk, 1, none⟩ = some (.string f) := P258.out.msg_.cell 1
        have k3_W258 : W258.cell? ⟨gk, 3, none⟩ = some (.string t) := P258.out.msg_.cell 3
        have hB_W258 : B ≤ W258.heap.size := Nat.le_trans hBw P258.out.sz
        go_simp
        rw [← e258, ← s258]
        clear e258 s258
        refine hK.out _ _ (P258.out.held k1_W258 k3_W258 (.inr rfl) (.inr rfl) (.inr rfl)) (fun hc258 => ?rs258)
        clear hK K
        try simp only [Act.put, List.setIfInBounds_toArray, List.set_cons_zero, List.set_cons_succ]
        refine wpAnyL_ready (rs := [12, 18]) hc258 (by kernel_rfl) (by simp) ?_
        refine AllReadyL.cons (o := ?o260) ?hi260 (fun K hK => ?st260) ?mo260
        case hi260 => (simp only [List.getElem?_toArray, List.getElem?_cons_succ, List.getElem?_cons_zero]; try rfl)
        case st260 =>
          obtain ⟨W260, e260⟩ : ∃ x, x = W258.alloc (.cells #[.string f, .string t] 46) := ⟨_, rfl⟩
          obtain ⟨t260, s260⟩ : ∃ x, x = W258.heap.size := ⟨_, rfl⟩
          have P260 := Lib.hid (show PuS w1 W260 _ _ _ _ _ _ _ _ _ _ _ _ _ _ _ _ _ _ _ from e260 ▸ P258.out.alloc _)
          have T24_260 := Lib.hid (show TmpF w1 W260 _ _ _ from e260 ▸ T24_258.out.alloc _)
          have T12_260 := Lib.hid (show TmpF w1 W260 t260 46 #[.string f, .string t] from by rw [e260, s260]; exact TmpF.new P258.out.sz _ _)
          have k1_W260 : W260.cell? ⟨gk, 1, none⟩ = some (.string f) := P260.out.msg_.cell 1
          have k3_W260 : W260.cell? ⟨gk, 3, none⟩ = some (.string t) := P260.out.msg_.cell 3
          have hB_W260 : B ≤ W260.heap.size := Nat.le_trans hBw P260.out.sz
          go_simp
          rw [← e260, ← s260]
          clear e260 s260
          refine hK.out _ _ (P260.out.held k1_W260 k3_W260 (.inr rfl) (.inr rfl) (.inr rfl)) (fun hc260 => ?rs260)
          clear hK K
          try simp only [Act.put, List.setIfInBounds_toArray, List.set_cons_zero, List.set_cons_succ]
          refine wpAnyL_ready (rs := [13, 18]) hc260 (by kernel_rfl) (by simp) ?_
          refine AllReadyL.cons (o := ?o262) ?hi262 (fun K hK => ?st262) ?mo262
          case hi262 => (simp only [List.getElem?_toArray, List.getElem?_cons_succ, List.getElem?_cons_zero]; try rfl)
          case st262 =>
            refine step_append_any _ rfl (.tmp 35) (.tmp 41) 38 rfl B 46 ik (.agg #[.string ⟨#[]⟩, .string ⟨#[]⟩]) 2 32 Try.underlying38 hi_ik hz_ik hs_ik hb_ik rfl (by decide) (.slice Aa N ca) N (rkV L) (by first | (simp [Act.eval]; done) | (simp [Act.eval, Act.put]; done)) P260.out.hK W260.heap.size (some ⟨t260, 0, none⟩) 1 1 [.string f, .string t] (by first | (simp [Act.eval]; done) | (simp [Act.eval, Act.put]; done)) (T12_260.out.reads rfl) (by simp [Value.oneCell']) (by simp only [maxLen]; omega) (by omega) hB_W260 ?_
            intro v262 W262 ho262 hg262 hn262
            obtain ⟨A262, c262, rfl, -, -⟩ := own_slice ho262
            have P262 := Lib.hid (P260.out.appK ho262 hg262 hn262)
            have T24_262 := Lib.hid (T24_260.out.grown hg262 lt_K)
            clear ho262 hg262 hn262
            have k1_W262 : W262.cell? ⟨gk, 1, none⟩ = some (.string f) := P262.out.msg_.cell 1
            have k3_W262 : W262.cell? ⟨gk, 3, none⟩ = some (.string t) := P262.out.msg_.cell 3
            have hB_W262 : B ≤ W262.heap.size := Nat.le_trans hBw P262.out.sz
            refine hK.out _ _ (P262.out.held k1_W262 k3_W262 (.inr rfl) (.inr rfl) (.inr rfl)) (fun hc262 => ?rs262)
            clear hK K
            try simp only [Act.put, List.setIfInBounds_toArray, List.set_cons_zero, List.set_cons_succ]
            refine wpAnyL_ready (rs := [18]) hc262 (by kernel_rfl) (by simp) ?_
            refine AllReadyL.cons (o := ?o264) ?hi264 (fun K hK => ?st264) ?mo264
            case hi264 => (simp only [List.getElem?_toArray, List.getElem?_cons_succ, List.getElem?_cons_zero]; try rfl)
            case st264 =>
              obtain ⟨W264, e264⟩ : ∃ x, x = W262.alloc (.cells #[.int .i64 0] 3) := ⟨_, rfl⟩
              obtain ⟨t264, s264⟩ : ∃ x, x = W262.heap.size := ⟨_, rfl⟩
              have P264 := Lib.hid (show PuS w1 W264 _ _ _ _ _ _ _ _ _ _ _ _ _ _ _ _ _ _ _ from e264 ▸ P262.out.alloc _)
              have T24_264 := Lib.hid (show TmpF w1 W264 _ _ _ from e264 ▸ T24_262.out.alloc _)
              have T18_264 := Lib.hid (show TmpF w1 W264 t264 3 #[.int .i64 0] from by rw [e264, s264]; exact TmpF.new P262.out.sz _ _)
              have k1_W264 : W264.cell? ⟨gk, 1, none⟩ = some (.string f) := P264.out.msg_.cell 1
              have k3_W264 : W264.cell? ⟨gk, 3, none⟩ = some (.string t) := P264.out.msg_.cell 3
              have hB_W264 : B ≤ W264.heap.size := Nat.le_trans hBw P264.out.sz
              go_simp
              rw [← e264, ← s264]
              clear e264 s264
              refine hK.out _ _ (P264.out.held k1_W264 k3_W264 (.inr rfl) (.inr rfl) (.inr rfl)) (fun hc264 => ?rs264)
              clear hK K
              try simp only [Act.put, List.setIfInBounds_toArray, List.set_cons_zero, List.set_cons_succ]
              refine wpAnyL_ready (rs := [19]) hc264 (by kernel_rfl) (by simp) ?_
              refine AllReadyL.cons (o := ?o266) ?hi266 (fun K hK => ?st266) ?mo266
              case hi266 => (simp only [List.getElem?_toArray, List.getElem?_cons_succ, List.getElem?_cons_zero]; try rfl)
              case st266 =>
                refine step_append_any _ rfl (.tmp 46) (.tmp 47) 22 rfl B 3 ii (.int .i64 0) 1 8 Try.underlying22 hi_ii hz_ii hs_ii hb_ii rfl (by decide) (.slice Ab N cb) N (rsV L) (by first | (simp [Act.eval]; done) | (simp [Act.eval, Act.put]; done)) P264.out.hS W264.heap.size (some ⟨t264, 0, none⟩) 1 1 [.int .i64 0] (by first | (simp [Act.eval]; done) | (simp [Act.eval, Act.put]; done)) (T18_264.out.reads rfl) (by simp [Value.oneCell']) (by simp only [maxLen]; omega) (by omega) hB_W264 ?_
                intro v266 W266 ho266 hg266 hn266
                obtain ⟨A266, c266, rfl, -, -⟩ := own_slice ho266
                have P266 := Lib.hid (P264.out.appS ho266 hg266 hn266)
                have T24_266 := Lib.hid (T24_264.out.grown hg266 lt_S)
                clear ho266 hg266 hn266
                have k1_W266 : W266.cell? ⟨gk, 1, none⟩ = some (.string f) := P266.out.msg_.cell 1
                have k3_W266 : W266.cell? ⟨gk, 3, none⟩ = some (.string t) := P266.out.msg_.cell 3
                have hB_W266 : B ≤ W266.heap.size := Nat.le_trans hBw P266.out.sz
                refine hK.out _ _ (P266.out.held k1_W266 k3_W266 (.inr rfl) (.inr rfl) (.inr rfl)) (fun hc266 => ?rs266)
                clear hK K
                try simp only [Act.put, List.setIfInBounds_toArray, List.set_cons_zero, List.set_cons_succ]
                refine wpAnyL_ready (rs := [25]) hc266 (by kernel_rfl) (by simp) ?_
                refine AllReadyL.cons (o := ?o268) ?hi268 (fun K hK => ?st268) ?mo268
                case hi268 => (simp only [List.getElem?_toArray, List.getElem?_cons_succ, List.getElem?_cons_zero]; try rfl)
                case st268 =>
                  refine step_append_any _ rfl (.tmp 52) (.tmp 53) 39 rfl B 22 ih (.slice none 0 0) 1 24 Try.underlying39 hi_ih hz_ih hs_ih hb_ih rfl (by decide) (.slice Ac N cc) N (rhV L) (by first | (simp [Act.eval]; done) | (simp [Act.eval, Act.put]; done)) P266.out.hH W266.heap.size (some ⟨t258, 0, none⟩) 1 1 [.slice none 0 0] (by first | (simp [Act.eval]; done) | (simp [Act.eval, Act.put]; done)) (T24_266.out.reads rfl) (by simp [Value.oneCell']) (by simp only [maxLen]; omega) (by omega) hB_W266 ?_
                  intro v268 W268 ho268 hg268 hn268
                  obtain ⟨A268, c268, rfl, -, -⟩ := own_slice ho268
                  have P268 := Lib.hid (P266.out.appH ho268 hg268 hn268)
                  clear ho268 hg268 hn268
                  have k1_W268 : W268.cell? ⟨gk, 1, none⟩ = some (.string f) := P268.out.msg_.cell 1
                  have k3_W268 : W268.cell? ⟨gk, 3, none⟩ = some (.string t) := P268.out.msg_.cell 3
                  have hB_W268 : B ≤ W268.heap.size := Nat.le_trans hBw P268.out.sz
                  refine hK.out _ _ (P268.out.held k1_W268 k3_W268 (.inr rfl) (.inr rfl) (.inr rfl)) (fun hc268 => ?rs268)
                  clear hK K
                  try simp only [Act.put, List.setIfInBounds_toArray, List.set_cons_zero, List.set_cons_succ]
                  refine wpAnyL_take (i := 26) (oi := ?oi269) (v := ?v269) ?hi269 hnosel (by kernel_rfl) (by kernel_rfl) hc268 (by kernel_rfl) (fun _ _ _ h => h) ?hy269 (P268.out.held k1_W268 k3_W268 (.inr rfl) (.inr rfl) (.inr rfl)) (fun hc269 => ?rest269)
                  case hi269 => (simp only [List.getElem?_toArray, List.getElem?_cons_succ, List.getElem?_cons_zero]; try rfl)
                  case hy269 => (refine Or.inl ⟨by rfl, ?_⟩; intro w hSw; go_simp; (try with_reducible rfl))
                  try simp only [Act.put, List.setIfInBounds_toArray, List.set_cons_zero, List.set_cons_succ]
                  refine wpAnyL_take (i := 27) (oi := ?oi270) (v := ?v270) ?hi270 hnosel (by kernel_rfl) (by kernel_rfl) hc269 (by kernel_rfl) (fun _ _ _ h => h) ?hy270 (P268.out.held k1_W268 k3_W268 (.inr rfl) (.inr rfl) (.inr rfl)) (fun hc270 => ?rest270)
                  case hi270 => (simp only [List.getElem?_toArray, List.getElem?_cons_succ, List.getElem?_cons_zero]; try rfl)
                  case hy270 => (refine Or.inl ⟨by rfl, ?_⟩; intro w hSw; go_simp; (try with_reducible rfl))
                  try simp only [Act.put, List.setIfInBounds_toArray, List.set_cons_zero, List.set_cons_succ]
                  refine wpAnyL_ready (rs := [28]) hc270 (by kernel_rfl) (by simp) ?_
                  refine AllReadyL.cons (o := ?o272) ?hi272 (fun K hK => ?st272) ?mo272
                  case hi272 => (simp only [List.getElem?_toArray, List.getElem?_cons_succ, List.getElem?_cons_zero]; try rfl)
                  case st272 =>
                    have st272_ := P268.out.blk.cell 0
                    have sf272_ := P268.out.blk.frozen 0
                    obtain ⟨W272, e272⟩ : ∃ x, x = W268.setCell ⟨m, 0, none⟩ (.slice A262 (N + 1) c262) := ⟨_, rfl⟩
                    have P272 := Lib.hid (show PuS w1 W272 _ _ _ _ _ _ _ _ _ _ _ _ _ _ _ _ _ _ _ from e272 ▸ P268.out.set 0 (by rfl))
                    have k1_W272 : W272.cell? ⟨gk, 1, none⟩ = some (.string f) := P272.out.msg_.cell 1
                    have k3_W272 : W272.cell? ⟨gk, 3, none⟩ = some (.string t) := P272.out.msg_.cell 3
                    have hB_W272 : B ≤ W272.heap.size := Nat.le_trans hBw P272.out.sz
                    go_simp
                    rw [← e272]
                    clear st272_ sf272_ e272
                    refine hK.out _ _ (P272.out.held k1_W272 k3_W272 (.inl (by kernel_rfl)) (.inr rfl) (.inr rfl)) (fun hc272 => ?rs272)
                    clear hK K
                    try simp only [Act.put, List.setIfInBounds_toArray, List.set_cons_zero, List.set_cons_succ]
                    refine wpAnyL_take (i := 29) (oi := ?oi273) (v := ?v273) ?hi273 hnosel (by kernel_rfl) (by kernel_rfl) hc272 (by kernel_rfl) (fun _ _ _ h => h) ?hy273 (P272.out.held k1_W272 k3_W272 (.inl (by kernel_rfl)) (.inr rfl) (.inr rfl)) (fun hc273 => ?rest273)
                    case hi273 => (simp only [List.getElem?_toArray, List.getElem?_cons_succ, List.getElem?_cons_zero]; try rfl)
                    case hy273 => (refine Or.inl ⟨by rfl, ?_⟩; intro w hSw; go_simp; (try with_reducible rfl))
                    try simp only [Act.put, List.setIfInBounds_toArray, List.set_cons_zero, List.set_cons_succ]
                    refine wpAnyL_take (i := 30) (oi := ?oi274) (v := ?v274) ?hi274 hnosel (by kernel_rfl) (by kernel_rfl) hc273 (by kernel_rfl) (fun _ _ _ h => h) ?hy274 (P272.out.held k1_W272 k3_W272 (.inl (by kernel_rfl)) (.inr rfl) (.inr rfl)) (fun hc274 => ?rest274)
                    case hi274 => (simp only [List.getElem?_toArray, List.getElem?_cons_succ, List.getElem?_cons_zero]; try rfl)
                    case hy274 => (refine Or.inl ⟨by rfl, ?_⟩; intro w hSw; go_simp; (try with_reducible rfl))
                    try simp only [Act.put, List.setIfInBounds_toArray, List.set_cons_zero, List.set_cons_succ]
                    refine wpAnyL_ready (rs := [31]) hc274 (by kernel_rfl) (by simp) ?_
                    refine AllReadyL.cons (o := ?o276) ?hi276 (fun K hK => ?st276) ?mo276
                    case hi276 => (simp only [List.getElem?_toArray, List.getElem?_cons_succ, List.getElem?_cons_zero]; try rfl)
                    case st276 =>
                      have st276_ := P272.out.blk.cell 1
                      have sf276_ := P272.out.blk.frozen 1
                      obtain ⟨W276, e276⟩ : ∃ x, x = W272.setCell ⟨m, 1, none⟩ (.slice A266 (N + 1) c266) := ⟨_, rfl⟩
                      have P276 := Lib.hid (show PuS w1 W276 _ _ _ _ _ _ _ _ _ _ _ _ _ _ _ _ _ _ _ from e276 ▸ P272.out.set 1 (by rfl))
                      have k1_W276 : W276.cell? ⟨gk, 1, none⟩ = some (.string f) := P276.out.msg_.cell 1
                      have k3_W276 : W276.cell? ⟨gk, 3, none⟩ = some (.string t) := P276.out.msg_.cell 3
                      have hB_W276 : B ≤ W276.heap.size := Nat.le_trans hBw P276.out.sz
                      go_simp
                      rw [← e276]
                      clear st276_ sf276_ e276
                      refine hK.out _ _ (P276.out.held k1_W276 k3_W276 (.inl (by kernel_rfl)) (.inl (by kernel_rfl)) (.inr rfl)) (fun hc276 => ?rs276)
                      clear hK K
                      try simp only [Act.put, List.setIfInBounds_toArray, List.set_cons_zero, List.set_cons_succ]
                      refine wpAnyL_take (i := 32) (oi := ?oi277) (v := ?v277) ?hi277 hnosel (by kernel_rfl) (by kernel_rfl) hc276 (by kernel_rfl) (fun _ _ _ h => h) ?hy277 (P276.out.held k1_W276 k3_W276 (.inl (by kernel_rfl)) (.inl (by kernel_rfl)) (.inr rfl)) (fun hc277 => ?rest277)
                      case hi277 => (simp only [List.getElem?_toArray, List.getElem?_cons_succ, List.getElem?_cons_zero]; try rfl)
                      case hy277 => (refine Or.inl ⟨by rfl, ?_⟩; intro w hSw; go_simp; (try with_reducible rfl))
                      try simp only [Act.put, List.setIfInBounds_toArray, List.set_cons_zero, List.set_cons_succ]
                      refine wpAnyL_take (i := 33) (oi := ?oi278) (v := ?v278) ?hi278 hnosel (by kernel_rfl) (by kernel_rfl) hc277 (by kernel_rfl) (fun _ _ _ h => h) ?hy278 (P276.out.held k1_W276 k3_W276 (.inl (by kernel_rfl)) (.inl (by kernel_rfl)) (.inr rfl)) (fun hc278 => ?rest278)
                      case hi278 => (simp only [List.getElem?_toArray, List.getElem?_cons_succ, List.getElem?_cons_zero]; try rfl)
                      case hy278 => (refine Or.inl ⟨by rfl, ?_⟩; intro w hSw; go_simp; (try with_reducible rfl))
                      try simp only [Act.put, List.setIfInBounds_toArray, List.set_cons_zero, List.set_cons_succ]
                      refine wpAnyL_ready (rs := [34]) hc278 (by kernel_rfl) (by simp) ?_
                      refine AllReadyL.cons (o := ?o280) ?hi280 (fun K hK => ?st280) ?mo280
                      case hi280 => (simp only [List.getElem?_toArray, List.getElem?_cons_succ, List.getElem?_cons_zero]; try rfl)
                      case st280 =>
                        have st280_ := P276.out.blk.cell 2
                        have sf280_ := P276.out.blk.frozen 2
                        obtain ⟨W280, e280⟩ : ∃ x, x = W276.setCell ⟨m, 2, none⟩ (.slice A268 (N + 1) c268) := ⟨_, rfl⟩
                        have P280 := Lib.hid (show PuS w1 W280 _ _ _ _ _ _ _ _ _ _ _ _ _ _ _ _ _ _ _ from e280 ▸ P276.out.set 2 (by rfl))
                        have k1_W280 : W280.cell? ⟨gk, 1, none⟩ = some (.string f) := P280.out.msg_.cell 1
                        have k3_W280 : W280.cell? ⟨gk, 3, none⟩ = some (.string t) := P280.out.msg_.cell 3
                        have hB_W280 : B ≤ W280.heap.size := Nat.le_trans hBw P280.out.sz
                        go_simp
                        rw [← e280]
                        clear st280_ sf280_ e280
                        refine hK.out _ _ (P280.out.held k1_W280 k3_W280 (.inl (by kernel_rfl)) (.inl (by kernel_rfl)) (.inl (by kernel_rfl))) (fun hc280 => ?rs280)
                        clear hK K
                        try simp only [Act.put, List.setIfInBounds_toArray, List.set_cons_zero, List.set_cons_succ]
                        refine wpAnyL_done (by kernel_rfl) ?_ _
                        refine NoPanic.normal ?_
                        go_wp2_with fail
                        go_meet
                        exact Lib.hid ⟨_, by rw [HN.out], P280.out.fin (by rw [HN.out]; exact HM1.out) hl9 HN.out HV9.out, P280.out.msg_, rfl⟩
                      exact AllReadyL.nil
                    exact AllReadyL.nil
                  exact AllReadyL.nil
                exact AllReadyL.nil
              exact AllReadyL.nil
            exact AllReadyL.nil
          refine AllReadyL.cons (o := ?o281) ?hi281 (fun K hK => ?st281) ?mo281
          case hi281 => (simp only [List.getElem?_toArray, List.getElem?_cons_succ, List.getElem?_cons_zero]; try rfl)
          case st281 =>
            obtain ⟨W281, e281⟩ : ∃ x, x = W260.alloc (.cells #[.int .i64 0] 3) := ⟨_, rfl⟩
            obtain ⟨t281, s281⟩ : ∃ x, x = W260.heap.size := ⟨_, rfl⟩
            have P281 := Lib.hid (show PuS w1 W281 _ _ _ _ _ _ _ _ _ _ _ _ _ _ _ _ _ _ _ from e281 ▸ P260.out.alloc _)
            have T24_281 := Lib.hid (show TmpF w1 W281 _ _ _ from e281 ▸ T24_260.out.alloc _)
            have T12_281 := Lib.hid (show TmpF w1 W281 _ _ _ from e281 ▸ T12_260.out.alloc _)
            have T18_281 := Lib.hid (show TmpF w1 W281 t281 3 #[.int .i64 0] from by rw [e281, s281]; exact TmpF.new P260.out.sz _ _)
            have k1_W281 : W281.cell? ⟨gk, 1, none⟩ = some (.string f) := P281.out.msg_.cell 1
            have k3_W281 : W281.cell? ⟨gk, 3, none⟩ = some (.string t) := P281.out.msg_.cell 3
            have hB_W281 : B ≤ W281.heap.size := Nat.le_trans hBw P281.out.sz
            go_simp
            rw [← e281, ← s281]
            clear e281 s281
            refine hK.out _ _ (P281.out.held k1_W281 k3_W281 (.inr rfl) (.inr rfl) (.inr rfl)) (fun hc281 => ?rs281)
            clear hK K
            try simp only [Act.put, List.setIfInBounds_toArray, List.set_cons_zero, List.set_cons_succ]
            refine wpAnyL_ready (rs := [13]) hc281 (by kernel_rfl) (by simp) ?_
            refine AllReadyL.cons (o := ?o283) ?hi283 (fun K hK => ?st283) ?mo283
            case hi283 => (simp only [List.getElem?_toArray, List.getElem?_cons_succ, List.getElem?_cons_zero]; try rfl)
            case st283 =>
              refine step_append_any _ rfl (.tmp 35) (.tmp 41) 38 rfl B 46 ik (.agg #[.string ⟨#[]⟩, .string ⟨#[]⟩]) 2 32 Try.underlying38 hi_ik hz_ik hs_ik hb_ik rfl (by decide) (.slice Aa N ca) N (rkV L) (by first | (simp [Act.eval]; done) | (simp [Act.eval, Act.put]; done)) P281.out.hK W281.heap.size (some ⟨t260, 0, none⟩) 1 1 [.string f, .string t] (by first | (simp [Act.eval]; done) | (simp [Act.eval, Act.put]; done)) (T12_281.out.reads rfl) (by simp [Value.oneCell']) (by simp only [maxLen]; omega) (by omega) hB_W281 ?_
              intro v283 W283 ho283 hg283 hn283
              obtain ⟨A283, c283, rfl, -, -⟩ := own_slice ho283
              have P283 := Lib.hid (P281.out.appK ho283 hg283 hn283)
              have T24_283 := Lib.hid (T24_281.out.grown hg283 lt_K)
              have T18_283 := Lib.hid (T18_281.out.grown hg283 lt_K)
              clear ho283 hg283 hn283
              have k1_W283 : W283.cell? ⟨gk, 1, none⟩ = some (.string f) := P283.out.msg_.cell 1
              have k3_W283 : W283.cell? ⟨gk, 3, none⟩ = some (.string t) := P283.out.msg_.cell 3
              have hB_W283 : B ≤ W283.heap.size := Nat.le_trans hBw P283.out.sz
              refine hK.out _ _ (P283.out.held k1_W283 k3_W283 (.inr rfl) (.inr rfl) (.inr rfl)) (fun hc283 => ?rs283)
              clear hK K
              try simp only [Act.put, List.setIfInBounds_toArray, List.set_cons_zero, List.set_cons_succ]
              refine wpAnyL_ready (rs := [19]) hc283 (by kernel_rfl) (by simp) ?_
              refine AllReadyL.cons (o := ?o285) ?hi285 (fun K hK => ?st285) ?mo285
              case hi285 => (simp only [List.getElem?_toArray, List.getElem?_cons_succ, List.getElem?_cons_zero]; try rfl)
              case st285 =>
                refine step_append_any _ rfl (.tmp 46) (.tmp 47) 22 rfl B 3 ii (.int .i64 0) 1 8 Try.underlying22 hi_ii hz_ii hs_ii hb_ii rfl (by decide) (.slice Ab N cb) N (rsV L) (by first | (simp [Act.eval]; done) | (simp [Act.eval, Act.put]; done)) P283.out.hS W283.heap.size (some ⟨t281, 0, none⟩) 1 1 [.int .i64 0] (by first | (simp [Act.eval]; done) | (simp [Act.eval, Act.put]; done)) (T18_283.out.reads rfl) (by simp [Value.oneCell']) (by simp only [maxLen]; omega) (by omega) hB_W283 ?_
                intro v285 W285 ho285 hg285 hn285
                obtain ⟨A285, c285, rfl, -, -⟩ := own_slice ho285
                have P285 := Lib.hid (P283.out.appS ho285 hg285 hn285)
                have T24_285 := Lib.hid (T24_283.out.grown hg285 lt_S)
                clear ho285 hg285 hn285
                have k1_W285 : W285.cell? ⟨gk, 1, none⟩ = some (.string f) := P285.out.msg_.cell 1
                have k3_W285 : W285.cell? ⟨gk, 3, none⟩ = some (.string t) := P285.out.msg_.cell 3
                have hB_W285 : B ≤ W285.heap.size := Nat.le_trans hBw P285.out.sz
                refine hK.out _ _ (P285.out.held k1_W285 k3_W285 (.inr rfl) (.inr rfl) (.inr rfl)) (fun hc285 => ?rs285)
                clear hK K
                try simp only [Act.put, List.setIfInBounds_toArray, List.set_cons_zero, List.set_cons_succ]
                refine wpAnyL_ready (rs := [25]) hc285 (by kernel_rfl) (by simp) ?_
                refine AllReadyL.cons (o := ?o287) ?hi287 (fun K hK => ?st287) ?mo287
                case hi287 => (simp only [List.getElem?_toArray, List.getElem?_cons_succ, List.getElem?_cons_zero]; try rfl)
                case st287 =>
                  refine step_append_any _ rfl (.tmp 52) (.tmp 53) 39 rfl B 22 ih (.slice none 0 0) 1 24 Try.underlying39 hi_ih hz_ih hs_ih hb_ih rfl (by decide) (.slice Ac N cc) N (rhV L) (by first | (simp [Act.eval]; done) | (simp [Act.eval, Act.put]; done)) P285.out.hH W285.heap.size (some ⟨t258, 0, none⟩) 1 1 [.slice none 0 0] (by first | (simp [Act.eval]; done) | (simp [Act.eval, Act.put]; done)) (T24_285.out.reads rfl) (by simp [Value.oneCell']) (by simp only [maxLen]; omega) (by omega) hB_W285 ?_
                  intro v287 W287 ho287 hg287 hn287
                  obtain ⟨A287, c287, rfl, -, -⟩ := own_slice ho287
                  have P287 := Lib.hid (P285.out.appH ho287 hg287 hn287)
                  clear ho287 hg287 hn287
                  have k1_W287 : W287.cell? ⟨gk, 1, none⟩ = some (.string f) := P287.out.msg_.cell 1
                  have k3_W287 : W287.cell? ⟨gk, 3, none⟩ = some (.string t) := P287.out.msg_.cell 3
                  have hB_W287 : B ≤ W287.heap.size := Nat.le_trans hBw P287.out.sz
                  refine hK.out _ _ (P287.out.held k1_W287 k3_W287 (.inr rfl) (.inr rfl) (.inr rfl)) (fun hc287 => ?rs287)
                  clear hK K
                  try simp only [Act.put, List.setIfInBounds_toArray, List.set_cons_zero, List.set_cons_succ]
                  refine wpAnyL_take (i := 26) (oi := ?oi288) (v := ?v288) ?hi288 hnosel (by kernel_rfl) (by kernel_rfl) hc287 (by kernel_rfl) (fun _ _ _ h => h) ?hy288 (P287.out.held k1_W287 k3_W287 (.inr rfl) (.inr rfl) (.inr rfl)) (fun hc288 => ?rest288)
                  case hi288 => (simp only [List.getElem?_toArray, List.getElem?_cons_succ, List.getElem?_cons_zero]; try rfl)
                  case hy288 => (refine Or.inl ⟨by rfl, ?_⟩; intro w hSw; go_simp; (try with_reducible rfl))
                  try simp only [Act.put, List.setIfInBounds_toArray, List.set_cons_zero, List.set_cons_succ]
                  refine wpAnyL_take (i := 27) (oi := ?oi289) (v := ?v289) ?hi289 hnosel (by kernel_rfl) (by kernel_rfl) hc288 (by kernel_rfl) (fun _ _ _ h => h) ?hy289 (P287.out.held k1_W287 k3_W287 (.inr rfl) (.inr rfl) (.inr rfl)) (fun hc289 => ?rest289)
                  case hi289 => (simp only [List.getElem?_toArray, List.getElem?_cons_succ, List.getElem?_cons_zero]; try rfl)
                  case hy289 => (refine Or.inl ⟨by rfl, ?_⟩; intro w hSw; go_simp; (try with_reducible rfl))
                  try simp only [Act.put, List.setIfInBounds_toArray, List.set_cons_zero, List.set_cons_succ]
                  refine wpAnyL_ready (rs := [28]) hc289 (by kernel_rfl) (by simp) ?_
                  refine AllReadyL.cons (o := ?o291) ?hi291 (fun K hK => ?st291) ?mo291
                  case hi291 => (simp only [List.getElem?_toArray, List.getElem?_cons_succ, List.getElem?_cons_zero]; try rfl)
                  case st291 =>
                    have st291_ := P287.out.blk.cell 0
                    have sf291_ := P287.out.blk.frozen 0
                    obtain ⟨W291, e291⟩ : ∃ x, x = W287.setCell ⟨m, 0, none⟩ (.slice A283 (N + 1) c283) := ⟨_, rfl⟩
                    have P291 := Lib.hid (show PuS w1 W291 _ _ _ _ _ _ _ _ _ _ _ _ _ _ _ _ _ _ _ from e291 ▸ P287.out.set 0 (by rfl))
                    have k1_W291 : W291.cell? ⟨gk, 1, none⟩ = some (.string f) := P291.out.msg_.cell 1
                    have k3_W291 : W291.cell? ⟨gk, 3, none⟩ = some (.string t) := P291.out.msg_.cell 3
                    have hB_W291 : B ≤ W291.heap.size := Nat.le_trans hBw P291.out.sz
                    go_simp
                    rw [← e291]
                    clear st291_ sf291_ e291
                    refine hK.out _ _ (P291.out.held k1_W291 k3_W291 (.inl (by kernel_rfl)) (.inr rfl) (.inr rfl)) (fun hc291 => ?rs291)
                    clear hK K
                    try simp only [Act.put, List.setIfInBounds_toArray, List.set_cons_zero, List.set_cons_succ]
                    refine wpAnyL_take (i := 29) (oi := ?oi292) (v := ?v292) ?hi292 hnosel (by kernel_rfl) (by kernel_rfl) hc291 (by kernel_rfl) (fun _ _ _ h => h) ?hy292 (P291.out.held k1_W291 k3_W291 (.inl (by kernel_rfl)) (.inr rfl) (.inr rfl)) (fun hc292 => ?rest292)
                    case hi292 => (simp only [List.getElem?_toArray, List.getElem?_cons_succ, List.getElem?_cons_zero]; try rfl)
                    case hy292 => (refine Or.inl ⟨by rfl, ?_⟩; intro w hSw; go_simp; (try with_reducible rfl))
                    try simp only [Act.put, List.setIfInBounds_toArray, List.set_cons_zero, List.set_cons_succ]
                    refine wpAnyL_take (i := 30) (oi := ?oi293) (v := ?v293) ?hi293 hnosel (by kernel_rfl) (by kernel_rfl) hc292 (by kernel_rfl) (fun _ _ _ h => h) ?hy293 (P291.out.held k1_W291 k3_W291 (.inl (by kernel_rfl)) (.inr rfl) (.inr rfl)) (fun hc293 => ?rest293)
                    case hi293 => (simp only [List.getElem?_toArray, List.getElem?_cons_succ, List.getElem?_cons_zero]; try rfl)
                    case hy293 => (refine Or.inl ⟨by rfl, ?_⟩; intro w hSw; go_simp; (try with_reducible rfl))
                    try simp only [Act.put, List.setIfInBounds_toArray, List.set_cons_zero, List.set_cons_succ]
                    refine wpAnyL_ready (rs := [31]) hc293 (by kernel_rfl) (by simp) ?_
                    refine AllReadyL.cons (o := ?o295) ?hi295 (fun K hK => ?st295) ?mo295
                    case hi295 => (simp only [List.getElem?_toArray, List.getElem?_cons_succ, List.getElem?_cons_zero]; try rfl)
                    case st295 =>
                      have st295_ := P291.out.blk.cell 1
                      have sf295_ := P291.out.blk.frozen 1
                      obtain ⟨W295, e295⟩ : ∃ x, x = W291.setCell ⟨m, 1, none⟩ (.slice A285 (N + 1) c285) := ⟨_, rfl⟩
                      have P295 := Lib.hid (show PuS w1 W295 _ _ _ _ _ _ _ _ _ _ _ _ _ _ _ _ _ _ _ from e295 ▸ P291.out.set 1 (by rfl))
                      have k1_W295 : W295.cell? ⟨gk, 1, none⟩ = some (.string f) := P295.out.msg_.cell 1
                      have k3_W295 : W295.cell? ⟨gk, 3, none⟩ = some (.string t) := P295.out.msg_.cell 3
                      have hB_W295 : B ≤ W295.heap.size := Nat.le_trans hBw P295.out.sz
                      go_simp
                      rw [← e295]
                      clear st295_ sf295_ e295
                      refine hK.out _ _ (P295.out.held k1_W295 k3_W295 (.inl (by kernel_rfl)) (.inl (by kernel_rfl)) (.inr rfl)) (fun hc295 => ?rs295)
                      clear hK K
                      try simp only [Act.put, List.setIfInBounds_toArray, List.set_cons_zero, List.set_cons_succ]
                      refine wpAnyL_take (i := 32) (oi := ?oi296) (v := ?v296) ?hi296 hnosel (by kernel_rfl) (by kernel_rfl) hc295 (by kernel_rfl) (fun _ _ _ h => h) ?hy296 (P295.out.held k1_W295 k3_W295 (.inl (by kernel_rfl)) (.inl (by kernel_rfl)) (.inr rfl)) (fun hc296 => ?rest296)
                      case hi296 => (simp only [List.getElem?_toArray, List.getElem?_cons_succ, List.getElem?_cons_zero]; try rfl)
                      case hy296 => (refine Or.inl ⟨by rfl, ?_⟩; intro w hSw; go_simp; (try with_reducible rfl))
                      try simp only [Act.put, List.setIfInBounds_toArray, List.set_cons_zero, List.set_cons_succ]
                      refine wpAnyL_take (i := 33) (oi := ?oi297) (v := ?v297) ?hi297 hnosel (by kernel_rfl) (by kernel_rfl) hc296 (by kernel_rfl) (fun _ _ _ h => h) ?hy297 (P295.out.held k1_W295 k3_W295 (.inl (by kernel_rfl)) (.inl (by kernel_rfl)) (.inr rfl)) (fun hc297 => ?rest297)
                      case hi297 => (simp only [List.getElem?_toArray, List.getElem?_cons_succ, List.getElem?_cons_zero]; try rfl)
                      case hy297 => (refine Or.inl ⟨by rfl, ?_⟩; intro w hSw; go_simp; (try with_reducible rfl))
                      try simp only [Act.put, List.setIfInBounds_toArray, List.set_cons_zero, List.set_cons_succ]
                      refine wpAnyL_ready (rs := [34]) hc297 (by kernel_rfl) (by simp) ?_
                      refine AllReadyL.cons (o := ?o299) ?hi299 (fun K hK => ?st299) ?mo299
                      case hi299 => (simp only [List.getElem?_toArray, List.getElem?_cons_succ, List.getElem?_cons_zero]; try rfl)
                      case st299 =>
                        have st299_ := P295.out.blk.cell 2
                        have sf299_ := P295.out.blk.frozen 2
                        obtain ⟨W299, e299⟩ : ∃ x, x = W295.setCell ⟨m, 2, none⟩ (.slice A287 (N + 1) c287) := ⟨_, rfl⟩
                        have P299 := Lib.hid (show PuS w1 W299 _ _ _ _ _ _ _ _ _ _ _ _ _ _ _ _ _ _ _ from e299 ▸ P295.out.set 2 (by rfl))
                        have k1_W299 : W299.cell? ⟨gk, 1, none⟩ = some (.string f) := P299.out.msg_.cell 1
                        have k3_W299 : W299.cell? ⟨gk, 3, none⟩ = some (.string t) := P299.out.msg_.cell 3
                        have hB_W299 : B ≤ W299.heap.size := Nat.le_trans hBw P299.out.sz
                        go_simp
                        rw [← e299]
                        clear st299_ sf299_ e299
                        refine hK.out _ _ (P299.out.held k1_W299 k3_W299 (.inl (by kernel_rfl)) (.inl (by kernel_rfl)) (.inl (by kernel_rfl))) (fun hc299 => ?rs299)
                        clear hK K
                        try simp only [Act.put, List.setIfInBounds_toArray, List.set_cons_zero, List.set_cons_succ]
                        refine wpAnyL_done (by kernel_rfl) ?_ _
                        refine NoPanic.normal ?_
                        go_wp2_with fail
                        go_meet
                        exact Lib.hid ⟨_, by rw [HN.out], P299.out.fin (by rw [HN.out]; exact HM1.out) hl9 HN.out HV9.out, P299.out.msg_, rfl⟩
                      exact AllReadyL.nil
                    exact AllReadyL.nil
                  exact AllReadyL.nil
                exact AllReadyL.nil
              exact AllReadyL.nil
            exact AllReadyL.nil
          exact AllReadyL.nil
        refine AllReadyL.cons (o := ?o300) ?hi300 (fun K hK => ?st300) ?mo300
        case hi300 => (simp only [List.getElem?_toArray, List.getElem?_cons_succ, List.getElem?_cons_zero]; try rfl)
        case st300 =>
          obtain ⟨W300, e300⟩ : ∃ x, x = W258.alloc (.cells #[.int .i64 0] 3) := ⟨_, rfl⟩
          obtain ⟨t300, s300⟩ : ∃ x, x = W258.heap.size := ⟨_, rfl⟩
          have P300 := Lib.hid (show PuS w1 W300 _ _ _ _ _ _ _ _ _ _ _ _ _ _ _ _ _ _ _ from e300 ▸ P258.out.alloc _)
          have T24_300 := Lib.hid (show TmpF w1 W300 _ _ _ from e300 ▸ T24_258.out.alloc _)
          have T18_300 := Lib.hid (show TmpF w1 W300 t300 3 #[.int .i64 0] from by rw [e300, s300]; exact TmpF.new P258.out.sz _ _)
          have k1_W300 : W300.cell? ⟨gk, 1, none⟩ = some (.string f) := P300.out.msg_.cell 1
          have k3_W300 : W300.cell? ⟨gk, 3, none⟩ = some (.string t) := P300.out.msg_.cell 3
          have hB_W300 : B ≤ W300.heap.size := Nat.le_trans hBw P300.out.sz
          go_simp
          rw [← e300, ← s300]
          clear e300 s300
          refine hK.out _ _ (P300.out.held k1_W300 k3_W300 (.inr rfl) (.inr rfl) (.inr rfl)) (fun hc300 => ?rs300)
          clear hK K
          try simp only [Act.put, List.setIfInBounds_toArray, List.set_cons_zero, List.set_cons_succ]
          refine wpAnyL_ready (rs := [12]) hc300 (by kernel_rfl) (by simp) ?_
          refine AllReadyL.cons (o := ?o302) ?hi302 (fun K hK => ?st302) ?mo302
          case hi302 => (simp only [List.getElem?_toArray, List.getElem?_cons_succ, List.getElem?_cons_zero]; try rfl)
          case st302 =>
            obtain ⟨W302, e302⟩ : ∃ x, x = W300.alloc (.cells #[.string f, .string t] 46) := ⟨_, rfl⟩
            obtain ⟨t302, s302⟩ : ∃ x, x = W300.heap.size := ⟨_, rfl⟩
            have P302 := Lib.hid (show PuS w1 W302 _ _ _ _ _ _ _ _ _ _ _ _ _ _ _ _ _ _ _ from e302 ▸ P300.out.alloc _)
            have T24_302 := Lib.hid (show TmpF w1 W302 _ _ _ from e302 ▸ T24_300.out.alloc _)
            have T18_302 := Lib.hid (show TmpF w1 W302 _ _ _ from e302 ▸ T18_300.out.alloc _)
            have T12_302 := Lib.hid (show TmpF w1 W302 t302 46 #[.string f, .string t] from by rw [e302, s302]; exact TmpF.new P300.out.sz _ _)
            have k1_W302 : W302.cell? ⟨gk, 1, none⟩ = some (.string f) := P302.out.msg_.cell 1
            have k3_W302 : W302.cell? ⟨gk, 3, none⟩ = some (.string t) := P302.out.msg_.cell 3
            have hB_W302 : B ≤ W302.heap.size := Nat.le_trans hBw P302.out.sz
            go_simp
            rw [← e302, ← s302]
            clear e302 s302
            refine hK.out _ _ (P302.out.held k1_W302 k3_W302 (.inr rfl) (.inr rfl) (.inr rfl)) (fun hc302 => ?rs302)
            clear hK K
            try simp only [Act.put, List.setIfInBounds_toArray, List.set_cons_zero, List.set_cons_succ]
            refine wpAnyL_ready (rs := [13]) hc302 (by kernel_rfl) (by simp) ?_
            refine AllReadyL.cons (o := ?o304) ?hi304 (fun K hK => ?st304) ?mo304
            case hi304 => (simp only [List.getElem?_toArray, List.getElem?_cons_succ, List.getElem?_cons_zero]; try rfl)
            case st304 =>
              refine step_append_any _ rfl (.tmp 35) (.tmp 41) 38 rfl B 46 ik (.agg #[.string ⟨#[]⟩, .string ⟨#[]⟩]) 2 32 Try.underlying38 hi_ik hz_ik hs_ik hb_ik rfl (by decide) (.slice Aa N ca) N (rkV L) (by first | (simp [Act.eval]; done) | (simp [Act.eval, Act.put]; done)) P302.out.hK W302.heap.size (some ⟨t302, 0, none⟩) 1 1 [.string f, .string t] (by first | (simp [Act.eval]; done) | (simp [Act.eval, Act.put]; done)) (T12_302.out.reads rfl) (by simp [Value.oneCell']) (by simp only [maxLen]; omega) (by omega) hB_W302 ?_
              intro v304 W304 ho304 hg304 hn304
              obtain ⟨A304, c304, rfl, -, -⟩ := own_slice ho304
              have P304 := Lib.hid (P302.out.appK ho304 hg304 hn304)
              have T24_304 := Lib.hid (T24_302.out.grown hg304 lt_K)
              have T18_304 := Lib.hid (T18_302.out.grown hg304 lt_K)
              clear ho304 hg304 hn304
              have k1_W304 : W304.cell? ⟨gk, 1, none⟩ = some (.string f) := P304.out.msg_.cell 1
              have k3_W304 : W304.cell? ⟨gk, 3, none⟩ = some (.string t) := P304.out.msg_.cell 3
              have hB_W304 : B ≤ W304.heap.size := Nat.le_trans hBw P304.out.sz
              refine hK.out _ _ (P304.out.held k1_W304 k3_W304 (.inr rfl) (.inr rfl) (.inr rfl)) (fun hc304 => ?rs304)
              clear hK K
              try simp only [Act.put, List.setIfInBounds_toArray, List.set_cons_zero, List.set_cons_succ]
              refine wpAnyL_ready (rs := [19]) hc304 (by kernel_rfl) (by simp) ?_
              refine AllReadyL.cons (o := ?o306) ?hi306 (fun K hK => ?st306) ?mo306
              case hi306 => (simp only [List.getElem?_toArray, List.getElem?_cons_succ, List.getElem?_cons_zero]; try rfl)
              case st306 =>
                refine step_append_any _ rfl (.tmp 46) (.tmp 47) 22 rfl B 3 ii (.int .i64 0) 1 8 Try.underlying22 hi_ii hz_ii hs_ii hb_ii rfl (by decide) (.slice Ab N cb) N (rsV L) (by first | (simp [Act.eval]; done) | (simp [Act.eval, Act.put]; done)) P304.out.hS W304.heap.size (some ⟨t300, 0, none⟩) 1 1 [.int .i64 0] (by first | (simp [Act.eval]; done) | (simp [Act.eval, Act.put]; done)) (T18_304.out.reads rfl) (by simp [Value.oneCell']) (by simp only [maxLen]; omega) (by omega) hB_W304 ?_
                intro v306 W306 ho306 hg306 hn306
                obtain ⟨A306, c306, rfl, -, -⟩ := own_slice ho306
                have P306 := Lib.hid (P304.out.appS ho306 hg306 hn306)
                have T24_306 := Lib.hid (T24_304.out.grown hg306 lt_S)
                clear ho306 hg306 hn306
                have k1_W306 : W306.cell? ⟨gk, 1, none⟩ = some (.string f) := P306.out.msg_.cell 1
                have k3_W306 : W306.cell? ⟨gk, 3, none⟩ = some (.string t) := P306.out.msg_.cell 3
                have hB_W306 : B ≤ W306.heap.size := Nat.le_trans hBw P306.out.sz
                refine hK.out _ _ (P306.out.held k1_W306 k3_W306 (.inr rfl) (.inr rfl) (.inr rfl)) (fun hc306 => ?rs306)
                clear hK K
                try simp only [Act.put, List.setIfInBounds_toArray, List.set_cons_zero, List.set_cons_succ]
                refine wpAnyL_ready (rs := [25]) hc306 (by kernel_rfl) (by simp) ?_
                refine AllReadyL.cons (o := ?o308) ?hi308 (fun K hK => ?st308) ?mo308
                case hi308 => (simp only [List.getElem?_toArray, List.getElem?_cons_succ, List.getElem?_cons_zero]; try rfl)
                case st308 =>
                  refine step_append_any _ rfl (.tmp 52) (.tmp 53) 39 rfl B 22 ih (.slice none 0 0) 1 24 Try.underlying39 hi_ih hz_ih hs_ih hb_ih rfl (by decide) (.slice Ac N cc) N (rhV L) (by first | (simp [Act.eval]; done) | (simp [Act.eval, Act.put]; done)) P306.out.hH W306.heap.size (some ⟨t258, 0, none⟩) 1 1 [.slice none 0 0] (by first | (simp [Act.eval]; done) | (simp [Act.eval, Act.put]; done)) (T24_306.out.reads rfl) (by simp [Value.oneCell']) (by simp only [maxLen]; omega) (by omega) hB_W306 ?_
                  intro v308 W308 ho308 hg308 hn308
                  obtain ⟨A308, c308, rfl, -, -⟩ := own_slice ho308
                  have P308 := Lib.hid (P306.out.appH ho308 hg308 hn308)
                  clear ho308 hg308 hn308
                  have k1_W308 : W308.cell? ⟨gk, 1, none⟩ = some (.string f) := P308.out.msg_.cell 1
                  have k3_W308 : W308.cell? ⟨gk, 3, none⟩ = some (.string t) := P308.out.msg_.cell 3
                  have hB_W308 : B ≤ W308.heap.size := Nat.le_trans hBw P308.out.sz
                  refine hK.out _ _ (P308.out.held k1_W308 k3_W308 (.inr rfl) (.inr rfl) (.inr rfl)) (fun hc308 => ?rs308)
                  clear hK K
                  try simp only [Act.put, List.setIfInBounds_toArray, List.set_cons_zero, List.set_cons_succ]
                  refine wpAnyL_take (i := 26) (oi := ?oi309) (v := ?v309) ?hi309 hnosel (by kernel_rfl) (by kernel_rfl) hc308 (by kernel_rfl) (fun _ _ _ h => h) ?hy309 (P308.out.held k1_W308 k3_W308 (.inr rfl) (.inr rfl) (.inr rfl)) (fun hc309 => ?rest309)
                  case hi309 => (simp only [List.getElem?_toArray, List.getElem?_cons_succ, List.getElem?_cons_zero]; try rfl)
                  case hy309 => (refine Or.inl ⟨by rfl, ?_⟩; intro w hSw; go_simp; (try with_reducible rfl))
                  try simp only [Act.put, List.setIfInBounds_toArray, List.set_cons_zero, List.set_cons_succ]
                  refine wpAnyL_take (i := 27) (oi := ?oi310) (v := ?v310) ?hi310 hnosel (by kernel_rfl) (by kernel_rfl) hc309 (by kernel_rfl) (fun _ _ _ h => h) ?hy310 (P308.out.held k1_W308 k3_W308 (.inr rfl) (.inr rfl) (.inr rfl)) (fun hc310 => ?rest310)
                  case hi310 => (simp only [List.getElem?_toArray, List.getElem?_cons_succ, List.getElem?_cons_zero]; try rfl)
                  case hy310 => (refine Or.inl ⟨by rfl, ?_⟩; intro w hSw; go_simp; (try with_reducible rfl))
                  try simp only [Act.put, List.setIfInBounds_toArray, List.set_cons_zero, List.set_cons_succ]
                  refine wpAnyL_ready (rs := [28]) hc310 (by kernel_rfl) (by simp) ?_
                  refine AllReadyL.cons (o := ?o312) ?hi312 (fun K hK => ?st312) ?mo312
                  case hi312 => (simp only [List.getElem?_toArray, List.getElem?_cons_succ, List.getElem?_cons_zero]; try rfl)
                  case st312 =>
                    have st312_ := P308.out.blk.cell 0
                    have sf312_ := P308.out.blk.frozen 0
                    obtain ⟨W312, e312⟩ : ∃ x, x = W308.setCell ⟨m, 0, none⟩ (.slice A304 (N + 1) c304) := ⟨_, rfl⟩
                    have P312 := Lib.hid (show PuS w1 W312 _ _ _ _ _ _ _ _ _ _ _ _ _ _ _ _ _ _ _ from e312 ▸ P308.out.set 0 (by rfl))
                    have k1_W312 : W312.cell? ⟨gk, 1, none⟩ = some (.string f) := P312.out.msg_.cell 1
                    have k3_W312 : W312.cell? ⟨gk, 3, none⟩ = some (.string t) := P312.out.msg_.cell 3
                    have hB_W312 : B ≤ W312.heap.size := Nat.le_trans hBw P312.out.sz
                    go_simp
                    rw [← e312]
                    clear st312_ sf312_ e312
                    refine hK.out _ _ (P312.out.held k1_W312 k3_W312 (.inl (by kernel_rfl)) (.inr rfl) (.inr rfl)) (fun hc312 => ?rs312)
                    clear hK K
                    try simp only [Act.put, List.setIfInBounds_toArray, List.set_cons_zero, List.set_cons_succ]
                    refine wpAnyL_take (i := 29) (oi := ?oi313) (v := ?v313) ?hi313 hnosel (by kernel_rfl) (by kernel_rfl) hc312 (by kernel_rfl) (fun _ _ _ h => h) ?hy313 (P312.out.held k1_W312 k3_W312 (.inl (by kernel_rfl)) (.inr rfl) (.inr rfl)) (fun hc313 => ?rest313)
                    case hi313 => (simp only [List.getElem?_toArray, List.getElem?_cons_succ, List.getElem?_cons_zero]; try rfl)
                    case hy313 => (refine Or.inl ⟨by rfl, ?_⟩; intro w hSw; go_simp; (try with_reducible rfl))
                    try simp only [Act.put, List.setIfInBounds_toArray, List.set_cons_zero, List.set_cons_succ]
                    refine wpAnyL_take (i := 30) (oi := ?oi314) (v := ?v314) ?hi314 hnosel (by kernel_rfl) (by kernel_rfl) hc313 (by kernel_rfl) (fun _ _ _ h => h) ?hy314 (P312.out.held k1_W312 k3_W312 (.inl (by kernel_rfl)) (.inr rfl) (.inr rfl)) (fun hc314 => ?rest314)
                    case hi314 => (simp only [List.getElem?_toArray, List.getElem?_cons_succ, List.getElem?_cons_zero]; try rfl)
                    case hy314 => (refine Or.inl ⟨by rfl, ?_⟩; intro w hSw; go_simp; (try with_reducible rfl))
                    try simp only [Act.put, List.setIfInBounds_toArray, List.set_cons_zero, List.set_cons_succ]
                    refine wpAnyL_ready (rs := [31]) hc314 (by kernel_rfl) (by simp) ?_
                    refine AllReadyL.cons (o := ?o316) ?hi316 (fun K hK => ?st316) ?mo316
                    case hi316 => (simp only [List.getElem?_toArray, List.getElem?_cons_succ, List.getElem?_cons_zero]; try rfl)
                    case st316 =>
                      have st316_ := P312.out.blk.cell 1
                      have sf316_ := P312.out.blk.frozen 1
                      obtain ⟨W316, e316⟩ : ∃ x, x = W312.setCell ⟨m, 1, none⟩ (.slice A306 (N + 1) c306) := ⟨_, rfl⟩
                      have P316 := Lib.hid (show PuS w1 W316 _ _ _ _ _ _ _ _ _ _ _ _ _ _ _ _ _ _ _ from e316 ▸ P312.out.set 1 (by rfl))
                      have k1_W316 : W316.cell? ⟨gk, 1, none⟩ = some (.string f) := P316.out.msg_.cell 1
                      have k3_W316 : W316.cell? ⟨gk, 3, none⟩ = some (.string t) := P316.out.msg_.cell 3
                      have hB_W316 : B ≤ W316.heap.size := Nat.le_trans hBw P316.out.sz
                      go_simp
                      rw [← e316]
                      clear st316_ sf316_ e316
                      refine hK.out _ _ (P316.out.held k1_W316 k3_W316 (.inl (by kernel_rfl)) (.inl (by kernel_rfl)) (.inr rfl)) (fun hc316 => ?rs316)
                      clear hK K
                      try simp only [Act.put, List.setIfInBounds_toArray, List.set_cons_zero, List.set_cons_succ]
                      refine wpAnyL_take (i := 32) (oi := ?oi317) (v := ?v317) ?hi317 hnosel (by kernel_rfl) (by kernel_rfl) hc316 (by kernel_rfl) (fun _ _ _ h => h) ?hy317 (P316.out.held k1_W316 k3_W316 (.inl (by kernel_rfl)) (.inl (by kernel_rfl)) (.inr rfl)) (fun hc317 => ?rest317)
                      case hi317 => (simp only [List.getElem?_toArray, List.getElem?_cons_succ, List.getElem?_cons_zero]; try rfl)
                      case hy317 => (refine Or.inl ⟨by rfl, ?_⟩; intro w hSw; go_simp; (try with_reducible rfl))
                      try simp only [Act.put, List.setIfInBounds_toArray, List.set_cons_zero, List.set_cons_succ]
                      refine wpAnyL_take (i := 33) (oi := ?oi318) (v := ?v318) ?hi318 hnosel (by kernel_rfl) (by kernel_rfl) hc317 (by kernel_rfl) (fun _ _ _ h => h) ?hy318 (P316.out.held k1_W316 k3_W316 (.inl (by kernel_rfl)) (.inl (by kernel_rfl)) (.inr rfl)) (fun hc318 => ?rest318)
                      case hi318 => (simp only [List.getElem?_toArray, List.getElem?_cons_succ, List.getElem?_cons_zero]; try rfl)
                      case hy318 => (refine Or.inl ⟨by rfl, ?_⟩; intro w hSw; go_simp; (try with_reducible rfl))
                      try simp only [Act.put, List.setIfInBounds_toArray, List.set_cons_zero, List.set_cons_succ]
                      refine wpAnyL_ready (rs := [34]) hc318 (by kernel_rfl) (by simp) ?_
                      refine AllReadyL.cons (o := ?o320) ?hi320 (fun K hK => ?st320) ?mo320
                      case hi320 => (simp only [List.getElem?_toArray, List.getElem?_cons_succ, List.getElem?_cons_zero]; try rfl)
                      case st320 =>
                        have st320_ := P316.out.blk.cell 2
                        have sf320_ := P316.out.blk.frozen 2
                        obtain ⟨W320, e320⟩ : ∃ x, x = W316.setCell ⟨m, 2, none⟩ (.slice A308 (N + 1) c308) := ⟨_, rfl⟩
                        have P320 := Lib.hid (show PuS w1 W320 _ _ _ _ _ _ _ _ _ _ _ _ _ _ _ _ _ _ _ from e320 ▸ P316.out.set 2 (by rfl))
                        have k1_W320 : W320.cell? ⟨gk, 1, none⟩ = some (.string f) := P320.out.msg_.cell 1
                        have k3_W320 : W320.cell? ⟨gk, 3, none⟩ = some (.string t) := P320.out.msg_.cell 3
                        have hB_W320 : B ≤ W320.heap.size := Nat.le_trans hBw P320.out.sz
                        go_simp
                        rw [← e320]
                        clear st320_ sf320_ e320
                        refine hK.out _ _ (P320.out.held k1_W320 k3_W320 (.inl (by kernel_rfl)) (.inl (by kernel_rfl)) (.inl (by kernel_rfl))) (fun hc320 => ?rs320)
                        clear hK K
                        try simp only [Act.put, List.setIfInBounds_toArray, List.set_cons_zero, List.set_cons_succ]
                        refine wpAnyL_done (by kernel_rfl) ?_ _
                        refine NoPanic.normal ?_
                        go_wp2_with fail
                        go_meet
                        exact Lib.hid ⟨_, by rw [HN.out], P320.out.fin (by rw [HN.out]; exact HM1.out) hl9 HN.out HV9.out, P320.out.msg_, rfl⟩
                      exact AllReadyL.nil
                    exact AllReadyL.nil
                  exact AllReadyL.nil
                exact AllReadyL.nil
              exact AllReadyL.nil
            exact AllReadyL.nil
          exact AllReadyL.nil
        exact AllReadyL.nil
      exact AllReadyL.nil
  case rest =>
    obtain ⟨w7, rfl, hMid, hK7, e7⟩ := hcut.out
    subst e7
    obtain ⟨V1, a1, b1, c1, hR, hVV, hV', hvol⟩ := hMid
    obtain ⟨xf, xt, xs, xv, xn⟩ := x
    have hkl := (List.getElem?_eq_some_iff.1 HX.out).1
    obtain ⟨Ab, cb, rfl, hcb, -⟩ := own_slice hR.ss
    obtain ⟨Ac, cc, rfl, hcc, -⟩ := own_slice hR.hs
    obtain ⟨ub, rfl⟩ := own_some hR.ss (by omega)
    obtain ⟨uc, rfl⟩ := own_some hR.hs (by omega)
    have m1 : w7.cell? ⟨m, 1, none⟩ = some (.slice (some ⟨ub, 0, none⟩) L1.length cb) := hR.blk.cell 1
    have m2 : w7.cell? ⟨m, 2, none⟩ = some (.slice (some ⟨uc, 0, none⟩) L1.length cc) := hR.blk.cell 2
    have q5 : w7.cell? ⟨gk, 5, none⟩ = some (.int .i64 st) := hK7.cell 5
    have s0 : w7.cell? ⟨ub, k, none⟩ = some (.int .i64 xs) := (hR.ss.cellAt k (by omega)).trans (by rw [List.getElem?_map, HX.out]; rfl)
    have sf : w7.frozen? ⟨ub, k, none⟩ = false := hR.ss.frozenAt k
    have nbm : (3 : TypeId) ≠ 41 := by decide
    have nbc : (3 : TypeId) ≠ 22 := by decide
    have nmk : (3 : TypeId) ≠ 30 := by decide
    have hv8 : Vol (fun g => g = ub) w7 ((w7.setCell ⟨ub, k, none⟩ (.int .i64 st)).drew) := (Vol.setCell (V := fun g => g = ub) (a := ⟨ub, k, none⟩) (Vol.refl w7) (.inl rfl) _).drew
    have hub : Value.ownBlock (.slice (some ⟨ub, 0, none⟩) L1.length cb) = some ub := rfl
    have hblk8 := blk_vol hR.blk hv8 (fun e => own_blk_ne2 hR.ss hR.blk nbm hub e.symm)
    have hK8 := blk_vol hK7 hv8 (fun e => own_blk_ne2 hR.ss hK7 nmk hub e.symm)
    have hs8 := (hR.ss.stored k (.int .i64 st)).1.drew
    have hh8 := own_vol hR.hs hv8 (fun g hg e => own_ne hR.ss hR.hs nbc hub (by rw [hg, e]))
    have hx8 := own_vol (hR.rows k _ HX.out) hv8 (fun g hg e => hR.apb k _ HX.out g hg (by rw [hub, e]))
    have hkN : (k : Int) < (L1.length : Int) := by omega
    have hk0 : (0 : Int) ≤ (k : Int) := by omega
    have HR := Lib.hid hR
    have HV1 := Lib.hid (And.intro hVV (And.intro hV' hvol))
    have HK7 := Lib.hid hK7
    have HV8 := Lib.hid hv8
    have HBK8 := Lib.hid hblk8
    have HK8 := Lib.hid hK8
    have HS8 := Lib.hid hs8
    have HH8 := Lib.hid hh8
    have HX8 := Lib.hid hx8
    have HKL := Lib.hid hkl
    clear hR hVV hV' hvol hK7 hv8 hblk8 hK8 hs8 hh8 hx8 hkl hub hcut HM1 HK1 HB1 HQ HM hcb hcc nbm nbc nmk
    obtain ⟨N, hN⟩ : ∃ N, N = L1.length := ⟨_, rfl⟩
    rw [← hN] at m1 m2 hkN
    have HN := Lib.hid hN
    clear hN
    go_upto_region 9 with fail
    go_region
    generalize (w7.setCell ⟨ub, k, none⟩ (.int .i64 st)).drew = w8 at *
    have hx8 : w8.ownsRow B 3 1 xv xn.length (ints xn) := HX8.out
    obtain ⟨Ax, cx, rfl, hcx, -⟩ := own_slice hx8
    have r2 : w8.cell? ⟨m, 2, none⟩ = some (.slice (some ⟨uc, 0, none⟩) N cc) := by rw [HN.out]; exact HBK8.out.cell 2
    have c8 : w8.cell? ⟨uc, k, none⟩ = some (.slice Ax xn.length cx) := (HH8.out.cellAt k (by have := HKL.out; omega)).trans (by rw [List.getElem?_map, HX.out]; rfl)
    have q1 : w8.cell? ⟨gk, 1, none⟩ = some (.string f) := HK8.out.cell 1
    have q3 : w8.cell? ⟨gk, 3, none⟩ = some (.string t) := HK8.out.cell 3
    have q6 : w8.cell? ⟨gk, 6, none⟩ = some (.int .i64 nu) := HK8.out.cell 6
    have q7 : w8.cell? ⟨gk, 7, none⟩ = some (.int .i64 ep) := HK8.out.cell 7
    have hn99 : xn.length ≤ 900 := hn9
    clear m1 m2 q5 s0 sf hx8 hn9
    go_upto_region 11 with fail
    rcases Nat.eq_zero_or_pos xn.length with h0 | hpos
    · clear HOld
      have h00 : xn = [] := List.length_eq_zero_iff.1 h0
      subst h00
      have hE := HE.out rfl
      simp only [Value.slice.injEq] at hE
      obtain ⟨rfl, -, rfl⟩ := hE
      simp only [List.length_nil] at c8
      clear h0 hcx hn99
      go_region
      go_upto_region 12 with fail
      obtain ⟨i0, hi, hz0, hz1, hz2⟩ := info_parts int_infoM
      obtain ⟨w9, e9⟩ : ∃ x, x = w8.drew := ⟨_, rfl⟩
      rw [← e9]
      have nbm : (3 : TypeId) ≠ 41 := by decide
      have nbc : (3 : TypeId) ≠ 22 := by decide
      have nmk : (3 : TypeId) ≠ 30 := by decide
      have nck : (22 : TypeId) ≠ 30 := by decide
      have ncm : (22 : TypeId) ≠ 41 := by decide
      have huc : (Value.slice (some ⟨uc, 0, none⟩) L1.length cc).ownBlock = some uc := rfl
      have hcm : uc ≠ m := own_blk_ne2 HH8.out HBK8.out ncm huc
      have hck : uc ≠ gk := own_blk_ne2 HH8.out HK8.out nck huc
      have hBs : Hid (B ≤ w9.heap.size) := Lib.hid (by rw [e9]; exact Nat.le_trans (HR.out.ge m HR.out.vm) (Nat.le_of_lt (Nat.lt_of_lt_of_le HR.out.blk.lt HV8.out.size)))
      have hbk9 : Blk w9 m 41 #[a1, .slice (some ⟨ub, 0, none⟩) L1.length cb, .slice (some ⟨uc, 0, none⟩) L1.length cc] := by rw [e9]; exact HBK8.out.drew
      have hk9 : Blk w9 gk 30 (msgC f e t n st nu ep) := by rw [e9]; exact HK8.out.drew
      have hh9 : w9.ownsRow B 22 1 (.slice (some ⟨uc, 0, none⟩) L1.length cc) L1.length (rhV L1) := by rw [e9]; exact HH8.out.drew
      have c9 : w9.cell? ⟨uc, k, none⟩ = some (.slice none 0 0) := by rw [e9]; exact c8
      have r9 : w9.cell? ⟨m, 2, none⟩ = some (.slice (some ⟨uc, 0, none⟩) N cc) := by rw [e9]; exact r2
      have q9 : w9.cell? ⟨gk, 6, none⟩ = some (.int .i64 nu) := by rw [e9]; exact q6
      have rd : w9.drew.cell? ⟨m, 2, none⟩ = some (.slice (some ⟨uc, 0, none⟩) N cc) := r9
      have qd : w9.drew.cell? ⟨gk, 6, none⟩ = some (.int .i64 nu) := q9
      have c9a : ∀ o, (w9.alloc o).cell? ⟨uc, k, none⟩ = some (.slice none 0 0) := fun o => cell_keep c9 ((Below.refl _ _).alloc (Nat.le_refl _) _)
      have r9a : ∀ o, (w9.alloc o).cell? ⟨m, 2, none⟩ = some (.slice (some ⟨uc, 0, none⟩) N cc) := fun o => cell_keep r9 ((Below.refl _ _).alloc (Nat.le_refl _) _)
      have q9a : ∀ o, (w9.alloc o).cell? ⟨gk, 6, none⟩ = some (.int .i64 nu) := fun o => cell_keep q9 ((Below.refl _ _).alloc (Nat.le_refl _) _)
      have rad : ∀ o, (w9.alloc o).drew.cell? ⟨m, 2, none⟩ = some (.slice (some ⟨uc, 0, none⟩) N cc) := r9a
      have qad : ∀ o, (w9.alloc o).drew.cell? ⟨gk, 6, none⟩ = some (.int .i64 nu) := q9a
      have HN2 := Lib.hid (And.intro hcm hck)
      have HBK9 := Lib.hid hbk9
      have HK9 := Lib.hid hk9
      have HH9 := Lib.hid hh9
      have HE9 := Lib.hid e9
      clear huc hcm hck nbm nbc nmk nck ncm hbk9 hk9 hh9 e9 r2 c8 q1 q3 q6 q7
      refine wp_region_noPanic ?_
      refine wp_region_heldL (S0 := fun wa => wa.cell? ⟨m, 2, none⟩ = some (.slice (some ⟨uc, 0, none⟩) N cc) ∧ wa.cell? ⟨gk, 6, none⟩ = some (.int .i64 nu)) (ws := [(17, fun wa => wa.cell? ⟨uc, k, none⟩ = some (.slice none 0 0))]) (by kernel_rfl) (fun hc0 => ?_)
      have hnosel := noSel_of (by kernel_rfl) hc0
      have one : ∀ {l : Array Bool} {wa : World}, wa.cell? ⟨uc, k, none⟩ = some (.slice none 0 0) → ∀ p ∈ [((17 : Nat), fun wa : World => wa.cell? ⟨uc, k, none⟩ = some (.slice none 0 0))], l.getD p.1 true = false → p.2 wa := fun {l wa} h p hp _ => by
        rw [List.mem_singleton.1 hp]
        exact h
      refine wpAnyL_take (i := 0) (oi := ?oj1) (v := ?vj1) ?hj1 hnosel (by kernel_rfl) (by kernel_rfl) hc0 (by kernel_rfl) (fun _ _ _ h => h) ?hz1 ⟨⟨r9, q9⟩, one c9⟩ (fun hd1 => ?resj1)
      case hj1 => (simp only [List.getElem?_toArray, List.getElem?_cons_zero]; try rfl)
      case hz1 => (refine Or.inl ⟨by rfl, ?_⟩; intro w hSw; go_simp; (try with_reducible rfl))
      try simp only [Act.put, List.setIfInBounds_toArray, List.set_cons_zero, List.set_cons_succ]
      refine wpAnyL_take (i := 1) (oi := ?oj2) (v := ?vj2) ?hj2 hnosel (by kernel_rfl) (by kernel_rfl) hd1 (by kernel_rfl) (fun _ _ _ h => h) ?hz2 ⟨⟨r9, q9⟩, one c9⟩ (fun hd2 => ?resj2)
      case hj2 => (simp only [List.getElem?_toArray, List.getElem?_cons_succ, List.getElem?_cons_zero]; try rfl)
      case hz2 => (refine Or.inl ⟨by rfl, ?_⟩; intro w hSw; go_simp; (try with_reducible rfl))
      try simp only [Act.put, List.setIfInBounds_toArray, List.set_cons_zero, List.set_cons_succ]
      refine wpAnyL_take (i := 2) (oi := ?oj3) (v := ?vj3) ?hj3 hnosel (by kernel_rfl) (by kernel_rfl) hd2 (by kernel_rfl) (fun _ _ _ h => h) ?hz3 ⟨⟨r9, q9⟩, one c9⟩ (fun hd3 => ?resj3)
      case hj3 => (simp only [List.getElem?_toArray, List.getElem?_cons_succ, List.getElem?_cons_zero]; try rfl)
      case hz3 => (refine Or.inl ⟨by rfl, ?_⟩; intro w hSw; go_simp; (try with_reducible rfl))
      try simp only [Act.put, List.setIfInBounds_toArray, List.set_cons_zero, List.set_cons_succ]
      refine wpAnyL_take (i := 3) (oi := ?oj4) (v := ?vj4) ?hj4 hnosel (by kernel_rfl) (by kernel_rfl) hd3 (by kernel_rfl) (fun _ _ _ h => h) ?hz4 ⟨⟨r9, q9⟩, one c9⟩ (fun hd4 => ?resj4)
      case hj4 => (simp only [List.getElem?_toArray, List.getElem?_cons_succ, List.getElem?_cons_zero]; try rfl)
      case hz4 => (refine Or.inl ⟨by rfl, ?_⟩; intro w hSw; have q := hSw.1.1; (try dsimp only at q); go_simp; (try with_reducible rfl))
      try simp only [Act.put, List.setIfInBounds_toArray, List.set_cons_zero, List.set_cons_succ]
      refine wpAnyL_take (i := 4) (oi := ?oj5) (v := ?vj5) ?hj5 hnosel (by kernel_rfl) (by kernel_rfl) hd4 (by kernel_rfl) (fun _ _ _ h => h) ?hz5 ⟨⟨r9, q9⟩, one c9⟩ (fun hd5 => ?resj5)
      case hj5 => (simp only [List.getElem?_toArray, List.getElem?_cons_succ, List.getElem?_cons_zero]; try rfl)
      case hz5 => (refine Or.inl ⟨by rfl, ?_⟩; intro w hSw; go_simp; (try with_reducible rfl))
      try simp only [Act.put, List.setIfInBounds_toArray, List.set_cons_zero, List.set_cons_succ]
      refine wpAnyL_take (i := 5) (oi := ?oj6) (v := ?vj6) ?hj6 hnosel (by kernel_rfl) (by kernel_rfl) hd5 (by kernel_rfl) (fun _ _ _ h => h) ?hz6 ⟨⟨r9, q9⟩, one c9⟩ (fun hd6 => ?resj6)
      case hj6 => (simp only [List.getElem?_toArray, List.getElem?_cons_succ, List.getElem?_cons_zero]; try rfl)
      case hz6 => (refine Or.inl ⟨by rfl, ?_⟩; intro w hSw; go_simp; (try with_reducible rfl))
      try simp only [Act.put, List.setIfInBounds_toArray, List.set_cons_zero, List.set_cons_succ]
      refine wpAnyL_take (i := 6) (oi := ?oj7) (v := ?vj7) ?hj7 hnosel (by kernel_rfl) (by kernel_rfl) hd6 (by kernel_rfl) (fun _ _ _ h => h) ?hz7 ⟨⟨r9, q9⟩, one c9⟩ (fun hd7 => ?resj7)
      case hj7 => (simp only [List.getElem?_toArray, List.getElem?_cons_succ, List.getElem?_cons_zero]; try rfl)
      case hz7 => (refine Or.inl ⟨by rfl, ?_⟩; intro w hSw; go_simp; (try with_reducible rfl))
      try simp only [Act.put, List.setIfInBounds_toArray, List.set_cons_zero, List.set_cons_succ]
      refine wpAnyL_take (i := 7) (oi := ?oj8) (v := ?vj8) ?hj8 hnosel (by kernel_rfl) (by kernel_rfl) hd7 (by kernel_rfl) (fun _ _ _ h => h) ?hz8 ⟨⟨r9, q9⟩, one c9⟩ (fun hd8 => ?resj8)
      case hj8 => (simp only [List.getElem?_toArray, List.getElem?_cons_succ, List.getElem?_cons_zero]; try rfl)
      case hz8 => (refine Or.inl ⟨by rfl, ?_⟩; intro w hSw; go_simp; (try with_reducible rfl))
      try simp only [Act.put, List.setIfInBounds_toArray, List.set_cons_zero, List.set_cons_succ]
      refine wpAnyL_take (i := 8) (oi := ?oj9) (v := ?vj9) ?hj9 hnosel (by kernel_rfl) (by kernel_rfl) hd8 (by kernel_rfl) (fun _ _ _ h => h) ?hz9 ⟨⟨r9, q9⟩, one c9⟩ (fun hd9 => ?resj9)
      case hj9 => (simp only [List.getElem?_toArray, List.getElem?_cons_succ, List.getElem?_cons_zero]; try rfl)
      case hz9 => (refine Or.inl ⟨by rfl, ?_⟩; intro w hSw; have q := hSw.1.1; (try dsimp only at q); go_simp; (try with_reducible rfl))
      try simp only [Act.put, List.setIfInBounds_toArray, List.set_cons_zero, List.set_cons_succ]
      refine wpAnyL_take (i := 9) (oi := ?oj10) (v := ?vj10) ?hj10 hnosel (by kernel_rfl) (by kernel_rfl) hd9 (by kernel_rfl) (fun _ _ _ h => h) ?hz10 ⟨⟨r9, q9⟩, one c9⟩ (fun hd10 => ?resj10)
      case hj10 => (simp only [List.getElem?_toArray, List.getElem?_cons_succ, List.getElem?_cons_zero]; try rfl)
      case hz10 => (refine Or.inl ⟨by rfl, ?_⟩; intro w hSw; go_simp; (try with_reducible rfl))
      try simp only [Act.put, List.setIfInBounds_toArray, List.set_cons_zero, List.set_cons_succ]
      refine wpAnyL_take (i := 10) (oi := ?oj11) (v := ?vj11) ?hj11 hnosel (by kernel_rfl) (by kernel_rfl) hd10 (by kernel_rfl) (fun _ _ _ h => h) ?hz11 ⟨⟨r9, q9⟩, one c9⟩ (fun hd11 => ?resj11)
      case hj11 => (simp only [List.getElem?_toArray, List.getElem?_cons_succ, List.getElem?_cons_zero]; try rfl)
      case hz11 => (refine Or.inl ⟨by rfl, ?_⟩; intro w hSw; go_simp; (try with_reducible rfl))
      try simp only [Act.put, List.setIfInBounds_toArray, List.set_cons_zero, List.set_cons_succ]
      refine wpAnyL_take (i := 11) (oi := ?oj12) (v := ?vj12) ?hj12 hnosel (by kernel_rfl) (by kernel_rfl) hd11 (by kernel_rfl) (fun _ _ _ h => h) ?hz12 ⟨⟨r9, q9⟩, one c9⟩ (fun hd12 => ?resj12)
      case hj12 => (simp only [List.getElem?_toArray, List.getElem?_cons_succ, List.getElem?_cons_zero]; try rfl)
      case hz12 => (refine Or.inl ⟨by rfl, ?_⟩; intro w hSw; have q := hSw.2 _ (List.Mem.head _) (by kernel_rfl); (try dsimp only at q); go_simp; (try with_reducible rfl))
      try simp only [Act.put, List.setIfInBounds_toArray, List.set_cons_zero, List.set_cons_succ]
      refine wpAnyL_take (i := 12) (oi := ?oj13) (v := ?vj13) ?hj13 hnosel (by kernel_rfl) (by kernel_rfl) hd12 (by kernel_rfl) (fun _ _ _ h => h) ?hz13 ⟨⟨r9, q9⟩, one c9⟩ (fun hd13 => ?resj13)
      case hj13 => (simp only [List.getElem?_toArray, List.getElem?_cons_succ, List.getElem?_cons_zero]; try rfl)
      case hz13 => (refine Or.inl ⟨by rfl, ?_⟩; intro w hSw; go_simp; (try with_reducible rfl))
      try simp only [Act.put, List.setIfInBounds_toArray, List.set_cons_zero, List.set_cons_succ]
      refine wpAnyL_take (i := 13) (oi := ?oj14) (v := ?vj14) ?hj14 hnosel (by kernel_rfl) (by kernel_rfl) hd13 (by kernel_rfl) (fun _ _ _ h => h) ?hz14 ⟨⟨r9, q9⟩, one c9⟩ (fun hd14 => ?resj14)
      case hj14 => (simp only [List.getElem?_toArray, List.getElem?_cons_succ, List.getElem?_cons_zero]; try rfl)
      case hz14 => (refine Or.inl ⟨by rfl, ?_⟩; intro w hSw; have q := hSw.1.2; (try dsimp only at q); go_simp; (try with_reducible rfl))
      try simp only [Act.put, List.setIfInBounds_toArray, List.set_cons_zero, List.set_cons_succ]
      refine wpAnyL_ready (rs := [14]) hd14 (by kernel_rfl) (by simp) ?_
      refine AllReadyL.cons (o := ?oj15) ?hj15 (fun K hK => ?sj15) AllReadyL.nil
      case hj15 => (simp only [List.getElem?_toArray, List.getElem?_cons_succ, List.getElem?_cons_zero]; try rfl)
      go_simp
      refine hK.out _ _ ⟨⟨r9a _, q9a _⟩, one (c9a _)⟩ (fun hd15 => ?rj15)
      clear hK K
      try simp only [Act.put, List.setIfInBounds_toArray, List.set_cons_zero, List.set_cons_succ]
      refine wpAnyL_ready (rs := [15]) hd15 (by kernel_rfl) (by simp) ?_
      refine AllReadyL.cons (o := ?oj16) ?hj16 (fun K hK => ?sj16) AllReadyL.nil
      case hj16 => (simp only [List.getElem?_toArray, List.getElem?_cons_succ, List.getElem?_cons_zero]; try rfl)
      refine step_append_any _ rfl (.tmp 101) (.tmp 104) 22 rfl B 3 i0 (.int .i64 0) 1 8 Try.underlying22 hi hz0 hz1 hz2 rfl (by decide) (.slice none 0 0) 0 [] (by first | (simp [Act.eval]; done) | (simp [Act.eval, Act.put]; done)) ⟨by simp, .inl ⟨rfl, rfl⟩⟩ (w9.heap.size + 1) (some ⟨w9.heap.size, 0, none⟩) 1 1 [.int .i64 nu] (by first | (simp [Act.eval]; done) | (simp [Act.eval, Act.put]; done)) (by have h := reads_one w9 (.int .i64 nu) 3; rw [show (w9.alloc (.cells #[.int .i64 nu] 3)).heap.size = w9.heap.size + 1 by simp] at h; exact h) (by simp [Value.oneCell']) (by simp only [maxLen]; omega) (by omega) (by have := hBs.out; simp; omega) ?_
      intro v4 w4 hown4 hg4 hn4
      obtain ⟨A4, c4, rfl, hc4, -⟩ := own_slice hown4
      have hb4 := (HBK9.out.alloc (.cells #[.int .i64 nu] 3)).drew.grown hg4 (by simp [Value.ownBlock])
      have hk4 := (HK9.out.alloc (.cells #[.int .i64 nu] 3)).drew.grown hg4 (by simp [Value.ownBlock])
      have hh4 : w4.ownsRow B 22 1 (.slice (some ⟨uc, 0, none⟩) L1.length cc) L1.length (rhV L1) := (HH9.out.alloc _).drew.kept hg4 (.inr (by simp [Value.ownBlock]))
      have t2 : w4.cell? ⟨m, 2, none⟩ = some (.slice (some ⟨uc, 0, none⟩) N cc) := (by rw [HN.out]; exact hb4.cell 2)
      have t6 : w4.cell? ⟨gk, 6, none⟩ = some (.int .i64 nu) := hk4.cell 6
      have t2s : ∀ v, (w4.setCell ⟨uc, k, none⟩ v).cell? ⟨m, 2, none⟩ = some (.slice (some ⟨uc, 0, none⟩) N cc) := fun v => (by rw [HN.out]; exact (hb4.far (p := ⟨uc, k, none⟩) (fun e => HN2.out.1 e.symm) v).cell 2)
      have t6s : ∀ v, (w4.setCell ⟨uc, k, none⟩ v).cell? ⟨gk, 6, none⟩ = some (.int .i64 nu) := fun v => (hk4.far (p := ⟨uc, k, none⟩) (fun e => HN2.out.2 e.symm) v).cell 6
      have tc : w4.cell? ⟨uc, k, none⟩ = some (.slice none 0 0) := (hh4.cellAt k (by have := HKL.out; omega)).trans (by rw [List.getElem?_map, HX.out]; rfl)
      have tf : w4.frozen? ⟨uc, k, none⟩ = false := hh4.frozenAt k
      refine hK.out _ _ ⟨⟨t2, t6⟩, one tc⟩ (fun hd16 => ?rj16)
      clear hK K
      try simp only [Act.put, List.setIfInBounds_toArray, List.set_cons_zero, List.set_cons_succ]
      refine wpAnyL_take (i := 16) (oi := ?oj17) (v := ?vj17) ?hj17 hnosel (by kernel_rfl) (by kernel_rfl) hd16 (by kernel_rfl) (fun _ _ _ h => h) ?hz17 ⟨⟨t2, t6⟩, one tc⟩ (fun hd17 => ?resj17)
      case hj17 => (simp only [List.getElem?_toArray, List.getElem?_cons_succ, List.getElem?_cons_zero]; try rfl)
      case hz17 => (refine Or.inl ⟨by rfl, ?_⟩; intro w hSw; go_simp; (try with_reducible rfl))
      try simp only [Act.put, List.setIfInBounds_toArray, List.set_cons_zero, List.set_cons_succ]
      refine wpAnyL_ready (rs := [17]) hd17 (by kernel_rfl) (by simp) ?_
      refine AllReadyL.cons (o := ?oj18) ?hj18 (fun K hK => ?sj18) AllReadyL.nil
      case hj18 => (simp only [List.getElem?_toArray, List.getElem?_cons_succ, List.getElem?_cons_zero]; try rfl)
      go_simp
      refine hK.out _ _ ⟨⟨t2s _, t6s _⟩, fun p hp hl => ?hq18⟩ (fun hd18 => ?rj18)
      case hq18 => (exfalso; rw [List.mem_singleton.1 hp] at hl; revert hl; simp)
      clear hK K
      try simp only [Act.put, List.setIfInBounds_toArray, List.set_cons_zero, List.set_cons_succ]
      refine wpAnyL_done (by kernel_rfl) ?_ _
      refine NoPanic.normal ?_
      clear one
      have hkf := fun v => hk4.far (p := ⟨uc, k, none⟩) (fun e => HN2.out.2 e.symm) v
      have k1 : ∀ v, (w4.setCell ⟨uc, k, none⟩ v).cell? ⟨gk, 1, none⟩ = some (.string f) := fun v => (hkf v).cell 1
      have k3 : ∀ v, (w4.setCell ⟨uc, k, none⟩ v).cell? ⟨gk, 3, none⟩ = some (.string t) := fun v => (hkf v).cell 3
      have k7 : ∀ v, (w4.setCell ⟨uc, k, none⟩ v).cell? ⟨gk, 7, none⟩ = some (.int .i64 ep) := fun v => (hkf v).cell 7
      have HK4 := Lib.hid hk4
      have HB4 := Lib.hid hb4
      have HO4 := Lib.hid hown4
      have HH4 := Lib.hid hh4
      have HG4 := Lib.hid hg4
      have HV4 := Lib.hid hn4
      clear hkf hk4 hb4 hown4 hh4 hg4 hn4 t2 t2s tc tf t6 c9 c9a r9 r9a q9 q9a rd qd rad qad
      go_wp2_with fail
      go_ret
      have nbc : (3 : TypeId) ≠ 22 := by decide
      have huc : (Value.slice (some ⟨uc, 0, none⟩) L1.length cc).ownBlock = some uc := rfl
      have hv9 : Vol (fun g => (Value.slice (some ⟨ub, 0, none⟩) L1.length cb).ownBlock = some g ∨ (Value.slice (some ⟨uc, 0, none⟩) L1.length cc).ownBlock = some g ∨ (Value.slice none 0 0).ownBlock = some g) w7 w9 := by
        rw [HE9.out]
        exact (HV8.out.mono (fun g e => .inl (by rw [e]; rfl))).drew
      have hv4 := ((hv9.alloc (.cells #[.int .i64 nu] 3)).drew.grown HG4.out (fun g e => by simp [Value.ownBlock] at e)).setCell (a := ⟨uc, k, none⟩) (.inl (.inr (.inl rfl))) (.slice A4 (0 + 1) c4)
      have hfar : Vol (fun g => g = uc) w4 (w4.setCell ⟨uc, k, none⟩ (.slice A4 (0 + 1) c4)) := Vol.setCell (V := fun g => g = uc) (a := ⟨uc, k, none⟩) (Vol.refl w4) (.inl rfl) _
      have hs4 : w4.ownsRow B 3 1 (.slice (some ⟨ub, 0, none⟩) L1.length cb) L1.length ((rsV L1).set k (.int .i64 st)) := by
        have h9 : w9.ownsRow B 3 1 (.slice (some ⟨ub, 0, none⟩) L1.length cb) L1.length ((rsV L1).set k (.int .i64 st)) := by rw [HE9.out]; exact HS8.out.drew
        exact (h9.alloc _).drew.kept HG4.out (.inr (by simp [Value.ownBlock]))
      have hs5 := own_vol hs4 hfar (fun g e e2 => own_ne hs4 HH4.out nbc e (by rw [huc, e2]))
      have ho5 := own_vol HO4.out hfar (fun g e e2 => own_ne HO4.out HH4.out nbc e (by rw [huc, e2]))
      have hh5 := (HH4.out.stored k (.slice A4 (0 + 1) c4)).1
      have hT := HR.out.turn (x' := ⟨xf, xt, st, .slice A4 (0 + 1) c4, [nu]⟩) HX.out rfl rfl hv4 (by show World.ownsRow _ B _ 1 _ _ (List.map _ (L1.set k _)); rw [List.map_set]; exact hs5) (by show World.ownsRow _ B _ 1 _ _ (List.map _ (L1.set k _)); rw [List.map_set]; exact hh5) (by
        show World.ownsRow _ B _ 1 _ [nu].length (ints [nu])
        exact ho5) (fun g e => by
        rcases HV4.out with e2 | e2
        · exact .inl (by rw [← show (Value.slice A4 (0 + 1) c4).ownBlock = some g from e, e2]; rfl)
        · right
          rw [show (Value.slice A4 (0 + 1) c4).ownBlock = some g from e] at e2
          injection e2 with e2
          have := hv9.size
          rw [e2]
          simp
          omega)
      have hfin := RHeard_of (w8 := w4.setCell ⟨uc, k, none⟩ (.slice A4 (0 + 1) c4)) (P := fun L2 => ∃ v', L2 = L1.set k ⟨xf, xt, st, v', addN [] nu⟩) HR.out HV1.out.1 HV1.out.2.1 HV1.out.2.2 hT (fun g e => .inl e) (fun g e => e.imp id (·.1)) (hv4.mono (fun g e => by
        rcases e with e | e | e
        · exact HR.out.vb g e
        · exact HR.out.vc g e
        · exact HR.out.vx k _ HX.out g e)) ⟨_, by rw [addN_nil]⟩ (.cells (ackC f t nu ep) 30)
      have hsz : (w4.setCell ⟨uc, k, none⟩ (.slice A4 (0 + 1) c4)).heap.size = w4.heap.size := by simp [World.setCell]
      have hbk := Blk.new (w4.setCell ⟨uc, k, none⟩ (.slice A4 (0 + 1) c4)) 30 (ackC f t nu ep)
      rw [hsz] at hbk hfin
      exact ⟨_, rfl, hbk, hfin⟩
    · have h9 : xn = [] := HOld.out.2
      rw [h9] at hpos
      simp at hpos
end
end Go.Proofs.Ytiflhfhonhbcpaa.Mas
