/- The plain master hears a status. -/
import Derived.Test.YtiflhfhonhbcpaaRmP
namespace Go.Proofs.Ytiflhfhonhbcpaa.Mas
open Go Go.RowKit Go.Proofs.Ytiflhfhonhbcpaa Go.Proofs.Ytiflhfhonhbcpaa.Crw Go.ChangeShapes Go.WideShapes Go.ChangeAt
set_option linter.unusedVariables false
set_option maxRecDepth 100000
section
variable {w w' : World} {B m : Nat} {V U : Nat → Prop} {a b c : Value} {L : List Rk} {f t : ByteArray}
theorem RHeard_of {w7 w8 : World} {V1 V2 : Nat → Prop} {a1 b1 c1 a2 b2 c2 : Value} {L1 L2 : List Rk} {P : List Rk → Prop} (h7 : RmP w7 B m V1 a1 b1 c1 L1) (hVV : ∀ g, V g → V1 g) (hV' : ∀ g, V1 g → V g ∨ w.heap.size ≤ g) (hvol : Vol V w w7)
    (h8 : RmP w8 B m V2 a2 b2 c2 L2) (h1 : ∀ g, V1 g → V2 g) (h2 : ∀ g, V2 g → V1 g ∨ w7.heap.size ≤ g) (hv8 : Vol V1 w7 w8) (hP : P L2) (o : Obj) : RHeard w B m V P w8.heap.size (w8.alloc o) := by
  have hsz := hvol.size
  refine ⟨Nat.le_trans hsz hv8.size, V2, a2, b2, c2, L2, hP, h8.below ((Below.refl _ _).alloc (Nat.le_refl _) _), fun g hg => h1 g (hVV g hg), fun g hg => ?_, ((hvol.trans hv8 hV')).alloc _, fun e => absurd (h8.lt _ e) (Nat.lt_irrefl _)⟩
  rcases h2 g hg with e | e
  · exact hV' g e
  · exact .inr (Nat.le_trans hsz e)
theorem rhV_same {L : List Rk} {k : Nat} {x x' : Rk} (h : L[k]? = some x) (hv : x'.v = x.v) : rhV (L.set k x') = rhV L := by
  show List.map _ (L.set k x') = _
  rw [List.map_set, hv]
  apply List.ext_getElem?
  intro j
  rw [List.getElem?_set]
  split
  · rename_i e
    subst e
    have := (List.getElem?_eq_some_iff.1 h).1
    rw [if_pos (by simpa using this), List.getElem?_map, h]
    rfl
  · rfl
theorem addN_same {xn : List Int} {z : Nat} {nu : Int} (hz : xn.length = z + 1) (h : xn[z]? = some nu) : addN xn nu = xn := by
  unfold addN
  rw [hz, Nat.add_sub_cancel, if_pos h]
theorem addN_more {xn : List Int} {z : Nat} {nu la : Int} (hz : xn.length = z + 1) (h : xn[z]? = some la) (hc : (la == nu) = false) : addN xn nu = xn ++ [nu] := by
  unfold addN
  rw [hz, Nat.add_sub_cancel, if_neg]
  rw [h]
  intro e
  injection e with e
  rw [e] at hc
  simp at hc
set_option maxHeartbeats 8000000 in
theorem RHear_old (h : RmP w B m V a b c L) {L1 : List Rk} {k : Nat} {x : Rk} (hx : L1[k]? = some x) (hu : UpL L L1 f t k x) (hOld : L1 = L ∧ x.ns ≠ []) (hl1 : L1.length ≤ 100) (hn9 : x.ns.length ≤ 900) (hns : ∀ (j : Nat) (y : Rk), L[j]? = some y → y.ns ≠ []) (e : ByteArray) (n st nu ep : Int) :
    Calls Try.prog 19 #[.pointer (some ⟨m, 0, none⟩), .agg (msgC f e t n st nu ep)] w fun r w' => ∃ c, r = .returned (.slice (some ⟨c, 0, none⟩) 1 1) ∧ Blk w' c 30 (ackC f t nu ep) ∧ RHeard w B m V (fun L2 => ∃ v', L2 = L1.set k ⟨x.f, x.t, st, v', addN x.ns nu⟩) c w' := by
  obtain ⟨W, hW⟩ : ∃ W, W = w.alloc (.cells (msgC f e t n st nu ep) 30) := ⟨_, rfl⟩
  have hb : Below w.heap.size w W := by rw [hW]; exact (Below.refl _ _).alloc (Nat.le_refl _) _
  have hk : Blk W w.heap.size 30 (msgC f e t n st nu ep) := by rw [hW]; exact Blk.new w 30 _
  have hM := h.below hb
  obtain ⟨q, hAt, hq⟩ := At_any hM hx hu
  have HE : Hid (x.ns = [] → x.v = .slice none 0 0) := Lib.hid (by
    rcases hu with ⟨rfl, -, -⟩ | ⟨-, rfl, -, -⟩
    · exact fun e => absurd e (hns k x hx)
    · exact fun _ => rfl)
  clear hns
  obtain ⟨gk, egk⟩ : ∃ g, g = w.heap.size := ⟨_, rfl⟩
  rw [← egk] at hk
  have p0 : W.cell? ⟨gk, 0, none⟩ = some (.int .i64 11) := hk.cell 0
  have p1 : W.cell? ⟨gk, 1, none⟩ = some (.string f) := hk.cell 1
  have p3 : W.cell? ⟨gk, 3, none⟩ = some (.string t) := hk.cell 3
  have HG := Lib.hid egk
  have HW := Lib.hid hW
  have HB := Lib.hid hb
  have HK := Lib.hid hk
  have HH := Lib.hid h
  have HM := Lib.hid hM
  have HOld := Lib.hid hOld
  have HX := Lib.hid hx
  have HQ := Lib.hid hq
  clear hOld hM hW hb hk h hx hu hq egk
  go_enter Try.func19, Try.ntmps19
  go_upto_region 1 with fail
  rw [← HW.out, ← HG.out]
  go_wp2_with fail
  refine hAt.mono ?_
  rintro r w1 ⟨rfl, hb1⟩
  have HM1 := Lib.hid (HM.out.below hb1)
  have HK1 := Lib.hid (HK.out.below hb1 HK.out.lt)
  have HB1 := Lib.hid hb1
  clear hAt hb1 p0 p1 p3
  go_upto_if 23 with fail
  go_cut [5] from 22 to 60 (fun v5 wx => Hid (∃ w7, v5 = .int .i64 k ∧ RMid w B m V L1 wx ∧ Blk wx gk 30 (msgC f e t n st nu ep) ∧ w7 = wx))
  case first =>
    rcases HQ.out with ⟨rfl, rfl⟩ | ⟨rfl, rfl, rfl, rfl⟩
    · go_wp2_with fail
      go_meet
      exact Lib.hid ⟨_, rfl, ⟨V, a, b, c, HM1.out, fun _ h => h, fun _ h => .inl h, Vol.of_below (HB.out.trans (HB1.out.mono HB.out.size))⟩, HK1.out, rfl⟩
    · exfalso
      have := congrArg List.length HOld.out.1
      simp at this
  case rest =>
    obtain ⟨w7, rfl, hMid, hK7, e7⟩ := hcut.out
    subst e7
    obtain ⟨V1, a1, b1, c1, hR, hVV, hV', hvol⟩ := hMid
    obtain ⟨xf, xt, xs, xv, xn⟩ := x
    have hkl := (List.getElem?_eq_some_iff.1 HX.out).1
    obtain ⟨Ab, cb, rfl, hcb, -⟩ := own_slice hR.ss
    obtain ⟨Ac, cc, rfl, hcc, -⟩ := own_slice hR.hs
    obtain ⟨ub, rfl⟩ := own_some hR.ss (by omega)
    obtain ⟨uc, rfl⟩ := own_some hR.hs (by omega)
    have m1 : w7.cell? ⟨m, 1, none⟩ = some (.slice (some ⟨ub, 0, none⟩) L1.length cb) := hR.blk.cell 1
    have m2 : w7.cell? ⟨m, 2, none⟩ = some (.slice (some ⟨uc, 0, none⟩) L1.length cc) := hR.blk.cell 2
    have q5 : w7.cell? ⟨gk, 5, none⟩ = some (.int .i64 st) := hK7.cell 5
    have s0 : w7.cell? ⟨ub, k, none⟩ = some (.int .i64 xs) := (hR.ss.cellAt k (by omega)).trans (by rw [List.getElem?_map, HX.out]; rfl)
    have sf : w7.frozen? ⟨ub, k, none⟩ = false := hR.ss.frozenAt k
    have nbm : (3 : TypeId) ≠ 41 := by decide
    have nbc : (3 : TypeId) ≠ 22 := by decide
    have nmk : (3 : TypeId) ≠ 30 := by decide
    have hv8 : Vol (fun g => g = ub) w7 ((w7.setCell ⟨ub, k, none⟩ (.int .i64 st)).drew) := (Vol.setCell (V := fun g => g = ub) (a := ⟨ub, k, none⟩) (Vol.refl w7) (.inl rfl) _).drew
    have hub : Value.ownBlock (.slice (some ⟨ub, 0, none⟩) L1.length cb) = some ub := rfl
    have hblk8 := blk_vol hR.blk hv8 (fun e => own_blk_ne2 hR.ss hR.blk nbm hub e.symm)
    have hK8 := blk_vol hK7 hv8 (fun e => own_blk_ne2 hR.ss hK7 nmk hub e.symm)
    have hs8 := (hR.ss.stored k (.int .i64 st)).1.drew
    have hh8 := own_vol hR.hs hv8 (fun g hg e => own_ne hR.ss hR.hs nbc hub (by rw [hg, e]))
    have hx8 := own_vol (hR.rows k _ HX.out) hv8 (fun g hg e => hR.apb k _ HX.out g hg (by rw [hub, e]))
    have hkN : (k : Int) < (L1.length : Int) := by omega
    have hk0 : (0 : Int) ≤ (k : Int) := by omega
    have HR := Lib.hid hR
    have HV1 := Lib.hid (And.intro hVV (And.intro hV' hvol))
    have HK7 := Lib.hid hK7
    have HV8 := Lib.hid hv8
    have HBK8 := Lib.hid hblk8
    have HK8 := Lib.hid hK8
    have HS8 := Lib.hid hs8
    have HH8 := Lib.hid hh8
    have HX8 := Lib.hid hx8
    have HKL := Lib.hid hkl
    clear hR hVV hV' hvol hK7 hv8 hblk8 hK8 hs8 hh8 hx8 hkl hub hcut HM1 HK1 HB1 HQ HM hcb hcc nbm nbc nmk
    obtain ⟨N, hN⟩ : ∃ N, N = L1.length := ⟨_, rfl⟩
    rw [← hN] at m1 m2 hkN
    have HN := Lib.hid hN
    clear hN
    go_upto_region 9 with fail
    go_region
    generalize (w7.setCell ⟨ub, k, none⟩ (.int .i64 st)).drew = w8 at *
    have hx8 : w8.ownsRow B 3 1 xv xn.length (ints xn) := HX8.out
    obtain ⟨Ax, cx, rfl, hcx, -⟩ := own_slice hx8
    have r2 : w8.cell? ⟨m, 2, none⟩ = some (.slice (some ⟨uc, 0, none⟩) N cc) := by rw [HN.out]; exact HBK8.out.cell 2
    have c8 : w8.cell? ⟨uc, k, none⟩ = some (.slice Ax xn.length cx) := (HH8.out.cellAt k (by have := HKL.out; omega)).trans (by rw [List.getElem?_map, HX.out]; rfl)
    have q1 : w8.cell? ⟨gk, 1, none⟩ = some (.string f) := HK8.out.cell 1
    have q3 : w8.cell? ⟨gk, 3, none⟩ = some (.string t) := HK8.out.cell 3
    have q6 : w8.cell? ⟨gk, 6, none⟩ = some (.int .i64 nu) := HK8.out.cell 6
    have q7 : w8.cell? ⟨gk, 7, none⟩ = some (.int .i64 ep) := HK8.out.cell 7
    have hn99 : xn.length ≤ 900 := hn9
    clear m1 m2 q5 s0 sf hx8 hn9
    go_upto_region 11 with fail
    rcases Nat.eq_zero_or_pos xn.length with h0 | hpos
    · exact absurd (List.length_eq_zero_iff.1 h0) HOld.out.2
    · clear HOld
      obtain ⟨z, hz⟩ : ∃ z, xn.length = z + 1 := ⟨xn.length - 1, by omega⟩
      obtain ⟨ux, rfl⟩ := own_some HX8.out hpos
      obtain ⟨la, hla⟩ : ∃ la, xn[z]? = some la := ⟨xn[z]'(by omega), List.getElem?_eq_getElem _⟩
      have l8 : w8.cell? ⟨ux, z, none⟩ = some (.int .i64 la) := (HX8.out.cellAt z (by show z < xn.length * 1; omega)).trans (by rw [List.getElem?_map, hla]; rfl)
      rw [hz] at c8 ⊢
      have z1 : IntKind.i64.wrap (z : Int) = z := by rw [IntKind.wrap_i64]; omega
      have z2 : ¬ ((z : Int) + 1 = 0) := by omega
      have z3 : (0 : Int) ≤ (z : Int) := by omega
      have z4 : (z : Int) < (z : Int) + 1 := by omega
      have HZ := Lib.hid hz
      have HLA := Lib.hid hla
      clear hz hla hpos hcx
      have l8d : w8.drew.cell? ⟨ux, z, none⟩ = some (.int .i64 la) := l8
      cases hc : (la == nu) with
      | true =>
        have hq : la = nu := by simpa using hc
        subst hq
        clear hc
        have q6d : w8.drew.cell? ⟨gk, 6, none⟩ = some (.int .i64 la) := q6
        go_region_held3 (fun wa => wa.cell? ⟨ux, z, none⟩ = some (.int .i64 la) ∧ wa.cell? ⟨gk, 6, none⟩ = some (.int .i64 la)) (first | with_reducible assumption | with_reducible exact ⟨l8, q6⟩ | with_reducible exact ⟨l8d, q6d⟩) (fail)
        go_wp2_with fail
        go_ret
        have hT := HR.out.turn (x' := ⟨xf, xt, st, .slice (some ⟨ux, 0, none⟩) xn.length cx, xn⟩) HX.out rfl rfl (HV8.out.mono (fun g e => .inl (by rw [e]; rfl))) (by show w8.ownsRow B _ 1 _ _ (List.map _ (L1.set k _)); rw [List.map_set]; exact HS8.out) (by rw [rhV_same (x' := ⟨xf, xt, st, .slice (some ⟨ux, 0, none⟩) xn.length cx, xn⟩) HX.out rfl]; exact HH8.out) HX8.out (fun g e => .inl e)
        have hfin := RHeard_of (w8 := w8.drew) (P := fun L2 => ∃ v', L2 = L1.set k ⟨xf, xt, st, v', addN xn la⟩) HR.out HV1.out.1 HV1.out.2.1 HV1.out.2.2 (hT.below (Below.refl _ _).drew) (fun g e => .inl e) (fun g e => e.imp id (·.1)) ((HV8.out.mono (fun g e => HR.out.vb g (by rw [e]; rfl))).drew) ⟨_, by rw [addN_same HZ.out HLA.out]⟩ (.cells (ackC f t la ep) 30)
        exact ⟨w8.heap.size, rfl, (Blk.new w8 30 (ackC f t la ep)).drew, hfin⟩
      | false =>
        have hc2 : (la != nu) = true := by simpa [bne] using hc
        have HC := Lib.hid hc
        have q6d : w8.drew.cell? ⟨gk, 6, none⟩ = some (.int .i64 nu) := q6
        go_region_held3 (fun wa => wa.cell? ⟨ux, z, none⟩ = some (.int .i64 la) ∧ wa.cell? ⟨gk, 6, none⟩ = some (.int .i64 nu)) (first | with_reducible assumption | with_reducible exact ⟨l8, q6⟩ | with_reducible exact ⟨l8d, q6d⟩) (fail)
        go_upto_region 12 with fail
        rename_i hh0
        clear hh0
        obtain ⟨i0, hi, hz0, hz1, hz2⟩ := info_parts int_infoM
        obtain ⟨w9, e9⟩ : ∃ x, x = w8.drew := ⟨_, rfl⟩
        rw [← e9]
        have nbm : (3 : TypeId) ≠ 41 := by decide
        have nbc : (3 : TypeId) ≠ 22 := by decide
        have nmk : (3 : TypeId) ≠ 30 := by decide
        have nck : (22 : TypeId) ≠ 30 := by decide
        have ncm : (22 : TypeId) ≠ 41 := by decide
        have hux : (Value.slice (some ⟨ux, 0, none⟩) xn.length cx).ownBlock = some ux := rfl
        have huc : (Value.slice (some ⟨uc, 0, none⟩) L1.length cc).ownBlock = some uc := rfl
        have hX8 : w8.ownsRow B 3 1 (.slice (some ⟨ux, 0, none⟩) xn.length cx) xn.length (ints xn) := HX8.out
        have hxm : ux ≠ m := own_blk_ne2 hX8 HBK8.out nbm hux
        have hxk : ux ≠ gk := own_blk_ne2 hX8 HK8.out nmk hux
        have hcm : uc ≠ m := own_blk_ne2 HH8.out HBK8.out ncm huc
        have hck : uc ≠ gk := own_blk_ne2 HH8.out HK8.out nck huc
        have hxc : uc ≠ ux := fun e => own_ne hX8 HH8.out nbc hux (by rw [huc, e])
        have hBs : Hid (B ≤ w9.heap.size) := Lib.hid (by rw [e9]; exact Nat.le_trans (HR.out.ge m HR.out.vm) (Nat.le_of_lt (Nat.lt_of_lt_of_le HR.out.blk.lt HV8.out.size)))
        have hbk9 : Blk w9 m 41 #[a1, .slice (some ⟨ub, 0, none⟩) L1.length cb, .slice (some ⟨uc, 0, none⟩) L1.length cc] := by rw [e9]; exact HBK8.out.drew
        have hk9 : Blk w9 gk 30 (msgC f e t n st nu ep) := by rw [e9]; exact HK8.out.drew
        have hh9 : w9.ownsRow B 22 1 (.slice (some ⟨uc, 0, none⟩) L1.length cc) L1.length (rhV L1) := by rw [e9]; exact HH8.out.drew
        have c9 : w9.cell? ⟨uc, k, none⟩ = some (.slice (some ⟨ux, 0, none⟩) (z + 1) cx) := by rw [e9]; exact c8
        have r9 : w9.cell? ⟨m, 2, none⟩ = some (.slice (some ⟨uc, 0, none⟩) N cc) := by rw [e9]; exact r2
        have q9 : w9.cell? ⟨gk, 6, none⟩ = some (.int .i64 nu) := by rw [e9]; exact q6
        have hX9 : w9.ownsRow B 3 1 (.slice (some ⟨ux, 0, none⟩) (z + 1) cx) (z + 1) (ints xn) := by rw [e9]; rw [HZ.out] at hX8; exact hX8.drew
        have rd : w9.drew.cell? ⟨m, 2, none⟩ = some (.slice (some ⟨uc, 0, none⟩) N cc) := r9
        have qd : w9.drew.cell? ⟨gk, 6, none⟩ = some (.int .i64 nu) := q9
        have c9a : ∀ o, (w9.alloc o).cell? ⟨uc, k, none⟩ = some (.slice (some ⟨ux, 0, none⟩) (z + 1) cx) := fun o => cell_keep c9 ((Below.refl _ _).alloc (Nat.le_refl _) _)
        have r9a : ∀ o, (w9.alloc o).cell? ⟨m, 2, none⟩ = some (.slice (some ⟨uc, 0, none⟩) N cc) := fun o => cell_keep r9 ((Below.refl _ _).alloc (Nat.le_refl _) _)
        have q9a : ∀ o, (w9.alloc o).cell? ⟨gk, 6, none⟩ = some (.int .i64 nu) := fun o => cell_keep q9 ((Below.refl _ _).alloc (Nat.le_refl _) _)
        have rad : ∀ o, (w9.alloc o).drew.cell? ⟨m, 2, none⟩ = some (.slice (some ⟨uc, 0, none⟩) N cc) := r9a
        have qad : ∀ o, (w9.alloc o).drew.cell? ⟨gk, 6, none⟩ = some (.int .i64 nu) := q9a
        have HN2 := Lib.hid (And.intro hxm (And.intro hxk (And.intro hcm (And.intro hck hxc))))
        have HXZ := Lib.hid hX9
        have HBK9 := Lib.hid hbk9
        have HK9 := Lib.hid hk9
        have HH9 := Lib.hid hh9
        have HE9 := Lib.hid e9
        have hz9 : z + 1 ≤ 900 := by have := HZ.out; omega
        clear l8d q6d hX8 hX9 hux huc hxm hxk hcm hck hxc nbm nbc nmk nck ncm z1 z2 z4 l8 hc hc2 hbk9 hk9 hh9 e9 r2 c8 q1 q3 q6 q7
        refine wp_region_noPanic ?_
        refine wp_region_heldL (S0 := fun wa => wa.cell? ⟨m, 2, none⟩ = some (.slice (some ⟨uc, 0, none⟩) N cc) ∧ wa.cell? ⟨gk, 6, none⟩ = some (.int .i64 nu)) (ws := [(17, fun wa => wa.cell? ⟨uc, k, none⟩ = some (.slice (some ⟨ux, 0, none⟩) (z + 1) cx))]) (by kernel_rfl) (fun hc0 => ?_)
        have hnosel := noSel_of (by kernel_rfl) hc0
        have one : ∀ {l : Array Bool} {wa : World}, wa.cell? ⟨uc, k, none⟩ = some (.slice (some ⟨ux, 0, none⟩) (z + 1) cx) → ∀ p ∈ [((17 : Nat), fun wa : World => wa.cell? ⟨uc, k, none⟩ = some (.slice (some ⟨ux, 0, none⟩) (z + 1) cx))], l.getD p.1 true = false → p.2 wa := fun {l wa} h p hp _ => by
          rw [List.mem_singleton.1 hp]
          exact h
        refine wpAnyL_take (i := 0) (oi := ?oj1) (v := ?vj1) ?hj1 hnosel (by kernel_rfl) (by kernel_rfl) hc0 (by kernel_rfl) (fun _ _ _ h => h) ?hz1 ⟨⟨r9, q9⟩, one c9⟩ (fun hd1 => ?resj1)
        case hj1 => (simp only [List.getElem?_toArray, List.getElem?_cons_zero]; try rfl)
        case hz1 => (refine Or.inl ⟨by rfl, ?_⟩; intro w hSw; go_simp; (try with_reducible rfl))
        try simp only [Act.put, List.setIfInBounds_toArray, List.set_cons_zero, List.set_cons_succ]
        refine wpAnyL_take (i := 1) (oi := ?oj2) (v := ?vj2) ?hj2 hnosel (by kernel_rfl) (by kernel_rfl) hd1 (by kernel_rfl) (fun _ _ _ h => h) ?hz2 ⟨⟨r9, q9⟩, one c9⟩ (fun hd2 => ?resj2)
        case hj2 => (simp only [List.getElem?_toArray, List.getElem?_cons_succ, List.getElem?_cons_zero]; try rfl)
        case hz2 => (refine Or.inl ⟨by rfl, ?_⟩; intro w hSw; go_simp; (try with_reducible rfl))
        try simp only [Act.put, List.setIfInBounds_toArray, List.set_cons_zero, List.set_cons_succ]
        refine wpAnyL_take (i := 2) (oi := ?oj3) (v := ?vj3) ?hj3 hnosel (by kernel_rfl) (by kernel_rfl) hd2 (by kernel_rfl) (fun _ _ _ h => h) ?hz3 ⟨⟨r9, q9⟩, one c9⟩ (fun hd3 => ?resj3)
        case hj3 => (simp only [List.getElem?_toArray, List.getElem?_cons_succ, List.getElem?_cons_zero]; try rfl)
        case hz3 => (refine Or.inl ⟨by rfl, ?_⟩; intro w hSw; go_simp; (try with_reducible rfl))
        try simp only [Act.put, List.setIfInBounds_toArray, List.set_cons_zero, List.set_cons_succ]
        refine wpAnyL_take (i := 3) (oi := ?oj4) (v := ?vj4) ?hj4 hnosel (by kernel_rfl) (by kernel_rfl) hd3 (by kernel_rfl) (fun _ _ _ h => h) ?hz4 ⟨⟨r9, q9⟩, one c9⟩ (fun hd4 => ?resj4)
        case hj4 => (simp only [List.getElem?_toArray, List.getElem?_cons_succ, List.getElem?_cons_zero]; try rfl)
        case hz4 => (refine Or.inl ⟨by rfl, ?_⟩; intro w hSw; have q := hSw.1.1; (try dsimp only at q); go_simp; (try with_reducible rfl))
        try simp only [Act.put, List.setIfInBounds_toArray, List.set_cons_zero, List.set_cons_succ]
        refine wpAnyL_take (i := 4) (oi := ?oj5) (v := ?vj5) ?hj5 hnosel (by kernel_rfl) (by kernel_rfl) hd4 (by kernel_rfl) (fun _ _ _ h => h) ?hz5 ⟨⟨r9, q9⟩, one c9⟩ (fun hd5 => ?resj5)
        case hj5 => (simp only [List.getElem?_toArray, List.getElem?_cons_succ, List.getElem?_cons_zero]; try rfl)
        case hz5 => (refine Or.inl ⟨by rfl, ?_⟩; intro w hSw; go_simp; (try with_reducible rfl))
        try simp only [Act.put, List.setIfInBounds_toArray, List.set_cons_zero, List.set_cons_succ]
        refine wpAnyL_take (i := 5) (oi := ?oj6) (v := ?vj6) ?hj6 hnosel (by kernel_rfl) (by kernel_rfl) hd5 (by kernel_rfl) (fun _ _ _ h => h) ?hz6 ⟨⟨r9, q9⟩, one c9⟩ (fun hd6 => ?resj6)
        case hj6 => (simp only [List.getElem?_toArray, List.getElem?_cons_succ, List.getElem?_cons_zero]; try rfl)
        case hz6 => (refine Or.inl ⟨by rfl, ?_⟩; intro w hSw; go_simp; (try with_reducible rfl))
        try simp only [Act.put, List.setIfInBounds_toArray, List.set_cons_zero, List.set_cons_succ]
        refine wpAnyL_take (i := 6) (oi := ?oj7) (v := ?vj7) ?hj7 hnosel (by kernel_rfl) (by kernel_rfl) hd6 (by kernel_rfl) (fun _ _ _ h => h) ?hz7 ⟨⟨r9, q9⟩, one c9⟩ (fun hd7 => ?resj7)
        case hj7 => (simp only [List.getElem?_toArray, List.getElem?_cons_succ, List.getElem?_cons_zero]; try rfl)
        case hz7 => (refine Or.inl ⟨by rfl, ?_⟩; intro w hSw; go_simp; (try with_reducible rfl))
        try simp only [Act.put, List.setIfInBounds_toArray, List.set_cons_zero, List.set_cons_succ]
        refine wpAnyL_take (i := 7) (oi := ?oj8) (v := ?vj8) ?hj8 hnosel (by kernel_rfl) (by kernel_rfl) hd7 (by kernel_rfl) (fun _ _ _ h => h) ?hz8 ⟨⟨r9, q9⟩, one c9⟩ (fun hd8 => ?resj8)
        case hj8 => (simp only [List.getElem?_toArray, List.getElem?_cons_succ, List.getElem?_cons_zero]; try rfl)
        case hz8 => (refine Or.inl ⟨by rfl, ?_⟩; intro w hSw; go_simp; (try with_reducible rfl))
        try simp only [Act.put, List.setIfInBounds_toArray, List.set_cons_zero, List.set_cons_succ]
        refine wpAnyL_take (i := 8) (oi := ?oj9) (v := ?vj9) ?hj9 hnosel (by kernel_rfl) (by kernel_rfl) hd8 (by kernel_rfl) (fun _ _ _ h => h) ?hz9 ⟨⟨r9, q9⟩, one c9⟩ (fun hd9 => ?resj9)
        case hj9 => (simp only [List.getElem?_toArray, List.getElem?_cons_succ, List.getElem?_cons_zero]; try rfl)
        case hz9 => (refine Or.inl ⟨by rfl, ?_⟩; intro w hSw; have q := hSw.1.1; (try dsimp only at q); go_simp; (try with_reducible rfl))
        try simp only [Act.put, List.setIfInBounds_toArray, List.set_cons_zero, List.set_cons_succ]
        refine wpAnyL_take (i := 9) (oi := ?oj10) (v := ?vj10) ?hj10 hnosel (by kernel_rfl) (by kernel_rfl) hd9 (by kernel_rfl) (fun _ _ _ h => h) ?hz10 ⟨⟨r9, q9⟩, one c9⟩ (fun hd10 => ?resj10)
        case hj10 => (simp only [List.getElem?_toArray, List.getElem?_cons_succ, List.getElem?_cons_zero]; try rfl)
        case hz10 => (refine Or.inl ⟨by rfl, ?_⟩; intro w hSw; go_simp; (try with_reducible rfl))
        try simp only [Act.put, List.setIfInBounds_toArray, List.set_cons_zero, List.set_cons_succ]
        refine wpAnyL_take (i := 10) (oi := ?oj11) (v := ?vj11) ?hj11 hnosel (by kernel_rfl) (by kernel_rfl) hd10 (by kernel_rfl) (fun _ _ _ h => h) ?hz11 ⟨⟨r9, q9⟩, one c9⟩ (fun hd11 => ?resj11)
        case hj11 => (simp only [List.getElem?_toArray, List.getElem?_cons_succ, List.getElem?_cons_zero]; try rfl)
        case hz11 => (refine Or.inl ⟨by rfl, ?_⟩; intro w hSw; go_simp; (try with_reducible rfl))
        try simp only [Act.put, List.setIfInBounds_toArray, List.set_cons_zero, List.set_cons_succ]
        refine wpAnyL_take (i := 11) (oi := ?oj12) (v := ?vj12) ?hj12 hnosel (by kernel_rfl) (by kernel_rfl) hd11 (by kernel_rfl) (fun _ _ _ h => h) ?hz12 ⟨⟨r9, q9⟩, one c9⟩ (fun hd12 => ?resj12)
        case hj12 => (simp only [List.getElem?_toArray, List.getElem?_cons_succ, List.getElem?_cons_zero]; try rfl)
        case hz12 => (refine Or.inl ⟨by rfl, ?_⟩; intro w hSw; have q := hSw.2 _ (List.Mem.head _) (by kernel_rfl); (try dsimp only at q); go_simp; (try with_reducible rfl))
        try simp only [Act.put, List.setIfInBounds_toArray, List.set_cons_zero, List.set_cons_succ]
        refine wpAnyL_take (i := 12) (oi := ?oj13) (v := ?vj13) ?hj13 hnosel (by kernel_rfl) (by kernel_rfl) hd12 (by kernel_rfl) (fun _ _ _ h => h) ?hz13 ⟨⟨r9, q9⟩, one c9⟩ (fun hd13 => ?resj13)
        case hj13 => (simp only [List.getElem?_toArray, List.getElem?_cons_succ, List.getElem?_cons_zero]; try rfl)
        case hz13 => (refine Or.inl ⟨by rfl, ?_⟩; intro w hSw; go_simp; (try with_reducible rfl))
        try simp only [Act.put, List.setIfInBounds_toArray, List.set_cons_zero, List.set_cons_succ]
        refine wpAnyL_take (i := 13) (oi := ?oj14) (v := ?vj14) ?hj14 hnosel (by kernel_rfl) (by kernel_rfl) hd13 (by kernel_rfl) (fun _ _ _ h => h) ?hz14 ⟨⟨r9, q9⟩, one c9⟩ (fun hd14 => ?resj14)
        case hj14 => (simp only [List.getElem?_toArray, List.getElem?_cons_succ, List.getElem?_cons_zero]; try rfl)
        case hz14 => (refine Or.inl ⟨by rfl, ?_⟩; intro w hSw; have q := hSw.1.2; (try dsimp only at q); go_simp; (try with_reducible rfl))
        try simp only [Act.put, List.setIfInBounds_toArray, List.set_cons_zero, List.set_cons_succ]
        refine wpAnyL_ready (rs := [14]) hd14 (by kernel_rfl) (by simp) ?_
        refine AllReadyL.cons (o := ?oj15) ?hj15 (fun K hK => ?sj15) AllReadyL.nil
        case hj15 => (simp only [List.getElem?_toArray, List.getElem?_cons_succ, List.getElem?_cons_zero]; try rfl)
        go_simp
        refine hK.out _ _ ⟨⟨r9a _, q9a _⟩, one (c9a _)⟩ (fun hd15 => ?rj15)
        clear hK K
        try simp only [Act.put, List.setIfInBounds_toArray, List.set_cons_zero, List.set_cons_succ]
        refine wpAnyL_ready (rs := [15]) hd15 (by kernel_rfl) (by simp) ?_
        refine AllReadyL.cons (o := ?oj16) ?hj16 (fun K hK => ?sj16) AllReadyL.nil
        case hj16 => (simp only [List.getElem?_toArray, List.getElem?_cons_succ, List.getElem?_cons_zero]; try rfl)
        refine step_append_any _ rfl (.tmp 101) (.tmp 104) 22 rfl B 3 i0 (.int .i64 0) 1 8 Try.underlying22 hi hz0 hz1 hz2 rfl (by decide) (.slice (some ⟨ux, 0, none⟩) (z + 1) cx) (z + 1) (ints xn) (by first | (simp [Act.eval]; done) | (simp [Act.eval, Act.put]; done)) (HXZ.out.alloc _).drew (w9.heap.size + 1) (some ⟨w9.heap.size, 0, none⟩) 1 1 [.int .i64 nu] (by first | (simp [Act.eval]; done) | (simp [Act.eval, Act.put]; done)) (by have h := reads_one w9 (.int .i64 nu) 3; rw [show (w9.alloc (.cells #[.int .i64 nu] 3)).heap.size = w9.heap.size + 1 by simp] at h; exact h) (by simp [Value.oneCell']) (by simp only [maxLen]; omega) (by omega) (by have := hBs.out; simp; omega) ?_
        intro v4 w4 hown4 hg4 hn4
        obtain ⟨A4, c4, rfl, hc4, -⟩ := own_slice hown4
        have hb4 := (HBK9.out.alloc (.cells #[.int .i64 nu] 3)).drew.grown hg4 (fun e => HN2.out.1 (by injection e with e; exact e.symm))
        have hk4 := (HK9.out.alloc (.cells #[.int .i64 nu] 3)).drew.grown hg4 (fun e => HN2.out.2.1 (by injection e with e; exact e.symm))
        have hh4 : w4.ownsRow B 22 1 (.slice (some ⟨uc, 0, none⟩) L1.length cc) L1.length (rhV L1) := (HH9.out.alloc _).drew.kept hg4 (.inr (fun e => HN2.out.2.2.2.2 (by simpa [Value.ownBlock] using e)))
        have t2 : w4.cell? ⟨m, 2, none⟩ = some (.slice (some ⟨uc, 0, none⟩) N cc) := (by rw [HN.out]; exact hb4.cell 2)
        have t6 : w4.cell? ⟨gk, 6, none⟩ = some (.int .i64 nu) := hk4.cell 6
        have t2s : ∀ v, (w4.setCell ⟨uc, k, none⟩ v).cell? ⟨m, 2, none⟩ = some (.slice (some ⟨uc, 0, none⟩) N cc) := fun v => (by rw [HN.out]; exact (hb4.far (p := ⟨uc, k, none⟩) (fun e => HN2.out.2.2.1 e.symm) v).cell 2)
        have t6s : ∀ v, (w4.setCell ⟨uc, k, none⟩ v).cell? ⟨gk, 6, none⟩ = some (.int .i64 nu) := fun v => (hk4.far (p := ⟨uc, k, none⟩) (fun e => HN2.out.2.2.2.1 e.symm) v).cell 6
        have tc : w4.cell? ⟨uc, k, none⟩ = some (.slice (some ⟨ux, 0, none⟩) xn.length cx) := (hh4.cellAt k (by have := HKL.out; omega)).trans (by rw [List.getElem?_map, HX.out]; rfl)
        have tf : w4.frozen? ⟨uc, k, none⟩ = false := hh4.frozenAt k
        refine hK.out _ _ ⟨⟨t2, t6⟩, one (by rw [← HZ.out]; exact tc)⟩ (fun hd16 => ?rj16)
        clear hK K
        try simp only [Act.put, List.setIfInBounds_toArray, List.set_cons_zero, List.set_cons_succ]
        refine wpAnyL_take (i := 16) (oi := ?oj17) (v := ?vj17) ?hj17 hnosel (by kernel_rfl) (by kernel_rfl) hd16 (by kernel_rfl) (fun _ _ _ h => h) ?hz17 ⟨⟨t2, t6⟩, one (by rw [← HZ.out]; exact tc)⟩ (fun hd17 => ?resj17)
        case hj17 => (simp only [List.getElem?_toArray, List.getElem?_cons_succ, List.getElem?_cons_zero]; try rfl)
        case hz17 => (refine Or.inl ⟨by rfl, ?_⟩; intro w hSw; go_simp; (try with_reducible rfl))
        try simp only [Act.put, List.setIfInBounds_toArray, List.set_cons_zero, List.set_cons_succ]
        refine wpAnyL_ready (rs := [17]) hd17 (by kernel_rfl) (by simp) ?_
        refine AllReadyL.cons (o := ?oj18) ?hj18 (fun K hK => ?sj18) AllReadyL.nil
        case hj18 => (simp only [List.getElem?_toArray, List.getElem?_cons_succ, List.getElem?_cons_zero]; try rfl)
        go_simp
        refine hK.out _ _ ⟨⟨t2s _, t6s _⟩, fun p hp hl => ?hq18⟩ (fun hd18 => ?rj18)
        case hq18 => (exfalso; rw [List.mem_singleton.1 hp] at hl; revert hl; simp)
        clear hK K
        try simp only [Act.put, List.setIfInBounds_toArray, List.set_cons_zero, List.set_cons_succ]
        refine wpAnyL_done (by kernel_rfl) ?_ _
        refine NoPanic.normal ?_
        clear one
        have hkf := fun v => hk4.far (p := ⟨uc, k, none⟩) (fun e => HN2.out.2.2.2.1 e.symm) v
        have k1 : ∀ v, (w4.setCell ⟨uc, k, none⟩ v).cell? ⟨gk, 1, none⟩ = some (.string f) := fun v => (hkf v).cell 1
        have k3 : ∀ v, (w4.setCell ⟨uc, k, none⟩ v).cell? ⟨gk, 3, none⟩ = some (.string t) := fun v => (hkf v).cell 3
        have k7 : ∀ v, (w4.setCell ⟨uc, k, none⟩ v).cell? ⟨gk, 7, none⟩ = some (.int .i64 ep) := fun v => (hkf v).cell 7
        have HK4 := Lib.hid hk4
        have HB4 := Lib.hid hb4
        have HO4 := Lib.hid hown4
        have HH4 := Lib.hid hh4
        have HG4 := Lib.hid hg4
        have HV4 := Lib.hid hn4
        clear hkf hk4 hb4 hown4 hh4 hg4 hn4 t2 t2s tc tf t6 c9 c9a r9 r9a q9 q9a rd qd rad qad
        go_wp2_with fail
        go_ret
        have nbc : (3 : TypeId) ≠ 22 := by decide
        have huc : (Value.slice (some ⟨uc, 0, none⟩) L1.length cc).ownBlock = some uc := rfl
        have hapb : ub ≠ ux := fun e => HR.out.apb k _ HX.out ux rfl (by rw [← e]; rfl)
        have hv9 : Vol (fun g => (Value.slice (some ⟨ub, 0, none⟩) L1.length cb).ownBlock = some g ∨ (Value.slice (some ⟨uc, 0, none⟩) L1.length cc).ownBlock = some g ∨ (Value.slice (some ⟨ux, 0, none⟩) xn.length cx).ownBlock = some g) w7 w9 := by
          rw [HE9.out]
          exact (HV8.out.mono (fun g e => .inl (by rw [e]; rfl))).drew
        have hv4 := ((hv9.alloc (.cells #[.int .i64 nu] 3)).drew.grown HG4.out (fun g e => .inl (.inr (.inr (show (Value.slice (some ⟨ux, 0, none⟩) (z + 1) cx).ownBlock = some g from e))))).setCell (a := ⟨uc, k, none⟩) (.inl (.inr (.inl rfl))) (.slice A4 (z + 1 + 1) c4)
        have hfar : Vol (fun g => g = uc) w4 (w4.setCell ⟨uc, k, none⟩ (.slice A4 (z + 1 + 1) c4)) := Vol.setCell (V := fun g => g = uc) (a := ⟨uc, k, none⟩) (Vol.refl w4) (.inl rfl) _
        have hs4 : w4.ownsRow B 3 1 (.slice (some ⟨ub, 0, none⟩) L1.length cb) L1.length ((rsV L1).set k (.int .i64 st)) := by
          have h9 : w9.ownsRow B 3 1 (.slice (some ⟨ub, 0, none⟩) L1.length cb) L1.length ((rsV L1).set k (.int .i64 st)) := by rw [HE9.out]; exact HS8.out.drew
          exact (h9.alloc _).drew.kept HG4.out (.inr (fun e => hapb (by simpa [Value.ownBlock] using e)))
        have hs5 := own_vol hs4 hfar (fun g e e2 => own_ne hs4 HH4.out nbc e (by rw [huc, e2]))
        have ho5 := own_vol HO4.out hfar (fun g e e2 => own_ne HO4.out HH4.out nbc e (by rw [huc, e2]))
        have hh5 := (HH4.out.stored k (.slice A4 (z + 1 + 1) c4)).1
        have hT := HR.out.turn (x' := ⟨xf, xt, st, .slice A4 (z + 1 + 1) c4, xn ++ [nu]⟩) HX.out rfl rfl hv4 (by show World.ownsRow _ B _ 1 _ _ (List.map _ (L1.set k _)); rw [List.map_set]; exact hs5) (by show World.ownsRow _ B _ 1 _ _ (List.map _ (L1.set k _)); rw [List.map_set]; exact hh5) (by
          have e1 : ints (xn ++ [nu]) = ints xn ++ [.int .i64 nu] := by simp
          show World.ownsRow _ B _ 1 _ (xn ++ [nu]).length (ints (xn ++ [nu]))
          rw [e1, List.length_append, HZ.out]
          exact ho5) (fun g e => by
          rcases HV4.out with e2 | e2
          · exact .inl (by rw [← show (Value.slice A4 (z + 1 + 1) c4).ownBlock = some g from e, e2]; rfl)
          · right
            rw [show (Value.slice A4 (z + 1 + 1) c4).ownBlock = some g from e] at e2
            injection e2 with e2
            have := hv9.size
            rw [e2]
            simp
            omega)
        have hfin := RHeard_of (w8 := w4.setCell ⟨uc, k, none⟩ (.slice A4 (z + 1 + 1) c4)) (P := fun L2 => ∃ v', L2 = L1.set k ⟨xf, xt, st, v', addN xn nu⟩) HR.out HV1.out.1 HV1.out.2.1 HV1.out.2.2 hT (fun g e => .inl e) (fun g e => e.imp id (·.1)) (hv4.mono (fun g e => by
          rcases e with e | e | e
          · exact HR.out.vb g e
          · exact HR.out.vc g e
          · exact HR.out.vx k _ HX.out g e)) ⟨_, by rw [addN_more HZ.out HLA.out HC.out]⟩ (.cells (ackC f t nu ep) 30)
        have hsz : (w4.setCell ⟨uc, k, none⟩ (.slice A4 (z + 1 + 1) c4)).heap.size = w4.heap.size := by simp [World.setCell]
        have hbk := Blk.new (w4.setCell ⟨uc, k, none⟩ (.slice A4 (z + 1 + 1) c4)) 30 (ackC f t nu ep)
        rw [hsz] at hbk hfin
        exact ⟨_, rfl, hbk, hfin⟩
end
end Go.Proofs.Ytiflhfhonhbcpaa.Mas
