/- The walk of MasterApart: the Go text returns true, and writes nothing that was there. -/
import Derived.Test.YtacmmkpcnpnjoaaMAK
import Derived.Test.YtacmmkpcnpnjoaaAllSum
import Derived.Deep.CutRange
import Derived.Deep.RegionHeld3
import Derived.Deep.DeepCutAuto
import Derived.Deep.CutBlock
import Derived.Lib.Builder
import Derived.Deep.RegionLaw
import Derived.IntWalk
import Derived.StillTailTactics
import Derived.Test.YtacmmkpcnpnjoaaSameInt
namespace Go.Proofs.Ytacmmkpcnpnjoaa.masterApart
open Go.ChangeShapes Go.WideShapes Go.ChangeAt Go.RowKit
set_option linter.unusedVariables false
set_option maxRecDepth 100000
open Go.Proofs.Ytacmmkpcnpnjoaa.Mas Go.Proofs.Ytacmmkpcnpnjoaa.Crw
theorem wkk (w : World) : Calls Try.prog 19 #[] w fun e w' => e = .returned (.bool true) ∧ Below w.heap.size w w' := wakes_19.2.2.2 w
/-- The master, and the law's own two maps. -/
structure ApI (w wr : World) (m mb sb cb : Nat) (V : Nat → Prop) (R : List Tk) (i : Nat) : Prop where
  ms : MsP wr w.heap.size m mb V R
  st : MapAt wr sb (R.map (en (·.st)))
  cn : MapS wr cb (R.map (en cnt))
  sv : ¬ V sb
  cv : ¬ V cb
  ne : sb ≠ cb
  ge : w.heap.size ≤ sb ∧ w.heap.size ≤ cb
  sq : Sq R i
  bel : Below w.heap.size w wr
theorem ApI.below {w wr w2 : World} {m mb sb cb : Nat} {V : Nat → Prop} {R : List Tk} {i : Nat} (h : ApI w wr m mb sb cb V R i) (hb : Below wr.heap.size wr w2) : ApI w w2 m mb sb cb V R i :=
  ⟨h.ms.below hb, h.st.keep (hb.block _ h.st.lt), h.cn.keep (hb.block _ h.cn.at.lt), h.sv, h.cv, h.ne, h.ge, h.sq, h.bel.trans (hb.mono h.bel.size)⟩
theorem bel_vol {w w1 w2 : World} {U : Nat → Prop} (h : Below w.heap.size w w1) (hv : Vol U w1 w2) (hU : ∀ b, U b → w.heap.size ≤ b) : Below w.heap.size w w2 :=
  ⟨hv.os.trans h.os, hv.tape.trans h.tape, hv.output.trans h.output, Nat.le_trans h.size hv.size, fun b hb => (hv.block b (Nat.lt_of_lt_of_le hb h.size) (fun e => by have := hU b e; omega)).trans (h.block b hb)⟩
set_option maxHeartbeats 80000000 in
theorem walk (A0 : Option Addr) (n0 c0 : Nat) (x0 : List Int) (A1 : Option Addr) (n1 c1 : Nat) (x1 : List Int) (w : World) (b0 : IntRow .i64 w A0 n0 c0 x0) (b1 : IntRow .i64 w A1 n1 c1 x1) :
    Calls Try.prog 4 #[.slice A0 n0 c0, .slice A1 n1 c1] w fun e w' => e = .returned (.bool true) ∧ Below w.heap.size w w' := by
  obtain ⟨hn0, hc0, hx0, hr0, hw0⟩ := b0
  obtain ⟨hn1, hc1, hx1, hr1, hw1⟩ := b1
  have hmm := @run_makeMap Try.prog
  have HR0 := Lib.hid hr0
  have HX0 := Lib.hid hx0
  have HW0 := Lib.hid hw0
  have HR1 := Lib.hid hr1
  have HX1 := Lib.hid hx1
  have HW1 := Lib.hid hw1
  clear hr0 hw0 hx0 hr1 hw1 hx1
  go_enter Try.func4, Try.ntmps4
  go_wp2_with fail
  refine (MNew _).mono ?_
  rintro e w1 ⟨m, mb, V, rfl, hM, hb1⟩
  have HM := Lib.hid hM
  have HB1 := Lib.hid hb1
  clear hM hb1
  go_wp2_with fail
  obtain ⟨sb, hsb⟩ : ∃ sb, sb = w1.heap.size := ⟨_, rfl⟩
  obtain ⟨cb, hcb⟩ : ∃ cb, cb = w1.heap.size + 1 := ⟨_, rfl⟩
  have hI0 : ApI w ((w1.alloc (.map #[] 0)).alloc (.map #[] 0)) m mb sb cb V [] 0 := by
    have hb2 : Below w1.heap.size w1 ((w1.alloc (.map #[] 0)).alloc (.map #[] 0)) := ((Below.refl _ _).alloc (Nat.le_refl _) _).alloc (by simp) _
    refine ⟨HM.out.below hb2, ?_, ?_, fun e => ?_, fun e => ?_, by omega, ⟨?_, ?_⟩, ⟨Nat.le_refl _, fun k x h => by simp at h⟩, HB1.out.trans (hb2.mono HB1.out.size)⟩
    · rw [hsb]
      exact (MapAt.made w1).keep (Below.heap_alloc _ _ _ (by simp))
    · have := MapS.made (w1.alloc (.map #[] 0))
      rw [hcb]
      simpa using this
    · have := HM.out.lt _ e; omega
    · have := HM.out.lt _ e; omega
    · have := HB1.out.size; omega
    · have := HB1.out.size; omega
  have HI0 := Lib.hid hI0
  have hcb2 : sb + 1 = cb := by omega
  simp only [← hsb]
  simp only [hcb2]
  clear hI0 hsb hcb hcb2 HM HB1 hmm
  go_loopw [8] (fun vi wr => Hid (∃ (i : Nat) (V : Nat → Prop) (R : List Tk), vi = .int .i64 i ∧ i ≤ 24 ∧ ApI w wr m mb sb cb V R i ∧ ∃ w7, w7 = wr)) (fun vi _ => 24 - (intOf vi).toNat)
  case atStart => exact Lib.hid ⟨0, V, [], rfl, by omega, HI0.out, _, rfl⟩
  case round =>
    obtain ⟨i, V1, R, rfl, hi, hI, wr, hwr⟩ := hrel.out
    subst hwr
    clear hrel HI0
    have HI := Lib.hid hI
    clear hI
    by_cases hall : (i : Int) < n0 ∧ (i : Int) < n1 ∧ (i : Int) < 24
    · obtain ⟨h1, h2, h3⟩ := hall
      have hR0 : Reads wr w.heap.size 1 A0 n0 (x0.map (Value.int .i64)) := HR0.out.below HI.out.bel
      have hR1 : Reads wr w.heap.size 1 A1 n1 (x1.map (Value.int .i64)) := HR1.out.below HI.out.bel
      obtain ⟨ad, x, rfl, hx, hcx⟩ := ints_atI hR0 (by omega : i < n0)
      obtain ⟨ad1, y, rfl, hy, hcy⟩ := ints_atI hR1 (by omega : i < n1)
      have hbx := bounds_i64 (HW0.out x (List.mem_of_getElem? hx))
      have hby := bounds_i64 (HW1.out y (List.mem_of_getElem? hy))
      clear hcy hR1
      have HR := Lib.hid hR0
      have HX := Lib.hid hx
      have HY := Lib.hid hy
      clear hR0 hx hcx hy
      go_upto_region 9 with fail
      obtain ⟨T, hT⟩ : ∃ T, T = taskB (x % 8) := ⟨_, rfl⟩
      go_cut [9] from 37 to 81 (fun vk wx => Hid (∃ (gk : Nat), vk = .pointer (some ⟨gk, 0, none⟩) ∧ wr.heap.size ≤ gk ∧ KeyB wx gk (fB (keyF x)) T ∧ Below wr.heap.size wr wx ∧ ∃ w9, w9 = wx))
      case first =>
        letI : Toks := ⟨fun k => x0.getD k 0⟩
        have tk : ∀ k, k ≤ i → Toks.A k = x0.getD k 0 := fun k hk => Toks.A_low (by omega)
        obtain ⟨el, hsp, sim⟩ := sim_row HR.out (by omega) tk
        refine piece_or [39, 40, 41, 42, 43, 44, 45, 46, 47, 48, 49, 50, 51, 52, 53, 9] (fun f w' => ∃ gk, f 9 = .pointer (some ⟨gk, 0, none⟩) ∧ wr.heap.size ≤ gk ∧ KeyB w' gk (fB (keyF x)) T ∧ Below wr.heap.size wr w') ?_ ?_
        · rintro f w' ⟨gk, v9, hge, hkb, hb⟩
          simp only [List.foldl_cons, List.foldl_nil, Act.put, List.setIfInBounds_toArray, List.set_cons_zero, List.set_cons_succ, v9]
          go_wp2_with fail
          go_meet
          case rel => exact Lib.hid ⟨gk, rfl, hge, hkb, hb, _, rfl⟩
        · intro hq
          have hk : keyF x = 0 ∨ keyF x = 1 := by unfold keyF; omega
          have he : i = 0 ∨ i = 1 ∨ i = 2 ∨ i = 3 ∨ i = 4 ∨ i = 5 ∨ i = 6 ∨ i = 7 ∨ i = 8 ∨ i = 9 ∨ i = 10 ∨ i = 11 ∨ i = 12 ∨ i = 13 ∨ i = 14 ∨ i = 15 ∨ i = 16 ∨ i = 17 ∨ i = 18 ∨ i = 19 ∨ i = 20 ∨ i = 21 ∨ i = 22 ∨ i = 23 := by omega
          as_aux_lemma =>
            rcases he with he | he | he | he | he | he | he | he | he | he | he | he | he | he | he | he | he | he | he | he | he | he | he | he
            · have hM : ∃ M, n0 = M + 1 := ⟨n0 - 1, by omega⟩
              obtain ⟨M, hM⟩ := hM
              have hA := Toks.A_low (k := 0) (by decide)
              have hTk : Toks.A 0 = x := by rw [hA]; show x0.getD 0 0 = x; rw [List.getD_eq_getElem?_getD, ← he, HX.out]; rfl
              rcases hk with hk | hk
              · have hcfg : CfgOk Try.prog (cfgK9 0 0 T) := by rw [hT]; exact cfgK9_ok (by decide) hTk hbx hk
                refine piece_runH (okF := cfgK9 0 0 T) hcfg mixed 50 (ρ := rowR ad) (h := rowH 0 el) [(0, .slice (some ⟨0, 0, none⟩) (M + 1) c0), (8, .int .i64 0)] [(9, .pointer (some ⟨2, 0, none⟩))] [(2, ⟨[.string ⟨#[102]⟩, .string T], 28, 0, 2⟩)] 128 [39, 40, 41, 42, 43, 44, 45, 46, 47, 48, 49, 50, 51, 52, 53, 9] (fun M hM => by rw [← he]; exact sim M hM) rfl rfl (fun p hp => by
                  simp only [List.mem_cons, List.not_mem_nil, or_false] at hp
                  rcases hp with rfl | rfl
                  · exact row_rel hsp hM hn0
                  · exact row_at he) (by as_aux_lemma => kernel_rfl) (by as_aux_lemma => kernel_rfl) (by as_aux_lemma => kernel_rfl) ?_
                rintro f w' ⟨M', ρ', h', E, S', hv, ho⟩
                obtain ⟨g, e9, hge, hkb⟩ := box_of E S' row_ro (k := 2) (f := ⟨#[102]⟩) (t := T) rfl (ho (2, ⟨[.string ⟨#[102]⟩, .string T], 28, 0, 2⟩) (List.mem_singleton.2 rfl)) (hv (9, .pointer (some ⟨2, 0, none⟩)) (List.mem_singleton.2 rfl))
                exact hq f w' ⟨g, e9, hge, by rw [hk]; exact hkb, E.ro_below row_ro⟩
              · have hcfg : CfgOk Try.prog (cfgK9 0 1 T) := by rw [hT]; exact cfgK9_ok (by decide) hTk hbx hk
                refine piece_runH (okF := cfgK9 0 1 T) hcfg mixed 50 (ρ := rowR ad) (h := rowH 0 el) [(0, .slice (some ⟨0, 0, none⟩) (M + 1) c0), (8, .int .i64 0)] [(9, .pointer (some ⟨2, 0, none⟩))] [(2, ⟨[.string ⟨#[103]⟩, .string T], 28, 0, 2⟩)] 128 [39, 40, 41, 42, 43, 44, 45, 46, 47, 48, 49, 50, 51, 52, 53, 9] (fun M hM => by rw [← he]; exact sim M hM) rfl rfl (fun p hp => by
                  simp only [List.mem_cons, List.not_mem_nil, or_false] at hp
                  rcases hp with rfl | rfl
                  · exact row_rel hsp hM hn0
                  · exact row_at he) (by as_aux_lemma => kernel_rfl) (by as_aux_lemma => kernel_rfl) (by as_aux_lemma => kernel_rfl) ?_
                rintro f w' ⟨M', ρ', h', E, S', hv, ho⟩
                obtain ⟨g, e9, hge, hkb⟩ := box_of E S' row_ro (k := 2) (f := ⟨#[103]⟩) (t := T) rfl (ho (2, ⟨[.string ⟨#[103]⟩, .string T], 28, 0, 2⟩) (List.mem_singleton.2 rfl)) (hv (9, .pointer (some ⟨2, 0, none⟩)) (List.mem_singleton.2 rfl))
                exact hq f w' ⟨g, e9, hge, by rw [hk]; exact hkb, E.ro_below row_ro⟩
            · have hM : ∃ M, n0 = M + 2 := ⟨n0 - 2, by omega⟩
              obtain ⟨M, hM⟩ := hM
              have hA := Toks.A_low (k := 1) (by decide)
              have hTk : Toks.A 1 = x := by rw [hA]; show x0.getD 1 0 = x; rw [List.getD_eq_getElem?_getD, ← he, HX.out]; rfl
              rcases hk with hk | hk
              · have hcfg : CfgOk Try.prog (cfgK9 1 0 T) := by rw [hT]; exact cfgK9_ok (by decide) hTk hbx hk
                refine piece_runH (okF := cfgK9 1 0 T) hcfg mixed 50 (ρ := rowR ad) (h := rowH 1 el) [(0, .slice (some ⟨0, 0, none⟩) (M + 2) c0), (8, .int .i64 1)] [(9, .pointer (some ⟨2, 0, none⟩))] [(2, ⟨[.string ⟨#[102]⟩, .string T], 28, 0, 2⟩)] 128 [39, 40, 41, 42, 43, 44, 45, 46, 47, 48, 49, 50, 51, 52, 53, 9] (fun M hM => by rw [← he]; exact sim M hM) rfl rfl (fun p hp => by
                  simp only [List.mem_cons, List.not_mem_nil, or_false] at hp
                  rcases hp with rfl | rfl
                  · exact row_rel hsp hM hn0
                  · exact row_at he) (by as_aux_lemma => kernel_rfl) (by as_aux_lemma => kernel_rfl) (by as_aux_lemma => kernel_rfl) ?_
                rintro f w' ⟨M', ρ', h', E, S', hv, ho⟩
                obtain ⟨g, e9, hge, hkb⟩ := box_of E S' row_ro (k := 2) (f := ⟨#[102]⟩) (t := T) rfl (ho (2, ⟨[.string ⟨#[102]⟩, .string T], 28, 0, 2⟩) (List.mem_singleton.2 rfl)) (hv (9, .pointer (some ⟨2, 0, none⟩)) (List.mem_singleton.2 rfl))
                exact hq f w' ⟨g, e9, hge, by rw [hk]; exact hkb, E.ro_below row_ro⟩
              · have hcfg : CfgOk Try.prog (cfgK9 1 1 T) := by rw [hT]; exact cfgK9_ok (by decide) hTk hbx hk
                refine piece_runH (okF := cfgK9 1 1 T) hcfg mixed 50 (ρ := rowR ad) (h := rowH 1 el) [(0, .slice (some ⟨0, 0, none⟩) (M + 2) c0), (8, .int .i64 1)] [(9, .pointer (some ⟨2, 0, none⟩))] [(2, ⟨[.string ⟨#[103]⟩, .string T], 28, 0, 2⟩)] 128 [39, 40, 41, 42, 43, 44, 45, 46, 47, 48, 49, 50, 51, 52, 53, 9] (fun M hM => by rw [← he]; exact sim M hM) rfl rfl (fun p hp => by
                  simp only [List.mem_cons, List.not_mem_nil, or_false] at hp
                  rcases hp with rfl | rfl
                  · exact row_rel hsp hM hn0
                  · exact row_at he) (by as_aux_lemma => kernel_rfl) (by as_aux_lemma => kernel_rfl) (by as_aux_lemma => kernel_rfl) ?_
                rintro f w' ⟨M', ρ', h', E, S', hv, ho⟩
                obtain ⟨g, e9, hge, hkb⟩ := box_of E S' row_ro (k := 2) (f := ⟨#[103]⟩) (t := T) rfl (ho (2, ⟨[.string ⟨#[103]⟩, .string T], 28, 0, 2⟩) (List.mem_singleton.2 rfl)) (hv (9, .pointer (some ⟨2, 0, none⟩)) (List.mem_singleton.2 rfl))
                exact hq f w' ⟨g, e9, hge, by rw [hk]; exact hkb, E.ro_below row_ro⟩
            · have hM : ∃ M, n0 = M + 3 := ⟨n0 - 3, by omega⟩
              obtain ⟨M, hM⟩ := hM
              have hA := Toks.A_low (k := 2) (by decide)
              have hTk : Toks.A 2 = x := by rw [hA]; show x0.getD 2 0 = x; rw [List.getD_eq_getElem?_getD, ← he, HX.out]; rfl
              rcases hk with hk | hk
              · have hcfg : CfgOk Try.prog (cfgK9 2 0 T) := by rw [hT]; exact cfgK9_ok (by decide) hTk hbx hk
                refine piece_runH (okF := cfgK9 2 0 T) hcfg mixed 50 (ρ := rowR ad) (h := rowH 2 el) [(0, .slice (some ⟨0, 0, none⟩) (M + 3) c0), (8, .int .i64 2)] [(9, .pointer (some ⟨2, 0, none⟩))] [(2, ⟨[.string ⟨#[102]⟩, .string T], 28, 0, 2⟩)] 128 [39, 40, 41, 42, 43, 44, 45, 46, 47, 48, 49, 50, 51, 52, 53, 9] (fun M hM => by rw [← he]; exact sim M hM) rfl rfl (fun p hp => by
                  simp only [List.mem_cons, List.not_mem_nil, or_false] at hp
                  rcases hp with rfl | rfl
                  · exact row_rel hsp hM hn0
                  · exact row_at he) (by as_aux_lemma => kernel_rfl) (by as_aux_lemma => kernel_rfl) (by as_aux_lemma => kernel_rfl) ?_
                rintro f w' ⟨M', ρ', h', E, S', hv, ho⟩
                obtain ⟨g, e9, hge, hkb⟩ := box_of E S' row_ro (k := 2) (f := ⟨#[102]⟩) (t := T) rfl (ho (2, ⟨[.string ⟨#[102]⟩, .string T], 28, 0, 2⟩) (List.mem_singleton.2 rfl)) (hv (9, .pointer (some ⟨2, 0, none⟩)) (List.mem_singleton.2 rfl))
                exact hq f w' ⟨g, e9, hge, by rw [hk]; exact hkb, E.ro_below row_ro⟩
              · have hcfg : CfgOk Try.prog (cfgK9 2 1 T) := by rw [hT]; exact cfgK9_ok (by decide) hTk hbx hk
                refine piece_runH (okF := cfgK9 2 1 T) hcfg mixed 50 (ρ := rowR ad) (h := rowH 2 el) [(0, .slice (some ⟨0, 0, none⟩) (M + 3) c0), (8, .int .i64 2)] [(9, .pointer (some ⟨2, 0, none⟩))] [(2, ⟨[.string ⟨#[103]⟩, .string T], 28, 0, 2⟩)] 128 [39, 40, 41, 42, 43, 44, 45, 46, 47, 48, 49, 50, 51, 52, 53, 9] (fun M hM => by rw [← he]; exact sim M hM) rfl rfl (fun p hp => by
                  simp only [List.mem_cons, List.not_mem_nil, or_false] at hp
                  rcases hp with rfl | rfl
                  · exact row_rel hsp hM hn0
                  · exact row_at he) (by as_aux_lemma => kernel_rfl) (by as_aux_lemma => kernel_rfl) (by as_aux_lemma => kernel_rfl) ?_
                rintro f w' ⟨M', ρ', h', E, S', hv, ho⟩
                obtain ⟨g, e9, hge, hkb⟩ := box_of E S' row_ro (k := 2) (f := ⟨#[103]⟩) (t := T) rfl (ho (2, ⟨[.string ⟨#[103]⟩, .string T], 28, 0, 2⟩) (List.mem_singleton.2 rfl)) (hv (9, .pointer (some ⟨2, 0, none⟩)) (List.mem_singleton.2 rfl))
                exact hq f w' ⟨g, e9, hge, by rw [hk]; exact hkb, E.ro_below row_ro⟩
            · have hM : ∃ M, n0 = M + 4 := ⟨n0 - 4, by omega⟩
              obtain ⟨M, hM⟩ := hM
              have hA := Toks.A_low (k := 3) (by decide)
              have hTk : Toks.A 3 = x := by rw [hA]; show x0.getD 3 0 = x; rw [List.getD_eq_getElem?_getD, ← he, HX.out]; rfl
              rcases hk with hk | hk
              · have hcfg : CfgOk Try.prog (cfgK9 3 0 T) := by rw [hT]; exact cfgK9_ok (by decide) hTk hbx hk
                refine piece_runH (okF := cfgK9 3 0 T) hcfg mixed 50 (ρ := rowR ad) (h := rowH 3 el) [(0, .slice (some ⟨0, 0, none⟩) (M + 4) c0), (8, .int .i64 3)] [(9, .pointer (some ⟨2, 0, none⟩))] [(2, ⟨[.string ⟨#[102]⟩, .string T], 28, 0, 2⟩)] 128 [39, 40, 41, 42, 43, 44, 45, 46, 47, 48, 49, 50, 51, 52, 53, 9] (fun M hM => by rw [← he]; exact sim M hM) rfl rfl (fun p hp => by
                  simp only [List.mem_cons, List.not_mem_nil, or_false] at hp
                  rcases hp with rfl | rfl
                  · exact row_rel hsp hM hn0
                  · exact row_at he) (by as_aux_lemma => kernel_rfl) (by as_aux_lemma => kernel_rfl) (by as_aux_lemma => kernel_rfl) ?_
                rintro f w' ⟨M', ρ', h', E, S', hv, ho⟩
                obtain ⟨g, e9, hge, hkb⟩ := box_of E S' row_ro (k := 2) (f := ⟨#[102]⟩) (t := T) rfl (ho (2, ⟨[.string ⟨#[102]⟩, .string T], 28, 0, 2⟩) (List.mem_singleton.2 rfl)) (hv (9, .pointer (some ⟨2, 0, none⟩)) (List.mem_singleton.2 rfl))
                exact hq f w' ⟨g, e9, hge, by rw [hk]; exact hkb, E.ro_below row_ro⟩
              · have hcfg : CfgOk Try.prog (cfgK9 3 1 T) := by rw [hT]; exact cfgK9_ok (by decide) hTk hbx hk
                refine piece_runH (okF := cfgK9 3 1 T) hcfg mixed 50 (ρ := rowR ad) (h := rowH 3 el) [(0, .slice (some ⟨0, 0, none⟩) (M + 4) c0), (8, .int .i64 3)] [(9, .pointer (some ⟨2, 0, none⟩))] [(2, ⟨[.string ⟨#[103]⟩, .string T], 28, 0, 2⟩)] 128 [39, 40, 41, 42, 43, 44, 45, 46, 47, 48, 49, 50, 51, 52, 53, 9] (fun M hM => by rw [← he]; exact sim M hM) rfl rfl (fun p hp => by
                  simp only [List.mem_cons, List.not_mem_nil, or_false] at hp
                  rcases hp with rfl | rfl
                  · exact row_rel hsp hM hn0
                  · exact row_at he) (by as_aux_lemma => kernel_rfl) (by as_aux_lemma => kernel_rfl) (by as_aux_lemma => kernel_rfl) ?_
                rintro f w' ⟨M', ρ', h', E, S', hv, ho⟩
                obtain ⟨g, e9, hge, hkb⟩ := box_of E S' row_ro (k := 2) (f := ⟨#[103]⟩) (t := T) rfl (ho (2, ⟨[.string ⟨#[103]⟩, .string T], 28, 0, 2⟩) (List.mem_singleton.2 rfl)) (hv (9, .pointer (some ⟨2, 0, none⟩)) (List.mem_singleton.2 rfl))
                exact hq f w' ⟨g, e9, hge, by rw [hk]; exact hkb, E.ro_below row_ro⟩
            · have hM : ∃ M, n0 = M + 5 := ⟨n0 - 5, by omega⟩
              obtain ⟨M, hM⟩ := hM
              have hA := Toks.A_low (k := 4) (by decide)
              have hTk : Toks.A 4 = x := by rw [hA]; show x0.getD 4 0 = x; rw [List.getD_eq_getElem?_getD, ← he, HX.out]; rfl
              rcases hk with hk | hk
              · have hcfg : CfgOk Try.prog (cfgK9 4 0 T) := by rw [hT]; exact cfgK9_ok (by decide) hTk hbx hk
                refine piece_runH (okF := cfgK9 4 0 T) hcfg mixed 50 (ρ := rowR ad) (h := rowH 4 el) [(0, .slice (some ⟨0, 0, none⟩) (M + 5) c0), (8, .int .i64 4)] [(9, .pointer (some ⟨2, 0, none⟩))] [(2, ⟨[.string ⟨#[102]⟩, .string T], 28, 0, 2⟩)] 128 [39, 40, 41, 42, 43, 44, 45, 46, 47, 48, 49, 50, 51, 52, 53, 9] (fun M hM => by rw [← he]; exact sim M hM) rfl rfl (fun p hp => by
                  simp only [List.mem_cons, List.not_mem_nil, or_false] at hp
                  rcases hp with rfl | rfl
                  · exact row_rel hsp hM hn0
                  · exact row_at he) (by as_aux_lemma => kernel_rfl) (by as_aux_lemma => kernel_rfl) (by as_aux_lemma => kernel_rfl) ?_
                rintro f w' ⟨M', ρ', h', E, S', hv, ho⟩
                obtain ⟨g, e9, hge, hkb⟩ := box_of E S' row_ro (k := 2) (f := ⟨#[102]⟩) (t := T) rfl (ho (2, ⟨[.string ⟨#[102]⟩, .string T], 28, 0, 2⟩) (List.mem_singleton.2 rfl)) (hv (9, .pointer (some ⟨2, 0, none⟩)) (List.mem_singleton.2 rfl))
                exact hq f w' ⟨g, e9, hge, by rw [hk]; exact hkb, E.ro_below row_ro⟩
              · have hcfg : CfgOk Try.prog (cfgK9 4 1 T) := by rw [hT]; exact cfgK9_ok (by decide) hTk hbx hk
                refine piece_runH (okF := cfgK9 4 1 T) hcfg mixed 50 (ρ := rowR ad) (h := rowH 4 el) [(0, .slice (some ⟨0, 0, none⟩) (M + 5) c0), (8, .int .i64 4)] [(9, .pointer (some ⟨2, 0, none⟩))] [(2, ⟨[.string ⟨#[103]⟩, .string T], 28, 0, 2⟩)] 128 [39, 40, 41, 42, 43, 44, 45, 46, 47, 48, 49, 50, 51, 52, 53, 9] (fun M hM => by rw [← he]; exact sim M hM) rfl rfl (fun p hp => by
                  simp only [List.mem_cons, List.not_mem_nil, or_false] at hp
                  rcases hp with rfl | rfl
                  · exact row_rel hsp hM hn0
                  · exact row_at he) (by as_aux_lemma => kernel_rfl) (by as_aux_lemma => kernel_rfl) (by as_aux_lemma => kernel_rfl) ?_
                rintro f w' ⟨M', ρ', h', E, S', hv, ho⟩
                obtain ⟨g, e9, hge, hkb⟩ := box_of E S' row_ro (k := 2) (f := ⟨#[103]⟩) (t := T) rfl (ho (2, ⟨[.string ⟨#[103]⟩, .string T], 28, 0, 2⟩) (List.mem_singleton.2 rfl)) (hv (9, .pointer (some ⟨2, 0, none⟩)) (List.mem_singleton.2 rfl))
                exact hq f w' ⟨g, e9, hge, by rw [hk]; exact hkb, E.ro_below row_ro⟩
            · have hM : ∃ M, n0 = M + 6 := ⟨n0 - 6, by omega⟩
              obtain ⟨M, hM⟩ := hM
              have hA := Toks.A_low (k := 5) (by decide)
              have hTk : Toks.A 5 = x := by rw [hA]; show x0.getD 5 0 = x; rw [List.getD_eq_getElem?_getD, ← he, HX.out]; rfl
              rcases hk with hk | hk
              · have hcfg : CfgOk Try.prog (cfgK9 5 0 T) := by rw [hT]; exact cfgK9_ok (by decide) hTk hbx hk
                refine piece_runH (okF := cfgK9 5 0 T) hcfg mixed 50 (ρ := rowR ad) (h := rowH 5 el) [(0, .slice (some ⟨0, 0, none⟩) (M + 6) c0), (8, .int .i64 5)] [(9, .pointer (some ⟨2, 0, none⟩))] [(2, ⟨[.string ⟨#[102]⟩, .string T], 28, 0, 2⟩)] 128 [39, 40, 41, 42, 43, 44, 45, 46, 47, 48, 49, 50, 51, 52, 53, 9] (fun M hM => by rw [← he]; exact sim M hM) rfl rfl (fun p hp => by
                  simp only [List.mem_cons, List.not_mem_nil, or_false] at hp
                  rcases hp with rfl | rfl
                  · exact row_rel hsp hM hn0
                  · exact row_at he) (by as_aux_lemma => kernel_rfl) (by as_aux_lemma => kernel_rfl) (by as_aux_lemma => kernel_rfl) ?_
                rintro f w' ⟨M', ρ', h', E, S', hv, ho⟩
                obtain ⟨g, e9, hge, hkb⟩ := box_of E S' row_ro (k := 2) (f := ⟨#[102]⟩) (t := T) rfl (ho (2, ⟨[.string ⟨#[102]⟩, .string T], 28, 0, 2⟩) (List.mem_singleton.2 rfl)) (hv (9, .pointer (some ⟨2, 0, none⟩)) (List.mem_singleton.2 rfl))
                exact hq f w' ⟨g, e9, hge, by rw [hk]; exact hkb, E.ro_below row_ro⟩
              · have hcfg : CfgOk Try.prog (cfgK9 5 1 T) := by rw [hT]; exact cfgK9_ok (by decide) hTk hbx hk
                refine piece_runH (okF := cfgK9 5 1 T) hcfg mixed 50 (ρ := rowR ad) (h := rowH 5 el) [(0, .slice (some ⟨0, 0, none⟩) (M + 6) c0), (8, .int .i64 5)] [(9, .pointer (some ⟨2, 0, none⟩))] [(2, ⟨[.string ⟨#[103]⟩, .string T], 28, 0, 2⟩)] 128 [39, 40, 41, 42, 43, 44, 45, 46, 47, 48, 49, 50, 51, 52, 53, 9] (fun M hM => by rw [← he]; exact sim M hM) rfl rfl (fun p hp => by
                  simp only [List.mem_cons, List.not_mem_nil, or_false] at hp
                  rcases hp with rfl | rfl
                  · exact row_rel hsp hM hn0
                  · exact row_at he) (by as_aux_lemma => kernel_rfl) (by as_aux_lemma => kernel_rfl) (by as_aux_lemma => kernel_rfl) ?_
                rintro f w' ⟨M', ρ', h', E, S', hv, ho⟩
                obtain ⟨g, e9, hge, hkb⟩ := box_of E S' row_ro (k := 2) (f := ⟨#[103]⟩) (t := T) rfl (ho (2, ⟨[.string ⟨#[103]⟩, .string T], 28, 0, 2⟩) (List.mem_singleton.2 rfl)) (hv (9, .pointer (some ⟨2, 0, none⟩)) (List.mem_singleton.2 rfl))
                exact hq f w' ⟨g, e9, hge, by rw [hk]; exact hkb, E.ro_below row_ro⟩
            · have hM : ∃ M, n0 = M + 7 := ⟨n0 - 7, by omega⟩
              obtain ⟨M, hM⟩ := hM
              have hA := Toks.A_low (k := 6) (by decide)
              have hTk : Toks.A 6 = x := by rw [hA]; show x0.getD 6 0 = x; rw [List.getD_eq_getElem?_getD, ← he, HX.out]; rfl
              rcases hk with hk | hk
              · have hcfg : CfgOk Try.prog (cfgK9 6 0 T) := by rw [hT]; exact cfgK9_ok (by decide) hTk hbx hk
                refine piece_runH (okF := cfgK9 6 0 T) hcfg mixed 50 (ρ := rowR ad) (h := rowH 6 el) [(0, .slice (some ⟨0, 0, none⟩) (M + 7) c0), (8, .int .i64 6)] [(9, .pointer (some ⟨2, 0, none⟩))] [(2, ⟨[.string ⟨#[102]⟩, .string T], 28, 0, 2⟩)] 128 [39, 40, 41, 42, 43, 44, 45, 46, 47, 48, 49, 50, 51, 52, 53, 9] (fun M hM => by rw [← he]; exact sim M hM) rfl rfl (fun p hp => by
                  simp only [List.mem_cons, List.not_mem_nil, or_false] at hp
                  rcases hp with rfl | rfl
                  · exact row_rel hsp hM hn0
                  · exact row_at he) (by as_aux_lemma => kernel_rfl) (by as_aux_lemma => kernel_rfl) (by as_aux_lemma => kernel_rfl) ?_
                rintro f w' ⟨M', ρ', h', E, S', hv, ho⟩
                obtain ⟨g, e9, hge, hkb⟩ := box_of E S' row_ro (k := 2) (f := ⟨#[102]⟩) (t := T) rfl (ho (2, ⟨[.string ⟨#[102]⟩, .string T], 28, 0, 2⟩) (List.mem_singleton.2 rfl)) (hv (9, .pointer (some ⟨2, 0, none⟩)) (List.mem_singleton.2 rfl))
                exact hq f w' ⟨g, e9, hge, by rw [hk]; exact hkb, E.ro_below row_ro⟩
              · have hcfg : CfgOk Try.prog (cfgK9 6 1 T) := by rw [hT]; exact cfgK9_ok (by decide) hTk hbx hk
                refine piece_runH (okF := cfgK9 6 1 T) hcfg mixed 50 (ρ := rowR ad) (h := rowH 6 el) [(0, .slice (some ⟨0, 0, none⟩) (M + 7) c0), (8, .int .i64 6)] [(9, .pointer (some ⟨2, 0, none⟩))] [(2, ⟨[.string ⟨#[103]⟩, .string T], 28, 0, 2⟩)] 128 [39, 40, 41, 42, 43, 44, 45, 46, 47, 48, 49, 50, 51, 52, 53, 9] (fun M hM => by rw [← he]; exact sim M hM) rfl rfl (fun p hp => by
                  simp only [List.mem_cons, List.not_mem_nil, or_false] at hp
                  rcases hp with rfl | rfl
                  · exact row_rel hsp hM hn0
                  · exact row_at he) (by as_aux_lemma => kernel_rfl) (by as_aux_lemma => kernel_rfl) (by as_aux_lemma => kernel_rfl) ?_
                rintro f w' ⟨M', ρ', h', E, S', hv, ho⟩
                obtain ⟨g, e9, hge, hkb⟩ := box_of E S' row_ro (k := 2) (f := ⟨#[103]⟩) (t := T) rfl (ho (2, ⟨[.string ⟨#[103]⟩, .string T], 28, 0, 2⟩) (List.mem_singleton.2 rfl)) (hv (9, .pointer (some ⟨2, 0, none⟩)) (List.mem_singleton.2 rfl))
                exact hq f w' ⟨g, e9, hge, by rw [hk]; exact hkb, E.ro_below row_ro⟩
            · have hM : ∃ M, n0 = M + 8 := ⟨n0 - 8, by omega⟩
              obtain ⟨M, hM⟩ := hM
              have hA := Toks.A_low (k := 7) (by decide)
              have hTk : Toks.A 7 = x := by rw [hA]; show x0.getD 7 0 = x; rw [List.getD_eq_getElem?_getD, ← he, HX.out]; rfl
              rcases hk with hk | hk
              · have hcfg : CfgOk Try.prog (cfgK9 7 0 T) := by rw [hT]; exact cfgK9_ok (by decide) hTk hbx hk
                refine piece_runH (okF := cfgK9 7 0 T) hcfg mixed 50 (ρ := rowR ad) (h := rowH 7 el) [(0, .slice (some ⟨0, 0, none⟩) (M + 8) c0), (8, .int .i64 7)] [(9, .pointer (some ⟨2, 0, none⟩))] [(2, ⟨[.string ⟨#[102]⟩, .string T], 28, 0, 2⟩)] 128 [39, 40, 41, 42, 43, 44, 45, 46, 47, 48, 49, 50, 51, 52, 53, 9] (fun M hM => by rw [← he]; exact sim M hM) rfl rfl (fun p hp => by
                  simp only [List.mem_cons, List.not_mem_nil, or_false] at hp
                  rcases hp with rfl | rfl
                  · exact row_rel hsp hM hn0
                  · exact row_at he) (by as_aux_lemma => kernel_rfl) (by as_aux_lemma => kernel_rfl) (by as_aux_lemma => kernel_rfl) ?_
                rintro f w' ⟨M', ρ', h', E, S', hv, ho⟩
                obtain ⟨g, e9, hge, hkb⟩ := box_of E S' row_ro (k := 2) (f := ⟨#[102]⟩) (t := T) rfl (ho (2, ⟨[.string ⟨#[102]⟩, .string T], 28, 0, 2⟩) (List.mem_singleton.2 rfl)) (hv (9, .pointer (some ⟨2, 0, none⟩)) (List.mem_singleton.2 rfl))
                exact hq f w' ⟨g, e9, hge, by rw [hk]; exact hkb, E.ro_below row_ro⟩
              · have hcfg : CfgOk Try.prog (cfgK9 7 1 T) := by rw [hT]; exact cfgK9_ok (by decide) hTk hbx hk
                refine piece_runH (okF := cfgK9 7 1 T) hcfg mixed 50 (ρ := rowR ad) (h := rowH 7 el) [(0, .slice (some ⟨0, 0, none⟩) (M + 8) c0), (8, .int .i64 7)] [(9, .pointer (some ⟨2, 0, none⟩))] [(2, ⟨[.string ⟨#[103]⟩, .string T], 28, 0, 2⟩)] 128 [39, 40, 41, 42, 43, 44, 45, 46, 47, 48, 49, 50, 51, 52, 53, 9] (fun M hM => by rw [← he]; exact sim M hM) rfl rfl (fun p hp => by
                  simp only [List.mem_cons, List.not_mem_nil, or_false] at hp
                  rcases hp with rfl | rfl
                  · exact row_rel hsp hM hn0
                  · exact row_at he) (by as_aux_lemma => kernel_rfl) (by as_aux_lemma => kernel_rfl) (by as_aux_lemma => kernel_rfl) ?_
                rintro f w' ⟨M', ρ', h', E, S', hv, ho⟩
                obtain ⟨g, e9, hge, hkb⟩ := box_of E S' row_ro (k := 2) (f := ⟨#[103]⟩) (t := T) rfl (ho (2, ⟨[.string ⟨#[103]⟩, .string T], 28, 0, 2⟩) (List.mem_singleton.2 rfl)) (hv (9, .pointer (some ⟨2, 0, none⟩)) (List.mem_singleton.2 rfl))
                exact hq f w' ⟨g, e9, hge, by rw [hk]; exact hkb, E.ro_below row_ro⟩
            · have hM : ∃ M, n0 = M + 9 := ⟨n0 - 9, by omega⟩
              obtain ⟨M, hM⟩ := hM
              have hA := Toks.A_low (k := 8) (by decide)
              have hTk : Toks.A 8 = x := by rw [hA]; show x0.getD 8 0 = x; rw [List.getD_eq_getElem?_getD, ← he, HX.out]; rfl
              rcases hk with hk | hk
              · have hcfg : CfgOk Try.prog (cfgK9 8 0 T) := by rw [hT]; exact cfgK9_ok (by decide) hTk hbx hk
                refine piece_runH (okF := cfgK9 8 0 T) hcfg mixed 50 (ρ := rowR ad) (h := rowH 8 el) [(0, .slice (some ⟨0, 0, none⟩) (M + 9) c0), (8, .int .i64 8)] [(9, .pointer (some ⟨2, 0, none⟩))] [(2, ⟨[.string ⟨#[102]⟩, .string T], 28, 0, 2⟩)] 128 [39, 40, 41, 42, 43, 44, 45, 46, 47, 48, 49, 50, 51, 52, 53, 9] (fun M hM => by rw [← he]; exact sim M hM) rfl rfl (fun p hp => by
                  simp only [List.mem_cons, List.not_mem_nil, or_false] at hp
                  rcases hp with rfl | rfl
                  · exact row_rel hsp hM hn0
                  · exact row_at he) (by as_aux_lemma => kernel_rfl) (by as_aux_lemma => kernel_rfl) (by as_aux_lemma => kernel_rfl) ?_
                rintro f w' ⟨M', ρ', h', E, S', hv, ho⟩
                obtain ⟨g, e9, hge, hkb⟩ := box_of E S' row_ro (k := 2) (f := ⟨#[102]⟩) (t := T) rfl (ho (2, ⟨[.string ⟨#[102]⟩, .string T], 28, 0, 2⟩) (List.mem_singleton.2 rfl)) (hv (9, .pointer (some ⟨2, 0, none⟩)) (List.mem_singleton.2 rfl))
                exact hq f w' ⟨g, e9, hge, by rw [hk]; exact hkb, E.ro_below row_ro⟩
              · have hcfg : CfgOk Try.prog (cfgK9 8 1 T) := by rw [hT]; exact cfgK9_ok (by decide) hTk hbx hk
                refine piece_runH (okF := cfgK9 8 1 T) hcfg mixed 50 (ρ := rowR ad) (h := rowH 8 el) [(0, .slice (some ⟨0, 0, none⟩) (M + 9) c0), (8, .int .i64 8)] [(9, .pointer (some ⟨2, 0, none⟩))] [(2, ⟨[.string ⟨#[103]⟩, .string T], 28, 0, 2⟩)] 128 [39, 40, 41, 42, 43, 44, 45, 46, 47, 48, 49, 50, 51, 52, 53, 9] (fun M hM => by rw [← he]; exact sim M hM) rfl rfl (fun p hp => by
                  simp only [List.mem_cons, List.not_mem_nil, or_false] at hp
                  rcases hp with rfl | rfl
                  · exact row_rel hsp hM hn0
                  · exact row_at he) (by as_aux_lemma => kernel_rfl) (by as_aux_lemma => kernel_rfl) (by as_aux_lemma => kernel_rfl) ?_
                rintro f w' ⟨M', ρ', h', E, S', hv, ho⟩
                obtain ⟨g, e9, hge, hkb⟩ := box_of E S' row_ro (k := 2) (f := ⟨#[103]⟩) (t := T) rfl (ho (2, ⟨[.string ⟨#[103]⟩, .string T], 28, 0, 2⟩) (List.mem_singleton.2 rfl)) (hv (9, .pointer (some ⟨2, 0, none⟩)) (List.mem_singleton.2 rfl))
                exact hq f w' ⟨g, e9, hge, by rw [hk]; exact hkb, E.ro_below row_ro⟩
            · have hM : ∃ M, n0 = M + 10 := ⟨n0 - 10, by omega⟩
              obtain ⟨M, hM⟩ := hM
              have hA := Toks.A_low (k := 9) (by decide)
              have hTk : Toks.A 9 = x := by rw [hA]; show x0.getD 9 0 = x; rw [List.getD_eq_getElem?_getD, ← he, HX.out]; rfl
              rcases hk with hk | hk
              · have hcfg : CfgOk Try.prog (cfgK9 9 0 T) := by rw [hT]; exact cfgK9_ok (by decide) hTk hbx hk
                refine piece_runH (okF := cfgK9 9 0 T) hcfg mixed 50 (ρ := rowR ad) (h := rowH 9 el) [(0, .slice (some ⟨0, 0, none⟩) (M + 10) c0), (8, .int .i64 9)] [(9, .pointer (some ⟨2, 0, none⟩))] [(2, ⟨[.string ⟨#[102]⟩, .string T], 28, 0, 2⟩)] 128 [39, 40, 41, 42, 43, 44, 45, 46, 47, 48, 49, 50, 51, 52, 53, 9] (fun M hM => by rw [← he]; exact sim M hM) rfl rfl (fun p hp => by
                  simp only [List.mem_cons, List.not_mem_nil, or_false] at hp
                  rcases hp with rfl | rfl
                  · exact row_rel hsp hM hn0
                  · exact row_at he) (by as_aux_lemma => kernel_rfl) (by as_aux_lemma => kernel_rfl) (by as_aux_lemma => kernel_rfl) ?_
                rintro f w' ⟨M', ρ', h', E, S', hv, ho⟩
                obtain ⟨g, e9, hge, hkb⟩ := box_of E S' row_ro (k := 2) (f := ⟨#[102]⟩) (t := T) rfl (ho (2, ⟨[.string ⟨#[102]⟩, .string T], 28, 0, 2⟩) (List.mem_singleton.2 rfl)) (hv (9, .pointer (some ⟨2, 0, none⟩)) (List.mem_singleton.2 rfl))
                exact hq f w' ⟨g, e9, hge, by rw [hk]; exact hkb, E.ro_below row_ro⟩
              · have hcfg : CfgOk Try.prog (cfgK9 9 1 T) := by rw [hT]; exact cfgK9_ok (by decide) hTk hbx hk
                refine piece_runH (okF := cfgK9 9 1 T) hcfg mixed 50 (ρ := rowR ad) (h := rowH 9 el) [(0, .slice (some ⟨0, 0, none⟩) (M + 10) c0), (8, .int .i64 9)] [(9, .pointer (some ⟨2, 0, none⟩))] [(2, ⟨[.string ⟨#[103]⟩, .string T], 28, 0, 2⟩)] 128 [39, 40, 41, 42, 43, 44, 45, 46, 47, 48, 49, 50, 51, 52, 53, 9] (fun M hM => by rw [← he]; exact sim M hM) rfl rfl (fun p hp => by
                  simp only [List.mem_cons, List.not_mem_nil, or_false] at hp
                  rcases hp with rfl | rfl
                  · exact row_rel hsp hM hn0
                  · exact row_at he) (by as_aux_lemma => kernel_rfl) (by as_aux_lemma => kernel_rfl) (by as_aux_lemma => kernel_rfl) ?_
                rintro f w' ⟨M', ρ', h', E, S', hv, ho⟩
                obtain ⟨g, e9, hge, hkb⟩ := box_of E S' row_ro (k := 2) (f := ⟨#[103]⟩) (t := T) rfl (ho (2, ⟨[.string ⟨#[103]⟩, .string T], 28, 0, 2⟩) (List.mem_singleton.2 rfl)) (hv (9, .pointer (some ⟨2, 0, none⟩)) (List.mem_singleton.2 rfl))
                exact hq f w' ⟨g, e9, hge, by rw [hk]; exact hkb, E.ro_below row_ro⟩
            · have hM : ∃ M, n0 = M + 11 := ⟨n0 - 11, by omega⟩
              obtain ⟨M, hM⟩ := hM
              have hA := Toks.A_low (k := 10) (by decide)
              have hTk : Toks.A 10 = x := by rw [hA]; show x0.getD 10 0 = x; rw [List.getD_eq_getElem?_getD, ← he, HX.out]; rfl
              rcases hk with hk | hk
              · have hcfg : CfgOk Try.prog (cfgK9 10 0 T) := by rw [hT]; exact cfgK9_ok (by decide) hTk hbx hk
                refine piece_runH (okF := cfgK9 10 0 T) hcfg mixed 50 (ρ := rowR ad) (h := rowH 10 el) [(0, .slice (some ⟨0, 0, none⟩) (M + 11) c0), (8, .int .i64 10)] [(9, .pointer (some ⟨2, 0, none⟩))] [(2, ⟨[.string ⟨#[102]⟩, .string T], 28, 0, 2⟩)] 128 [39, 40, 41, 42, 43, 44, 45, 46, 47, 48, 49, 50, 51, 52, 53, 9] (fun M hM => by rw [← he]; exact sim M hM) rfl rfl (fun p hp => by
                  simp only [List.mem_cons, List.not_mem_nil, or_false] at hp
                  rcases hp with rfl | rfl
                  · exact row_rel hsp hM hn0
                  · exact row_at he) (by as_aux_lemma => kernel_rfl) (by as_aux_lemma => kernel_rfl) (by as_aux_lemma => kernel_rfl) ?_
                rintro f w' ⟨M', ρ', h', E, S', hv, ho⟩
                obtain ⟨g, e9, hge, hkb⟩ := box_of E S' row_ro (k := 2) (f := ⟨#[102]⟩) (t := T) rfl (ho (2, ⟨[.string ⟨#[102]⟩, .string T], 28, 0, 2⟩) (List.mem_singleton.2 rfl)) (hv (9, .pointer (some ⟨2, 0, none⟩)) (List.mem_singleton.2 rfl))
                exact hq f w' ⟨g, e9, hge, by rw [hk]; exact hkb, E.ro_below row_ro⟩
              · have hcfg : CfgOk Try.prog (cfgK9 10 1 T) := by rw [hT]; exact cfgK9_ok (by decide) hTk hbx hk
                refine piece_runH (okF := cfgK9 10 1 T) hcfg mixed 50 (ρ := rowR ad) (h := rowH 10 el) [(0, .slice (some ⟨0, 0, none⟩) (M + 11) c0), (8, .int .i64 10)] [(9, .pointer (some ⟨2, 0, none⟩))] [(2, ⟨[.string ⟨#[103]⟩, .string T], 28, 0, 2⟩)] 128 [39, 40, 41, 42, 43, 44, 45, 46, 47, 48, 49, 50, 51, 52, 53, 9] (fun M hM => by rw [← he]; exact sim M hM) rfl rfl (fun p hp => by
                  simp only [List.mem_cons, List.not_mem_nil, or_false] at hp
                  rcases hp with rfl | rfl
                  · exact row_rel hsp hM hn0
                  · exact row_at he) (by as_aux_lemma => kernel_rfl) (by as_aux_lemma => kernel_rfl) (by as_aux_lemma => kernel_rfl) ?_
                rintro f w' ⟨M', ρ', h', E, S', hv, ho⟩
                obtain ⟨g, e9, hge, hkb⟩ := box_of E S' row_ro (k := 2) (f := ⟨#[103]⟩) (t := T) rfl (ho (2, ⟨[.string ⟨#[103]⟩, .string T], 28, 0, 2⟩) (List.mem_singleton.2 rfl)) (hv (9, .pointer (some ⟨2, 0, none⟩)) (List.mem_singleton.2 rfl))
                exact hq f w' ⟨g, e9, hge, by rw [hk]; exact hkb, E.ro_below row_ro⟩
            · have hM : ∃ M, n0 = M + 12 := ⟨n0 - 12, by omega⟩
              obtain ⟨M, hM⟩ := hM
              have hA := Toks.A_low (k := 11) (by decide)
              have hTk : Toks.A 11 = x := by rw [hA]; show x0.getD 11 0 = x; rw [List.getD_eq_getElem?_getD, ← he, HX.out]; rfl
              rcases hk with hk | hk
              · have hcfg : CfgOk Try.prog (cfgK9 11 0 T) := by rw [hT]; exact cfgK9_ok (by decide) hTk hbx hk
                refine piece_runH (okF := cfgK9 11 0 T) hcfg mixed 50 (ρ := rowR ad) (h := rowH 11 el) [(0, .slice (some ⟨0, 0, none⟩) (M + 12) c0), (8, .int .i64 11)] [(9, .pointer (some ⟨2, 0, none⟩))] [(2, ⟨[.string ⟨#[102]⟩, .string T], 28, 0, 2⟩)] 128 [39, 40, 41, 42, 43, 44, 45, 46, 47, 48, 49, 50, 51, 52, 53, 9] (fun M hM => by rw [← he]; exact sim M hM) rfl rfl (fun p hp => by
                  simp only [List.mem_cons, List.not_mem_nil, or_false] at hp
                  rcases hp with rfl | rfl
                  · exact row_rel hsp hM hn0
                  · exact row_at he) (by as_aux_lemma => kernel_rfl) (by as_aux_lemma => kernel_rfl) (by as_aux_lemma => kernel_rfl) ?_
                rintro f w' ⟨M', ρ', h', E, S', hv, ho⟩
                obtain ⟨g, e9, hge, hkb⟩ := box_of E S' row_ro (k := 2) (f := ⟨#[102]⟩) (t := T) rfl (ho (2, ⟨[.string ⟨#[102]⟩, .string T], 28, 0, 2⟩) (List.mem_singleton.2 rfl)) (hv (9, .pointer (some ⟨2, 0, none⟩)) (List.mem_singleton.2 rfl))
                exact hq f w' ⟨g, e9, hge, by rw [hk]; exact hkb, E.ro_below row_ro⟩
              · have hcfg : CfgOk Try.prog (cfgK9 11 1 T) := by rw [hT]; exact cfgK9_ok (by decide) hTk hbx hk
                refine piece_runH (okF := cfgK9 11 1 T) hcfg mixed 50 (ρ := rowR ad) (h := rowH 11 el) [(0, .slice (some ⟨0, 0, none⟩) (M + 12) c0), (8, .int .i64 11)] [(9, .pointer (some ⟨2, 0, none⟩))] [(2, ⟨[.string ⟨#[103]⟩, .string T], 28, 0, 2⟩)] 128 [39, 40, 41, 42, 43, 44, 45, 46, 47, 48, 49, 50, 51, 52, 53, 9] (fun M hM => by rw [← he]; exact sim M hM) rfl rfl (fun p hp => by
                  simp only [List.mem_cons, List.not_mem_nil, or_false] at hp
                  rcases hp with rfl | rfl
                  · exact row_rel hsp hM hn0
                  · exact row_at he) (by as_aux_lemma => kernel_rfl) (by as_aux_lemma => kernel_rfl) (by as_aux_lemma => kernel_rfl) ?_
                rintro f w' ⟨M', ρ', h', E, S', hv, ho⟩
                obtain ⟨g, e9, hge, hkb⟩ := box_of E S' row_ro (k := 2) (f := ⟨#[103]⟩) (t := T) rfl (ho (2, ⟨[.string ⟨#[103]⟩, .string T], 28, 0, 2⟩) (List.mem_singleton.2 rfl)) (hv (9, .pointer (some ⟨2, 0, none⟩)) (List.mem_singleton.2 rfl))
                exact hq f w' ⟨g, e9, hge, by rw [hk]; exact hkb, E.ro_below row_ro⟩
            · have hM : ∃ M, n0 = M + 13 := ⟨n0 - 13, by omega⟩
              obtain ⟨M, hM⟩ := hM
              have hA := Toks.A_low (k := 12) (by decide)
              have hTk : Toks.A 12 = x := by rw [hA]; show x0.getD 12 0 = x; rw [List.getD_eq_getElem?_getD, ← he, HX.out]; rfl
              rcases hk with hk | hk
              · have hcfg : CfgOk Try.prog (cfgK9 12 0 T) := by rw [hT]; exact cfgK9_ok (by decide) hTk hbx hk
                refine piece_runH (okF := cfgK9 12 0 T) hcfg mixed 50 (ρ := rowR ad) (h := rowH 12 el) [(0, .slice (some ⟨0, 0, none⟩) (M + 13) c0), (8, .int .i64 12)] [(9, .pointer (some ⟨2, 0, none⟩))] [(2, ⟨[.string ⟨#[102]⟩, .string T], 28, 0, 2⟩)] 128 [39, 40, 41, 42, 43, 44, 45, 46, 47, 48, 49, 50, 51, 52, 53, 9] (fun M hM => by rw [← he]; exact sim M hM) rfl rfl (fun p hp => by
                  simp only [List.mem_cons, List.not_mem_nil, or_false] at hp
                  rcases hp with rfl | rfl
                  · exact row_rel hsp hM hn0
                  · exact row_at he) (by as_aux_lemma => kernel_rfl) (by as_aux_lemma => kernel_rfl) (by as_aux_lemma => kernel_rfl) ?_
                rintro f w' ⟨M', ρ', h', E, S', hv, ho⟩
                obtain ⟨g, e9, hge, hkb⟩ := box_of E S' row_ro (k := 2) (f := ⟨#[102]⟩) (t := T) rfl (ho (2, ⟨[.string ⟨#[102]⟩, .string T], 28, 0, 2⟩) (List.mem_singleton.2 rfl)) (hv (9, .pointer (some ⟨2, 0, none⟩)) (List.mem_singleton.2 rfl))
                exact hq f w' ⟨g, e9, hge, by rw [hk]; exact hkb, E.ro_below row_ro⟩
              · have hcfg : CfgOk Try.prog (cfgK9 12 1 T) := by rw [hT]; exact cfgK9_ok (by decide) hTk hbx hk
                refine piece_runH (okF := cfgK9 12 1 T) hcfg mixed 50 (ρ := rowR ad) (h := rowH 12 el) [(0, .slice (some ⟨0, 0, none⟩) (M + 13) c0), (8, .int .i64 12)] [(9, .pointer (some ⟨2, 0, none⟩))] [(2, ⟨[.string ⟨#[103]⟩, .string T], 28, 0, 2⟩)] 128 [39, 40, 41, 42, 43, 44, 45, 46, 47, 48, 49, 50, 51, 52, 53, 9] (fun M hM => by rw [← he]; exact sim M hM) rfl rfl (fun p hp => by
                  simp only [List.mem_cons, List.not_mem_nil, or_false] at hp
                  rcases hp with rfl | rfl
                  · exact row_rel hsp hM hn0
                  · exact row_at he) (by as_aux_lemma => kernel_rfl) (by as_aux_lemma => kernel_rfl) (by as_aux_lemma => kernel_rfl) ?_
                rintro f w' ⟨M', ρ', h', E, S', hv, ho⟩
                obtain ⟨g, e9, hge, hkb⟩ := box_of E S' row_ro (k := 2) (f := ⟨#[103]⟩) (t := T) rfl (ho (2, ⟨[.string ⟨#[103]⟩, .string T], 28, 0, 2⟩) (List.mem_singleton.2 rfl)) (hv (9, .pointer (some ⟨2, 0, none⟩)) (List.mem_singleton.2 rfl))
                exact hq f w' ⟨g, e9, hge, by rw [hk]; exact hkb, E.ro_below row_ro⟩
            · have hM : ∃ M, n0 = M + 14 := ⟨n0 - 14, by omega⟩
              obtain ⟨M, hM⟩ := hM
              have hA := Toks.A_low (k := 13) (by decide)
              have hTk : Toks.A 13 = x := by rw [hA]; show x0.getD 13 0 = x; rw [List.getD_eq_getElem?_getD, ← he, HX.out]; rfl
              rcases hk with hk | hk
              · have hcfg : CfgOk Try.prog (cfgK9 13 0 T) := by rw [hT]; exact cfgK9_ok (by decide) hTk hbx hk
                refine piece_runH (okF := cfgK9 13 0 T) hcfg mixed 50 (ρ := rowR ad) (h := rowH 13 el) [(0, .slice (some ⟨0, 0, none⟩) (M + 14) c0), (8, .int .i64 13)] [(9, .pointer (some ⟨2, 0, none⟩))] [(2, ⟨[.string ⟨#[102]⟩, .string T], 28, 0, 2⟩)] 128 [39, 40, 41, 42, 43, 44, 45, 46, 47, 48, 49, 50, 51, 52, 53, 9] (fun M hM => by rw [← he]; exact sim M hM) rfl rfl (fun p hp => by
                  simp only [List.mem_cons, List.not_mem_nil, or_false] at hp
                  rcases hp with rfl | rfl
                  · exact row_rel hsp hM hn0
                  · exact row_at he) (by as_aux_lemma => kernel_rfl) (by as_aux_lemma => kernel_rfl) (by as_aux_lemma => kernel_rfl) ?_
                rintro f w' ⟨M', ρ', h', E, S', hv, ho⟩
                obtain ⟨g, e9, hge, hkb⟩ := box_of E S' row_ro (k := 2) (f := ⟨#[102]⟩) (t := T) rfl (ho (2, ⟨[.string ⟨#[102]⟩, .string T], 28, 0, 2⟩) (List.mem_singleton.2 rfl)) (hv (9, .pointer (some ⟨2, 0, none⟩)) (List.mem_singleton.2 rfl))
                exact hq f w' ⟨g, e9, hge, by rw [hk]; exact hkb, E.ro_below row_ro⟩
              · have hcfg : CfgOk Try.prog (cfgK9 13 1 T) := by rw [hT]; exact cfgK9_ok (by decide) hTk hbx hk
                refine piece_runH (okF := cfgK9 13 1 T) hcfg mixed 50 (ρ := rowR ad) (h := rowH 13 el) [(0, .slice (some ⟨0, 0, none⟩) (M + 14) c0), (8, .int .i64 13)] [(9, .pointer (some ⟨2, 0, none⟩))] [(2, ⟨[.string ⟨#[103]⟩, .string T], 28, 0, 2⟩)] 128 [39, 40, 41, 42, 43, 44, 45, 46, 47, 48, 49, 50, 51, 52, 53, 9] (fun M hM => by rw [← he]; exact sim M hM) rfl rfl (fun p hp => by
                  simp only [List.mem_cons, List.not_mem_nil, or_false] at hp
                  rcases hp with rfl | rfl
                  · exact row_rel hsp hM hn0
                  · exact row_at he) (by as_aux_lemma => kernel_rfl) (by as_aux_lemma => kernel_rfl) (by as_aux_lemma => kernel_rfl) ?_
                rintro f w' ⟨M', ρ', h', E, S', hv, ho⟩
                obtain ⟨g, e9, hge, hkb⟩ := box_of E S' row_ro (k := 2) (f := ⟨#[103]⟩) (t := T) rfl (ho (2, ⟨[.string ⟨#[103]⟩, .string T], 28, 0, 2⟩) (List.mem_singleton.2 rfl)) (hv (9, .pointer (some ⟨2, 0, none⟩)) (List.mem_singleton.2 rfl))
                exact hq f w' ⟨g, e9, hge, by rw [hk]; exact hkb, E.ro_below row_ro⟩
            · have hM : ∃ M, n0 = M + 15 := ⟨n0 - 15, by omega⟩
              obtain ⟨M, hM⟩ := hM
              have hA := Toks.A_low (k := 14) (by decide)
              have hTk : Toks.A 14 = x := by rw [hA]; show x0.getD 14 0 = x; rw [List.getD_eq_getElem?_getD, ← he, HX.out]; rfl
              rcases hk with hk | hk
              · have hcfg : CfgOk Try.prog (cfgK9 14 0 T) := by rw [hT]; exact cfgK9_ok (by decide) hTk hbx hk
                refine piece_runH (okF := cfgK9 14 0 T) hcfg mixed 50 (ρ := rowR ad) (h := rowH 14 el) [(0, .slice (some ⟨0, 0, none⟩) (M + 15) c0), (8, .int .i64 14)] [(9, .pointer (some ⟨2, 0, none⟩))] [(2, ⟨[.string ⟨#[102]⟩, .string T], 28, 0, 2⟩)] 128 [39, 40, 41, 42, 43, 44, 45, 46, 47, 48, 49, 50, 51, 52, 53, 9] (fun M hM => by rw [← he]; exact sim M hM) rfl rfl (fun p hp => by
                  simp only [List.mem_cons, List.not_mem_nil, or_false] at hp
                  rcases hp with rfl | rfl
                  · exact row_rel hsp hM hn0
                  · exact row_at he) (by as_aux_lemma => kernel_rfl) (by as_aux_lemma => kernel_rfl) (by as_aux_lemma => kernel_rfl) ?_
                rintro f w' ⟨M', ρ', h', E, S', hv, ho⟩
                obtain ⟨g, e9, hge, hkb⟩ := box_of E S' row_ro (k := 2) (f := ⟨#[102]⟩) (t := T) rfl (ho (2, ⟨[.string ⟨#[102]⟩, .string T], 28, 0, 2⟩) (List.mem_singleton.2 rfl)) (hv (9, .pointer (some ⟨2, 0, none⟩)) (List.mem_singleton.2 rfl))
                exact hq f w' ⟨g, e9, hge, by rw [hk]; exact hkb, E.ro_below row_ro⟩
              · have hcfg : CfgOk Try.prog (cfgK9 14 1 T) := by rw [hT]; exact cfgK9_ok (by decide) hTk hbx hk
                refine piece_runH (okF := cfgK9 14 1 T) hcfg mixed 50 (ρ := rowR ad) (h := rowH 14 el) [(0, .slice (some ⟨0, 0, none⟩) (M + 15) c0), (8, .int .i64 14)] [(9, .pointer (some ⟨2, 0, none⟩))] [(2, ⟨[.string ⟨#[103]⟩, .string T], 28, 0, 2⟩)] 128 [39, 40, 41, 42, 43, 44, 45, 46, 47, 48, 49, 50, 51, 52, 53, 9] (fun M hM => by rw [← he]; exact sim M hM) rfl rfl (fun p hp => by
                  simp only [List.mem_cons, List.not_mem_nil, or_false] at hp
                  rcases hp with rfl | rfl
                  · exact row_rel hsp hM hn0
                  · exact row_at he) (by as_aux_lemma => kernel_rfl) (by as_aux_lemma => kernel_rfl) (by as_aux_lemma => kernel_rfl) ?_
                rintro f w' ⟨M', ρ', h', E, S', hv, ho⟩
                obtain ⟨g, e9, hge, hkb⟩ := box_of E S' row_ro (k := 2) (f := ⟨#[103]⟩) (t := T) rfl (ho (2, ⟨[.string ⟨#[103]⟩, .string T], 28, 0, 2⟩) (List.mem_singleton.2 rfl)) (hv (9, .pointer (some ⟨2, 0, none⟩)) (List.mem_singleton.2 rfl))
                exact hq f w' ⟨g, e9, hge, by rw [hk]; exact hkb, E.ro_below row_ro⟩
            · have hM : ∃ M, n0 = M + 16 := ⟨n0 - 16, by omega⟩
              obtain ⟨M, hM⟩ := hM
              have hA := Toks.A_low (k := 15) (by decide)
              have hTk : Toks.A 15 = x := by rw [hA]; show x0.getD 15 0 = x; rw [List.getD_eq_getElem?_getD, ← he, HX.out]; rfl
              rcases hk with hk | hk
              · have hcfg : CfgOk Try.prog (cfgK9 15 0 T) := by rw [hT]; exact cfgK9_ok (by decide) hTk hbx hk
                refine piece_runH (okF := cfgK9 15 0 T) hcfg mixed 50 (ρ := rowR ad) (h := rowH 15 el) [(0, .slice (some ⟨0, 0, none⟩) (M + 16) c0), (8, .int .i64 15)] [(9, .pointer (some ⟨2, 0, none⟩))] [(2, ⟨[.string ⟨#[102]⟩, .string T], 28, 0, 2⟩)] 128 [39, 40, 41, 42, 43, 44, 45, 46, 47, 48, 49, 50, 51, 52, 53, 9] (fun M hM => by rw [← he]; exact sim M hM) rfl rfl (fun p hp => by
                  simp only [List.mem_cons, List.not_mem_nil, or_false] at hp
                  rcases hp with rfl | rfl
                  · exact row_rel hsp hM hn0
                  · exact row_at he) (by as_aux_lemma => kernel_rfl) (by as_aux_lemma => kernel_rfl) (by as_aux_lemma => kernel_rfl) ?_
                rintro f w' ⟨M', ρ', h', E, S', hv, ho⟩
                obtain ⟨g, e9, hge, hkb⟩ := box_of E S' row_ro (k := 2) (f := ⟨#[102]⟩) (t := T) rfl (ho (2, ⟨[.string ⟨#[102]⟩, .string T], 28, 0, 2⟩) (List.mem_singleton.2 rfl)) (hv (9, .pointer (some ⟨2, 0, none⟩)) (List.mem_singleton.2 rfl))
                exact hq f w' ⟨g, e9, hge, by rw [hk]; exact hkb, E.ro_below row_ro⟩
              · have hcfg : CfgOk Try.prog (cfgK9 15 1 T) := by rw [hT]; exact cfgK9_ok (by decide) hTk hbx hk
                refine piece_runH (okF := cfgK9 15 1 T) hcfg mixed 50 (ρ := rowR ad) (h := rowH 15 el) [(0, .slice (some ⟨0, 0, none⟩) (M + 16) c0), (8, .int .i64 15)] [(9, .pointer (some ⟨2, 0, none⟩))] [(2, ⟨[.string ⟨#[103]⟩, .string T], 28, 0, 2⟩)] 128 [39, 40, 41, 42, 43, 44, 45, 46, 47, 48, 49, 50, 51, 52, 53, 9] (fun M hM => by rw [← he]; exact sim M hM) rfl rfl (fun p hp => by
                  simp only [List.mem_cons, List.not_mem_nil, or_false] at hp
                  rcases hp with rfl | rfl
                  · exact row_rel hsp hM hn0
                  · exact row_at he) (by as_aux_lemma => kernel_rfl) (by as_aux_lemma => kernel_rfl) (by as_aux_lemma => kernel_rfl) ?_
                rintro f w' ⟨M', ρ', h', E, S', hv, ho⟩
                obtain ⟨g, e9, hge, hkb⟩ := box_of E S' row_ro (k := 2) (f := ⟨#[103]⟩) (t := T) rfl (ho (2, ⟨[.string ⟨#[103]⟩, .string T], 28, 0, 2⟩) (List.mem_singleton.2 rfl)) (hv (9, .pointer (some ⟨2, 0, none⟩)) (List.mem_singleton.2 rfl))
                exact hq f w' ⟨g, e9, hge, by rw [hk]; exact hkb, E.ro_below row_ro⟩
            · have hM : ∃ M, n0 = M + 17 := ⟨n0 - 17, by omega⟩
              obtain ⟨M, hM⟩ := hM
              have hA := Toks.A_low (k := 16) (by decide)
              have hTk : Toks.A 16 = x := by rw [hA]; show x0.getD 16 0 = x; rw [List.getD_eq_getElem?_getD, ← he, HX.out]; rfl
              rcases hk with hk | hk
              · have hcfg : CfgOk Try.prog (cfgK9 16 0 T) := by rw [hT]; exact cfgK9_ok (by decide) hTk hbx hk
                refine piece_runH (okF := cfgK9 16 0 T) hcfg mixed 50 (ρ := rowR ad) (h := rowH 16 el) [(0, .slice (some ⟨0, 0, none⟩) (M + 17) c0), (8, .int .i64 16)] [(9, .pointer (some ⟨2, 0, none⟩))] [(2, ⟨[.string ⟨#[102]⟩, .string T], 28, 0, 2⟩)] 128 [39, 40, 41, 42, 43, 44, 45, 46, 47, 48, 49, 50, 51, 52, 53, 9] (fun M hM => by rw [← he]; exact sim M hM) rfl rfl (fun p hp => by
                  simp only [List.mem_cons, List.not_mem_nil, or_false] at hp
                  rcases hp with rfl | rfl
                  · exact row_rel hsp hM hn0
                  · exact row_at he) (by as_aux_lemma => kernel_rfl) (by as_aux_lemma => kernel_rfl) (by as_aux_lemma => kernel_rfl) ?_
                rintro f w' ⟨M', ρ', h', E, S', hv, ho⟩
                obtain ⟨g, e9, hge, hkb⟩ := box_of E S' row_ro (k := 2) (f := ⟨#[102]⟩) (t := T) rfl (ho (2, ⟨[.string ⟨#[102]⟩, .string T], 28, 0, 2⟩) (List.mem_singleton.2 rfl)) (hv (9, .pointer (some ⟨2, 0, none⟩)) (List.mem_singleton.2 rfl))
                exact hq f w' ⟨g, e9, hge, by rw [hk]; exact hkb, E.ro_below row_ro⟩
              · have hcfg : CfgOk Try.prog (cfgK9 16 1 T) := by rw [hT]; exact cfgK9_ok (by decide) hTk hbx hk
                refine piece_runH (okF := cfgK9 16 1 T) hcfg mixed 50 (ρ := rowR ad) (h := rowH 16 el) [(0, .slice (some ⟨0, 0, none⟩) (M + 17) c0), (8, .int .i64 16)] [(9, .pointer (some ⟨2, 0, none⟩))] [(2, ⟨[.string ⟨#[103]⟩, .string T], 28, 0, 2⟩)] 128 [39, 40, 41, 42, 43, 44, 45, 46, 47, 48, 49, 50, 51, 52, 53, 9] (fun M hM => by rw [← he]; exact sim M hM) rfl rfl (fun p hp => by
                  simp only [List.mem_cons, List.not_mem_nil, or_false] at hp
                  rcases hp with rfl | rfl
                  · exact row_rel hsp hM hn0
                  · exact row_at he) (by as_aux_lemma => kernel_rfl) (by as_aux_lemma => kernel_rfl) (by as_aux_lemma => kernel_rfl) ?_
                rintro f w' ⟨M', ρ', h', E, S', hv, ho⟩
                obtain ⟨g, e9, hge, hkb⟩ := box_of E S' row_ro (k := 2) (f := ⟨#[103]⟩) (t := T) rfl (ho (2, ⟨[.string ⟨#[103]⟩, .string T], 28, 0, 2⟩) (List.mem_singleton.2 rfl)) (hv (9, .pointer (some ⟨2, 0, none⟩)) (List.mem_singleton.2 rfl))
                exact hq f w' ⟨g, e9, hge, by rw [hk]; exact hkb, E.ro_below row_ro⟩
            · have hM : ∃ M, n0 = M + 18 := ⟨n0 - 18, by omega⟩
              obtain ⟨M, hM⟩ := hM
              have hA := Toks.A_low (k := 17) (by decide)
              have hTk : Toks.A 17 = x := by rw [hA]; show x0.getD 17 0 = x; rw [List.getD_eq_getElem?_getD, ← he, HX.out]; rfl
              rcases hk with hk | hk
              · have hcfg : CfgOk Try.prog (cfgK9 17 0 T) := by rw [hT]; exact cfgK9_ok (by decide) hTk hbx hk
                refine piece_runH (okF := cfgK9 17 0 T) hcfg mixed 50 (ρ := rowR ad) (h := rowH 17 el) [(0, .slice (some ⟨0, 0, none⟩) (M + 18) c0), (8, .int .i64 17)] [(9, .pointer (some ⟨2, 0, none⟩))] [(2, ⟨[.string ⟨#[102]⟩, .string T], 28, 0, 2⟩)] 128 [39, 40, 41, 42, 43, 44, 45, 46, 47, 48, 49, 50, 51, 52, 53, 9] (fun M hM => by rw [← he]; exact sim M hM) rfl rfl (fun p hp => by
                  simp only [List.mem_cons, List.not_mem_nil, or_false] at hp
                  rcases hp with rfl | rfl
                  · exact row_rel hsp hM hn0
                  · exact row_at he) (by as_aux_lemma => kernel_rfl) (by as_aux_lemma => kernel_rfl) (by as_aux_lemma => kernel_rfl) ?_
                rintro f w' ⟨M', ρ', h', E, S', hv, ho⟩
                obtain ⟨g, e9, hge, hkb⟩ := box_of E S' row_ro (k := 2) (f := ⟨#[102]⟩) (t := T) rfl (ho (2, ⟨[.string ⟨#[102]⟩, .string T], 28, 0, 2⟩) (List.mem_singleton.2 rfl)) (hv (9, .pointer (some ⟨2, 0, none⟩)) (List.mem_singleton.2 rfl))
                exact hq f w' ⟨g, e9, hge, by rw [hk]; exact hkb, E.ro_below row_ro⟩
              · have hcfg : CfgOk Try.prog (cfgK9 17 1 T) := by rw [hT]; exact cfgK9_ok (by decide) hTk hbx hk
                refine piece_runH (okF := cfgK9 17 1 T) hcfg mixed 50 (ρ := rowR ad) (h := rowH 17 el) [(0, .slice (some ⟨0, 0, none⟩) (M + 18) c0), (8, .int .i64 17)] [(9, .pointer (some ⟨2, 0, none⟩))] [(2, ⟨[.string ⟨#[103]⟩, .string T], 28, 0, 2⟩)] 128 [39, 40, 41, 42, 43, 44, 45, 46, 47, 48, 49, 50, 51, 52, 53, 9] (fun M hM => by rw [← he]; exact sim M hM) rfl rfl (fun p hp => by
                  simp only [List.mem_cons, List.not_mem_nil, or_false] at hp
                  rcases hp with rfl | rfl
                  · exact row_rel hsp hM hn0
                  · exact row_at he) (by as_aux_lemma => kernel_rfl) (by as_aux_lemma => kernel_rfl) (by as_aux_lemma => kernel_rfl) ?_
                rintro f w' ⟨M', ρ', h', E, S', hv, ho⟩
                obtain ⟨g, e9, hge, hkb⟩ := box_of E S' row_ro (k := 2) (f := ⟨#[103]⟩) (t := T) rfl (ho (2, ⟨[.string ⟨#[103]⟩, .string T], 28, 0, 2⟩) (List.mem_singleton.2 rfl)) (hv (9, .pointer (some ⟨2, 0, none⟩)) (List.mem_singleton.2 rfl))
                exact hq f w' ⟨g, e9, hge, by rw [hk]; exact hkb, E.ro_below row_ro⟩
            · have hM : ∃ M, n0 = M + 19 := ⟨n0 - 19, by omega⟩
              obtain ⟨M, hM⟩ := hM
              have hA := Toks.A_low (k := 18) (by decide)
              have hTk : Toks.A 18 = x := by rw [hA]; show x0.getD 18 0 = x; rw [List.getD_eq_getElem?_getD, ← he, HX.out]; rfl
              rcases hk with hk | hk
              · have hcfg : CfgOk Try.prog (cfgK9 18 0 T) := by rw [hT]; exact cfgK9_ok (by decide) hTk hbx hk
                refine piece_runH (okF := cfgK9 18 0 T) hcfg mixed 50 (ρ := rowR ad) (h := rowH 18 el) [(0, .slice (some ⟨0, 0, none⟩) (M + 19) c0), (8, .int .i64 18)] [(9, .pointer (some ⟨2, 0, none⟩))] [(2, ⟨[.string ⟨#[102]⟩, .string T], 28, 0, 2⟩)] 128 [39, 40, 41, 42, 43, 44, 45, 46, 47, 48, 49, 50, 51, 52, 53, 9] (fun M hM => by rw [← he]; exact sim M hM) rfl rfl (fun p hp => by
                  simp only [List.mem_cons, List.not_mem_nil, or_false] at hp
                  rcases hp with rfl | rfl
                  · exact row_rel hsp hM hn0
                  · exact row_at he) (by as_aux_lemma => kernel_rfl) (by as_aux_lemma => kernel_rfl) (by as_aux_lemma => kernel_rfl) ?_
                rintro f w' ⟨M', ρ', h', E, S', hv, ho⟩
                obtain ⟨g, e9, hge, hkb⟩ := box_of E S' row_ro (k := 2) (f := ⟨#[102]⟩) (t := T) rfl (ho (2, ⟨[.string ⟨#[102]⟩, .string T], 28, 0, 2⟩) (List.mem_singleton.2 rfl)) (hv (9, .pointer (some ⟨2, 0, none⟩)) (List.mem_singleton.2 rfl))
                exact hq f w' ⟨g, e9, hge, by rw [hk]; exact hkb, E.ro_below row_ro⟩
              · have hcfg : CfgOk Try.prog (cfgK9 18 1 T) := by rw [hT]; exact cfgK9_ok (by decide) hTk hbx hk
                refine piece_runH (okF := cfgK9 18 1 T) hcfg mixed 50 (ρ := rowR ad) (h := rowH 18 el) [(0, .slice (some ⟨0, 0, none⟩) (M + 19) c0), (8, .int .i64 18)] [(9, .pointer (some ⟨2, 0, none⟩))] [(2, ⟨[.string ⟨#[103]⟩, .string T], 28, 0, 2⟩)] 128 [39, 40, 41, 42, 43, 44, 45, 46, 47, 48, 49, 50, 51, 52, 53, 9] (fun M hM => by rw [← he]; exact sim M hM) rfl rfl (fun p hp => by
                  simp only [List.mem_cons, List.not_mem_nil, or_false] at hp
                  rcases hp with rfl | rfl
                  · exact row_rel hsp hM hn0
                  · exact row_at he) (by as_aux_lemma => kernel_rfl) (by as_aux_lemma => kernel_rfl) (by as_aux_lemma => kernel_rfl) ?_
                rintro f w' ⟨M', ρ', h', E, S', hv, ho⟩
                obtain ⟨g, e9, hge, hkb⟩ := box_of E S' row_ro (k := 2) (f := ⟨#[103]⟩) (t := T) rfl (ho (2, ⟨[.string ⟨#[103]⟩, .string T], 28, 0, 2⟩) (List.mem_singleton.2 rfl)) (hv (9, .pointer (some ⟨2, 0, none⟩)) (List.mem_singleton.2 rfl))
                exact hq f w' ⟨g, e9, hge, by rw [hk]; exact hkb, E.ro_below row_ro⟩
            · have hM : ∃ M, n0 = M + 20 := ⟨n0 - 20, by omega⟩
              obtain ⟨M, hM⟩ := hM
              have hA := Toks.A_low (k := 19) (by decide)
              have hTk : Toks.A 19 = x := by rw [hA]; show x0.getD 19 0 = x; rw [List.getD_eq_getElem?_getD, ← he, HX.out]; rfl
              rcases hk with hk | hk
              · have hcfg : CfgOk Try.prog (cfgK9 19 0 T) := by rw [hT]; exact cfgK9_ok (by decide) hTk hbx hk
                refine piece_runH (okF := cfgK9 19 0 T) hcfg mixed 50 (ρ := rowR ad) (h := rowH 19 el) [(0, .slice (some ⟨0, 0, none⟩) (M + 20) c0), (8, .int .i64 19)] [(9, .pointer (some ⟨2, 0, none⟩))] [(2, ⟨[.string ⟨#[102]⟩, .string T], 28, 0, 2⟩)] 128 [39, 40, 41, 42, 43, 44, 45, 46, 47, 48, 49, 50, 51, 52, 53, 9] (fun M hM => by rw [← he]; exact sim M hM) rfl rfl (fun p hp => by
                  simp only [List.mem_cons, List.not_mem_nil, or_false] at hp
                  rcases hp with rfl | rfl
                  · exact row_rel hsp hM hn0
                  · exact row_at he) (by as_aux_lemma => kernel_rfl) (by as_aux_lemma => kernel_rfl) (by as_aux_lemma => kernel_rfl) ?_
                rintro f w' ⟨M', ρ', h', E, S', hv, ho⟩
                obtain ⟨g, e9, hge, hkb⟩ := box_of E S' row_ro (k := 2) (f := ⟨#[102]⟩) (t := T) rfl (ho (2, ⟨[.string ⟨#[102]⟩, .string T], 28, 0, 2⟩) (List.mem_singleton.2 rfl)) (hv (9, .pointer (some ⟨2, 0, none⟩)) (List.mem_singleton.2 rfl))
                exact hq f w' ⟨g, e9, hge, by rw [hk]; exact hkb, E.ro_below row_ro⟩
              · have hcfg : CfgOk Try.prog (cfgK9 19 1 T) := by rw [hT]; exact cfgK9_ok (by decide) hTk hbx hk
                refine piece_runH (okF := cfgK9 19 1 T) hcfg mixed 50 (ρ := rowR ad) (h := rowH 19 el) [(0, .slice (some ⟨0, 0, none⟩) (M + 20) c0), (8, .int .i64 19)] [(9, .pointer (some ⟨2, 0, none⟩))] [(2, ⟨[.string ⟨#[103]⟩, .string T], 28, 0, 2⟩)] 128 [39, 40, 41, 42, 43, 44, 45, 46, 47, 48, 49, 50, 51, 52, 53, 9] (fun M hM => by rw [← he]; exact sim M hM) rfl rfl (fun p hp => by
                  simp only [List.mem_cons, List.not_mem_nil, or_false] at hp
                  rcases hp with rfl | rfl
                  · exact row_rel hsp hM hn0
                  · exact row_at he) (by as_aux_lemma => kernel_rfl) (by as_aux_lemma => kernel_rfl) (by as_aux_lemma => kernel_rfl) ?_
                rintro f w' ⟨M', ρ', h', E, S', hv, ho⟩
                obtain ⟨g, e9, hge, hkb⟩ := box_of E S' row_ro (k := 2) (f := ⟨#[103]⟩) (t := T) rfl (ho (2, ⟨[.string ⟨#[103]⟩, .string T], 28, 0, 2⟩) (List.mem_singleton.2 rfl)) (hv (9, .pointer (some ⟨2, 0, none⟩)) (List.mem_singleton.2 rfl))
                exact hq f w' ⟨g, e9, hge, by rw [hk]; exact hkb, E.ro_below row_ro⟩
            · have hM : ∃ M, n0 = M + 21 := ⟨n0 - 21, by omega⟩
              obtain ⟨M, hM⟩ := hM
              have hA := Toks.A_low (k := 20) (by decide)
              have hTk : Toks.A 20 = x := by rw [hA]; show x0.getD 20 0 = x; rw [List.getD_eq_getElem?_getD, ← he, HX.out]; rfl
              rcases hk with hk | hk
              · have hcfg : CfgOk Try.prog (cfgK9 20 0 T) := by rw [hT]; exact cfgK9_ok (by decide) hTk hbx hk
                refine piece_runH (okF := cfgK9 20 0 T) hcfg mixed 50 (ρ := rowR ad) (h := rowH 20 el) [(0, .slice (some ⟨0, 0, none⟩) (M + 21) c0), (8, .int .i64 20)] [(9, .pointer (some ⟨2, 0, none⟩))] [(2, ⟨[.string ⟨#[102]⟩, .string T], 28, 0, 2⟩)] 128 [39, 40, 41, 42, 43, 44, 45, 46, 47, 48, 49, 50, 51, 52, 53, 9] (fun M hM => by rw [← he]; exact sim M hM) rfl rfl (fun p hp => by
                  simp only [List.mem_cons, List.not_mem_nil, or_false] at hp
                  rcases hp with rfl | rfl
                  · exact row_rel hsp hM hn0
                  · exact row_at he) (by as_aux_lemma => kernel_rfl) (by as_aux_lemma => kernel_rfl) (by as_aux_lemma => kernel_rfl) ?_
                rintro f w' ⟨M', ρ', h', E, S', hv, ho⟩
                obtain ⟨g, e9, hge, hkb⟩ := box_of E S' row_ro (k := 2) (f := ⟨#[102]⟩) (t := T) rfl (ho (2, ⟨[.string ⟨#[102]⟩, .string T], 28, 0, 2⟩) (List.mem_singleton.2 rfl)) (hv (9, .pointer (some ⟨2, 0, none⟩)) (List.mem_singleton.2 rfl))
                exact hq f w' ⟨g, e9, hge, by rw [hk]; exact hkb, E.ro_below row_ro⟩
              · have hcfg : CfgOk Try.prog (cfgK9 20 1 T) := by rw [hT]; exact cfgK9_ok (by decide) hTk hbx hk
                refine piece_runH (okF := cfgK9 20 1 T) hcfg mixed 50 (ρ := rowR ad) (h := rowH 20 el) [(0, .slice (some ⟨0, 0, none⟩) (M + 21) c0), (8, .int .i64 20)] [(9, .pointer (some ⟨2, 0, none⟩))] [(2, ⟨[.string ⟨#[103]⟩, .string T], 28, 0, 2⟩)] 128 [39, 40, 41, 42, 43, 44, 45, 46, 47, 48, 49, 50, 51, 52, 53, 9] (fun M hM => by rw [← he]; exact sim M hM) rfl rfl (fun p hp => by
                  simp only [List.mem_cons, List.not_mem_nil, or_false] at hp
                  rcases hp with rfl | rfl
                  · exact row_rel hsp hM hn0
                  · exact row_at he) (by as_aux_lemma => kernel_rfl) (by as_aux_lemma => kernel_rfl) (by as_aux_lemma => kernel_rfl) ?_
                rintro f w' ⟨M', ρ', h', E, S', hv, ho⟩
                obtain ⟨g, e9, hge, hkb⟩ := box_of E S' row_ro (k := 2) (f := ⟨#[103]⟩) (t := T) rfl (ho (2, ⟨[.string ⟨#[103]⟩, .string T], 28, 0, 2⟩) (List.mem_singleton.2 rfl)) (hv (9, .pointer (some ⟨2, 0, none⟩)) (List.mem_singleton.2 rfl))
                exact hq f w' ⟨g, e9, hge, by rw [hk]; exact hkb, E.ro_below row_ro⟩
            · have hM : ∃ M, n0 = M + 22 := ⟨n0 - 22, by omega⟩
              obtain ⟨M, hM⟩ := hM
              have hA := Toks.A_low (k := 21) (by decide)
              have hTk : Toks.A 21 = x := by rw [hA]; show x0.getD 21 0 = x; rw [List.getD_eq_getElem?_getD, ← he, HX.out]; rfl
              rcases hk with hk | hk
              · have hcfg : CfgOk Try.prog (cfgK9 21 0 T) := by rw [hT]; exact cfgK9_ok (by decide) hTk hbx hk
                refine piece_runH (okF := cfgK9 21 0 T) hcfg mixed 50 (ρ := rowR ad) (h := rowH 21 el) [(0, .slice (some ⟨0, 0, none⟩) (M + 22) c0), (8, .int .i64 21)] [(9, .pointer (some ⟨2, 0, none⟩))] [(2, ⟨[.string ⟨#[102]⟩, .string T], 28, 0, 2⟩)] 128 [39, 40, 41, 42, 43, 44, 45, 46, 47, 48, 49, 50, 51, 52, 53, 9] (fun M hM => by rw [← he]; exact sim M hM) rfl rfl (fun p hp => by
                  simp only [List.mem_cons, List.not_mem_nil, or_false] at hp
                  rcases hp with rfl | rfl
                  · exact row_rel hsp hM hn0
                  · exact row_at he) (by as_aux_lemma => kernel_rfl) (by as_aux_lemma => kernel_rfl) (by as_aux_lemma => kernel_rfl) ?_
                rintro f w' ⟨M', ρ', h', E, S', hv, ho⟩
                obtain ⟨g, e9, hge, hkb⟩ := box_of E S' row_ro (k := 2) (f := ⟨#[102]⟩) (t := T) rfl (ho (2, ⟨[.string ⟨#[102]⟩, .string T], 28, 0, 2⟩) (List.mem_singleton.2 rfl)) (hv (9, .pointer (some ⟨2, 0, none⟩)) (List.mem_singleton.2 rfl))
                exact hq f w' ⟨g, e9, hge, by rw [hk]; exact hkb, E.ro_below row_ro⟩
              · have hcfg : CfgOk Try.prog (cfgK9 21 1 T) := by rw [hT]; exact cfgK9_ok (by decide) hTk hbx hk
                refine piece_runH (okF := cfgK9 21 1 T) hcfg mixed 50 (ρ := rowR ad) (h := rowH 21 el) [(0, .slice (some ⟨0, 0, none⟩) (M + 22) c0), (8, .int .i64 21)] [(9, .pointer (some ⟨2, 0, none⟩))] [(2, ⟨[.string ⟨#[103]⟩, .string T], 28, 0, 2⟩)] 128 [39, 40, 41, 42, 43, 44, 45, 46, 47, 48, 49, 50, 51, 52, 53, 9] (fun M hM => by rw [← he]; exact sim M hM) rfl rfl (fun p hp => by
                  simp only [List.mem_cons, List.not_mem_nil, or_false] at hp
                  rcases hp with rfl | rfl
                  · exact row_rel hsp hM hn0
                  · exact row_at he) (by as_aux_lemma => kernel_rfl) (by as_aux_lemma => kernel_rfl) (by as_aux_lemma => kernel_rfl) ?_
                rintro f w' ⟨M', ρ', h', E, S', hv, ho⟩
                obtain ⟨g, e9, hge, hkb⟩ := box_of E S' row_ro (k := 2) (f := ⟨#[103]⟩) (t := T) rfl (ho (2, ⟨[.string ⟨#[103]⟩, .string T], 28, 0, 2⟩) (List.mem_singleton.2 rfl)) (hv (9, .pointer (some ⟨2, 0, none⟩)) (List.mem_singleton.2 rfl))
                exact hq f w' ⟨g, e9, hge, by rw [hk]; exact hkb, E.ro_below row_ro⟩
            · have hM : ∃ M, n0 = M + 23 := ⟨n0 - 23, by omega⟩
              obtain ⟨M, hM⟩ := hM
              have hA := Toks.A_low (k := 22) (by decide)
              have hTk : Toks.A 22 = x := by rw [hA]; show x0.getD 22 0 = x; rw [List.getD_eq_getElem?_getD, ← he, HX.out]; rfl
              rcases hk with hk | hk
              · have hcfg : CfgOk Try.prog (cfgK9 22 0 T) := by rw [hT]; exact cfgK9_ok (by decide) hTk hbx hk
                refine piece_runH (okF := cfgK9 22 0 T) hcfg mixed 50 (ρ := rowR ad) (h := rowH 22 el) [(0, .slice (some ⟨0, 0, none⟩) (M + 23) c0), (8, .int .i64 22)] [(9, .pointer (some ⟨2, 0, none⟩))] [(2, ⟨[.string ⟨#[102]⟩, .string T], 28, 0, 2⟩)] 128 [39, 40, 41, 42, 43, 44, 45, 46, 47, 48, 49, 50, 51, 52, 53, 9] (fun M hM => by rw [← he]; exact sim M hM) rfl rfl (fun p hp => by
                  simp only [List.mem_cons, List.not_mem_nil, or_false] at hp
                  rcases hp with rfl | rfl
                  · exact row_rel hsp hM hn0
                  · exact row_at he) (by as_aux_lemma => kernel_rfl) (by as_aux_lemma => kernel_rfl) (by as_aux_lemma => kernel_rfl) ?_
                rintro f w' ⟨M', ρ', h', E, S', hv, ho⟩
                obtain ⟨g, e9, hge, hkb⟩ := box_of E S' row_ro (k := 2) (f := ⟨#[102]⟩) (t := T) rfl (ho (2, ⟨[.string ⟨#[102]⟩, .string T], 28, 0, 2⟩) (List.mem_singleton.2 rfl)) (hv (9, .pointer (some ⟨2, 0, none⟩)) (List.mem_singleton.2 rfl))
                exact hq f w' ⟨g, e9, hge, by rw [hk]; exact hkb, E.ro_below row_ro⟩
              · have hcfg : CfgOk Try.prog (cfgK9 22 1 T) := by rw [hT]; exact cfgK9_ok (by decide) hTk hbx hk
                refine piece_runH (okF := cfgK9 22 1 T) hcfg mixed 50 (ρ := rowR ad) (h := rowH 22 el) [(0, .slice (some ⟨0, 0, none⟩) (M + 23) c0), (8, .int .i64 22)] [(9, .pointer (some ⟨2, 0, none⟩))] [(2, ⟨[.string ⟨#[103]⟩, .string T], 28, 0, 2⟩)] 128 [39, 40, 41, 42, 43, 44, 45, 46, 47, 48, 49, 50, 51, 52, 53, 9] (fun M hM => by rw [← he]; exact sim M hM) rfl rfl (fun p hp => by
                  simp only [List.mem_cons, List.not_mem_nil, or_false] at hp
                  rcases hp with rfl | rfl
                  · exact row_rel hsp hM hn0
                  · exact row_at he) (by as_aux_lemma => kernel_rfl) (by as_aux_lemma => kernel_rfl) (by as_aux_lemma => kernel_rfl) ?_
                rintro f w' ⟨M', ρ', h', E, S', hv, ho⟩
                obtain ⟨g, e9, hge, hkb⟩ := box_of E S' row_ro (k := 2) (f := ⟨#[103]⟩) (t := T) rfl (ho (2, ⟨[.string ⟨#[103]⟩, .string T], 28, 0, 2⟩) (List.mem_singleton.2 rfl)) (hv (9, .pointer (some ⟨2, 0, none⟩)) (List.mem_singleton.2 rfl))
                exact hq f w' ⟨g, e9, hge, by rw [hk]; exact hkb, E.ro_below row_ro⟩
            · have hM : ∃ M, n0 = M + 24 := ⟨n0 - 24, by omega⟩
              obtain ⟨M, hM⟩ := hM
              have hA := Toks.A_low (k := 23) (by decide)
              have hTk : Toks.A 23 = x := by rw [hA]; show x0.getD 23 0 = x; rw [List.getD_eq_getElem?_getD, ← he, HX.out]; rfl
              rcases hk with hk | hk
              · have hcfg : CfgOk Try.prog (cfgK9 23 0 T) := by rw [hT]; exact cfgK9_ok (by decide) hTk hbx hk
                refine piece_runH (okF := cfgK9 23 0 T) hcfg mixed 50 (ρ := rowR ad) (h := rowH 23 el) [(0, .slice (some ⟨0, 0, none⟩) (M + 24) c0), (8, .int .i64 23)] [(9, .pointer (some ⟨2, 0, none⟩))] [(2, ⟨[.string ⟨#[102]⟩, .string T], 28, 0, 2⟩)] 128 [39, 40, 41, 42, 43, 44, 45, 46, 47, 48, 49, 50, 51, 52, 53, 9] (fun M hM => by rw [← he]; exact sim M hM) rfl rfl (fun p hp => by
                  simp only [List.mem_cons, List.not_mem_nil, or_false] at hp
                  rcases hp with rfl | rfl
                  · exact row_rel hsp hM hn0
                  · exact row_at he) (by as_aux_lemma => kernel_rfl) (by as_aux_lemma => kernel_rfl) (by as_aux_lemma => kernel_rfl) ?_
                rintro f w' ⟨M', ρ', h', E, S', hv, ho⟩
                obtain ⟨g, e9, hge, hkb⟩ := box_of E S' row_ro (k := 2) (f := ⟨#[102]⟩) (t := T) rfl (ho (2, ⟨[.string ⟨#[102]⟩, .string T], 28, 0, 2⟩) (List.mem_singleton.2 rfl)) (hv (9, .pointer (some ⟨2, 0, none⟩)) (List.mem_singleton.2 rfl))
                exact hq f w' ⟨g, e9, hge, by rw [hk]; exact hkb, E.ro_below row_ro⟩
              · have hcfg : CfgOk Try.prog (cfgK9 23 1 T) := by rw [hT]; exact cfgK9_ok (by decide) hTk hbx hk
                refine piece_runH (okF := cfgK9 23 1 T) hcfg mixed 50 (ρ := rowR ad) (h := rowH 23 el) [(0, .slice (some ⟨0, 0, none⟩) (M + 24) c0), (8, .int .i64 23)] [(9, .pointer (some ⟨2, 0, none⟩))] [(2, ⟨[.string ⟨#[103]⟩, .string T], 28, 0, 2⟩)] 128 [39, 40, 41, 42, 43, 44, 45, 46, 47, 48, 49, 50, 51, 52, 53, 9] (fun M hM => by rw [← he]; exact sim M hM) rfl rfl (fun p hp => by
                  simp only [List.mem_cons, List.not_mem_nil, or_false] at hp
                  rcases hp with rfl | rfl
                  · exact row_rel hsp hM hn0
                  · exact row_at he) (by as_aux_lemma => kernel_rfl) (by as_aux_lemma => kernel_rfl) (by as_aux_lemma => kernel_rfl) ?_
                rintro f w' ⟨M', ρ', h', E, S', hv, ho⟩
                obtain ⟨g, e9, hge, hkb⟩ := box_of E S' row_ro (k := 2) (f := ⟨#[103]⟩) (t := T) rfl (ho (2, ⟨[.string ⟨#[103]⟩, .string T], 28, 0, 2⟩) (List.mem_singleton.2 rfl)) (hv (9, .pointer (some ⟨2, 0, none⟩)) (List.mem_singleton.2 rfl))
                exact hq f w' ⟨g, e9, hge, by rw [hk]; exact hkb, E.ro_below row_ro⟩
      case rest =>
        obtain ⟨gk, rfl, hge, hkb, hb9, w9, hw9⟩ := hcut.out
        subst hw9
        clear hcut
        have hI9 := HI.out.below hb9
        have hR1 : Reads w9 w.heap.size 1 (some ad1) n1 (x1.map (Value.int .i64)) := HR1.out.below hI9.bel
        obtain ⟨ad2, y2, ey, hy2, hcy⟩ := ints_atI hR1 (by omega : i < n1)
        obtain rfl : ad1 = ad2 := Option.some.inj ey
        obtain rfl : y2 = y := by rw [HY.out] at hy2; exact (Option.some.inj hy2).symm
        generalize fB (keyF x) = F at *
        clear hy2 hR1 hT HX HR HY ey hbx
        have hq1 := Int.emod_nonneg y2 (show (6 : Int) ≠ 0 by omega)
        have hq2 := Int.emod_lt_of_pos y2 (show (0 : Int) < 6 by omega)
        have hW6 : ∀ w, Calls Try.prog 12 #[.int .i64 y2, .int .i64 6] w fun e w' => e = .returned (.int .i64 (y2 % 6)) ∧ w = w' := fun w => Within_any y2 6 w (by omega) (by omega) (by omega) (by omega)
        generalize y2 % 6 = q at *
        obtain ⟨o, ho⟩ := has_any R F T
        have huq : Uq R := hI9.ms.uniq
        have hns := hI9.sq.ns ho
        have hvc : val cnt o = ((nsOf o).length : Int) := val_cnt
        have e0 := look_has (w := w9.drew) (b := cb) hI9.cn.at huq ho
        obtain ⟨st, d1, d2, e1, e2, e3, hc2, hg2⟩ := incr_has (w := w9.drew) (b := cb) (g := cnt) hI9.cn huq ho (val cnt o + 1)
        obtain ⟨C, hC⟩ : ∃ C, C = val cnt o := ⟨_, rfl⟩
        rw [← hC] at e0 e1 e2 e3
        have hC0 : 0 ≤ C ∧ C ≤ 24 := by have := hns.2; omega
        have hCw : IntKind.i64.wrap (C + 1) = C + 1 := IntWalk.i64_in _ (by omega)
        have hcbl : cb < wr.heap.size := HI.out.cn.at.lt
        have hsbl : sb < wr.heap.size := HI.out.st.lt
        have hVl : ∀ b, V1 b → b < wr.heap.size := HI.out.ms.lt
        have hci : ((nsOf o).length : Int) ≤ i := by have := hns.2; omega
        have k0 : w9.cell? ⟨gk, 0, none⟩ = some (.string F) := hkb.k0
        have k1 : w9.cell? ⟨gk, 1, none⟩ = some (.string T) := hkb.k1
        have HI9 := Lib.hid hI9
        have HKB := Lib.hid hkb
        have HO := Lib.hid ho
        have HUQ := Lib.hid huq
        have HNS := Lib.hid hns
        have HVC := Lib.hid hvc
        have HC := Lib.hid hC
        have HC2 := Lib.hid hc2
        have HG2 := Lib.hid hg2
        clear hI9 hkb ho huq hns hvc hC hc2 hg2 HI
        go_upto_region 11 with (first | (go_at_call 12; refine (hW6 _).mono ?_; rintro e w' ⟨rfl, rfl⟩))
        go_region
        have hv2 : Vol (fun b => b = cb) w9 d2 := (Vol.refl w9).drew.grown HG2.out (fun k hk => .inl (by injection hk with hk; exact hk.symm))
        have hM2 : MsP d2 w.heap.size m mb V1 R := HI9.out.ms.vol hv2 (fun b hb e => HI9.out.cv (e ▸ hb))
        have hs2 : MapAt d2 sb (R.map (en (·.st))) := HI9.out.st.keep (hv2.block _ HI9.out.st.lt HI9.out.ne)
        have hkb2 : KeyB d2 gk F T := HKB.out.block (hv2.block _ HKB.out.lt (by omega))
        obtain ⟨d3, e5, hs3, hg3⟩ := put_has (w := d2) (b := sb) (g := (·.st)) hs2 HUQ.out HO.out (2 + q)
        have hv3 : Vol (fun b => b = sb) d2 d3 := (Vol.refl d2).grown hg3 (fun k hk => .inl (by injection hk with hk; exact hk.symm))
        have hM3 : MsP d3 w.heap.size m mb V1 R := hM2.vol hv3 (fun b hb e => HI9.out.sv (e ▸ hb))
        have hc3 : MapS d3 cb (putKv R cnt F T (val cnt o + 1) o) := HC2.out.keep (hv3.block _ HC2.out.at.lt (fun e => HI9.out.ne e.symm))
        have hkb3 : KeyB d3 gk F T := hkb2.block (hv3.block _ hkb2.lt (by omega))
        have k20 : d2.cell? ⟨gk, 0, none⟩ = some (.string F) := hkb2.k0
        have k21 : d2.cell? ⟨gk, 1, none⟩ = some (.string T) := hkb2.k1
        have HV2 := Lib.hid hv2
        have HV3 := Lib.hid hv3
        have HS3 := Lib.hid hs3
        have HM3 := Lib.hid hM3
        have HC3 := Lib.hid hc3
        have HKB3 := Lib.hid hkb3
        clear hv2 hM2 hs2 hkb2 hg3 hv3 hM3 hc3 hkb3 hs3 k0 k1 hcy e0 e1 e2 e3 HC2 HG2
        go_upto_region 13 with fail
        obtain ⟨d4, hd4⟩ : ∃ d4, d4 = d3.drew := ⟨_, rfl⟩
        have hb4 : Below d3.heap.size d3 d4 := by rw [hd4]; exact (Below.refl _ _).drew
        have hM4 := HM3.out.below hb4
        have hkb4 := HKB3.out.below hb4
        have hc4 : MapS d4 cb (putKv R cnt F T (val cnt o + 1) o) := HC3.out.keep (hb4.block _ HC3.out.at.lt)
        have hs4 : MapAt d4 sb (putKv R (·.st) F T (2 + q) o) := HS3.out.keep (hb4.block _ HS3.out.lt)
        have e6 := look_put (w := d4) (b := cb) HUQ.out HO.out hc4.at
        have hH := Hear_has hM4 HI9.out.sq (by omega) HO.out (e := ⟨#[]⟩) 0 (2 + q) 1
        rw [← HC.out] at e6 hH
        have k40 : d4.cell? ⟨gk, 0, none⟩ = some (.string F) := hkb4.k0
        have k41 : d4.cell? ⟨gk, 1, none⟩ = some (.string T) := hkb4.k1
        have HB4 := Lib.hid hb4
        have HM4 := Lib.hid hM4
        have HC4 := Lib.hid hc4
        have HS4 := Lib.hid hs4
        have HKB4 := Lib.hid hkb4
        clear hb4 hM4 hc4 hs4 hkb4 k20 k21 e5
        refine wp_region_still_tail 10 (by kernel_rfl) (by kernel_rfl) ?_
        simp only [List.take_succ_cons, List.take_zero, List.drop_succ_cons, List.drop_zero]
        rw [show ({ d3 with drawn := d3.drawn + 1 } : World) = d4 from hd4.symm]
        clear hd4
        repeat still_step
        refine wpStill_nil ?_
        go_wp2_with fail
        refine hH.mono ?_
        rintro r w5 ⟨c, rfl, -, hge5, V2, R1, hNx, hM5, hVV, hV2, hvol, hVc⟩
        have hI10 : ApI w w5 m mb sb cb V2 R1 (i + 1) := by
          have l1 := HS4.out.lt
          have l2 := HC4.out.at.lt
          have n1 := nx_st HO.out hNx
          have n2 := nx_cn HO.out hNx
          refine ⟨hM5, by rw [n1]; exact HS4.out.keep (hvol.block _ l1 HI9.out.sv), by rw [n2]; exact HC4.out.keep (hvol.block _ l2 HI9.out.cv), fun e => ?_, fun e => ?_, HI9.out.ne, HI9.out.ge, HI9.out.sq.nx HO.out hNx, ?_⟩
          · rcases hV2 _ e with h | h
            · exact HI9.out.sv h
            · omega
          · rcases hV2 _ e with h | h
            · exact HI9.out.cv h
            · omega
          · have v1 := bel_vol HI9.out.bel HV2.out (fun b e => by rw [e]; exact HI9.out.ge.2)
            have v2 := bel_vol v1 HV3.out (fun b e => by rw [e]; exact HI9.out.ge.1)
            have v3 := v2.trans (HB4.out.mono v2.size)
            exact bel_vol v3 hvol (fun b e => HI9.out.ms.ge b e)
        have HI10 := Lib.hid hI10
        clear hI10 hNx hM5 hVV hV2 hvol hVc hH hge5
        go_wp2_with fail
        refine ⟨?_, by simp [intOf]; omega⟩
        exact Lib.hid ⟨i + 1, V2, R1, by simp, by omega, HI10.out, _, rfl⟩
    · have hall2 : ¬ (i : Int) < n0 ∨ ((i : Int) < n0 ∧ ¬ (i : Int) < n1) ∨ ((i : Int) < n0 ∧ (i : Int) < n1 ∧ ¬ (i : Int) < 24) := by omega
      clear hall
      rcases hall2 with h1 | ⟨h1, h2⟩ | ⟨h1, h2, h3⟩
      all_goals
        go_upto_block 2 with fail
        obtain ⟨fb, hfb⟩ : ∃ fb, fb = wr.heap.size := ⟨_, rfl⟩
        obtain ⟨W2, hW2⟩ : ∃ W2, W2 = wr.alloc (Obj.cells #[Value.string ⟨#[102]⟩, Value.string ⟨#[103]⟩] 9) := ⟨_, rfl⟩
        rw [← hW2, ← hfb]
        have hfr : Blk W2 fb 9 #[Value.string ⟨#[102]⟩, Value.string ⟨#[103]⟩] := by rw [hW2, hfb]; exact Blk.new _ _ _
        have hI2 : ApI w W2 m mb sb cb V1 R i := HI.out.below (by rw [hW2]; exact (Below.refl _ _).alloc (Nat.le_refl _) _)
        have HFR := Lib.hid hfr
        have HI2 := Lib.hid hI2
        clear hfr hI2 hW2 hfb
        go_wp2_with fail
        go_loopw [84] (fun vk wx => Hid (∃ k : Nat, vk = .int .i64 k ∧ k ≤ 2 ∧ Below W2.heap.size W2 wx ∧ ∃ w7, w7 = wx)) (fun vk _ => 2 - (intOf vk).toNat)
        case atStart => exact Lib.hid ⟨0, rfl, by omega, Below.refl _ _, _, rfl⟩
        case round =>
          obtain ⟨k, rfl, hk2, hb3, w3, hw3⟩ := hrel.out
          subst hw3
          clear hrel
          have HB3 := Lib.hid hb3
          clear hb3
          by_cases hlt : (k : Int) < 2
          · obtain ⟨G, hG⟩ : ∃ G, (#[Value.string ⟨#[102]⟩, Value.string ⟨#[103]⟩] : Array Value)[k]? = some (.string G) := by
              rcases (by omega : k = 0 ∨ k = 1) with rfl | rfl
              · exact ⟨_, rfl⟩
              · exact ⟨_, rfl⟩
            have c3 : w3.cell? ⟨fb, k, none⟩ = some (.string G) := ((HFR.out.below HB3.out HFR.out.lt).cell k).trans hG
            clear hG
            go_upto_block 4 with fail
            clear c3
            go_wp2_with fail
            go_loopw [13] (fun vj wx => Hid (∃ j : Nat, vj = .int .i64 j ∧ j ≤ 8 ∧ Below W2.heap.size W2 wx ∧ ∃ w7, w7 = wx)) (fun vj _ => 8 - (intOf vj).toNat)
            case atStart => exact Lib.hid ⟨0, rfl, by omega, HB3.out, _, rfl⟩
            case round =>
              obtain ⟨j, rfl, hj8, hb4, w4, hw4⟩ := hrel.out
              subst hw4
              clear hrel
              have HB4 := Lib.hid hb4
              clear hb4
              by_cases hjl : (j : Int) < 8
              · have hTk := fun w => Task_any (j : Int) (by omega) w
                generalize taskB ((j : Int) % 8) = T at hTk
                obtain ⟨o, ho⟩ := has_any R G T
                have HO := Lib.hid ho
                clear ho
                go_upto_region 22 with (first | (go_at_call 13; refine (hTk _).mono ?_; rintro e w5 ⟨rfl, hb5⟩; have HB5 := Lib.hid (HB4.out.trans (hb5.mono HB4.out.size)); clear hb5))
                obtain ⟨gk, hgk⟩ : ∃ gk, gk = w5.heap.size := ⟨_, rfl⟩
                obtain ⟨w6, hw6⟩ : ∃ w6, w6 = w5.alloc (Obj.cells #[Value.string G, Value.string T] 28) := ⟨_, rfl⟩
                rw [← hw6, ← hgk]
                have hkey : Blk w6 gk 28 #[.string G, .string T] := by rw [hw6, hgk]; exact Blk.new _ _ _
                have hB6 : Below W2.heap.size W2 w6 := by rw [hw6]; exact HB5.out.alloc HB5.out.size _
                have hI6 := HI2.out.below hB6
                have hns := hI6.sq.ns HO.out
                have k60 : w6.cell? ⟨gk, 0, none⟩ = some (.string G) := hkey.cell 0
                have k61 : w6.cell? ⟨gk, 1, none⟩ = some (.string T) := hkey.cell 1
                have hH := Heard_has hI6.ms HO.out (by have := hns.2; omega)
                obtain ⟨L, hL⟩ : ∃ L, L = (nsOf o).length := ⟨_, rfl⟩
                have hL24 : L ≤ 24 := by have := hns.2; omega
                rw [← hL] at hH
                have HKEY := Lib.hid hkey
                have HB6 := Lib.hid hB6
                have HI6 := Lib.hid hI6
                have HNS := Lib.hid hns
                have HL := Lib.hid hL
                clear hkey hB6 hI6 hns hL hw6 hgk hTk
                go_upto_region 23 with (first | (go_at_call 17; refine hH.mono ?_; rintro e w7 ⟨v7, rfl, ho7, hb7⟩; obtain ⟨Ah, ch, rfl, hch, -⟩ := own_slice ho7; have HO7 := Lib.hid ho7; have HB7 := Lib.hid hb7; clear ho7 hb7 hH))
                go_cut [113] from 99 to 112 (fun vb wx => Hid (vb = .bool false ∧ ApI w wx m mb sb cb V1 R i ∧ wx.ownsRow w6.heap.size 3 1 (.slice Ah L ch) L (ints (nsOf o)) ∧ Below W2.heap.size W2 wx ∧ ∃ w9, w9 = wx))
                case first =>
                  have hI7 := HI6.out.below HB7.out
                  obtain ⟨s, hs⟩ : ∃ s, s = val (·.st) o := ⟨_, rfl⟩
                  have hlS : ∀ {wa : World}, ApI w wa m mb sb cb V1 R i → (Instr.lookup 40 (.map (some sb)) (tkK G T) false).run Try.prog wa = .ok (.int .i64 s) wa := fun h => by rw [hs]; exact look_has h.st h.ms.uniq HO.out
                  have hlC : ∀ {wa : World}, ApI w wa m mb sb cb V1 R i → (Instr.lookup 40 (.map (some cb)) (tkK G T) false).run Try.prog wa = .ok (.int .i64 (L : Int)) wa := fun h => by rw [HL.out, ← val_cnt]; exact look_has h.cn.at h.ms.uniq HO.out
                  have hD : ∀ {wa : World}, Below wa.heap.size wa wa.drew := (Below.refl _ _).drew
                  have keep : ∀ {wa wb : World}, (wa.cell? ⟨gk, 0, none⟩ = some (.string G) ∧ wa.cell? ⟨gk, 1, none⟩ = some (.string T) ∧ (Instr.lookup 40 (.map (some sb)) (tkK G T) false).run Try.prog wa = .ok (.int .i64 s) wa ∧ (Instr.lookup 40 (.map (some cb)) (tkK G T) false).run Try.prog wa = .ok (.int .i64 (L : Int)) wa ∧ (ApI w wa m mb sb cb V1 R i ∧ Blk wa gk 28 #[.string G, .string T] ∧ wa.ownsRow w6.heap.size 3 1 (.slice Ah L ch) L (ints (nsOf o)) ∧ Below W2.heap.size W2 wa)) → Below wa.heap.size wa wb → (wb.cell? ⟨gk, 0, none⟩ = some (.string G) ∧ wb.cell? ⟨gk, 1, none⟩ = some (.string T) ∧ (Instr.lookup 40 (.map (some sb)) (tkK G T) false).run Try.prog wb = .ok (.int .i64 s) wb ∧ (Instr.lookup 40 (.map (some cb)) (tkK G T) false).run Try.prog wb = .ok (.int .i64 (L : Int)) wb ∧ (ApI w wb m mb sb cb V1 R i ∧ Blk wb gk 28 #[.string G, .string T] ∧ wb.ownsRow w6.heap.size 3 1 (.slice Ah L ch) L (ints (nsOf o)) ∧ Below W2.heap.size W2 wb)) := fun h hb => by
                    obtain ⟨_, _, _, _, h5, h6, h7, h8⟩ := h
                    have j5 := h5.below hb
                    have j6 := h6.below hb h6.lt
                    exact ⟨j6.cell 0, j6.cell 1, hlS j5, hlC j5, j5, j6, own_keep h7 hb, h8.trans (hb.mono h8.size)⟩
                  have hk7 := HKEY.out.below HB7.out HKEY.out.lt
                  have hS0 : (w7.cell? ⟨gk, 0, none⟩ = some (.string G) ∧ w7.cell? ⟨gk, 1, none⟩ = some (.string T) ∧ (Instr.lookup 40 (.map (some sb)) (tkK G T) false).run Try.prog w7 = .ok (.int .i64 s) w7 ∧ (Instr.lookup 40 (.map (some cb)) (tkK G T) false).run Try.prog w7 = .ok (.int .i64 (L : Int)) w7 ∧ (ApI w w7 m mb sb cb V1 R i ∧ Blk w7 gk 28 #[.string G, .string T] ∧ w7.ownsRow w6.heap.size 3 1 (.slice Ah L ch) L (ints (nsOf o)) ∧ Below W2.heap.size W2 w7)) := ⟨hk7.cell 0, hk7.cell 1, hlS hI7, hlC hI7, hI7, hk7, HO7.out, HB6.out.trans (HB7.out.mono HB6.out.size)⟩
                  have c1 : ∀ {wa : World} {p1 p2 p3 p4 p5 : Prop}, (p1 ∧ p2 ∧ p3 ∧ p4 ∧ (ApI w wa m mb sb cb V1 R i ∧ p5)) → Calls Try.prog 16 #[.pointer (some ⟨m, 0, none⟩), .agg #[.string G, .string T]] wa fun e w' => e = .returned (.int .i64 s) ∧ Below wa.heap.size wa w' := fun h => by rw [hs]; exact State_has h.2.2.2.2.1.ms HO.out
                  have n1 : (s != s) = false := by simp
                  have n2 : ((L : Int) != (L : Int)) = false := by simp
                  clear hI7 hk7 hs hlS hlC k60 k61
                  go_region_held3 (fun wa => wa.cell? ⟨gk, 0, none⟩ = some (.string G) ∧ wa.cell? ⟨gk, 1, none⟩ = some (.string T) ∧ (Instr.lookup 40 (.map (some sb)) (tkK G T) false).run Try.prog wa = .ok (.int .i64 s) wa ∧ (Instr.lookup 40 (.map (some cb)) (tkK G T) false).run Try.prog wa = .ok (.int .i64 (L : Int)) wa ∧ (ApI w wa m mb sb cb V1 R i ∧ Blk wa gk 28 #[.string G, .string T] ∧ wa.ownsRow w6.heap.size 3 1 (.slice Ah L ch) L (ints (nsOf o)) ∧ Below W2.heap.size W2 wa)) (first | assumption | exact keep (by assumption) (by assumption) | exact keep (by assumption) hD | exact keep (keep (by assumption) hD) (by assumption))
                    (first
                      | (go_at_call 16; refine (c1 (by assumption)).mono ?_; rintro e w' ⟨rfl, hb⟩))
                  all_goals
                    rename_i hHeld
                    go_wp2_with fail
                    go_meet
                    exact Lib.hid ⟨rfl, hHeld.2.2.2.2.1, hHeld.2.2.2.2.2.2.1, hHeld.2.2.2.2.2.2.2, _, rfl⟩
                case rest =>
                  obtain ⟨rfl, hI9, ho9, hb9, w9, hw9⟩ := hcut.out
                  subst hw9
                  clear hcut
                  have HI9 := Lib.hid hI9
                  have HO9 := Lib.hid ho9
                  have HB9 := Lib.hid hb9
                  clear hI9 ho9 hb9
                  go_wp2_with fail
                  go_loopw [116] (fun vp wx => ∃ p : Nat, vp = .int .i64 p ∧ p ≤ L ∧ wx = w9) (fun vp _ => L - (intOf vp).toNat)
                  case atStart => exact ⟨0, rfl, by omega, rfl⟩
                  case round =>
                    obtain ⟨p, rfl, hp, rfl⟩ := hrel
                    by_cases hpl : (p : Int) < L
                    · obtain ⟨ua, rfl⟩ := own_some HO9.out (by omega)
                      have e9 : nsOf o = seqI L := by rw [HL.out]; exact HNS.out.1
                      have cp := (HO9.out.cellAt p (by omega)).trans (show _ = some (Value.int .i64 ((p : Int) + 1)) by rw [e9, List.getElem?_map, seqI_get (by omega)]; rfl)
                      have n3 : (((p : Int) + 1) != ((p : Int) + 1)) = false := by simp
                      clear e9
                      go_wp2_with fail
                      refine ⟨?_, by simp [intOf]; omega⟩
                      exact ⟨p + 1, by simp, by omega, trivial⟩
                    · go_wp2_with fail
                      refine ⟨?_, by simp [intOf]; omega⟩
                      exact Lib.hid ⟨j + 1, by simp, by omega, HB9.out, _, rfl⟩
              · go_wp2_with fail
                refine ⟨?_, by simp [intOf]; omega⟩
                exact Lib.hid ⟨k + 1, by simp, by omega, HB4.out, _, rfl⟩
          · go_wp2_with (go_at_call 19; refine (wkk _).mono ?_; rintro e w10 ⟨rfl, hb10⟩)
            go_ret
            have hb11 := (HI2.out.below HB3.out).bel
            exact ⟨rfl, hb11.trans (hb10.mono hb11.size)⟩

end Go.Proofs.Ytacmmkpcnpnjoaa.masterApart
