/- The plain hands: Step, Hello, Live. -/
import Derived.Test.YtiflhfhonhbcpaaHwV
namespace Go.Proofs.Ytiflhfhonhbcpaa.Hw
open Go Go.RowKit Go.Proofs.Ytiflhfhonhbcpaa Go.Proofs.Ytiflhfhonhbcpaa.Crw Go.Proofs.Ytiflhfhonhbcpaa.Vl Go.ChangeShapes Go.WideShapes Go.ChangeAt
set_option linter.unusedVariables false
set_option maxRecDepth 1000000
section
variable {w w' : World} {B h : Nat} {V U : Nat → Prop} {L : List Pr} {K : List Ky} {v lv : Value}
/-- What one round of the plain Step makes. -/
def RStpI (w : World) (B h : Nat) (V : Nat → Prop) (K : List Ky) (v lv : Value) (Lq : List Aq) (j : Nat) (vl : Value) (wr : World) : Prop :=
  ∃ R', RqP wr B h V R' K v lv ∧ R'.map aq = (Lq.take j).map stepQ ++ Lq.drop j ∧ (∃ N, N = ((Lq.take j).flatMap ansQ).length ∧ N ≤ j ∧ wr.ownsRow w.heap.size 30 9 vl N (mssV ((Lq.take j).flatMap ansQ))) ∧ Vol V w wr
set_option maxHeartbeats 16000000 in
theorem R_Step (H : RqP w B h V L K v lv) (hl : L.length ≤ 100) :
    Calls Try.prog 25 #[.pointer (some ⟨h, 0, none⟩)] w fun e9 w' => ∃ v', e9 = .returned v' ∧ RStpI w B h V K v lv (L.map aq) L.length v' w' := by
  obtain ⟨i0, hi0, hz0, hz1, hz2⟩ := info_parts msg_info
  obtain ⟨A0, c0, rfl, hc0, -⟩ := own_slice H.row
  have h0 : w.cell? ⟨h, 0, none⟩ = some (.slice A0 L.length c0) := H.blk.cell 0
  obtain ⟨M, hM⟩ : ∃ M, M = L.length := ⟨_, rfl⟩
  obtain ⟨Lq, hLq⟩ : ∃ Lq, Lq = L.map aq := ⟨_, rfl⟩
  rw [← hM] at h0 hc0 hl H ⊢
  rw [← hLq]
  have HH := Lib.hid H
  have HL := Lib.hid hM
  have HLq := Lib.hid hLq
  have hst : RStpI w B h V K (.slice A0 M c0) lv Lq 0 (.slice none 0 0) w := ⟨L, H, by rw [hLq]; simp, ⟨0, by simp, by omega, ⟨by simp, .inl ⟨rfl, rfl⟩⟩⟩, Vol.refl _⟩
  have HST := Lib.hid hst
  clear H hM hLq hst
  go_enter Try.func25, Try.ntmps25
  go_wp2_with fail
  go_loopw [3, 12] (fun vl vi wr => Hid (∃ j : Nat, vi = .int .i64 j ∧ j ≤ M ∧ RStpI w B h V K (.slice A0 M c0) lv Lq j vl wr ∧ ∃ w7, w7 = wr)) (fun _ vi _ => M - (intOf vi).toNat)
  case atStart => exact Lib.hid ⟨0, rfl, by omega, HST.out, _, rfl⟩
  case round =>
    obtain ⟨j, rfl, hj, ⟨R', h7, hma, ⟨N, hN, hNj, ho⟩, hvw⟩, w7, hw7⟩ := hrel.out
    subst hw7
    clear hrel HST
    obtain ⟨Al, cl, rfl, hcl, -⟩ := own_slice ho
    have hRL : R'.length = M := by
      have := congrArg List.length hma
      simp only [List.length_map, List.length_append, List.length_take, List.length_drop] at this
      have h2 := congrArg List.length HLq.out
      rw [List.length_map] at h2
      have := HL.out
      omega
    obtain ⟨X, hX⟩ : ∃ X, X = (Lq.take j).flatMap ansQ := ⟨_, rfl⟩
    rw [← hX] at ho
    have HXE := Lib.hid hX
    have HNE := Lib.hid hN
    have H7 := Lib.hid h7
    have HMA := Lib.hid hma
    have HO := Lib.hid ho
    have HVW7 := Lib.hid hvw
    have HRL := Lib.hid hRL
    have HSZ := Lib.hid hvw.size
    by_cases hlt : (j : Int) < M
    · obtain ⟨p, hp⟩ : ∃ p, R'[j]? = some p := ⟨R'[j]'(by omega), List.getElem?_eq_getElem _⟩
      have hrow := h7.row
      rw [hRL] at hrow
      obtain ⟨u, rfl⟩ := own_some hrow (by omega)
      have c7 : w7.cell? ⟨u, j, none⟩ = some (ptr p) := (hrow.cellAt j (by omega)).trans (by rw [List.getElem?_map, hp]; rfl)
      have hpr := h7.ps.prs j p hp
      have hwin := h7.ps.tks j p hp
      have hOf := Of_p hpr 8
      obtain ⟨plv, hplv⟩ : ∃ b, b = p.lv := ⟨_, rfl⟩
      have a2 : w7.cell? ⟨p.g, 3, none⟩ = some (.bool plv) := by rw [hplv]; exact hpr.cell 3
      obtain ⟨pt, hpt⟩ : ∃ l, l = p.ts := ⟨_, rfl⟩
      obtain ⟨At, ct, hv0, hct, hctm, hAt⟩ := hwin.form
      have HPR := Lib.hid hpr
      have HWIN := Lib.hid hwin
      have HPL := Lib.hid hplv.symm
      have HPj := Lib.hid hp
      have HV0 := Lib.hid hv0
      have a3 : w7.cell? ⟨p.g, 4, none⟩ = some (.slice At pt.length ct) := by rw [hpt, ← hv0]; exact hpr.cell 4
      rw [← hpt] at hct
      cases plv
      · clear ho h7 hma hvw hRL hN hX hrow hpr hwin hplv hp hv0 hAt hctm hpt hOf
        go_wp2_with fail
        refine ⟨?_, by simp [intOf]; omega⟩
        have hse : R'.set j p = R' := set_self HPj.out
        have hmm := mid_next (p' := p) HMA.out HPj.out (by simp [stepQ, HPL.out])
        rw [hse] at hmm
        refine Lib.hid ⟨j + 1, by simp, by omega, ⟨_, H7.out, hmm, ⟨N, ?_, by omega, ?_⟩, HVW7.out⟩, _, rfl⟩
        · rw [take_flat ansQ (mid_at HMA.out HPj.out), List.length_append, ← HNE.out]; simp [ansQ, HPL.out]
        · rw [take_flat ansQ (mid_at HMA.out HPj.out), ← HXE.out]
          have e0 : ansQ (aq p) = [] := by simp [ansQ, HPL.out]
          rw [e0, List.append_nil]
          exact HO.out
      rcases pt with _ | ⟨x, rest⟩
      · have HTS := Lib.hid hpt
        clear ho h7 hma hvw hRL hN hX hrow hpr hwin hplv hp hv0 hAt hctm hpt hOf
        go_wp2_with fail
        refine ⟨?_, by simp [intOf]; omega⟩
        have hse : R'.set j p = R' := set_self HPj.out
        have hmm := mid_next (p' := p) HMA.out HPj.out (by simp [stepQ, ← HTS.out])
        rw [hse] at hmm
        refine Lib.hid ⟨j + 1, by simp, by omega, ⟨_, H7.out, hmm, ⟨N, ?_, by omega, ?_⟩, HVW7.out⟩, _, rfl⟩
        · rw [take_flat ansQ (mid_at HMA.out HPj.out), List.length_append, ← HNE.out]; simp [ansQ, ← HTS.out]
        · rw [take_flat ansQ (mid_at HMA.out HPj.out), ← HXE.out]
          have e0 : ansQ (aq p) = [] := by simp [ansQ, ← HTS.out]
          rw [e0, List.append_nil]
          exact HO.out
      · have HTS := Lib.hid hpt.symm
        have hw0 := hwin
        rw [hv0, ← hpt] at hw0
        obtain ⟨g, o', c, hv, -, -⟩ := hw0.at (by simp)
        injection hv with hv _ hv2
        subst hv hv2
        obtain ⟨n, hn⟩ : ∃ n, n = (x :: rest).length := ⟨_, rfl⟩
        have hn1 : 0 < n := by rw [hn]; simp
        have hn0 : ((n : Int) == 0) = false := by simp; omega
        rw [← hn] at a3 hct
        rw [← hn] at hw0
        have hgne : p.g ≠ g := fun e => hw0.blk_ne hpr mPT.symm (by rw [e]; rfl)
        have HNN := Lib.hid hn
        have HW0 := Lib.hid hw0
        have HGN := Lib.hid hgne
        obtain ⟨xb', hxb⟩ : ∃ b, b = x.b := ⟨_, rfl⟩
        have HXB := Lib.hid hxb.symm
        clear ho h7 hma hvw hRL hN hX hrow hpr hwin hplv hp hv0 hAt hctm hpt hgne
        go_upto_region 7 with (go_at_call 54; refine hOf.mono ?_; rintro e9 wA ⟨rfl, hbA⟩)
        obtain ⟨g6, hg6⟩ : ∃ g, g = wA.heap.size := ⟨_, rfl⟩
        have hprA := HPR.out.below hbA HPR.out.lt
        have hwA := HW0.out.below hbA
        have b3 : ∀ o, (wA.alloc o).cell? ⟨p.g, 4, none⟩ = some (.slice (some ⟨g, o', none⟩) n ct) := fun o => ((hprA.alloc o).cell 4).trans (by rw [HNN.out, ← HTS.out]; exact congrArg some HV0.out)
        have t0 : ∀ q, (wA.alloc q).cell? ⟨g, o', none⟩ = some (.string x.t) := fun q => by
          have := (hwA.alloc q).cell (i := 0) (by omega)
          rw [Nat.add_zero] at this
          exact this.trans (by simp [tqV])
        have t1 : ∀ q, (wA.alloc q).cell? ⟨g, o' + 1, none⟩ = some (.bool xb') := fun q => by
          have := (hwA.alloc q).cell (i := 1) (by omega)
          rw [hxb]
          exact this.trans (by simp [tqV])
        have HBA := Lib.hid hbA
        have HG6 := Lib.hid hg6
        clear hOf a2 a3 c7 hbA hxb hprA hwA hn hg6
        cases xb' with
        | true =>
          go_upto_region 10 with fail
          obtain ⟨W6, hW6⟩ : ∃ W, W = wA.alloc (.cells (msA ⟨8, p.r, x.t, 3⟩) 30) := ⟨_, rfl⟩
          rw [← hW6, ← HG6.out]
          have hb6 : Below w7.heap.size w7 W6 := by rw [hW6]; exact HBA.out.alloc HBA.out.size _
          have hm6 : Blk W6 g6 30 (msA ⟨8, p.r, x.t, 3⟩) := by rw [hW6, HG6.out]; exact Blk.new wA _ _
          have hp6 := HPR.out.below hb6 HPR.out.lt
          have d3 : W6.cell? ⟨p.g, 4, none⟩ = some (.slice (some ⟨g, o', none⟩) n ct) := by rw [hW6]; exact b3 _
          have HB6 := Lib.hid hb6
          have HM6 := Lib.hid hm6
          have HP6 := Lib.hid hp6
          have f3 : W6.frozen? ⟨p.g, 4, none⟩ = false := hp6.frozen 4
          clear hW6 hb6 hm6 hp6 b3 t0 t1
          go_upto_region 12 with fail
          obtain ⟨A1, hA1⟩ : ∃ A : Option Addr, A = if ct = 1 then some (⟨g, o', none⟩ : Addr) else some ⟨g, o' + 2, none⟩ := ⟨_, rfl⟩
          obtain ⟨W8, hW8⟩ : ∃ W, W = W6.setCell ⟨p.g, 4, none⟩ (.slice A1 (n - 1) (ct - 1)) := ⟨_, rfl⟩
          rw [← hA1, ← hW8]
          have hwt : Win w7 B 118 2 (.slice A1 (n - 1) (ct - 1)) (n - 1) (tqV rest) := by
            have := HW0.out.tail hn1 hA1
            simpa [tqV] using this
          have hown : ∀ b, (Value.slice A1 (n - 1) (ct - 1)).ownBlock = some b → p.tv.ownBlock = some b := fun b e => by
            rw [HV0.out, ← e, hA1]
            split <;> rfl
          have bp8 := HP6.out.set_ 4 (.slice A1 (n - 1) (ct - 1))
          rw [← hW8] at bp8
          have hw8 : Win W8 B 118 2 (.slice A1 (n - 1) (ct - 1)) (n - 1) (tqV rest) := by
            rw [hW8]
            exact (hwt.below HB6.out).vol (U := fun b => b = p.g) (Vol.setCell (V := fun b => b = p.g) (a := ⟨p.g, 4, none⟩) (Vol.refl W6) (.inl rfl) _) (fun b hb e => hwt.blk_ne HPR.out mPT.symm (by rw [hb, e]))
          have v78 : Vol (fun b => b = p.g ∨ p.tv.ownBlock = some b) w7 W8 := by
            rw [hW8]
            exact Vol.setCell (V := fun b => b = p.g ∨ p.tv.ownBlock = some b) (a := ⟨p.g, 4, none⟩) (Vol.of_below HB6.out) (.inl (.inl rfl)) _
          have hrl : rest.length = n - 1 := by rw [HNN.out]; simp
          have H8 := Lib.hid ((H7.out.turn (p' := ⟨p.g, p.r, p.lv, .slice A1 (n - 1) (ct - 1), rest⟩) HPj.out rfl rfl v78 (by simpa using bp8) (by rw [hrl]; exact hw8) (fun b e => .inl (hown b e))).same (fun b => ⟨fun e => e.elim id (fun e => (H7.out.ps.vp j p HPj.out).2 b (hown b e.2)), .inl⟩))
          have hm8 : Blk W8 g6 30 (msA ⟨8, p.r, x.t, 3⟩) := by
            rw [hW8]
            exact HM6.out.far (p := ⟨p.g, 4, none⟩) (fun e => HM6.out.ne_ HP6.out (by decide) e) _
          have e0 : W8.cell? ⟨g6, 0, none⟩ = some (.int .i64 8) := hm8.cell 0
          have e1 : W8.cell? ⟨g6, 1, none⟩ = some (.string p.r.f) := hm8.cell 1
          have e2 : W8.cell? ⟨g6, 2, none⟩ = some (.string p.r.e) := hm8.cell 2
          have e3 : W8.cell? ⟨g6, 3, none⟩ = some (.string x.t) := hm8.cell 3
          have e4 : W8.cell? ⟨g6, 4, none⟩ = some (.int .i64 p.r.n) := hm8.cell 4
          have e5 : W8.cell? ⟨g6, 5, none⟩ = some (.int .i64 3) := hm8.cell 5
          have e6 : W8.cell? ⟨g6, 6, none⟩ = some (.int .i64 0) := hm8.cell 6
          have e7 : W8.cell? ⟨g6, 7, none⟩ = some (.int .i64 0) := hm8.cell 7
          have e8 : W8.cell? ⟨g6, 8, none⟩ = some (.slice none 0 0) := hm8.cell 8
          have HVW8 := Lib.hid (HVW7.out.trans v78 (fun b e => .inl (e.elim (fun e => by rw [e]; exact (H7.out.ps.vp j p HPj.out).1) (fun e => (H7.out.ps.vp j p HPj.out).2 b e))))
          have HO8 := Lib.hid (own_vol HO.out v78 (fun b hb e => by
            have := H7.out.ps.far_own HO.out (by decide) (by decide) hb HPj.out
            exact e.elim (fun e => this.1 e.symm) this.2))
          have HSZ8 := Lib.hid HVW8.out.size
          clear hA1 hW8 hwt hown bp8 hw8 v78 hrl hm8 d3 f3
          go_wp2_with (at_builtin; refine wpList_append_own _ rfl _ _ 26 rfl w.heap.size 30 i0 _ 9 112 Try.underlying26 hi0 hz0 hz1 hz2 rfl (by decide) _ _ _ rfl (HO8.out.alloc _) ⟨W8.heap.size, 0, none⟩ 1 1 (msC ⟨8, p.r, x.t, 3⟩) rfl rfl (cells_new _ _ _) (msC_one _) (by simp only [maxLen]; omega) (by omega) (by have := HSZ8.out; simp; omega) ?_; intro v9 w9 hown9 hg9 hn9)
          refine ⟨?_, by simp [intOf]; omega⟩
          have hv9 : Vol (fun b => w.heap.size ≤ b) W8 w9 := ((Vol.refl (V := fun b => w.heap.size ≤ b) W8).alloc _).grown hg9 (fun k hk => .inl (HO8.out.lt k hk).1)
          have hVw : ∀ b, V b → ¬ (w.heap.size ≤ b) := fun b hb e => by have := HH.out.lt b hb; omega
          have H9 := H8.out.vol hv9 hVw
          refine Lib.hid ⟨j + 1, by simp, by omega, ⟨_, H9, mid_next HMA.out HPj.out ?_, ⟨N + 1, ?_, by omega, ?_⟩, ?_⟩, _, rfl⟩
          · simp [stepQ, HPL.out, HTS.out, HXB.out]
          · rw [take_flat ansQ (mid_at HMA.out HPj.out), List.length_append, ← HNE.out]; simp [ansQ, HPL.out, HTS.out]
          · rw [take_flat ansQ (mid_at HMA.out HPj.out), ← HXE.out, mssV_app, show ansQ (aq p) = [⟨8, p.r, x.t, 3⟩] by simp [ansQ, HPL.out, HTS.out, HXB.out], mssV_single]; exact hown9
          · exact HVW8.out.trans hv9 (fun b e => .inr e)
        | false =>
          go_upto_region 11 with fail
          obtain ⟨W6, hW6⟩ : ∃ W, W = wA.alloc (.cells (msA ⟨8, p.r, x.t, 2⟩) 30) := ⟨_, rfl⟩
          rw [← hW6, ← HG6.out]
          have hb6 : Below w7.heap.size w7 W6 := by rw [hW6]; exact HBA.out.alloc HBA.out.size _
          have hm6 : Blk W6 g6 30 (msA ⟨8, p.r, x.t, 2⟩) := by rw [hW6, HG6.out]; exact Blk.new wA _ _
          have hp6 := HPR.out.below hb6 HPR.out.lt
          have d3 : W6.cell? ⟨p.g, 4, none⟩ = some (.slice (some ⟨g, o', none⟩) n ct) := by rw [hW6]; exact b3 _
          have HB6 := Lib.hid hb6
          have HM6 := Lib.hid hm6
          have HP6 := Lib.hid hp6
          have hw06 := HW0.out.below hb6
          have f1 : W6.frozen? ⟨g, o' + 1, none⟩ = false := hw06.frozen _
          have d1 : W6.cell? ⟨g, o' + 1, none⟩ = some (.bool false) := by rw [hW6]; exact t1 _
          have HW06 := Lib.hid hw06
          clear hW6 hb6 hm6 hp6 b3 t0 t1 hw06
          go_upto_region 12 with fail
          obtain ⟨W8, hW8⟩ : ∃ W, W = W6.setCell ⟨g, o' + 1, none⟩ (.bool true) := ⟨_, rfl⟩
          rw [← hW8]
          have hw8 : Win W8 B 118 2 (.slice (some ⟨g, o', none⟩) n ct) n (tqV (⟨x.t, true⟩ :: rest)) := by
            have := HW06.out.set (i := 1) (by omega) (.bool true)
            rw [← hW8] at this
            simpa [tqV] using this
          have bp8 : Blk W8 p.g 115 (rpC p) := by rw [hW8]; exact HP6.out.far (p := ⟨g, o' + 1, none⟩) HGN.out _
          have v78 : Vol (fun b => b = p.g ∨ p.tv.ownBlock = some b) w7 W8 := by
            rw [hW8]
            exact Vol.setCell (V := fun b => b = p.g ∨ p.tv.ownBlock = some b) (a := ⟨g, o' + 1, none⟩) (Vol.of_below HB6.out) (.inl (.inr (by rw [HV0.out]; rfl))) _
          have hrl : (⟨x.t, true⟩ :: rest : List Tq).length = n := by rw [HNN.out]; simp
          have H8 := Lib.hid ((H7.out.turn (p' := ⟨p.g, p.r, p.lv, p.tv, ⟨x.t, true⟩ :: rest⟩) HPj.out rfl rfl v78 bp8 (by rw [hrl, HV0.out, HTS.out, ← HNN.out]; exact hw8) (fun b e => .inl e)).same (fun b => ⟨fun e => e.elim id (fun e => (H7.out.ps.vp j p HPj.out).2 b e.2), .inl⟩))
          have hg6g : g6 ≠ g := fun e => by have := (HW06.out.blk_ne HM6.out (by decide)); exact this (by rw [e]; rfl)
          have hm8 : Blk W8 g6 30 (msA ⟨8, p.r, x.t, 2⟩) := by
            rw [hW8]
            exact HM6.out.far (p := ⟨g, o' + 1, none⟩) hg6g _
          have e0 : W8.cell? ⟨g6, 0, none⟩ = some (.int .i64 8) := hm8.cell 0
          have e1 : W8.cell? ⟨g6, 1, none⟩ = some (.string p.r.f) := hm8.cell 1
          have e2 : W8.cell? ⟨g6, 2, none⟩ = some (.string p.r.e) := hm8.cell 2
          have e3 : W8.cell? ⟨g6, 3, none⟩ = some (.string x.t) := hm8.cell 3
          have e4 : W8.cell? ⟨g6, 4, none⟩ = some (.int .i64 p.r.n) := hm8.cell 4
          have e5 : W8.cell? ⟨g6, 5, none⟩ = some (.int .i64 2) := hm8.cell 5
          have e6 : W8.cell? ⟨g6, 6, none⟩ = some (.int .i64 0) := hm8.cell 6
          have e7 : W8.cell? ⟨g6, 7, none⟩ = some (.int .i64 0) := hm8.cell 7
          have e8 : W8.cell? ⟨g6, 8, none⟩ = some (.slice none 0 0) := hm8.cell 8
          have HVW8 := Lib.hid (HVW7.out.trans v78 (fun b e => .inl (e.elim (fun e => by rw [e]; exact (H7.out.ps.vp j p HPj.out).1) (fun e => (H7.out.ps.vp j p HPj.out).2 b e))))
          have HO8 := Lib.hid (own_vol HO.out v78 (fun b hb e => by
            have := H7.out.ps.far_own HO.out (by decide) (by decide) hb HPj.out
            exact e.elim (fun e => this.1 e.symm) this.2))
          have HSZ8 := Lib.hid HVW8.out.size
          clear hW8 bp8 hw8 v78 hrl hm8 hg6g d3 d1 f1
          go_wp2_with (at_builtin; refine wpList_append_own _ rfl _ _ 26 rfl w.heap.size 30 i0 _ 9 112 Try.underlying26 hi0 hz0 hz1 hz2 rfl (by decide) _ _ _ rfl (HO8.out.alloc _) ⟨W8.heap.size, 0, none⟩ 1 1 (msC ⟨8, p.r, x.t, 2⟩) rfl rfl (cells_new _ _ _) (msC_one _) (by simp only [maxLen]; omega) (by omega) (by have := HSZ8.out; simp; omega) ?_; intro v9 w9 hown9 hg9 hn9)
          refine ⟨?_, by simp [intOf]; omega⟩
          have hv9 : Vol (fun b => w.heap.size ≤ b) W8 w9 := ((Vol.refl (V := fun b => w.heap.size ≤ b) W8).alloc _).grown hg9 (fun k hk => .inl (HO8.out.lt k hk).1)
          have hVw : ∀ b, V b → ¬ (w.heap.size ≤ b) := fun b hb e => by have := HH.out.lt b hb; omega
          have H9 := H8.out.vol hv9 hVw
          refine Lib.hid ⟨j + 1, by simp, by omega, ⟨_, H9, mid_next HMA.out HPj.out ?_, ⟨N + 1, ?_, by omega, ?_⟩, ?_⟩, _, rfl⟩
          · simp [stepQ, HPL.out, HTS.out, HXB.out]
          · rw [take_flat ansQ (mid_at HMA.out HPj.out), List.length_append, ← HNE.out]; simp [ansQ, HPL.out, HTS.out]
          · rw [take_flat ansQ (mid_at HMA.out HPj.out), ← HXE.out, mssV_app, show ansQ (aq p) = [⟨8, p.r, x.t, 2⟩] by simp [ansQ, HPL.out, HTS.out, HXB.out], mssV_single]; exact hown9
          · exact HVW8.out.trans hv9 (fun b e => .inr e)
    · have hjl : j = M := by omega
      clear ho h7 hma hvw hRL hN hX
      go_wp2_with fail
      go_ret
      rw [hjl] at HMA HNE HXE hNj
      refine ⟨_, rfl, R', H7.out, HMA.out, ⟨N, HNE.out, hNj, ?_⟩, HVW7.out⟩
      rw [← HXE.out]
      exact HO.out
set_option maxHeartbeats 16000000 in
theorem R_Hello (H : RqP w B h V L K v lv) (hl : L.length ≤ 100) {Y : List Ms} (hY : Y = (L.map aq).flatMap helQ) :
    Calls Try.prog 26 #[.pointer (some ⟨h, 0, none⟩)] w fun e9 w' => ∃ v', e9 = .returned v' ∧ w'.ownsRow w.heap.size 30 9 v' Y.length (mssV Y) ∧ Below w.heap.size w w' := by
  obtain ⟨i0, hi0, hz0, hz1, hz2⟩ := info_parts msg_info
  obtain ⟨A0, c0, rfl, hc0, -⟩ := own_slice H.row
  have h0 : w.cell? ⟨h, 0, none⟩ = some (.slice A0 L.length c0) := H.blk.cell 0
  obtain ⟨M, hM⟩ : ∃ M, M = L.length := ⟨_, rfl⟩
  obtain ⟨Lq, hLq⟩ : ∃ Lq, Lq = L.map aq := ⟨_, rfl⟩
  have hrow := H.row
  rw [← hM] at h0 hc0 hl hrow
  rw [← hLq] at hY
  have HY := Lib.hid hY
  have HH := Lib.hid H
  have HR := Lib.hid hrow
  have HL := Lib.hid hM
  have HLq := Lib.hid hLq
  clear H hrow hM hLq hY
  go_enter Try.func26, Try.ntmps26
  go_wp2_with fail
  go_loopw [3, 11] (fun vl vi wr => Hid (∃ j N : Nat, vi = .int .i64 j ∧ j ≤ M ∧ N = ((Lq.take j).flatMap helQ).length ∧ N ≤ j ∧ wr.ownsRow w.heap.size 30 9 vl N (mssV ((Lq.take j).flatMap helQ)) ∧ Below w.heap.size w wr ∧ ∃ w7, w7 = wr)) (fun _ vi _ => M - (intOf vi).toNat)
  case atStart => exact Lib.hid ⟨0, 0, rfl, by omega, by simp, by omega, ⟨by simp, .inl ⟨rfl, rfl⟩⟩, Below.refl _ _, _, rfl⟩
  case round =>
    obtain ⟨j, N, rfl, hj, hN, hNj, ho, hb, w7, hw7⟩ := hrel.out
    subst hw7
    clear hrel
    have HN := Lib.hid hN
    obtain ⟨Al, cl, rfl, hcl, -⟩ := own_slice ho
    by_cases hlt : (j : Int) < M
    · obtain ⟨p, hp⟩ : ∃ p, L[j]? = some p := ⟨L[j]'(by have := HL.out; omega), List.getElem?_eq_getElem _⟩
      obtain ⟨u, rfl⟩ := own_some HR.out (by omega)
      have hr7 := own_keep HR.out hb
      have c7 : w7.cell? ⟨u, j, none⟩ = some (ptr p) := (hr7.cellAt j (by omega)).trans (by rw [List.getElem?_map, hp]; rfl)
      have hk := (HH.out.ps.prs j p hp).below hb (HH.out.ps.prs j p hp).lt
      have hLj : Lq[j]? = some (aq p) := by rw [HLq.out, List.getElem?_map, hp]; rfl
      have hA := Of_p hk 7
      obtain ⟨plv, hplv⟩ : ∃ b, b = p.lv := ⟨_, rfl⟩
      have a3 : w7.cell? ⟨p.g, 3, none⟩ = some (.bool plv) := by rw [hplv]; exact hk.cell 3
      have HPL := Lib.hid hplv.symm
      have HO := Lib.hid ho
      have HB := Lib.hid hb
      have HLJ := Lib.hid hLj
      clear ho hb hp hk hr7 hN hLj hplv
      cases plv
      · go_wp2_with fail
        refine ⟨?_, by simp [intOf]; omega⟩
        have e0 : helQ (aq p) = [] := by simp [helQ, HPL.out]
        refine Lib.hid ⟨j + 1, N, by simp, by omega, by rw [take_flat helQ HLJ.out, e0, List.append_nil]; exact HN.out, by omega, by rw [take_flat helQ HLJ.out, e0, List.append_nil]; exact HO.out, HB.out, _, rfl⟩
      · go_wp2_with (first | (go_at_call 54; refine hA.mono ?_; rintro e9 w8 ⟨rfl, hb8⟩; have HO8 := Lib.hid (own_keep HO.out hb8); have HB8 := Lib.hid (HB.out.trans (hb8.mono HB.out.size)); clear hb8 hA) | (at_builtin; refine wpList_append_own _ rfl _ _ 26 rfl w.heap.size 30 i0 _ 9 112 Try.underlying26 hi0 hz0 hz1 hz2 rfl (by decide) _ _ _ rfl (HO8.out.alloc _) ⟨w8.heap.size, 0, none⟩ 1 1 (msC ⟨7, p.r, noB, 0⟩) rfl rfl (cells_new _ _ _) (msC_one _) (by simp only [maxLen]; omega) (by omega) (by have := HB8.out.size; simp; omega) ?_; intro v9 w9 hown9 hg9 _))
        refine ⟨?_, by simp [intOf]; omega⟩
        have e0 : helQ (aq p) = [⟨7, p.r, noB, 0⟩] := by simp [helQ, HPL.out]
        refine Lib.hid ⟨j + 1, N + 1, by simp, by omega, by rw [take_flat helQ HLJ.out, e0, List.length_append, ← HN.out]; rfl, by omega, by rw [take_flat helQ HLJ.out, e0, mssV_app, mssV_single]; exact hown9, (HB8.out.alloc HB8.out.size _).grown hg9 (Nat.le_trans HB8.out.size (by simp)) (fun k hk => (HO8.out.lt k hk).1), _, rfl⟩
    · have hjl : j = M := by omega
      have HB := Lib.hid hb
      have HO := Lib.hid ho
      clear hb ho hN
      go_wp2_with fail
      go_ret
      have e2 : Lq.take j = Lq := by rw [hjl, HL.out, HLq.out, ← List.length_map aq]; exact List.take_length
      have ho := HO.out
      have hn := HN.out
      rw [e2] at ho hn
      refine ⟨_, rfl, ?_, HB.out⟩
      rw [HY.out, ← hn]
      exact ho
set_option maxHeartbeats 4000000 in
theorem R_Live (H : RqP w B h V L K v lv) (hl : L.length ≤ 100) {Y : List Ms} (hY : Y = (L.map aq).flatMap helQ) :
    Calls Try.prog 28 #[.pointer (some ⟨h, 0, none⟩)] w fun e9 w' => e9 = .returned (.int .i64 Y.length) ∧ Below w.heap.size w w' := by
  have hC := R_Hello H hl hY
  clear H hY
  go_enter Try.func28, Try.ntmps28
  go_wp2_with (go_at_call 26; refine hC.mono ?_; rintro e9 w2 ⟨u, rfl, ho, hb⟩; obtain ⟨Au, cu, rfl, -, -⟩ := own_slice ho)
  go_ret
  exact ⟨rfl, hb⟩
end
end Go.Proofs.Ytiflhfhonhbcpaa.Hw
