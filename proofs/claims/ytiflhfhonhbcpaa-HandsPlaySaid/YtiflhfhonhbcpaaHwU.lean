/- The plain hands: a task that is handed over. -/
import Derived.Test.YtiflhfhonhbcpaaHwT
namespace Go.Proofs.Ytiflhfhonhbcpaa.Hw
open Go Go.RowKit Go.Proofs.Ytiflhfhonhbcpaa Go.Proofs.Ytiflhfhonhbcpaa.Crw Go.Proofs.Ytiflhfhonhbcpaa.Vl Go.ChangeShapes Go.WideShapes Go.ChangeAt
set_option linter.unusedVariables false
set_option maxRecDepth 1000000
section
variable {w w' : World} {B h : Nat} {V U : Nat → Prop} {L : List Pr} {K : List Ky} {v lv : Value}
def kyB (a b : Ky) : Bool := (a.f.toList == b.f.toList) && (a.t.toList == b.t.toList)
theorem kyB_iff {a b : Ky} : kyB a b = true ↔ a = b := by
  unfold kyB
  rw [Bool.and_eq_true]
  constructor
  · rintro ⟨h1, h2⟩
    obtain ⟨f, t⟩ := a
    obtain ⟨f', t'⟩ := b
    have h1 := toList_ne.1 h1
    have h2 := toList_ne.1 h2
    simp only at h1 h2
    rw [h1, h2]
  · rintro rfl
    simp
theorem key_eql (w : World) (f t f' t' : ByteArray) : (binOp .eql 46 (.agg #[.string f, .string t]) (.agg #[.string f', .string t'])).run Try.prog w = .ok (.bool ((f.toList == f'.toList) && (t.toList == t'.toList))) w := by
  rw [run_eql_struct, run_equalIn_agg (P := Try.prog) w 9999 46 _ _ (by kernel_rfl) (by kernel_rfl)]
  have hk : (Try.prog.fieldsOf 46).toList.map (fun x => (decide (x.name = "_"), x.offset, x.type)) = [(false, 0, 9), (false, 1, 9)] := by kernel_rfl
  generalize (Try.prog.fieldsOf 46).toList = l at hk ⊢
  rcases l with _ | ⟨x, _ | ⟨y, _ | ⟨z, r⟩⟩⟩
  · simp at hk
  · simp at hk
  · simp only [List.map_cons, List.map_nil, List.cons.injEq, Prod.mk.injEq, and_true] at hk
    obtain ⟨⟨n1, h1, h2⟩, n2, h3, h4⟩ := hk
    have n1' := of_decide_eq_false n1
    have n2' := of_decide_eq_false n2
    have hpk : Try.prog.plainKey 9 = true := by kernel_rfl
    have hus := Try.underlying9
    unfold Op.eqFields
    rw [if_pos n1', h1, h2, Sem.run_bind, run_part_plain _ hpk (v := .string f) rfl, Result.andThen_ok, Sem.run_bind, run_part_plain _ hpk (v := .string f') rfl, Result.andThen_ok, Sem.run_bind, run_equalIn_string w _ _ f f' hus, Result.andThen_ok]
    unfold Op.eqFields
    rw [if_pos n2', h3, h4]
    cases hf : (f.toList == f'.toList)
    · simp [Sem.run_pure]
    · simp only [Bool.not_true, Bool.false_eq_true, if_false, Sem.run_bind, Bool.true_and]
      rw [run_part_plain _ hpk (v := .string t) rfl, Result.andThen_ok, run_part_plain _ hpk (v := .string t') rfl, Result.andThen_ok, run_equalIn_string w _ _ t t' hus, Result.andThen_ok]
      unfold Op.eqFields
      cases ht : (t.toList == t'.toList) <;> simp [Sem.run_pure]
  · simp at hk
abbrev one_ : Value := .complex .f64 4607182418800017408 0
theorem kysV_get (L : List Ky) (k : Nat) (x : Ky) (h : L[k]? = some x) (j : Nat) (hj : j < 2) : (kysV L)[k * 2 + j]? = (kyC x)[j]? := by
  induction L generalizing k with
  | nil => simp at h
  | cons a r ih =>
    have e : kysV (a :: r) = kyC a ++ kysV r := by simp [kysV]
    cases k with
    | zero =>
      simp only [List.getElem?_cons_zero, Option.some.injEq] at h
      subst h
      rw [e, Nat.zero_mul, Nat.zero_add, List.getElem?_append_left (by simpa using hj)]
    | succ k =>
      have e2 : (k + 1) * 2 + j = 2 + (k * 2 + j) := by omega
      rw [e, e2, List.getElem?_append_right (by simp), show (kyC a).length = 2 by rfl, Nat.add_sub_cancel_left]
      exact ih k (by simpa using h)
/-- What a launch makes. -/
def RLP (w : World) (B h : Nat) (V : Nat → Prop) (L : List Pr) (K : List Ky) (v lv : Value) (j : Nat) (p : Pr) (k : Ky) (w' : World) : Prop :=
  (k ∈ K ∧ Below w.heap.size w w') ∨
  (k ∉ K ∧ ∃ V' tv lv', RqP w' B h V' (L.set j ⟨p.g, p.r, p.lv, tv, p.ts ++ [⟨k.t, false⟩]⟩) (K ++ [k]) v lv' ∧ (∀ b, V b → V' b) ∧ (∀ b, V' b → V b ∨ w.heap.size ≤ b) ∧ Vol V w w')
attribute [local go_sem] run_store_complex
set_option maxHeartbeats 16000000 in
theorem R_launch (H : RqP w B h V L K v lv) (hl : L.length ≤ 100) {r : Pm} {t : ByteArray} {gi : Nat} (tm : ByteArray) (hgi : Blk w gi 57 #[.string t, one_]) {j : Nat} {p : Pr} (hj : L[j]? = some p) (hlv : p.lv = true) (hp : p.r = r) (hlt : p.ts.length ≤ 100) (hlk : K.length ≤ 100) :
    Calls Try.prog 27 #[.pointer (some ⟨h, 0, none⟩), .agg (mgA 14 r tm (.slice (some ⟨gi, 0, none⟩) 1 1))] w fun e9 w' => e9 = .returned (.slice none 0 0) ∧ RLP w B h V L K v lv j p ⟨r.f, t⟩ w' := by
  obtain ⟨i0, hi0, hz0, hz1, hz2⟩ := info_parts rtk_info
  obtain ⟨i1, hi1, hy0, hy1, hy2⟩ := info_parts key_info
  obtain ⟨gm, hgm⟩ : ∃ g, g = w.heap.size := ⟨_, rfl⟩
  obtain ⟨W, hW⟩ : ∃ W, W = w.alloc (.cells (mgA 14 r tm (.slice (some ⟨gi, 0, none⟩) 1 1)) 30) := ⟨_, rfl⟩
  have hb : Below w.heap.size w W := by rw [hW]; exact (Below.refl _ _).alloc (Nat.le_refl _) _
  have hm : Blk W gm 30 (mgA 14 r tm (.slice (some ⟨gi, 0, none⟩) 1 1)) := by rw [hW, hgm]; exact Blk.new w _ _
  have m0 : W.cell? ⟨gm, 0, none⟩ = some (.int .i64 14) := hm.cell 0
  have m1 : W.cell? ⟨gm, 1, none⟩ = some (.string r.f) := hm.cell 1
  have m2 : W.cell? ⟨gm, 2, none⟩ = some (.string r.e) := hm.cell 2
  have m3 : W.cell? ⟨gm, 3, none⟩ = some (.string tm) := hm.cell 3
  have m4 : W.cell? ⟨gm, 4, none⟩ = some (.int .i64 r.n) := hm.cell 4
  have m5 : W.cell? ⟨gm, 5, none⟩ = some (.int .i64 0) := hm.cell 5
  have m6 : W.cell? ⟨gm, 6, none⟩ = some (.int .i64 0) := hm.cell 6
  have m7 : W.cell? ⟨gm, 7, none⟩ = some (.int .i64 0) := hm.cell 7
  have m8 : W.cell? ⟨gm, 8, none⟩ = some (.slice (some ⟨gi, 0, none⟩) 1 1) := hm.cell 8
  have hC := Find_yes (H.below hb) hl hj hlv 14 hp tm (.slice (some ⟨gi, 0, none⟩) 1 1)
  have heg : Try.prog.eqGuardType Try.prog.depth 46 = false := by kernel_rfl
  have HW := Lib.hid (And.intro hW hgm)
  have HB := Lib.hid hb
  have HM := Lib.hid hm
  have HH := Lib.hid (H.below hb)
  have HJ := Lib.hid hj
  have HP := Lib.hid hp
  have HGI := Lib.hid (hgi.below hb hgi.lt)
  clear hW hb hm hgm H hj hp hgi
  go_enter Try.func27, Try.ntmps27
  go_upto_region 1 with fail
  rw [← HW.out.1, ← HW.out.2]
  go_upto_region 12 with (go_at_call 55; refine hC.mono ?_; rintro e9 w2 ⟨rfl, hb2⟩)
  have n0 : w2.cell? ⟨gm, 0, none⟩ = some (.int .i64 14) := (HM.out.below hb2 HM.out.lt).cell 0
  have n8 : w2.cell? ⟨gm, 8, none⟩ = some (.slice (some ⟨gi, 0, none⟩) 1 1) := (HM.out.below hb2 HM.out.lt).cell 8
  have H2 := Lib.hid (HH.out.below hb2)
  have HM2 := Lib.hid (HM.out.below hb2 HM.out.lt)
  have HGI2 := Lib.hid (HGI.out.below hb2 HGI.out.lt)
  have HB2 := Lib.hid (HB.out.trans (hb2.mono HB.out.size))
  clear hb2 hC m0 m1 m2 m3 m4 m5 m6 m7 m8
  go_wp2_with fail
  go_loopw [89] (fun vi wr => Hid ((vi = .int .i64 0 ∧ w2 = wr) ∨ (vi = .int .i64 1 ∧ RLP w B h V L K v lv j p ⟨r.f, t⟩ wr))) (fun vi _ => 1 - (intOf vi).toNat)
  case atStart => exact Lib.hid (.inl ⟨rfl, rfl⟩)
  case round =>
    rcases hrel.out with ⟨rfl, rfl⟩ | ⟨rfl, hR⟩
    · clear hrel n0 n8
      obtain ⟨A0, c0, hv0, hc0, -⟩ := own_slice H2.out.keys
      obtain ⟨M, hM⟩ : ∃ M, M = K.length := ⟨_, rfl⟩
      obtain ⟨gx, hgx⟩ : ∃ g, g = w2.heap.size := ⟨_, rfl⟩
      obtain ⟨gk, hgk⟩ : ∃ g, g = w2.heap.size + 1 := ⟨_, rfl⟩
      obtain ⟨W6, hW6⟩ : ∃ W, W = (w2.alloc (.cells #[.string t, one_] 57)).alloc (.cells #[.string r.f, .string t] 46) := ⟨_, rfl⟩
      have hb6 : Below w2.heap.size w2 W6 := by rw [hW6]; exact ((Below.refl _ _).alloc (Nat.le_refl _) _).alloc (by simp) _
      have hx6 : Blk W6 gx 57 #[.string t, one_] := by rw [hW6, hgx]; exact (Blk.new w2 _ _).alloc _
      have hk6 : Blk W6 gk 46 #[.string r.f, .string t] := by
        rw [hW6, hgk]
        have := Blk.new (w2.alloc (.cells #[.string t, one_] 57)) 46 #[.string r.f, .string t]
        simpa using this
      have h6 := H2.out.below hb6
      have g0 : w2.cell? ⟨gi, 0, none⟩ = some (.string t) := HGI2.out.cell 0
      have g1 : w2.cell? ⟨gi, 1, none⟩ = some one_ := HGI2.out.cell 1
      have x1 : ∀ o, (w2.alloc o).cell? ⟨gm, 1, none⟩ = some (.string r.f) := fun o => (HM2.out.alloc o).cell 1
      have k1 : W6.cell? ⟨h, 1, none⟩ = some (.slice A0 M c0) := by rw [hM, ← hv0]; exact h6.blk.cell 1
      rw [← hM] at hlk hc0
      have HW6 := Lib.hid (And.intro hW6 (And.intro hgx hgk))
      have HB6 := Lib.hid hb6
      have HX6 := Lib.hid hx6
      have HK6 := Lib.hid hk6
      have H6 := Lib.hid h6
      have HV0 := Lib.hid hv0
      have HMM := Lib.hid hM
      clear hW6 hgx hgk hb6 hx6 hk6 h6 hv0 hM
      go_upto_region 20 with fail
      rw [← HW6.out.1, ← HW6.out.2.2, ← HW6.out.2.1]
      clear g0 g1 x1
      go_wp2_with fail
      go_loopw [12, 103] (fun vb vi wr => Hid (∃ (i : Nat) (b : Bool), vi = .int .i64 i ∧ i ≤ M ∧ vb = .bool b ∧ (b = true ↔ ∃ m y, m < i ∧ K[m]? = some y ∧ y = (⟨r.f, t⟩ : Ky)) ∧ Below W6.heap.size W6 wr ∧ ∃ w7, w7 = wr)) (fun _ vi _ => M - (intOf vi).toNat)
      case atStart => exact Lib.hid ⟨0, false, rfl, by omega, rfl, Iff.intro (fun h => absurd h (by decide)) (fun ⟨m, y, h, _⟩ => absurd h (Nat.not_lt_zero _)), Below.refl _ _, _, rfl⟩
      case round =>
        obtain ⟨i, b, rfl, hi, rfl, hbi, hb, w7, hw7⟩ := hrel.out
        subst hw7
        clear hrel k1
        have HBI := Lib.hid hbi
        have HB7 := Lib.hid hb
        have hk7 := HK6.out.below hb HK6.out.lt
        have hrow := own_keep H6.out.keys hb
        rw [HV0.out, ← HMM.out] at hrow
        clear hbi hb
        by_cases hlt2 : (i : Int) < M
        · obtain ⟨y, hy⟩ : ∃ y, K[i]? = some y := ⟨K[i]'(by have := HMM.out; omega), List.getElem?_eq_getElem _⟩
          obtain ⟨u, rfl⟩ := own_some hrow (by omega)
          have cc : ∀ m, m < 2 → w7.cell? ⟨u, i * 2 + m, none⟩ = (kyC y)[m]? := fun m hm => (hrow.cellAt (i * 2 + m) (by omega)).trans (kysV_get K i y hy m hm)
          have c0' : w7.cell? ⟨u, i * 2, none⟩ = some (.string y.f) := cc 0 (by omega)
          have c1' : w7.cell? ⟨u, i * 2 + 1, none⟩ = some (.string y.t) := cc 1 (by omega)
          have r0 : ∀ o, (w7.alloc o).cell? ⟨gk, 0, none⟩ = some (.string r.f) := fun o => (hk7.alloc o).cell 0
          have r1 : ∀ o, (w7.alloc o).cell? ⟨gk, 1, none⟩ = some (.string t) := fun o => (hk7.alloc o).cell 1
          have heq := fun wa => key_eql wa y.f y.t r.f t
          obtain ⟨e, he⟩ : ∃ e, e = ((y.f.toList == r.f.toList) && (y.t.toList == t.toList)) := ⟨_, rfl⟩
          rw [← he] at heq
          have HE := Lib.hid (show e = kyB y ⟨r.f, t⟩ from he)
          have HY := Lib.hid hy
          clear cc hk7 hrow hy he
          have nb : ∀ b' : Bool, b' = (b || e) → (b' = true ↔ ∃ m y, m < i + 1 ∧ K[m]? = some y ∧ y = (⟨r.f, t⟩ : Ky)) := fun b' hb' => by
            rw [hb', Bool.or_eq_true, HBI.out, HE.out, kyB_iff]
            constructor
            · rintro (⟨m, z, h1, h2, h3⟩ | h)
              · exact ⟨m, z, by omega, h2, h3⟩
              · exact ⟨i, y, by omega, HY.out, h⟩
            · rintro ⟨m, z, h1, h2, h3⟩
              rcases Nat.lt_or_ge m i with h4 | h4
              · exact .inl ⟨m, z, h4, h2, h3⟩
              · obtain rfl : m = i := by omega
                rw [HY.out] at h2
                injection h2 with h2
                exact .inr (h2.trans h3)
          have HNB := Lib.hid nb
          clear nb
          cases b
          · go_wp2_with fail
            refine ⟨?_, by simp [intOf]; omega⟩
            exact Lib.hid ⟨i + 1, e, by simp, by omega, rfl, HNB.out e (by simp), HB7.out.alloc HB7.out.size _, _, rfl⟩
          · go_wp2_with fail
            refine ⟨?_, by simp [intOf]; omega⟩
            exact Lib.hid ⟨i + 1, true, by simp, by omega, rfl, HNB.out true (by simp), HB7.out.alloc HB7.out.size _, _, rfl⟩
        · have hiM : i = M := by omega
          have hbk : b = true ↔ (⟨r.f, t⟩ : Ky) ∈ K := by
            rw [HBI.out]
            constructor
            · rintro ⟨m, y, _, h2, h3⟩
              rw [← h3]
              exact List.mem_of_getElem? h2
            · intro hm
              obtain ⟨m, hm⟩ := List.getElem?_of_mem hm
              exact ⟨m, _, by have := (List.getElem?_eq_some_iff.1 hm).1; have := HMM.out; omega, hm, rfl⟩
          have HBK := Lib.hid hbk
          clear hk7 hrow hbk hiM
          cases b
          · have hkn : (⟨r.f, t⟩ : Ky) ∉ K := fun e => by have := HBK.out.2 e; cases this
            have HKN := Lib.hid hkn
            clear hkn
            have h7 := H6.out.below HB7.out
            have hk7 := HK6.out.below HB7.out HK6.out.lt
            have hx7 := HX6.out.below HB7.out HX6.out.lt
            have bl7 := h7.keys
            rw [HV0.out, ← HMM.out] at bl7
            have b3 : w7.cell? ⟨h, 1, none⟩ = some (.slice A0 M c0) := by rw [HMM.out, ← HV0.out]; exact h7.blk.cell 1
            have b0 : w7.cell? ⟨gk, 0, none⟩ = some (.string r.f) := hk7.cell 0
            have b1 : w7.cell? ⟨gk, 1, none⟩ = some (.string t) := hk7.cell 1
            have b4 : ∀ o, (w7.alloc o).cell? ⟨h, 1, none⟩ = some (.slice A0 M c0) := fun o => (World.cell?_alloc_lt w7 o ⟨h, 1, none⟩ h7.blk.lt).trans b3
            have b5 : ∀ o, (w7.alloc o).cell? ⟨gk, 0, none⟩ = some (.string r.f) := fun o => (World.cell?_alloc_lt w7 o ⟨gk, 0, none⟩ hk7.lt).trans b0
            have b6 : ∀ o, (w7.alloc o).cell? ⟨gk, 1, none⟩ = some (.string t) := fun o => (World.cell?_alloc_lt w7 o ⟨gk, 1, none⟩ hk7.lt).trans b1
            have hBw1 : Hid (B ≤ w7.heap.size) := Lib.hid h7.Bw
            have hown1 : Hid (∀ b, (Value.slice A0 M c0).ownBlock = some b ↔ lv.ownBlock = some b) := Lib.hid (fun b => by rw [HV0.out]; cases A0 <;> exact Iff.rfl)
            have hhn : Hid (some h ≠ (Value.slice A0 M c0).ownBlock) := Lib.hid (fun e => own_blk_ne bl7 h7.blk mKH e.symm)
            have HH7 := Lib.hid h7.blk
            have HL7 := Lib.hid bl7
            have H7 := Lib.hid h7
            have HX7 := Lib.hid hx7
            have HBW7 := Lib.hid ((HB2.out.trans (HB6.out.mono HB2.out.size)).trans (HB7.out.mono (HB2.out.trans (HB6.out.mono HB2.out.size)).size))
            clear h7 hk7 hx7 bl7
            go_upto_region 27 with fail
            go_cut [] from 116 to 125 (fun wx => Hid (∃ V' lv', RqP wx B h V' L (K ++ [⟨r.f, t⟩]) v lv' ∧ (∀ b, V b → V' b) ∧ (∀ b, V' b → V b ∨ w.heap.size ≤ b) ∧ Blk wx gx 57 #[.string t, one_] ∧ Vol V w wx ∧ ∃ w9, w9 = wx))
            case first =>
              go_region_law (refine step_append_any _ rfl (.tmp 120) (.tmp 122) 38 rfl B 46 i1 (.agg #[.string ⟨#[]⟩, .string ⟨#[]⟩]) 2 32 Try.underlying38 hi1 hy0 hy1 hy2 rfl (by decide) (.slice A0 M c0) M (kysV K) (by first | (simp [Act.eval]; done) | (simp [Act.eval, Act.put]; done)) (HL7.out.drew.alloc _) (w7.heap.size + 1) (some ⟨w7.heap.size, 0, none⟩) 1 1 [.string r.f, .string t] (by first | (simp [Act.eval]; done) | (simp [Act.eval, Act.put]; done)) (reads_row w7.drew _ _ rfl) (by simp [Value.oneCell']) (by simp only [maxLen]; omega) (by omega) (by have := hBw1.out; simp; omega) ?_; intro v4 w4 hown4 hg4 hn4; have hb4 := (HH7.out.drew.alloc _).grown hg4 hhn.out; obtain ⟨A4, c4, rfl, -, -⟩ := own_slice hown4; have f4 : w4.frozen? ⟨h, 1, none⟩ = false := hb4.frozen 1; have c43 : w4.cell? ⟨h, 1, none⟩ = some (.slice A0 M c0) := (by rw [HMM.out, ← HV0.out]; exact hb4.cell 1))
              all_goals go_wp2_with fail
              all_goals
                go_meet
                have hvol4 : Vol (fun b => b = h ∨ lv.ownBlock = some b) w7 (w4.setCell ⟨h, 1, none⟩ (.slice A4 (M + 1) c4)) :=
                  (((Vol.refl (V := fun b => b = h ∨ lv.ownBlock = some b) w7).drew.alloc _).grown hg4 (fun k hk => .inl (.inr ((hown1.out k).1 hk)))).setCell (a := ⟨h, 1, none⟩) (.inl (.inl rfl)) _
                have bh5 := hb4.set_ 1 (.slice A4 (M + 1) c4)
                have ho5 : World.ownsRow (w4.setCell ⟨h, 1, none⟩ (.slice A4 (M + 1) c4)) B 46 2 (.slice A4 (M + 1) c4) (M + 1) (kysV (K ++ [⟨r.f, t⟩])) := by
                  have e5 : kysV (K ++ [⟨r.f, t⟩]) = kysV K ++ [.string r.f, .string t] := by simp [kysV]
                  rw [e5]
                  exact own_far hown4 hb4 mKH
                have H5 := H7.out.know (lv' := .slice A4 (M + 1) c4) ⟨r.f, t⟩ hvol4 (by simpa using bh5) (by have := HMM.out; simpa [this] using ho5) (fun b e => by
                  rcases hn4 with e2 | e2
                  · exact .inl ((hown1.out b).1 (e2 ▸ e))
                  · right
                    rw [show (Value.slice A4 (M + 1) c4).ownBlock = some b from e] at e2
                    injection e2 with e2
                    rw [e2]
                    simp)
                have hx5 : Blk (w4.setCell ⟨h, 1, none⟩ (.slice A4 (M + 1) c4)) gx 57 #[.string t, one_] := blk_vol HX7.out hvol4 (fun e => e.elim (fun e => HX7.out.ne_ HH7.out (by decide) e) (fun e => own_blk_ne HL7.out HX7.out (by decide) ((hown1.out _).2 e)))
                have s7 := HBW7.out.size
                refine Lib.hid ⟨_, _, H5, fun b => .inl, fun b e => e.imp id (fun e => by omega), hx5, (Vol.of_below HBW7.out).trans hvol4 (fun b e => .inl ?_), _, rfl⟩
                rcases e with rfl | e
                · exact H7.out.vm
                · exact H7.out.vk b e
            case rest =>
              obtain ⟨V1, lv1, h9, hv1, hv2, hx9, hvl, w9, hw9⟩ := hcut.out
              subst hw9
              clear hcut b0 b1 b3 b4 b5 b6 hBw1 hown1 hhn
              have hwin := h9.ps.tks j p HJ.out
              have hpr := h9.ps.prs j p HJ.out
              obtain ⟨At, ct, hvt, hct, hcm, hAt⟩ := hwin.form
              obtain ⟨N, hN⟩ : ∃ N, N = p.ts.length := ⟨_, rfl⟩
              have a3 : w9.cell? ⟨p.g, 4, none⟩ = some (.slice At N ct) := by rw [hN, ← hvt]; exact hpr.cell 4
              have a1 : w9.cell? ⟨gx, 0, none⟩ = some (.string t) := hx9.cell 0
              have a4 : ∀ o, (w9.alloc o).cell? ⟨p.g, 4, none⟩ = some (.slice At N ct) := fun o => (World.cell?_alloc_lt w9 o ⟨p.g, 4, none⟩ hpr.lt).trans a3
              have a5 : ∀ o, (w9.alloc o).cell? ⟨gx, 0, none⟩ = some (.string t) := fun o => (World.cell?_alloc_lt w9 o ⟨gx, 0, none⟩ hx9.lt).trans a1
              rw [hvt, ← hN] at hwin
              rw [← hN] at hlt hct
              have hBw : Hid (B ≤ w9.heap.size) := Lib.hid h9.Bw
              have hown : Hid (∀ b, (Value.slice At N ct).ownBlock = some b ↔ p.tv.ownBlock = some b) := Lib.hid (fun b => by rw [hvt]; cases At <;> exact Iff.rfl)
              have hpn : Hid (some p.g ≠ (Value.slice At N ct).ownBlock) := Lib.hid (fun e => hwin.blk_ne hpr mPT.symm e.symm)
              have HN := Lib.hid hN
              have HVT := Lib.hid hvt
              have H9 := Lib.hid h9
              have HPR := Lib.hid hpr
              have HWN := Lib.hid (hwin.below (Below.refl _ _).drew)
              have HV1 := Lib.hid (And.intro hv1 (And.intro hv2 hvl))
              clear h9 hx9 hwin hpr hN hvt hAt hcm hv1 hv2 hvl
              go_upto_region 28 with fail
              go_region_law (refine step_append_win _ rfl (.tmp 130) (.tmp 134) 113 rfl B 118 i0 tkZ 2 24 Try.underlying113 hi0 hz0 hz1 hz2 rfl (.slice At N ct) N (tqV p.ts) (by first | (simp [Act.eval]; done) | (simp [Act.eval, Act.put]; done)) (HWN.out.alloc _) ⟨w9.heap.size, 0, none⟩ 1 1 [.string t, .bool false] (by first | (simp [Act.eval]; done) | (simp [Act.eval, Act.put]; done)) rfl (cells_new w9.drew _ _) (by simp [Value.oneCell']) (by omega) (by simp only [maxLen]; omega) (by omega) (by have := hBw.out; simp; omega) ?_; intro v4 w4 hwin4 hg4 hn4; have hb4 := (HPR.out.drew.alloc _).grown hg4 hpn.out; obtain ⟨A4, c4, rfl, -, -, -⟩ := hwin4.form; have f4 : w4.frozen? ⟨p.g, 4, none⟩ = false := hb4.frozen 4; have c43 : w4.cell? ⟨p.g, 4, none⟩ = some (.slice At N ct) := (by rw [HN.out, ← HVT.out]; exact hb4.cell 4))
              all_goals go_wp2_with fail
              all_goals
                refine ⟨?_, by simp [intOf]⟩
                have hvol4 : Vol (fun b => b = p.g ∨ p.tv.ownBlock = some b) w9 (w4.setCell ⟨p.g, 4, none⟩ (.slice A4 (N + 1) c4)) := by
                  have h1 : Vol (fun b => b = p.g ∨ p.tv.ownBlock = some b) w9 w9 := Vol.refl _
                  exact ((h1.drew.alloc _).grown hg4 (fun k hk => .inl (.inr ((hown.out k).1 hk)))).setCell (a := ⟨p.g, 4, none⟩) (.inl (.inl rfl)) _
                have bp5 := hb4.set_ 4 (.slice A4 (N + 1) c4)
                have hw5 : Win (w4.setCell ⟨p.g, 4, none⟩ (.slice A4 (N + 1) c4)) B 118 2 (.slice A4 (N + 1) c4) (N + 1) (tqV (p.ts ++ [⟨t, false⟩])) := by
                  rw [tqV_append]
                  exact hwin4.vol (U := fun b => b = p.g) (Vol.setCell (V := fun b => b = p.g) (a := ⟨p.g, 4, none⟩) (Vol.refl w4) (.inl rfl) _) (fun b hb e => hwin4.blk_ne hb4 mPT.symm (by rw [hb, e]))
                have H5 := H9.out.turn (p' := ⟨p.g, p.r, p.lv, .slice A4 (N + 1) c4, p.ts ++ [⟨t, false⟩]⟩) HJ.out rfl rfl hvol4 (by simpa using bp5) (by have := HN.out; simpa [this] using hw5) (fun b e => by
                  rcases hn4 with e2 | e2
                  · exact .inl ((hown.out b).1 (e2 ▸ e))
                  · right
                    have e3 : (Value.slice A4 (N + 1) c4).ownBlock = some b := e
                    rw [e3] at e2
                    injection e2 with e2
                    rw [e2]
                    simp)
                have s9 := HV1.out.2.2.size
                refine Lib.hid (.inr ⟨rfl, .inr ⟨HKN.out, _, _, _, H5, fun b e => .inl (HV1.out.1 b e), fun b e => e.elim (HV1.out.2.1 b) (fun e => .inr (by omega)), HV1.out.2.2.trans hvol4 (fun b e => ?_)⟩⟩)
                rcases e with rfl | e
                · exact HV1.out.2.1 _ (H9.out.ps.vp j p HJ.out).1
                · exact HV1.out.2.1 _ ((H9.out.ps.vp j p HJ.out).2 b e)
          · go_wp2_with fail
            refine ⟨?_, by simp [intOf]⟩
            exact Lib.hid (.inr ⟨rfl, .inl ⟨HBK.out.1 rfl, (HB2.out.trans (HB6.out.mono HB2.out.size)).trans (HB7.out.mono (HB2.out.trans (HB6.out.mono HB2.out.size)).size)⟩⟩)
    · clear n0 n8
      go_wp2_with fail
      go_ret
      exact ⟨rfl, hR⟩
end
end Go.Proofs.Ytiflhfhonhbcpaa.Hw
