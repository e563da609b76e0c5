/- The walk of ConsoleErrors: the Go text returns true, and writes nothing that was there. -/
import Derived.Test.YtolignkahfekbaaGreatDoorCeP
import Derived.Test.YtolignkahfekbaaGreatDoorCeM
import Derived.Deep.RegionHeld3
import Derived.Deep.CutRange
import Derived.Deep.DeepCutAuto
import Derived.Deep.CutBlock
namespace Go.Proofs.YtolignkahfekbaaGreatDoor.consoleErrors
open Go Go.RowKit Go.Lib Go.Proofs.YtolignkahfekbaaGreatDoor Go.Proofs.YtolignkahfekbaaGreatDoor.Ce Go.ChangeShapes Go.WideShapes Go.ChangeAt Lit
set_option linter.unusedVariables false
set_option maxRecDepth 100000
theorem cc_ok [Toks] : CallOk Tryz.prog cc ∧ CallMono cc := by
  have hcfg : CfgOk Tryz.prog cfg := ⟨(fun _ _ _ h => nomatch h), summAll_ok, summAll_mono⟩
  exact gcall_ok tabAll_ok (deep_ok hcfg mixed 3000).1 (deep_ok hcfg mixed 3000).2 60
theorem kM3 : ∀ i o, M.get i = some o → o.kind ≤ 3 := fun i o h => by have := kindsOk_get kM i o h; omega
section
variable [Toks] {W w : World} {G : List (Nat × Obj)} {pk pp pw : Value}
theorem sel13 {a b c x y z : Value} {h : AHeap} (s : RtK W G [a, b, c] [x, y, z] h w) : RtK W G [a, c] [x, z] h w := by
  obtain ⟨⟨ρ, s1, s2, s3, s4⟩, sb, sk⟩ := s
  refine ⟨⟨ρ, s1, s2, s3, ?_⟩, sb, sk⟩
  cases s4 with
  | cons h1 s4 => cases s4 with
    | cons h2 s4 => exact .cons h1 s4
theorem World_at (s : RtK W G [lP 18, lP 17] [pk, pp] M w) : Calls Tryz.prog 22 #[pp] w fun e w' => ∃ v', e = .returned v' ∧ RtK W G [lP 18, lP 10] [pk, v'] M w' := by
  have h := ok_world
  unfold okC at h
  split at h
  · rename_i r hr
    obtain ⟨h1, h2⟩ := bAnd_true h
    refine (RtK.call cc_ok.1 cc_ok.2 hr s (args' := #[pp]) (fun ρ hl => ?_)).mono ?_
    · cases hl with
      | cons a hl => cases hl with
        | cons b hl => exact .cons b .nil
    · rintro e w' ⟨v', rfl, s'⟩
      exact ⟨v', rfl, RtK.norm h2 (sel13 s')⟩
  · cases h
theorem Agent_at (s : RtK W G [lP 18, lP 10] [pk, pw] M w) : Calls Tryz.prog 24 #[pw] w fun e w' => ∃ v', e = .returned v' ∧ RtK W G [lP 18] [pk] M w' := by
  have h := ok_agent
  unfold okC at h
  split at h
  · rename_i r hr
    obtain ⟨h1, h2⟩ := bAnd_true h
    refine (RtK.call cc_ok.1 cc_ok.2 hr s (args' := #[pw]) (fun ρ hl => ?_)).mono ?_
    · cases hl with
      | cons a hl => cases hl with
        | cons b hl => exact .cons b .nil
    · rintro e w' ⟨v', rfl, s'⟩
      exact ⟨v', rfl, (RtK.norm h2 (sel13 s')).take 1⟩
  · cases h
theorem Res_at (s : RtK W G [lP 18] [pk] M w) : Calls Tryz.prog 23 #[.int .i64 2] w fun e w' => e = .returned (.string err2) ∧ RtK W G [lP 18] [pk] M w' := by
  have h := ok_res
  unfold okC at h
  split at h
  · rename_i r hr
    obtain ⟨h1, h2⟩ := bAnd_true h
    refine (RtK.call cc_ok.1 cc_ok.2 hr s (args' := #[.int .i64 2]) (fun ρ hl => .cons (VR.flat rfl) .nil)).mono ?_
    rintro e w' ⟨v', rfl, s'⟩
    have s2 : RtK W G [lP 18, .string err2] [pk, v'] M w' := RtK.norm h2 s'
    have e1 : v' = .string err2 := RtK.last (R := [lP 18]) (vs := [pk]) s2 rfl rfl
    exact ⟨by rw [e1], s2.take 1⟩
  · cases h
theorem play_of (s : RtK W G [lP 18] [pk] M w) : ∃ a pp, pk = .pointer (some ⟨a, 0, none⟩) ∧ w.cell? ⟨a, 0, none⟩ = some pp ∧ RtK W G [lP 18, lP 17] [pk, pp] M w := by
  obtain ⟨a, u, h1, h2, h3⟩ := RtK.cellK (id := 18) (v := lP 17) (cells := [lP 17]) (e := 40) (kd := 0) (es := 1) (m := 0) (j := 0) (v' := pk) (by kernel_rfl) (by decide) rfl rfl rfl s
  exact ⟨a, u, h1, h2, h3⟩
set_option maxHeartbeats 4000000 in
theorem tell_at {q : ByteArray} {va : Value} (hq : Wh q) (s : RtK W G [lP 18] [pk] M w) :
    Calls Tryz.prog 25 #[pk, va, .string q] w fun e w' => e = .returned (.string err2) ∧ RtK W G [lP 18] [pk] M w' := by
  obtain ⟨a, pp, rfl, hc, s1⟩ := play_of s
  have n0 : (q.toList == [117, 115, 101, 100]) = false := by rw [beq_eq_false_iff_ne]; exact hq.nl _ (by decide)
  have n1 : (q.toList == [115, 97, 105, 100]) = false := by rw [beq_eq_false_iff_ne]; exact hq.nl _ (by decide)
  have n2 : (q.toList == [114, 111, 119, 115]) = false := by rw [beq_eq_false_iff_ne]; exact hq.nl _ (by decide)
  have n3 : (q.toList == [98, 111, 120, 101, 115]) = false := by rw [beq_eq_false_iff_ne]; exact hq.nl _ (by decide)
  have n4 : (q.toList == [113, 117, 105, 101, 116]) = false := by rw [beq_eq_false_iff_ne]; exact hq.nl _ (by decide)
  have n5 : (q.toList == [115, 111, 117, 110, 100]) = false := by rw [beq_eq_false_iff_ne]; exact hq.nl _ (by decide)
  have hW := World_at s1
  clear s s1 hq
  go_enter Tryz.func25, Tryz.ntmps25
  go_wp2_with (first | (go_at_call 22; refine hW.mono ?_; rintro e w2 ⟨pw, rfl, s2⟩; clear hW; have hR := Res_at (s2.take 1); clear s2) | (go_at_call 23; refine hR.mono ?_; rintro e w3 ⟨rfl, s3⟩; clear hR; have H3 := Lib.hid s3; clear s3))
  go_ret
  exact ⟨rfl, H3.out⟩
set_option maxHeartbeats 4000000 in
theorem round_at {q d : ByteArray} (hq : Wh q) (hd : d.size ≤ 1000) (s : RtK W G [lP 18] [pk] M w) :
    Calls Tryz.prog 26 #[pk, .string q, .string d] w fun e w' => e = .returned (.string err2) ∧ RtK W G [lP 18] [pk] M w' := by
  have n0 : (q.toList == [114, 111, 117, 110, 100]) = false := by rw [beq_eq_false_iff_ne]; exact hq.nl _ (by decide)
  have hN := fun wa => Number_any d wa (by unfold maxLen; omega)
  generalize numS d.data.toList = z at hN
  obtain ⟨z1, z2⟩ := z
  have hR := Res_at s
  clear s hq
  go_enter Tryz.func26, Tryz.ntmps26
  go_wp2_with (first | (go_at_call 46; refine (hN _).mono ?_; rintro e w2 ⟨rfl, rfl⟩) | (go_at_call 23; refine hR.mono ?_; rintro e w3 ⟨rfl, s3⟩; clear hR; have H3 := Lib.hid s3; clear s3))
  go_ret
  exact ⟨rfl, H3.out⟩
set_option maxHeartbeats 4000000 in
theorem about_at {q f x : ByteArray} {va : Value} (hq : Wh q) (s : RtK W G [lP 18] [pk] M w) :
    Calls Tryz.prog 27 #[pk, va, .string q, .string f, .string x] w fun e w' => e = .returned (.string err2) ∧ RtK W G [lP 18] [pk] M w' := by
  have n0 : (q.toList == [115, 116, 97, 116, 101]) = false := by rw [beq_eq_false_iff_ne]; exact hq.nl _ (by decide)
  have n1 : (q.toList == [112, 104, 97, 115, 101]) = false := by rw [beq_eq_false_iff_ne]; exact hq.nl _ (by decide)
  have n2 : (q.toList == [115, 101, 110, 116]) = false := by rw [beq_eq_false_iff_ne]; exact hq.nl _ (by decide)
  have hR := Res_at s
  clear s hq
  go_enter Tryz.func27, Tryz.ntmps27
  go_wp2_with (go_at_call 23; refine hR.mono ?_; rintro e w3 ⟨rfl, s3⟩; clear hR; have H3 := Lib.hid s3; clear s3)
  go_ret
  exact ⟨rfl, H3.out⟩
set_option maxHeartbeats 8000000 in
theorem answer_at {A : Nat} {BB : Obj} {q0 : ByteArray} {L : List ByteArray} (hWB : ∀ wa : World, wa.heap[A]? = some BB → Wds wa A (q0 :: L)) (hq : Wh q0) (hL : ∀ x ∈ q0 :: L, x.size ≤ 1000) (hN : L.length ≤ 1000) (s : RtK W ((A, BB) :: G) [lP 18] [pk] M w) :
    Calls Tryz.prog 15 #[pk, .slice (some ⟨A, 0, none⟩) (q0 :: L).length (q0 :: L).length] w fun e w' => e = .returned (.string err2) ∧ RtK W ((A, BB) :: G) [lP 18] [pk] M w' := by
  obtain ⟨a, pp, rfl, hc, s1⟩ := play_of s
  have hW := World_at s1
  have HWB := Lib.hid hWB
  have HQ := Lib.hid hq
  have HL := Lib.hid hL
  clear s s1 hWB hq hL
  rcases L with _ | ⟨q1, L⟩
  · go_enter Tryz.func15, Tryz.ntmps15
    go_upto_region 3 with (first | (go_at_call 22; refine hW.mono ?_; rintro e w2 ⟨pw, rfl, s2⟩; clear hW; have hA := Agent_at s2; clear s2) | (go_at_call 24; refine hA.mono ?_; rintro e w3 ⟨va, rfl, s3⟩; clear hA; have hc0 := (HWB.out _ (s3.blk _ List.mem_cons_self)).2 0 q0 rfl; have hT := tell_at (va := va) HQ.out s3; clear s3))
    go_wp2_with (go_at_call 25; refine hT.mono ?_; rintro e w4 ⟨rfl, s4⟩; clear hT; have H4 := Lib.hid s4; clear s4)
    go_ret
    exact ⟨rfl, H4.out⟩
  rcases L with _ | ⟨q2, L⟩
  · go_enter Tryz.func15, Tryz.ntmps15
    go_upto_region 6 with (first | (go_at_call 22; refine hW.mono ?_; rintro e w2 ⟨pw, rfl, s2⟩; clear hW; have hA := Agent_at s2; clear s2) | (go_at_call 24; refine hA.mono ?_; rintro e w3 ⟨va, rfl, s3⟩; clear hA; have H3 := Lib.hid s3; clear s3))
    obtain ⟨wd, ewd⟩ : ∃ wd, wd = w3.drew := ⟨_, rfl⟩
    have HS0 : Hid (RtK W ((A, BB) :: G) [lP 18] [.pointer (some ⟨a, 0, none⟩)] M wd) := Lib.hid (H3.out.below kM3 (by rw [ewd]; exact (Below.refl _ _).drew))
    refine wp_region_noPanic ?_
    refine wp_region_held_drew (S := fun wa => Hid (RtK W ((A, BB) :: G) [lP 18] [.pointer (some ⟨a, 0, none⟩)] M wa)) (by kernel_rfl) (by rw [← ewd]; exact HS0) (fun hHeld => ?_)
    clear hHeld
    rw [← ewd]
    clear ewd
    refine wpAnyH_take (i := 0) (oi := ?oir1) (v := ?vr1) ?hir1 (by kernel_rfl) (by kernel_rfl) (by kernel_rfl) (fun _ _ _ h => h) ?hyr1 HS0 ?restr1
    case hir1 => (simp only [List.getElem?_toArray, List.getElem?_cons_zero]; try rfl)
    case hyr1 => (refine Or.inl ⟨by rfl, ?_⟩; intro w hSw; go_simp; (try with_reducible rfl))
    try simp only [Act.put, List.setIfInBounds_toArray, List.set_cons_zero, List.set_cons_succ]
    refine wpAnyH_take (i := 1) (oi := ?oir2) (v := ?vr2) ?hir2 (by kernel_rfl) (by kernel_rfl) (by kernel_rfl) (fun _ _ _ h => h) ?hyr2 HS0 ?restr2
    case hir2 => (simp only [List.getElem?_toArray, List.getElem?_cons_succ, List.getElem?_cons_zero]; try rfl)
    case hyr2 => (refine Or.inl ⟨by rfl, ?_⟩; intro w hSw; go_simp; (try with_reducible rfl))
    try simp only [Act.put, List.setIfInBounds_toArray, List.set_cons_zero, List.set_cons_succ]
    refine wpAnyH_take (i := 2) (oi := ?oir3) (v := ?vr3) ?hir3 (by kernel_rfl) (by kernel_rfl) (by kernel_rfl) (fun _ _ _ h => h) ?hyr3 HS0 ?restr3
    case hir3 => (simp only [List.getElem?_toArray, List.getElem?_cons_succ, List.getElem?_cons_zero]; try rfl)
    case hyr3 => (refine Or.inl ⟨by rfl, ?_⟩; intro w hSw; go_simp; (try with_reducible rfl))
    try simp only [Act.put, List.setIfInBounds_toArray, List.set_cons_zero, List.set_cons_succ]
    refine wpAnyH_take (i := 3) (oi := ?oir4) (v := ?vr4) ?hir4 (by kernel_rfl) (by kernel_rfl) (by kernel_rfl) (fun _ _ _ h => h) ?hyr4 HS0 ?restr4
    case hir4 => (simp only [List.getElem?_toArray, List.getElem?_cons_succ, List.getElem?_cons_zero]; try rfl)
    case hyr4 => (refine Or.inl ⟨by rfl, ?_⟩; intro w hSw; have q := (HWB.out w (hSw.out.blk _ List.mem_cons_self)).2 0 q0 rfl; go_simp; (try with_reducible rfl))
    try simp only [Act.put, List.setIfInBounds_toArray, List.set_cons_zero, List.set_cons_succ]
    refine wpAnyH_take (i := 4) (oi := ?oir5) (v := ?vr5) ?hir5 (by kernel_rfl) (by kernel_rfl) (by kernel_rfl) (fun _ _ _ h => h) ?hyr5 HS0 ?restr5
    case hir5 => (simp only [List.getElem?_toArray, List.getElem?_cons_succ, List.getElem?_cons_zero]; try rfl)
    case hyr5 => (refine Or.inl ⟨by rfl, ?_⟩; intro w hSw; go_simp; (try with_reducible rfl))
    try simp only [Act.put, List.setIfInBounds_toArray, List.set_cons_zero, List.set_cons_succ]
    refine wpAnyH_take (i := 5) (oi := ?oir6) (v := ?vr6) ?hir6 (by kernel_rfl) (by kernel_rfl) (by kernel_rfl) (fun _ _ _ h => h) ?hyr6 HS0 ?restr6
    case hir6 => (simp only [List.getElem?_toArray, List.getElem?_cons_succ, List.getElem?_cons_zero]; try rfl)
    case hyr6 => (refine Or.inl ⟨by rfl, ?_⟩; intro w hSw; go_simp; (try with_reducible rfl))
    try simp only [Act.put, List.setIfInBounds_toArray, List.set_cons_zero, List.set_cons_succ]
    refine wpAnyH_take (i := 6) (oi := ?oir7) (v := ?vr7) ?hir7 (by kernel_rfl) (by kernel_rfl) (by kernel_rfl) (fun _ _ _ h => h) ?hyr7 HS0 ?restr7
    case hir7 => (simp only [List.getElem?_toArray, List.getElem?_cons_succ, List.getElem?_cons_zero]; try rfl)
    case hyr7 => (refine Or.inl ⟨by rfl, ?_⟩; intro w hSw; have q := (HWB.out w (hSw.out.blk _ List.mem_cons_self)).2 1 q1 rfl; go_simp; (try with_reducible rfl))
    try simp only [Act.put, List.setIfInBounds_toArray, List.set_cons_zero, List.set_cons_succ]
    refine wpAnyH_ready (rs := [7]) (by kernel_rfl) (by simp) ?_
    refine AllReadyH.cons (o := ?oir8) ?hir8 (fun K hK => ?str8) AllReadyH.nil
    case hir8 => (simp only [List.getElem?_toArray, List.getElem?_cons_succ, List.getElem?_cons_zero]; try rfl)
    go_simp
    go_at_call 26
    refine (round_at HQ.out (HL.out q1 (by simp)) HS0.out).mono ?_
    rintro e w5 ⟨rfl, s5⟩
    try dsimp only
    have S5 := Lib.hid s5
    clear s5
    refine hK.out _ _ S5 (fun _ => ?rsr8)
    clear hK K
    try simp only [Act.put, List.setIfInBounds_toArray, List.set_cons_zero, List.set_cons_succ]
    refine wpAnyH_take (i := 8) (oi := ?oir9) (v := ?vr9) ?hir9 (by kernel_rfl) (by kernel_rfl) (by kernel_rfl) (fun _ _ _ h => h) ?hyr9 S5 ?restr9
    case hir9 => (simp only [List.getElem?_toArray, List.getElem?_cons_succ, List.getElem?_cons_zero]; try rfl)
    case hyr9 => (refine Or.inl ⟨by rfl, ?_⟩; intro w hSw; go_simp; (try with_reducible rfl))
    try simp only [Act.put, List.setIfInBounds_toArray, List.set_cons_zero, List.set_cons_succ]
    refine wpAnyH_done (by kernel_rfl) ?_ _
    refine NoPanic.normal ?_
    go_wp2_with fail
    go_ret
    exact ⟨rfl, S5.out⟩
  rcases L with _ | ⟨q3, L⟩
  · go_enter Tryz.func15, Tryz.ntmps15
    go_upto_region 8 with (first | (go_at_call 22; refine hW.mono ?_; rintro e w2 ⟨pw, rfl, s2⟩; clear hW; have hA := Agent_at s2; clear s2) | (go_at_call 24; refine hA.mono ?_; rintro e w3 ⟨va, rfl, s3⟩; clear hA; have H3 := Lib.hid s3; clear s3))
    obtain ⟨wd, ewd⟩ : ∃ wd, wd = w3.drew := ⟨_, rfl⟩
    have HS0 : Hid (RtK W ((A, BB) :: G) [lP 18] [.pointer (some ⟨a, 0, none⟩)] M wd) := Lib.hid (H3.out.below kM3 (by rw [ewd]; exact (Below.refl _ _).drew))
    refine wp_region_noPanic ?_
    refine wp_region_held_drew (S := fun wa => Hid (RtK W ((A, BB) :: G) [lP 18] [.pointer (some ⟨a, 0, none⟩)] M wa)) (by kernel_rfl) (by rw [← ewd]; exact HS0) (fun hHeld => ?_)
    clear hHeld
    rw [← ewd]
    clear ewd
    refine wpAnyH_take (i := 0) (oi := ?ois1) (v := ?vs1) ?his1 (by kernel_rfl) (by kernel_rfl) (by kernel_rfl) (fun _ _ _ h => h) ?hys1 HS0 ?rests1
    case his1 => (simp only [List.getElem?_toArray, List.getElem?_cons_zero]; try rfl)
    case hys1 => (refine Or.inl ⟨by rfl, ?_⟩; intro w hSw; go_simp; (try with_reducible rfl))
    try simp only [Act.put, List.setIfInBounds_toArray, List.set_cons_zero, List.set_cons_succ]
    refine wpAnyH_take (i := 1) (oi := ?ois2) (v := ?vs2) ?his2 (by kernel_rfl) (by kernel_rfl) (by kernel_rfl) (fun _ _ _ h => h) ?hys2 HS0 ?rests2
    case his2 => (simp only [List.getElem?_toArray, List.getElem?_cons_succ, List.getElem?_cons_zero]; try rfl)
    case hys2 => (refine Or.inl ⟨by rfl, ?_⟩; intro w hSw; go_simp; (try with_reducible rfl))
    try simp only [Act.put, List.setIfInBounds_toArray, List.set_cons_zero, List.set_cons_succ]
    refine wpAnyH_take (i := 2) (oi := ?ois3) (v := ?vs3) ?his3 (by kernel_rfl) (by kernel_rfl) (by kernel_rfl) (fun _ _ _ h => h) ?hys3 HS0 ?rests3
    case his3 => (simp only [List.getElem?_toArray, List.getElem?_cons_succ, List.getElem?_cons_zero]; try rfl)
    case hys3 => (refine Or.inl ⟨by rfl, ?_⟩; intro w hSw; go_simp; (try with_reducible rfl))
    try simp only [Act.put, List.setIfInBounds_toArray, List.set_cons_zero, List.set_cons_succ]
    refine wpAnyH_take (i := 3) (oi := ?ois4) (v := ?vs4) ?his4 (by kernel_rfl) (by kernel_rfl) (by kernel_rfl) (fun _ _ _ h => h) ?hys4 HS0 ?rests4
    case his4 => (simp only [List.getElem?_toArray, List.getElem?_cons_succ, List.getElem?_cons_zero]; try rfl)
    case hys4 => (refine Or.inl ⟨by rfl, ?_⟩; intro w hSw; go_simp; (try with_reducible rfl))
    try simp only [Act.put, List.setIfInBounds_toArray, List.set_cons_zero, List.set_cons_succ]
    refine wpAnyH_take (i := 4) (oi := ?ois5) (v := ?vs5) ?his5 (by kernel_rfl) (by kernel_rfl) (by kernel_rfl) (fun _ _ _ h => h) ?hys5 HS0 ?rests5
    case his5 => (simp only [List.getElem?_toArray, List.getElem?_cons_succ, List.getElem?_cons_zero]; try rfl)
    case hys5 => (refine Or.inl ⟨by rfl, ?_⟩; intro w hSw; have q := (HWB.out w (hSw.out.blk _ List.mem_cons_self)).2 0 q0 rfl; go_simp; (try with_reducible rfl))
    try simp only [Act.put, List.setIfInBounds_toArray, List.set_cons_zero, List.set_cons_succ]
    refine wpAnyH_take (i := 5) (oi := ?ois6) (v := ?vs6) ?his6 (by kernel_rfl) (by kernel_rfl) (by kernel_rfl) (fun _ _ _ h => h) ?hys6 HS0 ?rests6
    case his6 => (simp only [List.getElem?_toArray, List.getElem?_cons_succ, List.getElem?_cons_zero]; try rfl)
    case hys6 => (refine Or.inl ⟨by rfl, ?_⟩; intro w hSw; go_simp; (try with_reducible rfl))
    try simp only [Act.put, List.setIfInBounds_toArray, List.set_cons_zero, List.set_cons_succ]
    refine wpAnyH_take (i := 6) (oi := ?ois7) (v := ?vs7) ?his7 (by kernel_rfl) (by kernel_rfl) (by kernel_rfl) (fun _ _ _ h => h) ?hys7 HS0 ?rests7
    case his7 => (simp only [List.getElem?_toArray, List.getElem?_cons_succ, List.getElem?_cons_zero]; try rfl)
    case hys7 => (refine Or.inl ⟨by rfl, ?_⟩; intro w hSw; go_simp; (try with_reducible rfl))
    try simp only [Act.put, List.setIfInBounds_toArray, List.set_cons_zero, List.set_cons_succ]
    refine wpAnyH_take (i := 7) (oi := ?ois8) (v := ?vs8) ?his8 (by kernel_rfl) (by kernel_rfl) (by kernel_rfl) (fun _ _ _ h => h) ?hys8 HS0 ?rests8
    case his8 => (simp only [List.getElem?_toArray, List.getElem?_cons_succ, List.getElem?_cons_zero]; try rfl)
    case hys8 => (refine Or.inl ⟨by rfl, ?_⟩; intro w hSw; have q := (HWB.out w (hSw.out.blk _ List.mem_cons_self)).2 1 q1 rfl; go_simp; (try with_reducible rfl))
    try simp only [Act.put, List.setIfInBounds_toArray, List.set_cons_zero, List.set_cons_succ]
    refine wpAnyH_take (i := 8) (oi := ?ois9) (v := ?vs9) ?his9 (by kernel_rfl) (by kernel_rfl) (by kernel_rfl) (fun _ _ _ h => h) ?hys9 HS0 ?rests9
    case his9 => (simp only [List.getElem?_toArray, List.getElem?_cons_succ, List.getElem?_cons_zero]; try rfl)
    case hys9 => (refine Or.inl ⟨by rfl, ?_⟩; intro w hSw; go_simp; (try with_reducible rfl))
    try simp only [Act.put, List.setIfInBounds_toArray, List.set_cons_zero, List.set_cons_succ]
    refine wpAnyH_take (i := 9) (oi := ?ois10) (v := ?vs10) ?his10 (by kernel_rfl) (by kernel_rfl) (by kernel_rfl) (fun _ _ _ h => h) ?hys10 HS0 ?rests10
    case his10 => (simp only [List.getElem?_toArray, List.getElem?_cons_succ, List.getElem?_cons_zero]; try rfl)
    case hys10 => (refine Or.inl ⟨by rfl, ?_⟩; intro w hSw; go_simp; (try with_reducible rfl))
    try simp only [Act.put, List.setIfInBounds_toArray, List.set_cons_zero, List.set_cons_succ]
    refine wpAnyH_take (i := 10) (oi := ?ois11) (v := ?vs11) ?his11 (by kernel_rfl) (by kernel_rfl) (by kernel_rfl) (fun _ _ _ h => h) ?hys11 HS0 ?rests11
    case his11 => (simp only [List.getElem?_toArray, List.getElem?_cons_succ, List.getElem?_cons_zero]; try rfl)
    case hys11 => (refine Or.inl ⟨by rfl, ?_⟩; intro w hSw; have q := (HWB.out w (hSw.out.blk _ List.mem_cons_self)).2 2 q2 rfl; go_simp; (try with_reducible rfl))
    try simp only [Act.put, List.setIfInBounds_toArray, List.set_cons_zero, List.set_cons_succ]
    refine wpAnyH_ready (rs := [11]) (by kernel_rfl) (by simp) ?_
    refine AllReadyH.cons (o := ?ois12) ?his12 (fun K hK => ?sts12) AllReadyH.nil
    case his12 => (simp only [List.getElem?_toArray, List.getElem?_cons_succ, List.getElem?_cons_zero]; try rfl)
    go_simp
    go_at_call 27
    refine (about_at HQ.out HS0.out).mono ?_
    rintro e w5 ⟨rfl, s5⟩
    try dsimp only
    have S5 := Lib.hid s5
    clear s5
    refine hK.out _ _ S5 (fun _ => ?rss12)
    clear hK K
    try simp only [Act.put, List.setIfInBounds_toArray, List.set_cons_zero, List.set_cons_succ]
    refine wpAnyH_take (i := 12) (oi := ?ois13) (v := ?vs13) ?his13 (by kernel_rfl) (by kernel_rfl) (by kernel_rfl) (fun _ _ _ h => h) ?hys13 S5 ?rests13
    case his13 => (simp only [List.getElem?_toArray, List.getElem?_cons_succ, List.getElem?_cons_zero]; try rfl)
    case hys13 => (refine Or.inl ⟨by rfl, ?_⟩; intro w hSw; go_simp; (try with_reducible rfl))
    try simp only [Act.put, List.setIfInBounds_toArray, List.set_cons_zero, List.set_cons_succ]
    refine wpAnyH_done (by kernel_rfl) ?_ _
    refine NoPanic.normal ?_
    go_wp2_with fail
    go_ret
    exact ⟨rfl, S5.out⟩
  · obtain ⟨N, hNe⟩ : ∃ N, N = (q0 :: q1 :: q2 :: q3 :: L).length := ⟨_, rfl⟩
    have hN4 : (4 : Int) ≤ (N : Int) ∧ (N : Int) ≤ 1004 := by rw [hNe]; simp at hN ⊢; omega
    rw [← hNe]
    clear hN hNe
    obtain ⟨h4, h5⟩ := hN4
    go_enter Tryz.func15, Tryz.ntmps15
    go_wp2_with (first | (go_at_call 22; refine hW.mono ?_; rintro e w2 ⟨pw, rfl, s2⟩; clear hW; have hA := Agent_at s2; clear s2) | (go_at_call 24; refine hA.mono ?_; rintro e w3 ⟨va, rfl, s3⟩; clear hA; have hR := Res_at s3; clear s3) | (go_at_call 23; refine hR.mono ?_; rintro e w4 ⟨rfl, s4⟩; clear hR; have H4 := Lib.hid s4; clear s4))
    go_ret
    exact ⟨rfl, H4.out⟩
end
end Go.Proofs.YtolignkahfekbaaGreatDoor.consoleErrors
namespace Go.Proofs.YtolignkahfekbaaGreatDoor.consoleErrors
open Go Go.RowKit Go.Lib Go.Proofs.YtolignkahfekbaaGreatDoor Go.Proofs.YtolignkahfekbaaGreatDoor.Ce Go.ChangeShapes Go.WideShapes Go.ChangeAt Lit
set_option linter.unusedVariables false
set_option maxRecDepth 100000
section
variable [Toks] {W w : World} {G : List (Nat × Obj)} {pk : Value}
set_option maxHeartbeats 8000000 in
theorem Line_what {s : ByteArray} (hs : s.size ≤ 999) (hw : Wh s) (S : RtK W G [lP 18] [pk] M w) :
    Calls Tryz.prog 8 #[pk, .string s] w fun e w' => ∃ v', e = .returned v' ∧ RtK W G [lP 18, lL 19 0 1 1] [pk, v'] (M.push ⟨[.string err2], 9, 0, 1⟩) w' := by
  have hF := FF1 s w (by omega)
  obtain ⟨q0, L, hL, hq0⟩ := fields_wh hw
  have hfl := fields_len spB s
  have hfn := fields_cnt s hs
  rw [hL] at hF hfl hfn
  obtain ⟨N, hN⟩ : ∃ N, N = L.length + 1 := ⟨_, rfl⟩
  have hN' : (q0 :: L).length = N := by rw [hN]; simp
  rw [hN'] at hF hfn
  have hne : ¬ (N : Int) = 0 := by omega
  have HS := Lib.hid S
  have HN := Lib.hid hN'
  have HQ := Lib.hid hq0
  have HFN := Lib.hid hfn
  have HFL := Lib.hid hfl
  have HW := Lib.hid hw
  clear S hN hN' hq0 hfn hfl hL hw
  go_enter Tryz.func8, Tryz.ntmps8
  go_upto_region 2 with (go_at_call 11; refine hF.mono ?_; rintro e w2 ⟨A, rfl, hA, hwd, hb⟩; clear hF)
  obtain ⟨BB, hBB⟩ : ∃ BB, w2.heap[A]? = some BB := ⟨_, Array.getElem?_eq_getElem hwd.1⟩
  have HG := Lib.hid (HS.out.guard kM3 hb hA hBB)
  have HWB : Hid (∀ wa : World, wa.heap[A]? = some BB → Wds wa A (q0 :: L)) := Lib.hid fun wa e => hwd.same (e.trans hBB.symm)
  have hSt := steps_any w2 (by omega) HW.out
  clear hwd hb hA hBB
  go_wp2_with (first | (go_at_call 13; refine hSt.mono ?_; rintro e w3 ⟨rfl, hb3⟩; clear hSt; have hAn := answer_at HWB.out HQ.out (fun x hx => Nat.le_trans (HFL.out x hx) (by omega)) (by have := HN.out; have := HFN.out; simp at *; omega) (HG.out.below kM3 hb3); rw [HN.out] at hAn; clear hb3) | (go_at_call 15; refine hAn.mono ?_; rintro e w4 ⟨rfl, s4⟩; have H4 := Lib.hid s4; clear s4 hAn))
  go_ret
  exact ⟨_, rfl, RtK.push (cs := #[.string err2]) (cells := [.string err2]) (e := 9) (es := 1) (cap := 1) H4.out.unguard rfl (fun ρ _ k u hu => ⟨u, by simpa using hu, VR0.flat (by
      rcases k with _ | k
      · simp only [List.getElem?_cons_zero, Option.some.injEq] at hu
        rw [← hu]
        rfl
      · simp at hu)⟩)⟩
theorem Line_const {x y : ByteArray} (hx : okX x y = true) (S : RtK W G [lP 18] [pk] M w) :
    Calls Tryz.prog 8 #[pk, .string x] w fun e w' => ∃ v' v h, e = .returned v' ∧ okS y v h = true ∧ RtK W G [lP 18, v] [pk, v'] h w' := by
  unfold okX at hx
  split at hx
  · rename_i r hr
    refine (RtK.call cc_ok.1 cc_ok.2 hr S (args' := #[pk, .string x]) (fun ρ hl => ?_)).mono ?_
    · cases hl with
      | cons a _ => exact .cons a (.cons (VR.flat rfl) .nil)
    · rintro e w' ⟨v', rfl, s'⟩
      exact ⟨v', _, _, rfl, hx, s'⟩
  · cases hx
theorem Line_nil {x : ByteArray} (hx : okN x = true) (S : RtK W G [lP 18] [pk] M w) :
    Calls Tryz.prog 8 #[pk, .string x] w fun e w' => e = .returned (.slice none 0 0) ∧ RtK W G [lP 18] [pk] M w' := by
  unfold okN at hx
  split at hx
  · rename_i r hr
    obtain ⟨h1, h2⟩ := bAnd_true hx
    refine (RtK.call cc_ok.1 cc_ok.2 hr S (args' := #[pk, .string x]) (fun ρ hl => ?_)).mono ?_
    · cases hl with
      | cons a _ => exact .cons a (.cons (VR.flat rfl) .nil)
    · rintro e w' ⟨v', rfl, s'⟩
      rw [eqV2_eq h1] at s'
      have e1 := RtK.last (R := [lP 18]) (vs := [pk]) s' rfl rfl
      exact ⟨by rw [e1], RtK.norm h2 (s'.take 1)⟩
  · cases hx
theorem Same_at {y : ByteArray} {v v' : Value} {h : AHeap} (ho : okS y v h = true) (S : RtK W G [lP 18, v] [pk, v'] h w) :
    Calls Tryz.prog 7 #[v', .slice (some ⟨w.heap.size, 0, none⟩) 1 1] (w.alloc (.cells #[.string y] 9)) fun e w' => e = .returned (.bool true) ∧ RtK W G [lP 18] [pk] M w' := by
  have s2 : RtK W G [lP 18, v, lL h.n 0 1 1] [pk, v', .slice (some ⟨w.heap.size, 0, none⟩) 1 1] (h.push ⟨[.string y], 9, 0, 1⟩) (w.alloc (.cells #[.string y] 9)) :=
    RtK.push (cs := #[.string y]) (cells := [.string y]) (e := 9) (es := 1) (cap := 1) S rfl (fun ρ _ k u hu => ⟨u, by simpa using hu, VR0.flat (by
      rcases k with _ | k
      · simp only [List.getElem?_cons_zero, Option.some.injEq] at hu
        rw [← hu]
        rfl
      · simp at hu)⟩)
  unfold okS at ho
  split at ho
  · rename_i q hq
    obtain ⟨h1, h2⟩ := bAnd_true ho
    refine (RtK.call cc_ok.1 cc_ok.2 hq s2 (args' := #[v', .slice (some ⟨w.heap.size, 0, none⟩) 1 1]) (fun ρ hl => ?_)).mono ?_
    · cases hl with
      | cons a hl => cases hl with
        | cons b hl => cases hl with
          | cons d _ => exact .cons b (.cons d .nil)
    · rintro e w' ⟨v2, rfl, s'⟩
      rw [eqV2_eq h1] at s'
      have e1 := RtK.last (R := [lP 18, v, lL h.n 0 1 1]) (vs := [pk, v', .slice (some ⟨w.heap.size, 0, none⟩) 1 1]) s' rfl rfl
      exact ⟨by rw [e1], RtK.norm h2 (s'.take 1)⟩
  · cases ho
theorem Plain_at (w : World) : Calls Tryz.prog 5 #[] w fun e w' => e = .returned (lA cfgL) ∧ Rt w [] [] (rh rP) w' := by
  refine (Rt.call cc_ok.1 cc_ok.2 (show cc 5 [] h0 = some (lA cfgL, rh rP) from r_eq rP_v) (Rt.start w) (args' := #[]) (fun ρ _ => .nil)).mono ?_
  rintro e w' ⟨v', rfl, s, hb⟩
  have := s.last (R := []) (vs := []) (by kernel_rfl) rfl
  exact ⟨by rw [this], s.take 0⟩
theorem New_at {w w1 : World} (s : Rt w [] [] (rh rP) w1) : Calls Tryz.prog 4 #[lA cfgL] w1 fun e w' => ∃ pk, e = .returned (.tuple #[pk, .int .i64 0]) ∧ RtK w [] [lP 18] [pk] M w' := by
  refine (Rt.call cc_ok.1 cc_ok.2 (show cc 4 [lA cfgL] (rh rP) = some (lD [lP 33, lI 0], rh rN) from r_eq rN_v) s (args' := #[lA cfgL]) (fun ρ _ => .cons (VR.flat (by kernel_rfl)) .nil)).mono ?_
  rintro e w' ⟨v', rfl, s1, hb⟩
  obtain ⟨l', rfl, s2⟩ := Rt.untuple (R := []) (vs := []) (l := [lP 33, lI 0]) (v' := v') (by
    intro u hu q
    simp only [List.mem_cons, List.not_mem_nil, or_false] at hu
    rcases hu with rfl | rfl <;> intro e <;> cases e) s1
  obtain ⟨a, b, rfl⟩ : ∃ a b, l' = [a, b] := by
    obtain ⟨⟨ρ, _, _, _, s4⟩, _⟩ := s2
    have := s4.length
    simp only [List.nil_append, List.length_cons, List.length_nil] at this
    match l', this with
    | [a, b], _ => exact ⟨a, b, rfl⟩
  have eb : b = lI 0 := Rt.last (R := [lP 33]) (vs := [a]) s2 rfl rfl
  subst eb
  have s3 : Rt w [lP 18, lI 0] [a, lI 0] M w' := Rt.norm rN_s s2
  exact ⟨a, rfl, (s3.take 1).toK⟩
theorem Line_any {x X : ByteArray} (hx : x ∈ linesC ++ [X]) (hX : Wh X) (hs : X.size ≤ 999) (S : RtK W G [lP 18] [pk] M w) :
    Calls Tryz.prog 8 #[pk, .string x] w fun e w' => ∃ v' v h, e = .returned v' ∧ okS err2 v h = true ∧ RtK W G [lP 18, v] [pk, v'] h w' := by
  rcases List.mem_append.1 hx with h | h
  · exact Line_const (List.all_eq_true.1 ok_lines x h) S
  · obtain rfl := List.mem_singleton.1 h
    refine (Line_what hs hX S).mono ?_
    rintro e w' ⟨v', rfl, s'⟩
    exact ⟨v', _, _, rfl, ok_what, s'⟩
end
end Go.Proofs.YtolignkahfekbaaGreatDoor.consoleErrors
namespace Go.Proofs.YtolignkahfekbaaGreatDoor.consoleErrors
open Go Go.RowKit Go.Lib Go.Proofs.YtolignkahfekbaaGreatDoor Go.Proofs.YtolignkahfekbaaGreatDoor.Ce Go.ChangeShapes Go.WideShapes Go.ChangeAt Lit
set_option linter.unusedVariables false
set_option maxRecDepth 100000
theorem KText_nat (s : ByteArray) (n : Nat) (w : World) (_hs : s.size ≤ maxLen) (hn : (n : Int) ≤ 1000000) :
    Calls Tryz.prog 6 #[.string s, .int .i64 n] w fun e w' => e = .returned (.string (s.extract 0 (min s.size n))) ∧ w = w' := by
  by_cases h : s.size ≤ n
  · have H : Hid (s.extract 0 (min s.size n) = s) := by show _ = _; rw [show min s.size n = s.size by omega]; simp
    go_enter Tryz.func6, Tryz.ntmps6
    go_wp2
    go_ret
    exact ⟨ret_str (by rw [show (min (s.size : Int) (n : Int)).toNat = min s.size n by omega, H.out]), rfl⟩
  · have H : Hid (s.extract 0 (min s.size n) = s.extract 0 n) := by show _ = _; rw [show min s.size n = n by omega]
    go_enter Tryz.func6, Tryz.ntmps6
    go_wp2
    go_ret
    exact ⟨ret_str (by rw [show (min (s.size : Int) (n : Int)).toNat = min s.size n by omega, H.out]), rfl⟩
theorem linesLen (X : ByteArray) : (linesC ++ [X]).length = 37 := by simp [linesC]
theorem cellsEq (X : ByteArray) : ((linesC ++ [X]).map Value.string).toArray = #[.string ⟨#[114, 111, 117, 110, 100]⟩, .string ⟨#[114, 111, 117, 110, 100, 32, 120]⟩, .string ⟨#[114, 111, 117, 110, 100, 32, 45, 49]⟩, .string ⟨#[114, 111, 117, 110, 100, 32, 49, 32, 50]⟩, .string ⟨#[115, 116, 97, 116, 101, 32, 102]⟩, .string ⟨#[115, 116, 97, 116, 101, 32, 102, 32, 97, 32, 98]⟩, .string ⟨#[112, 104, 97, 115, 101]⟩, .string ⟨#[117, 115, 101, 100, 32, 48]⟩, .string ⟨#[115, 97, 105, 100, 32, 115, 97, 105, 100]⟩, .string ⟨#[114, 111, 119, 115, 32, 49]⟩, .string ⟨#[98, 111, 120, 101, 115, 32, 49]⟩, .string ⟨#[115, 101, 110, 116, 32, 102]⟩, .string ⟨#[113, 117, 105, 101, 116, 32, 49]⟩, .string ⟨#[115, 111, 117, 110, 100, 32, 120]⟩, .string ⟨#[116, 105, 99, 107]⟩, .string ⟨#[116, 105, 99, 107, 32, 120]⟩, .string ⟨#[116, 105, 99, 107, 32, 48, 49]⟩, .string ⟨#[102, 117, 115, 101]⟩, .string ⟨#[99, 114, 97, 115, 104]⟩, .string ⟨#[99, 114, 97, 115, 104, 32, 49, 32, 50, 32, 51]⟩, .string ⟨#[114, 117, 110, 32, 102, 32, 120]⟩, .string ⟨#[114, 117, 110, 32, 102, 32, 120, 32, 97, 32, 49]⟩, .string ⟨#[114, 117, 110, 32, 102, 32, 120, 32, 97, 32, 48, 32, 48]⟩, .string ⟨#[114, 117, 110, 32, 102, 32, 120, 32, 97, 32, 49, 32, 49, 48, 48, 49]⟩, .string ⟨#[114, 117, 110, 32, 102, 32, 120, 32, 97, 32, 49, 32, 49, 32, 97, 32, 50, 32, 50]⟩, .string ⟨#[107, 105, 108, 108, 32, 102]⟩, .string ⟨#[107, 105, 108, 108, 32, 70, 32, 97]⟩, .string ⟨#[115, 104, 117, 116]⟩, .string ⟨#[97, 99, 107, 32, 102, 32, 97, 32, 48, 32, 49]⟩, .string ⟨#[97, 115, 107]⟩, .string ⟨#[97, 115, 107, 32, 102, 32, 97, 32, 97]⟩, .string ⟨#[119, 101, 108, 99, 111, 109, 101, 32, 49]⟩, .string ⟨#[104, 101, 108, 108, 111, 32, 102, 32, 120, 32, 48]⟩, .string ⟨#[114, 101, 112, 111, 114, 116, 32, 102, 32, 120, 32, 49, 32, 97, 32, 56]⟩, .string ⟨#[103, 111, 110, 101, 32, 102, 32, 120]⟩, .string ⟨#[84, 105, 99, 107, 32, 49]⟩, .string X] := rfl
set_option maxHeartbeats 40000000 in
theorem walk (a0 : ByteArray) (w : World) (b0 : a0.size ≤ maxLen) :
    Calls Tryz.prog 3 #[.string a0] w fun e w' => e = .returned (.bool true) ∧ Below w.heap.size w w' := by
  obtain ⟨tk⟩ : Nonempty Toks := ⟨⟨fun _ => 0⟩⟩
  have hT := fun wa => KText_nat a0 20 wa b0 (by omega)
  have htl : (a0.extract 0 (min a0.size 20)).size ≤ 20 := by simp; omega
  generalize a0.extract 0 (min a0.size 20) = t at hT htl
  obtain ⟨X, hX⟩ : ∃ X, X = (⟨#[119, 104, 97, 116]⟩ : ByteArray) ++ t := ⟨_, rfl⟩
  have hXw : Wh X := ⟨t.data.toList, by rw [hX, ByteArray.data_append, Array.toList_append]⟩
  have hXs : X.size ≤ 999 := by
    have : X.size = 4 + t.size := by rw [hX]; exact ByteArray.size_append
    omega
  have HXW := Lib.hid (And.intro hXw hXs)
  have HX := Lib.hid hX
  have hPl := Plain_at w
  clear hXw hXs hX
  go_enter Tryz.func3, Tryz.ntmps3
  go_upto_region 2 with (first | (go_at_call 5; refine hPl.mono ?_; rintro e w1 ⟨rfl, s1⟩; clear hPl; have hU := New_at s1; clear s1) | (go_at_call 4; refine hU.mono ?_; rintro e w2 ⟨pk, rfl, s2⟩; clear hU))
  obtain ⟨ak, pp, rfl, -, -⟩ := play_of s2
  have H2 := Lib.hid s2
  clear s2
  go_upto_region 4 with fail
  go_upto_region 5 with (go_at_call 6; refine (hT _).mono ?_; rintro e w3 ⟨rfl, rfl⟩)
  rw [← HX.out, ← cellsEq X]
  obtain ⟨W3, hW3⟩ : ∃ W3, W3 = w2.alloc (.cells ((linesC ++ [X]).map Value.string).toArray 9) := ⟨_, rfl⟩
  obtain ⟨ad, had⟩ : ∃ ad, ad = (⟨w2.heap.size, 0, none⟩ : Addr) := ⟨_, rfl⟩
  obtain ⟨g, hg⟩ : ∃ g, g = w2.heap.size := ⟨_, rfl⟩
  obtain ⟨B, hB⟩ : ∃ B : Obj, B = .cells ((linesC ++ [X]).map Value.string).toArray 9 := ⟨_, rfl⟩
  have HK : Hid (RtK w [(g, B)] [lP 18] [.pointer (some ⟨ak, 0, none⟩)] M W3) := Lib.hid (H2.out.guard kM3 (by rw [hW3]; exact (Below.refl _ _).alloc (Nat.le_refl _) _) (by rw [hg]; exact Nat.le_refl _) (by rw [hW3, hg, hB]; show (w2.heap.push _)[w2.heap.size]? = some _; simp))
  have HC : Hid (∀ wa : World, wa.heap[g]? = some B → ∀ (k : Nat) (q : ByteArray), (linesC ++ [X])[k]? = some q → wa.cell? (ad.add k) = some (.string q)) := Lib.hid (by
    intro wa e k q hq
    rw [hB] at e
    have hb : Blk wa g 9 ((linesC ++ [X]).map Value.string).toArray := e
    have e2 : ad.add k = ⟨g, k, none⟩ := by rw [had, hg]; unfold Addr.add; split <;> simp_all
    rw [e2, hb.cell k]
    simp only [List.getElem?_toArray, List.getElem?_map, hq, Option.map_some])
  rw [← hW3, ← had]
  clear hW3 had hg hB H2 hT
  go_wp2_with fail
  go_loopw [23] (fun v23 wx => Hid (∃ i : Nat, v23 = .int .i64 (i : Nat) ∧ i ≤ 37 ∧ RtK w [(g, B)] [lP 18] [.pointer (some ⟨ak, 0, none⟩)] M wx ∧ ∃ w7, w7 = wx)) (fun v23 _ => 37 - (intOf v23).toNat)
  case atStart => exact Lib.hid ⟨0, rfl, by omega, HK.out, _, rfl⟩
  case round =>
    obtain ⟨i, rfl, hi, hs, w7, hw7⟩ := hrel.out
    subst hw7
    clear hrel
    have HS := Lib.hid hs
    clear hs HK
    by_cases hlt : (i : Int) < 37
    · obtain ⟨q, hq⟩ : ∃ q, (linesC ++ [X])[i]? = some q := ⟨_, List.getElem?_eq_getElem (by rw [linesLen]; omega)⟩
      have hc := HC.out _ (HS.out.blk _ List.mem_cons_self) i q hq
      have hLn := Line_any (List.mem_of_getElem? hq) HXW.out.1 HXW.out.2 HS.out
      have hi0 : (0 : Int) ≤ (i : Int) := by omega
      have hiN : i < 37 := by omega
      clear hq
      go_wp2_with (first | (go_at_call 8; refine hLn.mono ?_; rintro e w5 ⟨v5, vv, hh, rfl, hok, hs5⟩; have hSm := Same_at hok hs5; unfold err2 at hSm; clear HS hok hs5 hLn) | (go_at_call 7; refine hSm.mono ?_; rintro e w6 ⟨rfl, s6⟩; clear hSm; have HS := Lib.hid s6; clear s6))
      refine ⟨?_, by simp [intOf]; omega⟩
      exact Lib.hid ⟨i + 1, by simp, by omega, HS.out, _, rfl⟩
    · have hL0 := Line_nil ok_nil.1 HS.out
      clear HS
      go_wp2_with (first | (go_at_call 8; first | (refine hL0.mono ?_; rintro e w5 ⟨rfl, s5⟩; clear hL0; have hL1 := Line_nil ok_nil.2 s5; clear s5) | (refine hL1.mono ?_; rintro e w5 ⟨rfl, s5⟩; clear hL1; have hL2 := Line_const ok_a0 s5; clear s5) | (refine hL2.mono ?_; rintro e w5 ⟨v5, vv, hh, rfl, hok, hs5⟩; clear hL2; have hS2 := Same_at hok hs5; clear hok hs5) | (refine hL3.mono ?_; rintro e w5 ⟨v5, vv, hh, rfl, hok, hs5⟩; clear hL3; have hS3 := Same_at hok hs5; clear hok hs5) | (refine hL4.mono ?_; rintro e w5 ⟨v5, vv, hh, rfl, hok, hs5⟩; clear hL4; have hS4 := Same_at hok hs5; clear hok hs5) | (refine hL5.mono ?_; rintro e w5 ⟨v5, vv, hh, rfl, hok, hs5⟩; clear hL5; have hS5 := Same_at hok hs5; clear hok hs5) | (refine hL6.mono ?_; rintro e w5 ⟨v5, vv, hh, rfl, hok, hs5⟩; clear hL6; have hS6 := Same_at hok hs5; clear hok hs5) | (refine hL7.mono ?_; rintro e w5 ⟨v5, vv, hh, rfl, hok, hs5⟩; clear hL7; have hS7 := Same_at hok hs5; clear hok hs5)) | (go_at_call 7; first | (refine hS2.mono ?_; rintro e w6 ⟨rfl, s6⟩; clear hS2; have hL3 := Line_const ok_a1 s6; clear s6) | (refine hS3.mono ?_; rintro e w6 ⟨rfl, s6⟩; clear hS3; have hL4 := Line_const ok_a2 s6; clear s6) | (refine hS4.mono ?_; rintro e w6 ⟨rfl, s6⟩; clear hS4; have hL5 := Line_const ok_a3 s6; clear s6) | (refine hS5.mono ?_; rintro e w6 ⟨rfl, s6⟩; clear hS5; have hL6 := Line_const ok_a4 s6; clear s6) | (refine hS6.mono ?_; rintro e w6 ⟨rfl, s6⟩; clear hS6; have hL7 := Line_const ok_a5 s6; clear s6) | (refine hS7.mono ?_; rintro e w6 ⟨rfl, s6⟩; clear hS7; have HS := Lib.hid s6; clear s6)) | (go_at_call 9; refine (wakes_9.2.2.2 _).mono ?_; rintro e w9 ⟨rfl, hb9⟩))
      go_ret
      exact ⟨rfl, HS.out.bel.trans (hb9.mono HS.out.bel.size)⟩
end Go.Proofs.YtolignkahfekbaaGreatDoor.consoleErrors
