/- The walk of WatchTells: the Go text returns true, and writes nothing that was there. -/
import Derived.Test.YticmldkgkfcoeaaWaN
import Derived.Test.YticmldkgkfcoeaaWaJ
import Derived.Test.YticmldkgkfcoeaaAllSum
import Derived.Deep.CutRange
import Derived.Deep.RegionHeld3
import Derived.Deep.DeepCutAuto
import Derived.Deep.CutBlock
import Derived.Lib.Builder
import Derived.Deep.RegionLaw
import Derived.IntWalk
namespace Go.Proofs.Yticmldkgkfcoeaa.watchTells
open Go.ChangeShapes Go.WideShapes Go.ChangeAt Go.RowKit
set_option linter.unusedVariables false
set_option maxRecDepth 100000
open Go.Proofs.Yticmldkgkfcoeaa.Wa Go.Proofs.Yticmldkgkfcoeaa.Crw
theorem wkk (w : World) : Calls Try.prog 13 #[] w fun e w' => e = .returned (.bool true) ∧ Below w.heap.size w w' := wakes_13.2.2.2 w
theorem ok_eq {L : List Sd} (h : ∀ x ∈ L, x.kd = 11 → x.st ≠ 0) : okR L = okS L := by
  unfold okR okS
  refine List.all_congr rfl fun x => ?_
  unfold okX
  rw [nums_upd, ← run_look]
  intro u hu
  unfold upd at hu
  obtain ⟨y, hy, rfl⟩ := List.mem_map.1 hu
  have hy2 := List.mem_filter.1 hy
  exact h y hy2.1 (sel_iff.1 hy2.2).1
set_option maxHeartbeats 80000000 in
theorem walk (A0 : Option Addr) (n0 c0 : Nat) (x0 : List Int) (A1 : Option Addr) (n1 c1 : Nat) (x1 : List Int) (A2 : Option Addr) (n2 c2 : Nat) (x2 : List Int) (A3 : Option Addr) (n3 c3 : Nat) (x3 : List Int) (a4 : Int) (w : World) (b0 : IntRow .i64 w A0 n0 c0 x0) (b1 : IntRow .i64 w A1 n1 c1 x1) (b2 : IntRow .i64 w A2 n2 c2 x2) (b3 : IntRow .i64 w A3 n3 c3 x3) (b4 : -9223372036854775808 ≤ a4 ∧ a4 ≤ 9223372036854775807) :
    Calls Try.prog 3 #[.slice A0 n0 c0, .slice A1 n1 c1, .slice A2 n2 c2, .slice A3 n3 c3, .int .i64 a4] w fun e w' => e = .returned (.bool true) ∧ Below w.heap.size w w' := by
  have hSd := said_any A0 n0 c0 x0 A1 n1 c1 x1 A2 n2 c2 x2 A3 n3 c3 x3 w b0 b1 b2 b3
  obtain ⟨qn, hqn, hqn2⟩ : ∃ qn : Nat, a4 % 3 = (qn : Int) ∧ (qn : Int) < 3 := by
    have := Go.Proofs.Yticmldkgkfcoeaa.Wa.rng a4 3 (by omega) (by omega)
    exact ⟨(a4 % 3).toNat, by omega, by omega⟩
  obtain ⟨T, hT⟩ : ∃ T, (#[Value.string ⟨#[97]⟩, Value.string ⟨#[98]⟩, Value.string ⟨#[99]⟩] : Array Value)[qn]? = some (.string T) := by
    rcases (by omega : qn = 0 ∨ qn = 1 ∨ qn = 2) with rfl | rfl | rfl
    · exact ⟨_, rfl⟩
    · exact ⟨_, rfl⟩
    · exact ⟨_, rfl⟩
  have hq0 : (0 : Int) ≤ (qn : Int) := by omega
  have hW3 : ∀ w, Calls Try.prog 5 #[.int .i64 a4, .int .i64 3] w fun e w' => e = .returned (.int .i64 (qn : Int)) ∧ w = w' := fun w => by
    rw [← hqn]
    exact Within_any a4 3 w b4.1 b4.2 (by omega) (by omega)
  clear b0 b1 b2 b3 b4 hqn
  go_enter Try.func3, Try.ntmps3
  go_upto_region 2 with (go_at_call 4; refine hSd.mono ?_; rintro e w2 ⟨v1, v2, rfl, L, i, hi, hJ⟩; clear hSd)
  have hcT : (w2.alloc (.cells #[.string ⟨#[97]⟩, .string ⟨#[98]⟩, .string ⟨#[99]⟩] 9)).cell? ⟨w2.heap.size, qn, none⟩ = some (.string T) := ((Blk.new w2 9 #[.string ⟨#[97]⟩, .string ⟨#[98]⟩, .string ⟨#[99]⟩]).cell qn).trans hT
  have HJ2 := Lib.hid hJ
  clear hT hJ
  go_upto_region 3 with (go_at_call 5; refine (hW3 _).mono ?_; rintro e wz ⟨rfl, rfl⟩)
  obtain ⟨w3, hw3⟩ : ∃ w6, w6 = (w2.alloc (.cells #[.string ⟨#[97]⟩, .string ⟨#[98]⟩, .string ⟨#[99]⟩] 9)).alloc (.cells #[.string ⟨#[102]⟩, .string T] 30) := ⟨_, rfl⟩
  obtain ⟨gk, hgk⟩ : ∃ g, g = w2.heap.size + 1 := ⟨_, rfl⟩
  rw [← hw3, ← hgk]
  have hk3 : Blk w3 gk 30 #[.string ⟨#[102]⟩, .string T] := by
    rw [hw3, hgk]
    have := Blk.new (w2.alloc (.cells #[.string ⟨#[97]⟩, .string ⟨#[98]⟩, .string ⟨#[99]⟩] 9)) 30 #[.string ⟨#[102]⟩, .string T]
    simpa using this
  have hb3 : Below w2.heap.size w2 w3 := by rw [hw3]; exact ((Below.refl _ _).alloc (Nat.le_refl _) _).alloc (by simp) _
  have HJ := Lib.hid (HJ2.out.below hb3)
  have hi9 : i ≤ 400 := by omega
  have hN9 : (nums ⟨#[102]⟩ T L).length ≤ 9223372036854775807 := by
    have h1 := nums_len ⟨#[102]⟩ T L
    have h2 := HJ.out.len
    omega
  have H0 : Below w3.heap.size w3 w3.drew ∧ Blk w3.drew gk 30 #[.string ⟨#[102]⟩, .string T] := ⟨(Below.refl _ _).drew, hk3.below (Below.refl _ _).drew hk3.lt⟩
  have heq := ok_eq HJ.out.nz
  have HEQ := Lib.hid heq
  have hBw := Lib.hid HJ.out.be
  clear hcT hw3 hgk hk3 hb3 heq hW3
  refine wp_region_noPanic ?_
  refine wp_region_held_drew (S := fun wa => Below w3.heap.size w3 wa ∧ Blk wa gk 30 #[.string ⟨#[102]⟩, .string T]) (by kernel_rfl) H0 (fun hHeld => ?_)
  refine wpAnyH_take (i := 0) (oi := ?oiz1) (v := ?vz1) ?hiz1 (by kernel_rfl) (by kernel_rfl) (by kernel_rfl) (fun _ _ _ h => h) ?hyz1 H0 ?restz1
  case hiz1 => (simp only [List.getElem?_toArray, List.getElem?_cons_zero]; try rfl)
  case hyz1 => (refine Or.inl ⟨by rfl, ?_⟩; intro w hSw; go_simp; (try with_reducible rfl))
  try simp only [Act.put, List.setIfInBounds_toArray, List.set_cons_zero, List.set_cons_succ]
  refine wpAnyH_take (i := 1) (oi := ?oiz2) (v := ?vz2) ?hiz2 (by kernel_rfl) (by kernel_rfl) (by kernel_rfl) (fun _ _ _ h => h) ?hyz2 H0 ?restz2
  case hiz2 => (simp only [List.getElem?_toArray, List.getElem?_cons_succ, List.getElem?_cons_zero]; try rfl)
  case hyz2 => (refine Or.inl ⟨by rfl, ?_⟩; intro w hSw; have q0 := hSw.2.cell 0; have q1 := hSw.2.cell 1; go_simp; (try with_reducible rfl))
  try simp only [Act.put, List.setIfInBounds_toArray, List.set_cons_zero, List.set_cons_succ]
  refine wpAnyH_take (i := 3) (oi := ?oiz3) (v := ?vz3) ?hiz3 (by kernel_rfl) (by kernel_rfl) (by kernel_rfl) (fun _ _ _ h => h) ?hyz3 H0 ?restz3
  case hiz3 => (simp only [List.getElem?_toArray, List.getElem?_cons_succ, List.getElem?_cons_zero]; try rfl)
  case hyz3 => (refine Or.inl ⟨by rfl, ?_⟩; intro w hSw; go_simp; (try with_reducible rfl))
  try simp only [Act.put, List.setIfInBounds_toArray, List.set_cons_zero, List.set_cons_succ]
  refine wpAnyH_take (i := 4) (oi := ?oiz4) (v := ?vz4) ?hiz4 (by kernel_rfl) (by kernel_rfl) (by kernel_rfl) (fun _ _ _ h => h) ?hyz4 H0 ?restz4
  case hiz4 => (simp only [List.getElem?_toArray, List.getElem?_cons_succ, List.getElem?_cons_zero]; try rfl)
  case hyz4 => (refine Or.inl ⟨by rfl, ?_⟩; intro w hSw; have q0 := hSw.2.cell 0; have q1 := hSw.2.cell 1; go_simp; (try with_reducible rfl))
  try simp only [Act.put, List.setIfInBounds_toArray, List.set_cons_zero, List.set_cons_succ]
  refine wpAnyH_ready (rs := [2]) (by kernel_rfl) (by simp) ?_
  refine AllReadyH.cons (o := ?oiz5) ?hiz5 (fun K hK => ?stz5) AllReadyH.nil
  case hiz5 => (simp only [List.getElem?_toArray, List.getElem?_cons_succ, List.getElem?_cons_zero]; try rfl)
  go_simp
  go_at_call 7
  refine (Sent_p v1 i w.heap.size L ⟨#[102]⟩ T _ (HJ.out.below H0.1).o1 hi9).mono ?_
  rintro e wa ⟨va, rfl, hoa, hba⟩
  try dsimp only
  have Ha : Below w3.heap.size w3 wa ∧ Blk wa gk 30 #[.string ⟨#[102]⟩, .string T] := ⟨H0.1.trans (hba.mono H0.1.size), H0.2.below hba H0.2.lt⟩
  refine hK.out _ _ Ha (fun _ => ?rsz5)
  clear hK K
  try simp only [Act.put, List.setIfInBounds_toArray, List.set_cons_zero, List.set_cons_succ]
  refine wpAnyH_ready (rs := [5]) (by kernel_rfl) (by simp) ?_
  refine AllReadyH.cons (o := ?oiz6) ?hiz6 (fun K hK => ?stz6) AllReadyH.nil
  case hiz6 => (simp only [List.getElem?_toArray, List.getElem?_cons_succ, List.getElem?_cons_zero]; try rfl)
  go_simp
  go_at_call 8
  refine (Sent_r v2 i w.heap.size L ⟨#[102]⟩ T _ (HJ.out.below Ha.1).o2 hi9).mono ?_
  rintro e wb ⟨vb, rfl, hob, hbb⟩
  try dsimp only
  have Hb : Below w3.heap.size w3 wb ∧ Blk wb gk 30 #[.string ⟨#[102]⟩, .string T] := ⟨Ha.1.trans (hbb.mono Ha.1.size), Ha.2.below hbb Ha.2.lt⟩
  have hoa2 := own_keep hoa hbb
  obtain ⟨Aa, ca, rfl, -, -⟩ := own_slice hoa2
  obtain ⟨Ab, cb, rfl, -, -⟩ := own_slice hob
  refine hK.out _ _ Hb (fun _ => ?rsz6)
  clear hK K
  try simp only [Act.put, List.setIfInBounds_toArray, List.set_cons_zero, List.set_cons_succ]
  refine wpAnyH_ready (rs := [6]) (by kernel_rfl) (by simp) ?_
  refine AllReadyH.cons (o := ?oiz7) ?hiz7 (fun K hK => ?stz7) AllReadyH.nil
  case hiz7 => (simp only [List.getElem?_toArray, List.getElem?_cons_succ, List.getElem?_cons_zero]; try rfl)
  go_simp
  go_at_call 6
  refine (SameI Aa Ab _ ca _ cb _ _ _ _ _ (Nat.le_refl _) (Nat.le_refl _) (Reads.of_own hoa2) (Reads.of_own hob) hN9 hN9).mono ?_
  rintro e wc ⟨rfl, hbc⟩
  try dsimp only
  have Hc : Below w3.heap.size w3 wc ∧ Blk wc gk 30 #[.string ⟨#[102]⟩, .string T] := ⟨Hb.1.trans (hbc.mono Hb.1.size), Hb.2.below hbc Hb.2.lt⟩
  rw [show decide (nums ⟨#[102]⟩ T L = nums ⟨#[102]⟩ T L) = true from decide_eq_true rfl]
  clear hoa hob hoa2
  refine hK.out _ _ Hc (fun _ => ?rsz7)
  clear hK K
  try simp only [Act.put, List.setIfInBounds_toArray, List.set_cons_zero, List.set_cons_succ]
  refine wpAnyH_take (i := 7) (oi := ?oiz8) (v := ?vz8) ?hiz8 (by kernel_rfl) (by kernel_rfl) (by kernel_rfl) (fun _ _ _ h => h) ?hyz8 Hc ?restz8
  case hiz8 => (simp only [List.getElem?_toArray, List.getElem?_cons_succ, List.getElem?_cons_zero]; try rfl)
  case hyz8 => (refine Or.inl ⟨by rfl, ?_⟩; intro w hSw; go_simp; (try with_reducible rfl))
  try simp only [Act.put, List.setIfInBounds_toArray, List.set_cons_zero, List.set_cons_succ]
  refine wpAnyH_take (i := 8) (oi := ?oiz9) (v := ?vz9) ?hiz9 (by kernel_rfl) (by kernel_rfl) (by kernel_rfl) (fun _ _ _ h => h) ?hyz9 Hc ?restz9
  case hiz9 => (simp only [List.getElem?_toArray, List.getElem?_cons_succ, List.getElem?_cons_zero]; try rfl)
  case hyz9 => (refine Or.inl ⟨by rfl, ?_⟩; intro w hSw; go_simp; (try with_reducible rfl))
  try simp only [Act.put, List.setIfInBounds_toArray, List.set_cons_zero, List.set_cons_succ]
  refine wpAnyH_take (i := 10) (oi := ?oiz10) (v := ?vz10) ?hiz10 (by kernel_rfl) (by kernel_rfl) (by kernel_rfl) (fun _ _ _ h => h) ?hyz10 Hc ?restz10
  case hiz10 => (simp only [List.getElem?_toArray, List.getElem?_cons_succ, List.getElem?_cons_zero]; try rfl)
  case hyz10 => (refine Or.inl ⟨by rfl, ?_⟩; intro w hSw; go_simp; (try with_reducible rfl))
  try simp only [Act.put, List.setIfInBounds_toArray, List.set_cons_zero, List.set_cons_succ]
  refine wpAnyH_ready (rs := [9]) (by kernel_rfl) (by simp) ?_
  refine AllReadyH.cons (o := ?oiz11) ?hiz11 (fun K hK => ?stz11) AllReadyH.nil
  case hiz11 => (simp only [List.getElem?_toArray, List.getElem?_cons_succ, List.getElem?_cons_zero]; try rfl)
  go_simp
  go_at_call 9
  refine (Streams_p v1 i w.heap.size L _ (HJ.out.below Hc.1).o1 hi9).mono ?_
  rintro e wd ⟨rfl, hbd⟩
  try dsimp only
  have Hd : Below w3.heap.size w3 wd ∧ Blk wd gk 30 #[.string ⟨#[102]⟩, .string T] := ⟨Hc.1.trans (hbd.mono Hc.1.size), Hc.2.below hbd Hc.2.lt⟩
  refine hK.out _ _ Hd (fun _ => ?rsz11)
  clear hK K
  try simp only [Act.put, List.setIfInBounds_toArray, List.set_cons_zero, List.set_cons_succ]
  refine wpAnyH_ready (rs := [11]) (by kernel_rfl) (by simp) ?_
  refine AllReadyH.cons (o := ?oiz12) ?hiz12 (fun K hK => ?stz12) AllReadyH.nil
  case hiz12 => (simp only [List.getElem?_toArray, List.getElem?_cons_succ, List.getElem?_cons_zero]; try rfl)
  go_simp
  go_at_call 10
  refine (Streams_r v2 i w.heap.size L _ (HJ.out.below Hd.1).o2 hi9).mono ?_
  rintro e we ⟨rfl, hbe⟩
  try dsimp only
  have He : Below w3.heap.size w3 we ∧ Blk we gk 30 #[.string ⟨#[102]⟩, .string T] := ⟨Hd.1.trans (hbe.mono Hd.1.size), Hd.2.below hbe Hd.2.lt⟩
  rw [HEQ.out]
  refine hK.out _ _ He (fun _ => ?rsz12)
  clear hK K
  try simp only [Act.put, List.setIfInBounds_toArray, List.set_cons_zero, List.set_cons_succ]
  refine wpAnyH_take (i := 12) (oi := ?oiz13) (v := ?vz13) ?hiz13 (by kernel_rfl) (by kernel_rfl) (by kernel_rfl) (fun _ _ _ h => h) ?hyz13 He ?restz13
  case hiz13 => (simp only [List.getElem?_toArray, List.getElem?_cons_succ, List.getElem?_cons_zero]; try rfl)
  case hyz13 => (refine Or.inl ⟨by rfl, ?_⟩; intro w hSw; go_simp; (try with_reducible rfl))
  try simp only [Act.put, List.setIfInBounds_toArray, List.set_cons_zero, List.set_cons_succ]
  refine wpAnyH_take (i := 13) (oi := ?oiz14) (v := ?vz14) ?hiz14 (by kernel_rfl) (by kernel_rfl) (by kernel_rfl) (fun _ _ _ h => h) ?hyz14 He ?restz14
  case hiz14 => (simp only [List.getElem?_toArray, List.getElem?_cons_succ, List.getElem?_cons_zero]; try rfl)
  case hyz14 => (refine Or.inl ⟨by rfl, ?_⟩; intro w hSw; go_simp; (try with_reducible rfl))
  try simp only [Act.put, List.setIfInBounds_toArray, List.set_cons_zero, List.set_cons_succ]
  refine wpAnyH_take (i := 14) (oi := ?oiz15) (v := ?vz15) ?hiz15 (by kernel_rfl) (by kernel_rfl) (by kernel_rfl) (fun _ _ _ h => h) ?hyz15 He ?restz15
  case hiz15 => (simp only [List.getElem?_toArray, List.getElem?_cons_succ, List.getElem?_cons_zero]; try rfl)
  case hyz15 => (refine Or.inl ⟨by rfl, ?_⟩; intro w hSw; go_simp; (try with_reducible rfl))
  try simp only [Act.put, List.setIfInBounds_toArray, List.set_cons_zero, List.set_cons_succ]
  refine wpAnyH_take (i := 15) (oi := ?oiz16) (v := ?vz16) ?hiz16 (by kernel_rfl) (by kernel_rfl) (by kernel_rfl) (fun _ _ _ h => h) ?hyz16 He ?restz16
  case hiz16 => (simp only [List.getElem?_toArray, List.getElem?_cons_succ, List.getElem?_cons_zero]; try rfl)
  case hyz16 => (refine Or.inl ⟨by rfl, ?_⟩; intro w hSw; go_simp; (try with_reducible rfl))
  try simp only [Act.put, List.setIfInBounds_toArray, List.set_cons_zero, List.set_cons_succ]
  refine wpAnyH_take (i := 17) (oi := ?oiz17) (v := ?vz17) ?hiz17 (by kernel_rfl) (by kernel_rfl) (by kernel_rfl) (fun _ _ _ h => h) ?hyz17 He ?restz17
  case hiz17 => (simp only [List.getElem?_toArray, List.getElem?_cons_succ, List.getElem?_cons_zero]; try rfl)
  case hyz17 => (refine Or.inl ⟨by rfl, ?_⟩; intro w hSw; go_simp; (try with_reducible rfl))
  try simp only [Act.put, List.setIfInBounds_toArray, List.set_cons_zero, List.set_cons_succ]
  refine wpAnyH_ready (rs := [16]) (by kernel_rfl) (by simp) ?_
  refine AllReadyH.cons (o := ?oiz18) ?hiz18 (fun K hK => ?stz18) AllReadyH.nil
  case hiz18 => (simp only [List.getElem?_toArray, List.getElem?_cons_succ, List.getElem?_cons_zero]; try rfl)
  go_simp
  go_at_call 11
  refine (Launches_p v1 i w.heap.size L _ (HJ.out.below He.1).o1 hi9 (fun j x hx => (HJ.out.below He.1).la x (List.mem_of_getElem? hx))).mono ?_
  rintro e wf ⟨rfl, hbf⟩
  try dsimp only
  have Hf : Below w3.heap.size w3 wf ∧ Blk wf gk 30 #[.string ⟨#[102]⟩, .string T] := ⟨He.1.trans (hbf.mono He.1.size), He.2.below hbf He.2.lt⟩
  refine hK.out _ _ Hf (fun _ => ?rsz18)
  clear hK K
  try simp only [Act.put, List.setIfInBounds_toArray, List.set_cons_zero, List.set_cons_succ]
  refine wpAnyH_ready (rs := [18]) (by kernel_rfl) (by simp) ?_
  refine AllReadyH.cons (o := ?oiz19) ?hiz19 (fun K hK => ?stz19) AllReadyH.nil
  case hiz19 => (simp only [List.getElem?_toArray, List.getElem?_cons_succ, List.getElem?_cons_zero]; try rfl)
  go_simp
  go_at_call 12
  refine (Launches_r v2 i w.heap.size L _ (HJ.out.below Hf.1).o2 hi9 (fun j x hx => (HJ.out.below Hf.1).la x (List.mem_of_getElem? hx))).mono ?_
  rintro e wg ⟨rfl, hbg⟩
  try dsimp only
  have Hg : Below w3.heap.size w3 wg ∧ Blk wg gk 30 #[.string ⟨#[102]⟩, .string T] := ⟨Hf.1.trans (hbg.mono Hf.1.size), Hf.2.below hbg Hf.2.lt⟩
  refine hK.out _ _ Hg (fun _ => ?rsz19)
  clear hK K
  try simp only [Act.put, List.setIfInBounds_toArray, List.set_cons_zero, List.set_cons_succ]
  refine wpAnyH_take (i := 19) (oi := ?oiz20) (v := ?vz20) ?hiz20 (by kernel_rfl) (by kernel_rfl) (by kernel_rfl) (fun _ _ _ h => h) ?hyz20 Hg ?restz20
  case hiz20 => (simp only [List.getElem?_toArray, List.getElem?_cons_succ, List.getElem?_cons_zero]; try rfl)
  case hyz20 => (refine Or.inl ⟨by rfl, ?_⟩; intro w hSw; go_simp; (try with_reducible rfl))
  try simp only [Act.put, List.setIfInBounds_toArray, List.set_cons_zero, List.set_cons_succ]
  refine wpAnyH_take (i := 20) (oi := ?oiz21) (v := ?vz21) ?hiz21 (by kernel_rfl) (by kernel_rfl) (by kernel_rfl) (fun _ _ _ h => h) ?hyz21 Hg ?restz21
  case hiz21 => (simp only [List.getElem?_toArray, List.getElem?_cons_succ, List.getElem?_cons_zero]; try rfl)
  case hyz21 => (refine Or.inl ⟨by rfl, ?_⟩; intro w hSw; go_simp; (try with_reducible rfl))
  try simp only [Act.put, List.setIfInBounds_toArray, List.set_cons_zero, List.set_cons_succ]
  refine wpAnyH_take (i := 21) (oi := ?oiz22) (v := ?vz22) ?hiz22 (by kernel_rfl) (by kernel_rfl) (by kernel_rfl) (fun _ _ _ h => h) ?hyz22 Hg ?restz22
  case hiz22 => (simp only [List.getElem?_toArray, List.getElem?_cons_succ, List.getElem?_cons_zero]; try rfl)
  case hyz22 => (refine Or.inl ⟨by rfl, ?_⟩; intro w hSw; go_simp; (try with_reducible rfl))
  try simp only [Act.put, List.setIfInBounds_toArray, List.set_cons_zero, List.set_cons_succ]
  refine wpAnyH_ready (rs := [22]) (by kernel_rfl) (by simp) ?_
  refine AllReadyH.cons (o := ?oiz23) ?hiz23 (fun K hK => ?stz23) AllReadyH.nil
  case hiz23 => (simp only [List.getElem?_toArray, List.getElem?_cons_succ, List.getElem?_cons_zero]; try rfl)
  go_simp
  go_at_call 13
  refine (wkk _).mono ?_
  rintro e wh ⟨rfl, hbh⟩
  try dsimp only
  have Hh : Below w3.heap.size w3 wh ∧ Blk wh gk 30 #[.string ⟨#[102]⟩, .string T] := ⟨Hg.1.trans (hbh.mono Hg.1.size), Hg.2.below hbh Hg.2.lt⟩
  refine hK.out _ _ Hh (fun _ => ?rsz23)
  clear hK K
  try simp only [Act.put, List.setIfInBounds_toArray, List.set_cons_zero, List.set_cons_succ]
  refine wpAnyH_take (i := 23) (oi := ?oiz24) (v := ?vz24) ?hiz24 (by kernel_rfl) (by kernel_rfl) (by kernel_rfl) (fun _ _ _ h => h) ?hyz24 Hh ?restz24
  case hiz24 => (simp only [List.getElem?_toArray, List.getElem?_cons_succ, List.getElem?_cons_zero]; try rfl)
  case hyz24 => (refine Or.inl ⟨by rfl, ?_⟩; intro w hSw; go_simp; (try with_reducible rfl))
  try simp only [Act.put, List.setIfInBounds_toArray, List.set_cons_zero, List.set_cons_succ]
  refine wpAnyH_take (i := 24) (oi := ?oiz25) (v := ?vz25) ?hiz25 (by kernel_rfl) (by kernel_rfl) (by kernel_rfl) (fun _ _ _ h => h) ?hyz25 Hh ?restz25
  case hiz25 => (simp only [List.getElem?_toArray, List.getElem?_cons_succ, List.getElem?_cons_zero]; try rfl)
  case hyz25 => (refine Or.inl ⟨by rfl, ?_⟩; intro w hSw; go_simp; (try with_reducible rfl))
  try simp only [Act.put, List.setIfInBounds_toArray, List.set_cons_zero, List.set_cons_succ]
  refine wpAnyH_done (by kernel_rfl) ?_ _
  refine NoPanic.normal ?_

  go_wp2_with fail
  go_ret
  exact ⟨by first | rfl | simp, hBw.out.trans (Hh.1.mono hBw.out.size)⟩

end Go.Proofs.Yticmldkgkfcoeaa.watchTells
