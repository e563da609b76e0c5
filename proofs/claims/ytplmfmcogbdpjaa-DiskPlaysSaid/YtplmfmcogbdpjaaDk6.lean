/- A disk: what is cut, and what is removed. -/
import Derived.Test.YtplmfmcogbdpjaaDk5
namespace Go.Proofs.Ytplmfmcogbdpjaa.Dk
open Go Go.RowKit Go.Proofs.Ytplmfmcogbdpjaa Go.Proofs.Ytplmfmcogbdpjaa.Crw Go.Proofs.Ytplmfmcogbdpjaa.Vl Go.ChangeShapes Go.WideShapes Go.ChangeAt
set_option linter.unusedVariables false
set_option maxRecDepth 100000
section
variable {w w' : World} {B d mb : Nat} {U V : Nat → Prop} {s s' : Ds} {F : List Fi} {p : ByteArray}
theorem own_take {e : TypeId} {A : Option Addr} {n m c : Nat} {xs : List Value} (h : w.ownsRow B e 1 (.slice A n c) n xs) (hm : m ≤ n) : w.ownsRow B e 1 (.slice A m c) m (xs.take m) := by
  refine ⟨by rw [List.length_take, h.1]; omega, ?_⟩
  rcases h.2 with ⟨h1, h2⟩ | ⟨g, cap, cur, h1, h2, h3, h4, h5, h6, h7⟩
  · injection h1 with e1 e2 e3
    subst e1 e3
    have : m = 0 := by omega
    subst this
    exact .inl ⟨rfl, rfl⟩
  · injection h1 with e1 e2 e3
    subst e1 e3
    exact .inr ⟨g, c, cur, rfl, h2, h3, by omega, h5, h6, by rw [← h7, List.take_take]; congr 1; omega⟩
set_option maxHeartbeats 8000000 in
theorem cut_ (H : DkP w B d mb V s F) {j : Nat} {x : Fi} (hj : F[j]? = some x) {n : Nat} (hn : n ≤ x.bs.length) (hxl : x.bs.length ≤ 65536) (hu : 0 ≤ s.u ∧ s.u ≤ 65536) :
    Calls Try.prog 64 #[.pointer (some ⟨d, 0, none⟩), .pointer (some ⟨x.g, 0, none⟩), .int .i64 n] w fun r w' => (∃ u, r = .returned u) ∧ ∃ v, DkP w' B d mb V { s with u := s.u - ((x.bs.length : Int) - n) } (F.set j { x with v := v, bs := x.bs.take n, sy := n }) ∧ Vol V w w' := by
  obtain ⟨A1, c1, hxv, hc1, hc2⟩ := own_slice (H.rows j x hj)
  obtain ⟨L, hL⟩ : ∃ L, L = x.bs.length := ⟨_, rfl⟩
  obtain ⟨g, hg⟩ : ∃ g, g = x.g := ⟨_, rfl⟩
  have hk1 := H.fls j x hj
  have ho1 := H.rows j x hj
  have hd1 := H.blk
  rw [← hL] at hxv hn hxl hc1 ⊢
  rw [← hg] at hk1 ⊢
  rw [hxv, ← hL] at ho1
  have y1 : w.cell? ⟨d, 1, none⟩ = some (.int .i64 s.u) := hd1.cell 1
  have fy1 : w.frozen? ⟨d, 1, none⟩ = false := hd1.frozen 1
  have x0 : w.cell? ⟨g, 0, none⟩ = some (.slice A1 L c1) := by rw [← hxv]; exact hk1.cell 0
  have x1 : w.cell? ⟨g, 1, none⟩ = some (.int .i64 x.sy) := hk1.cell 1
  have k1 : IntKind.i64.wrap ((L : Int) - (n : Int)) = (L : Int) - n := IntWalk.i64_in _ (by omega)
  have k2 : IntKind.i64.wrap (s.u - ((L : Int) - (n : Int))) = s.u - ((L : Int) - n) := IntWalk.i64_in _ (by omega)
  have hdg : d ≠ g := hd1.ne_ hk1 (by decide)
  have HJ := Lib.hid hj
  have HH := Lib.hid H
  have HL := Lib.hid hL
  have HXV := Lib.hid hxv
  have HG := Lib.hid hg
  have HK1 := Lib.hid hk1
  have HO1 := Lib.hid ho1
  have HD1 := Lib.hid hd1
  have HDG := Lib.hid hdg
  clear hj H hL hxv hg hk1 ho1 hd1 hdg
  go_enter Try.func64, Try.ntmps64
  go_upto_region 0 with fail
  go_region
  obtain ⟨d1, hd1⟩ : ∃ d1, d1 = (w.setCell ⟨d, 1, none⟩ (.int .i64 (s.u - ((L : Int) - n)))).drew := ⟨_, rfl⟩
  rw [← hd1]
  have vol1 : Vol (fun b => b = d) w d1 := by
    rw [hd1]
    exact (Vol.setCell (V := fun b => b = d) (a := ⟨d, 1, none⟩) (Vol.refl w) (.inl rfl) _).drew
  have hk2 : Blk d1 g 86 (fiC x) := by rw [hd1]; exact HK1.out.far (fun e => HDG.out e.symm) (p := ⟨d, 1, none⟩) _
  have hdk : Blk d1 d 80 (dsC { s with u := s.u - ((L : Int) - n) } mb) := by rw [hd1]; exact HD1.out.set_ 1 (.int .i64 (s.u - ((L : Int) - n)))
  have ho2 : d1.ownsRow B 5 1 (.slice A1 L c1) L (bsV x.bs) := by rw [hd1]; exact (own_far (i := 1) (u := .int .i64 (s.u - ((L : Int) - n))) HO1.out HD1.out (by decide))
  have z0 : d1.cell? ⟨g, 0, none⟩ = some (.slice A1 L c1) := by rw [← HXV.out]; exact hk2.cell 0
  have fz0 : d1.frozen? ⟨g, 0, none⟩ = false := hk2.frozen 0
  have z1 : (d1.setCell ⟨g, 0, none⟩ (.slice A1 n c1)).cell? ⟨g, 1, none⟩ = some (.int .i64 x.sy) := (hk2.set_ 0 (.slice A1 n c1)).cell 1
  have fz1 : (d1.setCell ⟨g, 0, none⟩ (.slice A1 n c1)).frozen? ⟨g, 1, none⟩ = false := (hk2.set_ 0 (.slice A1 n c1)).frozen 1
  have n0 : (0 : Int) ≤ (n : Int) := by omega
  have n1 : (n : Int) ≤ (c1 : Int) := by omega
  have VOL1 := Lib.hid vol1
  have HK2 := Lib.hid hk2
  have HDK := Lib.hid hdk
  have HO2 := Lib.hid ho2
  clear hd1 vol1 hk2 hdk ho2 y1 fy1 x0 x1
  go_wp2_with fail
  go_end0
  have hkF := (HK2.out.set_ 0 (.slice A1 n c1)).set_ 1 (.int .i64 n)
  have hdF := (HDK.out.far (fun e => HDG.out e) (p := ⟨g, 0, none⟩) (.slice A1 n c1)).far (fun e => HDG.out e) (p := ⟨g, 1, none⟩) (.int .i64 n)
  have hoF := own_far (i := 1) (u := .int .i64 n) (own_far (i := 0) (u := .slice A1 n c1) HO2.out HK2.out (by decide)) (HK2.out.set_ 0 (.slice A1 n c1)) (by decide)
  have vF : Vol (fun b => b = d ∨ b = x.g ∨ x.v.ownBlock = some b) w ((d1.setCell ⟨g, 0, none⟩ (.slice A1 n c1)).setCell ⟨g, 1, none⟩ (.int .i64 n)) := by
    have h1 : Vol (fun b => b = d ∨ b = x.g ∨ x.v.ownBlock = some b) w d1 := VOL1.out.mono (fun b e => .inl e)
    exact Vol.setCell (a := ⟨g, 1, none⟩) (Vol.setCell (a := ⟨g, 0, none⟩) h1 (.inl (.inr (.inl HG.out))) _) (.inl (.inr (.inl HG.out))) _
  have hob : (Value.slice A1 n c1).ownBlock = (Value.slice A1 L c1).ownBlock := by cases A1 <;> rfl
  refine ⟨⟨_, rfl⟩, .slice A1 n c1, ?_, vF.mono ?_⟩
  · have hT := HH.out.turn (s' := { s with u := s.u - ((L : Int) - n) }) (x' := ⟨x.p, g, .slice A1 n c1, x.bs.take n, n, x.fi⟩) HJ.out rfl HG.out vF hdF (by rw [← HG.out]; simpa using hkF) ?_ ?_
    · refine hT.weaken ?_ (fun b e => Nat.lt_of_lt_of_le (HH.out.lt b e) vF.size) HH.out.ge
      rintro b (e | ⟨e1, e2⟩)
      · exact e
      · exact (HH.out.vx j x HJ.out).2 b (by rw [HXV.out, ← hob]; exact e2)
    · show World.ownsRow _ B 5 1 (.slice A1 n c1) (x.bs.take n).length (bsV (x.bs.take n))
      rw [List.length_take, show min n x.bs.length = n by rw [← HL.out]; omega]
      have h := own_take hoF hn
      rw [show (bsV x.bs).take n = bsV (x.bs.take n) by simp [bsV, List.map_take]] at h
      exact h
    · exact fun b e => .inl (by rw [HXV.out, ← hob]; exact e)
  · rintro b (e | e | e)
    · rw [e]; exact HH.out.vm.1
    · rw [e]; exact (HH.out.vx j x HJ.out).1
    · exact (HH.out.vx j x HJ.out).2 b e
set_option maxHeartbeats 8000000 in
theorem remove_yes (H : DkP w B d mb V s F) {j : Nat} {x : Fi} (hj : F[j]? = some x) (hxp : x.p = p) (hxl : x.bs.length ≤ 65536) (hu : 0 ≤ s.u ∧ s.u ≤ 65536) :
    Calls Try.prog 66 #[.pointer (some ⟨d, 0, none⟩), .string p] w fun r w' => (∃ u, r = .returned u) ∧ DkP w' B d mb V { s with u := s.u - (x.bs.length : Int) } (F.eraseIdx j) ∧ Vol V w w' := by
  obtain ⟨A1, c1, hxv, -, -⟩ := own_slice (H.rows j x hj)
  obtain ⟨L, hL⟩ : ∃ L, L = x.bs.length := ⟨_, rfl⟩
  obtain ⟨g, hg⟩ : ∃ g, g = x.g := ⟨_, rfl⟩
  have hk1 := H.fls j x hj
  have hd1 := H.blk
  rw [← hL] at hxv hxl ⊢
  rw [← hg] at hk1
  have l3 := flook_yes H hj true
  rw [hxp] at l3
  unfold fptr at l3
  rw [← hg] at l3
  have y1 : w.cell? ⟨d, 1, none⟩ = some (.int .i64 s.u) := hd1.cell 1
  have y2 : w.cell? ⟨d, 2, none⟩ = some (.map (some mb)) := hd1.cell 2
  have fy1 : w.frozen? ⟨d, 1, none⟩ = false := hd1.frozen 1
  have x0 : w.cell? ⟨g, 0, none⟩ = some (.slice A1 L c1) := by rw [← hxv]; exact hk1.cell 0
  have k2 : IntKind.i64.wrap (s.u - (L : Int)) = s.u - (L : Int) := IntWalk.i64_in _ (by omega)
  have HJ := Lib.hid hj
  have HH := Lib.hid H
  have HL := Lib.hid hL
  have HP := Lib.hid hxp
  have HD1 := Lib.hid hd1
  clear hj H hL hxv hg hk1 hd1 hxp
  go_enter Try.func66, Try.ntmps66
  go_upto_region 2 with fail
  go_region
  obtain ⟨d1, hd1⟩ : ∃ d1, d1 = (w.setCell ⟨d, 1, none⟩ (.int .i64 (s.u - (L : Int)))).drew := ⟨_, rfl⟩
  rw [← hd1]
  have vol1 : Vol (fun b => b = d) w d1 := by
    rw [hd1]
    exact (Vol.setCell (V := fun b => b = d) (a := ⟨d, 1, none⟩) (Vol.refl w) (.inl rfl) _).drew
  have hdk : Blk d1 d 80 (dsC { s with u := s.u - (L : Int) } mb) := by rw [hd1]; exact HD1.out.set_ 1 (.int .i64 (s.u - (L : Int)))
  have H1 := HH.out.scal vol1 hdk
  have z2 : d1.cell? ⟨d, 2, none⟩ = some (.map (some mb)) := H1.blk.cell 2
  obtain ⟨d2, e2, hm2, hg2⟩ := fdel_yes H1 HJ.out 0
  rw [HP.out] at e2
  have vol2 : Vol (fun b => b = mb) d1 d2 := (Vol.refl d1).grown hg2 (fun k hk => .inl (by injection hk with hk; exact hk.symm))
  have H2 := H1.erase j (vol2.mono (fun b e => .inr e)) (blk_vol H1.blk vol2 (fun e => blk_map_ne H1.blk H1.mp e)) hm2
  have VOL := Lib.hid (Vol.trans (V := fun b => b = d ∨ b = mb) (vol1.mono (fun b e => .inl e)) vol2 (fun b e => .inl (.inr e)))
  have H2' := Lib.hid H2
  clear vol1 hdk H1 hm2 hg2 vol2 H2 hd1 y1 y2 fy1 x0 l3
  go_wp2_with fail
  go_end0
  refine ⟨⟨_, rfl⟩, H2'.out, VOL.out.mono ?_⟩
  rintro b (e | e)
  · rw [e]; exact HH.out.vm.1
  · rw [e]; exact HH.out.vm.2
end
end Go.Proofs.Ytplmfmcogbdpjaa.Dk
