/- A disk: Cut, Remove, Rename, where they are done. -/
import Derived.Test.YtplmfmcogbdpjaaDk6
namespace Go.Proofs.Ytplmfmcogbdpjaa.Dk
open Go Go.RowKit Go.Proofs.Ytplmfmcogbdpjaa Go.Proofs.Ytplmfmcogbdpjaa.Crw Go.Proofs.Ytplmfmcogbdpjaa.Vl Go.ChangeShapes Go.WideShapes Go.ChangeAt
set_option linter.unusedVariables false
set_option maxRecDepth 100000
section
variable {w w' : World} {B d mb : Nat} {U V : Nat → Prop} {s s' : Ds} {F : List Fi} {p : ByteArray}
theorem DkP.firm (H : DkP w B d mb V s F) {j : Nat} {x : Fi} (hj : F[j]? = some x) : DkP (w.setCell ⟨x.g, 2, none⟩ (.bool true)) B d mb V s (F.set j { x with fi := true }) ∧ Vol V w (w.setCell ⟨x.g, 2, none⟩ (.bool true)) := by
  have v1 : Vol (fun b => b = x.g) w (w.setCell ⟨x.g, 2, none⟩ (.bool true)) := Vol.setCell (V := fun b => b = x.g) (a := ⟨x.g, 2, none⟩) (Vol.refl w) (.inl rfl) _
  have hT := H.turn (s' := s) (x' := { x with fi := true }) hj rfl rfl (v1.mono (fun b e => .inr (.inl e))) (blk_vol H.blk v1 (fun e => blk_ne (H.fls j x hj) H.blk (by decide) e.symm)) (by simpa using (H.fls j x hj).set_ 2 (.bool true)) (own_vol (H.rows j x hj) v1 (fun b hb e => own_blk_ne (H.rows j x hj) (H.fls j x hj) (by decide) (by rw [hb, e]))) (fun b e => .inl e)
  refine ⟨hT.weaken ?_ (fun b e => Nat.lt_of_lt_of_le (H.lt b e) v1.size) H.ge, v1.mono (fun b e => by rw [e]; exact (H.vx j x hj).1)⟩
  rintro b (e | ⟨e1, e2⟩)
  · exact e
  · exact (H.vx j x hj).2 b e2
set_option maxHeartbeats 8000000 in
theorem Cut_yes (H : DkP w B d mb V s F) {j : Nat} {x : Fi} (hj : F[j]? = some x) (hxp : x.p = p) (hp : p.toList.isEmpty = false) (hs : s.de = false ∧ s.fu = false) {n : Nat} (hn : n ≤ x.bs.length) (hxl : x.bs.length ≤ 65536) (hu : 0 ≤ s.u ∧ s.u ≤ 65536) :
    Calls Try.prog 17 #[.pointer (some ⟨d, 0, none⟩), .string p, .int .i64 n] w fun r w' => r = .returned (.int .i64 0) ∧ ∃ v, DkP w' B d mb V { s with u := s.u - ((x.bs.length : Int) - n) } (F.set j { x with v := v, bs := x.bs.take n, sy := n, fi := true }) ∧ Vol V w w' := by
  have hF := find_yes H hj hxp hp hs.1
  obtain ⟨A1, c1, hxv, -, -⟩ := own_slice (H.rows j x hj)
  obtain ⟨L, hL⟩ : ∃ L, L = x.bs.length := ⟨_, rfl⟩
  obtain ⟨g, hg⟩ : ∃ g, g = x.g := ⟨_, rfl⟩
  rw [← hL] at hxv
  rw [← hg] at hF
  have n0 : decide ((n : Int) < 0) = false := by simp
  have n1 : decide (L < n) = false := by simp; omega
  have hjl := (List.getElem?_eq_some_iff.1 hj).1
  have HJ := Lib.hid hj
  have HH := Lib.hid H
  have HX := Lib.hid hxv
  have HG := Lib.hid hg
  have HL := Lib.hid hL
  clear hj H hxv hg hL
  go_enter Try.func17, Try.ntmps17
  go_wp2_with fail
  refine hF.mono ?_
  rintro r w1 ⟨rfl, b1⟩
  have H2 := HH.out.below b1
  have hBu := burn0 H2.blk hs.2
  have x0 : w1.cell? ⟨g, 0, none⟩ = some (.slice A1 L c1) := by rw [← HX.out, HG.out]; exact (H2.fls j x HJ.out).cell 0
  have H2' := Lib.hid H2
  clear H2 hF
  go_wp2_with fail
  refine hBu.mono ?_
  rintro r w3 ⟨rfl, b3⟩
  have H4 := H2'.out.below b3
  have hCu := cut_ H4 HJ.out hn hxl hu
  rw [← HG.out] at hCu
  clear H4 hBu
  go_wp2_with fail
  refine hCu.mono ?_
  rintro r w4 ⟨⟨u, rfl⟩, v, H5, v5⟩
  have hj5 : (F.set j { x with v := v, bs := x.bs.take n, sy := n })[j]? = some { x with v := v, bs := x.bs.take n, sy := n } := List.getElem?_set_self hjl
  have h6 := H5.firm (j := j) (by rw [HG.out]; exact hj5)
  have y2 : w4.cell? ⟨g, 2, none⟩ = some (.bool x.fi) := by have h := (H5.fls j _ (by rw [HG.out]; exact hj5)).cell 2; rw [← HG.out] at h; exact h
  have f2 : w4.frozen? ⟨g, 2, none⟩ = false := by have h := (H5.fls j _ (by rw [HG.out]; exact hj5)).frozen 2; rw [← HG.out] at h; exact h
  have H6 := Lib.hid h6
  have V5 := Lib.hid v5
  clear hCu H5 v5 h6 hj5
  go_wp2_with fail
  go_ret
  obtain ⟨h7, v7⟩ := H6.out
  have hg' := HG.out
  subst hg'
  simp only [List.set_set] at h7 v7
  refine ⟨rfl, v, h7, ((Vol.of_below (b1.trans (b3.mono b1.size))).trans V5.out (fun b e => .inl e)).trans v7 (fun b e => .inl e)⟩
set_option maxHeartbeats 8000000 in
theorem Remove_yes (H : DkP w B d mb V s F) {j : Nat} {x : Fi} (hj : F[j]? = some x) (hxp : x.p = p) (hp : p.toList.isEmpty = false) (hs : s.de = false ∧ s.fu = false) (hxl : x.bs.length ≤ 65536) (hu : 0 ≤ s.u ∧ s.u ≤ 65536) :
    Calls Try.prog 20 #[.pointer (some ⟨d, 0, none⟩), .string p] w fun r w' => r = .returned (.int .i64 0) ∧ DkP w' B d mb V { s with u := s.u - (x.bs.length : Int) } (F.eraseIdx j) ∧ Vol V w w' := by
  have hF := find_yes H hj hxp hp hs.1
  have HJ := Lib.hid hj
  have HH := Lib.hid H
  clear hj H
  go_enter Try.func20, Try.ntmps20
  go_wp2_with fail
  refine hF.mono ?_
  rintro r w1 ⟨rfl, b1⟩
  have H2 := HH.out.below b1
  have hBu := burn0 H2.blk hs.2
  have H2' := Lib.hid H2
  clear H2 hF
  go_wp2_with fail
  refine hBu.mono ?_
  rintro r w3 ⟨rfl, b3⟩
  have H4 := H2'.out.below b3
  have hCu := remove_yes H4 HJ.out hxp hxl hu
  clear H4 hBu
  go_wp2_with fail
  refine hCu.mono ?_
  rintro r w4 ⟨⟨u, rfl⟩, H5, v5⟩
  clear hCu
  go_wp2_with fail
  go_ret
  exact ⟨rfl, H5, (Vol.of_below (b1.trans (b3.mono b1.size))).trans v5 (fun b e => .inl e)⟩
set_option maxHeartbeats 8000000 in
theorem remove_no (H : DkP w B d mb V s F) (hno : ∀ (k : Nat) (x : Fi), F[k]? = some x → hitP p x = false) :
    Calls Try.prog 66 #[.pointer (some ⟨d, 0, none⟩), .string p] w fun r w' => (∃ u, r = .returned u) ∧ Below w.heap.size w w' := by
  have y2 : w.cell? ⟨d, 2, none⟩ = some (.map (some mb)) := H.blk.cell 2
  have l3 := flook_no H hno true
  clear H hno
  go_enter Try.func66, Try.ntmps66
  go_wp2_with fail
  go_end0
  exact ⟨⟨_, rfl⟩, Below.refl _ _⟩
end
end Go.Proofs.Ytplmfmcogbdpjaa.Dk
