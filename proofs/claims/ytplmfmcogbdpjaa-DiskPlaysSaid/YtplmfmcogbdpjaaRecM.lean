/- DkA DkB DkC DkD DkF DkG Rec1 Rec2 Rec3 Rec4 Rec5 Rec6 Rec7 Rec8: merged texts. -/
import Derived.Test.YtplmfmcogbdpjaaDk6
import Derived.Test.YtplmfmcogbdpjaaDk9
import Derived.WideMake
import Derived.Test.YtplmfmcogbdpjaaDk5
import Derived.Test.YtplmfmcogbdpjaaScope
import Derived.Test.YtplmfmcogbdpjaaSameByte
import Derived.StillTailTactics
import Derived.Test.YtplmfmcogbdpjaaDk8
namespace Go.Proofs.Ytplmfmcogbdpjaa.Dk
open Go Go.RowKit Go.Proofs.Ytplmfmcogbdpjaa Go.Proofs.Ytplmfmcogbdpjaa.Crw Go.Proofs.Ytplmfmcogbdpjaa.Vl Go.ChangeShapes Go.WideShapes Go.ChangeAt
set_option linter.unusedVariables false
set_option maxRecDepth 100000
section
variable {w w' : World} {B d mb : Nat} {U V : Nat → Prop} {s s' : Ds} {F : List Fi} {p : ByteArray}
theorem DkP.firm (H : DkP w B d mb V s F) {j : Nat} {x : Fi} (hj : F[j]? = some x) : DkP (w.setCell ⟨x.g, 2, none⟩ (.bool true)) B d mb V s (F.set j { x with fi := true }) ∧ Vol V w (w.setCell ⟨x.g, 2, none⟩ (.bool true)) := by
  have v1 : Vol (fun b => b = x.g) w (w.setCell ⟨x.g, 2, none⟩ (.bool true)) := Vol.setCell (V := fun b => b = x.g) (a := ⟨x.g, 2, none⟩) (Vol.refl w) (.inl rfl) _
  have hT := H.turn (s' := s) (x' := { x with fi := true }) hj rfl rfl (v1.mono (fun b e => .inr (.inl e))) (blk_vol H.blk v1 (fun e => blk_ne (H.fls j x hj) H.blk (by decide) e.symm)) (by simpa using (H.fls j x hj).set_ 2 (.bool true)) (own_vol (H.rows j x hj) v1 (fun b hb e => own_blk_ne (H.rows j x hj) (H.fls j x hj) (by decide) (by rw [hb, e]))) (fun b e => .inl e)
  refine ⟨hT.weaken ?_ (fun b e => Nat.lt_of_lt_of_le (H.lt b e) v1.size) H.ge, v1.mono (fun b e => by rw [e]; exact (H.vx j x hj).1)⟩
  rintro b (e | ⟨e1, e2⟩)
  · exact e
  · exact (H.vx j x hj).2 b e2
set_option maxHeartbeats 8000000 in
theorem Cut_yes (H : DkP w B d mb V s F) {j : Nat} {x : Fi} (hj : F[j]? = some x) (hxp : x.p = p) (hp : p.toList.isEmpty = false) (hs : s.de = false ∧ s.fu = false) {n : Nat} (hn : n ≤ x.bs.length) (hxl : x.bs.length ≤ 65536) (hu : 0 ≤ s.u ∧ s.u ≤ 65536) :
    Calls Try.prog 17 #[.pointer (some ⟨d, 0, none⟩), .string p, .int .i64 n] w fun r w' => r = .returned (.int .i64 0) ∧ ∃ v, DkP w' B d mb V { s with u := s.u - ((x.bs.length : Int) - n) } (F.set j { x with v := v, bs := x.bs.take n, sy := n, fi := true }) ∧ Vol V w w' := by
  have hF := find_yes H hj hxp hp hs.1
  obtain ⟨A1, c1, hxv, -, -⟩ := own_slice (H.rows j x hj)
  obtain ⟨L, hL⟩ : ∃ L, L = x.bs.length := ⟨_, rfl⟩
  obtain ⟨g, hg⟩ : ∃ g, g = x.g := ⟨_, rfl⟩
  rw [← hL] at hxv
  rw [← hg] at hF
  have n0 : decide ((n : Int) < 0) = false := by simp
  have n1 : decide (L < n) = false := by simp; omega
  have hjl := (List.getElem?_eq_some_iff.1 hj).1
  have HJ := Lib.hid hj
  have HH := Lib.hid H
  have HX := Lib.hid hxv
  have HG := Lib.hid hg
  have HL := Lib.hid hL
  clear hj H hxv hg hL
  go_enter Try.func17, Try.ntmps17
  go_wp2_with fail
  refine hF.mono ?_
  rintro r w1 ⟨rfl, b1⟩
  have H2 := HH.out.below b1
  have hBu := burn0 H2.blk hs.2
  have x0 : w1.cell? ⟨g, 0, none⟩ = some (.slice A1 L c1) := by rw [← HX.out, HG.out]; exact (H2.fls j x HJ.out).cell 0
  have H2' := Lib.hid H2
  clear H2 hF
  go_wp2_with fail
  refine hBu.mono ?_
  rintro r w3 ⟨rfl, b3⟩
  have H4 := H2'.out.below b3
  have hCu := cut_ H4 HJ.out hn hxl hu
  rw [← HG.out] at hCu
  clear H4 hBu
  go_wp2_with fail
  refine hCu.mono ?_
  rintro r w4 ⟨⟨u, rfl⟩, v, H5, v5⟩
  have hj5 : (F.set j { x with v := v, bs := x.bs.take n, sy := n })[j]? = some { x with v := v, bs := x.bs.take n, sy := n } := List.getElem?_set_self hjl
  have h6 := H5.firm (j := j) (by rw [HG.out]; exact hj5)
  have y2 : w4.cell? ⟨g, 2, none⟩ = some (.bool x.fi) := by have h := (H5.fls j _ (by rw [HG.out]; exact hj5)).cell 2; rw [← HG.out] at h; exact h
  have f2 : w4.frozen? ⟨g, 2, none⟩ = false := by have h := (H5.fls j _ (by rw [HG.out]; exact hj5)).frozen 2; rw [← HG.out] at h; exact h
  have H6 := Lib.hid h6
  have V5 := Lib.hid v5
  clear hCu H5 v5 h6 hj5
  go_wp2_with fail
  go_ret
  obtain ⟨h7, v7⟩ := H6.out
  have hg' := HG.out
  subst hg'
  simp only [List.set_set] at h7 v7
  refine ⟨rfl, v, h7, ((Vol.of_below (b1.trans (b3.mono b1.size))).trans V5.out (fun b e => .inl e)).trans v7 (fun b e => .inl e)⟩
set_option maxHeartbeats 8000000 in
theorem Remove_yes (H : DkP w B d mb V s F) {j : Nat} {x : Fi} (hj : F[j]? = some x) (hxp : x.p = p) (hp : p.toList.isEmpty = false) (hs : s.de = false ∧ s.fu = false) (hxl : x.bs.length ≤ 65536) (hu : 0 ≤ s.u ∧ s.u ≤ 65536) :
    Calls Try.prog 20 #[.pointer (some ⟨d, 0, none⟩), .string p] w fun r w' => r = .returned (.int .i64 0) ∧ DkP w' B d mb V { s with u := s.u - (x.bs.length : Int) } (F.eraseIdx j) ∧ Vol V w w' := by
  have hF := find_yes H hj hxp hp hs.1
  have HJ := Lib.hid hj
  have HH := Lib.hid H
  clear hj H
  go_enter Try.func20, Try.ntmps20
  go_wp2_with fail
  refine hF.mono ?_
  rintro r w1 ⟨rfl, b1⟩
  have H2 := HH.out.below b1
  have hBu := burn0 H2.blk hs.2
  have H2' := Lib.hid H2
  clear H2 hF
  go_wp2_with fail
  refine hBu.mono ?_
  rintro r w3 ⟨rfl, b3⟩
  have H4 := H2'.out.below b3
  have hCu := remove_yes H4 HJ.out hxp hxl hu
  clear H4 hBu
  go_wp2_with fail
  refine hCu.mono ?_
  rintro r w4 ⟨⟨u, rfl⟩, H5, v5⟩
  clear hCu
  go_wp2_with fail
  go_ret
  exact ⟨rfl, H5, (Vol.of_below (b1.trans (b3.mono b1.size))).trans v5 (fun b e => .inl e)⟩
set_option maxHeartbeats 8000000 in
theorem remove_no (H : DkP w B d mb V s F) (hno : ∀ (k : Nat) (x : Fi), F[k]? = some x → hitP p x = false) :
    Calls Try.prog 66 #[.pointer (some ⟨d, 0, none⟩), .string p] w fun r w' => (∃ u, r = .returned u) ∧ Below w.heap.size w w' := by
  have y2 : w.cell? ⟨d, 2, none⟩ = some (.map (some mb)) := H.blk.cell 2
  have l3 := flook_no H hno true
  clear H hno
  go_enter Try.func66, Try.ntmps66
  go_wp2_with fail
  go_end0
  exact ⟨⟨_, rfl⟩, Below.refl _ _⟩
end
end Go.Proofs.Ytplmfmcogbdpjaa.Dk
namespace Go.Proofs.Ytplmfmcogbdpjaa.Dk
open Go Go.RowKit Go.Proofs.Ytplmfmcogbdpjaa Go.Proofs.Ytplmfmcogbdpjaa.Crw Go.Proofs.Ytplmfmcogbdpjaa.Vl Go.ChangeShapes Go.WideShapes Go.ChangeAt
set_option linter.unusedVariables false
set_option maxRecDepth 100000
section
variable {w w' : World} {B d mb : Nat} {U V : Nat → Prop} {s s' : Ds} {F : List Fi} {p q : ByteArray}
/-- A file goes by another name. -/
theorem DkP.move (h : DkP w B d mb V s F) {j : Nat} {x : Fi} (hj : F[j]? = some x) (hno : ∀ (k : Nat) (y : Fi), F[k]? = some y → k ≠ j → hitP q y = false) (hvol : Vol (fun b => b = d ∨ b = mb) w w') (hdb : Blk w' d 80 (dsC s' mb)) (hmp : MapB w' mb ((F.eraseIdx j ++ [{ x with p := q }]).map fiE)) :
    DkP w' B d mb V s' (F.eraseIdx j ++ [{ x with p := q }]) := by
  have get : ∀ {k : Nat} {y : Fi}, (F.eraseIdx j ++ [{ x with p := q }])[k]? = some y → (k = (F.eraseIdx j).length ∧ y = { x with p := q }) ∨ (k < (F.eraseIdx j).length ∧ ∃ k', F[k']? = some y ∧ k' ≠ j ∧ ((k < j ∧ k' = k) ∨ (j ≤ k ∧ k' = k + 1))) := fun {k y} hk => by
    rcases fget_push hk with h1 | ⟨h1, h2⟩
    · exact .inl h1
    · exact .inr ⟨h1, fget_erase h2⟩
  refine ⟨hdb, hmp, fun k y hy => ?_, fun k y hy => ?_, fun i k y z hy hz e => ?_, fun i k y z hy hz e => ?_, fun i k y z hy hz e => ?_, h.vm, fun k y hy => ?_, fun b hb => Nat.lt_of_lt_of_le (h.lt b hb) hvol.size, h.ge⟩
  · have key : ∀ (k' : Nat) (z : Fi), F[k']? = some z → Blk w' z.g 86 (fiC z) := fun k' z hz => blk_vol (h.fls k' z hz) hvol (by
      rintro (e | e)
      · exact blk_ne (h.fls k' z hz) h.blk (by decide) e
      · exact blk_map_ne (h.fls k' z hz) h.mp e)
    rcases get hy with ⟨_, rfl⟩ | ⟨_, k', hk, _⟩
    · exact key j x hj
    · exact key k' y hk
  · have key : ∀ (k' : Nat) (z : Fi), F[k']? = some z → w'.ownsRow B 5 1 z.v z.bs.length (bsV z.bs) := fun k' z hz => own_vol (h.rows k' z hz) hvol (by
      rintro b hb (e | e)
      · subst e
        exact own_blk_ne (h.rows k' z hz) h.blk (by decide) hb
      · exact own_map_ne (h.rows k' z hz) h.mp (by rw [hb, e]))
    rcases get hy with ⟨_, rfl⟩ | ⟨_, k', hk, _⟩
    · exact key j x hj
    · exact key k' y hk
  · rcases get hy with ⟨e1, rfl⟩ | ⟨l1, i', hi, ni, o1⟩
    · rcases get hz with ⟨e2, _⟩ | ⟨l2, k', hk, nk, o2⟩
      · omega
      · have h1 := hno k' z hk nk
        rw [hitP_sym e] at h1
        cases h1
    · rcases get hz with ⟨e2, rfl⟩ | ⟨l2, k', hk, nk, o2⟩
      · have h1 := hno i' y hi ni
        rw [show hitP q y = true from e] at h1
        cases h1
      · have := h.uniq i' k' y z hi hk e
        omega
  · rcases get hy with ⟨e1, rfl⟩ | ⟨l1, i', hi, ni, o1⟩
    · rcases get hz with ⟨e2, _⟩ | ⟨l2, k', hk, nk, o2⟩
      · omega
      · exact absurd (h.apart j k' x z hj hk e).symm nk
    · rcases get hz with ⟨e2, rfl⟩ | ⟨l2, k', hk, nk, o2⟩
      · exact absurd (h.apart i' j y x hi hj e) ni
      · have := h.apart i' k' y z hi hk e
        omega
  · rcases get hy with ⟨e1, rfl⟩ | ⟨l1, i', hi, ni, o1⟩
    · rcases get hz with ⟨e2, _⟩ | ⟨l2, k', hk, nk, o2⟩
      · omega
      · exact h.apartV j k' x z hj hk (fun e => nk e.symm)
    · rcases get hz with ⟨e2, rfl⟩ | ⟨l2, k', hk, nk, o2⟩
      · exact h.apartV i' j y x hi hj ni
      · exact h.apartV i' k' y z hi hk (by omega)
  · rcases get hy with ⟨_, rfl⟩ | ⟨_, k', hk, _⟩
    · exact h.vx j x hj
    · exact h.vx k' y hk
end
end Go.Proofs.Ytplmfmcogbdpjaa.Dk
namespace Go.Proofs.Ytplmfmcogbdpjaa.Dk
open Go Go.RowKit Go.Proofs.Ytplmfmcogbdpjaa Go.Proofs.Ytplmfmcogbdpjaa.Crw Go.Proofs.Ytplmfmcogbdpjaa.Vl Go.ChangeShapes Go.WideShapes Go.ChangeAt
set_option linter.unusedVariables false
set_option maxRecDepth 100000
section
variable {w w' : World} {B d mb : Nat} {U V : Nat → Prop} {s s' : Ds} {F : List Fi} {p q : ByteArray}
set_option maxHeartbeats 4000000 in
theorem Index2 {g : Nat} (hb : Blk w g 9 #[.string p, .string q]) (hp : p.toList.isEmpty = false) (hq : q.toList.isEmpty = false) :
    Calls Try.prog 84 #[.slice (some ⟨g, 0, none⟩) 2 2, .string ⟨#[]⟩] w fun r w' => r = .returned (.int .i64 (-1)) ∧ Below w.heap.size w w' := by
  go_enter Try.func84, Try.ntmps84
  go_wp2_with fail
  go_loopw [8] (fun i wr => (i = .int .i64 0 ∨ i = .int .i64 1 ∨ i = .int .i64 2) ∧ Below w.heap.size w wr) (fun i _ => 3 - (intOf i).toNat)
  case atStart => exact ⟨.inl rfl, Below.refl _ _⟩
  case round =>
    obtain ⟨rfl | rfl | rfl, hbel⟩ := hrel
    · have c1 : wr.cell? ⟨g, 0, none⟩ = some (.string p) := (hb.below hbel hb.lt).cell 0
      clear hb
      go_wp2
      go_roundw
      case rel => exact ⟨.inr (.inl (by go_num)), hbel⟩
      case measure => simp [intOf]
    · have c1 : wr.cell? ⟨g, 1, none⟩ = some (.string q) := (hb.below hbel hb.lt).cell 1
      clear hb
      go_wp2
      go_roundw
      case rel => exact ⟨.inr (.inr (by go_num)), hbel⟩
      case measure => simp [intOf]
    · clear hb
      go_wp2
      go_ret
      exact ⟨rfl, hbel⟩
set_option maxHeartbeats 4000000 in
theorem Contains2 {g : Nat} (hb : Blk w g 9 #[.string p, .string q]) (hp : p.toList.isEmpty = false) (hq : q.toList.isEmpty = false) :
    Calls Try.prog 79 #[.slice (some ⟨g, 0, none⟩) 2 2, .string ⟨#[]⟩] w fun r w' => r = .returned (.bool false) ∧ Below w.heap.size w w' := by
  go_enter Try.func79, Try.ntmps79
  go_wp2_with (go_at_call 84; refine (Index2 hb hp hq).mono ?_; rintro r w1 ⟨rfl, b1⟩)
  go_ret
  exact ⟨rfl, b1⟩
set_option maxHeartbeats 4000000 in
theorem refuse2 {g : Nat} (hd : Blk w d 80 (dsC s mb)) (hs : s.de = false) (hb : Blk w g 9 #[.string p, .string q]) (hp : p.toList.isEmpty = false) (hq : q.toList.isEmpty = false) :
    Calls Try.prog 61 #[.pointer (some ⟨d, 0, none⟩), .slice (some ⟨g, 0, none⟩) 2 2] w fun r w' => r = .returned (.int .i64 0) ∧ Below w.heap.size w w' := by
  have c5 : w.cell? ⟨d, 5, none⟩ = some (.bool false) := by rw [← hs]; exact hd.cell 5
  go_enter Try.func61, Try.ntmps61
  go_wp2_with (go_at_call 79; refine (Contains2 hb hp hq).mono ?_; rintro r w1 ⟨rfl, b1⟩)
  go_ret
  exact ⟨rfl, b1⟩
theorem DkP.settled (h : DkP w B d mb V s F) {j : Nat} {x : Fi} (hj : F[j]? = some x) (hb4 : Blk w' x.g 86 (fiC { x with sy := x.bs.length, fi := true })) (hv4 : Vol (fun b => b = x.g) w w') : DkP w' B d mb V s (F.set j { x with sy := x.bs.length, fi := true }) ∧ Vol V w w' := by
  have hvv : Vol (fun b => b = d ∨ b = x.g ∨ x.v.ownBlock = some b) w w' := hv4.mono (fun b e => .inr (.inl e))
  have hT := h.turn (s' := s) (x' := { x with sy := x.bs.length, fi := true }) hj rfl rfl hvv (blk_vol h.blk hv4 (fun e => blk_ne (h.fls j x hj) h.blk (by decide) e.symm)) hb4 (own_vol (h.rows j x hj) hv4 (fun b hb e => own_blk_ne (h.rows j x hj) (h.fls j x hj) (by decide) (by rw [hb, e]))) (fun b e => .inl e)
  refine ⟨hT.weaken ?_ (fun b e => Nat.lt_of_lt_of_le (h.lt b e) hv4.size) h.ge, hv4.mono (fun b e => by rw [e]; exact (h.vx j x hj).1)⟩
  rintro b (e | ⟨e1, e2⟩)
  · exact e
  · exact (h.vx j x hj).2 b e2
/-- What remove makes of the files: none of that name is left. -/
structure Gone (w w' : World) (B d mb : Nat) (V : Nat → Prop) (s : Ds) (F G : List Fi) (t : Nat) (q : ByteArray) : Prop where
  dk : DkP w' B d mb V { s with u := s.u - t } G
  vol : Vol V w w'
  no : ∀ (k : Nat) (y : Fi), G[k]? = some y → hitP q y = false
set_option maxHeartbeats 8000000 in
/-- Rename onto a name; j, the file's place behind 'remove'. -/
theorem Rename_ (H : DkP w B d mb V s F) {j : Nat} {x : Fi} (hj : F[j]? = some x) (hxp : x.p = p) (hp : p.toList.isEmpty = false) (hq : q.toList.isEmpty = false) (hpq : (p.toList == q.toList) = false) (hs : s.de = false ∧ s.fu = false) {G : List Fi} {i t : Nat} (hi : G[i]? = some { x with sy := x.bs.length, fi := true })
    (hrm : ∀ wa, DkP wa B d mb V s (F.set j { x with sy := x.bs.length, fi := true }) → Calls Try.prog 66 #[.pointer (some ⟨d, 0, none⟩), .string q] wa fun r w' => (∃ u, r = .returned u) ∧ Gone wa w' B d mb V s (F.set j { x with sy := x.bs.length, fi := true }) G t q) :
    Calls Try.prog 19 #[.pointer (some ⟨d, 0, none⟩), .string p, .string q] w fun r w' => r = .returned (.int .i64 0) ∧ DkP w' B d mb V { s with u := s.u - t } (G.eraseIdx i ++ [{ x with sy := x.bs.length, fi := true, p := q }]) ∧ Vol V w w' := by
  obtain ⟨W, hW⟩ : ∃ W, W = w.alloc (.cells #[.string p, .string q] 9) := ⟨_, rfl⟩
  have hbW : Below w.heap.size w W := by rw [hW]; exact (Below.refl _ _).alloc (Nat.le_refl _) _
  have hkW : Blk W w.heap.size 9 #[.string p, .string q] := by rw [hW]; exact Blk.new _ _ _
  have H1 := H.below hbW
  have hRf := refuse2 H1.blk hs.1 hkW hp hq
  obtain ⟨A1, c1, hxv, -, -⟩ := own_slice (H.rows j x hj)
  obtain ⟨g, hg⟩ : ∃ g, g = x.g := ⟨_, rfl⟩
  have HW := Lib.hid hW
  have HJ := Lib.hid hj
  have HP := Lib.hid hxp
  have HI := Lib.hid hi
  have HX := Lib.hid hxv
  have HG := Lib.hid hg
  have HH := Lib.hid H1
  have HB := Lib.hid hbW
  clear hW hj H H1 hbW hkW hxp hi hxv hg
  go_enter Try.func19, Try.ntmps19
  go_wp2_with fail
  rw [← HW.out]
  refine hRf.mono ?_
  rintro r w1 ⟨rfl, b1⟩
  have H2 := HH.out.below b1
  have hF := find_yes H2 HJ.out HP.out hp hs.1
  rw [← HG.out] at hF
  have H2' := Lib.hid H2
  clear H2 hRf
  go_wp2_with fail
  refine hF.mono ?_
  rintro r w2 ⟨rfl, b2⟩
  have H3 := H2'.out.below b2
  have hBu := burn0 H3.blk hs.2
  have H3' := Lib.hid H3
  clear H3 hF
  go_wp2_with fail
  refine hBu.mono ?_
  rintro r w3 ⟨rfl, b3⟩
  have H4 := H3'.out.below b3
  have hSe := settle_ (H4.fls j x HJ.out) A1 _ c1 HX.out
  rw [← HG.out] at hSe
  have H4' := Lib.hid H4
  clear H4 hBu
  go_wp2_with fail
  refine hSe.mono ?_
  rintro r w4 ⟨⟨u4, rfl⟩, hb4, hv4⟩
  clear hSe
  have H5 : DkP w4 B d mb V s (F.set j { x with sy := x.bs.length, fi := true }) ∧ Vol V w3 w4 := H4'.out.settled HJ.out (by rw [← HG.out]; exact hb4) (by rw [← HG.out]; exact hv4)
  have hR := hrm w4 H5.1
  have V45 := Lib.hid H5.2
  clear H5 hb4 hv4 hrm
  go_wp2_with fail
  refine hR.mono ?_
  rintro r w5 ⟨⟨u5, rfl⟩, hG⟩
  have y2 : w5.cell? ⟨d, 2, none⟩ = some (.map (some mb)) := hG.dk.blk.cell 2
  obtain ⟨d2, e2, hm2, hg2⟩ := fdel_yes hG.dk HI.out 0
  have e2' : (Builtin.delete_ #[78, 9] 0 #[.map (some mb), .string p]).run Try.prog w5 = .ok (.tuple #[]) d2 := by rw [← HP.out]; exact e2
  have vol2 : Vol (fun b => b = mb) w5 d2 := (Vol.refl w5).grown hg2 (fun k hk => .inl (by injection hk with hk; exact hk.symm))
  have H7 := hG.dk.erase i (vol2.mono (fun b e => .inr e)) (blk_vol hG.dk.blk vol2 (fun e => blk_map_ne hG.dk.blk hG.dk.mp e)) hm2
  have y3 : d2.cell? ⟨d, 2, none⟩ = some (.map (some mb)) := H7.blk.cell 2
  obtain ⟨d3, e3, hm3, hg3⟩ := fput_no H7 (p := q) (fun k y hy => by
    obtain ⟨k', hk, _⟩ := fget_erase hy
    exact hG.no k' y hk) g
  have vol3 : Vol (fun b => b = mb) d2 d3 := (Vol.refl d2).grown hg3 (fun k hk => .inl (by injection hk with hk; exact hk.symm))
  have vol53 : Vol (fun b => b = d ∨ b = mb) w5 d3 := Vol.trans (V := fun b => b = d ∨ b = mb) (vol2.mono (fun b e => .inr e)) vol3 (fun b e => .inl (.inr e))
  have hM := hG.dk.move (q := q) (s' := { s with u := s.u - t }) HI.out (fun k y hy _ => hG.no k y hy) vol53 (blk_vol H7.blk vol3 (fun e => blk_map_ne H7.blk H7.mp e)) (by
    rw [List.map_append]
    show MapB d3 mb ((G.eraseIdx i).map fiE ++ [(.string q, .pointer (some ⟨x.g, 0, none⟩))])
    rw [← HG.out]
    exact hm3)
  have HM := Lib.hid hM
  have HG' := Lib.hid hG
  have V53 := Lib.hid vol53
  clear hR hG e2 hm2 hg2 vol2 H7 hm3 hg3 vol3 vol53 hM
  go_wp2_with fail
  go_ret
  refine ⟨rfl, HM.out, ?_⟩
  have z1 : Below w.heap.size w w3 := ((HB.out.trans (b1.mono HB.out.size)).trans (b2.mono (Nat.le_trans HB.out.size b1.size))).trans (b3.mono (Nat.le_trans HB.out.size (Nat.le_trans b1.size b2.size)))
  refine (((Vol.of_below z1).trans V45.out (fun b e => .inl e)).trans HG'.out.vol (fun b e => .inl e)).trans V53.out ?_
  rintro b (e | e)
  · exact .inl (by rw [e]; exact HG'.out.dk.vm.1)
  · exact .inl (by rw [e]; exact HG'.out.dk.vm.2)
end
end Go.Proofs.Ytplmfmcogbdpjaa.Dk
namespace Go.Proofs.Ytplmfmcogbdpjaa.Dk
open Go Go.RowKit Go.Proofs.Ytplmfmcogbdpjaa Go.Proofs.Ytplmfmcogbdpjaa.Crw Go.Proofs.Ytplmfmcogbdpjaa.Vl Go.ChangeShapes Go.WideShapes Go.ChangeAt
set_option linter.unusedVariables false
set_option maxRecDepth 100000
section
variable {w w' : World} {B d mb : Nat} {U V : Nat → Prop} {s s' : Ds} {F : List Fi} {p q : ByteArray}
set_option maxHeartbeats 8000000 in
theorem Append_full (H : DkP w B d mb V s F) (hp : p.toList.isEmpty = false) (hs : s.de = false) (hq : 0 ≤ s.q ∧ s.q ≤ 65536) (hu : 0 ≤ s.u ∧ s.u ≤ 65536) {n c : Nat} {A : Option Addr} (hn : s.q - s.u < (n : Int)) :
    Calls Try.prog 16 #[.pointer (some ⟨d, 0, none⟩), .string p, .slice A n c] w fun r w' => r = .returned (.int .i64 6) ∧ Below w.heap.size w w' := by
  obtain ⟨W, hW⟩ : ∃ W, W = w.alloc (.cells #[.string p] 9) := ⟨_, rfl⟩
  have hbW : Below w.heap.size w W := by rw [hW]; exact (Below.refl _ _).alloc (Nat.le_refl _) _
  have hkW : Blk W w.heap.size 9 #[.string p] := by rw [hW]; exact Blk.new _ _ _
  have H1 := H.below hbW
  have hRf := refuse1 H1.blk hs hkW hp
  have k1 : decide (s.q - s.u < (n : Int)) = true := by simpa using hn
  have HW := Lib.hid hW
  have HH := Lib.hid H1
  have HB := Lib.hid hbW
  clear hW H H1 hbW hkW
  go_enter Try.func16, Try.ntmps16
  go_wp2_with fail
  rw [← HW.out]
  refine hRf.mono ?_
  rintro r w1 ⟨rfl, b1⟩
  have H2 := HH.out.below b1
  have hRm := Room_ H2.blk hq hu
  clear hRf H2
  go_wp2_with fail
  refine hRm.mono ?_
  rintro r w2 ⟨rfl, b2⟩
  clear hRm
  go_wp2_with fail
  go_ret
  exact ⟨rfl, (HB.out.trans (b1.mono HB.out.size)).trans (b2.mono (Nat.le_trans HB.out.size b1.size))⟩
set_option maxHeartbeats 4000000 in
theorem refuse_dead {A : Option Addr} {n c : Nat} (hd : Blk w d 80 (dsC s mb)) (hs : s.de = true) :
    Calls Try.prog 61 #[.pointer (some ⟨d, 0, none⟩), .slice A n c] w fun r w' => r = .returned (.int .i64 7) ∧ Below w.heap.size w w' := by
  have c5 : w.cell? ⟨d, 5, none⟩ = some (.bool true) := by rw [← hs]; exact hd.cell 5
  go_enter Try.func61, Try.ntmps61
  go_wp2_with fail
  go_ret
  exact ⟨rfl, Below.refl _ _⟩
set_option maxHeartbeats 4000000 in
theorem burn_left (H : DkP w B d mb V s F) (hs : s.fu = true) {m : Nat} (hm : s.lf = (m : Int) + 1) (hm2 : m ≤ 1000000) :
    Calls Try.prog 62 #[.pointer (some ⟨d, 0, none⟩)] w fun r w' => r = .returned (.int .i64 0) ∧ DkP w' B d mb V { s with lf := m } F ∧ Vol V w w' := by
  have c3 : w.cell? ⟨d, 3, none⟩ = some (.bool true) := by rw [← hs]; exact H.blk.cell 3
  have c4 : w.cell? ⟨d, 4, none⟩ = some (.int .i64 ((m : Int) + 1)) := by rw [← hm]; exact H.blk.cell 4
  have f4 : w.frozen? ⟨d, 4, none⟩ = false := H.blk.frozen 4
  have e0 : ((m : Int) + 1 == 0) = false := by simp; omega
  have k1 : IntKind.i64.wrap ((m : Int) + 1 - 1) = (m : Int) := by rw [show (m : Int) + 1 - 1 = m by omega]; exact IntWalk.i64_in _ (by omega)
  have HH := Lib.hid H
  clear H
  go_enter Try.func62, Try.ntmps62
  go_wp2_with fail
  go_ret
  have v1 : Vol (fun b => b = d) w (w.setCell ⟨d, 4, none⟩ (.int .i64 m)) := Vol.setCell (V := fun b => b = d) (a := ⟨d, 4, none⟩) (Vol.refl w) (.inl rfl) _
  exact ⟨rfl, HH.out.scal v1 (HH.out.blk.set_ 4 (.int .i64 m)), v1.mono (fun b e => by rw [e]; exact HH.out.vm.1)⟩
set_option maxHeartbeats 4000000 in
theorem burn_dead (H : DkP w B d mb V s F) (hs : s.fu = true) (hm : s.lf = 0) :
    Calls Try.prog 62 #[.pointer (some ⟨d, 0, none⟩)] w fun r w' => r = .returned (.int .i64 7) ∧ DkP w' B d mb V { s with de := true } F ∧ Vol V w w' := by
  have c3 : w.cell? ⟨d, 3, none⟩ = some (.bool true) := by rw [← hs]; exact H.blk.cell 3
  have c4 : w.cell? ⟨d, 4, none⟩ = some (.int .i64 0) := by rw [← hm]; exact H.blk.cell 4
  have f5 : w.frozen? ⟨d, 5, none⟩ = false := H.blk.frozen 5
  have c5 : w.cell? ⟨d, 5, none⟩ = some (.bool s.de) := H.blk.cell 5
  have HH := Lib.hid H
  clear H
  go_enter Try.func62, Try.ntmps62
  go_wp2_with fail
  go_ret
  have v1 : Vol (fun b => b = d) w (w.setCell ⟨d, 5, none⟩ (.bool true)) := Vol.setCell (V := fun b => b = d) (a := ⟨d, 5, none⟩) (Vol.refl w) (.inl rfl) _
  exact ⟨rfl, HH.out.scal v1 (HH.out.blk.set_ 5 (.bool true)), v1.mono (fun b e => by rw [e]; exact HH.out.vm.1)⟩
set_option maxHeartbeats 4000000 in
theorem find_no (H : DkP w B d mb V s F) (hno : ∀ (k : Nat) (x : Fi), F[k]? = some x → hitP p x = false) (hp : p.toList.isEmpty = false) (hs : s.de = false) :
    Calls Try.prog 63 #[.pointer (some ⟨d, 0, none⟩), .string p] w fun r w' => r = .returned (.tuple #[.pointer none, .int .i64 3]) ∧ Below w.heap.size w w' := by
  obtain ⟨W, hW⟩ : ∃ W, W = w.alloc (.cells #[.string p] 9) := ⟨_, rfl⟩
  have hbW : Below w.heap.size w W := by rw [hW]; exact (Below.refl _ _).alloc (Nat.le_refl _) _
  have hkW : Blk W w.heap.size 9 #[.string p] := by rw [hW]; exact Blk.new _ _ _
  have H1 := H.below hbW
  have hRf := refuse1 H1.blk hs hkW hp
  have HW := Lib.hid hW
  have HN := Lib.hid hno
  have HH := Lib.hid H1
  have HB := Lib.hid hbW
  clear hW hno H H1 hbW hkW
  go_enter Try.func63, Try.ntmps63
  go_wp2_with fail
  rw [← HW.out]
  refine hRf.mono ?_
  rintro r w1 ⟨rfl, b1⟩
  have H2 := HH.out.below b1
  have c2 : w1.cell? ⟨d, 2, none⟩ = some (.map (some mb)) := H2.blk.cell 2
  have l3 := flook_no H2 HN.out true
  clear H2 hRf
  go_wp2_with fail
  go_ret2
  exact ⟨rfl, HB.out.trans (b1.mono HB.out.size)⟩
set_option maxHeartbeats 4000000 in
theorem Fuse_ (H : DkP w B d mb V s F) (n : Nat) (hn : n ≤ 1000000) :
    Calls Try.prog 41 #[.pointer (some ⟨d, 0, none⟩), .int .i64 n] w fun r w' => (∃ u, r = .returned u) ∧ DkP w' B d mb V { s with fu := true, lf := n } F ∧ Vol V w w' := by
  have f3 : w.frozen? ⟨d, 3, none⟩ = false := H.blk.frozen 3
  have c3 : w.cell? ⟨d, 3, none⟩ = some (.bool s.fu) := H.blk.cell 3
  have c4 : (w.setCell ⟨d, 3, none⟩ (.bool true)).cell? ⟨d, 4, none⟩ = some (.int .i64 s.lf) := (H.blk.set_ 3 (.bool true)).cell 4
  have f4 : (w.setCell ⟨d, 3, none⟩ (.bool true)).frozen? ⟨d, 4, none⟩ = false := (H.blk.set_ 3 (.bool true)).frozen 4
  have k1 : max (n : Int) 0 = (n : Int) := by omega
  have HH := Lib.hid H
  clear H
  go_enter Try.func41, Try.ntmps41
  go_wp2_with fail
  go_end0
  have v1 : Vol (fun b => b = d) w ((w.setCell ⟨d, 3, none⟩ (.bool true)).setCell ⟨d, 4, none⟩ (.int .i64 n)) := Vol.setCell (V := fun b => b = d) (a := ⟨d, 4, none⟩) (Vol.setCell (V := fun b => b = d) (a := ⟨d, 3, none⟩) (Vol.refl w) (.inl rfl) _) (.inl rfl) _
  exact ⟨⟨_, rfl⟩, HH.out.scal v1 ((HH.out.blk.set_ 3 (.bool true)).set_ 4 (.int .i64 n)), v1.mono (fun b e => by rw [e]; exact HH.out.vm.1)⟩
end
end Go.Proofs.Ytplmfmcogbdpjaa.Dk
namespace Go.Proofs.Ytplmfmcogbdpjaa.Dk
open Go Go.RowKit Go.Proofs.Ytplmfmcogbdpjaa Go.Proofs.Ytplmfmcogbdpjaa.Crw Go.Proofs.Ytplmfmcogbdpjaa.Vl Go.ChangeShapes Go.WideShapes Go.ChangeAt
set_option linter.unusedVariables false
set_option maxRecDepth 100000
/-- What burning an act makes of the disk's numbers, and what it answers. -/
def burnS (s s2 : Ds) (e : Int) : Prop := (s.fu = false ∧ s2 = s ∧ e = 0) ∨ (s.fu = true ∧ ∃ m : Nat, s.lf = (m : Int) + 1 ∧ m ≤ 1000000 ∧ s2 = { s with lf := m } ∧ e = 0) ∨ (s.fu = true ∧ s.lf = 0 ∧ s2 = { s with de := true } ∧ e = 7)
section
variable {w w' : World} {B d mb : Nat} {U V : Nat → Prop} {s s' : Ds} {F : List Fi} {p : ByteArray}
theorem burn_all (H : DkP w B d mb V s F) {s2 : Ds} {e : Int} (h : burnS s s2 e) :
    Calls Try.prog 62 #[.pointer (some ⟨d, 0, none⟩)] w fun r w' => r = .returned (.int .i64 e) ∧ DkP w' B d mb V s2 F ∧ Vol V w w' := by
  rcases h with ⟨h1, rfl, rfl⟩ | ⟨h1, m, h2, h3, rfl, rfl⟩ | ⟨h1, h2, rfl, rfl⟩
  · exact (burn0 H.blk h1).mono fun r w' ⟨e, hb⟩ => ⟨e, H.below hb, Vol.of_below hb⟩
  · exact burn_left H h1 h2 h3
  · exact burn_dead H h1 h2
set_option maxHeartbeats 16000000 in
theorem Append_newF (H : DkP w B d mb V s F) (hno : ∀ (k : Nat) (x : Fi), F[k]? = some x → hitP p x = false) (hp : p.toList.isEmpty = false) (hs : s.de = false) {s2 : Ds} (hbs : burnS s s2 0) (hqu : s2.u = s.u) (hq : 0 ≤ s.q ∧ s.q ≤ 65536) (hu : 0 ≤ s.u ∧ s.u ≤ 65536)
    {B' n c : Nat} {A : Option Addr} {bs : List Int} (hr : Reads w B' 1 A n (bsV bs)) (hB : B' ≤ w.heap.size) (hA : ∀ ad, A = some ad → ¬ V ad.block) (hn : (n : Int) ≤ s.q - s.u) :
    Calls Try.prog 16 #[.pointer (some ⟨d, 0, none⟩), .string p, .slice A n c] w fun r w' => r = .returned (.int .i64 0) ∧ ∃ V' g v, DkP w' B d mb V' { s2 with u := s2.u + n } (F ++ [⟨p, g, v, bs, 0, false⟩]) ∧ Vol V w w' ∧ (∀ b, V' b → V b ∨ w.heap.size ≤ b) := by
  obtain ⟨i0, hi, hz0, hz1, hz2⟩ := info_parts byte_infoD
  obtain ⟨W, hW⟩ : ∃ W, W = w.alloc (.cells #[.string p] 9) := ⟨_, rfl⟩
  have hbW : Below w.heap.size w W := by rw [hW]; exact (Below.refl _ _).alloc (Nat.le_refl _) _
  have hkW : Blk W w.heap.size 9 #[.string p] := by rw [hW]; exact Blk.new _ _ _
  have H1 := H.below hbW
  have hRf := refuse1 H1.blk hs hkW hp
  have k1 : decide (s.q - s.u < (n : Int)) = false := by simpa using hn
  have k2 : IntKind.i64.wrap (s2.u + (n : Int)) = s2.u + n := IntWalk.i64_in _ (by omega)
  have HW := Lib.hid hW
  have HN := Lib.hid hno
  have HR := Lib.hid hr
  have HH := Lib.hid H1
  have HB := Lib.hid hbW
  clear hW hno hr H H1 hbW hkW
  go_enter Try.func16, Try.ntmps16
  go_upto_region 12 with (first | (go_at_call 61; rw [← HW.out]; refine hRf.mono ?_; rintro r w1 ⟨rfl, b1⟩; have H2 := HH.out.below b1; have hRm := Room_ H2.blk hq hu; have H2' := Lib.hid H2; clear H2) | (go_at_call 15; refine hRm.mono ?_; rintro r w2 ⟨rfl, b2⟩; have H3 := H2'.out.below b2; have hBu := burn_all H3 hbs; have H3' := Lib.hid H3; clear H3) | (go_at_call 62; refine hBu.mono ?_; rintro r w3 ⟨rfl, H4, b3⟩; have c2 : w3.cell? ⟨d, 2, none⟩ = some (.map (some mb)) := H4.blk.cell 2; have l3 := flook_no H4 HN.out true; have H4' := Lib.hid H4; clear H4))
  obtain ⟨W4, hW4⟩ : ∃ W4, W4 = w3.alloc (.cells #[.slice none 0 0, .int .i64 0, .bool false] 86) := ⟨_, rfl⟩
  obtain ⟨g, hg⟩ : ∃ g, g = w3.heap.size := ⟨_, rfl⟩
  have b4 : Below w3.heap.size w3 W4 := by rw [hW4]; exact (Below.refl _ _).alloc (Nat.le_refl _) _
  have hk4 : Blk W4 g 86 #[.slice none 0 0, .int .i64 0, .bool false] := by rw [hW4, hg]; exact Blk.new _ _ _
  have H5 := H4'.out.below b4
  have HB4 := Lib.hid b4
  have c24 : W4.cell? ⟨d, 2, none⟩ = some (.map (some mb)) := H5.blk.cell 2
  obtain ⟨d1, e1, hmp, hg1⟩ := fput_no H5 HN.out g
  rw [← hW4, ← hg]
  have vw3 : Vol V w w3 := ((Vol.of_below ((HB.out.trans (b1.mono HB.out.size)).trans (b2.mono (Nat.le_trans HB.out.size b1.size)))).trans b3 (fun b e => .inl e))
  have bw4 : Vol V w W4 := vw3.below b4
  have hgw : w.heap.size ≤ g := by rw [hg]; exact vw3.size
  have hv1 : Vol (fun b => b = mb) W4 d1 := (Vol.refl W4).grown hg1 (fun k hk => .inl (by injection hk with hk; exact hk.symm))
  have hk1 := blk_vol hk4 hv1 (blk_map_ne hk4 H5.mp)
  have hd1 := blk_vol H5.blk hv1 (blk_map_ne H5.blk H5.mp)
  have hr1 : Reads d1 B' 1 A n (bsV bs) := reads_vol (reads_vol HR.out hB bw4 hA) (Nat.le_trans hB bw4.size) hv1 (fun ad e h => hA ad e (by rw [h]; exact H5.vm.2))
  have x0 : d1.cell? ⟨g, 0, none⟩ = some (.slice none 0 0) := hk1.cell 0
  have HG := Lib.hid hg
  have H5' := Lib.hid H5
  have HK1 := Lib.hid hk1
  have HD1 := Lib.hid hd1
  have HR1 := Lib.hid hr1
  have HV1 := Lib.hid hv1
  have HBW := Lib.hid bw4
  have HMP := Lib.hid hmp
  have HGW := Lib.hid hgw
  have hBd : Hid (B ≤ d1.heap.size) := Lib.hid (Nat.le_trans (H5'.out.ge d H5'.out.vm.1) (Nat.le_of_lt hd1.lt))
  clear vw3 hg hW4 b4 hk4 H5 hg1 bw4 hgw hv1 hk1 hd1 hr1 hmp b1 b2 b3 HR HB HW hRf hRm hBu l3
  go_upto_region 14 with (at_builtin; refine wpList_append_any _ rfl _ _ 28 rfl B 5 i0 (.int .u8 0) 1 1 Try.underlying28 hi hz0 hz1 hz2 rfl (by decide) (.slice none 0 0) 0 [] rfl ⟨by simp, .inl ⟨rfl, rfl⟩⟩ B' A n c (bsV bs) rfl HR1.out (bsV_one bs) (by simp only [maxLen]; omega) (by omega) hBd.out ?_; intro v2 d2 hown2 hg2 hn2; rw [Nat.zero_add, List.nil_append] at hown2; obtain ⟨A2, c2', rfl, -, -⟩ := own_slice hown2; have hk2 := HK1.out.grown hg2 (by simp [Value.ownBlock]); have f2 : d2.frozen? ⟨g, 0, none⟩ = false := hk2.frozen 0; have c20 : d2.cell? ⟨g, 0, none⟩ = some (.slice none 0 0) := hk2.cell 0; have HK2 := Lib.hid hk2; have HO2 := Lib.hid hown2; have HG2 := Lib.hid hg2; have HN2 := Lib.hid hn2; clear hk2 hown2 hg2 hn2)
  obtain ⟨d3, hd3⟩ : ∃ d3, d3 = d2.setCell ⟨g, 0, none⟩ (.slice A2 n c2') := ⟨_, rfl⟩
  rw [← hd3]
  have hdg : d ≠ g := HD1.out.ne_ HK1.out (by decide)
  have hk3 := HK2.out.set_ 0 (.slice A2 n c2')
  have hd30 := (HD1.out.grown HG2.out (by simp [Value.ownBlock])).far (fun e => hdg e) (p := ⟨g, 0, none⟩) (.slice A2 n c2')
  have ho3 := own_far (i := 0) (u := .slice A2 n c2') HO2.out HK2.out (by decide)
  have v3 : Vol (fun b => b = g) d1 d3 := by
    rw [hd3]
    exact Vol.setCell (V := fun b => b = g) (a := ⟨g, 0, none⟩) ((Vol.refl d1).grown HG2.out (fun k hk => by simp [Value.ownBlock] at hk)) (.inl rfl) _
  rw [← hd3] at hk3 hd30 ho3
  have y1 : d3.cell? ⟨d, 1, none⟩ = some (.int .i64 s2.u) := hd30.cell 1
  have f3 : d3.frozen? ⟨d, 1, none⟩ = false := hd30.frozen 1
  have HK3 := Lib.hid hk3
  have HD3 := Lib.hid hd30
  have HO3 := Lib.hid ho3
  have HV3 := Lib.hid v3
  have HDG := Lib.hid hdg
  clear hk3 hd30 ho3 v3 hdg f2 c20 hd3 e1 c24 x0
  go_wp2_with fail
  go_ret
  rw [← hqu]
  obtain ⟨dF, hdF⟩ : ∃ dF, dF = d3.setCell ⟨d, 1, none⟩ (.int .i64 (s2.u + n)) := ⟨_, rfl⟩
  rw [← hdF]
  have vF : Vol (fun b => b = d) d3 dF := by rw [hdF]; exact Vol.setCell (V := fun b => b = d) (a := ⟨d, 1, none⟩) (Vol.refl d3) (.inl rfl) _
  have vF1 : Vol (fun b => b = d ∨ b = g) d1 dF := (HV3.out.mono (fun b e => .inr e)).trans vF (fun b e => .inl (.inl e))
  have vF4 : Vol (fun b => b = d ∨ b = mb ∨ b = g) W4 dF := (HV1.out.mono (fun b e => .inr (.inl e))).trans vF1 (fun b e => .inl (e.elim .inl (fun e => .inr (.inr e))))
  have vF3 : Vol (fun b => b = d ∨ b = mb) w3 dF := (Vol.of_below HB4.out).trans vF4 (fun b e => e.elim (fun e => .inl (.inl e)) (fun e => e.elim (fun e => .inl (.inr e)) (fun e => .inr (by rw [e, HG.out]; exact Nat.le_refl _))))
  have hkF := HK3.out.far (fun e => HDG.out e.symm) (p := ⟨d, 1, none⟩) (.int .i64 (s2.u + n))
  have hdF' := HD3.out.set_ 1 (.int .i64 (s2.u + n))
  have hoF := own_far (i := 1) (u := .int .i64 (s2.u + n)) HO3.out HD3.out (by decide)
  rw [← hdF] at hkF hdF' hoF
  have hmF := HMP.out.keep (vF1.block _ HMP.out.lt (fun e => e.elim (fun e => blk_map_ne HD1.out HMP.out.at_ e.symm) (fun e => blk_map_ne HK1.out HMP.out.at_ e.symm)))
  have hsz : w3.heap.size ≤ d1.heap.size := Nat.le_trans HB4.out.size HV1.out.size
  have hsw : w.heap.size ≤ w3.heap.size := by rw [← HG.out]; exact HGW.out
  refine ⟨rfl, _, g, .slice A2 n c2', H4'.out.push (s' := { s2 with u := s2.u + n }) ⟨p, g, .slice A2 n c2', bs, 0, false⟩ HN.out vF3 (by simpa using hdF') (by simpa using hmF) (by rw [HG.out]; exact Nat.le_refl _) (by simpa using hkF) ?_ ?_, ?_, ?_⟩
  · have hl : bs.length = n := by have := HR1.out.1; simpa using this
    rw [← hl] at hoF
    rw [hl] at hoF
    show dF.ownsRow B 5 1 (.slice A2 n c2') bs.length (bsV bs)
    rw [hl]
    exact hoF
  · intro b hb
    rcases HN2.out with h1 | h1
    · rw [hb] at h1; simp [Value.ownBlock] at h1
    · rw [hb] at h1
      injection h1 with h1
      rw [h1]
      exact hsz
  · refine HBW.out.trans vF4 ?_
    rintro b (e | e | e)
    · exact .inl (by rw [e]; exact H4'.out.vm.1)
    · exact .inl (by rw [e]; exact H4'.out.vm.2)
    · exact .inr (by rw [e]; exact HGW.out)
  · rintro b (e | ⟨e, _⟩)
    · exact .inl e
    · exact .inr (Nat.le_trans hsw e)
end
end Go.Proofs.Ytplmfmcogbdpjaa.Dk
namespace Go.Proofs.Ytplmfmcogbdpjaa.Dk
open Go Go.RowKit Go.Proofs.Ytplmfmcogbdpjaa Go.Proofs.Ytplmfmcogbdpjaa.Crw Go.Proofs.Ytplmfmcogbdpjaa.Vl Go.ChangeShapes Go.WideShapes Go.ChangeAt
set_option linter.unusedVariables false
set_option maxRecDepth 100000
section
variable {w w' : World} {B d mb : Nat} {U V : Nat → Prop} {s s' : Ds} {F : List Fi} {p q : ByteArray}
set_option maxHeartbeats 16000000 in
theorem Append_oldF (H : DkP w B d mb V s F) {j : Nat} {x : Fi} (hj : F[j]? = some x) (hxp : x.p = p) (hp : p.toList.isEmpty = false) (hs : s.de = false) {s2 : Ds} (hbs : burnS s s2 0) (hqu : s2.u = s.u) (hq : 0 ≤ s.q ∧ s.q ≤ 65536) (hu : 0 ≤ s.u ∧ s.u ≤ 65536) (hxl : x.bs.length ≤ 65536)
    {B' n c : Nat} {A : Option Addr} {bs : List Int} (hr : Reads w B' 1 A n (bsV bs)) (hB : B' ≤ w.heap.size) (hA : ∀ ad, A = some ad → ¬ V ad.block) (hn : (n : Int) ≤ s.q - s.u) :
    Calls Try.prog 16 #[.pointer (some ⟨d, 0, none⟩), .string p, .slice A n c] w fun r w' => r = .returned (.int .i64 0) ∧ ∃ V' v, DkP w' B d mb V' { s2 with u := s2.u + n } (F.set j { x with v := v, bs := x.bs ++ bs }) ∧ Vol V w w' ∧ (∀ b, V' b → V b ∨ w.heap.size ≤ b) := by
  obtain ⟨i0, hi, hz0, hz1, hz2⟩ := info_parts byte_infoD
  obtain ⟨W, hW⟩ : ∃ W, W = w.alloc (.cells #[.string p] 9) := ⟨_, rfl⟩
  have hbW : Below w.heap.size w W := by rw [hW]; exact (Below.refl _ _).alloc (Nat.le_refl _) _
  have hkW : Blk W w.heap.size 9 #[.string p] := by rw [hW]; exact Blk.new _ _ _
  have H1 := H.below hbW
  have hRf := refuse1 H1.blk hs hkW hp
  have k1 : decide (s.q - s.u < (n : Int)) = false := by simpa using hn
  have k2 : IntKind.i64.wrap (s2.u + (n : Int)) = s2.u + n := IntWalk.i64_in _ (by omega)
  have hv := (H.rows j x hj)
  obtain ⟨L, hL⟩ : ∃ L, L = x.bs.length := ⟨_, rfl⟩
  obtain ⟨A1, c1, hxv, -, -⟩ := own_slice hv
  rw [← hL] at hxv hxl
  obtain ⟨g, hg⟩ : ∃ g, g = x.g := ⟨_, rfl⟩
  have HW := Lib.hid hW
  have HJ := Lib.hid hj
  have HP := Lib.hid hxp
  have HR := Lib.hid hr
  have HH := Lib.hid H1
  have HB := Lib.hid hbW
  have HL := Lib.hid hL
  have HXV := Lib.hid hxv
  have HG := Lib.hid hg
  clear hW hj hr H H1 hbW hkW hxp hL hxv hv hg
  go_enter Try.func16, Try.ntmps16
  go_upto_region 13 with (first | (go_at_call 61; rw [← HW.out]; refine hRf.mono ?_; rintro r w1 ⟨rfl, b1⟩; have H2 := HH.out.below b1; have hRm := Room_ H2.blk hq hu; have H2' := Lib.hid H2; clear H2) | (go_at_call 15; refine hRm.mono ?_; rintro r w2 ⟨rfl, b2⟩; have H3 := H2'.out.below b2; have hBu := burn_all H3 hbs; have H3' := Lib.hid H3; clear H3) | (go_at_call 62; refine hBu.mono ?_; rintro r w3 ⟨rfl, H4, b3⟩; have c2 : w3.cell? ⟨d, 2, none⟩ = some (.map (some mb)) := H4.blk.cell 2; have l3 := flook_yes H4 HJ.out true; rw [HP.out] at l3; unfold fptr at l3; rw [← HG.out] at l3; have H4' := Lib.hid H4; clear H4))
  have bw3 : Vol V w w3 := ((Vol.of_below ((HB.out.trans (b1.mono HB.out.size)).trans (b2.mono (Nat.le_trans HB.out.size b1.size)))).trans b3 (fun b e => .inl e))
  have hk1 : Blk w3 g 86 (fiC x) := by rw [HG.out]; exact H4'.out.fls j x HJ.out
  have hd1 := H4'.out.blk
  have ho1 : w3.ownsRow B 5 1 (.slice A1 L c1) L (bsV x.bs) := by have h := H4'.out.rows j x HJ.out; rw [HXV.out, ← HL.out] at h; exact h
  have hr1 : Reads w3 B' 1 A n (bsV bs) := reads_vol HR.out hB bw3 hA
  have x0 : w3.cell? ⟨g, 0, none⟩ = some (.slice A1 L c1) := by rw [← HXV.out]; exact hk1.cell 0
  have hgo : Hid (some g ≠ (Value.slice A1 L c1).ownBlock) := Lib.hid (fun e => own_blk_ne ho1 hk1 (by decide) e.symm)
  have hdo : Hid (some d ≠ (Value.slice A1 L c1).ownBlock) := Lib.hid (fun e => own_blk_ne ho1 hd1 (by decide) e.symm)
  have HK1 := Lib.hid hk1
  have HD1 := Lib.hid hd1
  have HR1 := Lib.hid hr1
  have HBW := Lib.hid bw3
  have HO1 := Lib.hid ho1
  have hBd : Hid (B ≤ w3.heap.size) := Lib.hid (Nat.le_trans (H4'.out.ge d H4'.out.vm.1) (Nat.le_of_lt hd1.lt))
  clear bw3 hk1 hd1 hr1 ho1 b1 b2 b3 HR HB HW hRf hRm hBu l3 c2
  go_upto_region 14 with (at_builtin; refine wpList_append_any _ rfl _ _ 28 rfl B 5 i0 (.int .u8 0) 1 1 Try.underlying28 hi hz0 hz1 hz2 rfl (by decide) (.slice A1 L c1) L (bsV x.bs) rfl HO1.out B' A n c (bsV bs) rfl HR1.out (bsV_one bs) (by simp only [maxLen]; omega) (by omega) hBd.out ?_; intro v2 d2 hown2 hg2 hn2; obtain ⟨A2, c2', rfl, -, -⟩ := own_slice hown2; have hk2 := HK1.out.grown hg2 hgo.out; have f2 : d2.frozen? ⟨g, 0, none⟩ = false := hk2.frozen 0; have c20 : d2.cell? ⟨g, 0, none⟩ = some (.slice A1 L c1) := (by rw [← HXV.out]; exact hk2.cell 0); have HK2 := Lib.hid hk2; have HO2 := Lib.hid hown2; have HG2 := Lib.hid hg2; have HN2 := Lib.hid hn2; clear hk2 hown2 hg2 hn2)
  obtain ⟨d3, hd3⟩ : ∃ d3, d3 = d2.setCell ⟨g, 0, none⟩ (.slice A2 (L + n) c2') := ⟨_, rfl⟩
  rw [← hd3]
  have hdg : d ≠ g := HD1.out.ne_ HK1.out (by decide)
  have hk3 := HK2.out.set_ 0 (.slice A2 (L + n) c2')
  have hd30 := (HD1.out.grown HG2.out hdo.out).far (fun e => hdg e) (p := ⟨g, 0, none⟩) (.slice A2 (L + n) c2')
  have ho3 := own_far (i := 0) (u := .slice A2 (L + n) c2') HO2.out HK2.out (by decide)
  have v3 : Vol (fun b => b = g ∨ x.v.ownBlock = some b) w3 d3 := by
    rw [hd3]
    exact Vol.setCell (V := fun b => b = g ∨ x.v.ownBlock = some b) (a := ⟨g, 0, none⟩) ((Vol.refl w3).grown HG2.out (fun k hk => .inl (.inr (by rw [HXV.out]; exact hk)))) (.inl (.inl rfl)) _
  rw [← hd3] at hk3 hd30 ho3
  have y1 : d3.cell? ⟨d, 1, none⟩ = some (.int .i64 s2.u) := hd30.cell 1
  have f3 : d3.frozen? ⟨d, 1, none⟩ = false := hd30.frozen 1
  have HK3 := Lib.hid hk3
  have HD3 := Lib.hid hd30
  have HO3 := Lib.hid ho3
  have HV3 := Lib.hid v3
  have HDG := Lib.hid hdg
  clear hk3 hd30 ho3 v3 hdg f2 c20 hd3 x0
  go_wp2_with fail
  go_ret
  rw [← hqu]
  obtain ⟨dF, hdF⟩ : ∃ dF, dF = d3.setCell ⟨d, 1, none⟩ (.int .i64 (s2.u + n)) := ⟨_, rfl⟩
  rw [← hdF]
  have vF : Vol (fun b => b = d) d3 dF := by rw [hdF]; exact Vol.setCell (V := fun b => b = d) (a := ⟨d, 1, none⟩) (Vol.refl d3) (.inl rfl) _
  have vF3 : Vol (fun b => b = d ∨ b = x.g ∨ x.v.ownBlock = some b) w3 dF := (HV3.out.mono (fun b e => .inr (e.imp (fun e => by rw [e, HG.out]) id))).trans vF (fun b e => .inl (.inl e))
  have hkF := HK3.out.far (fun e => HDG.out e.symm) (p := ⟨d, 1, none⟩) (.int .i64 (s2.u + n))
  have hdF' := HD3.out.set_ 1 (.int .i64 (s2.u + n))
  have hoF := own_far (i := 1) (u := .int .i64 (s2.u + n)) HO3.out HD3.out (by decide)
  rw [← hdF] at hkF hdF' hoF
  have hsw : w.heap.size ≤ w3.heap.size := HBW.out.size
  have hl : bs.length = n := by have := HR1.out.1; simpa using this
  refine ⟨rfl, _, .slice A2 (L + n) c2', H4'.out.turn (s' := { s2 with u := s2.u + n }) (x' := { x with v := .slice A2 (L + n) c2', bs := x.bs ++ bs }) HJ.out rfl rfl vF3 (by simpa using hdF') (by rw [← HG.out]; simpa using hkF) ?_ ?_, ?_, ?_⟩
  · show dF.ownsRow B 5 1 (.slice A2 (L + n) c2') (x.bs ++ bs).length (bsV (x.bs ++ bs))
    rw [List.length_append, hl, ← HL.out, ← bsV_app]
    exact hoF
  · intro b hb
    rcases HN2.out with h1 | h1
    · exact .inl (by rw [HXV.out, ← h1]; exact hb)
    · rw [hb] at h1
      injection h1 with h1
      exact .inr (by rw [h1]; exact Nat.le_refl _)
  · refine HBW.out.trans vF3 ?_
    rintro b (e | e | e)
    · exact .inl (by rw [e]; exact H4'.out.vm.1)
    · exact .inl (by rw [e]; exact (H4'.out.vx j x HJ.out).1)
    · exact .inl ((H4'.out.vx j x HJ.out).2 b e)
  · rintro b (e | ⟨e, _⟩)
    · exact .inl e
    · exact .inr (Nat.le_trans hsw e)
set_option maxHeartbeats 4000000 in
theorem Sync_yesF (H : DkP w B d mb V s F) {j : Nat} {x : Fi} (hj : F[j]? = some x) (hxp : x.p = p) (hp : p.toList.isEmpty = false) (hs : s.de = false) {s2 : Ds} (hbs : burnS s s2 0) :
    Calls Try.prog 25 #[.pointer (some ⟨d, 0, none⟩), .string p] w fun r w' => r = .returned (.int .i64 0) ∧ DkP w' B d mb V s2 (F.set j { x with sy := x.bs.length, fi := true }) ∧ Vol V w w' := by
  have hF := find_yes H hj hxp hp hs
  have HJ := Lib.hid hj
  have HH := Lib.hid H
  obtain ⟨A1, c1, hxv, -, -⟩ := own_slice (H.rows j x hj)
  have HX := Lib.hid hxv
  clear hj H hxv
  go_enter Try.func25, Try.ntmps25
  go_wp2_with (first | (go_at_call 63; refine hF.mono ?_; rintro r w1 ⟨rfl, b1⟩; have H2 := HH.out.below b1; have hBu := burn_all H2 hbs; have H2' := Lib.hid H2; clear H2) | (go_at_call 62; refine hBu.mono ?_; rintro r w3 ⟨rfl, H4, b3⟩; have hSe := settle_ (H4.fls j x HJ.out) A1 _ c1 HX.out; have H4' := Lib.hid H4; clear H4) | (go_at_call 65; refine hSe.mono ?_; rintro r w4 ⟨⟨u, rfl⟩, hb4, hv4⟩))
  go_ret
  have hvv : Vol (fun b => b = d ∨ b = x.g ∨ x.v.ownBlock = some b) w3 w4 := hv4.mono (fun b e => .inr (.inl e))
  have hT := H4'.out.turn (s' := s2) (x' := { x with sy := x.bs.length, fi := true }) HJ.out rfl rfl hvv (blk_vol H4'.out.blk hv4 (fun e => blk_ne (H4'.out.fls j x HJ.out) H4'.out.blk (by decide) e.symm)) hb4 (own_vol (H4'.out.rows j x HJ.out) hv4 (fun b hb e => own_blk_ne (H4'.out.rows j x HJ.out) (H4'.out.fls j x HJ.out) (by decide) (by rw [hb, e]))) (fun b e => .inl e)
  refine ⟨rfl, ?_, ?_⟩
  · refine hT.weaken ?_ (fun b e => Nat.lt_of_lt_of_le (H4'.out.lt b e) hv4.size) H4'.out.ge
    rintro b (e | ⟨e1, e2⟩)
    · exact e
    · exact ((H4'.out.vx j x HJ.out).2 b e2)
  · exact ((Vol.of_below b1).trans b3 (fun b e => .inl e)).trans hv4 (fun b e => .inl (by rw [e]; exact (H4'.out.vx j x HJ.out).1))
set_option maxHeartbeats 8000000 in
/-- Rename onto a name; j, the file's place behind 'remove'. -/
theorem Rename_F (H : DkP w B d mb V s F) {j : Nat} {x : Fi} (hj : F[j]? = some x) (hxp : x.p = p) (hp : p.toList.isEmpty = false) (hq : q.toList.isEmpty = false) (hpq : (p.toList == q.toList) = false) (hs : s.de = false) {s2 : Ds} (hbs : burnS s s2 0) {G : List Fi} {i t : Nat} (hi : G[i]? = some { x with sy := x.bs.length, fi := true })
    (hrm : ∀ wa, DkP wa B d mb V s2 (F.set j { x with sy := x.bs.length, fi := true }) → Calls Try.prog 66 #[.pointer (some ⟨d, 0, none⟩), .string q] wa fun r w' => (∃ u, r = .returned u) ∧ Gone wa w' B d mb V s2 (F.set j { x with sy := x.bs.length, fi := true }) G t q) :
    Calls Try.prog 19 #[.pointer (some ⟨d, 0, none⟩), .string p, .string q] w fun r w' => r = .returned (.int .i64 0) ∧ DkP w' B d mb V { s2 with u := s2.u - t } (G.eraseIdx i ++ [{ x with sy := x.bs.length, fi := true, p := q }]) ∧ Vol V w w' := by
  obtain ⟨W, hW⟩ : ∃ W, W = w.alloc (.cells #[.string p, .string q] 9) := ⟨_, rfl⟩
  have hbW : Below w.heap.size w W := by rw [hW]; exact (Below.refl _ _).alloc (Nat.le_refl _) _
  have hkW : Blk W w.heap.size 9 #[.string p, .string q] := by rw [hW]; exact Blk.new _ _ _
  have H1 := H.below hbW
  have hRf := refuse2 H1.blk hs hkW hp hq
  obtain ⟨A1, c1, hxv, -, -⟩ := own_slice (H.rows j x hj)
  obtain ⟨g, hg⟩ : ∃ g, g = x.g := ⟨_, rfl⟩
  have HW := Lib.hid hW
  have HJ := Lib.hid hj
  have HP := Lib.hid hxp
  have HI := Lib.hid hi
  have HX := Lib.hid hxv
  have HG := Lib.hid hg
  have HH := Lib.hid H1
  have HB := Lib.hid hbW
  clear hW hj H H1 hbW hkW hxp hi hxv hg
  go_enter Try.func19, Try.ntmps19
  go_wp2_with fail
  rw [← HW.out]
  refine hRf.mono ?_
  rintro r w1 ⟨rfl, b1⟩
  have H2 := HH.out.below b1
  have hF := find_yes H2 HJ.out HP.out hp hs
  rw [← HG.out] at hF
  have H2' := Lib.hid H2
  clear H2 hRf
  go_wp2_with fail
  refine hF.mono ?_
  rintro r w2 ⟨rfl, b2⟩
  have H3 := H2'.out.below b2
  have hBu := burn_all H3 hbs
  have H3' := Lib.hid H3
  clear H3 hF
  go_wp2_with fail
  refine hBu.mono ?_
  rintro r w3 ⟨rfl, H4, b3⟩
  have hSe := settle_ (H4.fls j x HJ.out) A1 _ c1 HX.out
  rw [← HG.out] at hSe
  have H4' := Lib.hid H4
  clear H4 hBu
  go_wp2_with fail
  refine hSe.mono ?_
  rintro r w4 ⟨⟨u4, rfl⟩, hb4, hv4⟩
  clear hSe
  have H5 : DkP w4 B d mb V s2 (F.set j { x with sy := x.bs.length, fi := true }) ∧ Vol V w3 w4 := H4'.out.settled HJ.out (by rw [← HG.out]; exact hb4) (by rw [← HG.out]; exact hv4)
  have hR := hrm w4 H5.1
  have V45 := Lib.hid H5.2
  clear H5 hb4 hv4 hrm
  go_wp2_with fail
  refine hR.mono ?_
  rintro r w5 ⟨⟨u5, rfl⟩, hG⟩
  have y2 : w5.cell? ⟨d, 2, none⟩ = some (.map (some mb)) := hG.dk.blk.cell 2
  obtain ⟨d2, e2, hm2, hg2⟩ := fdel_yes hG.dk HI.out 0
  have e2' : (Builtin.delete_ #[78, 9] 0 #[.map (some mb), .string p]).run Try.prog w5 = .ok (.tuple #[]) d2 := by rw [← HP.out]; exact e2
  have vol2 : Vol (fun b => b = mb) w5 d2 := (Vol.refl w5).grown hg2 (fun k hk => .inl (by injection hk with hk; exact hk.symm))
  have H7 := hG.dk.erase i (vol2.mono (fun b e => .inr e)) (blk_vol hG.dk.blk vol2 (fun e => blk_map_ne hG.dk.blk hG.dk.mp e)) hm2
  have y3 : d2.cell? ⟨d, 2, none⟩ = some (.map (some mb)) := H7.blk.cell 2
  obtain ⟨d3, e3, hm3, hg3⟩ := fput_no H7 (p := q) (fun k y hy => by
    obtain ⟨k', hk, _⟩ := fget_erase hy
    exact hG.no k' y hk) g
  have vol3 : Vol (fun b => b = mb) d2 d3 := (Vol.refl d2).grown hg3 (fun k hk => .inl (by injection hk with hk; exact hk.symm))
  have vol53 : Vol (fun b => b = d ∨ b = mb) w5 d3 := Vol.trans (V := fun b => b = d ∨ b = mb) (vol2.mono (fun b e => .inr e)) vol3 (fun b e => .inl (.inr e))
  have hM := hG.dk.move (q := q) (s' := { s2 with u := s2.u - t }) HI.out (fun k y hy _ => hG.no k y hy) vol53 (blk_vol H7.blk vol3 (fun e => blk_map_ne H7.blk H7.mp e)) (by
    rw [List.map_append]
    show MapB d3 mb ((G.eraseIdx i).map fiE ++ [(.string q, .pointer (some ⟨x.g, 0, none⟩))])
    rw [← HG.out]
    exact hm3)
  have HM := Lib.hid hM
  have HG' := Lib.hid hG
  have V53 := Lib.hid vol53
  clear hR hG e2 hm2 hg2 vol2 H7 hm3 hg3 vol3 vol53 hM
  go_wp2_with fail
  go_ret
  refine ⟨rfl, HM.out, ?_⟩
  have z1 : Vol V w w3 := ((Vol.of_below ((HB.out.trans (b1.mono HB.out.size)).trans (b2.mono (Nat.le_trans HB.out.size b1.size)))).trans b3 (fun b e => .inl e))
  refine ((z1.trans V45.out (fun b e => .inl e)).trans HG'.out.vol (fun b e => .inl e)).trans V53.out ?_
  rintro b (e | e)
  · exact .inl (by rw [e]; exact HG'.out.dk.vm.1)
  · exact .inl (by rw [e]; exact HG'.out.dk.vm.2)
set_option maxHeartbeats 8000000 in
theorem Append_dies (H : DkP w B d mb V s F) (hp : p.toList.isEmpty = false) (hs : s.de = false) {s2 : Ds} (hbs : burnS s s2 7) (hq : 0 ≤ s.q ∧ s.q ≤ 65536) (hu : 0 ≤ s.u ∧ s.u ≤ 65536) {n c : Nat} {A : Option Addr} (hn : (n : Int) ≤ s.q - s.u) :
    Calls Try.prog 16 #[.pointer (some ⟨d, 0, none⟩), .string p, .slice A n c] w fun r w' => r = .returned (.int .i64 7) ∧ DkP w' B d mb V s2 F ∧ Vol V w w' := by
  obtain ⟨W, hW⟩ : ∃ W, W = w.alloc (.cells #[.string p] 9) := ⟨_, rfl⟩
  have hbW : Below w.heap.size w W := by rw [hW]; exact (Below.refl _ _).alloc (Nat.le_refl _) _
  have hkW : Blk W w.heap.size 9 #[.string p] := by rw [hW]; exact Blk.new _ _ _
  have H1 := H.below hbW
  have hRf := refuse1 H1.blk hs hkW hp
  have k1 : decide (s.q - s.u < (n : Int)) = false := by simpa using hn
  have HW := Lib.hid hW
  have HH := Lib.hid H1
  have HB := Lib.hid hbW
  clear hW H H1 hbW hkW
  go_enter Try.func16, Try.ntmps16
  go_wp2_with fail
  rw [← HW.out]
  refine hRf.mono ?_
  rintro r w1 ⟨rfl, b1⟩
  have H2 := HH.out.below b1
  have hRm := Room_ H2.blk hq hu
  have H2' := Lib.hid H2
  clear hRf H2
  go_wp2_with fail
  refine hRm.mono ?_
  rintro r w2 ⟨rfl, b2⟩
  have hBu := burn_all (H2'.out.below b2) hbs
  clear hRm
  go_wp2_with fail
  refine hBu.mono ?_
  rintro r w3 ⟨rfl, H4, b3⟩
  clear hBu
  go_wp2_with fail
  go_ret
  exact ⟨rfl, H4, (Vol.of_below ((HB.out.trans (b1.mono HB.out.size)).trans (b2.mono (Nat.le_trans HB.out.size b1.size)))).trans b3 (fun b e => .inl e)⟩
set_option maxHeartbeats 8000000 in
theorem Sync_dies (H : DkP w B d mb V s F) {j : Nat} {x : Fi} (hj : F[j]? = some x) (hxp : x.p = p) (hp : p.toList.isEmpty = false) (hs : s.de = false) {s2 : Ds} (hbs : burnS s s2 7) :
    Calls Try.prog 25 #[.pointer (some ⟨d, 0, none⟩), .string p] w fun r w' => r = .returned (.int .i64 7) ∧ DkP w' B d mb V s2 F ∧ Vol V w w' := by
  have hF := find_yes H hj hxp hp hs
  have HH := Lib.hid H
  clear hj H
  go_enter Try.func25, Try.ntmps25
  go_wp2_with fail
  refine hF.mono ?_
  rintro r w1 ⟨rfl, b1⟩
  have hBu := burn_all (HH.out.below b1) hbs
  clear hF
  go_wp2_with fail
  refine hBu.mono ?_
  rintro r w3 ⟨rfl, H4, b3⟩
  clear hBu
  go_wp2_with fail
  go_ret
  exact ⟨rfl, H4, (Vol.of_below b1).trans b3 (fun b e => .inl e)⟩
set_option maxHeartbeats 8000000 in
theorem Rename_dies {q : ByteArray} (H : DkP w B d mb V s F) {j : Nat} {x : Fi} (hj : F[j]? = some x) (hxp : x.p = p) (hp : p.toList.isEmpty = false) (hq : q.toList.isEmpty = false) (hs : s.de = false) {s2 : Ds} (hbs : burnS s s2 7) :
    Calls Try.prog 19 #[.pointer (some ⟨d, 0, none⟩), .string p, .string q] w fun r w' => r = .returned (.int .i64 7) ∧ DkP w' B d mb V s2 F ∧ Vol V w w' := by
  obtain ⟨W, hW⟩ : ∃ W, W = w.alloc (.cells #[.string p, .string q] 9) := ⟨_, rfl⟩
  have hbW : Below w.heap.size w W := by rw [hW]; exact (Below.refl _ _).alloc (Nat.le_refl _) _
  have hkW : Blk W w.heap.size 9 #[.string p, .string q] := by rw [hW]; exact Blk.new _ _ _
  have H1 := H.below hbW
  have hRf := refuse2 H1.blk hs hkW hp hq
  have HW := Lib.hid hW
  have HJ := Lib.hid hj
  have HH := Lib.hid H1
  have HB := Lib.hid hbW
  clear hW hj H H1 hbW hkW
  go_enter Try.func19, Try.ntmps19
  go_wp2_with fail
  rw [← HW.out]
  refine hRf.mono ?_
  rintro r w1 ⟨rfl, b1⟩
  have H2 := HH.out.below b1
  have hF := find_yes H2 HJ.out hxp hp hs
  have H2' := Lib.hid H2
  clear H2 hRf
  go_wp2_with fail
  refine hF.mono ?_
  rintro r w2 ⟨rfl, b2⟩
  have hBu := burn_all (H2'.out.below b2) hbs
  clear hF
  go_wp2_with fail
  refine hBu.mono ?_
  rintro r w3 ⟨rfl, H4, b3⟩
  clear hBu
  go_wp2_with fail
  go_ret
  exact ⟨rfl, H4, (Vol.of_below ((HB.out.trans (b1.mono HB.out.size)).trans (b2.mono (Nat.le_trans HB.out.size b1.size)))).trans b3 (fun b e => .inl e)⟩
end
end Go.Proofs.Ytplmfmcogbdpjaa.Dk
namespace Go.Proofs.Ytplmfmcogbdpjaa.Dk
open Go Go.RowKit Go.Proofs.Ytplmfmcogbdpjaa Go.Proofs.Ytplmfmcogbdpjaa.Crw Go.Proofs.Ytplmfmcogbdpjaa.Vl Go.ChangeShapes Go.WideShapes Go.ChangeAt
set_option linter.unusedVariables false
set_option maxRecDepth 100000
/-- A record's bytes. -/
def packL (x : List Int) : List Int := (x.length : Int) :: (x ++ [165])
def catL (X : List (List Int)) : List Int := (X.map packL).flatten
/-- No record stands at the beginning. -/
def badL (r : List Int) : Prop := ∀ x t, x.length ≤ 200 → r ≠ packL x ++ t
theorem packL_len (x : List Int) : (packL x).length = x.length + 2 := by simp [packL]
theorem catL_nil : catL [] = [] := rfl
theorem catL_cons (x : List Int) (X : List (List Int)) : catL (x :: X) = packL x ++ catL X := by simp [catL]
theorem catL_snoc (X : List (List Int)) (x : List Int) : catL (X ++ [x]) = catL X ++ packL x := by simp [catL]
theorem catL_app (X Y : List (List Int)) : catL (X ++ Y) = catL X ++ catL Y := by simp [catL]
theorem pack_pre {x y s t : List Int} (h : packL x ++ s = packL y ++ t) : x = y ∧ s = t := by
  unfold packL at h
  simp only [List.cons_append, List.cons.injEq, List.append_assoc] at h
  obtain ⟨h1, h2⟩ := h
  have hl : x.length = y.length := by omega
  obtain ⟨h3, h4⟩ := List.append_inj h2 hl
  simp at h4
  exact ⟨h3, h4⟩
theorem badL_nil : badL [] := by
  intro x t _ h
  simp [packL] at h
theorem scan_uniq : ∀ {X Y : List (List Int)} {s t : List Int}, (∀ x ∈ X, x.length ≤ 200) → (∀ y ∈ Y, y.length ≤ 200) → badL s → badL t → catL X ++ s = catL Y ++ t → X = Y ∧ s = t
  | [], [], s, t, _, _, _, _, h => ⟨rfl, by simpa [catL] using h⟩
  | [], y :: Y, s, t, _, hY, hs, _, h => by
    rw [catL_nil, catL_cons, List.nil_append, List.append_assoc] at h
    exact absurd h (hs _ _ (hY y (by simp)))
  | x :: X, [], s, t, hX, _, _, ht, h => by
    rw [catL_nil, catL_cons, List.nil_append, List.append_assoc] at h
    exact absurd h.symm (ht _ _ (hX x (by simp)))
  | x :: X, y :: Y, s, t, hX, hY, hs, ht, h => by
    rw [catL_cons, catL_cons, List.append_assoc, List.append_assoc] at h
    obtain ⟨rfl, h2⟩ := pack_pre h
    obtain ⟨rfl, h3⟩ := scan_uniq (fun x hx => hX x (by simp [hx])) (fun y hy => hY y (by simp [hy])) hs ht h2
    exact ⟨rfl, h3⟩
/-- A record that is cut off is none. -/
theorem bad_cut {y s t : List Int} (h : s ++ t = packL y) (ht : t ≠ []) : badL s := by
  intro x u hx hs
  subst hs
  rw [List.append_assoc] at h
  have h2 := pack_pre (x := x) (y := y) (s := u ++ t) (t := []) (by rw [List.append_nil]; exact h)
  have := h2.2
  simp at this
  exact ht this.2
/-- What tells that no record stands at the beginning. -/
theorem bad_of {n : Int} {r : List Int} (h : 200 < n ∨ (r.length : Int) + 1 < n + 2 ∨ ∃ k : Nat, (k : Int) = n ∧ ∃ e, r[k]? = some e ∧ e ≠ 165) : badL (n :: r) := by
  intro x t hx hs
  unfold packL at hs
  simp only [List.cons_append, List.cons.injEq, List.append_assoc] at hs
  obtain ⟨h1, h2⟩ := hs
  have hl : r.length = x.length + 1 + t.length := by rw [h2]; simp; omega
  rcases h with h | h | ⟨k, hk, e, he, hne⟩
  · omega
  · omega
  · have : k = x.length := by omega
    subst this
    rw [h2] at he
    simp at he
    exact hne he.symm
theorem good_of {n : Nat} {r : List Int} (h1 : n + 1 ≤ r.length) (h2 : r[n]? = some 165) : (n : Int) :: r = packL (r.take n) ++ r.drop (n + 1) := by
  have hl : (r.take n).length = n := by rw [List.length_take]; omega
  have hx : r = r.take n ++ (165 :: r.drop (n + 1)) := by
    conv => lhs; rw [← List.take_append_drop n r]
    congr 1
    have hn : n < r.length := by omega
    rw [List.drop_eq_getElem_cons hn]
    rw [List.getElem?_eq_getElem hn] at h2
    injection h2 with h2
    rw [h2]
  unfold packL
  rw [hl]
  simp only [List.cons_append, List.append_assoc, List.cons.injEq, true_and]
  exact hx
section
variable {w w' : World} {B d mb : Nat} {U V : Nat → Prop}
/-- Rows of bytes in memory, at lo or behind. -/
def RwP (w : World) (lo : Nat) (v : Value) (X : List (List Int)) : Prop :=
  ∃ vs, w.ownsRow lo 28 1 v X.length vs ∧ ∀ (i : Nat) (x : List Int), X[i]? = some x → ∃ vi, vs[i]? = some vi ∧ w.ownsRow lo 5 1 vi x.length (bsV x)
theorem RwP.keep {lo : Nat} {v : Value} {X : List (List Int)} (h : RwP w lo v X) (hb : Below w.heap.size w w') : RwP w' lo v X := by
  obtain ⟨vs, h1, h2⟩ := h
  exact ⟨vs, own_keep h1 hb, fun i x hx => by obtain ⟨vi, h3, h4⟩ := h2 i x hx; exact ⟨vi, h3, own_keep h4 hb⟩⟩
theorem RwP.vol {lo : Nat} {v : Value} {X : List (List Int)} (h : RwP w lo v X) (hv : Vol U w w') (hU : ∀ b, lo ≤ b → ¬ U b) : RwP w' lo v X := by
  obtain ⟨vs, h1, h2⟩ := h
  exact ⟨vs, own_vol h1 hv (fun b hb => hU b (h1.lt b hb).1), fun i x hx => by obtain ⟨vi, h3, h4⟩ := h2 i x hx; exact ⟨vi, h3, own_vol h4 hv (fun b hb => hU b (h4.lt b hb).1)⟩⟩
theorem RwP.nil (lo : Nat) : RwP w lo (.slice none 0 0) [] := ⟨[], ⟨by simp, .inl ⟨rfl, rfl⟩⟩, fun i x hx => by simp at hx⟩
theorem RwP.shape {lo : Nat} {v : Value} {X : List (List Int)} (h : RwP w lo v X) : ∃ A c, v = .slice A X.length c ∧ X.length ≤ c ∧ c ≤ maxLen := by
  obtain ⟨vs, h1, -⟩ := h
  exact own_slice h1
/-- Rows of bytes that are only read. -/
def RdP (w : World) (B : Nat) (v : Value) (X : List (List Int)) : Prop :=
  ∃ A c vs, v = .slice A X.length c ∧ Reads w B 1 A X.length vs ∧ ∀ (i : Nat) (x : List Int), X[i]? = some x → ∃ Ai ci, vs[i]? = some (.slice Ai x.length ci) ∧ Reads w B 1 Ai x.length (bsV x)
theorem RwP.rd {lo : Nat} {v : Value} {X : List (List Int)} (h : RwP w lo v X) : RdP w w.heap.size v X := by
  obtain ⟨vs, h1, h2⟩ := h
  obtain ⟨A, c, rfl, -, -⟩ := own_slice h1
  refine ⟨A, c, vs, rfl, own_reads h1, fun i x hx => ?_⟩
  obtain ⟨vi, h3, h4⟩ := h2 i x hx
  obtain ⟨Ai, ci, rfl, -, -⟩ := own_slice h4
  exact ⟨Ai, ci, h3, own_reads h4⟩
theorem reads_belR {w1 w2 : World} {z n B : Nat} {A : Option Addr} {xs : List Value} (h : Reads w1 B z A n xs) (hB : B ≤ w1.heap.size) (hb : Below w1.heap.size w1 w2) : Reads w2 B z A n xs := reads_vol (U := fun _ => False) h hB (Vol.of_below hb) (fun _ _ h => h)
theorem RdP.keep {v : Value} {X : List (List Int)} (h : RdP w B v X) (hB : B ≤ w.heap.size) (hb : Below w.heap.size w w') : RdP w' B v X := by
  obtain ⟨A, c, vs, rfl, h1, h2⟩ := h
  exact ⟨A, c, vs, rfl, reads_belR h1 hB hb, fun i x hx => by obtain ⟨Ai, ci, h3, h4⟩ := h2 i x hx; exact ⟨Ai, ci, h3, reads_belR h4 hB hb⟩⟩
set_option maxHeartbeats 4000000 in
/-- A clone of bytes that are read. -/
theorem CloneR {B' n c : Nat} {ad : Addr} {xs : List Int} (hr : Reads w B' 1 (some ad) n (bsV xs)) (hB : B' ≤ w.heap.size) (hn : n ≤ 1048576) :
    Calls Try.prog 69 #[.slice (some ad) n c] w fun e w' => ∃ v', e = .returned v' ∧ w'.ownsRow w.heap.size 5 1 v' n (bsV xs) ∧ Below w.heap.size w w' := by
  obtain ⟨i0, hi, hz0, hz1, hz2⟩ := info_parts byte_infoD
  have heq : ∀ w1, (binOp .eql 28 (.slice (some ad) n c) (.slice none 0 0)).run Try.prog w1 = .ok (.bool false) w1 := fun w1 => Lib.run_eql_slice_nil w1 28 5 (some ad) n c 0 0 Try.underlying28
  have hR := Lib.hid hr
  clear hr
  go_enter Try.func69, Try.ntmps69
  go_wp2_with (at_builtin; refine wpList_append_any _ rfl _ _ 28 rfl w.heap.size 5 i0 (.int .u8 0) 1 1 Try.underlying28 hi hz0 hz1 hz2 rfl (by decide) (.slice (some ⟨w.heap.size, 0, none⟩) 0 0) 0 [] rfl ⟨by simp, .inr ⟨w.heap.size, 0, #[], rfl, Nat.le_refl _, heap_alloc_new w _, Nat.le_refl _, by decide, rfl, rfl⟩⟩ B' (some ad) n c (bsV xs) rfl (reads_belR hR.out hB ((Below.refl _ _).alloc (Nat.le_refl _) _)) (bsV_one xs) (by simp only [maxLen]; omega) (by omega) (by simp) ?_; intro v2 w2 hown2 hg2 _hne; clear _hne; rw [Nat.zero_add, List.nil_append] at hown2)
  go_ret
  exact ⟨v2, rfl, hown2, ((Below.refl w.heap.size w).alloc (Nat.le_refl _) _).grown hg2 (by simp) (fun k hk => by injection hk with hk; subst hk; exact Nat.le_refl _)⟩
end
end Go.Proofs.Ytplmfmcogbdpjaa.Dk
namespace Go.Proofs.Ytplmfmcogbdpjaa.Dk
open Go Go.RowKit Go.Proofs.Ytplmfmcogbdpjaa Go.Proofs.Ytplmfmcogbdpjaa.Crw Go.Proofs.Ytplmfmcogbdpjaa.Vl Go.ChangeShapes Go.WideShapes Go.ChangeAt
set_option linter.unusedVariables false
set_option maxRecDepth 100000
section
variable {w w' : World} {B d mb : Nat} {U V : Nat → Prop}
theorem u8_small (n : Nat) (h : n ≤ 255) : IntKind.u8.wrap (n : Int) = (n : Int) := by rw [IntKind.wrap_u8]; omega
set_option maxHeartbeats 4000000 in
theorem Pack_yes {B' n c : Nat} {A : Option Addr} {xs : List Int} (hr : Reads w B' 1 A n (bsV xs)) (hB : B' ≤ w.heap.size) (hn : n ≤ 200) :
    Calls Try.prog 31 #[.slice A n c] w fun e w' => ∃ v', e = .returned v' ∧ w'.ownsRow w.heap.size 5 1 v' (packL xs).length (bsV (packL xs)) ∧ Below w.heap.size w w' := by
  obtain ⟨i0, hi, hz0, hz1, hz2⟩ := info_parts byte_infoD
  have hlen : xs.length = n := by have := hr.1; simpa [bsV] using this
  have hwr := u8_small n (by omega)
  have hle : ¬ 200 < (n : Int) := by omega
  have hpl : (packL xs).length = 1 + n + 1 := by rw [packL_len]; omega
  have hpb : bsV (packL xs) = [Value.int .u8 (n : Int)] ++ bsV xs ++ [Value.int .u8 165] := by simp [packL, bsV, hlen]
  have HP := Lib.hid hpb
  rw [hpl]
  clear hpb hpl
  have hR := Lib.hid hr
  clear hr
  go_enter Try.func31, Try.ntmps31
  go_wp2_with (first | (at_builtin; refine wpList_append_any _ rfl _ _ 28 rfl w.heap.size 5 i0 (.int .u8 0) 1 1 Try.underlying28 hi hz0 hz1 hz2 rfl (by decide) v2 (1 + n) ([.int .u8 (n : Int)] ++ bsV xs) rfl (H2.out.alloc (.cells #[.int .u8 165] 5)) (w2.alloc (.cells #[.int .u8 165] 5)).heap.size (some ⟨w2.heap.size, 0, none⟩) 1 1 [.int .u8 165] rfl (reads_one w2 (.int .u8 165) 5) (by simp [Value.oneCell']) (by simp only [maxLen]; omega) (by omega) (by have := HG2.out.size; simp at this ⊢; omega) ?_; intro v3 w3 hown3 hg3 _hne; clear _hne) | (at_builtin; refine wpList_append_any _ rfl _ _ 28 rfl w.heap.size 5 i0 (.int .u8 0) 1 1 Try.underlying28 hi hz0 hz1 hz2 rfl (by decide) (.slice (some ⟨w.heap.size, 0, none⟩) 1 1) 1 [.int .u8 (n : Int)] rfl ⟨by simp, .inr ⟨w.heap.size, 1, #[.int .u8 (n : Int)], rfl, Nat.le_refl _, heap_alloc_new w _, Nat.le_refl _, by decide, rfl, rfl⟩⟩ B' A n c (bsV xs) rfl (reads_belR hR.out hB ((Below.refl _ _).alloc (Nat.le_refl _) _)) (bsV_one xs) (by simp only [maxLen]; omega) (by omega) (by simp) ?_; intro v2 w2 hown2 hg2 _hne; clear _hne; have H2 := Lib.hid hown2; clear hown2; have HG2 := Lib.hid hg2; clear hg2))
  go_ret
  have hs2 := HG2.out.size
  simp at hs2
  refine ⟨v3, rfl, by rw [HP.out]; exact hown3, ?_⟩
  have hb2 : Below w.heap.size w w2 := ((Below.refl w.heap.size w).alloc (Nat.le_refl _) _).grown HG2.out (by simp) (fun k hk => by injection hk with hk; subst hk; exact Nat.le_refl _)
  refine (hb2.alloc hb2.size _).grown hg3 (by simp; omega) (fun k hk => ?_)
  have := (H2.out.lt k hk).1
  omega
end
end Go.Proofs.Ytplmfmcogbdpjaa.Dk
namespace Go.Proofs.Ytplmfmcogbdpjaa.Dk
open Go Go.RowKit Go.Proofs.Ytplmfmcogbdpjaa Go.Proofs.Ytplmfmcogbdpjaa.Crw Go.Proofs.Ytplmfmcogbdpjaa.Vl Go.ChangeShapes Go.WideShapes Go.ChangeAt
set_option linter.unusedVariables false
set_option maxRecDepth 100000
theorem jumpM_retS {R : Nat → Option Code} {J : Nat → Act → World → Prop} {Q : Exit → Act → World → Prop} {a : Act} {w : World} : jumpM R J Q .ret a w = Q .ret a w := rfl
theorem S0 {P Q : Prop} (h : P) : (if (0 : Nat) = 0 then P else Q) := by rw [if_pos rfl]; exact h
theorem S1 {P Q : Prop} (h : Q) : (if (1 : Nat) = 0 then P else Q) := by rw [if_neg (by decide)]; exact h
theorem ltS10 {a b : Nat} : (if (1 : Nat) = 0 then a else 0) < (if (0 : Nat) = 0 then b + 1 else 0) := by rw [if_neg (by decide), if_pos rfl]; exact Nat.succ_pos _
theorem ltS00 {a b : Nat} (h : a < b) : (if (0 : Nat) = 0 then a else 0) < (if (0 : Nat) = 0 then b else 0) := by rw [if_pos rfl, if_pos rfl]; exact h
def ScInv (w : World) (A : Option Addr) (n c : Nat) (l : List Int) (R : List Int → Prop) (a' : Act) (w' : World) : Prop :=
  ∃ (v : Value) (X : List (List Int)) (p : Nat) (u1 u4 u5 u6 u7 u8 u9 u10 u11 u12 u13 u14 u15 u16 u17 u18 u19 u20 u21 u22 u23 u24 u25 u26 u27 u28 u29 u30 u31 u32 u33 u34 u35 u36 u37 u38 u39 u40 u41 u42 u43 u44 u45 u46 : Value), a' = { tmps := #[.slice A n c, u1, v, .int .i64 (p : Nat), u4, u5, u6, u7, u8, u9, u10, u11, u12, u13, u14, u15, u16, u17, u18, u19, u20, u21, u22, u23, u24, u25, u26, u27, u28, u29, u30, u31, u32, u33, u34, u35, u36, u37, u38, u39, u40, u41, u42, u43, u44, u45, u46], defers := [] } ∧ Hid (Below w.heap.size w w') ∧ Hid (RwP w' w.heap.size v X) ∧ Hid (p = (catL X).length) ∧ p ≤ n ∧ Hid (l = catL X ++ l.drop p) ∧ Hid (∀ x ∈ X, x.length ≤ 200) ∧ Hid (X.length ≤ p) ∧ Hid (R (l.drop p))
theorem addr_cell {w : World} {ad : Addr} {i : Nat} {v : Value} (h : w.cell? (ad.add i) = some v) (hi : i ≠ 0) : w.cell? ⟨ad.block, ad.off + i, none⟩ = some v := by
  unfold Addr.add at h
  split at h
  · omega
  · exact h
theorem row_infoD : (Try.prog.info? 28).map (fun i => (i.zero, i.size, i.bytes)) = some (some (.slice none 0 0), 1, 24) := by kernel_rfl
theorem own_apart {w : World} {B B' n n' : Nat} {e e' : TypeId} {v v' : Value} {xs ys : List Value} (h : w.ownsRow B e 1 v n xs) (h' : w.ownsRow B' e' 1 v' n' ys) (he : e ≠ e') : ∀ b, v'.ownBlock = some b → ¬ v.ownBlock = some b := by
  intro b hb hv
  rcases h.2 with ⟨rfl, -⟩ | ⟨g, cap, cur, rfl, -, h1, -⟩
  · cases hv
  · rcases h'.2 with ⟨rfl, -⟩ | ⟨g', cap', cur', rfl, -, h1', -⟩
    · cases hb
    · injection hv with hv
      injection hb with hb
      simp only at hv hb
      subst hv
      subst hb
      rw [h1] at h1'
      injection h1' with h1'
      injection h1' with _ h2
      exact he h2
theorem own_lo {w : World} {B B' n : Nat} {e : TypeId} {v : Value} {xs : List Value} (h : w.ownsRow B e 1 v n xs) (hB : B' ≤ B) : w.ownsRow B' e 1 v n xs :=
  ⟨h.1, h.2.elim .inl fun ⟨g, cap, cur, h1, h2, h3⟩ => .inr ⟨g, cap, cur, h1, Nat.le_trans hB h2, h3⟩⟩
section
variable {w w' : World} {B d mb : Nat} {U V : Nat → Prop}
set_option maxHeartbeats 4000000 in
theorem Scan_ {B' n c : Nat} {A : Option Addr} {l : List Int} (hr : Reads w B' 1 A n (bsV l)) (hB : B' ≤ w.heap.size) (hn : n ≤ 65536) (hnc : n ≤ c) (hcm : (c : Int) ≤ 9223372036854775807) (hb : ∀ x ∈ l, 0 ≤ x ∧ x ≤ 255) :
    Calls Try.prog 32 #[.slice A n c] w fun e w' => ∃ v X t, e = .returned (.tuple #[v, .int .i64 ((catL X).length : Nat)]) ∧ l = catL X ++ t ∧ badL t ∧ (∀ x ∈ X, x.length ≤ 200) ∧ RwP w' w.heap.size v X ∧ Below w.heap.size w w' := by
  obtain ⟨i0, hi, hz0, hz1, hz2⟩ := info_parts row_infoD
  have hlen : l.length = n := by have := hr.1; simpa [bsV] using this
  have hR := Lib.hid hr
  have hBd := Lib.hid hb
  clear hr hb
  go_enter Try.func32, Try.ntmps32
  go_wp2
  refine wp_scope_falls (fun l => l == 0 || l == 1) (fun lb a' w' => if lb = 0 then ScInv w A n c l (fun _ => True) a' w' else ScInv w A n c l badL a' w') (fun lb a' w' => if lb = 0 then n + 1 - (intOf (a'.tmps.getD 3 undef)).toNat + 1 else 0) (fun lb rest hl h => ?_) ?_ ?_
  · by_cases h1 : lb = 1
    · subst h1
      exact ⟨_, (Option.some.inj h).symm⟩
    · have h0 : lb = 0 := by simp at hl; omega
      subst h0
      exact ⟨_, (Option.some.inj h).symm⟩
  · intro hp
    go_wp2
    go_step3
    apply_assumption
    exact hp 0 _ _ _ rfl rfl (S0 ⟨_, [], 0, _, _, _, _, _, _, _, _, _, _, _, _, _, _, _, _, _, _, _, _, _, _, _, _, _, _, _, _, _, _, _, _, _, _, _, _, _, _, _, _, _, _, _, _, rfl, Lib.hid (Below.refl _ _), Lib.hid (RwP.nil _), Lib.hid rfl, Nat.zero_le _, Lib.hid (by simp [catL]), Lib.hid (fun x hx => by simp at hx), Lib.hid (Nat.le_refl _), Lib.hid trivial⟩)
  · intro lb rest a' w' hl hR2 hJ
    by_cases h0l : lb = 0
    · subst h0l
      rw [if_pos rfl] at hJ
      obtain ⟨v, X, p, u1, u4, u5, u6, u7, u8, u9, u10, u11, u12, u13, u14, u15, u16, u17, u18, u19, u20, u21, u22, u23, u24, u25, u26, u27, u28, u29, u30, u31, u32, u33, u34, u35, u36, u37, u38, u39, u40, u41, u42, u43, u44, u45, u46, rfl, HBe, HRw, Hp, hpn, Hl, HX, HXp, -⟩ := hJ
      simp [findLabel] at hR2
      subst hR2
      have hrw := reads_belR hR.out hB HBe.out
      have hcp : p ≤ c := by omega
      by_cases hpe : p = n
      · have hq : ((n - p : Nat) : Int) = 0 := by omega
        have hq2 : ((n : Int) - (p : Int)) = 0 := by omega
        have hbad : Hid (badL (l.drop p)) := Lib.hid (by rw [List.drop_of_length_le (by omega)]; exact badL_nil)
        by_cases hcn : c = n
        · subst hcn
          go_wp2
          go_step3
          exact ⟨⟨_, rfl⟩, S1 ⟨_, X, c, _, _, _, _, _, _, _, _, _, _, _, _, _, _, _, _, _, _, _, _, _, _, _, _, _, _, _, _, _, _, _, _, _, _, _, _, _, _, _, _, _, _, _, _, rfl, HBe, HRw, Lib.hid (by have := Hp.out; omega), Nat.le_refl _, Lib.hid (by rw [← hpe]; exact Hl.out), HX, Lib.hid (by have := HXp.out; omega), Lib.hid (by rw [← hpe]; exact hbad.out)⟩, ltS10⟩
        · go_wp2
          go_step3
          exact ⟨⟨_, rfl⟩, S1 ⟨_, X, n, _, _, _, _, _, _, _, _, _, _, _, _, _, _, _, _, _, _, _, _, _, _, _, _, _, _, _, _, _, _, _, _, _, _, _, _, _, _, _, _, _, _, _, _, rfl, HBe, HRw, Lib.hid (by have := Hp.out; omega), Nat.le_refl _, Lib.hid (by rw [← hpe]; exact Hl.out), HX, Lib.hid (by have := HXp.out; omega), Lib.hid (by rw [← hpe]; exact hbad.out)⟩, ltS10⟩
      · have hlt : p < n := by omega
        have hne : ¬ c = p := by omega
        obtain ⟨ad, u, rfl, hadb, hx, hc0⟩ := hrw.at_ hlt
        have hr1 : Reads w' B' 1 (some (ad.add p)) (n - p) (bsV (l.drop p)) := by
          have h := hrw.cut hpn hnc
          rw [if_neg hne] at h
          simpa [bsV, List.map_drop] using h
        obtain ⟨k, hk, hk1⟩ : ∃ k : Nat, l[p]? = some (k : Int) ∧ k ≤ 255 := by
          rw [List.getElem?_eq_getElem (by omega)]
          have := hBd.out _ (List.getElem_mem (show p < l.length by omega))
          exact ⟨(l[p]'(by omega)).toNat, by congr 1; omega, by omega⟩
        have hu : u = .int .u8 (k : Int) := by
          simp only [bsV, List.getElem?_map, hk, Option.map_some, Option.some.injEq] at hx
          exact hx.symm
        subst hu
        have hd : l.drop p = (k : Int) :: l.drop (p + 1) := by
          rw [List.drop_eq_getElem_cons (by omega)]
          rw [List.getElem?_eq_getElem (by omega)] at hk
          injection hk with hk
          rw [hk]
        have Hd := Lib.hid hd
        have hld : (l.drop (p + 1)).length = n - p - 1 := by rw [List.length_drop]; omega
        clear hd hx hk
        have HR1 := Lib.hid hr1
        clear hr1 hrw
        have hz : ((n - p : Nat) : Int) ≠ 0 := by omega
        have hzz : ((n : Int) - (p : Int)) ≠ 0 := by omega
        by_cases hbig : 200 < (k : Int)
        · go_wp2
          go_step3
          exact ⟨⟨_, rfl⟩, S1 ⟨_, X, p, _, _, _, _, _, _, _, _, _, _, _, _, _, _, _, _, _, _, _, _, _, _, _, _, _, _, _, _, _, _, _, _, _, _, _, _, _, _, _, _, _, _, _, _, rfl, HBe, HRw, Hp, hpn, Hl, HX, HXp, Lib.hid (by rw [Hd.out]; exact bad_of (.inl hbig))⟩, ltS10⟩
        · by_cases hsh : ((n - p : Nat) : Int) < (k : Int) + 2
          · go_wp2
            go_step3
            exact ⟨⟨_, rfl⟩, S1 ⟨_, X, p, _, _, _, _, _, _, _, _, _, _, _, _, _, _, _, _, _, _, _, _, _, _, _, _, _, _, _, _, _, _, _, _, _, _, _, _, _, _, _, _, _, _, _, _, rfl, HBe, HRw, Hp, hpn, Hl, HX, HXp, Lib.hid (by rw [Hd.out]; exact bad_of (.inr (.inl (by omega))))⟩, ltS10⟩
          · obtain ⟨e, he⟩ : ∃ e : Int, (l.drop (p + 1))[k]? = some e := ⟨_, List.getElem?_eq_getElem (by omega)⟩
            have c1 : w'.cell? ((ad.add p).add (k + 1)) = some (.int .u8 e) := by
              obtain ⟨ad2, u2, e2, -, e3, e4⟩ := HR1.out.at_ (k := k + 1) (by omega)
              injection e2 with e2
              subst e2
              rw [e4, ← e3, Hd.out]
              show (List.map (Value.int .u8) ((k : Int) :: l.drop (p + 1)))[k + 1]? = _
              rw [List.map_cons, List.getElem?_cons_succ, List.getElem?_map, he]
              rfl
            have c1 := addr_cell c1 (by omega)
            have hb1 : (k : Int) + 1 < ((n - p : Nat) : Int) := by omega
            have HE := Lib.hid he
            clear he
            by_cases he5 : e = 165
            · subst he5
              have hk2 : k + 2 ≤ n - p := by omega
              obtain ⟨x, hxe⟩ : ∃ x, x = (l.drop (p + 1)).take k := ⟨_, rfl⟩
              have hxl : x.length = k := by rw [hxe, List.length_take]; omega
              have hr2 : Reads w' B' 1 (some ⟨(ad.add p).block, (ad.add p).off + 1, none⟩) k (bsV x) := by
                have h := HR1.out.cut (k := 1) (by omega) (show n - p ≤ c - p by omega)
                rw [if_neg (by omega)] at h
                have h := reads_take h (m := k) (by omega)
                rw [Hd.out] at h
                have e1 : (Option.map (fun y : Addr => y.add 1) (some (ad.add p))) = some ⟨(ad.add p).block, (ad.add p).off + 1, none⟩ := rfl
                rw [e1] at h
                rw [hxe, bsV, List.map_take]
                exact h
              have hCl := CloneR (c := c - p - 1) hr2 (Nat.le_trans hB HBe.out.size) (by omega)
              have HXL := Lib.hid hxl
              have hgd : Hid (l.drop p = packL x ++ l.drop (p + (k + 2))) := Lib.hid (by
                rw [Hd.out, hxe, good_of (n := k) (by omega) HE.out, List.drop_drop]
                congr 2
                omega)
              clear hxe hr2 hxl
              have Hcl := Lib.hid hCl
              clear hCl
              obtain ⟨vs, hvs, hel⟩ := HRw.out
              have HVS := Lib.hid hvs
              have HEL := Lib.hid hel
              obtain ⟨Av, cv, rfl, -, -⟩ := own_slice hvs
              clear hvs hel
              have hXp : X.length ≤ 65536 := by have := HXp.out; omega
              go_wp2_with (first | (go_at_call 69; refine Hcl.out.mono ?_; rintro r w1 ⟨v1, rfl, ho1, hb1⟩; have HO1 := Lib.hid ho1; have HB1 := Lib.hid hb1; obtain ⟨A1, c1, rfl, -, -⟩ := own_slice ho1; clear ho1 hb1) | (at_builtin; refine wpList_append_any _ rfl _ _ 44 rfl w.heap.size 28 i0 (.slice none 0 0) 1 24 Try.underlying44 hi hz0 hz1 hz2 rfl (by decide) (.slice Av X.length cv) X.length vs rfl ((own_keep HVS.out HB1.out).alloc _) (w1.alloc (.cells #[.slice A1 k c1] 28)).heap.size (some ⟨w1.heap.size, 0, none⟩) 1 1 [.slice A1 k c1] rfl (reads_one w1 (.slice A1 k c1) 28) (by simp [Value.oneCell']) (by simp only [maxLen]; omega) (by omega) (by have h1 := HB1.out.size; have h2 := HBe.out.size; simp; omega) ?_; intro v3 w3 hown3 hg3 _hne; clear _hne; have HO3 := Lib.hid hown3; have HG3 := Lib.hid hg3; clear hown3 hg3))
              go_step3
              have hsz1 := HB1.out.size
              have hsz0 := HBe.out.size
              have hsz3 := HG3.out.size
              simp at hsz3
              have hb1 : Below w.heap.size w w1 := HBe.out.trans (HB1.out.mono hsz0)
              have hb3 : Below w.heap.size w w3 := (hb1.alloc (by omega) _).grown HG3.out (by simp; omega) (fun b hb => (HVS.out.lt b hb).1)
              have hvol : Vol (fun b => Value.ownBlock (.slice Av X.length cv) = some b) w1 w3 := ((Vol.refl w1).alloc _).grown HG3.out (fun b hb => .inl hb)
              refine ⟨⟨_, rfl⟩, S0 ⟨v3, X ++ [x], p + (k + 2), _, _, _, _, _, _, _, _, _, _, _, _, _, _, _, _, _, _, _, _, _, _, _, _, _, _, _, _, _, _, _, _, _, _, _, _, _, _, _, _, _, _, _, _, rfl, Lib.hid hb3, Lib.hid ⟨vs ++ [.slice A1 k c1], by simpa using HO3.out, fun i y hy => ?_⟩, Lib.hid ?_, by omega, Lib.hid ?_, Lib.hid ?_, Lib.hid ?_, Lib.hid trivial⟩, ltS00 ?_⟩
              · have hap : ∀ {Bx nx : Nat} {vx : Value} {ys : List Value}, w1.ownsRow Bx 5 1 vx nx ys → w3.ownsRow Bx 5 1 vx nx ys := fun ho => own_vol ho hvol (own_apart (own_keep HVS.out HB1.out) ho (by decide))
                have hvl : vs.length = X.length := by have := HVS.out.1; omega
                by_cases hi : i < X.length
                · rw [List.getElem?_append_left hi] at hy
                  obtain ⟨vi, h3, h4⟩ := HEL.out i y hy
                  exact ⟨vi, by rw [List.getElem?_append_left (by omega)]; exact h3, hap (own_keep h4 HB1.out)⟩
                · rw [List.getElem?_append_right (by omega)] at hy
                  have hi0 : i - X.length = 0 := by
                    have := (List.getElem?_eq_some_iff.1 hy).1
                    simp at this
                    exact this
                  rw [hi0] at hy
                  simp at hy
                  subst hy
                  refine ⟨.slice A1 k c1, by rw [List.getElem?_append_right (by omega), hvl, hi0]; rfl, ?_⟩
                  rw [HXL.out]
                  exact own_lo (hap HO1.out) hsz0
              · rw [catL_snoc, List.length_append, packL_len, HXL.out, ← Hp.out]
              · rw [catL_snoc, List.append_assoc, ← hgd.out]
                exact Hl.out
              · intro y hy
                rcases List.mem_append.1 hy with h | h
                · exact HX.out y h
                · simp at h
                  subst h
                  have := HXL.out
                  omega
              · rw [List.length_append]
                have := HXp.out
                simp
                omega
              · show n + 1 - (((p : Int) + ((k : Int) + 2)).toNat) + 1 < n + 1 - (p : Int).toNat + 1
                omega
            · have hen : (e == 165) = false := by simpa using he5
              go_wp2
              go_step3
              exact ⟨⟨_, rfl⟩, S1 ⟨_, X, p, _, _, _, _, _, _, _, _, _, _, _, _, _, _, _, _, _, _, _, _, _, _, _, _, _, _, _, _, _, _, _, _, _, _, _, _, _, _, _, _, _, _, _, _, rfl, HBe, HRw, Hp, hpn, Hl, HX, HXp, Lib.hid (by rw [Hd.out]; exact bad_of (.inr (.inr ⟨k, rfl, e, HE.out, he5⟩)))⟩, ltS10⟩
    · have h1l : lb = 1 := by simp at hl; omega
      subst h1l
      rw [if_neg (by decide)] at hJ
      obtain ⟨v, X, p, u1, u4, u5, u6, u7, u8, u9, u10, u11, u12, u13, u14, u15, u16, u17, u18, u19, u20, u21, u22, u23, u24, u25, u26, u27, u28, u29, u30, u31, u32, u33, u34, u35, u36, u37, u38, u39, u40, u41, u42, u43, u44, u45, u46, rfl, HBe, HRw, Hp, hpn, Hl, HX, HXp, HBad⟩ := hJ
      simp [findLabel] at hR2
      subst hR2
      obtain ⟨Av, cv, rfl, -, -⟩ := HRw.out.shape
      go_wp2
      rw [jumpM_retS]
      go_ret2
      exact ⟨_, X, l.drop p, by rw [← Hp.out]; rfl, Hl.out, HBad.out, HX.out, HRw.out, HBe.out⟩
end
end Go.Proofs.Ytplmfmcogbdpjaa.Dk
namespace Go.Proofs.Ytplmfmcogbdpjaa.Dk
open Go Go.RowKit Go.Proofs.Ytplmfmcogbdpjaa Go.Proofs.Ytplmfmcogbdpjaa.Crw Go.Proofs.Ytplmfmcogbdpjaa.Vl Go.ChangeShapes Go.WideShapes Go.ChangeAt
set_option linter.unusedVariables false
set_option maxRecDepth 100000
abbrev nmL : ByteArray := ⟨#[108, 111, 103]⟩
theorem nmL_ne : nmL.toList.isEmpty = false := by decide +kernel
/-- The disk's files are a log alone, or none. -/
def isLog (F : List Fi) (bs : List Int) (sy : Nat) (fi : Bool) : Prop := (F = [] ∧ bs = [] ∧ sy = 0 ∧ fi = false) ∨ ∃ g v, F = [⟨nmL, g, v, bs, sy, fi⟩]
section
variable {w w' : World} {B d mb : Nat} {U V : Nat → Prop} {s s1 s2 : Ds} {F : List Fi}
set_option maxHeartbeats 4000000 in
/-- One append to a log. -/
theorem LogApp (H : DkP w B d mb V s F) {bs : List Int} {sy : Nat} {fi : Bool} (hF : isLog F bs sy fi) (hde : s.de = false) (h1 : burnS s s1 0) (hqu : s1.u = s.u) (hq : 0 ≤ s.q ∧ s.q ≤ 65536) (hu : 0 ≤ s.u ∧ s.u ≤ 65536) (hbl : bs.length ≤ 65536)
    {B' n c : Nat} {A : Option Addr} {xs : List Int} (hr : Reads w B' 1 A n (bsV xs)) (hB : B' ≤ w.heap.size) (hA : ∀ ad, A = some ad → ¬ V ad.block) (hn : (n : Int) ≤ s.q - s.u) :
    Calls Try.prog 16 #[.pointer (some ⟨d, 0, none⟩), .string nmL, .slice A n c] w fun r w' => r = .returned (.int .i64 0) ∧ ∃ V' F', DkP w' B d mb V' { s1 with u := s1.u + n } F' ∧ isLog F' (bs ++ xs) sy fi ∧ (∃ g v, F' = [⟨nmL, g, v, bs ++ xs, sy, fi⟩]) ∧ Vol V w w' ∧ (∀ b, V' b → V b ∨ w.heap.size ≤ b) := by
  have hnl : nmL.toList.isEmpty = false := nmL_ne
  rcases hF with ⟨rfl, rfl, rfl, rfl⟩ | ⟨g, v, rfl⟩
  · refine (Append_newF H (p := nmL) (fun k x hx => by simp at hx) hnl hde h1 hqu hq hu hr hB hA hn).mono ?_
    rintro r w1 ⟨rfl, V', g, v, hD, hV, hg⟩
    exact ⟨rfl, V', _, hD, .inr ⟨g, v, rfl⟩, ⟨g, v, rfl⟩, hV, hg⟩
  · refine (Append_oldF H (p := nmL) (j := 0) rfl rfl hnl hde h1 hqu hq hu hbl hr hB hA hn).mono ?_
    rintro r w1 ⟨rfl, V', v', hD, hV, hg⟩
    exact ⟨rfl, V', _, hD, .inr ⟨g, v', rfl⟩, ⟨g, v', rfl⟩, hV, hg⟩
set_option maxHeartbeats 4000000 in
theorem Add_ok (H : DkP w B d mb V s F) {bs : List Int} {sy : Nat} {fi : Bool} (hF : isLog F bs sy fi) (hde : s.de = false) (h1 : burnS s s1 0) (hqu : s1.u = s.u) (hd1 : s1.de = false) {n : Nat} (h2 : burnS { s1 with u := s1.u + ((n + 2 : Nat) : Int) } s2 0) (hq : 0 ≤ s.q ∧ s.q ≤ 65536) (hu : 0 ≤ s.u ∧ s.u ≤ 65536) (hbl : bs.length ≤ 65536)
    {B' c : Nat} {A : Option Addr} {xs : List Int} (hr : Reads w B' 1 A n (bsV xs)) (hB : B' ≤ w.heap.size) (hn : n ≤ 200) (hn2 : ((n + 2 : Nat) : Int) ≤ s.q - s.u) :
    Calls Try.prog 40 #[.pointer (some ⟨d, 0, none⟩), .string nmL, .slice A n c] w fun r w' => r = .returned (.int .i64 0) ∧ ∃ V' F', DkP w' B d mb V' s2 F' ∧ isLog F' (bs ++ packL xs) (bs ++ packL xs).length true ∧ Vol V w w' ∧ (∀ b, V' b → V b ∨ w.heap.size ≤ b) := by
  have hlen : xs.length = n := by have := hr.1; simpa [bsV] using this
  have hP := Pack_yes (c := c) hr hB hn
  have hle : ¬ 200 < (n : Int) := by omega
  have hpl : (packL xs).length = n + 2 := by rw [packL_len, hlen]
  have hAp : ∀ (w1 : World) (A1 : Option Addr) (c1 : Nat), Below w.heap.size w w1 → w1.ownsRow w.heap.size 5 1 (.slice A1 (packL xs).length c1) (packL xs).length (bsV (packL xs)) → _ := fun w1 A1 c1 hb1 ho1 => LogApp (H.below hb1) hF hde h1 hqu hq hu hbl (c := c1) (own_reads ho1) (Nat.le_refl _) (by
    intro ad e hv
    subst e
    have e1 := (ho1.lt ad.block rfl).1
    have e2 := H.lt _ hv
    omega) (by rw [hpl]; exact hn2)
  have HAP := Lib.hid hAp
  clear hAp
  have HB2 := Lib.hid h2
  have HPL := Lib.hid hpl
  clear H hF hr h1 h2 hpl hlen hqu hq hu hbl hn2 hde
  have HD1 := Lib.hid hd1
  clear hd1
  go_enter Try.func40, Try.ntmps40
  go_wp2_with fail
  refine hP.mono ?_
  rintro r w1 ⟨v1, rfl, ho1, hb1⟩
  obtain ⟨A1, c1, rfl, -, -⟩ := own_slice ho1
  have hs1 := hb1.size
  have hAp := HAP.out w1 A1 c1 hb1 ho1
  have HBe := Lib.hid hb1
  clear hP ho1 HAP hb1
  go_wp2_with fail
  refine hAp.mono ?_
  rintro r w2 ⟨rfl, V2, F2, hD2, -, ⟨g, v, rfl⟩, hV2, hg2⟩
  clear hAp
  rw [HPL.out] at hD2
  have hSy := Sync_yesF hD2 (p := nmL) (j := 0) rfl rfl nmL_ne HD1.out HB2.out
  have HV2 := Lib.hid hV2
  clear hD2 hV2
  go_wp2_with fail
  refine hSy.mono ?_
  rintro r w3 ⟨rfl, hD3, hV3⟩
  clear hSy
  go_wp2_with fail
  go_ret
  refine ⟨rfl, V2, _, hD3, .inr ⟨g, v, rfl⟩, ?_, fun b hb => ?_⟩
  · refine ((Vol.of_below HBe.out).trans HV2.out fun b hb => .inl hb).trans hV3 fun b hb => ?_
    rcases hg2 b hb with h | h
    · exact .inl h
    · right; omega
  · rcases hg2 b hb with h | h
    · exact .inl h
    · right; omega
end
end Go.Proofs.Ytplmfmcogbdpjaa.Dk
namespace Go.Proofs.Ytplmfmcogbdpjaa.Dk
open Go Go.RowKit Go.Proofs.Ytplmfmcogbdpjaa Go.Proofs.Ytplmfmcogbdpjaa.Crw Go.Proofs.Ytplmfmcogbdpjaa.Vl Go.ChangeShapes Go.WideShapes Go.ChangeAt
set_option linter.unusedVariables false
set_option maxRecDepth 100000
section
variable {w w' : World} {B d mb : Nat} {U V : Nat → Prop}
set_option maxHeartbeats 8000000 in
theorem Same_rows {B1 B2 : Nat} {v1 v2 : Value} {X : List (List Int)} (h1 : RdP w B1 v1 X) (h2 : RdP w B2 v2 X) (hB1 : B1 ≤ w.heap.size) (hB2 : B2 ≤ w.heap.size) (hX : X.length ≤ 65536) (hXs : ∀ x ∈ X, x.length ≤ 65536) :
    Calls Try.prog 33 #[v1, v2] w fun r w' => r = .returned (.bool true) ∧ Below w.heap.size w w' := by
  obtain ⟨A, c, vs, rfl, hr1, he1⟩ := h1
  obtain ⟨A', c', vs', rfl, hr2, he2⟩ := h2
  have HE1 := Lib.hid he1
  have HE2 := Lib.hid he2
  have HR1 := Lib.hid hr1
  have HR2 := Lib.hid hr2
  have HXs := Lib.hid hXs
  clear he1 he2 hr1 hr2 hXs
  obtain ⟨n, hn⟩ : ∃ n, n = X.length := ⟨_, rfl⟩
  rw [← hn] at hX
  have HN := Lib.hid hn
  rw [← hn]
  clear hn
  go_enter Try.func33, Try.ntmps33
  go_wp2_with fail
  go_loopw [13] (fun i wr => ∃ k : Nat, k ≤ n ∧ i = .int .i64 k ∧ Below w.heap.size w wr) (fun i _ => n - (intOf i).toNat)
  case atStart => exact ⟨0, Nat.zero_le _, rfl, Below.refl _ _⟩
  case round =>
    obtain ⟨k, hk, rfl, hbel⟩ := hrel
    by_cases hlt : k < n
    · obtain ⟨ad, u, rfl, -, hu, hc⟩ := (reads_belR HR1.out hB1 hbel).at_ (HN.out ▸ hlt)
      obtain ⟨ad', u', rfl, -, hu', hc'⟩ := (reads_belR HR2.out hB2 hbel).at_ (HN.out ▸ hlt)
      obtain ⟨x, hx⟩ : ∃ x, X[k]? = some x := ⟨_, List.getElem?_eq_getElem (HN.out ▸ hlt)⟩
      obtain ⟨Ai, ci, e1, hra⟩ := HE1.out k x hx
      obtain ⟨Aj, cj, e2, hrb⟩ := HE2.out k x hx
      have hxl := HXs.out x (List.mem_of_getElem? hx)
      rw [e1] at hu
      rw [e2] at hu'
      injection hu with hu
      injection hu' with hu'
      subst hu
      subst hu'
      have k1 : (k : Int) < (n : Int) := by omega
      have hsz := hbel.size
      have hSm := SameByte_int Ai Aj x.length ci x.length cj x x B1 B2
      obtain ⟨wd, hwd⟩ : ∃ wd, wd = ({ wr with drawn := wr.drawn + 1 } : World) := ⟨_, rfl⟩
      have hbd : Below w.heap.size w wd := by rw [hwd]; exact below_drewN hbel 1
      have hcd : wd.cell? (ad.add k) = some (.slice Ai x.length ci) := by rw [hwd]; exact hc
      have hcd' : wd.cell? (ad'.add k) = some (.slice Aj x.length cj) := by rw [hwd]; exact hc'
      have hSd := hSm wd (Nat.le_trans hB1 hbd.size) (Nat.le_trans hB2 hbd.size) (reads_belR hra hB1 hbd) (reads_belR hrb hB2 hbd) (by omega) (by omega)
      have HSd := Lib.hid hSd
      have HBd := Lib.hid hbd
      clear hx hra hrb e1 e2 hSm hbd hc hc' hSd
      go_wp2
      refine wp_region_still_tail 8 (by kernel_rfl) (by kernel_rfl) ?_
      simp only [List.take_succ_cons, List.take_zero, List.drop_succ_cons, List.drop_zero]
      rw [show ({ wr with drawn := wr.drawn + 1 } : World) = wd from hwd.symm]
      clear hwd
      repeat still_step
      refine wpStill_nil ?_
      go_wp2_with fail
      refine HSd.out.mono ?_
      rintro r w1 ⟨hr, hb1⟩
      have hr2 : r = .returned (.bool true) := by rw [hr]; simp
      clear hr
      subst hr2
      go_wp2
      go_roundw
      case rel => exact ⟨k + 1, by omega, by go_num, HBd.out.trans (hb1.mono HBd.out.size)⟩
      case measure => simp [intOf]; omega
    · have k1 : ¬ (k : Int) < (n : Int) := by omega
      go_wp2
      go_ret
      exact ⟨rfl, hbel⟩
end
end Go.Proofs.Ytplmfmcogbdpjaa.Dk
namespace Go.Proofs.Ytplmfmcogbdpjaa.Dk
open Go Go.RowKit Go.Proofs.Ytplmfmcogbdpjaa Go.Proofs.Ytplmfmcogbdpjaa.Crw Go.Proofs.Ytplmfmcogbdpjaa.Vl Go.ChangeShapes Go.WideShapes Go.ChangeAt
set_option linter.unusedVariables false
set_option maxRecDepth 100000
section
variable {w w' : World} {B d mb : Nat} {U V : Nat → Prop} {s s1 s2 : Ds} {F : List Fi}
set_option maxHeartbeats 4000000 in
/-- The disk dies at the append. -/
theorem Add_die1 (H : DkP w B d mb V s F) (hde : s.de = false) (h1 : burnS s s1 7) (hq : 0 ≤ s.q ∧ s.q ≤ 65536) (hu : 0 ≤ s.u ∧ s.u ≤ 65536)
    {B' n c : Nat} {A : Option Addr} {xs : List Int} (hr : Reads w B' 1 A n (bsV xs)) (hB : B' ≤ w.heap.size) (hn : n ≤ 200) (hn2 : ((n + 2 : Nat) : Int) ≤ s.q - s.u) :
    Calls Try.prog 40 #[.pointer (some ⟨d, 0, none⟩), .string nmL, .slice A n c] w fun r w' => r = .returned (.int .i64 7) ∧ DkP w' B d mb V s1 F ∧ Vol V w w' := by
  have hlen : xs.length = n := by have := hr.1; simpa [bsV] using this
  have hP := Pack_yes (c := c) hr hB hn
  have hle : ¬ 200 < (n : Int) := by omega
  have hpl : (packL xs).length = n + 2 := by rw [packL_len, hlen]
  have hAp : ∀ (w1 : World) (A1 : Option Addr) (c1 : Nat), Below w.heap.size w w1 → _ := fun w1 A1 c1 hb1 => Append_dies (H.below hb1) (p := nmL) nmL_ne hde h1 hq hu (n := (packL xs).length) (c := c1) (A := A1) (by rw [hpl]; exact hn2)
  have HAP := Lib.hid hAp
  clear hAp H hr h1 hpl hlen hq hu hn2 hde
  go_enter Try.func40, Try.ntmps40
  go_wp2_with fail
  refine hP.mono ?_
  rintro r w1 ⟨v1, rfl, ho1, hb1⟩
  obtain ⟨A1, c1, rfl, -, -⟩ := own_slice ho1
  have hAp := HAP.out w1 A1 c1 hb1
  have HBe := Lib.hid hb1
  clear hP ho1 HAP hb1
  go_wp2_with fail
  refine hAp.mono ?_
  rintro r w2 ⟨rfl, hD2, hV2⟩
  clear hAp
  go_wp2_with fail
  go_ret
  exact ⟨rfl, hD2, (Vol.of_below HBe.out).trans hV2 fun b hb => .inl hb⟩
set_option maxHeartbeats 4000000 in
/-- The disk dies at the sync. -/
theorem Add_die2 (H : DkP w B d mb V s F) {bs : List Int} {sy : Nat} {fi : Bool} (hF : isLog F bs sy fi) (hde : s.de = false) (h1 : burnS s s1 0) (hqu : s1.u = s.u) (hd1 : s1.de = false) {n : Nat} (h2 : burnS { s1 with u := s1.u + ((n + 2 : Nat) : Int) } s2 7) (hq : 0 ≤ s.q ∧ s.q ≤ 65536) (hu : 0 ≤ s.u ∧ s.u ≤ 65536) (hbl : bs.length ≤ 65536)
    {B' c : Nat} {A : Option Addr} {xs : List Int} (hr : Reads w B' 1 A n (bsV xs)) (hB : B' ≤ w.heap.size) (hn : n ≤ 200) (hn2 : ((n + 2 : Nat) : Int) ≤ s.q - s.u) :
    Calls Try.prog 40 #[.pointer (some ⟨d, 0, none⟩), .string nmL, .slice A n c] w fun r w' => r = .returned (.int .i64 7) ∧ ∃ V' F', DkP w' B d mb V' s2 F' ∧ isLog F' (bs ++ packL xs) sy fi ∧ Vol V w w' ∧ (∀ b, V' b → V b ∨ w.heap.size ≤ b) := by
  have hlen : xs.length = n := by have := hr.1; simpa [bsV] using this
  have hP := Pack_yes (c := c) hr hB hn
  have hle : ¬ 200 < (n : Int) := by omega
  have hpl : (packL xs).length = n + 2 := by rw [packL_len, hlen]
  have hAp : ∀ (w1 : World) (A1 : Option Addr) (c1 : Nat), Below w.heap.size w w1 → w1.ownsRow w.heap.size 5 1 (.slice A1 (packL xs).length c1) (packL xs).length (bsV (packL xs)) → _ := fun w1 A1 c1 hb1 ho1 => LogApp (H.below hb1) hF hde h1 hqu hq hu hbl (c := c1) (own_reads ho1) (Nat.le_refl _) (by
    intro ad e hv
    subst e
    have e1 := (ho1.lt ad.block rfl).1
    have e2 := H.lt _ hv
    omega) (by rw [hpl]; exact hn2)
  have HAP := Lib.hid hAp
  clear hAp
  have HB2 := Lib.hid h2
  have HPL := Lib.hid hpl
  clear H hF hr h1 h2 hpl hlen hqu hq hu hbl hn2 hde
  have HD1 := Lib.hid hd1
  clear hd1
  go_enter Try.func40, Try.ntmps40
  go_wp2_with fail
  refine hP.mono ?_
  rintro r w1 ⟨v1, rfl, ho1, hb1⟩
  obtain ⟨A1, c1, rfl, -, -⟩ := own_slice ho1
  have hs1 := hb1.size
  have hAp := HAP.out w1 A1 c1 hb1 ho1
  have HBe := Lib.hid hb1
  clear hP ho1 HAP hb1
  go_wp2_with fail
  refine hAp.mono ?_
  rintro r w2 ⟨rfl, V2, F2, hD2, -, ⟨g, v, rfl⟩, hV2, hg2⟩
  clear hAp
  rw [HPL.out] at hD2
  have hSy := Sync_dies hD2 (p := nmL) (j := 0) rfl rfl nmL_ne HD1.out HB2.out
  have HV2 := Lib.hid hV2
  clear hD2 hV2
  go_wp2_with fail
  refine hSy.mono ?_
  rintro r w3 ⟨rfl, hD3, hV3⟩
  clear hSy
  go_wp2_with fail
  go_ret
  refine ⟨rfl, V2, _, hD3, .inr ⟨g, v, rfl⟩, ?_, fun b hb => ?_⟩
  · refine ((Vol.of_below HBe.out).trans HV2.out fun b hb => .inl hb).trans hV3 fun b hb => ?_
    rcases hg2 b hb with h | h
    · exact .inl h
    · right; omega
  · rcases hg2 b hb with h | h
    · exact .inl h
    · right; omega
theorem log_total {bs : List Int} {sy : Nat} {fi : Bool} (h : isLog F bs sy fi) : total (F.map Fi.sh) = bs.length := by
  rcases h with ⟨rfl, rfl, -, -⟩ | ⟨g, v, rfl⟩ <;> simp [total]
set_option maxHeartbeats 4000000 in
theorem Log_crash (H : DkP w B d mb V s F) {bs : List Int} {sy : Nat} {fi : Bool} (hF : isLog F bs sy fi) (hsy : sy ≤ bs.length) (hbl : bs.length ≤ 65536) (hu : s.u = bs.length) (K : Nat) (hK : K ≤ 65536) :
    Calls Try.prog 27 #[.pointer (some ⟨d, 0, none⟩), .int .i64 K] w fun r w' => (∃ u, r = .returned u) ∧ ∃ (F' : List Fi) (m : Nat) (fi' : Bool), DkP w' B d mb V { s with u := (m : Int), fu := false, de := false } F' ∧ sy ≤ m ∧ m ≤ bs.length ∧ isLog F' (bs.take m) m fi' ∧ Vol V w w' := by
  refine (Crash_ H (by rcases hF with ⟨rfl, -⟩ | ⟨g, v, rfl⟩ <;> simp) ?_ (by rw [log_total hF]; exact hu) (by rw [log_total hF]; exact hbl) K hK).mono ?_
  · intro y hy
    rcases hF with ⟨rfl, -⟩ | ⟨g, v, rfl⟩
    · simp at hy
    · simp at hy
      subst hy
      exact ⟨by simp only; omega, by simp only; omega, hbl⟩
  · rintro r w1 ⟨hu1, F', hD, hsh, ht, hV⟩
    refine ⟨hu1, F', ?_⟩
    rcases hF with ⟨rfl, rfl, rfl, rfl⟩ | ⟨g, v, rfl⟩
    · have hF' : F' = [] := by simpa using hsh
      subst hF'
      exact ⟨0, false, hD, Nat.le_refl _, Nat.zero_le _, .inl ⟨rfl, rfl, rfl, rfl⟩, hV⟩
    · have hm : sy + min K (bs.length - sy) ≤ bs.length := by omega
      have hn : Sh.n K ⟨nmL, bs, (sy : Int), fi⟩ = sy + min K (bs.length - sy) := by simp [Sh.n]
      simp only [List.map_cons, List.map_nil, List.filterMap_cons, List.filterMap_nil, Fi.sh, Sh.cr, hn] at hsh
      by_cases h0 : sy + min K (bs.length - sy) = 0 ∧ fi = false
      · rw [if_pos h0] at hsh
        have hF' : F' = [] := by simpa using hsh
        subst hF'
        refine ⟨0, false, hD, by omega, Nat.zero_le _, .inl ⟨rfl, by simp, rfl, rfl⟩, hV⟩
      · rw [if_neg h0] at hsh
        obtain ⟨x, rfl⟩ : ∃ x, F' = [x] := by
          have := congrArg List.length hsh
          simp at this
          exact List.length_eq_one_iff.1 this
        simp at hsh
        obtain ⟨e1, e2, e3, e4⟩ := hsh
        obtain ⟨xp, xg, xv, xb, xs, xf⟩ := x
        simp only at e1 e2 e3 e4
        subst e1 e2 e4
        refine ⟨sy + min K (bs.length - sy), xf, ?_, by omega, hm, .inr ⟨xg, xv, by rw [e3]; rfl⟩, hV⟩
        have ht2 : total (([⟨nmL, xg, xv, bs.take (sy + min K (bs.length - sy)), xs, xf⟩] : List Fi).map Fi.sh) = sy + min K (bs.length - sy) := by simp [total]; omega
        rw [ht2] at hD
        exact hD
end
end Go.Proofs.Ytplmfmcogbdpjaa.Dk
namespace Go.Proofs.Ytplmfmcogbdpjaa.Dk
open Go Go.RowKit Go.Proofs.Ytplmfmcogbdpjaa Go.Proofs.Ytplmfmcogbdpjaa.Crw Go.Proofs.Ytplmfmcogbdpjaa.Vl Go.ChangeShapes Go.WideShapes Go.ChangeAt
set_option linter.unusedVariables false
set_option maxRecDepth 100000
section
variable {w w' : World} {B d mb : Nat} {U V : Nat → Prop} {s s1 s2 : Ds} {F : List Fi}
def LoadPost (w : World) (B d mb : Nat) (V : Nat → Prop) (s : Ds) (bs : List Int) (r : Ending) (w' : World) : Prop :=
  ∃ (v : Value) (X : List (List Int)) (t : List Int) (F' : List Fi) (sy' : Nat) (fi' : Bool), r = .returned (.tuple #[v, .int .i64 0]) ∧ bs = catL X ++ t ∧ badL t ∧ (∀ x ∈ X, x.length ≤ 200) ∧ RwP w' w.heap.size v X ∧ DkP w' B d mb V { s with u := ((catL X).length : Nat) } F' ∧ isLog F' (catL X) sy' fi' ∧ sy' ≤ (catL X).length ∧ Vol V w w'
set_option maxHeartbeats 4000000 in
theorem Load_ (H : DkP w B d mb V s F) {bs : List Int} {sy : Nat} {fi : Bool} (hF : isLog F bs sy fi) (hsy : sy ≤ bs.length) (hs : s.de = false ∧ s.fu = false) (hu : s.u = bs.length) (hbl : bs.length ≤ 65536) (hb : ∀ x ∈ bs, 0 ≤ x ∧ x ≤ 255) :
    Calls Try.prog 39 #[.pointer (some ⟨d, 0, none⟩), .string nmL] w fun r w' => LoadPost w B d mb V s bs r w' := by
  rcases hF with ⟨rfl, rfl, rfl, rfl⟩ | ⟨g, v, rfl⟩
  · have hRd := Read_no H (p := nmL) (fun k x hx => by simp at hx)
    have hSc : ∀ w1, _ := fun (w1 : World) => Scan_ (w := w1) (B' := 0) (n := 0) (c := 0) (A := none) (l := []) ⟨by simp, fun h => absurd h (by omega)⟩ (Nat.zero_le _) (by omega) (Nat.le_refl _) (by omega) (fun x hx => by simp at hx)
    have HD := Lib.hid H
    have HU := Lib.hid hu
    clear H hu hbl hb hsy hs
    go_enter Try.func39, Try.ntmps39
    go_wp2_with fail
    refine hRd.mono ?_
    rintro r w1 ⟨rfl, hb1⟩
    have HB1 := Lib.hid hb1
    clear hRd hb1
    go_wp2_with fail
    refine (hSc w1).mono ?_
    rintro r w2 ⟨v, X, t, rfl, hl, hbad, hX, hrw, hb2⟩
    obtain ⟨e1, e2⟩ := List.append_eq_nil_iff.1 hl.symm
    rw [e1]
    have HE1 := Lib.hid e1
    have HX := Lib.hid (And.intro hl (And.intro hbad (And.intro hX (And.intro hrw hb2))))
    obtain ⟨Av, cv, rfl, -, -⟩ := hrw.shape
    clear hl hbad hX hrw hb2 e1 e2
    go_wp2_with fail
    go_ret2
    obtain ⟨hl, hbad, hX, hrw, hb2⟩ := HX.out
    have hz1 := HB1.out.size
    have hB12 : Below w.heap.size w w2 := HB1.out.trans (hb2.mono hz1)
    have hlo : RwP w2 w.heap.size (.slice Av X.length cv) X := by
      obtain ⟨vs, h1, h2⟩ := hrw
      exact ⟨vs, own_lo h1 hz1, fun i x hx => by obtain ⟨vi, h3, h4⟩ := h2 i x hx; exact ⟨vi, h3, own_lo h4 hz1⟩⟩
    refine ⟨_, X, t, [], 0, false, rfl, hl, hbad, hX, hlo, ?_, .inl ⟨rfl, HE1.out, rfl, rfl⟩, Nat.zero_le _, Vol.of_below hB12⟩
    have := HD.out.below hB12
    rw [HE1.out]
    have hu0 : s.u = 0 := HU.out
    obtain ⟨sq, su, sf, sl, sd⟩ := s
    simp only at hu0
    subst hu0
    exact this
  · have hRd := Read_yes H (p := nmL) (j := 0) rfl rfl hbl
    have hSc : ∀ (w1 : World) (A1 : Option Addr) (c1 : Nat), w1.ownsRow w.heap.size 5 1 (.slice A1 bs.length c1) bs.length (bsV bs) → bs.length ≤ c1 → (c1 : Int) ≤ 9223372036854775807 → _ := fun w1 A1 c1 ho h1 h2 => Scan_ (own_reads ho) (Nat.le_refl _) hbl h1 h2 hb
    have hCut : ∀ (w2 : World) (m : Nat), Below w.heap.size w w2 → m ≤ bs.length → _ := fun w2 m hb2 hm => Cut_yes (H.below hb2) (p := nmL) (j := 0) (n := m) rfl rfl nmL_ne hs hm hbl (by rw [hu]; omega)
    have HCut := Lib.hid hCut
    have HSc := Lib.hid hSc
    have HD := Lib.hid H
    have HU := Lib.hid hu
    have HSY := Lib.hid hsy
    have hVlt := Lib.hid H.lt
    clear H hu hb hs hSc hCut hsy
    obtain ⟨n, hn⟩ : ∃ n, n = bs.length := ⟨_, rfl⟩
    have HN := Lib.hid hn
    simp only [← hn] at hRd hbl
    clear hn
    go_enter Try.func39, Try.ntmps39
    go_wp2_with fail
    refine hRd.mono ?_
    rintro r w1 ⟨v1, rfl, ho1, hb1⟩
    obtain ⟨A1, c1, rfl, hc1, hc2⟩ := own_slice ho1
    have hSc := HSc.out w1 A1 c1 (HN.out ▸ ho1) (HN.out ▸ hc1) (by unfold maxLen at hc2; omega)
    rw [← HN.out] at hSc
    have HB1 := Lib.hid hb1
    clear hRd hb1 ho1 HSc hc1 hc2
    go_wp2_with fail
    refine hSc.mono ?_
    rintro r w2 ⟨v2, X, t, rfl, hl, hbad, hX, hrw, hb2⟩
    obtain ⟨m, hm⟩ : ∃ m, m = (catL X).length := ⟨_, rfl⟩
    rw [← hm]
    have hmn : m + t.length = n := by rw [HN.out, hl, List.length_append, hm]
    have hz1 := HB1.out.size
    have hB12 : Below w.heap.size w w2 := HB1.out.trans (hb2.mono hz1)
    have hlo : RwP w2 w.heap.size v2 X := by
      obtain ⟨vs, h1, h2⟩ := hrw
      exact ⟨vs, own_lo h1 hz1, fun i x hx => by obtain ⟨vi, h3, h4⟩ := h2 i x hx; exact ⟨vi, h3, own_lo h4 hz1⟩⟩
    obtain ⟨Av, cv, rfl, -, -⟩ := hrw.shape
    have HM := Lib.hid hm
    have HX := Lib.hid (And.intro hl (And.intro hbad (And.intro hX (And.intro hlo hB12))))
    clear hl hbad hX hrw hb2 hm hlo hB12 hSc
    by_cases ht : t = []
    · have hmn2 : m = n := by subst ht; simpa using hmn
      have HMN := Lib.hid hmn2
      have hlt : ¬ (m : Int) < (n : Int) := by omega
      clear hmn hmn2
      go_wp2_with fail
      go_ret2
      obtain ⟨hl, hbad, hX, hlo, hB12⟩ := HX.out
      have hbs : catL X = bs := by rw [hl, ht, List.append_nil]
      refine ⟨_, X, t, _, sy, fi, rfl, hl, hbad, hX, hlo, ?_, by rw [hbs]; exact .inr ⟨g, v, rfl⟩, by rw [hbs]; exact HSY.out, Vol.of_below hB12⟩
      have := HD.out.below hB12
      rw [hbs]
      have hu0 := HU.out
      obtain ⟨sq, su, sf, sl, sd⟩ := s
      simp only at hu0
      subst hu0
      exact this
    · have htl : 0 < t.length := List.length_pos_iff.2 ht
      have hlt : (m : Int) < (n : Int) := by omega
      have hmn3 : m ≤ bs.length := by have := HN.out; omega
      have hC := HCut.out w2 m HX.out.2.2.2.2 hmn3
      clear hmn HCut hmn3
      go_wp2_with fail
      refine hC.mono ?_
      rintro r w3 ⟨rfl, v3, hD3, hV3⟩
      clear hC
      have HD3 := Lib.hid hD3
      have HV3 := Lib.hid hV3
      clear hD3 hV3
      go_wp2_with fail
      go_ret2
      obtain ⟨hl, hbad, hX, hlo, hB12⟩ := HX.out
      have hbs : catL X = bs.take m := by rw [hl, HM.out, List.take_left]
      refine ⟨_, X, t, _, m, true, rfl, hl, hbad, hX, hlo.vol HV3.out (fun b hb hv => by have := hVlt.out b hv; omega), ?_, by rw [hbs]; exact .inr ⟨g, v3, rfl⟩, by rw [← HM.out]; exact Nat.le_refl _, (Vol.of_below hB12).trans HV3.out fun b hb => .inl hb⟩
      have := HD3.out
      have hu0 := HU.out
      obtain ⟨sq, su, sf, sl, sd⟩ := s
      simp only at hu0 this
      subst hu0
      rw [← HM.out]
      have e : (bs.length : Int) - ((bs.length : Int) - (m : Int)) = (m : Int) := by omega
      rw [e] at this
      exact this
end
end Go.Proofs.Ytplmfmcogbdpjaa.Dk
namespace Go.Proofs.Ytplmfmcogbdpjaa.Dk
open Go Go.RowKit Go.Proofs.Ytplmfmcogbdpjaa Go.Proofs.Ytplmfmcogbdpjaa.Crw Go.Proofs.Ytplmfmcogbdpjaa.Vl Go.ChangeShapes Go.WideShapes Go.ChangeAt
set_option linter.unusedVariables false
set_option maxRecDepth 100000
section
variable {w w' w3 : World} {B d mb lo : Nat} {U V V' : Nat → Prop} {v v3 vi : Value} {X Y W : List (List Int)} {x : List Int} {vs : List Value}
def RwV (w : World) (V : Nat → Prop) (lo : Nat) (v : Value) (X : List (List Int)) : Prop :=
  ∃ vs, w.ownsRow lo 28 1 v X.length vs ∧ (∀ b, v.ownBlock = some b → ¬ V b) ∧ ∀ (i : Nat) (x : List Int), X[i]? = some x → ∃ vi, vs[i]? = some vi ∧ w.ownsRow lo 5 1 vi x.length (bsV x) ∧ ∀ b, vi.ownBlock = some b → ¬ V b
theorem RwV.keep (h : RwV w V lo v X) (hb : Below w.heap.size w w') : RwV w' V lo v X := by
  obtain ⟨vs, h1, h2, h3⟩ := h
  exact ⟨vs, own_keep h1 hb, h2, fun i x hx => by obtain ⟨vi, h4, h5, h6⟩ := h3 i x hx; exact ⟨vi, h4, own_keep h5 hb, h6⟩⟩
theorem RwV.vol (h : RwV w V lo v X) (hv : Vol V w w') (hV : ∀ b, V' b → V b ∨ w.heap.size ≤ b) : RwV w' V' lo v X := by
  obtain ⟨vs, h1, h2, h3⟩ := h
  refine ⟨vs, own_vol h1 hv h2, fun b hb hv' => ?_, fun i x hx => ?_⟩
  · rcases hV b hv' with h | h
    · exact h2 b hb h
    · have := (h1.lt b hb).2
      omega
  · obtain ⟨vi, h4, h5, h6⟩ := h3 i x hx
    refine ⟨vi, h4, own_vol h5 hv h6, fun b hb hv' => ?_⟩
    rcases hV b hv' with h | h
    · exact h6 b hb h
    · have := (h5.lt b hb).2
      omega
theorem RwV.rw (h : RwV w V lo v X) : RwP w lo v X := by
  obtain ⟨vs, h1, h2, h3⟩ := h
  exact ⟨vs, h1, fun i x hx => by obtain ⟨vi, h4, h5, h6⟩ := h3 i x hx; exact ⟨vi, h4, h5⟩⟩
theorem RwV.nil (lo : Nat) : RwV w V lo (.slice none 0 0) [] := ⟨[], ⟨by simp, .inl ⟨rfl, rfl⟩⟩, (fun b hb => by simp [Value.ownBlock] at hb), fun i x hx => by simp at hx⟩
theorem RwV.push (hvs : w.ownsRow lo 28 1 v X.length vs) (hnv : ∀ b, v.ownBlock = some b → ¬ V b) (hel : ∀ (i : Nat) (x : List Int), X[i]? = some x → ∃ vi, vs[i]? = some vi ∧ w.ownsRow lo 5 1 vi x.length (bsV x) ∧ ∀ b, vi.ownBlock = some b → ¬ V b)
    (hvi : w.ownsRow lo 5 1 vi x.length (bsV x)) (hvn : ∀ b, vi.ownBlock = some b → ¬ V b) (hVlt : ∀ b, V b → b < w.heap.size) {o : Obj} (ho3 : w3.ownsRow lo 28 1 v3 (X.length + 1) (vs ++ [vi])) (hg : (w.alloc o).grownBy w3 v.ownBlock) (hne : v3.ownBlock = v.ownBlock ∨ v3.ownBlock = some (w.alloc o).heap.size) : RwV w3 V lo v3 (X ++ [x]) := by
  have hvol : Vol (fun b => v.ownBlock = some b) w w3 := ((Vol.refl w).alloc _).grown hg (fun b hb => .inl hb)
  have hap : ∀ {Bx nx : Nat} {vx : Value} {ys : List Value}, w.ownsRow Bx 5 1 vx nx ys → w3.ownsRow Bx 5 1 vx nx ys := fun ho => own_vol ho hvol (own_apart hvs ho (by decide))
  have hvl : vs.length = X.length := by have := hvs.1; omega
  refine ⟨vs ++ [vi], by simpa using ho3, fun b hb hv => ?_, fun i y hy => ?_⟩
  · rcases hne with h | h
    · exact hnv b (h ▸ hb) hv
    · rw [h] at hb
      injection hb with hb
      have := hVlt b hv
      simp at hb
      omega
  · by_cases hi : i < X.length
    · rw [List.getElem?_append_left hi] at hy
      obtain ⟨vj, h3, h4, h5⟩ := hel i y hy
      exact ⟨vj, by rw [List.getElem?_append_left (by omega)]; exact h3, hap h4, h5⟩
    · rw [List.getElem?_append_right (by omega)] at hy
      have hi0 : i - X.length = 0 := by
        have := (List.getElem?_eq_some_iff.1 hy).1
        simp at this
        exact this
      rw [hi0] at hy
      simp at hy
      subst hy
      exact ⟨vi, by rw [List.getElem?_append_right (by omega), hvl, hi0]; rfl, hap hvi, hvn⟩
theorem RdP.take {A : Option Addr} {n c k : Nat} (h : RdP w B (.slice A n c) X) (hk : k ≤ X.length) : RdP w B (.slice A k c) (X.take k) := by
  obtain ⟨A', c', vs, e, h1, h2⟩ := h
  injection e with e1 e2 e3
  subst e1 e2 e3
  have hl : (X.take k).length = k := by rw [List.length_take]; omega
  refine ⟨A, c, vs.take k, by rw [hl], by rw [hl]; exact reads_take h1 hk, fun i x hx => ?_⟩
  rw [List.getElem?_take] at hx
  split at hx
  · rename_i hi
    obtain ⟨Ai, ci, h3, h4⟩ := h2 i x hx
    exact ⟨Ai, ci, by rw [List.getElem?_take, if_pos hi]; exact h3, h4⟩
  · cases hx
/-- Rows that are short, of bytes. -/
def Wok (m : Nat) (W : List (List Int)) : Prop := ∀ x ∈ W, x.length ≤ m ∧ ∀ z ∈ x, 0 ≤ z ∧ z ≤ 255
theorem Wok.app {m : Nat} (h : Wok m W) (h' : Wok m Y) : Wok m (W ++ Y) := fun x hx => (List.mem_append.1 hx).elim (h x) (h' x)
theorem Wok.one {m : Nat} (h1 : x.length ≤ m) (h2 : ∀ z ∈ x, 0 ≤ z ∧ z ≤ 255) : Wok m [x] := fun y hy => by
  simp at hy
  subst hy
  exact ⟨h1, h2⟩
theorem Wok.nil {m : Nat} : Wok m [] := fun y hy => by simp at hy
theorem Wok.len : ∀ {W : List (List Int)} {m : Nat}, Wok m W → (catL W).length ≤ (m + 2) * W.length
  | [], m, _ => by simp [catL]
  | x :: W, m, h => by
    have h1 := (h x (by simp)).1
    have h2 := Wok.len (W := W) (m := m) (fun y hy => h y (by simp [hy]))
    rw [catL_cons, List.length_append, packL_len, List.length_cons, Nat.mul_add]
    omega
theorem Wok.bytes {m : Nat} (h : Wok m W) (hm : m ≤ 200) : ∀ z ∈ catL W, 0 ≤ z ∧ z ≤ 255 := by
  intro z hz
  unfold catL at hz
  obtain ⟨l, h1, h2⟩ := List.mem_flatten.1 hz
  obtain ⟨x, h3, rfl⟩ := List.mem_map.1 h1
  obtain ⟨h4, h5⟩ := h x h3
  unfold packL at h2
  simp at h2
  rcases h2 with rfl | h2 | rfl
  · omega
  · exact h5 z h2
  · omega
theorem kept_two {m : Nat} {y t : List Int} (hW : ∀ x ∈ W, x.length ≤ 200) (hX : ∀ x ∈ X, x.length ≤ 200) (hy : y.length ≤ 200) (h1 : (catL W).length ≤ m) (ht : badL t) (h : (catL (W ++ [y])).take m = catL X ++ t) : X = W ∨ X = W ++ [y] := by
  rw [catL_snoc, List.take_append, List.take_of_length_le h1] at h
  by_cases hm : (packL y).length ≤ m - (catL W).length
  · rw [List.take_of_length_le hm, ← catL_snoc] at h
    right
    refine (scan_uniq (X := W ++ [y]) (Y := X) (s := []) (t := t) (fun x hx => ?_) hX badL_nil ht (by rw [List.append_nil]; exact h)).1.symm
    rcases List.mem_append.1 hx with h | h
    · exact hW x h
    · simp at h
      subst h
      exact hy
  · left
    refine (scan_uniq hW hX (bad_cut (y := y) (t := (packL y).drop (m - (catL W).length)) (List.take_append_drop _ _) (fun e => ?_)) ht h).1.symm
    have := congrArg List.length e
    rw [List.length_drop] at this
    simp only [List.length_nil] at this
    omega
theorem kept_one {m : Nat} {t : List Int} (hW : ∀ x ∈ W, x.length ≤ 200) (hX : ∀ x ∈ X, x.length ≤ 200) (h1 : (catL W).length ≤ m) (ht : badL t) (h : (catL W).take m = catL X ++ t) : X = W := by
  rw [List.take_of_length_le h1] at h
  exact (scan_uniq hW hX badL_nil ht (by rw [List.append_nil]; exact h)).1.symm
end
end Go.Proofs.Ytplmfmcogbdpjaa.Dk
