/- A disk: Rename. -/
import Derived.Test.YtplmfmcogbdpjaaDkB
namespace Go.Proofs.Ytplmfmcogbdpjaa.Dk
open Go Go.RowKit Go.Proofs.Ytplmfmcogbdpjaa Go.Proofs.Ytplmfmcogbdpjaa.Crw Go.Proofs.Ytplmfmcogbdpjaa.Vl Go.ChangeShapes Go.WideShapes Go.ChangeAt
set_option linter.unusedVariables false
set_option maxRecDepth 100000
section
variable {w w' : World} {B d mb : Nat} {U V : Nat → Prop} {s s' : Ds} {F : List Fi} {p q : ByteArray}
set_option maxHeartbeats 4000000 in
theorem Index2 {g : Nat} (hb : Blk w g 9 #[.string p, .string q]) (hp : p.toList.isEmpty = false) (hq : q.toList.isEmpty = false) :
    Calls Try.prog 84 #[.slice (some ⟨g, 0, none⟩) 2 2, .string ⟨#[]⟩] w fun r w' => r = .returned (.int .i64 (-1)) ∧ Below w.heap.size w w' := by
  go_enter Try.func84, Try.ntmps84
  go_wp2_with fail
  go_loopw [8] (fun i wr => (i = .int .i64 0 ∨ i = .int .i64 1 ∨ i = .int .i64 2) ∧ Below w.heap.size w wr) (fun i _ => 3 - (intOf i).toNat)
  case atStart => exact ⟨.inl rfl, Below.refl _ _⟩
  case round =>
    obtain ⟨rfl | rfl | rfl, hbel⟩ := hrel
    · have c1 : wr.cell? ⟨g, 0, none⟩ = some (.string p) := (hb.below hbel hb.lt).cell 0
      clear hb
      go_wp2
      go_roundw
      case rel => exact ⟨.inr (.inl (by go_num)), hbel⟩
      case measure => simp [intOf]
    · have c1 : wr.cell? ⟨g, 1, none⟩ = some (.string q) := (hb.below hbel hb.lt).cell 1
      clear hb
      go_wp2
      go_roundw
      case rel => exact ⟨.inr (.inr (by go_num)), hbel⟩
      case measure => simp [intOf]
    · clear hb
      go_wp2
      go_ret
      exact ⟨rfl, hbel⟩
set_option maxHeartbeats 4000000 in
theorem Contains2 {g : Nat} (hb : Blk w g 9 #[.string p, .string q]) (hp : p.toList.isEmpty = false) (hq : q.toList.isEmpty = false) :
    Calls Try.prog 79 #[.slice (some ⟨g, 0, none⟩) 2 2, .string ⟨#[]⟩] w fun r w' => r = .returned (.bool false) ∧ Below w.heap.size w w' := by
  go_enter Try.func79, Try.ntmps79
  go_wp2_with (go_at_call 84; refine (Index2 hb hp hq).mono ?_; rintro r w1 ⟨rfl, b1⟩)
  go_ret
  exact ⟨rfl, b1⟩
set_option maxHeartbeats 4000000 in
theorem refuse2 {g : Nat} (hd : Blk w d 80 (dsC s mb)) (hs : s.de = false) (hb : Blk w g 9 #[.string p, .string q]) (hp : p.toList.isEmpty = false) (hq : q.toList.isEmpty = false) :
    Calls Try.prog 61 #[.pointer (some ⟨d, 0, none⟩), .slice (some ⟨g, 0, none⟩) 2 2] w fun r w' => r = .returned (.int .i64 0) ∧ Below w.heap.size w w' := by
  have c5 : w.cell? ⟨d, 5, none⟩ = some (.bool false) := by rw [← hs]; exact hd.cell 5
  go_enter Try.func61, Try.ntmps61
  go_wp2_with (go_at_call 79; refine (Contains2 hb hp hq).mono ?_; rintro r w1 ⟨rfl, b1⟩)
  go_ret
  exact ⟨rfl, b1⟩
theorem DkP.settled (h : DkP w B d mb V s F) {j : Nat} {x : Fi} (hj : F[j]? = some x) (hb4 : Blk w' x.g 86 (fiC { x with sy := x.bs.length, fi := true })) (hv4 : Vol (fun b => b = x.g) w w') : DkP w' B d mb V s (F.set j { x with sy := x.bs.length, fi := true }) ∧ Vol V w w' := by
  have hvv : Vol (fun b => b = d ∨ b = x.g ∨ x.v.ownBlock = some b) w w' := hv4.mono (fun b e => .inr (.inl e))
  have hT := h.turn (s' := s) (x' := { x with sy := x.bs.length, fi := true }) hj rfl rfl hvv (blk_vol h.blk hv4 (fun e => blk_ne (h.fls j x hj) h.blk (by decide) e.symm)) hb4 (own_vol (h.rows j x hj) hv4 (fun b hb e => own_blk_ne (h.rows j x hj) (h.fls j x hj) (by decide) (by rw [hb, e]))) (fun b e => .inl e)
  refine ⟨hT.weaken ?_ (fun b e => Nat.lt_of_lt_of_le (h.lt b e) hv4.size) h.ge, hv4.mono (fun b e => by rw [e]; exact (h.vx j x hj).1)⟩
  rintro b (e | ⟨e1, e2⟩)
  · exact e
  · exact (h.vx j x hj).2 b e2
/-- What remove makes of the files: none of that name is left. -/
structure Gone (w w' : World) (B d mb : Nat) (V : Nat → Prop) (s : Ds) (F G : List Fi) (t : Nat) (q : ByteArray) : Prop where
  dk : DkP w' B d mb V { s with u := s.u - t } G
  vol : Vol V w w'
  no : ∀ (k : Nat) (y : Fi), G[k]? = some y → hitP q y = false
set_option maxHeartbeats 8000000 in
/-- Rename onto a name; j, the file's place behind 'remove'. -/
theorem Rename_ (H : DkP w B d mb V s F) {j : Nat} {x : Fi} (hj : F[j]? = some x) (hxp : x.p = p) (hp : p.toList.isEmpty = false) (hq : q.toList.isEmpty = false) (hpq : (p.toList == q.toList) = false) (hs : s.de = false ∧ s.fu = false) {G : List Fi} {i t : Nat} (hi : G[i]? = some { x with sy := x.bs.length, fi := true })
    (hrm : ∀ wa, DkP wa B d mb V s (F.set j { x with sy := x.bs.length, fi := true }) → Calls Try.prog 66 #[.pointer (some ⟨d, 0, none⟩), .string q] wa fun r w' => (∃ u, r = .returned u) ∧ Gone wa w' B d mb V s (F.set j { x with sy := x.bs.length, fi := true }) G t q) :
    Calls Try.prog 19 #[.pointer (some ⟨d, 0, none⟩), .string p, .string q] w fun r w' => r = .returned (.int .i64 0) ∧ DkP w' B d mb V { s with u := s.u - t } (G.eraseIdx i ++ [{ x with sy := x.bs.length, fi := true, p := q }]) ∧ Vol V w w' := by
  obtain ⟨W, hW⟩ : ∃ W, W = w.alloc (.cells #[.string p, .string q] 9) := ⟨_, rfl⟩
  have hbW : Below w.heap.size w W := by rw [hW]; exact (Below.refl _ _).alloc (Nat.le_refl _) _
  have hkW : Blk W w.heap.size 9 #[.string p, .string q] := by rw [hW]; exact Blk.new _ _ _
  have H1 := H.below hbW
  have hRf := refuse2 H1.blk hs.1 hkW hp hq
  obtain ⟨A1, c1, hxv, -, -⟩ := own_slice (H.rows j x hj)
  obtain ⟨g, hg⟩ : ∃ g, g = x.g := ⟨_, rfl⟩
  have HW := Lib.hid hW
  have HJ := Lib.hid hj
  have HP := Lib.hid hxp
  have HI := Lib.hid hi
  have HX := Lib.hid hxv
  have HG := Lib.hid hg
  have HH := Lib.hid H1
  have HB := Lib.hid hbW
  clear hW hj H H1 hbW hkW hxp hi hxv hg
  go_enter Try.func19, Try.ntmps19
  go_wp2_with fail
  rw [← HW.out]
  refine hRf.mono ?_
  rintro r w1 ⟨rfl, b1⟩
  have H2 := HH.out.below b1
  have hF := find_yes H2 HJ.out HP.out hp hs.1
  rw [← HG.out] at hF
  have H2' := Lib.hid H2
  clear H2 hRf
  go_wp2_with fail
  refine hF.mono ?_
  rintro r w2 ⟨rfl, b2⟩
  have H3 := H2'.out.below b2
  have hBu := burn0 H3.blk hs.2
  have H3' := Lib.hid H3
  clear H3 hF
  go_wp2_with fail
  refine hBu.mono ?_
  rintro r w3 ⟨rfl, b3⟩
  have H4 := H3'.out.below b3
  have hSe := settle_ (H4.fls j x HJ.out) A1 _ c1 HX.out
  rw [← HG.out] at hSe
  have H4' := Lib.hid H4
  clear H4 hBu
  go_wp2_with fail
  refine hSe.mono ?_
  rintro r w4 ⟨⟨u4, rfl⟩, hb4, hv4⟩
  clear hSe
  have H5 : DkP w4 B d mb V s (F.set j { x with sy := x.bs.length, fi := true }) ∧ Vol V w3 w4 := H4'.out.settled HJ.out (by rw [← HG.out]; exact hb4) (by rw [← HG.out]; exact hv4)
  have hR := hrm w4 H5.1
  have V45 := Lib.hid H5.2
  clear H5 hb4 hv4 hrm
  go_wp2_with fail
  refine hR.mono ?_
  rintro r w5 ⟨⟨u5, rfl⟩, hG⟩
  have y2 : w5.cell? ⟨d, 2, none⟩ = some (.map (some mb)) := hG.dk.blk.cell 2
  obtain ⟨d2, e2, hm2, hg2⟩ := fdel_yes hG.dk HI.out 0
  have e2' : (Builtin.delete_ #[78, 9] 0 #[.map (some mb), .string p]).run Try.prog w5 = .ok (.tuple #[]) d2 := by rw [← HP.out]; exact e2
  have vol2 : Vol (fun b => b = mb) w5 d2 := (Vol.refl w5).grown hg2 (fun k hk => .inl (by injection hk with hk; exact hk.symm))
  have H7 := hG.dk.erase i (vol2.mono (fun b e => .inr e)) (blk_vol hG.dk.blk vol2 (fun e => blk_map_ne hG.dk.blk hG.dk.mp e)) hm2
  have y3 : d2.cell? ⟨d, 2, none⟩ = some (.map (some mb)) := H7.blk.cell 2
  obtain ⟨d3, e3, hm3, hg3⟩ := fput_no H7 (p := q) (fun k y hy => by
    obtain ⟨k', hk, _⟩ := fget_erase hy
    exact hG.no k' y hk) g
  have vol3 : Vol (fun b => b = mb) d2 d3 := (Vol.refl d2).grown hg3 (fun k hk => .inl (by injection hk with hk; exact hk.symm))
  have vol53 : Vol (fun b => b = d ∨ b = mb) w5 d3 := Vol.trans (V := fun b => b = d ∨ b = mb) (vol2.mono (fun b e => .inr e)) vol3 (fun b e => .inl (.inr e))
  have hM := hG.dk.move (q := q) (s' := { s with u := s.u - t }) HI.out (fun k y hy _ => hG.no k y hy) vol53 (blk_vol H7.blk vol3 (fun e => blk_map_ne H7.blk H7.mp e)) (by
    rw [List.map_append]
    show MapB d3 mb ((G.eraseIdx i).map fiE ++ [(.string q, .pointer (some ⟨x.g, 0, none⟩))])
    rw [← HG.out]
    exact hm3)
  have HM := Lib.hid hM
  have HG' := Lib.hid hG
  have V53 := Lib.hid vol53
  clear hR hG e2 hm2 hg2 vol2 H7 hm3 hg3 vol3 vol53 hM
  go_wp2_with fail
  go_ret
  refine ⟨rfl, HM.out, ?_⟩
  have z1 : Below w.heap.size w w3 := ((HB.out.trans (b1.mono HB.out.size)).trans (b2.mono (Nat.le_trans HB.out.size b1.size))).trans (b3.mono (Nat.le_trans HB.out.size (Nat.le_trans b1.size b2.size)))
  refine (((Vol.of_below z1).trans V45.out (fun b e => .inl e)).trans HG'.out.vol (fun b e => .inl e)).trans V53.out ?_
  rintro b (e | e)
  · exact .inl (by rw [e]; exact HG'.out.dk.vm.1)
  · exact .inl (by rw [e]; exact HG'.out.dk.vm.2)
end
end Go.Proofs.Ytplmfmcogbdpjaa.Dk
