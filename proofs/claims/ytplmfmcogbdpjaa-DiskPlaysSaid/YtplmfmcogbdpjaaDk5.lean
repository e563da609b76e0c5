/- A disk: what is synced, what is read. -/
import Derived.Test.YtplmfmcogbdpjaaDk4
namespace Go.Proofs.Ytplmfmcogbdpjaa.Dk
open Go Go.RowKit Go.Proofs.Ytplmfmcogbdpjaa Go.Proofs.Ytplmfmcogbdpjaa.Crw Go.Proofs.Ytplmfmcogbdpjaa.Vl Go.ChangeShapes Go.WideShapes Go.ChangeAt
set_option linter.unusedVariables false
set_option maxRecDepth 100000
section
variable {w w' : World} {B d mb : Nat} {U V : Nat → Prop} {s s' : Ds} {F : List Fi} {p : ByteArray}
theorem own_reads {B z n : Nat} {e : TypeId} {A : Option Addr} {c : Nat} {xs : List Value} (h : w.ownsRow B e z (.slice A n c) n xs) : Reads w w.heap.size z A n xs := by
  refine ⟨h.1, fun hn => ?_⟩
  obtain ⟨u, rfl⟩ := own_some h hn
  exact ⟨⟨u, 0, none⟩, rfl, (h.lt u rfl).2, h.cells rfl⟩
theorem DkP.weaken {V' : Nat → Prop} (h : DkP w B d mb V' s F) (hv : ∀ b, V' b → V b) (hl : ∀ b, V b → b < w.heap.size) (hg : ∀ b, V b → B ≤ b) : DkP w B d mb V s F :=
  ⟨h.blk, h.mpB, h.fls, h.rows, h.uniq, h.apart, h.apartV, ⟨hv _ h.vm.1, hv _ h.vm.2⟩, fun k x hx => ⟨hv _ (h.vx k x hx).1, fun b hb => hv _ ((h.vx k x hx).2 b hb)⟩, hl, hg⟩
set_option maxHeartbeats 4000000 in
theorem CloneB {v : Value} {n : Nat} {xs : List Int} (ho : w.ownsRow B 5 1 v n (bsV xs)) (hn : n ≤ 1048576) :
    Calls Try.prog 69 #[v] w fun e w' => ∃ v', e = .returned v' ∧ w'.ownsRow w.heap.size 5 1 v' n (bsV xs) ∧ Below w.heap.size w w' := by
  obtain ⟨i0, hi, hz0, hz1, hz2⟩ := info_parts byte_infoD
  have ho' := Lib.hid ho
  rcases ho.2 with ⟨rfl, h0⟩ | ⟨g, cap, cur, rfl, -, -, -⟩
  · subst h0
    have heq : ∀ w1, (binOp .eql 28 (.slice none 0 0) (.slice none 0 0)).run Try.prog w1 = .ok (.bool true) w1 := fun w1 => Lib.run_eql_slice_nil w1 28 5 none 0 0 0 0 Try.underlying28
    clear ho
    go_enter Try.func69, Try.ntmps69
    go_wp2_with fail
    go_ret
    exact ⟨_, rfl, ⟨ho'.out.1, .inl ⟨rfl, rfl⟩⟩, Below.refl _ _⟩
  · have heq : ∀ w1, (binOp .eql 28 (.slice (some ⟨g, 0, none⟩) n cap) (.slice none 0 0)).run Try.prog w1 = .ok (.bool false) w1 := fun w1 => Lib.run_eql_slice_nil w1 28 5 (some ⟨g, 0, none⟩) n cap 0 0 Try.underlying28
    have hr := Lib.hid (own_reads ho)
    clear ho
    go_enter Try.func69, Try.ntmps69
    go_wp2_with (at_builtin; refine wpList_append_any _ rfl _ _ 28 rfl w.heap.size 5 i0 (.int .u8 0) 1 1 Try.underlying28 hi hz0 hz1 hz2 rfl (by decide) (.slice (some ⟨w.heap.size, 0, none⟩) 0 0) 0 [] rfl ⟨by simp, .inr ⟨w.heap.size, 0, #[], rfl, Nat.le_refl _, heap_alloc_new w _, Nat.le_refl _, by decide, rfl, rfl⟩⟩ w.heap.size (some ⟨g, 0, none⟩) n cap (bsV xs) rfl (reads_vol (U := fun _ => False) hr.out (Nat.le_refl _) ((Vol.refl w).alloc _) (fun _ _ h => h)) (bsV_one xs) (by simp only [maxLen]; omega) (by omega) (by simp) ?_; intro v2 d2 hown2 hg2 hn2; rw [Nat.zero_add, List.nil_append] at hown2)
    go_ret
    exact ⟨v2, rfl, hown2, ((Below.refl w.heap.size w).alloc (Nat.le_refl _) _).grown hg2 (by simp) (fun k hk => by injection hk with hk; subst hk; exact Nat.le_refl _)⟩
set_option maxHeartbeats 4000000 in
theorem Read_yes (H : DkP w B d mb V s F) {j : Nat} {x : Fi} (hj : F[j]? = some x) (hxp : x.p = p) (hxl : x.bs.length ≤ 65536) :
    Calls Try.prog 28 #[.pointer (some ⟨d, 0, none⟩), .string p] w fun r w' => ∃ v', r = .returned (.tuple #[v', .bool true]) ∧ w'.ownsRow w.heap.size 5 1 v' x.bs.length (bsV x.bs) ∧ Below w.heap.size w w' := by
  have c2 : w.cell? ⟨d, 2, none⟩ = some (.map (some mb)) := H.blk.cell 2
  have l3 := flook_yes H hj true
  rw [hxp] at l3
  obtain ⟨g, hg⟩ : ∃ g, g = x.g := ⟨_, rfl⟩
  unfold fptr at l3
  rw [← hg] at l3
  have hC := CloneB (H.rows j x hj) (by omega)
  have c0 : w.cell? ⟨g, 0, none⟩ = some x.v := by rw [hg]; exact (H.fls j x hj).cell 0
  clear H hj hg
  go_enter Try.func28, Try.ntmps28
  go_wp2_with (go_at_call 69; refine hC.mono ?_; rintro r w1 ⟨v', rfl, ho, hb⟩)
  go_ret2
  exact ⟨v', rfl, ho, hb⟩
set_option maxHeartbeats 4000000 in
theorem Read_no (H : DkP w B d mb V s F) (hno : ∀ (k : Nat) (x : Fi), F[k]? = some x → hitP p x = false) :
    Calls Try.prog 28 #[.pointer (some ⟨d, 0, none⟩), .string p] w fun r w' => r = .returned (.tuple #[.slice none 0 0, .bool false]) ∧ Below w.heap.size w w' := by
  have c2 : w.cell? ⟨d, 2, none⟩ = some (.map (some mb)) := H.blk.cell 2
  have l3 := flook_no H hno true
  clear H hno
  go_enter Try.func28, Try.ntmps28
  go_wp2_with fail
  go_ret2
  exact ⟨rfl, Below.refl _ _⟩
set_option maxHeartbeats 4000000 in
theorem settle_ {g : Nat} {x : Fi} (hk : Blk w g 86 (fiC x)) (A1 : Option Addr) (L c1 : Nat) (hv : x.v = .slice A1 L c1) :
    Calls Try.prog 65 #[.pointer (some ⟨g, 0, none⟩)] w fun r w' => (∃ u, r = .returned u) ∧ Blk w' g 86 (fiC { x with sy := L, fi := true }) ∧ Vol (fun b => b = g) w w' := by
  have c0 : w.cell? ⟨g, 0, none⟩ = some (.slice A1 L c1) := by rw [← hv]; exact hk.cell 0
  have f1 : w.frozen? ⟨g, 1, none⟩ = false := hk.frozen 1
  have c1' : w.cell? ⟨g, 1, none⟩ = some (.int .i64 x.sy) := hk.cell 1
  have c2' : (w.setCell ⟨g, 1, none⟩ (.int .i64 L)).cell? ⟨g, 2, none⟩ = some (.bool x.fi) := (hk.set_ 1 (.int .i64 L)).cell 2
  have f2' : (w.setCell ⟨g, 1, none⟩ (.int .i64 L)).frozen? ⟨g, 2, none⟩ = false := (hk.set_ 1 (.int .i64 L)).frozen 2
  have HK := Lib.hid hk
  clear hk
  go_enter Try.func65, Try.ntmps65
  go_wp2_with fail
  go_end0
  refine ⟨⟨_, rfl⟩, by simpa using (HK.out.set_ 1 (.int .i64 L)).set_ 2 (.bool true), ?_⟩
  exact Vol.setCell (V := fun b => b = g) (a := ⟨g, 2, none⟩) (Vol.setCell (V := fun b => b = g) (a := ⟨g, 1, none⟩) (Vol.refl w) (.inl rfl) _) (.inl rfl) _
set_option maxHeartbeats 4000000 in
theorem find_yes (H : DkP w B d mb V s F) {j : Nat} {x : Fi} (hj : F[j]? = some x) (hxp : x.p = p) (hp : p.toList.isEmpty = false) (hs : s.de = false) :
    Calls Try.prog 63 #[.pointer (some ⟨d, 0, none⟩), .string p] w fun r w' => r = .returned (.tuple #[.pointer (some ⟨x.g, 0, none⟩), .int .i64 0]) ∧ Below w.heap.size w w' := by
  obtain ⟨W, hW⟩ : ∃ W, W = w.alloc (.cells #[.string p] 9) := ⟨_, rfl⟩
  have hbW : Below w.heap.size w W := by rw [hW]; exact (Below.refl _ _).alloc (Nat.le_refl _) _
  have hkW : Blk W w.heap.size 9 #[.string p] := by rw [hW]; exact Blk.new _ _ _
  have H1 := H.below hbW
  have hRf := refuse1 H1.blk hs hkW hp
  have HW := Lib.hid hW
  have HJ := Lib.hid hj
  have HP := Lib.hid hxp
  have HH := Lib.hid H1
  have HB := Lib.hid hbW
  clear hW hj H H1 hbW hkW hxp
  go_enter Try.func63, Try.ntmps63
  go_wp2_with (go_at_call 61; rw [← HW.out]; refine hRf.mono ?_; rintro r w1 ⟨rfl, b1⟩; have H2 := HH.out.below b1; have c2 : w1.cell? ⟨d, 2, none⟩ = some (.map (some mb)) := H2.blk.cell 2; have l3 := flook_yes H2 HJ.out true; rw [HP.out] at l3; unfold fptr at l3)
  go_ret2
  exact ⟨rfl, HB.out.trans (b1.mono HB.out.size)⟩
set_option maxHeartbeats 4000000 in
theorem Sync_yes (H : DkP w B d mb V s F) {j : Nat} {x : Fi} (hj : F[j]? = some x) (hxp : x.p = p) (hp : p.toList.isEmpty = false) (hs : s.de = false ∧ s.fu = false) :
    Calls Try.prog 25 #[.pointer (some ⟨d, 0, none⟩), .string p] w fun r w' => r = .returned (.int .i64 0) ∧ DkP w' B d mb V s (F.set j { x with sy := x.bs.length, fi := true }) ∧ Vol V w w' := by
  have hF := find_yes H hj hxp hp hs.1
  have HJ := Lib.hid hj
  have HH := Lib.hid H
  obtain ⟨A1, c1, hxv, -, -⟩ := own_slice (H.rows j x hj)
  have HX := Lib.hid hxv
  clear hj H hxv
  go_enter Try.func25, Try.ntmps25
  go_wp2_with (first | (go_at_call 63; refine hF.mono ?_; rintro r w1 ⟨rfl, b1⟩; have H2 := HH.out.below b1; have hBu := burn0 H2.blk hs.2; have H2' := Lib.hid H2; clear H2) | (go_at_call 62; refine hBu.mono ?_; rintro r w3 ⟨rfl, b3⟩; have H4 := H2'.out.below b3; have hSe := settle_ (H4.fls j x HJ.out) A1 _ c1 HX.out; have H4' := Lib.hid H4; clear H4) | (go_at_call 65; refine hSe.mono ?_; rintro r w4 ⟨⟨u, rfl⟩, hb4, hv4⟩))
  go_ret
  have hvv : Vol (fun b => b = d ∨ b = x.g ∨ x.v.ownBlock = some b) w3 w4 := hv4.mono (fun b e => .inr (.inl e))
  have hT := H4'.out.turn (s' := s) (x' := { x with sy := x.bs.length, fi := true }) HJ.out rfl rfl hvv (blk_vol H4'.out.blk hv4 (fun e => blk_ne (H4'.out.fls j x HJ.out) H4'.out.blk (by decide) e.symm)) hb4 (own_vol (H4'.out.rows j x HJ.out) hv4 (fun b hb e => own_blk_ne (H4'.out.rows j x HJ.out) (H4'.out.fls j x HJ.out) (by decide) (by rw [hb, e]))) (fun b e => .inl e)
  refine ⟨rfl, ?_, ?_⟩
  · refine hT.weaken ?_ (fun b e => Nat.lt_of_lt_of_le (H4'.out.lt b e) hv4.size) H4'.out.ge
    rintro b (e | ⟨e1, e2⟩)
    · exact e
    · exact ((H4'.out.vx j x HJ.out).2 b e2)
  · exact (Vol.of_below (b1.trans (b3.mono b1.size))).trans hv4 (fun b e => .inl (by rw [e]; exact (H4'.out.vx j x HJ.out).1))
end
end Go.Proofs.Ytplmfmcogbdpjaa.Dk
