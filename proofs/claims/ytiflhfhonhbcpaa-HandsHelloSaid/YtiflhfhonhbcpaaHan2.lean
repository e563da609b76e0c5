/- The hands: a run that is started. -/
import Derived.Test.YtiflhfhonhbcpaaHan
namespace Go.Proofs.Ytiflhfhonhbcpaa.Han
open Go Go.RowKit Go.Proofs.Ytiflhfhonhbcpaa Go.Proofs.Ytiflhfhonhbcpaa.Crw Go.Proofs.Ytiflhfhonhbcpaa.Mas Go.ChangeShapes Go.WideShapes Go.ChangeAt
set_option linter.unusedVariables false
set_option maxRecDepth 100000
section
variable {w w' : World} {B h xb sb kb : Nat} {V U : Nat → Prop} {R : List Pr} {S : List Int} {v : Value}
set_option maxHeartbeats 8000000 in
/-- A run that came before. -/
theorem Start_yes (H : HnP w B h xb sb kb V R S v) {n : Int} (hn : n ∈ S) :
    Calls Try.prog 44 #[.pointer (some ⟨h, 0, none⟩), rk n] w fun r w' => r = .returned (.slice none 0 0) ∧ Below w.heap.size w w' := by
  obtain ⟨W, hW⟩ : ∃ W, W = w.alloc (.cells #[.string rF, .string rE, .int .i64 n] 90) := ⟨_, rfl⟩
  obtain ⟨gr, hgr⟩ : ∃ gr, gr = w.heap.size := ⟨_, rfl⟩
  have hb : Below w.heap.size w W := by rw [hW]; exact (Below.refl _ _).alloc (Nat.le_refl _) _
  have hk : Blk W gr 90 #[.string rF, .string rE, .int .i64 n] := by rw [hW, hgr]; exact Blk.new _ _ _
  have HW := Lib.hid hW
  have HG := Lib.hid hgr
  have hl : ∀ {wa : World}, HnP wa B h xb sb kb V R S v → (Instr.lookup 84 (.map (some sb)) (rk n) true).run Try.prog wa = .ok (.tuple #[.agg #[], .bool true]) wa := fun H => by exact sd_yes H.sd hn
  have keep : ∀ {wa wb : World}, (wa.cell? ⟨h, 2, none⟩ = some (.map (some sb)) ∧ wa.cell? ⟨gr, 0, none⟩ = some (.string rF) ∧ wa.cell? ⟨gr, 1, none⟩ = some (.string rE) ∧ wa.cell? ⟨gr, 2, none⟩ = some (.int .i64 n) ∧ (Instr.lookup 84 (.map (some sb)) (rk n) true).run Try.prog wa = .ok (.tuple #[.agg #[], .bool true]) wa ∧ (HnP wa B h xb sb kb V R S v ∧ Blk wa gr 90 #[.string rF, .string rE, .int .i64 n] ∧ Below w.heap.size w wa)) → Below wa.heap.size wa wb → (wb.cell? ⟨h, 2, none⟩ = some (.map (some sb)) ∧ wb.cell? ⟨gr, 0, none⟩ = some (.string rF) ∧ wb.cell? ⟨gr, 1, none⟩ = some (.string rE) ∧ wb.cell? ⟨gr, 2, none⟩ = some (.int .i64 n) ∧ (Instr.lookup 84 (.map (some sb)) (rk n) true).run Try.prog wb = .ok (.tuple #[.agg #[], .bool true]) wb ∧ (HnP wb B h xb sb kb V R S v ∧ Blk wb gr 90 #[.string rF, .string rE, .int .i64 n] ∧ Below w.heap.size w wb)) := fun k hb => by
    obtain ⟨_, _, _, _, _, k6, k7, k8⟩ := k
    have j6 := k6.below hb
    have j7 := k7.below hb k7.lt
    exact ⟨j6.blk.cell 2, j7.cell 0, j7.cell 1, j7.cell 2, hl j6, j6, j7, k8.trans (hb.mono k8.size)⟩
  have hD : ∀ {wa : World}, Below wa.heap.size wa wa.drew := (Below.refl _ _).drew
  have hA : ∀ {wa : World} {o : Obj}, Below wa.heap.size wa (wa.alloc o) := (Below.refl _ _).alloc (Nat.le_refl _) _
  have h7 := H.below hb
  have hS0 : (W.cell? ⟨h, 2, none⟩ = some (.map (some sb)) ∧ W.cell? ⟨gr, 0, none⟩ = some (.string rF) ∧ W.cell? ⟨gr, 1, none⟩ = some (.string rE) ∧ W.cell? ⟨gr, 2, none⟩ = some (.int .i64 n) ∧ (Instr.lookup 84 (.map (some sb)) (rk n) true).run Try.prog W = .ok (.tuple #[.agg #[], .bool true]) W ∧ (HnP W B h xb sb kb V R S v ∧ Blk W gr 90 #[.string rF, .string rE, .int .i64 n] ∧ Below w.heap.size w W)) := ⟨h7.blk.cell 2, hk.cell 0, hk.cell 1, hk.cell 2, hl h7, h7, hk, hb⟩
  clear hW hgr hb hk h7 hl H
  go_enter Try.func44, Try.ntmps44
  go_upto_region 1 with fail
  rw [← HW.out, ← HG.out]
  go_region_held3 (fun wa => wa.cell? ⟨h, 2, none⟩ = some (.map (some sb)) ∧ wa.cell? ⟨gr, 0, none⟩ = some (.string rF) ∧ wa.cell? ⟨gr, 1, none⟩ = some (.string rE) ∧ wa.cell? ⟨gr, 2, none⟩ = some (.int .i64 n) ∧ (Instr.lookup 84 (.map (some sb)) (rk n) true).run Try.prog wa = .ok (.tuple #[.agg #[], .bool true]) wa ∧ (HnP wa B h xb sb kb V R S v ∧ Blk wa gr 90 #[.string rF, .string rE, .int .i64 n] ∧ Below w.heap.size w wa)) (first | assumption | exact keep (by assumption) (by assumption) | exact keep (by assumption) hD | exact keep (by assumption) hA | exact keep (keep (by assumption) hD) hA) (first | fail)
  all_goals
    rename_i hHeld
    go_wp2_with fail
    go_ret
    exact ⟨rfl, hHeld.2.2.2.2.2.2.2⟩
theorem get_pushP {R : List Pr} {k : Nat} {x y : Pr} (h : (R ++ [x])[k]? = some y) : (k = R.length ∧ y = x) ∨ (k < R.length ∧ R[k]? = some y) := by
  rcases Nat.lt_or_ge k R.length with e | e
  · rw [List.getElem?_append_left e] at h
    exact .inr ⟨e, h⟩
  · rw [List.getElem?_append_right e] at h
    have : k - R.length = 0 := by
      have := (List.getElem?_eq_some_iff.1 h).1
      simp at this; omega
    rw [this] at h
    simp only [List.getElem?_cons_zero, Option.some.injEq] at h
    exact .inl ⟨by omega, h.symm⟩
theorem HnP.push {v' : Value} (H : HnP w B h xb sb kb V R S v) (p : Pr) (hn : p.n ∉ S) (hvol : Vol (fun b => b = h ∨ b = xb ∨ b = sb ∨ v.ownBlock = some b) w w') (hblk : Blk w' h 88 #[v', .map (some xb), .map (some sb), .slice none 0 0, .map (some kb)])
    (hex : MapAt w' xb ((R ++ [p]).map exE)) (hsd : MapAt w' sb ((S ++ [p.n]).map sdE)) (hp : Blk w' p.g 98 (prC p.n)) (hrow : w'.ownsRow B 94 1 v' (R ++ [p]).length ((R ++ [p]).map ptr)) (hge : w.heap.size ≤ p.g)
    (hv : ∀ b, v'.ownBlock = some b → v.ownBlock = some b ∨ w.heap.size ≤ b) : HnP w' B h xb sb kb (fun b => V b ∨ (w.heap.size ≤ b ∧ (b = p.g ∨ v'.ownBlock = some b))) (R ++ [p]) (S ++ [p.n]) v' := by
  have hBw : B ≤ w.heap.size := Nat.le_trans (H.ge h H.vm.1) (Nat.le_of_lt H.blk.lt)
  refine ⟨hblk, hex, hsd, fun k y hy => ?_, hrow, fun k y hy => ?_, fun i k y z hy hz e => ?_, fun i k y z hy hz e => ?_, H.ne, ⟨.inl H.vm.1, .inl H.vm.2.1, .inl H.vm.2.2⟩, fun k y hy => ?_, fun b hb => ?_, fun b hb => ?_, fun b hb => ?_⟩
  · rcases get_pushP hy with ⟨_, rfl⟩ | ⟨_, hy⟩
    · exact hp
    · have hb := H.prs k y hy
      refine blk_vol hb hvol (fun e => ?_)
      rcases e with e | e | e | e
      · exact H.blk.ne_ hb (by decide) e.symm
      · exact blk_map_ne hb H.ex e
      · exact blk_map_ne hb H.sd e
      · exact own_blk_ne H.row hb (by decide) e
  · rcases get_pushP hy with ⟨_, rfl⟩ | ⟨_, hy⟩
    · simp
    · exact List.mem_append_left _ (H.sub k y hy)
  · rcases get_pushP hy with ⟨e1, rfl⟩ | ⟨_, hy'⟩
    · rcases get_pushP hz with ⟨e3, _⟩ | ⟨_, hz'⟩
      · omega
      · exact absurd (e ▸ H.sub k z hz') hn
    · rcases get_pushP hz with ⟨e3, rfl⟩ | ⟨_, hz'⟩
      · exact absurd (e ▸ H.sub i y hy') hn
      · exact H.uniq i k y z hy' hz' e
  · rcases get_pushP hy with ⟨e1, rfl⟩ | ⟨_, hy'⟩
    · rcases get_pushP hz with ⟨e3, _⟩ | ⟨_, hz'⟩
      · omega
      · have := (H.prs k z hz').lt; omega
    · rcases get_pushP hz with ⟨e3, rfl⟩ | ⟨_, hz'⟩
      · have := (H.prs i y hy').lt; omega
      · exact H.apart i k y z hy' hz' e
  · rcases get_pushP hy with ⟨_, rfl⟩ | ⟨_, hy⟩
    · exact .inr ⟨hge, .inl rfl⟩
    · exact .inl (H.vp k y hy)
  · rcases hv b hb with e | e
    · exact .inl (H.vr b e)
    · exact .inr ⟨e, .inr hb⟩
  · rcases hb with hb | ⟨_, rfl | hb⟩
    · exact Nat.lt_of_lt_of_le (H.lt b hb) hvol.size
    · exact hp.lt
    · exact (hrow.lt b hb).2
  · rcases hb with hb | ⟨hb, _⟩
    · exact H.ge b hb
    · omega
end
end Go.Proofs.Ytiflhfhonhbcpaa.Han
