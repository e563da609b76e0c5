/- What is open of rows, and what it takes. -/
import Derived.Test.YtlljepgfecodoaaTkA
namespace Go.Proofs.Ytlljepgfecodoaa.Tk
open Go Go.RowKit Go.Proofs.Ytlljepgfecodoaa Go.Proofs.Ytlljepgfecodoaa.Crw Go.ChangeShapes Go.WideShapes Go.ChangeAt
set_option linter.unusedVariables false
set_option maxRecDepth 100000
attribute [local go_sem] run_store_complex
abbrev keyV (x : Tr) : Value := .agg #[.string ⟨#[102]⟩, .string x.t]
set_option maxHeartbeats 4000000 in
theorem keep_one0  (g : Nat) (x : Tr) (s : Int) (w : World) (hx : x.n ≠ 0) (hc : w.cell? ⟨g, 0, none⟩ = some (.func (.func 8) #[] #[]))
    (hs : ∀ wa : World, Below w.heap.size w wa → Calls Try.prog 8 #[keyV x] wa fun e w' => e = .returned (.int .i64 s) ∧ Below wa.heap.size wa w') :
    Calls Try.prog 19 #[.agg (rw5 x).toArray, .pointer (some ⟨g, 0, none⟩)] w fun e w' => e = .returned (.bool (!overB s)) ∧ Below w.heap.size w w' := by
  obtain ⟨gb, hgb⟩ : ∃ g, g = w.heap.size := ⟨_, rfl⟩
  obtain ⟨W, hW⟩ : ∃ W, W = w.alloc (.cells #[.string ⟨#[102]⟩, .string x.t, .string ⟨#[120]⟩, .int .i64 x.n, .complex .f64 (fw x.p) (fw x.q)] 49) := ⟨_, rfl⟩
  have hb : Below w.heap.size w W := by rw [hW]; exact (Below.refl _ _).alloc (Nat.le_refl _) _
  have hbx : Blk W gb 49 #[.string ⟨#[102]⟩, .string x.t, .string ⟨#[120]⟩, .int .i64 x.n, .complex .f64 (fw x.p) (fw x.q)] := by rw [hW, hgb]; exact Blk.new _ _ _
  have hC := hs W hb
  have hcW : W.cell? ⟨g, 0, none⟩ = some (.func (.func 8) #[] #[]) := (hb.cell (p := ⟨g, 0, none⟩) (World.block_lt_of_cell? _ _ hc)).trans hc
  have b0 := hbx.cell 0
  have b1 := hbx.cell 1
  have b2 := hbx.cell 2
  have b3 := hbx.cell 3
  have hn : (x.n != 0) = true := by simpa [bne] using hx
  have hov := fun wa => Over_any s wa
  have HW := Lib.hid (And.intro hW hgb)
  have HB := Lib.hid hb
  clear hs hc hb hbx hW hgb hx
  go_enter Try.func19, Try.ntmps19
  go_upto_region 1 with fail
  rw [← HW.out.1, ← HW.out.2]
  go_wp2_with fail
  refine hC.mono ?_
  rintro e w2 ⟨rfl, hb2⟩
  have HB2 := Lib.hid (HB.out.trans (hb2.mono HB.out.size))
  clear hC hb2 hcW b0 b1 b2 b3
  go_wp2_with fail
  refine (hov _).mono ?_
  rintro e w3 ⟨rfl, rfl⟩
  go_wp2_with fail
  go_ret
  exact ⟨rfl, HB2.out⟩
set_option maxHeartbeats 4000000 in
theorem Open_any0 (A : Option Addr) (n c B : Nat) (L : List Tr)  (s : Tr → Int) (w : World) (hB : B ≤ w.heap.size) (hr : w.ownsRow B 49 5 (.slice A n c) n (rwV L)) (hn : n ≤ 100) (h0 : ∀ x ∈ L, x.n ≠ 0)
    (hs : ∀ (wa : World) (x : Tr), Below w.heap.size w wa → x ∈ L → Calls Try.prog 8 #[keyV x] wa fun e w' => e = .returned (.int .i64 (s x)) ∧ Below wa.heap.size wa w') :
    Calls Try.prog 12 #[.slice A n c, .func (.func 8) #[] #[]] w fun e w' => ∃ v, e = .returned v ∧ w'.ownsRow w.heap.size 49 5 v (L.filter fun x => !overB (s x)).length (rwV (L.filter fun x => !overB (s x))) ∧ Below w.heap.size w w' := by
  obtain ⟨g, hg⟩ : ∃ g, g = w.heap.size := ⟨_, rfl⟩
  obtain ⟨W, hW⟩ : ∃ W, W = w.alloc (.cells #[.func (.func 8) #[] #[]] 37) := ⟨_, rfl⟩
  have hb : Below w.heap.size w W := by rw [hW]; exact (Below.refl _ _).alloc (Nat.le_refl _) _
  have hbx : Blk W g 37 #[.func (.func 8) #[] #[]] := by rw [hW, hg]; exact Blk.new _ _ _
  have hF := filter_any A n c B L (fun x => !overB (s x)) (.pointer (some ⟨g, 0, none⟩)) W (Nat.le_trans hB hb.size) (own_keep hr hb) hn (fun wa x hwa hx => keep_one0 g x (s x) wa (h0 x hx) ((hwa.cell (p := ⟨g, 0, none⟩) hbx.lt).trans (hbx.cell 0)) (fun wb hwb => hs wb x ((hb.trans (hwa.mono hb.size)).trans (hwb.mono (hb.trans (hwa.mono hb.size)).size)) hx))
  have HW := Lib.hid (And.intro hW hg)
  have HB := Lib.hid hb
  clear hs hr hb hbx hW hg
  go_enter Try.func12, Try.ntmps12
  go_upto_region 1 with fail
  rw [← HW.out.1, ← HW.out.2]
  go_wp2_with fail
  refine hF.mono ?_
  rintro e w2 ⟨v, rfl, ho, hb2⟩
  have HO := Lib.hid ho
  have HB2 := Lib.hid (HB.out.trans (hb2.mono HB.out.size))
  clear hF ho hb2
  go_wp2_with fail
  go_ret
  exact ⟨_, rfl, own_down HO.out HB.out.size, HB2.out⟩
set_option maxHeartbeats 4000000 in
theorem keep_one1  (cp : Value) (g : Nat) (x : Tr) (s : Int) (w : World) (hx : x.n ≠ 0) (hc : w.cell? ⟨g, 0, none⟩ = some (.func (.func 10) #[] #[cp]))
    (hs : ∀ wa : World, Below w.heap.size w wa → Calls Try.prog 10 #[keyV x, cp] wa fun e w' => e = .returned (.int .i64 s) ∧ Below wa.heap.size wa w') :
    Calls Try.prog 19 #[.agg (rw5 x).toArray, .pointer (some ⟨g, 0, none⟩)] w fun e w' => e = .returned (.bool (!overB s)) ∧ Below w.heap.size w w' := by
  obtain ⟨gb, hgb⟩ : ∃ g, g = w.heap.size := ⟨_, rfl⟩
  obtain ⟨W, hW⟩ : ∃ W, W = w.alloc (.cells #[.string ⟨#[102]⟩, .string x.t, .string ⟨#[120]⟩, .int .i64 x.n, .complex .f64 (fw x.p) (fw x.q)] 49) := ⟨_, rfl⟩
  have hb : Below w.heap.size w W := by rw [hW]; exact (Below.refl _ _).alloc (Nat.le_refl _) _
  have hbx : Blk W gb 49 #[.string ⟨#[102]⟩, .string x.t, .string ⟨#[120]⟩, .int .i64 x.n, .complex .f64 (fw x.p) (fw x.q)] := by rw [hW, hgb]; exact Blk.new _ _ _
  have hC := hs W hb
  have hcW : W.cell? ⟨g, 0, none⟩ = some (.func (.func 10) #[] #[cp]) := (hb.cell (p := ⟨g, 0, none⟩) (World.block_lt_of_cell? _ _ hc)).trans hc
  have b0 := hbx.cell 0
  have b1 := hbx.cell 1
  have b2 := hbx.cell 2
  have b3 := hbx.cell 3
  have hn : (x.n != 0) = true := by simpa [bne] using hx
  have hov := fun wa => Over_any s wa
  have HW := Lib.hid (And.intro hW hgb)
  have HB := Lib.hid hb
  clear hs hc hb hbx hW hgb hx
  go_enter Try.func19, Try.ntmps19
  go_upto_region 1 with fail
  rw [← HW.out.1, ← HW.out.2]
  go_wp2_with fail
  refine hC.mono ?_
  rintro e w2 ⟨rfl, hb2⟩
  have HB2 := Lib.hid (HB.out.trans (hb2.mono HB.out.size))
  clear hC hb2 hcW b0 b1 b2 b3
  go_wp2_with fail
  refine (hov _).mono ?_
  rintro e w3 ⟨rfl, rfl⟩
  go_wp2_with fail
  go_ret
  exact ⟨rfl, HB2.out⟩
set_option maxHeartbeats 4000000 in
theorem Open_any1 (A : Option Addr) (n c B : Nat) (L : List Tr)  (cp : Value) (s : Tr → Int) (w : World) (hB : B ≤ w.heap.size) (hr : w.ownsRow B 49 5 (.slice A n c) n (rwV L)) (hn : n ≤ 100) (h0 : ∀ x ∈ L, x.n ≠ 0)
    (hs : ∀ (wa : World) (x : Tr), Below w.heap.size w wa → x ∈ L → Calls Try.prog 10 #[keyV x, cp] wa fun e w' => e = .returned (.int .i64 (s x)) ∧ Below wa.heap.size wa w') :
    Calls Try.prog 12 #[.slice A n c, .func (.func 10) #[] #[cp]] w fun e w' => ∃ v, e = .returned v ∧ w'.ownsRow w.heap.size 49 5 v (L.filter fun x => !overB (s x)).length (rwV (L.filter fun x => !overB (s x))) ∧ Below w.heap.size w w' := by
  obtain ⟨g, hg⟩ : ∃ g, g = w.heap.size := ⟨_, rfl⟩
  obtain ⟨W, hW⟩ : ∃ W, W = w.alloc (.cells #[.func (.func 10) #[] #[cp]] 37) := ⟨_, rfl⟩
  have hb : Below w.heap.size w W := by rw [hW]; exact (Below.refl _ _).alloc (Nat.le_refl _) _
  have hbx : Blk W g 37 #[.func (.func 10) #[] #[cp]] := by rw [hW, hg]; exact Blk.new _ _ _
  have hF := filter_any A n c B L (fun x => !overB (s x)) (.pointer (some ⟨g, 0, none⟩)) W (Nat.le_trans hB hb.size) (own_keep hr hb) hn (fun wa x hwa hx => keep_one1 cp g x (s x) wa (h0 x hx) ((hwa.cell (p := ⟨g, 0, none⟩) hbx.lt).trans (hbx.cell 0)) (fun wb hwb => hs wb x ((hb.trans (hwa.mono hb.size)).trans (hwb.mono (hb.trans (hwa.mono hb.size)).size)) hx))
  have HW := Lib.hid (And.intro hW hg)
  have HB := Lib.hid hb
  clear hs hr hb hbx hW hg
  go_enter Try.func12, Try.ntmps12
  go_upto_region 1 with fail
  rw [← HW.out.1, ← HW.out.2]
  go_wp2_with fail
  refine hF.mono ?_
  rintro e w2 ⟨v, rfl, ho, hb2⟩
  have HO := Lib.hid ho
  have HB2 := Lib.hid (HB.out.trans (hb2.mono HB.out.size))
  clear hF ho hb2
  go_wp2_with fail
  go_ret
  exact ⟨_, rfl, own_down HO.out HB.out.size, HB2.out⟩
end Go.Proofs.Ytlljepgfecodoaa.Tk
