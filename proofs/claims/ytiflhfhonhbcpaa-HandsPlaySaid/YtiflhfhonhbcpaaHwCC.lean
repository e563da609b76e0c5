/- The hands: launch, Hear, Hello, Step. -/
import Derived.Test.YtiflhfhonhbcpaaHwBB
namespace Go.Proofs.Ytiflhfhonhbcpaa.Hw
open Go Go.RowKit Go.Proofs.Ytiflhfhonhbcpaa Go.Proofs.Ytiflhfhonhbcpaa.Crw Go.Proofs.Ytiflhfhonhbcpaa.Vl Go.ChangeShapes Go.WideShapes Go.ChangeAt
set_option linter.unusedVariables false
set_option maxRecDepth 1000000
section
variable {P : Program} (w : World)
theorem step_append_win {ops : Array Oper} {o : Oper} {a : Act} {K : Act → World → Prop} {Q : Exit → Act → World → Prop} {E : Prop} (hgd : o.guard = none) (s x : Operand) (t : TypeId)
    (ho : o.op = .call { callee := .builtin .append, args := #[s, x], argTypes := #[t, t] })
    (base : Nat) (e : TypeId) (i : TypeInfo) (z : Value) (size bytes : Nat) (ht : P.underlying t = some (.slice e)) (hi : P.info? e = some i) (hz : i.zero = some z)
    (hsize : i.size = size) (hby : i.bytes = bytes) (hzs : z.cells.size = size)
    (v : Value) (n : Nat) (xs : List Value) (hs : a.eval s = v) (hown : Win w base e size v n xs)
    (ad : Addr) (m c : Nat) (news : List Value) (hx : a.eval x = .slice (some ad) m c) (hnl : news.length = m * size) (hcells : ∀ j u, news[j]? = some u → w.cell? (ad.add j) = some u) (h1 : ∀ u ∈ news, u.oneCell' = true)
    (hm : 0 < m) (h63 : n + m ≤ maxLen) (hbytes : (n + m) * bytes ≤ 140737488355328) (hbase : base ≤ w.heap.size)
    (h : ∀ v' w', Win w' base e size v' (n + m) (xs ++ news) → w.grownBy w' v.ownBlock → (v'.ownBlock = v.ownBlock ∨ v'.ownBlock = some w.heap.size) → K (a.put o.dst v') w') :
    if Region.wanted o (yielded ops a.tmps) = true then Oper.wp P o a w K Q else E := by
  have hw : Region.wanted o (yielded ops a.tmps) = true := by simp [Region.wanted, hgd]
  rw [if_pos hw]
  exact wp_append_win w s x t ho base e i z size bytes ht hi hz hsize hby hzs v n xs hs hown ad m c news hx hnl hcells h1 hm h63 hbytes hbase h
end
theorem cells_new (W : World) (xs : List Value) (t : TypeId) : ∀ (j : Nat) (u : Value), xs[j]? = some u → (W.alloc (.cells xs.toArray t)).cell? ((⟨W.heap.size, 0, none⟩ : Addr).add j) = some u := by
  intro j u hu
  have h := (Blk.new W t xs.toArray).cell j
  have e : ((⟨W.heap.size, 0, none⟩ : Addr).add j) = ⟨W.heap.size, j, none⟩ := by
    unfold Addr.add; split <;> simp_all
  rw [e, h]
  simpa using hu
theorem reads_row (W : World) (xs : List Value) (t : TypeId) {n z : Nat} (hn : xs.length = n * z) : Reads (W.alloc (.cells xs.toArray t)) (W.heap.size + 1) z (some ⟨W.heap.size, 0, none⟩) n xs :=
  ⟨hn, fun _ => ⟨_, rfl, Nat.lt_succ_self _, cells_new W xs t⟩⟩
theorem key_info : (Try.prog.info? 46).map (fun i => (i.zero, i.size, i.bytes)) = some (some (.agg #[.string ⟨#[]⟩, .string ⟨#[]⟩]), 2, 32) := by kernel_rfl
section
variable {w w' : World} {B h xb sb kb : Nat} {V U : Nat → Prop} {R : List Pr} {S : List Pm} {K : List Ky} {v lv : Value}
set_option maxHeartbeats 8000000 in
/-- A task is handed to a run that is not there. -/
theorem Launch_no (H : HqP w B h xb sb kb V R S K v lv) {r : Pm} (hn : ∀ (k : Nat) (p : Pr), R[k]? = some p → p.r ≠ r) (its : Value) :
    Calls Try.prog 45 #[.pointer (some ⟨h, 0, none⟩), rkV r, its] w fun e9 w' => e9 = .returned (.tuple #[]) ∧ Below w.heap.size w w' := by
  obtain ⟨gr, hgr⟩ : ∃ gr, gr = w.heap.size := ⟨_, rfl⟩
  obtain ⟨W, hW⟩ : ∃ W, W = w.alloc (.cells #[.string r.f, .string r.e, .int .i64 r.n] 90) := ⟨_, rfl⟩
  have hb : Below w.heap.size w W := by rw [hW]; exact (Below.refl _ _).alloc (Nat.le_refl _) _
  have hk : Blk W gr 90 (rkC r) := by rw [hW, hgr]; exact Blk.new w _ _
  have HW := Lib.hid hW
  have HG := Lib.hid hgr
  have hl0 : ∀ {wa : World}, HqP wa B h xb sb kb V R S K v lv → (Instr.lookup 83 (.map (some xb)) (rkV r) true).run Try.prog wa = .ok (.tuple #[.pointer none, .bool false]) wa := fun H => ex_no H.ex hn
  have keep : ∀ {wa wb : World}, (wa.cell? ⟨h, 1, none⟩ = some (.map (some xb)) ∧ wa.cell? ⟨gr, 0, none⟩ = some (.string r.f) ∧ wa.cell? ⟨gr, 1, none⟩ = some (.string r.e) ∧ wa.cell? ⟨gr, 2, none⟩ = some (.int .i64 r.n) ∧ (Instr.lookup 83 (.map (some xb)) (rkV r) true).run Try.prog wa = .ok (.tuple #[.pointer none, .bool false]) wa ∧ (HqP wa B h xb sb kb V R S K v lv ∧ Blk wa gr 90 (rkC r) ∧ Below w.heap.size w wa)) → Below wa.heap.size wa wb → (wb.cell? ⟨h, 1, none⟩ = some (.map (some xb)) ∧ wb.cell? ⟨gr, 0, none⟩ = some (.string r.f) ∧ wb.cell? ⟨gr, 1, none⟩ = some (.string r.e) ∧ wb.cell? ⟨gr, 2, none⟩ = some (.int .i64 r.n) ∧ (Instr.lookup 83 (.map (some xb)) (rkV r) true).run Try.prog wb = .ok (.tuple #[.pointer none, .bool false]) wb ∧ (HqP wb B h xb sb kb V R S K v lv ∧ Blk wb gr 90 (rkC r) ∧ Below w.heap.size w wb)) := fun k hb => by
    obtain ⟨_, _, _, _, _, k6, k7, k8⟩ := k
    have j6 := k6.below hb
    have j7 := k7.below hb k7.lt
    exact ⟨j6.blk.cell 1, j7.cell 0, j7.cell 1, j7.cell 2, hl0 j6, j6, j7, k8.trans (hb.mono k8.size)⟩
  have hD : ∀ {wa : World}, Below wa.heap.size wa wa.drew := (Below.refl _ _).drew
  have h7 := H.below hb
  have hS0 : (W.cell? ⟨h, 1, none⟩ = some (.map (some xb)) ∧ W.cell? ⟨gr, 0, none⟩ = some (.string r.f) ∧ W.cell? ⟨gr, 1, none⟩ = some (.string r.e) ∧ W.cell? ⟨gr, 2, none⟩ = some (.int .i64 r.n) ∧ (Instr.lookup 83 (.map (some xb)) (rkV r) true).run Try.prog W = .ok (.tuple #[.pointer none, .bool false]) W ∧ (HqP W B h xb sb kb V R S K v lv ∧ Blk W gr 90 (rkC r) ∧ Below w.heap.size w W)) := ⟨h7.blk.cell 1, hk.cell 0, hk.cell 1, hk.cell 2, hl0 h7, h7, hk, hb⟩
  clear hW hgr hb hk h7 hl0 H hn
  go_enter Try.func45, Try.ntmps45
  go_upto_region 1 with fail
  rw [← HW.out, ← HG.out]
  go_region_held3 (fun wa => wa.cell? ⟨h, 1, none⟩ = some (.map (some xb)) ∧ wa.cell? ⟨gr, 0, none⟩ = some (.string r.f) ∧ wa.cell? ⟨gr, 1, none⟩ = some (.string r.e) ∧ wa.cell? ⟨gr, 2, none⟩ = some (.int .i64 r.n) ∧ (Instr.lookup 83 (.map (some xb)) (rkV r) true).run Try.prog wa = .ok (.tuple #[.pointer none, .bool false]) wa ∧ (HqP wa B h xb sb kb V R S K v lv ∧ Blk wa gr 90 (rkC r) ∧ Below w.heap.size w wa)) (first | assumption | exact keep (by assumption) (by assumption) | exact keep (by assumption) hD) (first | fail)
  all_goals
    rename_i hHeld
    go_wp2_with fail
    refine bodyPost_ret (results_none rfl _ _ _) rfl ?_
    exact ⟨rfl, hHeld.2.2.2.2.2.2.2⟩
/-- What a launch makes. -/
def LaunchP (w : World) (B h xb sb kb : Nat) (V : Nat → Prop) (R : List Pr) (S : List Pm) (K : List Ky) (v lv : Value) (j : Nat) (p : Pr) (k : Ky) (e9 : Ending) (w' : World) : Prop :=
  e9 = .returned (.tuple #[]) ∧ ((k ∈ K ∧ Below w.heap.size w w') ∨
  (k ∉ K ∧ ∃ V' tv lv', HqP w' B h xb sb kb V' (R.set j ⟨p.g, p.r, p.lv, tv, p.ts ++ [⟨k.t, false⟩]⟩) S (K ++ [k]) v lv' ∧ (∀ b, V b → V' b) ∧ (∀ b, V' b → V b ∨ w.heap.size ≤ b) ∧ Vol V w w'))
set_option maxHeartbeats 16000000 in
theorem Launch_yes (H : HqP w B h xb sb kb V R S K v lv) {j : Nat} {p : Pr} (hj : R[j]? = some p) {r : Pm} (hp : p.r = r) (hl : p.ts.length ≤ 100) (hlk : K.length ≤ 100) {gi : Nat} {t : ByteArray} {cx : Value} (hi : Blk w gi 57 #[.string t, cx]) :
    Calls Try.prog 45 #[.pointer (some ⟨h, 0, none⟩), rkV r, .slice (some ⟨gi, 0, none⟩) 1 1] w (LaunchP w B h xb sb kb V R S K v lv j p ⟨r.f, t⟩) := by
  obtain ⟨gr, hgr⟩ : ∃ gr, gr = w.heap.size := ⟨_, rfl⟩
  obtain ⟨W, hW⟩ : ∃ W, W = w.alloc (.cells #[.string r.f, .string r.e, .int .i64 r.n] 90) := ⟨_, rfl⟩
  have hb : Below w.heap.size w W := by rw [hW]; exact (Below.refl _ _).alloc (Nat.le_refl _) _
  have hk : Blk W gr 90 (rkC r) := by rw [hW, hgr]; exact Blk.new w _ _
  have HW := Lib.hid hW
  have HG := Lib.hid hgr
  have HJ := Lib.hid hj
  have HP := Lib.hid hp
  have HVl := Lib.hid H.lt
  have HI := Lib.hid hi
  have hl0 : ∀ {wa : World}, HqP wa B h xb sb kb V R S K v lv → (Instr.lookup 83 (.map (some xb)) (rkV r) true).run Try.prog wa = .ok (.tuple #[ptr p, .bool true]) wa := fun H => ex_yes H.ex H.ps.uniq hj hp
  have keep : ∀ {wa wb : World}, (wa.cell? ⟨h, 1, none⟩ = some (.map (some xb)) ∧ wa.cell? ⟨gr, 0, none⟩ = some (.string r.f) ∧ wa.cell? ⟨gr, 1, none⟩ = some (.string r.e) ∧ wa.cell? ⟨gr, 2, none⟩ = some (.int .i64 r.n) ∧ (Instr.lookup 83 (.map (some xb)) (rkV r) true).run Try.prog wa = .ok (.tuple #[ptr p, .bool true]) wa ∧ (HqP wa B h xb sb kb V R S K v lv ∧ Blk wa gr 90 (rkC r) ∧ Below w.heap.size w wa)) → Below wa.heap.size wa wb → (wb.cell? ⟨h, 1, none⟩ = some (.map (some xb)) ∧ wb.cell? ⟨gr, 0, none⟩ = some (.string r.f) ∧ wb.cell? ⟨gr, 1, none⟩ = some (.string r.e) ∧ wb.cell? ⟨gr, 2, none⟩ = some (.int .i64 r.n) ∧ (Instr.lookup 83 (.map (some xb)) (rkV r) true).run Try.prog wb = .ok (.tuple #[ptr p, .bool true]) wb ∧ (HqP wb B h xb sb kb V R S K v lv ∧ Blk wb gr 90 (rkC r) ∧ Below w.heap.size w wb)) := fun k hb => by
    obtain ⟨_, _, _, _, _, k6, k7, k8⟩ := k
    have j6 := k6.below hb
    have j7 := k7.below hb k7.lt
    exact ⟨j6.blk.cell 1, j7.cell 0, j7.cell 1, j7.cell 2, hl0 j6, j6, j7, k8.trans (hb.mono k8.size)⟩
  have hD : ∀ {wa : World}, Below wa.heap.size wa wa.drew := (Below.refl _ _).drew
  have h7 := H.below hb
  have hS0 : (W.cell? ⟨h, 1, none⟩ = some (.map (some xb)) ∧ W.cell? ⟨gr, 0, none⟩ = some (.string r.f) ∧ W.cell? ⟨gr, 1, none⟩ = some (.string r.e) ∧ W.cell? ⟨gr, 2, none⟩ = some (.int .i64 r.n) ∧ (Instr.lookup 83 (.map (some xb)) (rkV r) true).run Try.prog W = .ok (.tuple #[ptr p, .bool true]) W ∧ (HqP W B h xb sb kb V R S K v lv ∧ Blk W gr 90 (rkC r) ∧ Below w.heap.size w W)) := ⟨h7.blk.cell 1, hk.cell 0, hk.cell 1, hk.cell 2, hl0 h7, h7, hk, hb⟩
  clear hW hgr hb hk h7 hl0 H hj hp hi
  go_enter Try.func45, Try.ntmps45
  go_upto_region 1 with fail
  rw [← HW.out, ← HG.out]
  go_cut [6, 7] from 6 to 19 (fun v6 v7 wx => Hid (v6 = ptr p ∧ v7 = .bool true ∧ HqP wx B h xb sb kb V R S K v lv ∧ Blk wx gr 90 (rkC r) ∧ Below w.heap.size w wx ∧ ∃ w9, w9 = wx))
  case first =>
    go_region_held3 (fun wa => wa.cell? ⟨h, 1, none⟩ = some (.map (some xb)) ∧ wa.cell? ⟨gr, 0, none⟩ = some (.string r.f) ∧ wa.cell? ⟨gr, 1, none⟩ = some (.string r.e) ∧ wa.cell? ⟨gr, 2, none⟩ = some (.int .i64 r.n) ∧ (Instr.lookup 83 (.map (some xb)) (rkV r) true).run Try.prog wa = .ok (.tuple #[ptr p, .bool true]) wa ∧ (HqP wa B h xb sb kb V R S K v lv ∧ Blk wa gr 90 (rkC r) ∧ Below w.heap.size w wa)) (first | assumption | exact keep (by assumption) (by assumption) | exact keep (by assumption) hD) (first | fail)
    all_goals
      rename_i hHeld
      go_wp2_with fail
      go_meet
      exact Lib.hid ⟨rfl, rfl, hHeld.2.2.2.2.2.1, hHeld.2.2.2.2.2.2.1, hHeld.2.2.2.2.2.2.2, _, rfl⟩
  case rest =>
    obtain ⟨rfl, rfl, h9, hk9, hb9, w9, hw9⟩ := hcut.out
    subst hw9
    clear hcut hS0 keep hD
    have hi9 := HI.out.below hb9 HI.out.lt
    have a0 : w9.cell? ⟨gr, 0, none⟩ = some (.string r.f) := hk9.cell 0
    have a1 : w9.cell? ⟨gi, 0, none⟩ = some (.string t) := hi9.cell 0
    have a2 : ∀ o, (w9.alloc o).cell? ⟨gr, 0, none⟩ = some (.string r.f) := fun o => (World.cell?_alloc_lt w9 o ⟨gr, 0, none⟩ hk9.lt).trans a0
    have a3 : ∀ o, (w9.alloc o).cell? ⟨gi, 0, none⟩ = some (.string t) := fun o => (World.cell?_alloc_lt w9 o ⟨gi, 0, none⟩ hi9.lt).trans a1
    have H9 := Lib.hid h9
    have HB9 := Lib.hid hb9
    clear h9 hk9 hb9 hi9
    go_upto_region 3 with fail
    go_cut [8] from 8 to 33 (fun v8 wx => Hid (∃ gk, v8 = .pointer (some ⟨gk, 0, none⟩) ∧ HqP wx B h xb sb kb V R S K v lv ∧ Blk wx gk 46 #[.string r.f, .string t] ∧ Below w.heap.size w wx ∧ ∃ w9, w9 = wx))
    case first =>
      go_region
      all_goals
        go_wp2_with fail
        go_meet
        have hbx : Below w9.heap.size w9 (w9.drew.alloc (.cells #[.string r.f, .string t] 46)) := (Below.refl _ _).drew.alloc (by simp) _
        exact Lib.hid ⟨_, rfl, H9.out.below hbx, Blk.new w9.drew 46 #[.string r.f, .string t], HB9.out.trans (hbx.mono HB9.out.size), _, rfl⟩
    case rest =>
      obtain ⟨gk, rfl, h9, hk9, hb9, w9, hw9⟩ := hcut.out
      subst hw9
      clear hcut a0 a1 a2 a3
      have hD : ∀ {wa : World}, Below wa.heap.size wa wa.drew := (Below.refl _ _).drew
      rcases Classical.em ((⟨r.f, t⟩ : Ky) ∈ K) with hkn | hkn
      · have HKN := Lib.hid hkn
        have hl2 : ∀ {wa : World}, HqP wa B h xb sb kb V R S K v lv → (Instr.lookup 85 (.map (some kb)) (kyV ⟨r.f, t⟩) true).run Try.prog wa = .ok (.tuple #[.agg #[], .bool true]) wa := fun H => kn_yes H.kn hkn
        have keep2 : ∀ {wa wb : World}, (wa.cell? ⟨h, 4, none⟩ = some (.map (some kb)) ∧ wa.cell? ⟨gk, 0, none⟩ = some (.string r.f) ∧ wa.cell? ⟨gk, 1, none⟩ = some (.string t) ∧ (Instr.lookup 85 (.map (some kb)) (kyV ⟨r.f, t⟩) true).run Try.prog wa = .ok (.tuple #[.agg #[], .bool true]) wa ∧ (HqP wa B h xb sb kb V R S K v lv ∧ Blk wa gk 46 #[.string r.f, .string t] ∧ Below w.heap.size w wa)) → Below wa.heap.size wa wb → (wb.cell? ⟨h, 4, none⟩ = some (.map (some kb)) ∧ wb.cell? ⟨gk, 0, none⟩ = some (.string r.f) ∧ wb.cell? ⟨gk, 1, none⟩ = some (.string t) ∧ (Instr.lookup 85 (.map (some kb)) (kyV ⟨r.f, t⟩) true).run Try.prog wb = .ok (.tuple #[.agg #[], .bool true]) wb ∧ (HqP wb B h xb sb kb V R S K v lv ∧ Blk wb gk 46 #[.string r.f, .string t] ∧ Below w.heap.size w wb)) := fun k hb => by
          obtain ⟨_, _, _, _, k6, k7, k8⟩ := k
          have j6 := k6.below hb
          have j7 := k7.below hb k7.lt
          exact ⟨j6.blk.cell 4, j7.cell 0, j7.cell 1, hl2 j6, j6, j7, k8.trans (hb.mono k8.size)⟩
        have hA : ∀ {wa : World} {o : Obj}, Below wa.heap.size wa (wa.alloc o) := (Below.refl _ _).alloc (Nat.le_refl _) _
        have hS2 : (w9.cell? ⟨h, 4, none⟩ = some (.map (some kb)) ∧ w9.cell? ⟨gk, 0, none⟩ = some (.string r.f) ∧ w9.cell? ⟨gk, 1, none⟩ = some (.string t) ∧ (Instr.lookup 85 (.map (some kb)) (kyV ⟨r.f, t⟩) true).run Try.prog w9 = .ok (.tuple #[.agg #[], .bool true]) w9 ∧ (HqP w9 B h xb sb kb V R S K v lv ∧ Blk w9 gk 46 #[.string r.f, .string t] ∧ Below w.heap.size w w9)) := ⟨h9.blk.cell 4, hk9.cell 0, hk9.cell 1, hl2 h9, h9, hk9, hb9⟩
        clear h9 hk9 hb9 hl2 hkn
        go_upto_region 4 with fail
        go_region_held3 (fun wa => wa.cell? ⟨h, 4, none⟩ = some (.map (some kb)) ∧ wa.cell? ⟨gk, 0, none⟩ = some (.string r.f) ∧ wa.cell? ⟨gk, 1, none⟩ = some (.string t) ∧ (Instr.lookup 85 (.map (some kb)) (kyV ⟨r.f, t⟩) true).run Try.prog wa = .ok (.tuple #[.agg #[], .bool true]) wa ∧ (HqP wa B h xb sb kb V R S K v lv ∧ Blk wa gk 46 #[.string r.f, .string t] ∧ Below w.heap.size w wa)) (first | assumption | exact keep2 (by assumption) (by assumption) | exact keep2 (by assumption) hD | exact keep2 (by assumption) hA | exact keep2 (keep2 (by assumption) hD) hA) (first | fail)
        all_goals
          rename_i hHeld
          go_wp2_with fail
          refine bodyPost_ret (results_none rfl _ _ _) rfl ?_
          exact ⟨rfl, .inl ⟨HKN.out, hHeld.2.2.2.2.2.2⟩⟩
      · have HKN := Lib.hid hkn
        have hl2 : ∀ {wa : World}, HqP wa B h xb sb kb V R S K v lv → (Instr.lookup 85 (.map (some kb)) (kyV ⟨r.f, t⟩) true).run Try.prog wa = .ok (.tuple #[.agg #[], .bool false]) wa := fun H => kn_no H.kn hkn
        have keep2 : ∀ {wa wb : World}, (wa.cell? ⟨h, 4, none⟩ = some (.map (some kb)) ∧ wa.cell? ⟨gk, 0, none⟩ = some (.string r.f) ∧ wa.cell? ⟨gk, 1, none⟩ = some (.string t) ∧ (Instr.lookup 85 (.map (some kb)) (kyV ⟨r.f, t⟩) true).run Try.prog wa = .ok (.tuple #[.agg #[], .bool false]) wa ∧ (HqP wa B h xb sb kb V R S K v lv ∧ Blk wa gk 46 #[.string r.f, .string t] ∧ Below w.heap.size w wa)) → Below wa.heap.size wa wb → (wb.cell? ⟨h, 4, none⟩ = some (.map (some kb)) ∧ wb.cell? ⟨gk, 0, none⟩ = some (.string r.f) ∧ wb.cell? ⟨gk, 1, none⟩ = some (.string t) ∧ (Instr.lookup 85 (.map (some kb)) (kyV ⟨r.f, t⟩) true).run Try.prog wb = .ok (.tuple #[.agg #[], .bool false]) wb ∧ (HqP wb B h xb sb kb V R S K v lv ∧ Blk wb gk 46 #[.string r.f, .string t] ∧ Below w.heap.size w wb)) := fun k hb => by
          obtain ⟨_, _, _, _, k6, k7, k8⟩ := k
          have j6 := k6.below hb
          have j7 := k7.below hb k7.lt
          exact ⟨j6.blk.cell 4, j7.cell 0, j7.cell 1, hl2 j6, j6, j7, k8.trans (hb.mono k8.size)⟩
        have hA : ∀ {wa : World} {o : Obj}, Below wa.heap.size wa (wa.alloc o) := (Below.refl _ _).alloc (Nat.le_refl _) _
        have hS2 : (w9.cell? ⟨h, 4, none⟩ = some (.map (some kb)) ∧ w9.cell? ⟨gk, 0, none⟩ = some (.string r.f) ∧ w9.cell? ⟨gk, 1, none⟩ = some (.string t) ∧ (Instr.lookup 85 (.map (some kb)) (kyV ⟨r.f, t⟩) true).run Try.prog w9 = .ok (.tuple #[.agg #[], .bool false]) w9 ∧ (HqP w9 B h xb sb kb V R S K v lv ∧ Blk w9 gk 46 #[.string r.f, .string t] ∧ Below w.heap.size w w9)) := ⟨h9.blk.cell 4, hk9.cell 0, hk9.cell 1, hl2 h9, h9, hk9, hb9⟩
        clear h9 hk9 hb9 hl2 hkn
        go_upto_region 4 with fail
        go_cut [10] from 9 to 42 (fun v10 wx => Hid (v10 = .bool false ∧ HqP wx B h xb sb kb V R S K v lv ∧ Blk wx gk 46 #[.string r.f, .string t] ∧ Below w.heap.size w wx ∧ ∃ w9, w9 = wx))
        case first =>
          go_region_held3 (fun wa => wa.cell? ⟨h, 4, none⟩ = some (.map (some kb)) ∧ wa.cell? ⟨gk, 0, none⟩ = some (.string r.f) ∧ wa.cell? ⟨gk, 1, none⟩ = some (.string t) ∧ (Instr.lookup 85 (.map (some kb)) (kyV ⟨r.f, t⟩) true).run Try.prog wa = .ok (.tuple #[.agg #[], .bool false]) wa ∧ (HqP wa B h xb sb kb V R S K v lv ∧ Blk wa gk 46 #[.string r.f, .string t] ∧ Below w.heap.size w wa)) (first | assumption | exact keep2 (by assumption) (by assumption) | exact keep2 (by assumption) hD | exact keep2 (by assumption) hA | exact keep2 (keep2 (by assumption) hD) hA) (first | fail)
          all_goals
            rename_i hHeld
            go_wp2_with fail
            go_meet
            exact Lib.hid ⟨rfl, hHeld.2.2.2.2.1, hHeld.2.2.2.2.2.1, hHeld.2.2.2.2.2.2, _, rfl⟩
        case rest =>
          obtain ⟨rfl, h9, hk9, hb9, w9, hw9⟩ := hcut.out
          subst hw9
          clear hcut hS2 keep2 hD hA
          have hwin := h9.ps.tks j p HJ.out
          have hpr := h9.ps.prs j p HJ.out
          obtain ⟨A0, c0, hv0, hc0, hcm, hA0⟩ := hwin.form
          have a3 : w9.cell? ⟨p.g, 3, none⟩ = some (.slice A0 p.ts.length c0) := by rw [← hv0]; exact hpr.cell 3
          obtain ⟨L, hL⟩ : ∃ L, L = p.ts.length := ⟨_, rfl⟩
          rw [hv0] at hwin
          rw [← hL] at a3 hl hc0 hwin
          have a1 : w9.cell? ⟨gk, 1, none⟩ = some (.string t) := hk9.cell 1
          have a4 : ∀ o, (w9.alloc o).cell? ⟨p.g, 3, none⟩ = some (.slice A0 L c0) := fun o => (World.cell?_alloc_lt w9 o ⟨p.g, 3, none⟩ hpr.lt).trans a3
          have a5 : ∀ o, (w9.alloc o).cell? ⟨gk, 1, none⟩ = some (.string t) := fun o => (World.cell?_alloc_lt w9 o ⟨gk, 1, none⟩ hk9.lt).trans a1
          obtain ⟨i0, hi0, hz0, hz1, hz2⟩ := info_parts tsk_info
          have hBw : Hid (B ≤ w9.heap.size) := Lib.hid h9.Bw
          have hown : Hid (∀ b, (Value.slice A0 L c0).ownBlock = some b ↔ p.tv.ownBlock = some b) := Lib.hid (fun b => by rw [hv0]; cases A0 <;> exact Iff.rfl)
          have hpn : Hid (some p.g ≠ (Value.slice A0 L c0).ownBlock) := Lib.hid (fun e => hwin.blk_ne hpr nPT.symm e.symm)
          have HL := Lib.hid hL
          have HV0 := Lib.hid hv0
          have H9 := Lib.hid h9
          have HK9 := Lib.hid hk9
          have HB9 := Lib.hid hb9
          have HPR := Lib.hid hpr
          have HWN := Lib.hid (hwin.below (Below.refl _ _).drew)
          clear h9 hk9 hb9 hwin hpr hL hv0 hA0 hcm
          go_upto_region 6 with fail
          go_cut [] from 44 to 54 (fun wx => Hid (∃ V' tv, HqP wx B h xb sb kb V' (R.set j ⟨p.g, p.r, p.lv, tv, p.ts ++ [⟨t, false⟩]⟩) S K v lv ∧ (∀ b, V b → V' b) ∧ (∀ b, V' b → V b ∨ w.heap.size ≤ b) ∧ Blk wx gk 46 #[.string r.f, .string t] ∧ Vol V w wx ∧ ∃ w9, w9 = wx))
          case first =>
            go_region_law (refine step_append_win _ rfl (.tmp 48) (.tmp 52) 96 rfl B 110 i0 tkZ 2 24 Try.underlying96 hi0 hz0 hz1 hz2 rfl (.slice A0 L c0) L (tqV p.ts) (by first | (simp [Act.eval]; done) | (simp [Act.eval, Act.put]; done)) (HWN.out.alloc _) ⟨w9.heap.size, 0, none⟩ 1 1 [.string t, .bool false] (by first | (simp [Act.eval]; done) | (simp [Act.eval, Act.put]; done)) rfl (cells_new w9.drew _ _) (by simp [Value.oneCell']) (by omega) (by simp only [maxLen]; omega) (by omega) (by have := hBw.out; simp; omega) ?_; intro v4 w4 hwin4 hg4 hn4; have hb4 := (HPR.out.drew.alloc _).grown hg4 hpn.out; obtain ⟨A4, c4, rfl, -, -, -⟩ := hwin4.form; have f4 : w4.frozen? ⟨p.g, 3, none⟩ = false := hb4.frozen 3; have c43 : w4.cell? ⟨p.g, 3, none⟩ = some (.slice A0 L c0) := by (rw [HL.out, ← HV0.out]; exact hb4.cell 3))
            all_goals go_wp2_with fail
            all_goals
              go_meet
              have hvol4 : Vol (fun b => b = p.g ∨ p.tv.ownBlock = some b) w9 (w4.setCell ⟨p.g, 3, none⟩ (.slice A4 (L + 1) c4)) := by
                have h1 : Vol (fun b => b = p.g ∨ p.tv.ownBlock = some b) w9 w9 := Vol.refl _
                exact ((h1.drew.alloc _).grown hg4 (fun k hk => .inl (.inr ((hown.out k).1 hk)))).setCell (a := ⟨p.g, 3, none⟩) (.inl (.inl rfl)) _
              have bp5 := hb4.set_ 3 (.slice A4 (L + 1) c4)
              have hw5 : Win (w4.setCell ⟨p.g, 3, none⟩ (.slice A4 (L + 1) c4)) B 110 2 (.slice A4 (L + 1) c4) (L + 1) (tqV (p.ts ++ [⟨t, false⟩])) := by
                rw [tqV_append]
                exact hwin4.vol (U := fun b => b = p.g) (Vol.setCell (V := fun b => b = p.g) (a := ⟨p.g, 3, none⟩) (Vol.refl w4) (.inl rfl) _) (fun b hb e => hwin4.blk_ne hb4 nPT.symm (by rw [hb, e]))
              have H5 := H9.out.turn (p' := ⟨p.g, p.r, p.lv, .slice A4 (L + 1) c4, p.ts ++ [⟨t, false⟩]⟩) HJ.out rfl rfl rfl hvol4 (by simpa using bp5) (by have := HL.out; simpa [this] using hw5) (fun b e => by
                rcases hn4 with e2 | e2
                · exact .inl ((hown.out b).1 (e2 ▸ e))
                · right
                  have e3 : (Value.slice A4 (L + 1) c4).ownBlock = some b := e
                  rw [e3] at e2
                  injection e2 with e2
                  rw [e2]
                  simp)
              have hk5 : Blk (w4.setCell ⟨p.g, 3, none⟩ (.slice A4 (L + 1) c4)) gk 46 #[.string r.f, .string t] := blk_vol HK9.out hvol4 (fun e => by
                have := H9.out.ps.far_blk HK9.out nPK nTK HJ.out
                exact e.elim (fun e => this.1 e.symm) this.2)
              refine Lib.hid ⟨_, _, H5, fun b => .inl, fun b e => e.imp id (fun e => Nat.le_trans HB9.out.size e.1), hk5, (Vol.of_below HB9.out).trans hvol4 (fun b e => .inl ?_), _, rfl⟩
              rcases e with rfl | e
              · exact (H9.out.ps.vp j p HJ.out).1
              · exact (H9.out.ps.vp j p HJ.out).2 b e
          case rest =>
            obtain ⟨V1, tv, h9, hv1, hv2, hk9, hvl, w8, hw8⟩ := hcut.out
            subst hw8
            clear hcut a1 a3 a4 a5 hpn hown HWN HPR H9 HK9 HB9
            have a1 : w8.drew.cell? ⟨h, 4, none⟩ = some (.map (some kb)) := h9.blk.cell 4
            have a2 : w8.drew.cell? ⟨gk, 0, none⟩ = some (.string r.f) := hk9.cell 0
            have a3 : w8.drew.cell? ⟨gk, 1, none⟩ = some (.string t) := hk9.cell 1
            obtain ⟨d1, e1, hkn1, hg1⟩ := kn_put (w := w8.drew) (h9.kn.drewN 1) HKN.out
            have a1' : w8.cell? ⟨h, 4, none⟩ = some (.map (some kb)) := h9.blk.cell 4
            have a2' : w8.cell? ⟨gk, 0, none⟩ = some (.string r.f) := hk9.cell 0
            have a3' : w8.cell? ⟨gk, 1, none⟩ = some (.string t) := hk9.cell 1
            have H9 := Lib.hid h9
            have HK9 := Lib.hid hk9
            have HV1 := Lib.hid (And.intro hv1 (And.intro hv2 hvl))
            have HKN1 := Lib.hid hkn1
            have HG1 := Lib.hid hg1
            clear h9 hk9 hv1 hv2 hvl hkn1 hg1
            go_upto_region 7 with fail
            go_region
            have v1 : Vol (fun b => b = kb) w8 d1 := (Vol.refl w8).drew.grown HG1.out (fun k hk => .inl (by injection hk with hk; exact hk.symm))
            have bh1 := blk_vol H9.out.blk v1 (blk_map_ne H9.out.blk H9.out.kn)
            have bk1 := blk_vol HK9.out v1 (blk_map_ne HK9.out H9.out.kn)
            have bl1 := own_vol H9.out.keys v1 (fun b hb e => own_map_ne H9.out.keys H9.out.kn (by rw [hb, e]))
            obtain ⟨A0, c0, hv0, hc0, -⟩ := own_slice H9.out.keys
            obtain ⟨i1, hi1, hy0, hy1, hy2⟩ := info_parts key_info
            obtain ⟨M, hM⟩ : ∃ M, M = K.length := ⟨_, rfl⟩
            have b3 : d1.cell? ⟨h, 3, none⟩ = some (.slice A0 M c0) := by rw [hM, ← hv0]; exact bh1.cell 3
            have b0 : d1.cell? ⟨gk, 0, none⟩ = some (.string r.f) := bk1.cell 0
            have b1 : d1.cell? ⟨gk, 1, none⟩ = some (.string t) := bk1.cell 1
            have b4 : ∀ o, (d1.alloc o).cell? ⟨h, 3, none⟩ = some (.slice A0 M c0) := fun o => (World.cell?_alloc_lt d1 o ⟨h, 3, none⟩ bh1.lt).trans b3
            have b5 : ∀ o, (d1.alloc o).cell? ⟨gk, 0, none⟩ = some (.string r.f) := fun o => (World.cell?_alloc_lt d1 o ⟨gk, 0, none⟩ bk1.lt).trans b0
            have b6 : ∀ o, (d1.alloc o).cell? ⟨gk, 1, none⟩ = some (.string t) := fun o => (World.cell?_alloc_lt d1 o ⟨gk, 1, none⟩ bk1.lt).trans b1
            rw [hv0, ← hM] at bl1
            rw [← hM] at hlk hc0
            have hBw1 : Hid (B ≤ d1.heap.size) := Lib.hid (Nat.le_trans H9.out.Bw v1.size)
            have hown1 : Hid (∀ b, (Value.slice A0 M c0).ownBlock = some b ↔ lv.ownBlock = some b) := Lib.hid (fun b => by rw [hv0]; cases A0 <;> exact Iff.rfl)
            have hhn : Hid (some h ≠ (Value.slice A0 M c0).ownBlock) := Lib.hid (fun e => own_blk_ne bl1 bh1 nKH e.symm)
            have HMM := Lib.hid hM
            have HV0 := Lib.hid hv0
            have HVV := Lib.hid v1
            have HH1 := Lib.hid bh1
            have HK1 := Lib.hid bk1
            have HL1 := Lib.hid bl1
            clear v1 bh1 bk1 bl1 hv0 hM a1 a2 a3 a1' a2' a3' e1
            go_upto_region 8 with fail
            go_region_law (refine step_append_any _ rfl (.tmp 66) (.tmp 68) 38 rfl B 46 i1 (.agg #[.string ⟨#[]⟩, .string ⟨#[]⟩]) 2 32 Try.underlying38 hi1 hy0 hy1 hy2 rfl (by decide) (.slice A0 M c0) M (kysV K) (by first | (simp [Act.eval]; done) | (simp [Act.eval, Act.put]; done)) (HL1.out.drew.alloc _) (d1.heap.size + 1) (some ⟨d1.heap.size, 0, none⟩) 1 1 [.string r.f, .string t] (by first | (simp [Act.eval]; done) | (simp [Act.eval, Act.put]; done)) (reads_row d1.drew _ _ rfl) (by simp [Value.oneCell']) (by simp only [maxLen]; omega) (by omega) (by have := hBw1.out; simp; omega) ?_; intro v4 w4 hown4 hg4 hn4; have hb4 := (HH1.out.drew.alloc _).grown hg4 hhn.out; obtain ⟨A4, c4, rfl, -, -⟩ := own_slice hown4; have f4 : w4.frozen? ⟨h, 3, none⟩ = false := hb4.frozen 3; have c43 : w4.cell? ⟨h, 3, none⟩ = some (.slice A0 M c0) := by (rw [HMM.out, ← HV0.out]; exact hb4.cell 3))
            all_goals go_wp2_with fail
            all_goals
              go_end0
              have hvol4 : Vol (fun b => b = h ∨ b = kb ∨ lv.ownBlock = some b) w8 (w4.setCell ⟨h, 3, none⟩ (.slice A4 (M + 1) c4)) := by
                have h1 : Vol (fun b => b = h ∨ b = kb ∨ lv.ownBlock = some b) w8 d1 := HVV.out.mono (fun b e => .inr (.inl e))
                exact ((h1.drew.alloc _).grown hg4 (fun k hk => .inl (.inr (.inr ((hown1.out k).1 hk))))).setCell (a := ⟨h, 3, none⟩) (.inl (.inl rfl)) _
              have bh5 := hb4.set_ 3 (.slice A4 (M + 1) c4)
              have ho5 : World.ownsRow (w4.setCell ⟨h, 3, none⟩ (.slice A4 (M + 1) c4)) B 46 2 (.slice A4 (M + 1) c4) (M + 1) (kysV (K ++ [⟨r.f, t⟩])) := by
                have e5 : kysV (K ++ [⟨r.f, t⟩]) = kysV K ++ [.string r.f, .string t] := by simp [kysV]
                rw [e5]
                exact own_far hown4 hb4 nKH
              have hkm : MapAt (w4.setCell ⟨h, 3, none⟩ (.slice A4 (M + 1) c4)) kb ((K ++ [(⟨r.f, t⟩ : Ky)]).map knE) := by
                have k1 : Vol (fun b => b = h ∨ lv.ownBlock = some b) d1 (w4.setCell ⟨h, 3, none⟩ (.slice A4 (M + 1) c4)) :=
                  ((((Vol.refl (V := fun b => b = h ∨ lv.ownBlock = some b) d1).drew.alloc _).grown hg4 (fun k hk => .inl (.inr ((hown1.out k).1 hk)))).setCell (a := ⟨h, 3, none⟩) (.inl (.inl rfl)) _)
                exact HKN1.out.keep (k1.block _ HKN1.out.lt (fun e => e.elim (fun e => blk_map_ne HH1.out HKN1.out e.symm) (fun e => own_map_ne HL1.out HKN1.out ((hown1.out _).2 e))))
              have H5 := H9.out.know (lv' := .slice A4 (M + 1) c4) ⟨r.f, t⟩ hvol4 (by simpa using bh5) hkm (by have := HMM.out; simpa [this] using ho5) (fun b e => by
                rcases hn4 with e2 | e2
                · exact .inl ((hown1.out b).1 (e2 ▸ e))
                · right
                  rw [show (Value.slice A4 (M + 1) c4).ownBlock = some b from e] at e2
                  injection e2 with e2
                  have := HVV.out.size
                  rw [e2]
                  simp
                  omega)
              have s8 := HV1.out.2.2.size
              refine ⟨rfl, .inr ⟨HKN.out, _, _, _, H5, fun b e => .inl (HV1.out.1 b e), fun b e => e.elim (HV1.out.2.1 b) (fun e => .inr (Nat.le_trans s8 e.1)), HV1.out.2.2.trans hvol4 (fun b e => ?_)⟩⟩
              have hm := H9.out.vm
              rcases e with rfl | rfl | e
              · exact HV1.out.2.1 _ hm.1
              · exact HV1.out.2.1 _ hm.2.2.2
              · exact HV1.out.2.1 _ (H9.out.vk b e)
end
end Go.Proofs.Ytiflhfhonhbcpaa.Hw
namespace Go.Proofs.Ytiflhfhonhbcpaa.Hw
open Go Go.RowKit Go.Proofs.Ytiflhfhonhbcpaa Go.Proofs.Ytiflhfhonhbcpaa.Crw Go.Proofs.Ytiflhfhonhbcpaa.Vl Go.ChangeShapes Go.WideShapes Go.ChangeAt
set_option linter.unusedVariables false
set_option maxRecDepth 1000000
/-- A process, without its place. -/
structure Aq where
  r : Pm
  lv : Bool
  ts : List Tq
abbrev aq (p : Pr) : Aq := ⟨p.r, p.lv, p.ts⟩
theorem rkB_iff {r r' : Pm} : rkB r r' = true ↔ r = r' :=
  ⟨fun h => Classical.byContradiction (fun e => by rw [rkB_no e] at h; exact absurd h (by decide)), rkB_yes⟩
def upd (A : List Aq) (r : Pm) (f : Aq → Aq) : List Aq := A.map fun p => if rkB p.r r then f p else p
def kill (p : Aq) : Aq := ⟨p.r, false, []⟩
def give (t : ByteArray) (p : Aq) : Aq := ⟨p.r, p.lv, p.ts ++ [⟨t, false⟩]⟩
def drop (i : Nat) (p : Aq) : Aq := ⟨p.r, p.lv, p.ts.eraseIdx i⟩
/-- What a message of kind k about the run r (task t) makes of processes and keys, and what is answered. -/
inductive HearR (k : Int) (r : Pm) (t : ByteArray) (A : List Aq) (K : List Ky) : List Aq → List Ky → List Ms → Prop
  | startOld : k = 13 → (∃ p ∈ A, p.r = r) → HearR k r t A K A K []
  | startNew : k = 13 → (∀ p ∈ A, p.r ≠ r) → HearR k r t A K (A ++ [⟨r, true, []⟩]) K [⟨7, r, noB, 0⟩]
  | none : (k = 14 ∨ k = 15 ∨ k = 16 ∨ k = 17) → (∀ p ∈ A, p.lv = true → p.r ≠ r) → HearR k r t A K A K []
  | launchOld (ts : List Tq) : k = 14 → (⟨r, true, ts⟩ : Aq) ∈ A → (⟨r.f, t⟩ : Ky) ∈ K → HearR k r t A K A K []
  | launchNew (ts : List Tq) : k = 14 → (⟨r, true, ts⟩ : Aq) ∈ A → (⟨r.f, t⟩ : Ky) ∉ K → HearR k r t A K (upd A r (give t)) (K ++ [⟨r.f, t⟩]) []
  | endNo (ts : List Tq) : k = 15 → (⟨r, true, ts⟩ : Aq) ∈ A → NoT ts t → HearR k r t A K A K []
  | endYes (ts : List Tq) (i : Nat) : k = 15 → (⟨r, true, ts⟩ : Aq) ∈ A → FirstT ts t i → HearR k r t A K (upd A r (drop i)) K [⟨8, r, t, 5⟩]
  | stop (ts : List Tq) : (k = 16 ∨ k = 17) → (⟨r, true, ts⟩ : Aq) ∈ A → HearR k r t A K (upd A r kill) K [⟨9, r, noB, 0⟩]
  | other : k ≠ 13 → k ≠ 14 → k ≠ 15 → k ≠ 16 → k ≠ 17 → HearR k r t A K A K []
theorem first_any (ts : List Tq) (t : ByteArray) : NoT ts t ∨ ∃ i, FirstT ts t i := by
  induction ts with
  | nil => exact .inl fun m y h => by simp at h
  | cons a l ih =>
    rcases Classical.em (a.t = t) with e | e
    · exact .inr ⟨0, a, rfl, e, fun m y h => by omega⟩
    · rcases ih with h | ⟨i, x, h1, h2, h3⟩
      · left
        intro m y hy
        cases m with
        | zero =>
          simp only [List.getElem?_cons_zero, Option.some.injEq] at hy
          rw [← hy]; exact e
        | succ m => exact h m y (by simpa using hy)
      · right
        refine ⟨i + 1, x, by simpa using h1, h2, fun m y hm hy => ?_⟩
        cases m with
        | zero =>
          simp only [List.getElem?_cons_zero, Option.some.injEq] at hy
          rw [← hy]; exact e
        | succ m => exact h3 m y (by omega) (by simpa using hy)
theorem hear_any (k : Int) (r : Pm) (t : ByteArray) (A : List Aq) (K : List Ky) : ∃ A' K' X, HearR k r t A K A' K' X := by
  by_cases h13 : k = 13
  · rcases Classical.em (∃ p ∈ A, p.r = r) with h | h
    · exact ⟨_, _, _, .startOld h13 h⟩
    · exact ⟨_, _, _, .startNew h13 fun p hp e => h ⟨p, hp, e⟩⟩
  rcases Classical.em (∃ ts, (⟨r, true, ts⟩ : Aq) ∈ A) with ⟨ts, hm⟩ | hno
  · by_cases h14 : k = 14
    · rcases Classical.em ((⟨r.f, t⟩ : Ky) ∈ K) with h | h
      · exact ⟨_, _, _, .launchOld ts h14 hm h⟩
      · exact ⟨_, _, _, .launchNew ts h14 hm h⟩
    by_cases h15 : k = 15
    · rcases first_any ts t with h | ⟨i, h⟩
      · exact ⟨_, _, _, .endNo ts h15 hm h⟩
      · exact ⟨_, _, _, .endYes ts i h15 hm h⟩
    by_cases h16 : k = 16
    · exact ⟨_, _, _, .stop ts (.inl h16) hm⟩
    by_cases h17 : k = 17
    · exact ⟨_, _, _, .stop ts (.inr h17) hm⟩
    exact ⟨_, _, _, .other h13 h14 h15 h16 h17⟩
  · have hn : ∀ p ∈ A, p.lv = true → p.r ≠ r := fun p hp hl e => hno ⟨p.ts, by
      obtain ⟨a, b, c⟩ := p
      simp only at hl e
      rw [← hl, ← e]
      exact hp⟩
    by_cases h : k = 14 ∨ k = 15 ∨ k = 16 ∨ k = 17
    · exact ⟨_, _, _, .none h hn⟩
    · exact ⟨_, _, _, .other h13 (by omega) (by omega) (by omega) (by omega)⟩
/-- Runs are there once each. -/
def AOk (A : List Aq) : Prop := ∀ (i j : Nat) (p q : Aq), A[i]? = some p → A[j]? = some q → p.r = q.r → i = j
theorem upd_filter {A : List Aq} {r : Pm} {f : Aq → Aq} (hf : ∀ p, (f p).lv = p.lv) : (upd A r f).filter (·.lv) = upd (A.filter (·.lv)) r f := by
  induction A with
  | nil => rfl
  | cons a l ih =>
    unfold upd at *
    rw [List.map_cons, List.filter_cons, List.filter_cons, ih]
    have e : (if rkB a.r r = true then f a else a).lv = a.lv := by split <;> simp [hf]
    rw [e]
    cases a.lv <;> rfl
theorem kill_filter {A : List Aq} {r : Pm} : (upd A r kill).filter (·.lv) = (A.filter (·.lv)).filter (fun p => !rkB p.r r) := by
  induction A with
  | nil => rfl
  | cons a l ih =>
    unfold upd at *
    rw [List.map_cons, List.filter_cons, List.filter_cons, ih]
    by_cases e : rkB a.r r = true
    · simp only [e, if_true, kill, Bool.false_eq_true, if_false]
      cases hl : a.lv
      · simp
      · simp [e]
    · rw [if_neg e]
      cases hl : a.lv
      · simp
      · simp [e]
theorem upd_set {R : List Pr} {j : Nat} {p p' : Pr} {f : Aq → Aq} (hj : R[j]? = some p) (hu : ∀ (i : Nat) (q : Pr), R[i]? = some q → q.r = p.r → i = j) (hf : aq p' = f (aq p)) : (R.set j p').map aq = upd (R.map aq) p.r f := by
  unfold upd
  rw [List.map_map]
  apply List.ext_getElem?
  intro i
  rw [List.getElem?_map, List.getElem?_map, List.getElem?_set]
  by_cases e : j = i
  · subst e
    rw [if_pos rfl, if_pos (List.getElem?_eq_some_iff.1 hj).1, hj]
    simp [hf, rkB_yes rfl]
  · rw [if_neg e]
    cases hq : R[i]? with
    | none => rfl
    | some q =>
      have hn : rkB q.r p.r = false := rkB_no fun e2 => e (hu i q hq e2).symm
      simp [hn]
theorem erase_filter {R : List Pr} {j : Nat} {p : Pr} (hj : R[j]? = some p) (hu : ∀ (i : Nat) (q : Pr), R[i]? = some q → q.r = p.r → i = j) : (R.eraseIdx j).map aq = (R.map aq).filter (fun q => !rkB q.r p.r) := by
  induction R generalizing j with
  | nil => simp at hj
  | cons a l ih =>
    cases j with
    | zero =>
      simp only [List.getElem?_cons_zero, Option.some.injEq] at hj
      subst hj
      rw [List.eraseIdx_cons_zero, List.map_cons, List.filter_cons]
      have e : (!rkB (aq a).r a.r) = false := by simp [rkB_yes rfl]
      rw [e]
      simp only [Bool.false_eq_true, if_false]
      symm
      rw [List.filter_eq_self]
      intro x hx
      obtain ⟨q, hq, rfl⟩ := List.mem_map.1 hx
      obtain ⟨i, hi⟩ := List.getElem?_of_mem hq
      have : rkB q.r a.r = false := rkB_no fun e2 => by
        have := hu (i + 1) q (by simpa using hi) e2
        omega
      simp [this]
    | succ j =>
      have ha : rkB a.r p.r = false := rkB_no fun e2 => by
        have := hu 0 a (by simp) e2
        omega
      rw [List.eraseIdx_cons_succ, List.map_cons, List.map_cons, List.filter_cons, ih (by simpa using hj) (fun i q hi e => by have := hu (i + 1) q (by simpa using hi) e; omega)]
      simp [ha]
theorem upd_runs {A : List Aq} {r : Pm} {f : Aq → Aq} (hf : ∀ p, (f p).r = p.r) : (upd A r f).map (·.r) = A.map (·.r) := by
  unfold upd
  rw [List.map_map]
  apply List.map_congr_left
  intro p _
  show (if rkB p.r r = true then f p else p).r = p.r
  split <;> simp [hf]
end Go.Proofs.Ytiflhfhonhbcpaa.Hw
namespace Go.Proofs.Ytiflhfhonhbcpaa.Hw
open Go Go.RowKit Go.Proofs.Ytiflhfhonhbcpaa Go.Proofs.Ytiflhfhonhbcpaa.Crw Go.Proofs.Ytiflhfhonhbcpaa.Vl Go.ChangeShapes Go.WideShapes Go.ChangeAt
set_option linter.unusedVariables false
set_option maxRecDepth 1000000
section
variable {w w' : World} {B h : Nat} {V U : Nat → Prop} {A : List Aq} {K : List Ky}
abbrev mgA (k : Int) (r : Pm) (t : ByteArray) (its : Value) : Array Value := #[.int .i64 k, .string r.f, .string r.e, .string t, .int .i64 r.n, .int .i64 0, .int .i64 0, .int .i64 0, its]
set_option maxHeartbeats 8000000 in
theorem Hear13 {Q : World → Value → World → Prop} (r : Pm) (t : ByteArray) (its : Value) (hC : ∀ W : World, Below w.heap.size w W → Calls Try.prog 44 #[.pointer (some ⟨h, 0, none⟩), rkV r] W fun e9 w2 => ∃ u, e9 = .returned u ∧ Q W u w2) :
    Calls Try.prog 11 #[.pointer (some ⟨h, 0, none⟩), .agg (mgA 13 r t its)] w fun e9 w' => ∃ u W, e9 = .returned u ∧ Below w.heap.size w W ∧ Q W u w' := by
  obtain ⟨W, hW⟩ : ∃ W, W = (w.alloc (.cells (mgA 13 r t its) 30)).alloc (.cells #[.string r.f, .string r.e, .int .i64 r.n] 90) := ⟨_, rfl⟩
  obtain ⟨gm, hgm⟩ : ∃ g, g = w.heap.size := ⟨_, rfl⟩
  obtain ⟨gr, hgr⟩ : ∃ g, g = w.heap.size + 1 := ⟨_, rfl⟩
  have hb : Below w.heap.size w W := by rw [hW]; exact ((Below.refl _ _).alloc (Nat.le_refl _) _).alloc (by simp) _
  have hr : Blk W gr 90 (rkC r) := by
    rw [hW, hgr]
    have := Blk.new (w.alloc (.cells (mgA 13 r t its) 30)) 90 (rkC r)
    simpa using this
  have hm : Blk W gm 30 (mgA 13 r t its) := by rw [hW, hgm]; exact (Blk.new w _ _).alloc _
  have hC := hC W hb
  have k0 : W.cell? ⟨gr, 0, none⟩ = some (.string r.f) := hr.cell 0
  have k1 : W.cell? ⟨gr, 1, none⟩ = some (.string r.e) := hr.cell 1
  have k2 : W.cell? ⟨gr, 2, none⟩ = some (.int .i64 r.n) := hr.cell 2
  have m0 : W.cell? ⟨gm, 0, none⟩ = some (.int .i64 13) := hm.cell 0
  have m3 : W.cell? ⟨gm, 3, none⟩ = some (.string t) := hm.cell 3
  have m8 : W.cell? ⟨gm, 8, none⟩ = some its := hm.cell 8
  have HW := Lib.hid (And.intro hW (And.intro hgm hgr))
  have HB := Lib.hid hb
  clear hW hgm hgr hb hr hm
  go_enter Try.func11, Try.ntmps11
  go_upto_region 2 with fail
  rw [← HW.out.1, ← HW.out.2.2, ← HW.out.2.1]
  go_wp2_with (go_at_call 44; refine hC.mono ?_; rintro e9 w2 ⟨u, rfl, hq⟩)
  go_ret
  exact ⟨u, W, rfl, HB.out, hq⟩
set_option maxHeartbeats 8000000 in
theorem Hear14 {Q : World → Value → World → Prop} (r : Pm) (t : ByteArray) (its : Value) (hC : ∀ W : World, Below w.heap.size w W → Calls Try.prog 45 #[.pointer (some ⟨h, 0, none⟩), rkV r, its] W fun e9 w2 => e9 = .returned (.tuple #[]) ∧ Q W (.slice none 0 0) w2) :
    Calls Try.prog 11 #[.pointer (some ⟨h, 0, none⟩), .agg (mgA 14 r t its)] w fun e9 w' => ∃ u W, e9 = .returned u ∧ Below w.heap.size w W ∧ Q W u w' := by
  obtain ⟨W, hW⟩ : ∃ W, W = (w.alloc (.cells (mgA 14 r t its) 30)).alloc (.cells #[.string r.f, .string r.e, .int .i64 r.n] 90) := ⟨_, rfl⟩
  obtain ⟨gm, hgm⟩ : ∃ g, g = w.heap.size := ⟨_, rfl⟩
  obtain ⟨gr, hgr⟩ : ∃ g, g = w.heap.size + 1 := ⟨_, rfl⟩
  have hb : Below w.heap.size w W := by rw [hW]; exact ((Below.refl _ _).alloc (Nat.le_refl _) _).alloc (by simp) _
  have hr : Blk W gr 90 (rkC r) := by
    rw [hW, hgr]
    have := Blk.new (w.alloc (.cells (mgA 14 r t its) 30)) 90 (rkC r)
    simpa using this
  have hm : Blk W gm 30 (mgA 14 r t its) := by rw [hW, hgm]; exact (Blk.new w _ _).alloc _
  have hC := hC W hb
  have k0 : W.cell? ⟨gr, 0, none⟩ = some (.string r.f) := hr.cell 0
  have k1 : W.cell? ⟨gr, 1, none⟩ = some (.string r.e) := hr.cell 1
  have k2 : W.cell? ⟨gr, 2, none⟩ = some (.int .i64 r.n) := hr.cell 2
  have m0 : W.cell? ⟨gm, 0, none⟩ = some (.int .i64 14) := hm.cell 0
  have m3 : W.cell? ⟨gm, 3, none⟩ = some (.string t) := hm.cell 3
  have m8 : W.cell? ⟨gm, 8, none⟩ = some its := hm.cell 8
  have HW := Lib.hid (And.intro hW (And.intro hgm hgr))
  have HB := Lib.hid hb
  clear hW hgm hgr hb hr hm
  go_enter Try.func11, Try.ntmps11
  go_upto_region 2 with fail
  rw [← HW.out.1, ← HW.out.2.2, ← HW.out.2.1]
  go_wp2_with (go_at_call 45; refine hC.mono ?_; rintro e9 w2 ⟨rfl, hq⟩)
  go_ret
  exact ⟨_, W, rfl, HB.out, hq⟩
set_option maxHeartbeats 8000000 in
theorem Hear15 {Q : World → Value → World → Prop} (r : Pm) (t : ByteArray) (its : Value) (hC : ∀ W : World, Below w.heap.size w W → Calls Try.prog 46 #[.pointer (some ⟨h, 0, none⟩), rkV r, .string t] W fun e9 w2 => ∃ u, e9 = .returned u ∧ Q W u w2) :
    Calls Try.prog 11 #[.pointer (some ⟨h, 0, none⟩), .agg (mgA 15 r t its)] w fun e9 w' => ∃ u W, e9 = .returned u ∧ Below w.heap.size w W ∧ Q W u w' := by
  obtain ⟨W, hW⟩ : ∃ W, W = (w.alloc (.cells (mgA 15 r t its) 30)).alloc (.cells #[.string r.f, .string r.e, .int .i64 r.n] 90) := ⟨_, rfl⟩
  obtain ⟨gm, hgm⟩ : ∃ g, g = w.heap.size := ⟨_, rfl⟩
  obtain ⟨gr, hgr⟩ : ∃ g, g = w.heap.size + 1 := ⟨_, rfl⟩
  have hb : Below w.heap.size w W := by rw [hW]; exact ((Below.refl _ _).alloc (Nat.le_refl _) _).alloc (by simp) _
  have hr : Blk W gr 90 (rkC r) := by
    rw [hW, hgr]
    have := Blk.new (w.alloc (.cells (mgA 15 r t its) 30)) 90 (rkC r)
    simpa using this
  have hm : Blk W gm 30 (mgA 15 r t its) := by rw [hW, hgm]; exact (Blk.new w _ _).alloc _
  have hC := hC W hb
  have k0 : W.cell? ⟨gr, 0, none⟩ = some (.string r.f) := hr.cell 0
  have k1 : W.cell? ⟨gr, 1, none⟩ = some (.string r.e) := hr.cell 1
  have k2 : W.cell? ⟨gr, 2, none⟩ = some (.int .i64 r.n) := hr.cell 2
  have m0 : W.cell? ⟨gm, 0, none⟩ = some (.int .i64 15) := hm.cell 0
  have m3 : W.cell? ⟨gm, 3, none⟩ = some (.string t) := hm.cell 3
  have m8 : W.cell? ⟨gm, 8, none⟩ = some its := hm.cell 8
  have HW := Lib.hid (And.intro hW (And.intro hgm hgr))
  have HB := Lib.hid hb
  clear hW hgm hgr hb hr hm
  go_enter Try.func11, Try.ntmps11
  go_upto_region 2 with fail
  rw [← HW.out.1, ← HW.out.2.2, ← HW.out.2.1]
  go_wp2_with (go_at_call 46; refine hC.mono ?_; rintro e9 w2 ⟨u, rfl, hq⟩)
  go_ret
  exact ⟨u, W, rfl, HB.out, hq⟩
set_option maxHeartbeats 8000000 in
theorem Hear16 {Q : World → Value → World → Prop} (r : Pm) (t : ByteArray) (its : Value) (hC : ∀ W : World, Below w.heap.size w W → Calls Try.prog 47 #[.pointer (some ⟨h, 0, none⟩), rkV r] W fun e9 w2 => ∃ u, e9 = .returned u ∧ Q W u w2) :
    Calls Try.prog 11 #[.pointer (some ⟨h, 0, none⟩), .agg (mgA 16 r t its)] w fun e9 w' => ∃ u W, e9 = .returned u ∧ Below w.heap.size w W ∧ Q W u w' := by
  obtain ⟨W, hW⟩ : ∃ W, W = (w.alloc (.cells (mgA 16 r t its) 30)).alloc (.cells #[.string r.f, .string r.e, .int .i64 r.n] 90) := ⟨_, rfl⟩
  obtain ⟨gm, hgm⟩ : ∃ g, g = w.heap.size := ⟨_, rfl⟩
  obtain ⟨gr, hgr⟩ : ∃ g, g = w.heap.size + 1 := ⟨_, rfl⟩
  have hb : Below w.heap.size w W := by rw [hW]; exact ((Below.refl _ _).alloc (Nat.le_refl _) _).alloc (by simp) _
  have hr : Blk W gr 90 (rkC r) := by
    rw [hW, hgr]
    have := Blk.new (w.alloc (.cells (mgA 16 r t its) 30)) 90 (rkC r)
    simpa using this
  have hm : Blk W gm 30 (mgA 16 r t its) := by rw [hW, hgm]; exact (Blk.new w _ _).alloc _
  have hC := hC W hb
  have k0 : W.cell? ⟨gr, 0, none⟩ = some (.string r.f) := hr.cell 0
  have k1 : W.cell? ⟨gr, 1, none⟩ = some (.string r.e) := hr.cell 1
  have k2 : W.cell? ⟨gr, 2, none⟩ = some (.int .i64 r.n) := hr.cell 2
  have m0 : W.cell? ⟨gm, 0, none⟩ = some (.int .i64 16) := hm.cell 0
  have m3 : W.cell? ⟨gm, 3, none⟩ = some (.string t) := hm.cell 3
  have m8 : W.cell? ⟨gm, 8, none⟩ = some its := hm.cell 8
  have HW := Lib.hid (And.intro hW (And.intro hgm hgr))
  have HB := Lib.hid hb
  clear hW hgm hgr hb hr hm
  go_enter Try.func11, Try.ntmps11
  go_upto_region 2 with fail
  rw [← HW.out.1, ← HW.out.2.2, ← HW.out.2.1]
  go_wp2_with (go_at_call 47; refine hC.mono ?_; rintro e9 w2 ⟨u, rfl, hq⟩)
  go_ret
  exact ⟨u, W, rfl, HB.out, hq⟩
set_option maxHeartbeats 8000000 in
theorem Hear17 {Q : World → Value → World → Prop} (r : Pm) (t : ByteArray) (its : Value) (hC : ∀ W : World, Below w.heap.size w W → Calls Try.prog 47 #[.pointer (some ⟨h, 0, none⟩), rkV r] W fun e9 w2 => ∃ u, e9 = .returned u ∧ Q W u w2) :
    Calls Try.prog 11 #[.pointer (some ⟨h, 0, none⟩), .agg (mgA 17 r t its)] w fun e9 w' => ∃ u W, e9 = .returned u ∧ Below w.heap.size w W ∧ Q W u w' := by
  obtain ⟨W, hW⟩ : ∃ W, W = (w.alloc (.cells (mgA 17 r t its) 30)).alloc (.cells #[.string r.f, .string r.e, .int .i64 r.n] 90) := ⟨_, rfl⟩
  obtain ⟨gm, hgm⟩ : ∃ g, g = w.heap.size := ⟨_, rfl⟩
  obtain ⟨gr, hgr⟩ : ∃ g, g = w.heap.size + 1 := ⟨_, rfl⟩
  have hb : Below w.heap.size w W := by rw [hW]; exact ((Below.refl _ _).alloc (Nat.le_refl _) _).alloc (by simp) _
  have hr : Blk W gr 90 (rkC r) := by
    rw [hW, hgr]
    have := Blk.new (w.alloc (.cells (mgA 17 r t its) 30)) 90 (rkC r)
    simpa using this
  have hm : Blk W gm 30 (mgA 17 r t its) := by rw [hW, hgm]; exact (Blk.new w _ _).alloc _
  have hC := hC W hb
  have k0 : W.cell? ⟨gr, 0, none⟩ = some (.string r.f) := hr.cell 0
  have k1 : W.cell? ⟨gr, 1, none⟩ = some (.string r.e) := hr.cell 1
  have k2 : W.cell? ⟨gr, 2, none⟩ = some (.int .i64 r.n) := hr.cell 2
  have m0 : W.cell? ⟨gm, 0, none⟩ = some (.int .i64 17) := hm.cell 0
  have m3 : W.cell? ⟨gm, 3, none⟩ = some (.string t) := hm.cell 3
  have m8 : W.cell? ⟨gm, 8, none⟩ = some its := hm.cell 8
  have HW := Lib.hid (And.intro hW (And.intro hgm hgr))
  have HB := Lib.hid hb
  clear hW hgm hgr hb hr hm
  go_enter Try.func11, Try.ntmps11
  go_upto_region 2 with fail
  rw [← HW.out.1, ← HW.out.2.2, ← HW.out.2.1]
  go_wp2_with (go_at_call 47; refine hC.mono ?_; rintro e9 w2 ⟨u, rfl, hq⟩)
  go_ret
  exact ⟨u, W, rfl, HB.out, hq⟩
set_option maxHeartbeats 8000000 in
theorem HearO {k : Int} (h13 : k ≠ 13) (h14 : k ≠ 14) (h15 : k ≠ 15) (h16 : k ≠ 16) (h17 : k ≠ 17) (r : Pm) (t : ByteArray) (its : Value) :
    Calls Try.prog 11 #[.pointer (some ⟨h, 0, none⟩), .agg (mgA k r t its)] w fun e9 w' => e9 = .returned (.slice none 0 0) ∧ Below w.heap.size w w' := by
  have e13 : (k == 13) = false := by simpa using h13
  have e14 : (k == 14) = false := by simpa using h14
  have e15 : (k == 15) = false := by simpa using h15
  have e16 : (k == 16) = false := by simpa using h16
  have e17 : (k == 17) = false := by simpa using h17
  have hb : Below w.heap.size w ((w.alloc (.cells (mgA k r t its) 30)).alloc (.cells #[.string r.f, .string r.e, .int .i64 r.n] 90)) := ((Below.refl _ _).alloc (Nat.le_refl _) _).alloc (by simp) _
  have HB := Lib.hid hb
  clear hb h13 h14 h15 h16 h17
  go_enter Try.func11, Try.ntmps11
  go_wp2_with fail
  go_ret
  exact ⟨rfl, HB.out⟩
/-- The hands over plain lists. -/
def PAt (w : World) (B h : Nat) (V : Nat → Prop) (A : List Aq) (K : List Ky) : Prop :=
  ∃ xb sb kb R S v lv, HqP w B h xb sb kb V R S K v lv ∧ R.map aq = A.filter (·.lv) ∧ S = A.map (·.r)
def Sm (n : Nat) (A : List Aq) (K : List Ky) : Prop := A.length ≤ n ∧ (∀ p ∈ A, p.ts.length ≤ n) ∧ K.length ≤ n
/-- What was made of them, and the answer. -/
def PHrd (w : World) (B h : Nat) (V : Nat → Prop) (A : List Aq) (K : List Ky) (X : List Ms) (u : Value) (w' : World) : Prop :=
  ∃ V', PAt w' B h V' A K ∧ (∀ b, V b → V' b) ∧ (∀ b, V' b → V b ∨ w.heap.size ≤ b) ∧ Vol V w w' ∧ Win w' w.heap.size 30 9 u X.length (mssV X) ∧ ∀ c, u.ownBlock = some c → ¬ V' c
theorem PAt.vol (H : PAt w B h V A K) (hv : Vol U w w') (hd : ∀ b, V b → ¬ U b) : PAt w' B h V A K := by
  obtain ⟨xb, sb, kb, R, S, v, lv, H, h1, h2⟩ := H
  exact ⟨xb, sb, kb, R, S, v, lv, H.vol hv hd, h1, h2⟩
theorem PAt.below (H : PAt w B h V A K) (hb : Below w.heap.size w w') : PAt w' B h V A K := H.vol (U := fun _ => False) (Vol.of_below hb) (fun _ _ => id)
theorem PAt.lt (H : PAt w B h V A K) : ∀ b, V b → b < w.heap.size := by
  obtain ⟨xb, sb, kb, R, S, v, lv, H, h1, h2⟩ := H
  exact H.lt
theorem PAt.live {xb sb kb : Nat} {R : List Pr} {S : List Pm} {v lv : Value} (H : HqP w B h xb sb kb V R S K v lv) (h1 : R.map aq = A.filter (·.lv)) {r : Pm} {ts : List Tq} (hm : (⟨r, true, ts⟩ : Aq) ∈ A) : ∃ (j : Nat) (p : Pr), R[j]? = some p ∧ p.r = r ∧ p.ts = ts := by
  have : (⟨r, true, ts⟩ : Aq) ∈ R.map aq := by rw [h1]; exact List.mem_filter.2 ⟨hm, rfl⟩
  obtain ⟨p, hp, e⟩ := List.mem_map.1 this
  obtain ⟨j, hj⟩ := List.getElem?_of_mem hp
  simp only [aq, Aq.mk.injEq] at e
  exact ⟨j, p, hj, e.1, e.2.2⟩
theorem PAt.dead {R : List Pr} (h1 : R.map aq = A.filter (·.lv)) {r : Pm} (hn : ∀ p ∈ A, p.lv = true → p.r ≠ r) : ∀ (k : Nat) (p : Pr), R[k]? = some p → p.r ≠ r := fun k p hp => by
  have : aq p ∈ A.filter (·.lv) := by rw [← h1]; exact List.mem_map.2 ⟨p, List.mem_of_getElem? hp, rfl⟩
  obtain ⟨h2, h3⟩ := List.mem_filter.1 this
  exact hn (aq p) h2 h3
theorem PHrd.none (H : PAt w B h V A K) (hb : Below w.heap.size w w') : PHrd w B h V A K [] (.slice none 0 0) w' :=
  ⟨V, H.below hb, fun _ => id, fun _ => .inl, Vol.of_below hb, Win.nil _ _ _ _, fun c hc => by simp [Value.ownBlock] at hc⟩
theorem win_one {w : World} {c B : Nat} {x : Ms} (h : Blk w c 30 (msA x)) (hB : B ≤ c) : Win w B 30 9 (.slice (some ⟨c, 0, none⟩) 1 1) [x].length (mssV [x]) := by
  refine ⟨by simp [mssV], _, 1, rfl, by simp, by simp [maxLen], fun _ => by simp, fun a ha => ?_⟩
  injection ha with ha
  exact ⟨c, 0, _, ha.symm, hB, h, by simp, by simp [mssV]⟩
theorem PHrd.trans {W w2 : World} {A1 : List Aq} {K1 : List Ky} {X : List Ms} {u : Value} (hb : Below w.heap.size w W) (H : PHrd W B h V A1 K1 X u w2) : PHrd w B h V A1 K1 X u w2 := by
  obtain ⟨V', h1, h2, h3, h4, h5, h6⟩ := H
  exact ⟨V', h1, h2, fun b e => (h3 b e).imp id (fun e => Nat.le_trans hb.size e), (Vol.of_below hb).trans h4 (fun b e => .inl e), h5.down hb.size, h6⟩
set_option maxHeartbeats 4000000 in
/-- The program's hands hear a message. -/
theorem PHear {A1 : List Aq} {K1 : List Ky} {X : List Ms} {k : Int} {r : Pm} {t tm : ByteArray} {its : Value} (ht : k = 15 → tm = t) (hR : HearR k r t A K A1 K1 X) (H : PAt w B h V A K) (hs : Sm 100 A K) (hi : k = 14 → ∃ gi cx, its = .slice (some ⟨gi, 0, none⟩) 1 1 ∧ Blk w gi 57 #[.string t, cx]) :
    Calls Try.prog 11 #[.pointer (some ⟨h, 0, none⟩), .agg (mgA k r tm its)] w fun e9 w' => ∃ u, e9 = .returned u ∧ PHrd w B h V A1 K1 X u w' := by
  obtain ⟨xb, sb, kb, R, S, v, lv, H, h1, h2⟩ := H
  have hRl : R.length ≤ 100 := by
    have := congrArg List.length h1
    rw [List.length_map] at this
    have h3 := List.length_filter_le (·.lv) A
    have := hs.1
    omega
  have fin : ∀ {e9 : Ending} {w' : World}, (∃ u W, e9 = .returned u ∧ Below w.heap.size w W ∧ PHrd W B h V A1 K1 X u w') → ∃ u, e9 = .returned u ∧ PHrd w B h V A1 K1 X u w' := fun ⟨u, W, e, hb, hP⟩ => ⟨u, e, hP.trans hb⟩
  have hAt : ∀ {W : World}, Below w.heap.size w W → PAt W B h V A K := fun hb => ⟨xb, sb, kb, R, S, v, lv, H.below hb, h1, h2⟩
  have hfi : ∀ {r : Pm} {p : Pr} {j : Nat}, R[j]? = some p → p.r = r → ∀ (i : Nat) (q : Pr), R[i]? = some q → q.r = p.r → i = j := fun hj _ i q hq e => H.ps.uniq i _ q _ hq hj e
  cases hR with
  | startOld hk hm =>
    subst hk
    refine (Hear13 (Q := fun W u w' => PHrd W B h V A K [] u w') r tm its fun W hb => ?_).mono fun e9 w' => fin
    refine (Start_yes (H.below hb) (r := r) (by rw [h2]; obtain ⟨p, hp, e⟩ := hm; exact List.mem_map.2 ⟨p, hp, e⟩)).mono ?_
    rintro e9 w2 ⟨rfl, hb2⟩
    exact ⟨_, rfl, PHrd.none (hAt hb) hb2⟩
  | startNew hk hn =>
    subst hk
    refine (Hear13 (Q := fun W u w' => PHrd W B h V (A ++ [⟨r, true, []⟩]) K [⟨7, r, noB, 0⟩] u w') r tm its fun W hb => ?_).mono fun e9 w' => fin
    refine (Start_no (H.below hb) (r := r) (by rw [h2]; intro hm; obtain ⟨p, hp, e⟩ := List.mem_map.1 hm; exact hn p hp e) hRl).mono ?_
    rintro e9 w2 ⟨c, V', v', p, rfl, q1, q2, q3, q4, q5, q6, q7, q8, q9⟩
    have hpl : p.lv = true := q6.live R.length p (by simp)
    refine ⟨_, rfl, V', ⟨xb, sb, kb, _, _, v', lv, q6, ?_, ?_⟩, q7, q8, q9, win_one q1 q2, fun c' e => ?_⟩
    · rw [List.map_append, h1, List.filter_append]
      simp [aq, q4, q5, hpl]
    · rw [h2]; simp
    · injection e with e; rw [← e]; exact q3
  | none hk hn =>
    have hd := PAt.dead h1 hn
    rcases hk with rfl | rfl | rfl | rfl
    · refine (Hear14 (Q := fun W u w' => PHrd W B h V A K [] u w') r tm its fun W hb => ?_).mono fun e9 w' => fin
      refine (Launch_no (H.below hb) (r := r) hd its).mono ?_
      rintro e9 w2 ⟨rfl, hb2⟩
      exact ⟨rfl, PHrd.none (hAt hb) hb2⟩
    · refine (Hear15 (Q := fun W u w' => PHrd W B h V A K [] u w') r tm its fun W hb => ?_).mono fun e9 w' => fin
      refine (End_no (H.below hb) (r := r) hd tm).mono ?_
      rintro e9 w2 ⟨rfl, hb2⟩
      exact ⟨_, rfl, PHrd.none (hAt hb) hb2⟩
    · refine (Hear16 (Q := fun W u w' => PHrd W B h V A K [] u w') r tm its fun W hb => ?_).mono fun e9 w' => fin
      refine (Stop_no (H.below hb) (r := r) hd).mono ?_
      rintro e9 w2 ⟨rfl, hb2⟩
      exact ⟨_, rfl, PHrd.none (hAt hb) hb2⟩
    · refine (Hear17 (Q := fun W u w' => PHrd W B h V A K [] u w') r tm its fun W hb => ?_).mono fun e9 w' => fin
      refine (Stop_no (H.below hb) (r := r) hd).mono ?_
      rintro e9 w2 ⟨rfl, hb2⟩
      exact ⟨_, rfl, PHrd.none (hAt hb) hb2⟩
  | launchOld ts hk hm hkn =>
    subst hk
    obtain ⟨gi, cx, rfl, hgi⟩ := hi rfl
    obtain ⟨j, p, hj, hp, hts⟩ := PAt.live H h1 hm
    refine (Hear14 (Q := fun W u w' => PHrd W B h V A K [] u w') r tm _ fun W hb => ?_).mono fun e9 w' => fin
    refine (Launch_yes (H.below hb) hj hp (by rw [hts]; exact hs.2.1 _ hm) hs.2.2 (hgi.below hb hgi.lt)).mono ?_
    rintro e9 w2 ⟨rfl, hq⟩
    rcases hq with ⟨-, hb2⟩ | ⟨hno, -⟩
    · exact ⟨rfl, PHrd.none (hAt hb) hb2⟩
    · exact absurd hkn hno
  | launchNew ts hk hm hkn =>
    subst hk
    obtain ⟨gi, cx, rfl, hgi⟩ := hi rfl
    obtain ⟨j, p, hj, hp, hts⟩ := PAt.live H h1 hm
    refine (Hear14 (Q := fun W u w' => PHrd W B h V (upd A r (give t)) (K ++ [⟨r.f, t⟩]) [] u w') r tm _ fun W hb => ?_).mono fun e9 w' => fin
    refine (Launch_yes (H.below hb) hj hp (by rw [hts]; exact hs.2.1 _ hm) hs.2.2 (hgi.below hb hgi.lt)).mono ?_
    rintro e9 w2 ⟨rfl, hq⟩
    rcases hq with ⟨hy, -⟩ | ⟨-, V', tv, lv', q1, q2, q3, q4⟩
    · exact absurd hy hkn
    · refine ⟨rfl, V', ⟨xb, sb, kb, _, _, v, lv', q1, ?_, ?_⟩, q2, q3, q4, Win.nil _ _ _ _, fun c hc => by simp [Value.ownBlock] at hc⟩
      · rw [upd_set (f := give t) hj (hfi hj hp) rfl, h1, hp, upd_filter (f := give t) (fun _ => rfl)]
      · rw [upd_runs (f := give t) (fun _ => rfl), h2]
  | endNo ts hk hm hno =>
    subst hk
    obtain rfl := ht rfl
    obtain ⟨j, p, hj, hp, hts⟩ := PAt.live H h1 hm
    refine (Hear15 (Q := fun W u w' => PHrd W B h V A K [] u w') r tm its fun W hb => ?_).mono fun e9 w' => fin
    refine (End_yes (H.below hb) hj hp (by rw [hts]; exact hs.2.1 _ hm) tm).mono ?_
    rintro e9 w2 hq
    rcases hq with ⟨-, rfl, hb2⟩ | ⟨i, c, V', tv, ⟨x, q1, q2, -⟩, -⟩
    · exact ⟨_, rfl, PHrd.none (hAt hb) hb2⟩
    · exact absurd q2 (hno i x (by rw [← hts]; exact q1))
  | endYes ts i hk hm hf =>
    subst hk
    obtain rfl := ht rfl
    obtain ⟨j, p, hj, hp, hts⟩ := PAt.live H h1 hm
    refine (Hear15 (Q := fun W u w' => PHrd W B h V (upd A r (drop i)) K [⟨8, r, tm, 5⟩] u w') r tm its fun W hb => ?_).mono fun e9 w' => fin
    refine (End_yes (H.below hb) hj hp (by rw [hts]; exact hs.2.1 _ hm) tm).mono ?_
    rintro e9 w2 hq
    obtain ⟨x, f1, f2, f3⟩ := hf
    rcases hq with ⟨hno, -⟩ | ⟨i', c, V', tv, ⟨x', q1, q2, q3⟩, rfl, g1, g2, g3, g4, g5, g6, g7⟩
    · exact absurd f2 (hno i x (by rw [hts]; exact f1))
    · rw [hts] at q1 q3
      have hii : i' = i := by
        rcases Nat.lt_trichotomy i' i with e | e | e
        · exact absurd q2 (f3 i' x' e q1)
        · exact e
        · exact absurd f2 (q3 i x e f1)
      subst hii
      refine ⟨_, rfl, V', ⟨xb, sb, kb, _, _, v, lv, g4, ?_, ?_⟩, g5, g6, g7, win_one (by rw [← hp]; exact g1) g2, fun c' e => ?_⟩
      · rw [upd_set (f := drop i') hj (hfi hj hp) rfl, h1, hp, upd_filter (f := drop i') (fun _ => rfl)]
      · rw [upd_runs (f := drop i') (fun _ => rfl), h2]
      · injection e with e; rw [← e]; exact g3
  | stop ts hk hm =>
    obtain ⟨j, p, hj, hp, hts⟩ := PAt.live H h1 hm
    have main : ∀ W : World, Below w.heap.size w W → Calls Try.prog 47 #[.pointer (some ⟨h, 0, none⟩), rkV r] W fun e9 w2 => ∃ u, e9 = .returned u ∧ PHrd W B h V (upd A r kill) K [⟨9, r, noB, 0⟩] u w2 := fun W hb => by
      refine (Stop_run (H.below hb) hj hp hRl).mono ?_
      rintro e9 w2 ⟨c, v', rfl, q1, q2, q3, q4, q5⟩
      refine ⟨_, rfl, V, ⟨xb, sb, kb, _, _, v', lv, q4, ?_, ?_⟩, fun _ => id, fun _ => .inl, q5, win_one q1 q2, fun c' e => ?_⟩
      · rw [erase_filter hj (hfi hj hp), h1, hp, kill_filter]
      · rw [upd_runs (f := kill) (fun _ => rfl), h2]
      · injection e with e; rw [← e]; exact q3
    rcases hk with rfl | rfl
    · exact (Hear16 (Q := fun W u w' => PHrd W B h V (upd A r kill) K [⟨9, r, noB, 0⟩] u w') r tm its main).mono fun e9 w' => fin
    · exact (Hear17 (Q := fun W u w' => PHrd W B h V (upd A r kill) K [⟨9, r, noB, 0⟩] u w') r tm its main).mono fun e9 w' => fin
  | other h13 h14 h15 h16 h17 =>
    refine (HearO h13 h14 h15 h16 h17 r tm its).mono ?_
    rintro e9 w2 ⟨rfl, hb2⟩
    exact ⟨_, rfl, PHrd.none (hAt (Below.refl _ _)) hb2⟩
end
end Go.Proofs.Ytiflhfhonhbcpaa.Hw
namespace Go.Proofs.Ytiflhfhonhbcpaa.Hw
open Go Go.RowKit Go.Proofs.Ytiflhfhonhbcpaa Go.Proofs.Ytiflhfhonhbcpaa.Crw Go.Proofs.Ytiflhfhonhbcpaa.Vl Go.ChangeShapes Go.WideShapes Go.ChangeAt
set_option linter.unusedVariables false
set_option maxRecDepth 1000000
def stepQ (p : Aq) : Aq := if p.lv then match p.ts with | [] => p | x :: r => if x.b then ⟨p.r, p.lv, r⟩ else ⟨p.r, p.lv, ⟨x.t, true⟩ :: r⟩ else p
def ansQ (p : Aq) : List Ms := if p.lv then match p.ts with | [] => [] | x :: r => [⟨8, p.r, x.t, if x.b then 3 else 2⟩] else []
def helQ (p : Aq) : List Ms := if p.lv then [⟨7, p.r, noB, 0⟩] else []
theorem stepQ_lv (p : Aq) : (stepQ p).lv = p.lv := by
  unfold stepQ
  split
  · split
    · rfl
    · split <;> rfl
  · rfl
theorem stepQ_r (p : Aq) : (stepQ p).r = p.r := by
  unfold stepQ
  split
  · split
    · rfl
    · split <;> rfl
  · rfl
theorem step_filter (A : List Aq) : (A.map stepQ).filter (·.lv) = (A.filter (·.lv)).map stepQ := by
  induction A with
  | nil => rfl
  | cons a l ih =>
    rw [List.map_cons, List.filter_cons, List.filter_cons, ih, stepQ_lv]
    cases a.lv <;> rfl
theorem ans_filter (A : List Aq) : (A.filter (·.lv)).flatMap ansQ = A.flatMap ansQ := by
  induction A with
  | nil => rfl
  | cons a l ih =>
    rw [List.filter_cons, List.flatMap_cons, ← ih]
    cases h : a.lv
    · simp [ansQ, h]
    · simp
theorem hel_filter (A : List Aq) : (A.filter (·.lv)).flatMap helQ = A.flatMap helQ := by
  induction A with
  | nil => rfl
  | cons a l ih =>
    rw [List.filter_cons, List.flatMap_cons, ← ih]
    cases h : a.lv
    · simp [helQ, h]
    · simp
theorem msg_info : (Try.prog.info? 30).map (fun i => (i.zero, i.size, i.bytes)) = some (some (.agg (msA ⟨0, ⟨noB, noB, 0⟩, noB, 0⟩)), 9, 112) := by kernel_rfl
theorem mssV_app (L M : List Ms) : mssV (L ++ M) = mssV L ++ mssV M := by simp [mssV]
theorem mssV_single (x : Ms) : mssV [x] = msC x := by simp [mssV]
theorem aq_take {R : List Pr} {j : Nat} {p : Pr} {α : Type} (f : Aq → List α) (hp : R[j]? = some p) : ((R.take (j + 1)).map aq).flatMap f = ((R.take j).map aq).flatMap f ++ f (aq p) := by
  rw [List.take_add_one, hp]; simp
section
variable {w w' : World} {B h xb sb kb : Nat} {V U : Nat → Prop} {R : List Pr} {S : List Pm} {K : List Ky} {v lv : Value}
set_option maxHeartbeats 16000000 in
theorem Hello_n (H : HqP w B h xb sb kb V R S K v lv) (hl : R.length ≤ 100) :
    Calls Try.prog 12 #[.pointer (some ⟨h, 0, none⟩)] w fun e9 w' => ∃ v', e9 = .returned v' ∧ w'.ownsRow w.heap.size 30 9 v' ((R.map aq).flatMap helQ).length (mssV ((R.map aq).flatMap helQ)) ∧ Below w.heap.size w w' := by
  obtain ⟨X, hX⟩ : ∃ X, X = (R.map aq).flatMap helQ := ⟨_, rfl⟩
  rw [← hX]
  have HX := Lib.hid hX
  clear hX
  obtain ⟨i0, hi0, hz0, hz1, hz2⟩ := info_parts msg_info
  obtain ⟨A0, c0, rfl, hc0, -⟩ := own_slice H.row
  have h0 : w.cell? ⟨h, 0, none⟩ = some (.slice A0 R.length c0) := H.blk.cell 0
  obtain ⟨L, hL⟩ : ∃ L, L = R.length := ⟨_, rfl⟩
  have hrow := H.row
  rw [← hL] at h0 hc0 hl hrow
  have HH := Lib.hid H
  have HR := Lib.hid hrow
  have HL := Lib.hid hL
  clear H hrow hL
  go_enter Try.func12, Try.ntmps12
  go_wp2_with fail
  go_loopw [3, 11] (fun vl vi wr => Hid (∃ j : Nat, vi = .int .i64 j ∧ j ≤ L ∧ (((R.take j).map aq).flatMap helQ).length = j ∧ wr.ownsRow w.heap.size 30 9 vl j (mssV (((R.take j).map aq).flatMap helQ)) ∧ Below w.heap.size w wr ∧ ∃ w7, w7 = wr)) (fun _ vi _ => L - (intOf vi).toNat)
  case atStart => exact Lib.hid ⟨0, rfl, by omega, by simp, ⟨by simp, .inl ⟨rfl, rfl⟩⟩, Below.refl _ _, _, rfl⟩
  case round =>
    obtain ⟨j, rfl, hj, hlen, ho, hb, w7, hw7⟩ := hrel.out
    subst hw7
    clear hrel
    have HLN := Lib.hid hlen
    obtain ⟨Al, cl, rfl, hcl, -⟩ := own_slice ho
    by_cases hlt : (j : Int) < L
    · obtain ⟨p, hp⟩ : ∃ p, R[j]? = some p := ⟨R[j]'(by have := HL.out; omega), List.getElem?_eq_getElem _⟩
      obtain ⟨u, rfl⟩ := own_some HR.out (by omega)
      have hr7 := own_keep HR.out hb
      have c7 : w7.cell? ⟨u, j, none⟩ = some (ptr p) := (hr7.cellAt j (by omega)).trans (by rw [List.getElem?_map, hp]; rfl)
      have hk := (HH.out.ps.prs j p hp).below hb (HH.out.ps.prs j p hp).lt
      have p0 : w7.cell? ⟨p.g, 0, none⟩ = some (.string p.r.f) := hk.cell 0
      have p1 : w7.cell? ⟨p.g, 1, none⟩ = some (.string p.r.e) := hk.cell 1
      have p2 : w7.cell? ⟨p.g, 2, none⟩ = some (.int .i64 p.r.n) := hk.cell 2
      have hA := About 7 p.r w7
      have hpl := Lib.hid (HH.out.live j p hp)
      have HO := Lib.hid ho
      have HB := Lib.hid hb
      have HPj := Lib.hid hp
      clear ho hb hp hk hr7 hlen
      go_wp2_with (first | (go_at_call 48; refine hA.mono ?_; rintro e9 w8 ⟨rfl, hb8⟩; have HO8 := Lib.hid (own_keep HO.out hb8); have HB8 := Lib.hid (HB.out.trans (hb8.mono HB.out.size)); clear hb8 hA) | (at_builtin; refine wpList_append_own _ rfl _ _ 26 rfl w.heap.size 30 i0 _ 9 112 Try.underlying26 hi0 hz0 hz1 hz2 rfl (by decide) _ _ _ rfl (HO8.out.alloc _) ⟨w8.heap.size, 0, none⟩ 1 1 (msC ⟨7, p.r, noB, 0⟩) rfl rfl (cells_new _ _ _) (msC_one _) (by simp only [maxLen]; omega) (by omega) (by have := HB8.out.size; simp; omega) ?_; intro v9 w9 hown9 hg9 _))
      refine ⟨?_, by simp [intOf]; omega⟩
      have e0 : helQ (aq p) = [⟨7, p.r, noB, 0⟩] := by simp [helQ, hpl.out]
      have e1 : mssV (((R.take (j + 1)).map aq).flatMap helQ) = mssV (((R.take j).map aq).flatMap helQ) ++ msC ⟨7, p.r, noB, 0⟩ := by rw [aq_take helQ HPj.out, e0, mssV_app, mssV_single]
      refine Lib.hid ⟨j + 1, by simp, by omega, by rw [aq_take helQ HPj.out, e0, List.length_append, HLN.out]; rfl, by rw [e1]; exact hown9, (HB8.out.alloc HB8.out.size _).grown hg9 (Nat.le_trans HB8.out.size (by simp)) (fun k hk => (HO8.out.lt k hk).1), _, rfl⟩
    · have hjl : j = L := by omega
      have HB := Lib.hid hb
      have HO := Lib.hid ho
      clear hb ho
      go_wp2_with fail
      go_ret
      have e2 : R.take j = R := by rw [hjl, HL.out]; exact List.take_length
      have ho := HO.out
      have hln := HLN.out
      rw [e2] at ho hln
      refine ⟨_, rfl, ?_, HB.out⟩
      rw [HX.out, hln]
      rw [hjl] at ho ⊢
      exact ho
set_option maxHeartbeats 4000000 in
theorem Live_n (H : HqP w B h xb sb kb V R S K v lv) :
    Calls Try.prog 13 #[.pointer (some ⟨h, 0, none⟩)] w fun e9 w' => e9 = .returned (.int .i64 R.length) ∧ w' = w := by
  obtain ⟨A0, c0, rfl, hc0, -⟩ := own_slice H.row
  have a0 : w.cell? ⟨h, 0, none⟩ = some (.slice A0 R.length c0) := H.blk.cell 0
  go_enter Try.func13, Try.ntmps13
  go_wp2
  go_ret
  exact ⟨rfl, rfl⟩
theorem kysV_one (L : List Ky) : ∀ u ∈ kysV L, u.oneCell' = true := by
  intro u hu
  obtain ⟨r, _, hr⟩ := List.mem_flatMap.1 hu
  simp only [kyC, List.mem_cons, List.not_mem_nil, or_false] at hr
  rcases hr with rfl | rfl <;> rfl
set_option maxHeartbeats 4000000 in
theorem CloneK {B c : Nat} {A : Option Addr} {l : List Ky} (w : World) (h : w.ownsRow B 46 2 (.slice A l.length c) l.length (kysV l)) (hl : l.length ≤ 1000) :
    Calls Try.prog 56 #[.slice A l.length c] w fun e w' => ∃ v', e = .returned v' ∧ w'.ownsRow w.heap.size 46 2 v' l.length (kysV l) ∧ Below w.heap.size w w' := by
  obtain ⟨i0, hi, hz0, hz1, hz2⟩ := info_parts key_info
  have hR := Reads.of_own h
  cases A with
  | none =>
    have hl0 : l.length = 0 := by
      rcases Nat.eq_zero_or_pos l.length with e | e
      · exact e
      · obtain ⟨ad, h, _⟩ := hR.2 e; cases h
    have heq : ∀ w1, (binOp .eql 38 (.slice none l.length c) (.slice none 0 0)).run Try.prog w1 = .ok (.bool true) w1 := fun w1 => Lib.run_eql_slice_nil w1 38 46 none l.length c 0 0 Try.underlying38
    have hv := h.1
    rw [hl0] at *
    go_enter Try.func56, Try.ntmps56
    go_wp2
    go_ret
    exact ⟨_, rfl, ⟨hv, .inl ⟨rfl, rfl⟩⟩, Below.refl _ _⟩
  | some ad =>
    have heq : ∀ w1, (binOp .eql 38 (.slice (some ad) l.length c) (.slice none 0 0)).run Try.prog w1 = .ok (.bool false) w1 := fun w1 => Lib.run_eql_slice_nil w1 38 46 (some ad) l.length c 0 0 Try.underlying38
    have HR := Lib.hid hR
    have HV := Lib.hid (kysV_one l)
    clear h hR
    go_enter Try.func56, Try.ntmps56
    go_wp2_with (first | (at_builtin; go_must (refine wpList_append_any _ rfl _ _ 38 rfl w.heap.size 46 i0 (.agg #[.string ⟨#[]⟩, .string ⟨#[]⟩]) 2 32 Try.underlying38 hi hz0 hz1 hz2 rfl (by decide) _ 0 [] rfl ⟨by simp, .inr ⟨w.heap.size, 0, #[], rfl, Nat.le_refl _, heap_alloc_new w _, Nat.le_refl _, by decide, rfl, rfl⟩⟩ w.heap.size (some ad) l.length c (kysV l) rfl (HR.out.alloc (Nat.le_refl _) _) HV.out (by simp only [maxLen]; omega) (by omega) (by simp) ?_); intro v1 w1 hown1 hg1 _hne; clear _hne; rw [Nat.zero_add, List.nil_append] at hown1))
    go_ret
    exact ⟨v1, rfl, hown1, ((Below.refl w.heap.size w).alloc (Nat.le_refl _) _).grown hg1 (by simp) (fun k hk => by injection hk with hk; subst hk; exact Nat.le_refl _)⟩
set_option maxHeartbeats 4000000 in
theorem Launched_n (H : HqP w B h xb sb kb V R S K v lv) (hl : K.length ≤ 1000) :
    Calls Try.prog 30 #[.pointer (some ⟨h, 0, none⟩)] w fun e9 w' => ∃ v', e9 = .returned v' ∧ w'.ownsRow w.heap.size 46 2 v' K.length (kysV K) ∧ Below w.heap.size w w' := by
  obtain ⟨A0, c0, rfl, hc0, -⟩ := own_slice H.keys
  have a0 : w.cell? ⟨h, 3, none⟩ = some (.slice A0 K.length c0) := H.blk.cell 3
  have hC := CloneK w H.keys hl
  clear H hc0 hl
  go_enter Try.func30, Try.ntmps30
  go_wp2_with (go_at_call 56; refine hC.mono ?_; rintro e9 w' ⟨v', rfl, ho, hb⟩)
  go_ret
  exact ⟨v', rfl, ho, hb⟩
set_option maxHeartbeats 4000000 in
theorem New_h (w : World) : Calls Try.prog 9 #[] w fun e9 w' => ∃ h xb sb kb V, e9 = .returned (.pointer (some ⟨h, 0, none⟩)) ∧ HqP w' w.heap.size h xb sb kb V [] [] [] (.slice none 0 0) (.slice none 0 0) ∧ Below w.heap.size w w' := by
  have hmm := @run_makeMap Try.prog
  go_enter Try.func9, Try.ntmps9
  go_wp2
  go_ret
  have hw : ∀ (w : World) (o : Obj), Below w.heap.size w (w.alloc o) := fun w o => (Below.refl _ _).alloc (Nat.le_refl _) _
  have b1 := hw w (.map #[] 0)
  have b2 := hw (w.alloc (.map #[] 0)) (.map #[] 0)
  have b3 := hw ((w.alloc (.map #[] 0)).alloc (.map #[] 0)) (.map #[] 0)
  have b4 := hw (((w.alloc (.map #[] 0)).alloc (.map #[] 0)).alloc (.map #[] 0)) (.cells #[.slice none 0 0, .map (some w.heap.size), .map (some (w.heap.size + 1)), .slice none 0 0, .map (some (w.heap.size + 1 + 1))] 88)
  have b34 := b3.trans (b4.mono b3.size)
  have b24 := b2.trans (b34.mono b2.size)
  have b14 := b1.trans (b24.mono b1.size)
  refine ⟨w.heap.size + 1 + 1 + 1, w.heap.size, w.heap.size + 1, w.heap.size + 1 + 1, fun b => w.heap.size ≤ b ∧ b < w.heap.size + 4, by simp, ⟨?_, ?_, ?_, ?_, ⟨by simp, .inl ⟨rfl, rfl⟩⟩, ⟨by simp, .inl ⟨rfl, rfl⟩⟩, ⟨fun k p h => by simp at h, fun k p h => by simp at h, fun j k p q h => by simp at h, fun j k p q h => by simp at h, fun j k p q h => by simp at h, fun k p h => by simp at h, nPT⟩, fun k p h => by simp at h, fun k p h => by simp at h, by omega, ⟨by omega, by omega, by omega, by omega⟩, fun b h => by simp [Value.ownBlock] at h, fun b h => by simp [Value.ownBlock] at h, fun b h => by simp; omega, fun b h => h.1⟩, b14⟩
  · have := Blk.new (((w.alloc (.map #[] 0)).alloc (.map #[] 0)).alloc (.map #[] 0)) 88 #[.slice none 0 0, .map (some w.heap.size), .map (some (w.heap.size + 1)), .slice none 0 0, .map (some (w.heap.size + 1 + 1))]
    simpa using this
  · exact (MapAt.made w).keep (b24.block _ (by simp))
  · have := (MapAt.made (w.alloc (.map #[] 0))).keep (b34.block _ (by simp))
    simpa using this
  · have := (MapAt.made ((w.alloc (.map #[] 0)).alloc (.map #[] 0))).keep (b4.block _ (by simp))
    simpa using this
end
end Go.Proofs.Ytiflhfhonhbcpaa.Hw
namespace Go.Proofs.Ytiflhfhonhbcpaa.Hw
open Go Go.RowKit Go.Proofs.Ytiflhfhonhbcpaa Go.Proofs.Ytiflhfhonhbcpaa.Crw Go.Proofs.Ytiflhfhonhbcpaa.Vl Go.ChangeShapes Go.WideShapes Go.ChangeAt
set_option linter.unusedVariables false
set_option maxRecDepth 1000000
section
variable {w w' : World} {B h xb sb kb : Nat} {V U : Nat → Prop} {R : List Pr} {S : List Pm} {K : List Ky} {v lv : Value}
theorem list_set_append {α : Type} {a b : List α} {x y : α} {j : Nat} (hj : a.length = j) : (a ++ x :: b).set j y = a ++ y :: b := by
  subst hj
  simp
theorem mid_at {R' : List Pr} {Lq : List Aq} {j : Nat} {p : Pr} (h : R'.map aq = (Lq.take j).map stepQ ++ Lq.drop j) (hp : R'[j]? = some p) : Lq[j]? = some (aq p) := by
  have h1 : (R'.map aq)[j]? = some (aq p) := by rw [List.getElem?_map, hp]; rfl
  have hl : j < Lq.length := by
    have h2 := congrArg List.length h
    simp only [List.length_map, List.length_append, List.length_take, List.length_drop] at h2
    have := (List.getElem?_eq_some_iff.1 hp).1
    omega
  rw [h, List.getElem?_append_right (by rw [List.length_map, List.length_take]; omega), List.length_map, List.length_take, Nat.min_eq_left (by omega), Nat.sub_self, List.getElem?_drop] at h1
  simpa using h1
theorem mid_next {R' : List Pr} {Lq : List Aq} {j : Nat} {p p' : Pr} (h : R'.map aq = (Lq.take j).map stepQ ++ Lq.drop j) (hp : R'[j]? = some p) (he : aq p' = stepQ (aq p)) : (R'.set j p').map aq = (Lq.take (j + 1)).map stepQ ++ Lq.drop (j + 1) := by
  have h1 := mid_at h hp
  have hl := (List.getElem?_eq_some_iff.1 h1).1
  rw [List.map_set, h, he, List.take_add_one, h1]
  have e : Lq.drop j = aq p :: Lq.drop (j + 1) := by
    rw [List.drop_eq_getElem_cons hl]
    congr 1
    rw [List.getElem?_eq_getElem hl] at h1
    injection h1
  rw [e, list_set_append (by simp; omega)]
  simp
theorem take_flat {Lq : List Aq} {j : Nat} {q : Aq} {α : Type} (f : Aq → List α) (hp : Lq[j]? = some q) : (Lq.take (j + 1)).flatMap f = (Lq.take j).flatMap f ++ f q := by
  rw [List.take_add_one, hp]; simp
theorem HqP.same {V' : Nat → Prop} (H : HqP w B h xb sb kb V' R S K v lv) (hv : ∀ b, V' b ↔ V b) : HqP w B h xb sb kb V R S K v lv := by
  have : V' = V := funext fun b => propext (hv b)
  rw [← this]
  exact H
/-- What one round of Step makes. -/
def StpI (w : World) (B h xb sb kb : Nat) (V : Nat → Prop) (S : List Pm) (K : List Ky) (v lv : Value) (Lq : List Aq) (j : Nat) (vl : Value) (wr : World) : Prop :=
  ∃ R', HqP wr B h xb sb kb V R' S K v lv ∧ R'.map aq = (Lq.take j).map stepQ ++ Lq.drop j ∧ (∃ N, N = ((Lq.take j).flatMap ansQ).length ∧ N ≤ j ∧ wr.ownsRow w.heap.size 30 9 vl N (mssV ((Lq.take j).flatMap ansQ))) ∧ Vol V w wr
set_option maxHeartbeats 16000000 in
theorem Step_n (H : HqP w B h xb sb kb V R S K v lv) (hl : R.length ≤ 100) :
    Calls Try.prog 24 #[.pointer (some ⟨h, 0, none⟩)] w fun e9 w' => ∃ v', e9 = .returned v' ∧ StpI w B h xb sb kb V S K v lv (R.map aq) R.length v' w' := by
  obtain ⟨i0, hi0, hz0, hz1, hz2⟩ := info_parts msg_info
  obtain ⟨A0, c0, rfl, hc0, -⟩ := own_slice H.row
  have h0 : w.cell? ⟨h, 0, none⟩ = some (.slice A0 R.length c0) := H.blk.cell 0
  obtain ⟨L, hL⟩ : ∃ L, L = R.length := ⟨_, rfl⟩
  obtain ⟨Lq, hLq⟩ : ∃ Lq, Lq = R.map aq := ⟨_, rfl⟩
  rw [← hL] at h0 hc0 hl H ⊢
  rw [← hLq]
  have HH := Lib.hid H
  have HL := Lib.hid hL
  have HLq := Lib.hid hLq
  have hst : StpI w B h xb sb kb V S K (.slice A0 L c0) lv Lq 0 (.slice none 0 0) w := ⟨R, H, by rw [hLq]; simp, ⟨0, by simp, by omega, ⟨by simp, .inl ⟨rfl, rfl⟩⟩⟩, Vol.refl _⟩
  have HST := Lib.hid hst
  clear H hL hLq hst
  go_enter Try.func24, Try.ntmps24
  go_wp2_with fail
  go_loopw [3, 12] (fun vl vi wr => Hid (∃ j : Nat, vi = .int .i64 j ∧ j ≤ L ∧ StpI w B h xb sb kb V S K (.slice A0 L c0) lv Lq j vl wr ∧ ∃ w7, w7 = wr)) (fun _ vi _ => L - (intOf vi).toNat)
  case atStart => exact Lib.hid ⟨0, rfl, by omega, HST.out, _, rfl⟩
  case round =>
    obtain ⟨j, rfl, hj, ⟨R', h7, hma, ⟨N, hN, hNj, ho⟩, hvw⟩, w7, hw7⟩ := hrel.out
    subst hw7
    clear hrel HST
    obtain ⟨Al, cl, rfl, hcl, -⟩ := own_slice ho
    have hRL : R'.length = L := by
      have := congrArg List.length hma
      simp only [List.length_map, List.length_append, List.length_take, List.length_drop] at this
      have h2 := congrArg List.length HLq.out
      rw [List.length_map] at h2
      have := HL.out
      omega
    obtain ⟨X, hX⟩ : ∃ X, X = (Lq.take j).flatMap ansQ := ⟨_, rfl⟩
    rw [← hX] at ho
    have HXE := Lib.hid hX
    have HNE := Lib.hid hN
    have H7 := Lib.hid h7
    have HMA := Lib.hid hma
    have HO := Lib.hid ho
    have HVW7 := Lib.hid hvw
    have HRL := Lib.hid hRL
    have HSZ := Lib.hid hvw.size
    by_cases hlt : (j : Int) < L
    · obtain ⟨p, hp⟩ : ∃ p, R'[j]? = some p := ⟨R'[j]'(by omega), List.getElem?_eq_getElem _⟩
      have hrow := h7.row
      rw [hRL] at hrow
      obtain ⟨u, rfl⟩ := own_some hrow (by omega)
      have c7 : w7.cell? ⟨u, j, none⟩ = some (ptr p) := (hrow.cellAt j (by omega)).trans (by rw [List.getElem?_map, hp]; rfl)
      have hpr := h7.ps.prs j p hp
      have hwin := h7.ps.tks j p hp
      have hpl := h7.live j p hp
      have hRep := fun t s wa => Report p.r t s wa
      obtain ⟨pt, hpt⟩ : ∃ l, l = p.ts := ⟨_, rfl⟩
      obtain ⟨At, ct, hv0, hct, hctm, hAt⟩ := hwin.form
      have HPR := Lib.hid hpr
      have HWIN := Lib.hid hwin
      have HPL := Lib.hid hpl
      have HPj := Lib.hid hp
      have HV0 := Lib.hid hv0
      have a3 : w7.cell? ⟨p.g, 3, none⟩ = some (.slice At pt.length ct) := by rw [hpt, ← hv0]; exact hpr.cell 3
      rw [← hpt] at hct
      rcases pt with _ | ⟨x, rest⟩
      · have HTS := Lib.hid hpt
        clear ho h7 hma hvw hRL hN hX hrow hpr hwin hpl hRep hp hv0 hAt hctm hpt
        go_wp2_with fail
        refine ⟨?_, by simp [intOf]; omega⟩
        have hse : R'.set j p = R' := set_self HPj.out
        have hmm := mid_next (p' := p) HMA.out HPj.out (by simp [stepQ, ← HTS.out])
        rw [hse] at hmm
        refine Lib.hid ⟨j + 1, by simp, by omega, ⟨_, H7.out, hmm, ⟨N, ?_, by omega, ?_⟩, HVW7.out⟩, _, rfl⟩
        · rw [take_flat ansQ (mid_at HMA.out HPj.out), List.length_append, ← HNE.out]; simp [ansQ, ← HTS.out]
        · rw [take_flat ansQ (mid_at HMA.out HPj.out), ← HXE.out]
          have e0 : ansQ (aq p) = [] := by simp [ansQ, ← HTS.out]
          rw [e0, List.append_nil]
          exact HO.out
      · have HTS := Lib.hid hpt.symm
        have hw0 := hwin
        rw [hv0, ← hpt] at hw0
        obtain ⟨g, o, c, hv, -, -⟩ := hw0.at (by simp)
        injection hv with hv _ hv2
        subst hv hv2
        have t0 : w7.cell? ⟨g, o, none⟩ = some (.string x.t) := by
          have := hw0.cell (i := 0) (by simp)
          rw [Nat.add_zero] at this
          exact this.trans (by simp [tqV])
        have t1 : w7.cell? ⟨g, o + 1, none⟩ = some (.bool x.b) := by
          have := hw0.cell (i := 1) (by simp; omega)
          exact this.trans (by simp [tqV])
        obtain ⟨n, hn⟩ : ∃ n, n = (x :: rest).length := ⟨_, rfl⟩
        have hn1 : 0 < n := by rw [hn]; simp
        have hn0 : ((n : Int) == 0) = false := by simp; omega
        rw [← hn] at a3 hct
        rw [← hn] at hw0
        have hgne : p.g ≠ g := fun e => hw0.blk_ne hpr nPT.symm (by rw [e]; rfl)
        have HNN := Lib.hid hn
        have HW0 := Lib.hid hw0
        have HGN := Lib.hid hgne
        have HCTM := Lib.hid hctm
        obtain ⟨xb', hxb⟩ : ∃ b, b = x.b := ⟨_, rfl⟩
        rw [← hxb] at t1
        have HXB := Lib.hid hxb.symm
        clear ho h7 hma hvw hRL hN hX hrow hpr hwin hpl hp hv0 hAt hctm hpt hw0 hn hgne hxb
        cases xb' with
        | true =>
          go_upto_region 8 with fail
          obtain ⟨g6, hg6⟩ : ∃ g, g = w7.heap.size := ⟨_, rfl⟩
          obtain ⟨W6, hW6⟩ : ∃ W, W = w7.alloc (.cells #[.string x.t, .bool true] 110) := ⟨_, rfl⟩
          rw [← hW6, ← hg6]
          have hb6 : Below w7.heap.size w7 W6 := by rw [hW6]; exact (Below.refl _ _).alloc (Nat.le_refl _) _
          have hx6 : Blk W6 g6 110 #[.string x.t, .bool true] := by rw [hW6, hg6]; exact Blk.new w7 _ _
          have hp6 := HPR.out.below hb6 HPR.out.lt
          have b3 : W6.cell? ⟨p.g, 3, none⟩ = some (.slice (some ⟨g, o, none⟩) n ct) := (hb6.cell (p := ⟨p.g, 3, none⟩) HPR.out.lt).trans a3
          have f3 : W6.frozen? ⟨p.g, 3, none⟩ = false := hp6.frozen 3
          have HB6 := Lib.hid hb6
          have HX6 := Lib.hid hx6
          have HP6 := Lib.hid hp6
          have HG6 := Lib.hid hg6
          clear hW6 hb6 hx6 hp6 a3 t0 t1 c7 hg6
          go_upto_region 9 with fail
          obtain ⟨A1, hA1⟩ : ∃ A : Option Addr, A = if ct = 1 then some (⟨g, o, none⟩ : Addr) else some ⟨g, o + 2, none⟩ := ⟨_, rfl⟩
          obtain ⟨W8, hW8⟩ : ∃ W, W = W6.setCell ⟨p.g, 3, none⟩ (.slice A1 (n - 1) (ct - 1)) := ⟨_, rfl⟩
          rw [← hA1, ← hW8]
          have hwt : Win w7 B 110 2 (.slice A1 (n - 1) (ct - 1)) (n - 1) (tqV rest) := by
            have := HW0.out.tail hn1 hA1
            simpa [tqV] using this
          have hown : ∀ b, (Value.slice A1 (n - 1) (ct - 1)).ownBlock = some b → p.tv.ownBlock = some b := fun b e => by
            rw [HV0.out, ← e, hA1]
            split <;> rfl
          have bp8 := HP6.out.set_ 3 (.slice A1 (n - 1) (ct - 1))
          rw [← hW8] at bp8
          have hw8 : Win W8 B 110 2 (.slice A1 (n - 1) (ct - 1)) (n - 1) (tqV rest) := by
            rw [hW8]
            exact (hwt.below HB6.out).vol (U := fun b => b = p.g) (Vol.setCell (V := fun b => b = p.g) (a := ⟨p.g, 3, none⟩) (Vol.refl W6) (.inl rfl) _) (fun b hb e => hwt.blk_ne HPR.out nPT.symm (by rw [hb, e]))
          have v78 : Vol (fun b => b = p.g ∨ p.tv.ownBlock = some b) w7 W8 := by
            rw [hW8]
            exact Vol.setCell (V := fun b => b = p.g ∨ p.tv.ownBlock = some b) (a := ⟨p.g, 3, none⟩) (Vol.of_below HB6.out) (.inl (.inl rfl)) _
          have hrl : rest.length = n - 1 := by rw [HNN.out]; simp
          have H8 := Lib.hid ((H7.out.turn (p' := ⟨p.g, p.r, p.lv, .slice A1 (n - 1) (ct - 1), rest⟩) HPj.out rfl rfl rfl v78 (by simpa using bp8) (by rw [hrl]; exact hw8) (fun b e => .inl (hown b e))).same (fun b => ⟨fun e => e.elim id (fun e => (H7.out.ps.vp j p HPj.out).2 b (hown b e.2)), .inl⟩))
          have bx8 : Blk W8 g6 110 #[.string x.t, .bool true] := by
            rw [hW8]
            exact HX6.out.far (p := ⟨p.g, 3, none⟩) (fun e => HX6.out.ne_ HP6.out nPT.symm e) _
          have p0 : W8.cell? ⟨p.g, 0, none⟩ = some (.string p.r.f) := bp8.cell 0
          have p1 : W8.cell? ⟨p.g, 1, none⟩ = some (.string p.r.e) := bp8.cell 1
          have p2 : W8.cell? ⟨p.g, 2, none⟩ = some (.int .i64 p.r.n) := bp8.cell 2
          have p3 : W8.cell? ⟨g6, 0, none⟩ = some (.string x.t) := bx8.cell 0
          have HVW8 := Lib.hid (HVW7.out.trans v78 (fun b e => .inl (e.elim (fun e => by rw [e]; exact (H7.out.ps.vp j p HPj.out).1) (fun e => (H7.out.ps.vp j p HPj.out).2 b e))))
          have ho7 := (own_vol HO.out v78 (fun b hb e => by
            have := H7.out.ps.far_own HO.out (by decide) (by decide) hb HPj.out
            exact e.elim (fun e => this.1 e.symm) this.2))
          have HO7 := Lib.hid (show World.ownsRow W8.drew w.heap.size 30 9 (.slice Al N cl) N (mssV X) from ho7)
          clear ho7
          have HSZ8 := Lib.hid HVW8.out.size
          have HS := (show Blk W8.drew p.g 98 #[.string p.r.f, .string p.r.e, .int .i64 p.r.n, .slice A1 (n - 1) (ct - 1)] ∧ Blk W8.drew g6 110 #[.string x.t, .bool true] from ⟨bp8, bx8⟩)
          clear hA1 hW8 hwt hown bp8 hw8 v78 hrl bx8 b3 f3 p0 p1 p2 p3
          refine wp_region_noPanic ?_
          refine wp_region_held_drew (S := fun wa => Blk wa p.g 98 #[.string p.r.f, .string p.r.e, .int .i64 p.r.n, .slice A1 (n - 1) (ct - 1)] ∧ Blk wa g6 110 #[.string x.t, .bool true]) (by kernel_rfl) HS (fun hHeld => ?_)
          refine wpAnyH_take (i := 0) (oi := ?ois91) (v := ?vs91) ?his91 (by kernel_rfl) (by kernel_rfl) (by kernel_rfl) (fun _ _ _ h => h) ?hys91 HS ?rests91
          case his91 => (simp only [List.getElem?_toArray, List.getElem?_cons_zero]; try rfl)
          case hys91 => (refine Or.inl ⟨by rfl, ?_⟩; intro w hSw; go_simp; (try with_reducible rfl))
          try simp only [Act.put, List.setIfInBounds_toArray, List.set_cons_zero, List.set_cons_succ]
          refine wpAnyH_take (i := 1) (oi := ?ois92) (v := ?vs92) ?his92 (by kernel_rfl) (by kernel_rfl) (by kernel_rfl) (fun _ _ _ h => h) ?hys92 HS ?rests92
          case his92 => (simp only [List.getElem?_toArray, List.getElem?_cons_succ, List.getElem?_cons_zero]; try rfl)
          case hys92 => (refine Or.inl ⟨by rfl, ?_⟩; intro w hSw; go_simp; (try with_reducible rfl))
          try simp only [Act.put, List.setIfInBounds_toArray, List.set_cons_zero, List.set_cons_succ]
          refine wpAnyH_take (i := 2) (oi := ?ois93) (v := ?vs93) ?his93 (by kernel_rfl) (by kernel_rfl) (by kernel_rfl) (fun _ _ _ h => h) ?hys93 HS ?rests93
          case his93 => (simp only [List.getElem?_toArray, List.getElem?_cons_succ, List.getElem?_cons_zero]; try rfl)
          case hys93 => (refine Or.inl ⟨by rfl, ?_⟩; intro w hSw; go_simp; (try with_reducible rfl))
          try simp only [Act.put, List.setIfInBounds_toArray, List.set_cons_zero, List.set_cons_succ]
          refine wpAnyH_take (i := 3) (oi := ?ois94) (v := ?vs94) ?his94 (by kernel_rfl) (by kernel_rfl) (by kernel_rfl) (fun _ _ _ h => h) ?hys94 HS ?rests94
          case his94 => (simp only [List.getElem?_toArray, List.getElem?_cons_succ, List.getElem?_cons_zero]; try rfl)
          case hys94 => (refine Or.inl ⟨by rfl, ?_⟩; intro w hSw; go_simp; (try with_reducible rfl))
          try simp only [Act.put, List.setIfInBounds_toArray, List.set_cons_zero, List.set_cons_succ]
          refine wpAnyH_take (i := 4) (oi := ?ois95) (v := ?vs95) ?his95 (by kernel_rfl) (by kernel_rfl) (by kernel_rfl) (fun _ _ _ h => h) ?hys95 HS ?rests95
          case his95 => (simp only [List.getElem?_toArray, List.getElem?_cons_succ, List.getElem?_cons_zero]; try rfl)
          case hys95 => (refine Or.inl ⟨by rfl, ?_⟩; intro w hSw; have q := And.intro (hSw.1.cell 0) (And.intro (hSw.1.cell 1) (hSw.1.cell 2)); go_simp; (try with_reducible rfl))
          try simp only [Act.put, List.setIfInBounds_toArray, List.set_cons_zero, List.set_cons_succ]
          refine wpAnyH_take (i := 5) (oi := ?ois96) (v := ?vs96) ?his96 (by kernel_rfl) (by kernel_rfl) (by kernel_rfl) (fun _ _ _ h => h) ?hys96 HS ?rests96
          case his96 => (simp only [List.getElem?_toArray, List.getElem?_cons_succ, List.getElem?_cons_zero]; try rfl)
          case hys96 => (refine Or.inl ⟨by rfl, ?_⟩; intro w hSw; go_simp; (try with_reducible rfl))
          try simp only [Act.put, List.setIfInBounds_toArray, List.set_cons_zero, List.set_cons_succ]
          refine wpAnyH_take (i := 6) (oi := ?ois97) (v := ?vs97) ?his97 (by kernel_rfl) (by kernel_rfl) (by kernel_rfl) (fun _ _ _ h => h) ?hys97 HS ?rests97
          case his97 => (simp only [List.getElem?_toArray, List.getElem?_cons_succ, List.getElem?_cons_zero]; try rfl)
          case hys97 => (refine Or.inl ⟨by rfl, ?_⟩; intro w hSw; have q := hSw.2.cell 0; go_simp; (try with_reducible rfl))
          try simp only [Act.put, List.setIfInBounds_toArray, List.set_cons_zero, List.set_cons_succ]
          refine wpAnyH_ready (rs := [7]) (by kernel_rfl) (by simp) ?_
          refine AllReadyH.cons (o := ?ois98) ?his98 (fun K hK => ?sts98) AllReadyH.nil
          case his98 => (simp only [List.getElem?_toArray, List.getElem?_cons_succ, List.getElem?_cons_zero]; try rfl)
          go_simp
          go_at_call 53
          refine (hRep x.t 3 _).mono ?_
          rintro e9 w8 ⟨rfl, hb8⟩
          try dsimp only
          have HS8 := (show Blk w8 p.g 98 #[.string p.r.f, .string p.r.e, .int .i64 p.r.n, .slice A1 (n - 1) (ct - 1)] ∧ Blk w8 g6 110 #[.string x.t, .bool true] from ⟨HS.1.below hb8 HS.1.lt, HS.2.below hb8 HS.2.lt⟩)
          have HO8 := Lib.hid (own_keep HO7.out hb8)
          have HB8 := Lib.hid hb8
          clear hb8
          refine hK.out _ _ HS8 (fun _ => ?rss98)
          clear hK K
          try simp only [Act.put, List.setIfInBounds_toArray, List.set_cons_zero, List.set_cons_succ]
          refine wpAnyH_ready (rs := [8]) (by kernel_rfl) (by simp) ?_
          refine AllReadyH.cons (o := ?ois99) ?his99 (fun K hK => ?sts99) AllReadyH.nil
          case his99 => (simp only [List.getElem?_toArray, List.getElem?_cons_succ, List.getElem?_cons_zero]; try rfl)
          go_simp
          try dsimp only
          refine hK.out _ _ ⟨HS8.1.alloc _, HS8.2.alloc _⟩ (fun _ => ?rss99)
          clear hK K
          try simp only [Act.put, List.setIfInBounds_toArray, List.set_cons_zero, List.set_cons_succ]
          refine wpAnyH_ready (rs := [9]) (by kernel_rfl) (by simp) ?_
          refine AllReadyH.cons (o := ?ois910) ?his910 (fun K hK => ?sts910) AllReadyH.nil
          case his910 => (simp only [List.getElem?_toArray, List.getElem?_cons_succ, List.getElem?_cons_zero]; try rfl)
          refine step_append_any _ rfl (.tmp 38) (.tmp 46) 26 rfl w.heap.size 30 i0 _ 9 112 Try.underlying26 hi0 hz0 hz1 hz2 rfl (by decide) (.slice Al N cl) N (mssV X) (by first | (simp [Act.eval]; done) | (simp [Act.eval, Act.put]; done)) (HO8.out.alloc _) (w8.heap.size + 1) (some ⟨w8.heap.size, 0, none⟩) 1 1 (msC ⟨8, p.r, x.t, 3⟩) (by first | (simp [Act.eval]; done) | (simp [Act.eval, Act.put]; done)) (reads_row w8 _ _ rfl) (msC_one _) (by simp only [maxLen]; omega) (by omega) (by have := HSZ8.out; have := HB8.out.size; simp at this ⊢; omega) ?_
          intro v9 w9 hown9 hg9 hn9
          try dsimp only
          have HS9 := (show Blk w9 p.g 98 #[.string p.r.f, .string p.r.e, .int .i64 p.r.n, .slice A1 (n - 1) (ct - 1)] ∧ Blk w9 g6 110 #[.string x.t, .bool true] from ⟨(HS8.1.alloc _).grown hg9 (fun e => own_blk_ne HO8.out HS8.1 (by decide) e.symm), (HS8.2.alloc _).grown hg9 (fun e => own_blk_ne HO8.out HS8.2 (by decide) e.symm)⟩)
          refine hK.out _ _ HS9 (fun _ => ?rss910)
          clear hK K
          try simp only [Act.put, List.setIfInBounds_toArray, List.set_cons_zero, List.set_cons_succ]
          refine wpAnyH_take (i := 10) (oi := ?ois911) (v := ?vs911) ?his911 (by kernel_rfl) (by kernel_rfl) (by kernel_rfl) (fun _ _ _ h => h) ?hys911 HS9 ?rests911
          case his911 => (simp only [List.getElem?_toArray, List.getElem?_cons_succ, List.getElem?_cons_zero]; try rfl)
          case hys911 => (refine Or.inl ⟨by rfl, ?_⟩; intro w hSw; go_simp; (try with_reducible rfl))
          try simp only [Act.put, List.setIfInBounds_toArray, List.set_cons_zero, List.set_cons_succ]
          refine wpAnyH_done (by kernel_rfl) ?_ _
          refine NoPanic.normal ?_
          go_wp2_with fail
          case _ =>
            refine ⟨?_, by simp [intOf]; omega⟩
            have hbw : Below W8.heap.size W8 w8 := (Below.refl _ _).drew.trans HB8.out
            have hv9 : Vol (fun b => w.heap.size ≤ b) W8 w9 := ((Vol.of_below hbw).alloc _).grown hg9 (fun k hk => .inl (HO8.out.lt k hk).1)
            have hVw : ∀ b, V b → ¬ (w.heap.size ≤ b) := fun b hb e => by have := HH.out.lt b hb; omega
            have H9 := H8.out.vol hv9 hVw
            refine Lib.hid ⟨j + 1, by simp, by omega, ⟨_, H9, mid_next HMA.out HPj.out ?_, ⟨N + 1, ?_, by omega, ?_⟩, ?_⟩, _, rfl⟩
            · simp [stepQ, HPL.out, HTS.out, HXB.out]
            · rw [take_flat ansQ (mid_at HMA.out HPj.out), List.length_append, ← HNE.out]; simp [ansQ, HPL.out, HTS.out]
            · rw [take_flat ansQ (mid_at HMA.out HPj.out), ← HXE.out, mssV_app, show ansQ (aq p) = [⟨8, p.r, x.t, 3⟩] by simp [ansQ, HPL.out, HTS.out, HXB.out], mssV_single]; exact hown9
            · exact HVW8.out.trans hv9 (fun b e => .inr e)
        | false =>
          go_upto_region 10 with fail
          obtain ⟨g6, hg6⟩ : ∃ g, g = w7.heap.size := ⟨_, rfl⟩
          obtain ⟨W6, hW6⟩ : ∃ W, W = w7.alloc (.cells #[.string x.t, .bool false] 110) := ⟨_, rfl⟩
          rw [← hW6, ← hg6]
          have hb6 : Below w7.heap.size w7 W6 := by rw [hW6]; exact (Below.refl _ _).alloc (Nat.le_refl _) _
          have hx6 : Blk W6 g6 110 #[.string x.t, .bool false] := by rw [hW6, hg6]; exact Blk.new w7 _ _
          have hp6 := HPR.out.below hb6 HPR.out.lt
          have b3 : W6.cell? ⟨p.g, 3, none⟩ = some (.slice (some ⟨g, o, none⟩) n ct) := (hb6.cell (p := ⟨p.g, 3, none⟩) HPR.out.lt).trans a3
          have hw06 := HW0.out.below hb6
          have hgl : g < w7.heap.size := (HW0.out.blk_lt rfl).2
          have f1 : W6.frozen? ⟨g, o + 1, none⟩ = false := hw06.frozen _
          have b1 : W6.cell? ⟨g, o + 1, none⟩ = some (.bool false) := (hb6.cell (p := ⟨g, o + 1, none⟩) hgl).trans t1
          have HB6 := Lib.hid hb6
          have HX6 := Lib.hid hx6
          have HP6 := Lib.hid hp6
          have HG6 := Lib.hid hg6
          have HW06 := Lib.hid hw06
          have hg66 : Hid (g6 ≠ g) := Lib.hid (by omega)
          clear hW6 hb6 hx6 hp6 a3 t0 t1 c7 hg6 hw06 hgl
          go_upto_region 11 with fail
          obtain ⟨W8, hW8⟩ : ∃ W, W = W6.setCell ⟨g, o + 1, none⟩ (.bool true) := ⟨_, rfl⟩
          rw [← hW8]
          have hw8 : Win W8 B 110 2 (.slice (some ⟨g, o, none⟩) n ct) n (tqV (⟨x.t, true⟩ :: rest)) := by
            have := HW06.out.set (i := 1) (by omega) (.bool true)
            rw [← hW8] at this
            simpa [tqV] using this
          have bp8 : Blk W8 p.g 98 (prC p) := by rw [hW8]; exact HP6.out.far (p := ⟨g, o + 1, none⟩) HGN.out _
          have v78 : Vol (fun b => b = p.g ∨ p.tv.ownBlock = some b) w7 W8 := by
            rw [hW8]
            exact Vol.setCell (V := fun b => b = p.g ∨ p.tv.ownBlock = some b) (a := ⟨g, o + 1, none⟩) (Vol.of_below HB6.out) (.inl (.inr (by rw [HV0.out]; rfl))) _
          have hrl : (⟨x.t, true⟩ :: rest : List Tq).length = n := by rw [HNN.out]; simp
          have H8 := Lib.hid ((H7.out.turn (p' := ⟨p.g, p.r, p.lv, p.tv, ⟨x.t, true⟩ :: rest⟩) HPj.out rfl rfl rfl v78 bp8 (by rw [hrl, HV0.out, HTS.out, ← HNN.out]; exact hw8) (fun b e => .inl e)).same (fun b => ⟨fun e => e.elim id (fun e => (H7.out.ps.vp j p HPj.out).2 b e.2), .inl⟩))
          have bx8 : Blk W8 g6 110 #[.string x.t, .bool false] := by
            rw [hW8]
            exact HX6.out.far (p := ⟨g, o + 1, none⟩) hg66.out _
          have p0 : W8.cell? ⟨p.g, 0, none⟩ = some (.string p.r.f) := bp8.cell 0
          have p1 : W8.cell? ⟨p.g, 1, none⟩ = some (.string p.r.e) := bp8.cell 1
          have p2 : W8.cell? ⟨p.g, 2, none⟩ = some (.int .i64 p.r.n) := bp8.cell 2
          have p3 : W8.cell? ⟨g6, 0, none⟩ = some (.string x.t) := bx8.cell 0
          have HVW8 := Lib.hid (HVW7.out.trans v78 (fun b e => .inl (e.elim (fun e => by rw [e]; exact (H7.out.ps.vp j p HPj.out).1) (fun e => (H7.out.ps.vp j p HPj.out).2 b e))))
          have ho7 := (own_vol HO.out v78 (fun b hb e => by
            have := H7.out.ps.far_own HO.out (by decide) (by decide) hb HPj.out
            exact e.elim (fun e => this.1 e.symm) this.2))
          have HO7 := Lib.hid (show World.ownsRow W8.drew w.heap.size 30 9 (.slice Al N cl) N (mssV X) from ho7)
          clear ho7
          have HSZ8 := Lib.hid HVW8.out.size
          have HS := (show Blk W8.drew p.g 98 #[.string p.r.f, .string p.r.e, .int .i64 p.r.n, p.tv] ∧ Blk W8.drew g6 110 #[.string x.t, .bool false] from ⟨bp8, bx8⟩)
          clear hW8 bp8 hw8 v78 hrl bx8 b3 b1 f1 p0 p1 p2 p3
          refine wp_region_noPanic ?_
          refine wp_region_held_drew (S := fun wa => Blk wa p.g 98 #[.string p.r.f, .string p.r.e, .int .i64 p.r.n, p.tv] ∧ Blk wa g6 110 #[.string x.t, .bool false]) (by kernel_rfl) HS (fun hHeld => ?_)
          refine wpAnyH_take (i := 0) (oi := ?ois111) (v := ?vs111) ?his111 (by kernel_rfl) (by kernel_rfl) (by kernel_rfl) (fun _ _ _ h => h) ?hys111 HS ?rests111
          case his111 => (simp only [List.getElem?_toArray, List.getElem?_cons_zero]; try rfl)
          case hys111 => (refine Or.inl ⟨by rfl, ?_⟩; intro w hSw; go_simp; (try with_reducible rfl))
          try simp only [Act.put, List.setIfInBounds_toArray, List.set_cons_zero, List.set_cons_succ]
          refine wpAnyH_take (i := 1) (oi := ?ois112) (v := ?vs112) ?his112 (by kernel_rfl) (by kernel_rfl) (by kernel_rfl) (fun _ _ _ h => h) ?hys112 HS ?rests112
          case his112 => (simp only [List.getElem?_toArray, List.getElem?_cons_succ, List.getElem?_cons_zero]; try rfl)
          case hys112 => (refine Or.inl ⟨by rfl, ?_⟩; intro w hSw; go_simp; (try with_reducible rfl))
          try simp only [Act.put, List.setIfInBounds_toArray, List.set_cons_zero, List.set_cons_succ]
          refine wpAnyH_take (i := 2) (oi := ?ois113) (v := ?vs113) ?his113 (by kernel_rfl) (by kernel_rfl) (by kernel_rfl) (fun _ _ _ h => h) ?hys113 HS ?rests113
          case his113 => (simp only [List.getElem?_toArray, List.getElem?_cons_succ, List.getElem?_cons_zero]; try rfl)
          case hys113 => (refine Or.inl ⟨by rfl, ?_⟩; intro w hSw; go_simp; (try with_reducible rfl))
          try simp only [Act.put, List.setIfInBounds_toArray, List.set_cons_zero, List.set_cons_succ]
          refine wpAnyH_take (i := 3) (oi := ?ois114) (v := ?vs114) ?his114 (by kernel_rfl) (by kernel_rfl) (by kernel_rfl) (fun _ _ _ h => h) ?hys114 HS ?rests114
          case his114 => (simp only [List.getElem?_toArray, List.getElem?_cons_succ, List.getElem?_cons_zero]; try rfl)
          case hys114 => (refine Or.inl ⟨by rfl, ?_⟩; intro w hSw; go_simp; (try with_reducible rfl))
          try simp only [Act.put, List.setIfInBounds_toArray, List.set_cons_zero, List.set_cons_succ]
          refine wpAnyH_take (i := 4) (oi := ?ois115) (v := ?vs115) ?his115 (by kernel_rfl) (by kernel_rfl) (by kernel_rfl) (fun _ _ _ h => h) ?hys115 HS ?rests115
          case his115 => (simp only [List.getElem?_toArray, List.getElem?_cons_succ, List.getElem?_cons_zero]; try rfl)
          case hys115 => (refine Or.inl ⟨by rfl, ?_⟩; intro w hSw; have q := And.intro (hSw.1.cell 0) (And.intro (hSw.1.cell 1) (hSw.1.cell 2)); go_simp; (try with_reducible rfl))
          try simp only [Act.put, List.setIfInBounds_toArray, List.set_cons_zero, List.set_cons_succ]
          refine wpAnyH_take (i := 5) (oi := ?ois116) (v := ?vs116) ?his116 (by kernel_rfl) (by kernel_rfl) (by kernel_rfl) (fun _ _ _ h => h) ?hys116 HS ?rests116
          case his116 => (simp only [List.getElem?_toArray, List.getElem?_cons_succ, List.getElem?_cons_zero]; try rfl)
          case hys116 => (refine Or.inl ⟨by rfl, ?_⟩; intro w hSw; go_simp; (try with_reducible rfl))
          try simp only [Act.put, List.setIfInBounds_toArray, List.set_cons_zero, List.set_cons_succ]
          refine wpAnyH_take (i := 6) (oi := ?ois117) (v := ?vs117) ?his117 (by kernel_rfl) (by kernel_rfl) (by kernel_rfl) (fun _ _ _ h => h) ?hys117 HS ?rests117
          case his117 => (simp only [List.getElem?_toArray, List.getElem?_cons_succ, List.getElem?_cons_zero]; try rfl)
          case hys117 => (refine Or.inl ⟨by rfl, ?_⟩; intro w hSw; have q := hSw.2.cell 0; go_simp; (try with_reducible rfl))
          try simp only [Act.put, List.setIfInBounds_toArray, List.set_cons_zero, List.set_cons_succ]
          refine wpAnyH_ready (rs := [7]) (by kernel_rfl) (by simp) ?_
          refine AllReadyH.cons (o := ?ois118) ?his118 (fun K hK => ?sts118) AllReadyH.nil
          case his118 => (simp only [List.getElem?_toArray, List.getElem?_cons_succ, List.getElem?_cons_zero]; try rfl)
          go_simp
          go_at_call 53
          refine (hRep x.t 2 _).mono ?_
          rintro e9 w8 ⟨rfl, hb8⟩
          try dsimp only
          have HS8 := (show Blk w8 p.g 98 #[.string p.r.f, .string p.r.e, .int .i64 p.r.n, p.tv] ∧ Blk w8 g6 110 #[.string x.t, .bool false] from ⟨HS.1.below hb8 HS.1.lt, HS.2.below hb8 HS.2.lt⟩)
          have HO8 := Lib.hid (own_keep HO7.out hb8)
          have HB8 := Lib.hid hb8
          clear hb8
          refine hK.out _ _ HS8 (fun _ => ?rss118)
          clear hK K
          try simp only [Act.put, List.setIfInBounds_toArray, List.set_cons_zero, List.set_cons_succ]
          refine wpAnyH_ready (rs := [8]) (by kernel_rfl) (by simp) ?_
          refine AllReadyH.cons (o := ?ois119) ?his119 (fun K hK => ?sts119) AllReadyH.nil
          case his119 => (simp only [List.getElem?_toArray, List.getElem?_cons_succ, List.getElem?_cons_zero]; try rfl)
          go_simp
          try dsimp only
          refine hK.out _ _ ⟨HS8.1.alloc _, HS8.2.alloc _⟩ (fun _ => ?rss119)
          clear hK K
          try simp only [Act.put, List.setIfInBounds_toArray, List.set_cons_zero, List.set_cons_succ]
          refine wpAnyH_ready (rs := [9]) (by kernel_rfl) (by simp) ?_
          refine AllReadyH.cons (o := ?ois1110) ?his1110 (fun K hK => ?sts1110) AllReadyH.nil
          case his1110 => (simp only [List.getElem?_toArray, List.getElem?_cons_succ, List.getElem?_cons_zero]; try rfl)
          refine step_append_any _ rfl (.tmp 54) (.tmp 62) 26 rfl w.heap.size 30 i0 _ 9 112 Try.underlying26 hi0 hz0 hz1 hz2 rfl (by decide) (.slice Al N cl) N (mssV X) (by first | (simp [Act.eval]; done) | (simp [Act.eval, Act.put]; done)) (HO8.out.alloc _) (w8.heap.size + 1) (some ⟨w8.heap.size, 0, none⟩) 1 1 (msC ⟨8, p.r, x.t, 2⟩) (by first | (simp [Act.eval]; done) | (simp [Act.eval, Act.put]; done)) (reads_row w8 _ _ rfl) (msC_one _) (by simp only [maxLen]; omega) (by omega) (by have := HSZ8.out; have := HB8.out.size; simp at this ⊢; omega) ?_
          intro v9 w9 hown9 hg9 hn9
          try dsimp only
          have HS9 := (show Blk w9 p.g 98 #[.string p.r.f, .string p.r.e, .int .i64 p.r.n, p.tv] ∧ Blk w9 g6 110 #[.string x.t, .bool false] from ⟨(HS8.1.alloc _).grown hg9 (fun e => own_blk_ne HO8.out HS8.1 (by decide) e.symm), (HS8.2.alloc _).grown hg9 (fun e => own_blk_ne HO8.out HS8.2 (by decide) e.symm)⟩)
          refine hK.out _ _ HS9 (fun _ => ?rss1110)
          clear hK K
          try simp only [Act.put, List.setIfInBounds_toArray, List.set_cons_zero, List.set_cons_succ]
          refine wpAnyH_take (i := 10) (oi := ?ois1111) (v := ?vs1111) ?his1111 (by kernel_rfl) (by kernel_rfl) (by kernel_rfl) (fun _ _ _ h => h) ?hys1111 HS9 ?rests1111
          case his1111 => (simp only [List.getElem?_toArray, List.getElem?_cons_succ, List.getElem?_cons_zero]; try rfl)
          case hys1111 => (refine Or.inl ⟨by rfl, ?_⟩; intro w hSw; go_simp; (try with_reducible rfl))
          try simp only [Act.put, List.setIfInBounds_toArray, List.set_cons_zero, List.set_cons_succ]
          refine wpAnyH_done (by kernel_rfl) ?_ _
          refine NoPanic.normal ?_
          go_wp2_with fail
          case _ =>
            refine ⟨?_, by simp [intOf]; omega⟩
            have hbw : Below W8.heap.size W8 w8 := (Below.refl _ _).drew.trans HB8.out
            have hv9 : Vol (fun b => w.heap.size ≤ b) W8 w9 := ((Vol.of_below hbw).alloc _).grown hg9 (fun k hk => .inl (HO8.out.lt k hk).1)
            have hVw : ∀ b, V b → ¬ (w.heap.size ≤ b) := fun b hb e => by have := HH.out.lt b hb; omega
            have H9 := H8.out.vol hv9 hVw
            refine Lib.hid ⟨j + 1, by simp, by omega, ⟨_, H9, mid_next HMA.out HPj.out ?_, ⟨N + 1, ?_, by omega, ?_⟩, ?_⟩, _, rfl⟩
            · simp [stepQ, HPL.out, HTS.out, HXB.out]
            · rw [take_flat ansQ (mid_at HMA.out HPj.out), List.length_append, ← HNE.out]; simp [ansQ, HPL.out, HTS.out]
            · rw [take_flat ansQ (mid_at HMA.out HPj.out), ← HXE.out, mssV_app, show ansQ (aq p) = [⟨8, p.r, x.t, 2⟩] by simp [ansQ, HPL.out, HTS.out, HXB.out], mssV_single]; exact hown9
            · exact HVW8.out.trans hv9 (fun b e => .inr e)
    · have hjl : j = L := by omega
      clear ho h7 hma hvw hRL hN hX
      go_wp2_with fail
      go_ret
      rw [hjl] at HMA HNE HXE hNj
      refine ⟨_, rfl, R', H7.out, HMA.out, ⟨N, HNE.out, hNj, ?_⟩, HVW7.out⟩
      rw [← HXE.out]
      exact HO.out
end
end Go.Proofs.Ytiflhfhonhbcpaa.Hw
