/- The plain bin: All. -/
import Derived.Test.YtiflhfhonhbcpaaRfB
namespace Go.Proofs.Ytiflhfhonhbcpaa
open Go Go.RowKit
set_option linter.unusedVariables false
theorem run_append_cut {P : Program} (w : World) (base : Nat) (t ty e : TypeId) (i : TypeInfo) (z : Value) (size bytes : Nat) (ht : P.underlying t = some (.slice e)) (hi : P.info? e = some i) (hz : i.zero = some z)
    (hsize : i.size = size) (hby : i.bytes = bytes) (hzs : z.cells.size = size) (k : Nat) (A0 : Option Addr) (B0 : Nat) (xs : List Value) (hr0 : Reads w B0 size A0 k xs) (hn0 : A0 = none → k = 0)
    (B : Nat) (A : Option Addr) (m c : Nat) (news : List Value) (hr : Reads w B size A m news) (hm : 0 < m) (h1 : ∀ u ∈ news, u.oneCell' = true)
    (h63 : k + m ≤ maxLen) (hbytes : (k + m) * bytes ≤ 140737488355328) (hbase : base ≤ w.heap.size) :
    ∃ v' w', (Builtin.append_ #[t, t] ty #[.slice A0 k k, .slice A m c]).run P w = .ok v' w' ∧ w'.ownsRow base e size v' (k + m) (xs ++ news) ∧ Below w.heap.size w w' ∧ v'.ownBlock = some w.heap.size := by
  obtain ⟨ad, rfl, hb, hc⟩ := hr.2 hm
  have hold : (Builtin.firstCells i.size k (.slice A0 k k)).run P w.drew = .ok xs.toArray w.drew := by
    rw [hsize]
    cases A0 with
    | none =>
      have h0 := hn0 rfl
      subst h0
      have : xs = [] := List.length_eq_zero_iff.1 (by have := hr0.1; omega)
      rw [this]
      exact run_firstCells_none w.drew size 0 0 0
    | some a =>
      refine run_firstCells_some w.drew size k a k k xs hr0.1 (fun j v hj => ?_)
      have hk : 0 < k := by
        have := (List.getElem?_eq_some_iff.1 hj).1
        have h2 := hr0.1
        rcases Nat.eq_zero_or_pos k with h | h
        · subst h; omega
        · exact h
      obtain ⟨a', ea, _, hcell⟩ := hr0.2 hk
      injection ea with ea
      rw [ea]
      exact hcell j v hj
  have hsrc : Src P i.size t (.slice (some ad) m c) m news w := by
    rw [hsize]
    exact Src.ofSlice w ht ad m c news hr.1 hc h1
  have hrun := run_append_grow_src w t t ty e i z ht hi hz A0 k k xs hold _ m news hsrc (by omega) (by unfold maxLen at h63; omega) (by rw [hby]; exact growslice_fits (by omega) hbytes)
  refine ⟨_, _, hrun, ?_, ((Below.refl _ _).drew).alloc (Nat.le_refl _) _, rfl⟩
  refine ⟨?_, .inr ⟨w.heap.size, grownCap w (k + m) k e, _, rfl, hbase, Blk.new w.drew e _, grownCap_ge w _ _ _, grownCap_le_maxLen w _ _ _ h63, ?_, ?_⟩⟩
  · rw [List.length_append, hr0.1, hr.1, Nat.add_mul]
  · have hg := grownCap_ge w (k + m) k e
    simp only [Array.size_append, List.size_toArray, List.length_append, hr0.1, hr.1, size_zeroCells, hzs]
    rw [← Nat.add_mul, ← Nat.add_mul]
    congr 1
    omega
  · rw [Array.toList_append, List.toList_toArray, List.take_append_of_le_length (by rw [List.length_append, hr0.1, hr.1, Nat.add_mul]; omega), List.take_of_length_le (by rw [List.length_append, hr0.1, hr.1, Nat.add_mul]; omega)]
theorem step_append_cut {P : Program} {ops : Array Oper} {o : Oper} {a : Act} {w : World} {K : Act → World → Prop} {Q : Exit → Act → World → Prop} {E : Prop} (hgd : o.guard = none) (s x : Operand) (t : TypeId)
    (ho : o.op = .call { callee := .builtin .append, args := #[s, x], argTypes := #[t, t] })
    (base : Nat) (e : TypeId) (i : TypeInfo) (z : Value) (size bytes : Nat) (ht : P.underlying t = some (.slice e)) (hi : P.info? e = some i) (hz : i.zero = some z)
    (hsize : i.size = size) (hby : i.bytes = bytes) (hzs : z.cells.size = size) (k : Nat) (A0 : Option Addr) (B0 : Nat) (xs : List Value) (hs : a.eval s = .slice A0 k k) (hr0 : Reads w B0 size A0 k xs) (hn0 : A0 = none → k = 0)
    (B : Nat) (A : Option Addr) (m c : Nat) (news : List Value) (hx : a.eval x = .slice A m c) (hr : Reads w B size A m news) (hm : 0 < m) (h1 : ∀ u ∈ news, u.oneCell' = true)
    (h63 : k + m ≤ maxLen) (hbytes : (k + m) * bytes ≤ 140737488355328) (hbase : base ≤ w.heap.size)
    (h : ∀ v' w', w'.ownsRow base e size v' (k + m) (xs ++ news) → Below w.heap.size w w' → v'.ownBlock = some w.heap.size → K (a.put o.dst v') w') :
    if Region.wanted o (yielded ops a.tmps) = true then Oper.wp P o a w K Q else E := by
  have hw : Region.wanted o (yielded ops a.tmps) = true := by simp [Region.wanted, hgd]
  rw [if_pos hw]
  obtain ⟨v', w', hrun, h2, h3, h4⟩ := run_append_cut (P := P) w base t o.type e i z size bytes ht hi hz hsize hby hzs k A0 B0 xs hr0 hn0 B A m c news hr hm h1 h63 hbytes hbase
  unfold Oper.wp execOp
  simp only [ho, resolve, invoke, builtin, Sem.run_bind, Sem.run_pure, Result.andThen_ok, List.map_toArray, List.map_cons, List.map_nil, hs, hx, hrun]
  exact h v' w' h2 h3 h4
end Go.Proofs.Ytiflhfhonhbcpaa
namespace Go.Proofs.Ytiflhfhonhbcpaa.Bin
open Go Go.RowKit Go.Proofs.Ytiflhfhonhbcpaa Go.Proofs.Ytiflhfhonhbcpaa.Crw Go.Proofs.Ytiflhfhonhbcpaa.Mas Go.ChangeShapes Go.WideShapes Go.ChangeAt
set_option linter.unusedVariables false
set_option maxRecDepth 100000
/-- As they came, by age. -/
def srtB (M : List Bx) : List Bx := M.foldl (fun acc x => insB x acc) []
theorem srtB_snoc (M : List Bx) (x : Bx) : srtB (M ++ [x]) = insB x (srtB M) := by simp [srtB]
theorem srtB_ind {p : List Bx → Prop} (h0 : p []) (h1 : ∀ M x, p M → p (M ++ [x])) (M : List Bx) : p M := by
  have : ∀ n (M : List Bx), M.length = n → p M := by
    intro n
    induction n with
    | zero => intro M h; rw [List.length_eq_zero_iff.1 h]; exact h0
    | succ n ih =>
      intro M h
      have hne : M ≠ [] := by intro e; rw [e] at h; simp at h
      rw [← List.dropLast_concat_getLast hne]
      exact h1 _ _ (ih _ (by rw [List.length_dropLast]; omega))
  exact this _ M rfl
theorem srtB_len (M : List Bx) : (srtB M).length = M.length := by
  induction M using srtB_ind with
  | h0 => rfl
  | h1 M x ih => rw [srtB_snoc, insB_len, ih]; simp
theorem srtB_Srt (M : List Bx) : Srt (srtB M) := by
  induction M using srtB_ind with
  | h0 => exact List.Pairwise.nil
  | h1 M x ih => rw [srtB_snoc]; exact insB_Srt ih
theorem srtB_mem {M : List Bx} {y : Bx} : y ∈ srtB M ↔ y ∈ M := by
  induction M using srtB_ind with
  | h0 => exact Iff.rfl
  | h1 M x ih => rw [srtB_snoc, insB_mem, ih]; simp [or_comm]
theorem srtB_filter (M : List Bx) (p : Bx → Bool) : (srtB M).filter p = srtB (M.filter p) := by
  induction M using srtB_ind with
  | h0 => rfl
  | h1 M x ih =>
    rw [srtB_snoc, insB_filter (srtB_Srt M), ih, List.filter_append, List.filter_cons]
    by_cases hp : p x = true
    · rw [if_pos hp, if_pos hp]
      exact (srtB_snoc _ _).symm
    · rw [if_neg hp, if_neg hp]
      simp
section
variable {w w' : World} {B b : Nat} {v : Value} {L : List Bx} {f e : ByteArray} {n s : Int}
set_option maxHeartbeats 16000000 in
theorem RAll_b (h : RbP w B b v L) : Calls Try.prog 41 #[.pointer (some ⟨b, 0, none⟩)] w fun r w' => ∃ v', r = .returned v' ∧ w'.ownsRow w.heap.size 129 4 v' L.length (bxV (srtB L)) ∧ Below w.heap.size w w' := by
  obtain ⟨i0, hi0, hz0, hz1, hz2⟩ := info_parts rbx_info
  obtain ⟨A, c, rfl, hc, -⟩ := own_slice h.row
  have h0 : w.cell? ⟨b, 0, none⟩ = some (.slice A L.length c) := h.blk.cell 0
  have hl := h.len
  obtain ⟨N, hN⟩ : ∃ N, N = L.length := ⟨_, rfl⟩
  rw [← hN] at h0 hl hc ⊢
  have hrow := h.row
  rw [← hN] at hrow
  have HR := Lib.hid hrow
  have HN := Lib.hid hN
  clear h hN hrow
  go_enter Try.func41, Try.ntmps41
  go_wp2_with fail
  go_loopw [3, 12] (fun vl vi wr => Hid (∃ i : Nat, vi = .int .i64 i ∧ i ≤ N ∧ (i = 0 → vl = .slice none 0 0) ∧ wr.ownsRow w.heap.size 129 4 vl i (bxV (srtB (L.take i))) ∧ Below w.heap.size w wr ∧ ∃ w7, w7 = wr)) (fun _ vi _ => N - (intOf vi).toNat)
  case atStart => exact Lib.hid ⟨0, rfl, by omega, fun _ => rfl, ⟨by simp [srtB], .inl ⟨rfl, rfl⟩⟩, Below.refl _ _, _, rfl⟩
  case round =>
    obtain ⟨i, rfl, hi, hnil, ho, hb, w7, hw7⟩ := hrel.out
    subst hw7
    obtain ⟨Ao, co, rfl, hco, hcm⟩ := own_slice ho
    have HB := Lib.hid hb
    have HO := Lib.hid ho
    have HNL := Lib.hid hnil
    have hrow7 := own_keep HR.out hb
    clear hrel hb ho hnil
    by_cases hlt : (i : Int) < (N : Int)
    · obtain ⟨u, rfl⟩ := own_some HR.out (by omega)
      obtain ⟨y, hy⟩ : ∃ y, L[i]? = some y := ⟨L[i]'(by have := HN.out; omega), List.getElem?_eq_getElem _⟩
      have cc : ∀ m, m < 4 → w7.cell? ⟨u, i * 4 + m, none⟩ = (bxC y)[m]? := fun m hm => (hrow7.cellAt (i * 4 + m) (by omega)).trans (bxV_get L i y hy m hm)
      have c0 : w7.cell? ⟨u, i * 4, none⟩ = some (.string y.f) := cc 0 (by omega)
      have c1 : w7.cell? ⟨u, i * 4 + 1, none⟩ = some (.string y.e) := cc 1 (by omega)
      have c2 : w7.cell? ⟨u, i * 4 + 2, none⟩ = some (.int .i64 y.n) := cc 2 (by omega)
      have c3 : w7.cell? ⟨u, i * 4 + 3, none⟩ = some (.int .i64 y.s) := cc 3 (by omega)
      have htk : Hid (srtB (L.take (i + 1)) = insB y (srtB (L.take i))) := Lib.hid (by rw [List.take_add_one, hy, ← srtB_snoc]; rfl)
      obtain ⟨O, hO⟩ : ∃ O, O = srtB (L.take i) := ⟨_, rfl⟩
      have hOl : O.length = i := by rw [hO, srtB_len, List.length_take]; have := HN.out; omega
      rw [← hO] at htk
      have HO2 : Hid (w7.ownsRow w.heap.size 129 4 (.slice Ao i co) i (bxV O)) := Lib.hid (by rw [hO]; exact HO.out)
      have HOL := Lib.hid hOl
      clear cc hrow7 hy hO hOl HO
      obtain ⟨yf, ye, yn, ys⟩ := y
      simp only at c0 c1 c2 c3
      go_upto_block 2 with fail
      obtain ⟨g, hg⟩ : ∃ g, g = w7.heap.size := ⟨_, rfl⟩
      obtain ⟨w8, hw8⟩ : ∃ w8, w8 = w7.alloc (Obj.cells #[.string yf, .string ye, .int .i64 yn, .int .i64 ys] 129) := ⟨_, rfl⟩
      rw [← hw8, ← hg]
      have hb8 : Below w7.heap.size w7 w8 := by rw [hw8]; exact (Below.refl _ _).alloc (Nat.le_refl _) _
      have hk8 : Blk w8 g 129 #[.string yf, .string ye, .int .i64 yn, .int .i64 ys] := by rw [hw8, hg]; exact Blk.new _ _ _
      have O8 := Lib.hid (own_keep HO2.out hb8)
      have K8 := Lib.hid hk8
      have B8 := Lib.hid (HB.out.trans (hb8.mono HB.out.size))
      clear hb8 hk8 hw8 hg c0 c1 c2 c3 HB HO2
      go_cut [6] from 18 to 32 (fun vk wx => Hid (∃ k : Nat, vk = .int .i64 (atS ys O i) ∧ wx = w8.drewN k))
      case first =>
        go_wp2_with fail
        go_loopw [6] (fun vk wr => Hid (∃ j m : Nat, vk = .int .i64 j ∧ j ≤ i ∧ atS ys O i = atS ys O j ∧ wr = w8.drewN m)) (fun vk _ => (intOf vk).toNat)
        case atStart => exact Lib.hid ⟨i, 0, rfl, Nat.le_refl _, rfl, rfl⟩
        case round =>
          obtain ⟨j, m, rfl, hj, hat, rfl⟩ := hrel.out
          have HAT := Lib.hid hat
          clear hrel hat
          obtain ⟨wd, hwd⟩ : ∃ wd, wd = w8.drewN m := ⟨_, rfl⟩
          have od : wd.ownsRow w.heap.size 129 4 (.slice Ao i co) i (bxV O) := by rw [hwd]; exact own_keep O8.out (below_drewN (Below.refl _ _) _)
          have kd : Blk wd g 129 #[.string yf, .string ye, .int .i64 yn, .int .i64 ys] := by rw [hwd]; exact K8.out.drewN m
          rw [← hwd]
          have HWD := Lib.hid hwd
          have m3 : wd.cell? ⟨g, 3, none⟩ = some (.int .i64 ys) := kd.cell 3
          clear hwd kd
          rcases Nat.eq_zero_or_pos j with rfl | hpos
          · clear od m3
            go_upto_region 6 with fail
            go_quiet (fail)
            go_wp2_with fail
            go_meet
            exact Lib.hid ⟨m + nq, by rw [HAT.out]; rfl, by rw [HWD.out]; simp [World.drewN, Nat.add_assoc]⟩
          · obtain ⟨q, rfl⟩ : ∃ q, j = q + 1 := ⟨j - 1, by omega⟩
            obtain ⟨z, hz⟩ : ∃ z, O[q]? = some z := ⟨O[q]'(by have := HOL.out; omega), List.getElem?_eq_getElem _⟩
            obtain ⟨uo, rfl⟩ := own_some od (by omega)
            have y3 : wd.cell? ⟨uo, q * 4 + 3, none⟩ = some (.int .i64 z.s) := (od.cellAt (q * 4 + 3) (by omega)).trans (bxV_get O q z hz 3 (by omega))
            have HZ := Lib.hid hz
            rw [show ((q + 1 : Nat) : Int) = (q : Int) + 1 by omega]
            have z1 : IntKind.i64.wrap ((q : Int) + 1 - 1) = (q : Int) := by rw [IntKind.wrap_i64]; omega
            have z2 : (0 : Int) ≤ (q : Int) := by omega
            have z3 : (q : Int) < (i : Int) := by omega
            have z4 : decide ((0 : Int) < (q : Int) + 1) = true := decide_eq_true (by omega)
            clear hz od
            by_cases hs : ys < z.s
            · have e1 : decide (ys < z.s) = true := decide_eq_true hs
              have HS := Lib.hid hs
              clear hs hpos
              go_upto_region 6 with fail
              go_quiet (fail)
              clear z1 z2 z3 z4 e1 y3 m3
              go_wp2_with fail
              refine ⟨?_, by simp [intOf]⟩
              exact Lib.hid ⟨q, m + nq, by simp, by omega, by rw [HAT.out]; exact atS_lt HZ.out HS.out, by rw [HWD.out]; simp [World.drewN, Nat.add_assoc]⟩
            · have e1 : decide (ys < z.s) = false := decide_eq_false hs
              have HS := Lib.hid hs
              clear hs hpos
              go_upto_region 6 with fail
              go_quiet (fail)
              clear z1 z2 z3 z4 y3 m3
              go_wp2_with fail
              go_meet
              exact Lib.hid ⟨m + nq, by rw [HAT.out, atS_ge HZ.out (by have := HS.out; omega)]; rfl, by rw [HWD.out]; simp [World.drewN, Nat.add_assoc]⟩
      case rest =>
        obtain ⟨k, rfl, rfl⟩ := hcut.out
        clear hcut
        obtain ⟨j, hj⟩ : ∃ j, j = atS ys O i := ⟨_, rfl⟩
        have hji : j ≤ i := by rw [hj]; exact atS_le _ _ _
        obtain ⟨wd, hwd⟩ : ∃ wd, wd = w8.drewN k := ⟨_, rfl⟩
        have od : wd.ownsRow w.heap.size 129 4 (.slice Ao i co) i (bxV O) := by rw [hwd]; exact own_keep O8.out (below_drewN (Below.refl _ _) _)
        have kd : Blk wd g 129 #[.string yf, .string ye, .int .i64 yn, .int .i64 ys] := by rw [hwd]; exact K8.out.drewN k
        have bd : Below w.heap.size w wd := by rw [hwd]; exact below_drewN B8.out k
        rw [← hwd, ← hj]
        have HJ := Lib.hid hj
        have OD := Lib.hid od
        have BD := Lib.hid bd
        have m0 : wd.cell? ⟨g, 0, none⟩ = some (.string yf) := kd.cell 0
        have m1 : wd.cell? ⟨g, 1, none⟩ = some (.string ye) := kd.cell 1
        have m2 : wd.cell? ⟨g, 2, none⟩ = some (.int .i64 yn) := kd.cell 2
        have m3 : wd.cell? ⟨g, 3, none⟩ = some (.int .i64 ys) := kd.cell 3
        have hnew : Hid ((wd.alloc (.cells #[.string yf, .string ye, .int .i64 yn, .int .i64 ys] 129)).ownsRow w.heap.size 129 4 (.slice (some ⟨wd.heap.size, 0, none⟩) 1 1) 1 [.string yf, .string ye, .int .i64 yn, .int .i64 ys]) := Lib.hid (own_of_cells (cur := #[.string yf, .string ye, .int .i64 yn, .int .i64 ys]) bd.size (Blk.new wd _ _) (Nat.le_refl _) (by decide) rfl rfl)
        have hins : Hid (bxV (insB (⟨yf, ye, yn, ys⟩ : Bx) O) = (bxV O).take (j * 4) ++ ([.string yf, .string ye, .int .i64 yn, .int .i64 ys] ++ (bxV O).drop (j * 4))) := Lib.hid (by
          rw [bxV_take, bxV_drop]
          unfold insB
          rw [HOL.out, ← hj, bxV_append]
          rfl)
        have hone0 : Hid (∀ x ∈ [Value.string yf, .string ye, .int .i64 yn, .int .i64 ys] ++ [], x.oneCell' = true) := Lib.hid (by
          rw [List.append_nil]
          intro x hx
          simp only [List.mem_cons, List.not_mem_nil, or_false] at hx
          rcases hx with rfl | rfl | rfl | rfl <;> rfl)
        have hone : Hid (∀ x ∈ [Value.string yf, .string ye, .int .i64 yn, .int .i64 ys] ++ (bxV O).drop (j * 4), x.oneCell' = true) := Lib.hid (fun x hx => (List.mem_append.1 hx).elim (fun h => hone0.out x (by simpa using h)) (fun h => bxV_one O x (List.mem_of_mem_drop h)))
        have hszd := bd.size
        clear hwd od kd bd hj
        rcases Nat.eq_zero_or_pos i with rfl | hpos
        · obtain rfl : j = 0 := by omega
          have hn := HNL.out rfl
          injection hn with hn1 _ hn3
          subst hn1
          subst hn3
          have hO0 : O = [] := List.length_eq_zero_iff.1 HOL.out
          have HO0 := Lib.hid hO0
          clear hO0
          rw [show ((0 : Nat) : Int) = 0 from rfl]
          go_upto_region 8 with fail
          go_region_law (first | (refine step_append_any _ rfl (.tmp 38) (.tmp 41) 75 rfl w.heap.size 129 i0 bxZ 4 48 Try.underlying75 hi0 hz0 hz1 hz2 rfl (by decide) (.slice (some ⟨wd.heap.size, 0, none⟩) 1 1) 1 [.string yf, .string ye, .int .i64 yn, .int .i64 ys] (by first | (simp [Act.eval]; done) | (simp [Act.eval, Act.put]; done)) hnew.out wd.heap.size none 0 0 [] (by first | (simp [Act.eval]; done) | (simp [Act.eval, Act.put]; done)) Reads.none_ (fun x hx => by cases hx) (by simp only [maxLen]; omega) (by omega) (by simp; omega) ?_; intro v13 w13 hown13 hg13 hne13; obtain ⟨A13, c13, rfl, -, -⟩ := own_slice hown13) | (refine step_append_cut rfl (.tmp 36) (.tmp 42) 75 rfl w.heap.size 129 i0 bxZ 4 48 Try.underlying75 hi0 hz0 hz1 hz2 rfl 0 none wd.heap.size [] (by first | (simp [Act.eval]; done) | (simp [Act.eval, Act.put]; done)) Reads.none_ (fun h => rfl) w13.heap.size A13 (1 + 0) c13 ([.string yf, .string ye, .int .i64 yn, .int .i64 ys] ++ []) (by first | (simp [Act.eval]; done) | (simp [Act.eval, Act.put]; done)) (Reads.of_own hown13) (by omega) hone0.out (by simp only [maxLen]; omega) (by omega) (by have h2 := hg13.size; simp at h2; omega) ?_; intro v14 w14 hown14 hb14 hne14))
          all_goals go_wp2_with fail
          all_goals
            refine ⟨?_, by simp [intOf]; omega⟩
            have hW : Below wd.heap.size wd w13 := ((Below.refl _ _).drew.alloc (Nat.le_refl _) (.cells #[.string yf, .string ye, .int .i64 yn, .int .i64 ys] 129)).grown hg13 (by simp) (fun q hq => by cases hq; simp)
            refine Lib.hid ⟨1, by simp, by omega, fun h => by omega, ?_, BD.out.trans ((hW.trans (hb14.mono hW.size)).mono hszd), _, rfl⟩
            rw [htk.out, hins.out, HO0.out]
            exact hown14
        · obtain ⟨uo, rfl⟩ := own_some OD.out (by omega)
          have hr1 : Hid (Reads wd wd.heap.size 4 (some ⟨uo, 0, none⟩) j ((bxV O).take (j * 4))) := Lib.hid ((Reads.of_own OD.out).takeZ (by omega))
          have hr2 : Hid (Reads wd wd.heap.size 4 (if co = j then some ⟨uo, 0, none⟩ else some ⟨uo, j * 4, none⟩) (i - j) ((bxV O).drop (j * 4))) := Lib.hid (by
            have h := (Reads.of_own OD.out).cut (k := j) (cap := co) (by omega) hco
            rw [Option.map_some, add_zero_off] at h
            exact h)
          have z1 : (0 : Int) ≤ (j : Int) := by omega
          have z2 : (j : Int) ≤ (i : Int) := by omega
          have z3 : (j : Int) ≤ (co : Int) := by omega
          go_upto_region 8 with fail
          go_region_law (first | (refine step_append_any _ rfl (.tmp 38) (.tmp 41) 75 rfl w.heap.size 129 i0 bxZ 4 48 Try.underlying75 hi0 hz0 hz1 hz2 rfl (by decide) (.slice (some ⟨wd.heap.size, 0, none⟩) 1 1) 1 [.string yf, .string ye, .int .i64 yn, .int .i64 ys] (by first | (simp [Act.eval]; done) | (simp [Act.eval, Act.put]; done)) hnew.out wd.heap.size (if co = j then some ⟨uo, 0, none⟩ else some ⟨uo, j * 4, none⟩) (i - j) (co - j) ((bxV O).drop (j * 4)) (by first | (simp [Act.eval]; done) | (simp [Act.eval, Act.put]; done)) (hr2.out.alloc (Nat.le_refl _) (.cells #[.string yf, .string ye, .int .i64 yn, .int .i64 ys] 129)) (fun x hx => bxV_one O x (List.mem_of_mem_drop hx)) (by simp only [maxLen]; omega) (by omega) (by simp; omega) ?_; intro v13 w13 hown13 hg13 hne13; obtain ⟨A13, c13, rfl, -, -⟩ := own_slice hown13) | (refine step_append_cut rfl (.tmp 36) (.tmp 42) 75 rfl w.heap.size 129 i0 bxZ 4 48 Try.underlying75 hi0 hz0 hz1 hz2 rfl j (some ⟨uo, 0, none⟩) wd.heap.size ((bxV O).take (j * 4)) (by first | (simp [Act.eval]; done) | (simp [Act.eval, Act.put]; done)) ((show Reads (wd.alloc (.cells #[.string yf, .string ye, .int .i64 yn, .int .i64 ys] 129)).drew wd.heap.size 4 (some ⟨uo, 0, none⟩) j ((bxV O).take (j * 4)) from hr1.out.alloc (Nat.le_refl _) (.cells #[.string yf, .string ye, .int .i64 yn, .int .i64 ys] 129)).grown hg13 (by simp) (fun q hq => by injection hq with hq; subst hq; exact Nat.le_refl _)) (fun h => by cases h) w13.heap.size A13 (1 + (i - j)) c13 ([.string yf, .string ye, .int .i64 yn, .int .i64 ys] ++ (bxV O).drop (j * 4)) (by first | (simp [Act.eval]; done) | (simp [Act.eval, Act.put]; done)) (Reads.of_own hown13) (by omega) hone.out (by simp only [maxLen]; omega) (by omega) (by have h2 := hg13.size; simp at h2; omega) ?_; intro v14 w14 hown14 hb14 hne14))
          all_goals go_wp2_with fail
          all_goals
            refine ⟨?_, by simp [intOf]; omega⟩
            have hW : Below wd.heap.size wd w13 := ((Below.refl _ _).drew.alloc (Nat.le_refl _) (.cells #[.string yf, .string ye, .int .i64 yn, .int .i64 ys] 129)).grown hg13 (by simp) (fun q hq => by cases hq; simp)
            refine Lib.hid ⟨i + 1, by simp, by omega, fun h => by omega, ?_, BD.out.trans ((hW.trans (hb14.mono hW.size)).mono hszd), _, rfl⟩
            rw [htk.out, hins.out, show i + 1 = j + (1 + (i - j)) by omega]
            exact hown14
    · have e2 : L.take i = L := by rw [show i = L.length by have := HN.out; omega]; exact List.take_length
      have ho := HO.out
      rw [e2] at ho
      have hiN : i = N := by omega
      have HO3 := Lib.hid ho
      clear ho e2 hrow7
      go_wp2_with fail
      go_ret
      subst hiN
      exact ⟨_, rfl, HO3.out, HB.out⟩
end
end Go.Proofs.Ytiflhfhonhbcpaa.Bin
