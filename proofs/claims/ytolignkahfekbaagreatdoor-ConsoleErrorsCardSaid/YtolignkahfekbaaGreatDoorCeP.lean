/- A text that begins with 'what' has no steps: FieldsFunc, Cut, kindOf, numbers, parse, Parse, steps. -/
import Derived.Test.YtolignkahfekbaaGreatDoorCeN
import Derived.Test.YtolignkahfekbaaGreatDoorCeShelf
import Derived.Deep.CutRange
import Derived.Deep.DeepCutAuto
import Derived.Deep.CutBlock
import Derived.Deep.MidRow
import Derived.Deep.Upon
import Derived.Test.YtolignkahfekbaaGreatDoorScope
import Derived.Deep.RegionHeld3
namespace Go.Proofs.YtolignkahfekbaaGreatDoor.Ce
open Go Go.RowKit Go.Lib Go.Proofs.YtolignkahfekbaaGreatDoor Go.ChangeShapes Go.WideShapes Go.ChangeAt
set_option linter.unusedVariables false
set_option maxRecDepth 100000
/-- The words in memory. -/
def Wds (w : World) (A : Nat) (L : List ByteArray) : Prop := A < w.heap.size ∧ ∀ (k : Nat) (q : ByteArray), L[k]? = some q → w.cell? ⟨A, k, none⟩ = some (.string q)
theorem Wds.below {w w' : World} {A : Nat} {L : List ByteArray} (h : Wds w A L) (hb : Below w.heap.size w w') : Wds w' A L := ⟨Nat.lt_of_lt_of_le h.1 hb.size, fun k q hq => (hb.cell (p := ⟨A, k, none⟩) h.1).trans (h.2 k q hq)⟩
theorem clo1 (w : World) : PredGrows Tryz.prog 12 #[] spB w := by
  intro W x hx hb
  show Calls Tryz.prog 12 #[.int .i32 (x : Int)] W _
  unfold spB
  clear hb
  go_enter Tryz.func12, Tryz.ntmps12
  go_wp2
  go_ret
  exact ⟨rfl, Below.refl _ _⟩
theorem clo2 (w : World) : PredGrows Tryz.prog 63 #[] spB w := by
  intro W x hx hb
  show Calls Tryz.prog 63 #[.int .i32 (x : Int)] W _
  unfold spB
  clear hb
  go_enter Tryz.func63, Tryz.ntmps63
  go_wp2
  go_ret
  exact ⟨rfl, Below.refl _ _⟩
theorem FF_of (g : Nat) (eg : ∀ args w, (callFunc g args).run Tryz.prog w = .ok (.enter g args) w) (s : ByteArray) (w : World) (hs : s.size ≤ 1000) (hp : PredGrows Tryz.prog g #[] spB w) :
    Calls Tryz.prog 11 #[.string s, .func (.func g) #[] #[]] w fun e w' => ∃ A, e = .returned (.slice (some ⟨A, 0, none⟩) (goFieldsP spB s).length (goFieldsP spB s).length) ∧ w.heap.size ≤ A ∧ Wds w' A (goFieldsP spB s) ∧ Below w.heap.size w w' := by
  refine (Tryz.strings_FieldsFunc_grows g #[] eg spB s w (by omega) hp).mono ?_
  rintro e w' ⟨A, rfl, h1, h2, h3⟩
  refine ⟨A, rfl, h1, ⟨(h2.lt A rfl).2, fun k q hq => ?_⟩, h3⟩
  have hk : k < (goFieldsP spB s).length := (List.getElem?_eq_some_iff.1 hq).1
  have := h2.cellAt k (by omega)
  rw [this, List.getElem?_map, hq]
  rfl
theorem FF1 (s : ByteArray) (w : World) (hs : s.size ≤ 1000) : Calls Tryz.prog 11 #[.string s, .func (.func 12) #[] #[]] w fun e w' => ∃ A, e = .returned (.slice (some ⟨A, 0, none⟩) (goFieldsP spB s).length (goFieldsP spB s).length) ∧ w.heap.size ≤ A ∧ Wds w' A (goFieldsP spB s) ∧ Below w.heap.size w w' := FF_of 12 (enters_of Tryz.func12 (by kernel_rfl) rfl) s w hs (clo1 w)
theorem FF2 (s : ByteArray) (w : World) (hs : s.size ≤ 1000) : Calls Tryz.prog 11 #[.string s, .func (.func 63) #[] #[]] w fun e w' => ∃ A, e = .returned (.slice (some ⟨A, 0, none⟩) (goFieldsP spB s).length (goFieldsP spB s).length) ∧ w.heap.size ≤ A ∧ Wds w' A (goFieldsP spB s) ∧ Below w.heap.size w w' := FF_of 63 (enters_of Tryz.func63 (by kernel_rfl) rfl) s w hs (clo2 w)
theorem split_any (s : ByteArray) (w : World) (hs : s.size ≤ 1000) :
    Calls Tryz.prog 33 #[.string s] w fun e w' => ∃ A, e = .returned (.slice (some ⟨A, 0, none⟩) (goFieldsP spB s).length (goFieldsP spB s).length) ∧ w.heap.size ≤ A ∧ Wds w' A (goFieldsP spB s) ∧ Below w.heap.size w w' := by
  have hF := FF2 s w hs
  generalize goFieldsP spB s = L at hF ⊢
  go_enter Tryz.func33, Tryz.ntmps33
  go_wp2_with (go_at_call 11; refine hF.mono ?_; rintro e w' ⟨A, rfl, h1, h2, h3⟩)
  go_ret
  exact ⟨A, rfl, h1, h2, h3⟩
theorem Contains_any (s : ByteArray) (w : World) : Calls Tryz.prog 19 #[.string s, .string ⟨#[10]⟩] w fun e w' => e = .returned (.bool (decide (0 ≤ indexByte s.data.toList 10))) ∧ w' = w := Tryz.strings_Contains_one s 10 w
theorem Index_any (s : ByteArray) (w : World) : Calls Tryz.prog 61 #[.string s, .string ⟨#[10]⟩] w fun e w' => e = .returned (.int .i64 (indexByte s.data.toList 10)) ∧ w' = w := Tryz.stringslite_Index_one s 10 w
theorem Cut_lite (s : ByteArray) (w : World) (h : ¬ 0 ≤ indexByte s.data.toList 10) :
    Calls Tryz.prog 62 #[.string s, .string ⟨#[10]⟩] w fun e w' => e = .returned (.tuple #[.string s, .string ⟨#[]⟩, .bool false]) ∧ w' = w := by
  have hI := Index_any s
  generalize indexByte s.data.toList 10 = I at hI h
  go_enter Tryz.func62, Tryz.ntmps62
  go_wp2_with (go_at_call 61; refine (hI _).mono ?_; rintro e w' ⟨rfl, rfl⟩)
  go_ret3
  exact ⟨rfl, rfl⟩
theorem Cut_any (s : ByteArray) (w : World) (h : ¬ 0 ≤ indexByte s.data.toList 10) :
    Calls Tryz.prog 32 #[.string s, .string ⟨#[10]⟩] w fun e w' => e = .returned (.tuple #[.string s, .string ⟨#[]⟩, .bool false]) ∧ w' = w := by
  have hI := fun w => Cut_lite s w h
  clear h
  go_enter Tryz.func32, Tryz.ntmps32
  go_wp2_with (go_at_call 62; refine (hI _).mono ?_; rintro e w' ⟨rfl, rfl⟩)
  go_ret3
  exact ⟨rfl, rfl⟩
def wd : Nat → ByteArray
  | 1 => ⟨#[114, 117, 110]⟩
  | 2 => ⟨#[107, 105, 108, 108]⟩
  | 3 => ⟨#[115, 104, 117, 116]⟩
  | 4 => ⟨#[97, 99, 107]⟩
  | 5 => ⟨#[97, 115, 107]⟩
  | 6 => ⟨#[119, 101, 108, 99, 111, 109, 101]⟩
  | 7 => ⟨#[104, 101, 108, 108, 111]⟩
  | 8 => ⟨#[114, 101, 112, 111, 114, 116]⟩
  | _ => ⟨#[103, 111, 110, 101]⟩
theorem wordOf_any (k : Nat) (w : World) (h1 : 1 ≤ k) (h2 : k ≤ 9) : Calls Tryz.prog 113 #[.int .i64 k] w fun e w' => e = .returned (.string (wd k)) ∧ w' = w := by
  rcases (by omega : k = 1 ∨ k = 2 ∨ k = 3 ∨ k = 4 ∨ k = 5 ∨ k = 6 ∨ k = 7 ∨ k = 8 ∨ k = 9) with rfl | rfl | rfl | rfl | rfl | rfl | rfl | rfl | rfl
  all_goals
    go_enter Tryz.func113, Tryz.ntmps113
    go_wp2
    go_ret
    exact ⟨rfl, rfl⟩
theorem _root_.Go.Proofs.YtolignkahfekbaaGreatDoor.Wh.beq {s : ByteArray} (h : Wh s) (q : ByteArray) (hq : (match q.data.toList with
  | a :: b :: c :: d :: _ => !(a == 119 && b == 104 && c == 97 && d == 116)
  | _ => true) = true) : (s.toList == q.toList) = false ∧ (q.toList == s.toList) = false := by
  have := h.ne hq
  have e1 : s.toList = s.data.toList := ByteArray.toList_eq s
  have e2 : q.toList = q.data.toList := ByteArray.toList_eq q
  rw [e1, e2]
  exact ⟨by rw [beq_eq_false_iff_ne]; exact this, by rw [beq_eq_false_iff_ne]; exact fun e => this e.symm⟩
theorem wd_ne {s : ByteArray} (h : Wh s) (k : Nat) (h1 : 1 ≤ k) (h2 : k ≤ 9) : ((wd k).toList == s.toList) = false := by
  rcases (by omega : k = 1 ∨ k = 2 ∨ k = 3 ∨ k = 4 ∨ k = 5 ∨ k = 6 ∨ k = 7 ∨ k = 8 ∨ k = 9) with rfl | rfl | rfl | rfl | rfl | rfl | rfl | rfl | rfl
  all_goals exact (Wh.beq h _ (by decide)).2
theorem kindOf_any {s : ByteArray} (h : Wh s) (w : World) : Calls Tryz.prog 64 #[.string s] w fun e w' => e = .returned (.int .i64 0) ∧ w' = w := by
  have H := Lib.hid h
  clear h
  go_enter Tryz.func64, Tryz.ntmps64
  go_wp2_with fail
  go_loopw [3] (fun i wr => ∃ k : Nat, 1 ≤ k ∧ k ≤ 10 ∧ i = .int .i64 k ∧ wr = w) (fun i _ => 10 - (intOf i).toNat)
  case atStart => exact ⟨1, by omega, by omega, rfl, by first | rfl | trivial⟩
  case round =>
    obtain ⟨k, h1, h2, rfl, rfl⟩ := hrel
    by_cases hlt : (k : Int) ≤ 9
    · have hW := wordOf_any k wr h1 (by omega)
      have hne := wd_ne H.out k h1 (by omega)
      generalize wd k = q at hW hne
      go_wp2_with (go_at_call 113; refine hW.mono ?_; rintro e w' ⟨rfl, rfl⟩)
      go_roundw
      case rel => exact ⟨k + 1, by omega, by omega, by go_num, by first | rfl | trivial⟩
      case measure => simp [intOf]; omega
    · go_wp2
      go_ret
      exact ⟨rfl, rfl⟩
end Go.Proofs.YtolignkahfekbaaGreatDoor.Ce
namespace Go.Proofs.YtolignkahfekbaaGreatDoor.Ce
open Go Go.RowKit Go.Lib Go.Proofs.YtolignkahfekbaaGreatDoor Go.ChangeShapes Go.WideShapes Go.ChangeAt
set_option linter.unusedVariables false
set_option maxRecDepth 100000
/-- Strings behind an address. -/
def Strs (w : World) (Ad : Option Addr) (m : Nat) : Prop := ∀ k, k < m → ∃ ad q, Ad = some ad ∧ ad.block < w.heap.size ∧ w.cell? (ad.add k) = some (.string q) ∧ q.size ≤ 1000
theorem Strs.below {w w' : World} {Ad : Option Addr} {m : Nat} (h : Strs w Ad m) (hb : Below w.heap.size w w') : Strs w' Ad m := fun k hk => by
  obtain ⟨ad, q, rfl, h1, h2, h3⟩ := h k hk
  exact ⟨ad, q, rfl, Nat.lt_of_lt_of_le h1 hb.size, (hb.cell (p := ad.add k) (by rw [show (ad.add k).block = ad.block by unfold Addr.add; split <;> rfl]; exact h1)).trans h2, h3⟩
theorem int_infoC : (Tryz.prog.info? 3).map (fun i => (i.zero, i.size, i.bytes)) = some (some (.int .i64 0), 1, 8) := by kernel_rfl
theorem own_keepC {w w' : World} {B : Nat} {e : TypeId} {z n : Nat} {v : Value} {xs : List Value} (h : w.ownsRow B e z v n xs) (hb : Below w.heap.size w w') : w'.ownsRow B e z v n xs := own_below h hb
theorem below_setCells {wd : World} {gk : Nat} (hg : wd.heap.size ≤ gk) : ∀ (l : List Value) (o : Nat) (w : World), Below wd.heap.size wd w → Below wd.heap.size wd (w.setCells gk o l)
  | [], o, w, h => h
  | v :: l, o, w, h => below_setCells hg l (o + 1) _ (h.setCell (show wd.heap.size ≤ (⟨gk, o, none⟩ : Addr).block from hg) v)
theorem blk_setAll {gk : Nat} {T : TypeId} : ∀ (l zs pre : List Value) (w : World), Blk w gk T (pre ++ zs).toArray → zs.length = l.length → Blk (w.setCells gk pre.length l) gk T (pre ++ l).toArray
  | [], [], pre, w, h, _ => h
  | [], _ :: _, _, _, _, e => by simp at e
  | _ :: _, [], _, _, _, e => by simp at e
  | v :: l, z :: zs, pre, w, h, e => by
    have h1 := h.set_ pre.length v
    have e1 : (pre ++ z :: zs).toArray.setIfInBounds pre.length v = (pre ++ [v] ++ zs).toArray := by simp
    have h2 : Blk (w.setCell ⟨gk, pre.length, none⟩ v) gk T (pre ++ [v] ++ zs).toArray := e1 ▸ h1
    have h3 := blk_setAll l zs (pre ++ [v]) _ h2 (by simpa using e)
    simpa [World.setCells] using h3
theorem Wds.same {w w' : World} {A : Nat} {L : List ByteArray} (h : Wds w A L) (e : w'.heap[A]? = w.heap[A]?) : Wds w' A L := by
  have hs : A < w'.heap.size := by
    have : (w'.heap[A]?).isSome = true := by rw [e, Array.getElem?_eq_getElem h.1]; rfl
    exact (Array.getElem?_eq_some_iff.1 (Option.eq_some_of_isSome this)).1
  refine ⟨hs, fun k q hq => ?_⟩
  have := h.2 k q hq
  simpa [World.cell?, e] using this
theorem Wds.strs {w : World} {A : Nat} {q : ByteArray} {L : List ByteArray} (h : Wds w A (q :: L)) (hq : ∀ x ∈ q :: L, x.size ≤ 1000) : Strs w (some ⟨A, 1, none⟩) L.length := fun k hk => by
  obtain ⟨x, hx⟩ : ∃ x, L[k]? = some x := ⟨L[k], List.getElem?_eq_getElem hk⟩
  refine ⟨⟨A, 1, none⟩, x, rfl, h.1, ?_, hq x (List.mem_cons_of_mem _ (List.mem_of_getElem? hx))⟩
  have := h.2 (k + 1) x (by simpa using hx)
  rw [show (⟨A, 1, none⟩ : Addr).add k = ⟨A, k + 1, none⟩ by unfold Addr.add; split <;> simp_all <;> omega]
  exact this
/-- A struct goes into its own block. -/
theorem storeG {ops : Array Oper} {op : Oper} {a : Act} {w : World} {K : Act → World → Prop} {Q : Exit → Act → World → Prop} {E : Prop} {x y : Operand} {gk : Nat} {cs zs : Array Value} (T : TypeId) (hT : (Tryz.prog.info? T).map (·.size) = some cs.size) (ho : op.op = .store T x y) (hg : op.guard = none)
    (hx : a.eval x = .pointer (some ⟨gk, 0, none⟩)) (hy : a.eval y = .agg cs) (h1 : cs.all (·.oneCell') = true) (hz : Blk w gk T zs) (hzs : zs.size = cs.size)
    (h : ∀ w', (∀ wd : World, wd.heap.size ≤ gk → Below wd.heap.size wd w → Below wd.heap.size wd w') → (∀ b, b < w.heap.size → b ≠ gk → w'.heap[b]? = w.heap[b]?) → Blk w' gk T cs → K (a.put op.dst undef) w') :
    if Region.wanted op (yielded ops a.tmps) = true then Oper.wp Tryz.prog op a w K Q else E := by
  rw [if_pos (by simp [Region.wanted, hg])]
  refine wp_store_mid T x y ho gk 0 cs hx hy (fun j hj => ?_) hT h1 ?_
  · have hj9 : j < zs.size := by rw [hzs]; exact hj
    have hc := hz.cell j
    rw [Array.getElem?_eq_getElem hj9] at hc
    rw [Nat.zero_add]
    exact ⟨by rw [hc]; rfl, hz.frozen j⟩
  · refine h _ (fun wd hwd hb => below_setCells hwd _ _ _ hb) (fun b hb hne => World.heap_setCells_other w gk 0 _ hb hne) ?_
    have h2 := blk_setAll cs.toList zs.toList [] w (by simpa using hz) (by simpa using hzs)
    simpa using h2
def Mark (p : Prop) : Prop := p
theorem Mark.intro {p : Prop} (h : p) : Mark p := h
theorem wpList_storeG {ops : Array Oper} {rest : List Oper} {op : Oper} {a : Act} {w : World} {Q : Exit → Act → World → Prop} {x y : Operand} {gk : Nat} {cs zs : Array Value} (T : TypeId) (hT : (Tryz.prog.info? T).map (·.size) = some cs.size) (ho : op.op = .store T x y) (hg : op.guard = none)
    (hx : a.eval x = .pointer (some ⟨gk, 0, none⟩)) (hy : a.eval y = .agg cs) (h1 : cs.all (·.oneCell') = true) (hz : Blk w gk T zs) (hzs : zs.size = cs.size)
    (h : ∀ w', (∀ wd : World, wd.heap.size ≤ gk → Below wd.heap.size wd w → Below wd.heap.size wd w') → (∀ b, b < w.heap.size → b ≠ gk → w'.heap[b]? = w.heap[b]?) → Blk w' gk T cs → Mark (wpList Tryz.prog ops Q rest (a.put op.dst undef) w')) : wpList Tryz.prog ops Q (op :: rest) a w :=
  wpList_step fun K hK => storeG T hT ho hg hx hy h1 hz hzs fun w' h2 h3 h4 => hK _ _ (h w' h2 h3 h4)
set_option maxHeartbeats 4000000 in
theorem numbers_any (Ad : Option Addr) (m c : Nat) (w : World) (hm : m ≤ 1000) (hs : Strs w Ad m) :
    Calls Tryz.prog 66 #[.slice Ad m c] w fun e w' => ∃ v ok, e = .returned (.tuple #[v, .bool ok]) ∧ Below w.heap.size w w' := by
  have HS := Lib.hid hs
  clear hs
  go_enter Tryz.func66, Tryz.ntmps66
  go_wp2_with fail
  go_loopw [4, 11] (fun l i wr => Hid (∃ (k : Nat) (xs : List Value), k ≤ m ∧ i = .int .i64 k ∧ xs.length = k ∧ wr.ownsRow w.heap.size 3 1 l k xs ∧ Below w.heap.size w wr)) (fun _ i _ => m - (intOf i).toNat)
  case atStart => exact Lib.hid ⟨0, [], by omega, rfl, rfl, World.ownsRow_nil _ _ _ _, Below.refl _ _⟩
  case round =>
    obtain ⟨k, xs, hk, rfl, hx, ho, hb⟩ := hrel.out
    clear hrel
    obtain ⟨A4, c4, rfl, -, -⟩ := own_slice ho
    have HO := Lib.hid ho
    have HB := Lib.hid hb
    clear ho hb
    by_cases hlt : (k : Int) < (m : Int)
    · obtain ⟨ad, q, rfl, hadl, hc, hq⟩ := (HS.out.below HB.out) k (by omega)
      have hN := fun wa => Number_any q wa (by unfold maxLen; omega)
      generalize numS q.data.toList = z at hN
      obtain ⟨z1, z2⟩ := z
      obtain ⟨ii, hii, hi0, hi1, hi2⟩ := info_parts int_infoC
      have hmx : 1000 ≤ maxLen := by decide
      clear hadl
      cases z2
      · go_wp2_with (go_at_call 46; refine (hN _).mono ?_; rintro e w2 ⟨rfl, rfl⟩)
        go_ret2
        first | exact ⟨_, _, rfl, HB.out⟩ | exact ⟨⟨_, Or.inr rfl⟩, HB.out⟩
      · go_wp2_with (first | (go_at_call 46; refine (hN _).mono ?_; rintro e w2 ⟨rfl, rfl⟩) | (at_builtin; refine wpList_append_own _ rfl _ _ 121 rfl w.heap.size 3 ii (.int .i64 0) 1 8 Tryz.underlying121 hii hi0 hi1 hi2 rfl (by decide) _ _ _ rfl (HO.out.alloc _) ⟨_, 0, none⟩ 1 1 [.int .i64 z1] rfl rfl (cell_one_new _ _ _) (one_cell_int _ _) (by simp only [maxLen]; omega) (by omega) (by have := HB.out.size; simp; omega) ?_; intro v1 w1 hown1 hg1 _hne; have hbe1 := push_below HB.out HB.out.size HO.out _ hg1))
        go_roundw
        case rel => exact Lib.hid ⟨k + 1, xs ++ [.int .i64 z1], by omega, by go_num, by simp [hx], hown1, hbe1⟩
        case measure => simp [intOf]; omega
    · go_wp2
      go_ret2
      first | exact ⟨_, _, rfl, HB.out⟩ | exact ⟨⟨_, Or.inr rfl⟩, HB.out⟩
def zsA : Array Value := #[.int .i64 0, .int .i64 0, .string ⟨#[]⟩, .string ⟨#[]⟩, .string ⟨#[]⟩, .int .i64 0, .int .i64 0, .int .i64 0, .int .i64 0, .slice none 0 0, .int .i64 0, .int .i64 0]
theorem ret_cell2 {P : Program} {fn : Func} {p u : Tmp} {ty : TypeId} {tmps : Array Value} {w : World} {g : Nat} {t : TypeId} {cs : Array Value} {d : TypeDesc} (h : fn.results = #[.cell p ty, .tmp u]) (ht : tmps.getD p undef = .pointer (some ⟨g, 0, none⟩)) (hb : Blk w g t cs)
    (hu : P.underlying ty = some d) (hd : (match d with | .struct _ | .array _ _ => true | _ => false) = true) (hi : (P.info? ty).map (·.size) = some cs.size) : (results fn tmps).run P w = .ok (.tuple #[.agg cs, tmps.getD u undef]) w := by
  rw [results_cell_tmp h, ht]
  simp only [asAddr, Sem.run_pure, Result.andThen_ok]
  rw [Go.run_loadVar_row w g t ty cs _ d hb hu hd hi]
  rfl
theorem _root_.Go.Proofs.YtolignkahfekbaaGreatDoor.Wh.nl {s : ByteArray} (h : Wh s) (l : List UInt8) (hl : (match l with
  | a :: b :: c :: d :: _ => !(a == 119 && b == 104 && c == 97 && d == 116)
  | _ => true) = true) : ¬ s.toList = l := by
  rw [ByteArray.toList_eq s]
  exact h.ne hl
theorem tk_ne {s : ByteArray} (h : Wh s) : ¬ s.toList = [116, 105, 99, 107] ∧ ¬ s.toList = [102, 117, 115, 101] ∧ ¬ s.toList = [99, 114, 97, 115, 104] :=
  ⟨h.nl _ (by decide), h.nl _ (by decide), h.nl _ (by decide)⟩
set_option maxHeartbeats 4000000 in
theorem parse_any (s : ByteArray) (Ad : Option Addr) (m c : Nat) (w : World) (hm : m ≤ 1000) (h : Wh s) (hs : Strs w Ad m) :
    Calls Tryz.prog 34 #[.string s, .slice Ad m c] w fun e w' => e = .returned (.tuple #[.agg zsA, .bool false]) ∧ Below w.heap.size w w' := by
  have hK := fun wa => kindOf_any h wa
  obtain ⟨n1, n2, n3⟩ := tk_ne h
  obtain ⟨W, hW⟩ : ∃ W, W = w.alloc (.cells zsA 95) := ⟨_, rfl⟩
  obtain ⟨g, hg⟩ : ∃ g, g = w.heap.size := ⟨_, rfl⟩
  have hbW : Below w.heap.size w W := by rw [hW]; exact (Below.refl _ _).alloc (Nat.le_refl _) _
  have hZ : Blk W g 95 zsA := by rw [hW, hg]; exact Blk.new _ _ _
  have hNm := numbers_any Ad m c W hm (hs.below hbW)
  have HG := Lib.hid hg
  have HZ := Lib.hid hZ
  have HB := Lib.hid hbW
  have HW := Lib.hid hW
  clear hs h hbW hZ hW hg
  go_enter Tryz.func34, Tryz.ntmps34
  go_upto_region 1 with fail
  rw [show w.alloc (.cells #[.int .i64 0, .int .i64 0, .string ⟨#[]⟩, .string ⟨#[]⟩, .string ⟨#[]⟩, .int .i64 0, .int .i64 0, .int .i64 0, .int .i64 0, .slice none 0 0, .int .i64 0, .int .i64 0] 95) = W from HW.out.symm, ← HG.out]
  clear HW
  go_upto_region 6 with (first | (go_at_call 64; refine (hK _).mono ?_; rintro e w2 ⟨rfl, rfl⟩) | (go_at_call 66; refine hNm.mono ?_; rintro e w3 ⟨v, ok, rfl, hb3⟩; have HB3 := Lib.hid hb3; clear hb3 hNm))
  have HZ3 := Lib.hid (HZ.out.below HB3.out HZ.out.lt)
  cases ok
  · go_upto_region 7 with fail
    repeat (first | (refine wpList_storeG 95 (cs := zsA) (by kernel_rfl) rfl rfl rfl rfl (by simp [Value.oneCell', zsA]) HZ3.out rfl ?_; intro w4 hbe hot hk4) | go_step)
    refine Mark.intro ?_
    have HB4 := Lib.hid (hbe w (by rw [HG.out]; exact Nat.le_refl _) (HB.out.trans (HB3.out.mono HB.out.size)))
    have HK4 := Lib.hid hk4
    clear hbe hot hk4
    go_wp2_with fail
    refine bodyPost_ret (ret_cell2 rfl rfl HK4.out Tryz.underlying95 rfl (by kernel_rfl)) rfl ⟨rfl, HB4.out⟩
  · go_upto_region 16 with fail
    repeat (first | (refine wpList_storeG 95 (cs := zsA) (by kernel_rfl) rfl rfl rfl rfl (by simp [Value.oneCell', zsA]) HZ3.out rfl ?_; intro w4 hbe hot hk4) | go_step)
    refine Mark.intro ?_
    have HB4 := Lib.hid (hbe w (by rw [HG.out]; exact Nat.le_refl _) (HB.out.trans (HB3.out.mono HB.out.size)))
    have HK4 := Lib.hid hk4
    clear hbe hot hk4
    go_wp2_with fail
    refine bodyPost_ret (ret_cell2 rfl rfl HK4.out Tryz.underlying95 rfl (by kernel_rfl)) rfl ⟨rfl, HB4.out⟩
end Go.Proofs.YtolignkahfekbaaGreatDoor.Ce
namespace Go.Proofs.YtolignkahfekbaaGreatDoor.Ce
open Go Go.RowKit Go.Lib Go.Proofs.YtolignkahfekbaaGreatDoor Go.ChangeShapes Go.WideShapes Go.ChangeAt
set_option linter.unusedVariables false
set_option maxRecDepth 100000
theorem jumpM_ret {R : Nat → Option Code} {J : Nat → Act → World → Prop} {Q : Exit → Act → World → Prop} : jumpM R J Q .ret = Q .ret := rfl
set_option maxHeartbeats 8000000 in
theorem Parse_any {s : ByteArray} (w : World) (hs : s.size ≤ 1000) (hw : Wh s) (hn : ¬ 0 ≤ indexByte s.data.toList 10) :
    Calls Tryz.prog 20 #[.string s] w fun e w' => e = .returned (.tuple #[.slice none 0 0, .int .i64 2]) ∧ Below w.heap.size w w' := by
  have hC := fun wa => Cut_any s wa hn
  obtain ⟨w0, L, hL, hw0⟩ := fields_wh hw
  have hfl := fields_len spB s
  have hfn : (goFieldsP spB s).length ≤ 1001 := fields_cnt s hs
  have hSp := fun wa => split_any s wa hs
  rw [hL] at hSp hfl hfn
  obtain ⟨N, hN⟩ : ∃ N, N = L.length + 1 := ⟨_, rfl⟩
  rw [show (w0 :: L).length = N by rw [hN]; simp] at hSp hfn
  have hne : ¬ (N : Int) = 0 := by omega
  have hN1 : 1 ≤ N := by omega
  have hN0 : 0 < N := by omega
  have hN1' : (1 : Int) ≤ (N : Int) := by omega
  have HN := Lib.hid hN
  clear hN
  have HFL := Lib.hid hfl
  have HW0 := Lib.hid hw0
  have HFN := Lib.hid hfn
  clear hL hn hw hfl hw0 hfn
  go_enter Tryz.func20, Tryz.ntmps20
  go_wp2_with fail
  refine wp_scope_labels (fun _ => false) (fun _ _ _ => False) (fun _ _ _ => 0) ?_ (fun _ _ _ _ hl => by cases hl)
  go_upto_region 2 with fail
  obtain ⟨W, hW⟩ : ∃ W, W = w.alloc (.cells zsA 95) := ⟨_, rfl⟩
  obtain ⟨g, hg⟩ : ∃ g, g = w.heap.size := ⟨_, rfl⟩
  have hbW : Below w.heap.size w W := by rw [hW]; exact (Below.refl _ _).alloc (Nat.le_refl _) _
  have hZ : Blk W g 95 zsA := by rw [hW, hg]; exact Blk.new _ _ _
  go_upto_region 3 with fail
  rw [show w.alloc (.cells #[.int .i64 0, .int .i64 0, .string ⟨#[]⟩, .string ⟨#[]⟩, .string ⟨#[]⟩, .int .i64 0, .int .i64 0, .int .i64 0, .int .i64 0, .slice none 0 0, .int .i64 0, .int .i64 0] 95) = W from hW.symm, ← hg]
  have HG := Lib.hid hg
  have HZ := Lib.hid hZ
  have HBW := Lib.hid hbW
  clear hW hg hZ hbW
  go_wp2_with fail
  go_step3
  apply_assumption
  go_upto_region 11 with (first | (go_at_call 32; refine (hC _).mono ?_; rintro e w2 ⟨rfl, rfl⟩) | (go_at_call 33; refine (hSp _).mono ?_; rintro e w3 ⟨A, rfl, hA, hwd, hb3⟩; have hWd := Lib.hid hwd; have HB3 := Lib.hid hb3; clear hwd hb3 hSp))
  have HST : ∀ {wa : World}, wa.heap[A]? = w3.heap[A]? → Strs wa (if N = 1 then some ⟨A, 0, none⟩ else some ⟨A, 1, none⟩) (N - 1) := fun e => by
    have h := (hWd.out.same e).strs (fun x hx => Nat.le_trans (HFL.out x hx) hs)
    rw [show L.length = N - 1 by have := HN.out; omega] at h
    by_cases h1 : N = 1
    · intro k hk
      omega
    · rw [if_neg h1]
      exact h
  have HNE : Hid (A ≠ g) := by show A ≠ g; have := HZ.out.lt; omega
  obtain ⟨wd, ewd⟩ : ∃ wd, wd = w3.drew := ⟨_, rfl⟩
  have hbd : Below w3.heap.size w3 wd := by rw [ewd]; exact (Below.refl _ _).drew
  have HS0 : wd.heap[A]? = w3.heap[A]? ∧ Below w.heap.size w wd ∧ ∃ zs, Blk wd g 95 zs ∧ zs.size = 12 := ⟨hbd.block A hWd.out.1, (HBW.out.trans (HB3.out.mono HBW.out.size)).trans (hbd.mono (HBW.out.trans (HB3.out.mono HBW.out.size)).size), zsA, (HZ.out.below HB3.out HZ.out.lt).below hbd (HZ.out.below HB3.out HZ.out.lt).lt, rfl⟩
  refine wp_region_noPanic ?_
  refine wp_region_held_drew (S := fun wa => wa.heap[A]? = w3.heap[A]? ∧ Below w.heap.size w wa ∧ ∃ zs, Blk wa g 95 zs ∧ zs.size = 12) (by kernel_rfl) (by rw [← ewd]; exact HS0) (fun hHeld => ?_)
  rw [← ewd]
  clear ewd
  refine wpAnyH_take (i := 0) (oi := ?oip1) (v := ?vp1) ?hip1 (by kernel_rfl) (by kernel_rfl) (by kernel_rfl) (fun _ _ _ h => h) ?hyp1 HS0 ?restp1
  case hip1 => (simp only [List.getElem?_toArray, List.getElem?_cons_zero]; try rfl)
  case hyp1 => (refine Or.inl ⟨by rfl, ?_⟩; intro w hSw; go_simp; (try with_reducible rfl))
  try simp only [Act.put, List.setIfInBounds_toArray, List.set_cons_zero, List.set_cons_succ]
  refine wpAnyH_take (i := 1) (oi := ?oip2) (v := ?vp2) ?hip2 (by kernel_rfl) (by kernel_rfl) (by kernel_rfl) (fun _ _ _ h => h) ?hyp2 HS0 ?restp2
  case hip2 => (simp only [List.getElem?_toArray, List.getElem?_cons_succ, List.getElem?_cons_zero]; try rfl)
  case hyp2 => (refine Or.inl ⟨by rfl, ?_⟩; intro w hSw; go_simp; (try with_reducible rfl))
  try simp only [Act.put, List.setIfInBounds_toArray, List.set_cons_zero, List.set_cons_succ]
  refine wpAnyH_take (i := 2) (oi := ?oip3) (v := ?vp3) ?hip3 (by kernel_rfl) (by kernel_rfl) (by kernel_rfl) (fun _ _ _ h => h) ?hyp3 HS0 ?restp3
  case hip3 => (simp only [List.getElem?_toArray, List.getElem?_cons_succ, List.getElem?_cons_zero]; try rfl)
  case hyp3 => (refine Or.inl ⟨by rfl, ?_⟩; intro w hSw; have q := (hWd.out.same hSw.1).2 0 w0 rfl; go_simp; (try with_reducible rfl))
  try simp only [Act.put, List.setIfInBounds_toArray, List.set_cons_zero, List.set_cons_succ]
  refine wpAnyH_take (i := 3) (oi := ?oip4) (v := ?vp4) ?hip4 (by kernel_rfl) (by kernel_rfl) (by kernel_rfl) (fun _ _ _ h => h) ?hyp4 HS0 ?restp4
  case hip4 => (simp only [List.getElem?_toArray, List.getElem?_cons_succ, List.getElem?_cons_zero]; try rfl)
  case hyp4 => (refine Or.inl ⟨by rfl, ?_⟩; intro w hSw; go_simp; (try with_reducible rfl))
  try simp only [Act.put, List.setIfInBounds_toArray, List.set_cons_zero, List.set_cons_succ]
  refine wpAnyH_take (i := 4) (oi := ?oip5) (v := ?vp5) ?hip5 (by kernel_rfl) (by kernel_rfl) (by kernel_rfl) (fun _ _ _ h => h) ?hyp5 HS0 ?restp5
  case hip5 => (simp only [List.getElem?_toArray, List.getElem?_cons_succ, List.getElem?_cons_zero]; try rfl)
  case hyp5 => (refine Or.inl ⟨by rfl, ?_⟩; intro w hSw; go_simp; (try with_reducible rfl))
  try simp only [Act.put, List.setIfInBounds_toArray, List.set_cons_zero, List.set_cons_succ]
  refine wpAnyH_ready (rs := [5]) (by kernel_rfl) (by simp) ?_
  refine AllReadyH.cons (o := ?oip6) ?hip6 (fun K hK => ?stp6) AllReadyH.nil
  case hip6 => (simp only [List.getElem?_toArray, List.getElem?_cons_succ, List.getElem?_cons_zero]; try rfl)
  go_simp
  go_at_call 34
  refine (parse_any w0 _ _ _ _ (by have := HN.out; have := HFN.out; omega) HW0.out (HST HS0.1)).mono ?_
  rintro e w5 ⟨rfl, hb5⟩
  try dsimp only
  have HS5 := (show w5.heap[A]? = w3.heap[A]? ∧ Below w.heap.size w w5 ∧ ∃ zs, Blk w5 g 95 zs ∧ zs.size = 12 from ⟨(hb5.block A (hWd.out.same HS0.1).1).trans HS0.1, HS0.2.1.trans (hb5.mono HS0.2.1.size), HS0.2.2.choose, HS0.2.2.choose_spec.1.below hb5 HS0.2.2.choose_spec.1.lt, HS0.2.2.choose_spec.2⟩)
  refine hK.out _ _ HS5 (fun _ => ?rsp6)
  clear hK K
  try simp only [Act.put, List.setIfInBounds_toArray, List.set_cons_zero, List.set_cons_succ]
  refine wpAnyH_take (i := 6) (oi := ?oip7) (v := ?vp7) ?hip7 (by kernel_rfl) (by kernel_rfl) (by kernel_rfl) (fun _ _ _ h => h) ?hyp7 HS5 ?restp7
  case hip7 => (simp only [List.getElem?_toArray, List.getElem?_cons_succ, List.getElem?_cons_zero]; try rfl)
  case hyp7 => (refine Or.inl ⟨by rfl, ?_⟩; intro w hSw; go_simp; (try with_reducible rfl))
  try simp only [Act.put, List.setIfInBounds_toArray, List.set_cons_zero, List.set_cons_succ]
  refine wpAnyH_take (i := 7) (oi := ?oip8) (v := ?vp8) ?hip8 (by kernel_rfl) (by kernel_rfl) (by kernel_rfl) (fun _ _ _ h => h) ?hyp8 HS5 ?restp8
  case hip8 => (simp only [List.getElem?_toArray, List.getElem?_cons_succ, List.getElem?_cons_zero]; try rfl)
  case hyp8 => (refine Or.inl ⟨by rfl, ?_⟩; intro w hSw; go_simp; (try with_reducible rfl))
  try simp only [Act.put, List.setIfInBounds_toArray, List.set_cons_zero, List.set_cons_succ]
  refine wpAnyH_take (i := 8) (oi := ?oip9) (v := ?vp9) ?hip9 (by kernel_rfl) (by kernel_rfl) (by kernel_rfl) (fun _ _ _ h => h) ?hyp9 HS5 ?restp9
  case hip9 => (simp only [List.getElem?_toArray, List.getElem?_cons_succ, List.getElem?_cons_zero]; try rfl)
  case hyp9 => (refine Or.inl ⟨by rfl, ?_⟩; intro w hSw; go_simp; (try with_reducible rfl))
  try simp only [Act.put, List.setIfInBounds_toArray, List.set_cons_zero, List.set_cons_succ]
  refine wpAnyH_ready (rs := [9]) (by kernel_rfl) (by simp) ?_
  refine AllReadyH.cons (o := ?oip10) ?hip10 (fun K hK => ?stp10) AllReadyH.nil
  case hip10 => (simp only [List.getElem?_toArray, List.getElem?_cons_succ, List.getElem?_cons_zero]; try rfl)
  refine storeG 95 (cs := zsA) (by kernel_rfl) rfl rfl (by simp [Act.eval]; done) (by simp [Act.eval, zsA]; done) (by simp [Value.oneCell', zsA]) HS5.2.2.choose_spec.1 HS5.2.2.choose_spec.2 ?_
  intro w6 hbe hot hzz
  try dsimp only
  have HS6 := (show w6.heap[A]? = w3.heap[A]? ∧ Below w.heap.size w w6 ∧ ∃ zs, Blk w6 g 95 zs ∧ zs.size = 12 from ⟨(hot A (hWd.out.same HS5.1).1 HNE.out).trans HS5.1, hbe w (by rw [HG.out]; exact Nat.le_refl _) HS5.2.1, zsA, hzz, rfl⟩)
  refine hK.out _ _ HS6 (fun _ => ?rsp10)
  clear hK K
  try simp only [Act.put]
  refine wpAnyH_take (i := 10) (oi := ?oip11) (v := ?vp11) ?hip11 (by kernel_rfl) (by kernel_rfl) (by kernel_rfl) (fun _ _ _ h => h) ?hyp11 HS6 ?restp11
  case hip11 => (simp only [List.getElem?_toArray, List.getElem?_cons_succ, List.getElem?_cons_zero]; try rfl)
  case hyp11 => (refine Or.inl ⟨by rfl, ?_⟩; intro w hSw; go_simp; (try with_reducible rfl))
  try simp only [Act.put, List.setIfInBounds_toArray, List.set_cons_zero, List.set_cons_succ]
  refine wpAnyH_done (by kernel_rfl) ?_ _
  refine NoPanic.normal ?_

  go_wp2_with fail
  all_goals
    rw [jumpM_ret]
    go_ret2
    exact ⟨rfl, HS6.2.1⟩
set_option maxHeartbeats 4000000 in
theorem steps_any {s : ByteArray} (w : World) (hs : s.size ≤ 1000) (hw : Wh s) :
    Calls Tryz.prog 13 #[.string s] w fun e w' => e = .returned (.tuple #[.slice none 0 0, .bool false]) ∧ Below w.heap.size w w' := by
  by_cases hn : 0 ≤ indexByte s.data.toList 10
  · have hC := fun wa => Contains_any s wa
    simp only [hn, decide_true] at hC
    clear hn
    go_enter Tryz.func13, Tryz.ntmps13
    go_wp2_with (go_at_call 19; refine (hC _).mono ?_; rintro e w2 ⟨rfl, rfl⟩)
    go_ret2
    exact ⟨rfl, Below.refl _ _⟩
  · have hC := fun wa => Contains_any s wa
    simp only [hn, decide_false] at hC
    have hP := Parse_any w hs hw hn
    clear hn
    go_enter Tryz.func13, Tryz.ntmps13
    go_wp2_with (first | (go_at_call 19; refine (hC _).mono ?_; rintro e w2 ⟨rfl, rfl⟩) | (go_at_call 20; refine hP.mono ?_; rintro e w3 ⟨rfl, hb3⟩))
    go_ret2
    exact ⟨rfl, hb3⟩
end Go.Proofs.YtolignkahfekbaaGreatDoor.Ce
