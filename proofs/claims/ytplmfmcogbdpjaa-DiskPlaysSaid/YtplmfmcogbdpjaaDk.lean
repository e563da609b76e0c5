/- A disk: what it holds, file by file. -/
import Derived.Test.YtplmfmcogbdpjaaVol
import Derived.Test.YtplmfmcogbdpjaaMapB
namespace Go.Proofs.Ytplmfmcogbdpjaa.Dk
open Go Go.RowKit Go.Proofs.Ytplmfmcogbdpjaa Go.Proofs.Ytplmfmcogbdpjaa.Crw Go.Proofs.Ytplmfmcogbdpjaa.Vl Go.ChangeShapes Go.WideShapes Go.ChangeAt
set_option linter.unusedVariables false
set_option maxRecDepth 100000
structure Fi where
  p : ByteArray
  g : Nat
  v : Value
  bs : List Int
  sy : Int
  fi : Bool
/-- A disk's numbers. -/
structure Ds where
  q : Int
  u : Int
  fu : Bool
  lf : Int
  de : Bool
abbrev bsV (l : List Int) : List Value := l.map (Value.int .u8)
abbrev dsC (s : Ds) (mb : Nat) : Array Value := #[.int .i64 s.q, .int .i64 s.u, .map (some mb), .bool s.fu, .int .i64 s.lf, .bool s.de]
abbrev fiC (x : Fi) : Array Value := #[x.v, .int .i64 x.sy, .bool x.fi]
abbrev fptr (x : Fi) : Value := .pointer (some ⟨x.g, 0, none⟩)
abbrev fiE (x : Fi) : Value × Value := (.string x.p, fptr x)
def hitP (p : ByteArray) (x : Fi) : Bool := decide (p.data.toList = x.p.data.toList)
theorem beq_str (a b : ByteArray) : beq1 (.string a) (.string b) = decide (a.data.toList = b.data.toList) := rfl
theorem hitP_eq {p : ByteArray} {x : Fi} (h : hitP p x = true) : p = x.p := by
  unfold hitP at h
  simp only [decide_eq_true_eq] at h
  obtain ⟨⟨a⟩⟩ := p
  obtain ⟨⟨⟨b⟩⟩, _, _, _, _, _⟩ := x
  simp only at h
  rw [h]
theorem hitP_sym {x y : Fi} (h : hitP y.p x = true) : hitP x.p y = true := by
  unfold hitP at *
  simp only [decide_eq_true_eq] at *
  exact h.symm
structure DkP (w : World) (B d mb : Nat) (V : Nat → Prop) (s : Ds) (F : List Fi) : Prop where
  blk : Blk w d 80 (dsC s mb)
  mpB : MapB w mb (F.map fiE)
  fls : ∀ (k : Nat) (x : Fi), F[k]? = some x → Blk w x.g 86 (fiC x)
  rows : ∀ (k : Nat) (x : Fi), F[k]? = some x → w.ownsRow B 5 1 x.v x.bs.length (bsV x.bs)
  uniq : ∀ (j k : Nat) (x y : Fi), F[j]? = some x → F[k]? = some y → hitP y.p x = true → j = k
  apart : ∀ (j k : Nat) (x y : Fi), F[j]? = some x → F[k]? = some y → x.g = y.g → j = k
  apartV : ∀ (j k : Nat) (x y : Fi), F[j]? = some x → F[k]? = some y → j ≠ k → x.v.ownBlock = none ∨ x.v.ownBlock ≠ y.v.ownBlock
  vm : V d ∧ V mb
  vx : ∀ (k : Nat) (x : Fi), F[k]? = some x → V x.g ∧ ∀ b, x.v.ownBlock = some b → V b
  lt : ∀ b, V b → b < w.heap.size
  ge : ∀ b, V b → B ≤ b
section
variable {w w' : World} {B d mb : Nat} {U V : Nat → Prop} {s s' : Ds} {F : List Fi} {p : ByteArray}
theorem DkP.mp (h : DkP w B d mb V s F) : MapAt w mb (F.map fiE) := h.mpB.at_
theorem DkP.below (h : DkP w B d mb V s F) (hb : Below w.heap.size w w') : DkP w' B d mb V s F :=
  ⟨h.blk.below hb h.blk.lt, h.mpB.keep (hb.block _ h.mp.lt), fun k x hx => (h.fls k x hx).below hb (h.fls k x hx).lt, fun k x hx => own_keep (h.rows k x hx) hb, h.uniq, h.apart, h.apartV, h.vm, h.vx, fun b hv => Nat.lt_of_lt_of_le (h.lt b hv) hb.size, h.ge⟩
theorem DkP.vol (h : DkP w B d mb V s F) (hv : Vol U w w') (hd : ∀ b, V b → ¬ U b) : DkP w' B d mb V s F :=
  ⟨blk_vol h.blk hv (hd _ h.vm.1), h.mpB.keep (hv.block _ h.mp.lt (hd _ h.vm.2)), fun k x hx => blk_vol (h.fls k x hx) hv (hd _ (h.vx k x hx).1), fun k x hx => own_vol (h.rows k x hx) hv (fun b hb => hd b ((h.vx k x hx).2 b hb)), h.uniq, h.apart, h.apartV, h.vm, h.vx, fun b hb => Nat.lt_of_lt_of_le (h.lt b hb) hv.size, h.ge⟩
theorem str_fit (p : ByteArray) : keyFit Try.prog 9 (.string p) = true := by kernel_rfl
theorem DkP.kv [Toks] (h : DkP w B d mb V s F) : Kv Try.prog 9 (F.map fiE) := by
  intro q hq
  obtain ⟨x, _, rfl⟩ := List.mem_map.1 hq
  exact ⟨str_fit x.p, rfl, ⟨x.g, 0, 0⟩, rfl, rfl⟩
theorem zero_file : zeroP Try.prog 83 = some (.pointer none) := by kernel_rfl
theorem flook_yes (h : DkP w B d mb V s F) {j : Nat} {x : Fi} (hj : F[j]? = some x) (ok : Bool) :
    (Instr.lookup 78 (.map (some mb)) (.string x.p) ok).run Try.prog w = .ok (if ok then .tuple #[fptr x, .bool true] else fptr x) w := by
  letI : Toks := ⟨fun _ => 0⟩
  exact h.mp.look_yes (P := Try.prog) (j := j) (v := fptr x) (k := .string x.p) Try.underlying78 h.kv (by rw [List.getElem?_map, hj]; rfl) (by rw [beq_str]; simp) (fun i q hi hq => by
    rw [List.getElem?_map] at hq
    cases hy : F[i]? with
    | none => rw [hy] at hq; cases hq
    | some y =>
      rw [hy] at hq
      injection hq with hq
      subst hq
      rw [beq_str]
      cases hh : decide (x.p.data.toList = y.p.data.toList) with
      | false => rfl
      | true => exact absurd (h.uniq i j y x hy hj hh) (by omega)) ok
theorem flook_no (h : DkP w B d mb V s F) (hs : ∀ (k : Nat) (x : Fi), F[k]? = some x → hitP p x = false) (ok : Bool) :
    (Instr.lookup 78 (.map (some mb)) (.string p) ok).run Try.prog w = .ok (if ok then .tuple #[.pointer none, .bool false] else .pointer none) w := by
  letI : Toks := ⟨fun _ => 0⟩
  exact h.mp.look_no (P := Try.prog) (k := .string p) Try.underlying78 h.kv (str_fit p) (fun q hq => by
    obtain ⟨y, hy, rfl⟩ := List.mem_map.1 hq
    obtain ⟨k, hk⟩ := List.getElem?_of_mem hy
    rw [beq_str]
    exact hs k y hk) zero_file ok
theorem fput_no (h : DkP w B d mb V s F) (hs : ∀ (k : Nat) (x : Fi), F[k]? = some x → hitP p x = false) (g : Nat) :
    ∃ w', (Instr.mapUpdate 78 (.map (some mb)) (.string p) (.pointer (some ⟨g, 0, none⟩))).run Try.prog w = .ok () w' ∧ MapB w' mb (F.map fiE ++ [(.string p, .pointer (some ⟨g, 0, none⟩))]) ∧ w.grownBy w' (some mb) := by
  letI : Toks := ⟨fun _ => 0⟩
  exact h.mpB.put_no (P := Try.prog) (k := .string p) Try.underlying78 h.kv (str_fit p) (fun q hq => by
    obtain ⟨y, hy, rfl⟩ := List.mem_map.1 hq
    obtain ⟨k, hk⟩ := List.getElem?_of_mem hy
    rw [beq_str]
    exact hs k y hk) (.pointer (some ⟨g, 0, none⟩))
theorem fdel_yes (h : DkP w B d mb V s F) {j : Nat} {x : Fi} (hj : F[j]? = some x) (ty : TypeId) :
    ∃ w', (Builtin.delete_ #[78, 9] ty #[.map (some mb), .string x.p]).run Try.prog w = .ok (.tuple #[]) w' ∧ MapB w' mb ((F.eraseIdx j).map fiE) ∧ w.grownBy w' (some mb) := by
  letI : Toks := ⟨fun _ => 0⟩
  obtain ⟨w', h1, h2, h3⟩ := h.mpB.del_yes (P := Try.prog) (j := j) (u := fptr x) (k := .string x.p) Try.underlying78 h.kv (by rw [List.getElem?_map, hj]; rfl) (by rw [beq_str]; simp) (fun i q hi hq => by
    rw [List.getElem?_map] at hq
    cases hy : F[i]? with
    | none => rw [hy] at hq; cases hq
    | some y =>
      rw [hy] at hq
      injection hq with hq
      subst hq
      rw [beq_str]
      cases hh : decide (x.p.data.toList = y.p.data.toList) with
      | false => rfl
      | true => exact absurd (h.uniq i j y x hy hj hh) (by omega)) ty
  exact ⟨w', h1, by rw [show (F.eraseIdx j).map fiE = (F.map fiE).eraseIdx j by rw [List.eraseIdx_eq_take_drop_succ, List.eraseIdx_eq_take_drop_succ, List.map_append, List.map_take, List.map_drop]]; exact h2, h3⟩
theorem DkP.scal (h : DkP w B d mb V s F) (hvol : Vol (fun b => b = d) w w') (hblk : Blk w' d 80 (dsC s' mb)) : DkP w' B d mb V s' F := by
  refine ⟨hblk, h.mpB.keep (hvol.block _ h.mp.lt (fun e => blk_map_ne h.blk h.mp e.symm)), fun k x hx => blk_vol (h.fls k x hx) hvol (fun e => blk_ne (h.fls k x hx) h.blk (by decide) e), fun k x hx => own_vol (h.rows k x hx) hvol (fun b hb e => own_blk_ne (h.rows k x hx) h.blk (by decide) (by rw [hb, e])), h.uniq, h.apart, h.apartV, h.vm, h.vx, fun b hb => Nat.lt_of_lt_of_le (h.lt b hb) hvol.size, h.ge⟩
theorem fget_set {j k : Nat} {x y : Fi} (h : (F.set j x)[k]? = some y) : (k = j ∧ y = x) ∨ (k ≠ j ∧ F[k]? = some y) := by
  rw [List.getElem?_set] at h
  by_cases e : j = k
  · subst e
    rw [if_pos rfl] at h
    split at h
    · injection h with h; exact .inl ⟨rfl, h.symm⟩
    · cases h
  · rw [if_neg e] at h
    exact .inr ⟨fun e' => e e'.symm, h⟩
/-- A file has turned, and the disk's numbers. -/
theorem DkP.turn (h : DkP w B d mb V s F) {j : Nat} {x x' : Fi} (hj : F[j]? = some x) (hp : x'.p = x.p) (hg : x'.g = x.g) (hvol : Vol (fun b => b = d ∨ b = x.g ∨ x.v.ownBlock = some b) w w') (hdb : Blk w' d 80 (dsC s' mb))
    (hblk : Blk w' x.g 86 (fiC x')) (hrow : w'.ownsRow B 5 1 x'.v x'.bs.length (bsV x'.bs)) (hv : ∀ b, x'.v.ownBlock = some b → x.v.ownBlock = some b ∨ w.heap.size ≤ b) :
    DkP w' B d mb (fun b => V b ∨ (w.heap.size ≤ b ∧ x'.v.ownBlock = some b)) s' (F.set j x') := by
  have hx := h.fls j x hj
  have hr := h.rows j x hj
  have hjl := (List.getElem?_eq_some_iff.1 hj).1
  have hmp : (F.set j x').map fiE = F.map fiE := by
    rw [List.map_set, show fiE x' = fiE x by simp [fiE, fptr, hp, hg]]
    apply List.ext_getElem?
    intro i
    rw [List.getElem?_set]
    split
    · rename_i e
      subst e
      rw [if_pos (by simpa using hjl), List.getElem?_map, hj]
      rfl
    · rfl
  refine ⟨hdb, ?_, fun k y hy => ?_, fun k y hy => ?_, fun i k y z hy hz e => ?_, fun i k y z hy hz e => ?_, fun i k y z hy hz e => ?_, ⟨.inl h.vm.1, .inl h.vm.2⟩, fun k y hy => ?_, fun b hb => ?_, fun b hb => ?_⟩
  · rw [hmp]
    refine h.mpB.keep (hvol.block _ h.mp.lt ?_)
    rintro (e | e | e)
    · exact blk_map_ne h.blk h.mp e.symm
    · exact blk_map_ne hx h.mp e.symm
    · exact own_map_ne hr h.mp e
  · rcases fget_set hy with ⟨_, rfl⟩ | ⟨hne, hy⟩
    · rw [hg]; exact hblk
    · refine blk_vol (h.fls k y hy) hvol ?_
      rintro (e | e | e)
      · exact blk_ne (h.fls k y hy) h.blk (by decide) e
      · exact hne (h.apart k j y x hy hj e)
      · exact own_blk_ne hr (h.fls k y hy) (by decide) e
  · rcases fget_set hy with ⟨_, rfl⟩ | ⟨hne, hy⟩
    · exact hrow
    · refine own_vol (h.rows k y hy) hvol ?_
      rintro b hb (e | e | e)
      · subst e
        exact own_blk_ne (h.rows k y hy) h.blk (by decide) hb
      · subst e
        exact own_blk_ne (h.rows k y hy) hx (by decide) hb
      · rcases h.apartV k j y x hy hj hne with h1 | h1
        · rw [h1] at hb; cases hb
        · exact h1 (by rw [hb, e])
  · have key : ∀ (i : Nat) (y : Fi), (F.set j x')[i]? = some y → ∃ y0, F[i]? = some y0 ∧ y.p = y0.p := fun i y hy => by
      rcases fget_set hy with ⟨rfl, rfl⟩ | ⟨_, hy⟩
      · exact ⟨x, hj, hp⟩
      · exact ⟨y, hy, rfl⟩
    obtain ⟨y0, hy0, e1⟩ := key i y hy
    obtain ⟨z0, hz0, e3⟩ := key k z hz
    refine h.uniq i k y0 z0 hy0 hz0 ?_
    unfold hitP at e ⊢
    rw [← e1, ← e3]
    exact e
  · have key : ∀ (i : Nat) (y : Fi), (F.set j x')[i]? = some y → ∃ y0, F[i]? = some y0 ∧ y.g = y0.g := fun i y hy => by
      rcases fget_set hy with ⟨rfl, rfl⟩ | ⟨_, hy⟩
      · exact ⟨x, hj, hg⟩
      · exact ⟨y, hy, rfl⟩
    obtain ⟨y0, hy0, e1⟩ := key i y hy
    obtain ⟨z0, hz0, e3⟩ := key k z hz
    exact h.apart i k y0 z0 hy0 hz0 (by rw [← e1, ← e3, e])
  · rcases fget_set hy with ⟨rfl, rfl⟩ | ⟨hne, hy'⟩
    · rcases fget_set hz with ⟨rfl, _⟩ | ⟨hne2, hz⟩
      · exact absurd rfl e
      · cases hb : y.v.ownBlock with
        | none => exact .inl rfl
        | some b =>
          refine .inr fun e2 => ?_
          rcases hv b hb with h1 | h1
          · rcases h.apartV i k x z hj hz e with h2 | h2
            · rw [h2] at h1; cases h1
            · exact h2 (h1.trans e2)
          · have := h.lt b ((h.vx k z hz).2 b e2.symm)
            omega
    · rcases fget_set hz with ⟨rfl, rfl⟩ | ⟨hne2, hz⟩
      · cases hb : y.v.ownBlock with
        | none => exact .inl rfl
        | some b =>
          refine .inr fun e2 => ?_
          rcases hv b e2.symm with h1 | h1
          · rcases h.apartV i k y x hy' hj e with h2 | h2
            · rw [h2] at hb; cases hb
            · exact h2 (hb.trans h1.symm)
          · have := h.lt b ((h.vx i y hy').2 b hb)
            omega
      · exact h.apartV i k y z hy' hz e
  · rcases fget_set hy with ⟨_, rfl⟩ | ⟨hne, hy⟩
    · refine ⟨.inl (by rw [hg]; exact (h.vx j x hj).1), fun b hb => ?_⟩
      rcases hv b hb with h1 | h1
      · exact .inl ((h.vx j x hj).2 b h1)
      · exact .inr ⟨h1, hb⟩
    · exact ⟨.inl (h.vx k y hy).1, fun b hb => .inl ((h.vx k y hy).2 b hb)⟩
  · rcases hb with hb | ⟨_, hb⟩
    · exact Nat.lt_of_lt_of_le (h.lt b hb) hvol.size
    · exact (hrow.lt b hb).2
  · rcases hb with hb | ⟨_, hb⟩
    · exact h.ge b hb
    · exact (hrow.lt b hb).1
theorem fget_push {k : Nat} {x y : Fi} (h : (F ++ [x])[k]? = some y) : (k = F.length ∧ y = x) ∨ (k < F.length ∧ F[k]? = some y) := by
  rcases Nat.lt_or_ge k F.length with e | e
  · rw [List.getElem?_append_left e] at h
    exact .inr ⟨e, h⟩
  · rw [List.getElem?_append_right e] at h
    have : k - F.length = 0 := by
      have := (List.getElem?_eq_some_iff.1 h).1
      simp at this
      omega
    rw [this] at h
    injection h with h
    exact .inl ⟨by omega, h.symm⟩
/-- A file has come. -/
theorem DkP.push (h : DkP w B d mb V s F) (x' : Fi) (hno : ∀ (k : Nat) (x : Fi), F[k]? = some x → hitP x'.p x = false) (hvol : Vol (fun b => b = d ∨ b = mb) w w') (hdb : Blk w' d 80 (dsC s' mb)) (hmp : MapB w' mb ((F ++ [x']).map fiE)) (hge : w.heap.size ≤ x'.g)
    (hblk : Blk w' x'.g 86 (fiC x')) (hrow : w'.ownsRow B 5 1 x'.v x'.bs.length (bsV x'.bs)) (hv : ∀ b, x'.v.ownBlock = some b → w.heap.size ≤ b) :
    DkP w' B d mb (fun b => V b ∨ (w.heap.size ≤ b ∧ (b = x'.g ∨ x'.v.ownBlock = some b))) s' (F ++ [x']) := by
  have hBw : B ≤ w.heap.size := Nat.le_trans (h.ge d h.vm.1) (Nat.le_of_lt h.blk.lt)
  refine ⟨hdb, hmp, fun k y hy => ?_, fun k y hy => ?_, fun i k y z hy hz e => ?_, fun i k y z hy hz e => ?_, fun i k y z hy hz e => ?_, ⟨.inl h.vm.1, .inl h.vm.2⟩, fun k y hy => ?_, fun b hb => ?_, fun b hb => ?_⟩
  · rcases fget_push hy with ⟨_, rfl⟩ | ⟨_, hy⟩
    · exact hblk
    · refine blk_vol (h.fls k y hy) hvol ?_
      rintro (e | e)
      · exact blk_ne (h.fls k y hy) h.blk (by decide) e
      · exact blk_map_ne (h.fls k y hy) h.mp e
  · rcases fget_push hy with ⟨_, rfl⟩ | ⟨_, hy⟩
    · exact hrow
    · refine own_vol (h.rows k y hy) hvol ?_
      rintro b hb (e | e)
      · subst e
        exact own_blk_ne (h.rows k y hy) h.blk (by decide) hb
      · exact own_map_ne (h.rows k y hy) h.mp (by rw [hb, e])
  · rcases fget_push hy with ⟨e1, e2⟩ | ⟨_, hy'⟩
    · rcases fget_push hz with ⟨e3, _⟩ | ⟨_, hz'⟩
      · omega
      · rw [e2] at e
        have := hno k z hz'
        rw [hitP_sym e] at this
        cases this
    · rcases fget_push hz with ⟨_, e3⟩ | ⟨_, hz'⟩
      · rw [e3] at e
        rw [hno i y hy'] at e
        cases e
      · exact h.uniq i k y z hy' hz' e
  · rcases fget_push hy with ⟨e1, e2⟩ | ⟨_, hy'⟩
    · rcases fget_push hz with ⟨e3, _⟩ | ⟨_, hz'⟩
      · omega
      · have := (h.fls k z hz').lt
        rw [← e, e2] at this
        omega
    · rcases fget_push hz with ⟨_, e3⟩ | ⟨_, hz'⟩
      · have := (h.fls i y hy').lt
        rw [e, e3] at this
        omega
      · exact h.apart i k y z hy' hz' e
  · rcases fget_push hy with ⟨e1, e2⟩ | ⟨_, hy'⟩
    · rcases fget_push hz with ⟨e3, _⟩ | ⟨_, hz'⟩
      · omega
      · cases hb : y.v.ownBlock with
        | none => exact .inl rfl
        | some b =>
          refine .inr fun e5 => ?_
          have h1 := hv b (by rw [← e2]; exact hb)
          have h2 := h.lt b ((h.vx k z hz').2 b e5.symm)
          omega
    · rcases fget_push hz with ⟨_, e3⟩ | ⟨_, hz'⟩
      · cases hb : y.v.ownBlock with
        | none => exact .inl rfl
        | some b =>
          refine .inr fun e5 => ?_
          have h1 := hv b (by rw [← e3]; exact e5.symm)
          have h2 := h.lt b ((h.vx i y hy').2 b hb)
          omega
      · exact h.apartV i k y z hy' hz' e
  · rcases fget_push hy with ⟨_, rfl⟩ | ⟨_, hy'⟩
    · exact ⟨.inr ⟨hge, .inl rfl⟩, fun b hb => .inr ⟨hv b hb, .inr hb⟩⟩
    · exact ⟨.inl (h.vx k y hy').1, fun b hb => .inl ((h.vx k y hy').2 b hb)⟩
  · rcases hb with hb | ⟨_, rfl | hb⟩
    · exact Nat.lt_of_lt_of_le (h.lt b hb) hvol.size
    · exact hblk.lt
    · exact (hrow.lt b hb).2
  · rcases hb with hb | ⟨h1, _⟩
    · exact h.ge b hb
    · omega
theorem fget_erase {j k : Nat} {x : Fi} (h : (F.eraseIdx j)[k]? = some x) : ∃ k', F[k']? = some x ∧ k' ≠ j ∧ ((k < j ∧ k' = k) ∨ (j ≤ k ∧ k' = k + 1)) := by
  rw [List.getElem?_eraseIdx] at h
  split at h
  · exact ⟨k, h, by omega, .inl ⟨by omega, rfl⟩⟩
  · exact ⟨k + 1, h, by omega, .inr ⟨by omega, rfl⟩⟩
/-- A file has gone. -/
theorem DkP.erase (h : DkP w B d mb V s F) (j : Nat) (hvol : Vol (fun b => b = d ∨ b = mb) w w') (hdb : Blk w' d 80 (dsC s' mb)) (hmp : MapB w' mb ((F.eraseIdx j).map fiE)) : DkP w' B d mb V s' (F.eraseIdx j) := by
  refine ⟨hdb, hmp, fun k y hy => ?_, fun k y hy => ?_, fun i k y z hy hz e => ?_, fun i k y z hy hz e => ?_, fun i k y z hy hz e => ?_, h.vm, fun k y hy => ?_, fun b hb => Nat.lt_of_lt_of_le (h.lt b hb) hvol.size, h.ge⟩
  · obtain ⟨k', hk, _⟩ := fget_erase hy
    refine blk_vol (h.fls k' y hk) hvol ?_
    rintro (e | e)
    · exact blk_ne (h.fls k' y hk) h.blk (by decide) e
    · exact blk_map_ne (h.fls k' y hk) h.mp e
  · obtain ⟨k', hk, _⟩ := fget_erase hy
    refine own_vol (h.rows k' y hk) hvol ?_
    rintro b hb (e | e)
    · subst e
      exact own_blk_ne (h.rows k' y hk) h.blk (by decide) hb
    · exact own_map_ne (h.rows k' y hk) h.mp (by rw [hb, e])
  · obtain ⟨i', hi, _, h1⟩ := fget_erase hy
    obtain ⟨k', hk, _, h2⟩ := fget_erase hz
    have := h.uniq i' k' y z hi hk e
    omega
  · obtain ⟨i', hi, _, h1⟩ := fget_erase hy
    obtain ⟨k', hk, _, h2⟩ := fget_erase hz
    have := h.apart i' k' y z hi hk e
    omega
  · obtain ⟨i', hi, _, h1⟩ := fget_erase hy
    obtain ⟨k', hk, _, h2⟩ := fget_erase hz
    exact h.apartV i' k' y z hi hk (by omega)
  · obtain ⟨k', hk, _⟩ := fget_erase hy
    exact h.vx k' y hk
end
end Go.Proofs.Ytplmfmcogbdpjaa.Dk
