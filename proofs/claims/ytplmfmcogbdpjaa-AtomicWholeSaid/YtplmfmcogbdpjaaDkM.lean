/- atomic.Write and atomic.Clean: known names, what is done, what dies, under a fuse. -/
import Derived.Test.YtplmfmcogbdpjaaAllSum
import Derived.Test.YtplmfmcogbdpjaaDkG
import Derived.Test.YtplmfmcogbdpjaaDk8
import Derived.Deep.LoopGhost
namespace Go.Proofs.Ytplmfmcogbdpjaa
open Go Go.RowKit
abbrev nmF : ByteArray := ⟨#[102]⟩
abbrev nmT : ByteArray := ⟨#[102, 126]⟩
set_option maxRecDepth 1000000 in
theorem tmp_F : Known Try.prog (70, [.string nmF], .string nmT) :=
  known_of (okF := ⟨fun _ => true, fun _ _ => none, fun _ _ _ => none⟩) (n := 100) (letI : Toks := ⟨fun _ => 0⟩; ⟨(fun _ _ _ h => nomatch h), CallOk.none, CallMono.none⟩) mixed (by kernel_rfl) rfl rfl (by kernel_rfl)
set_option maxRecDepth 1000000 in
theorem is_F : Known Try.prog (71, [.string nmF], .bool false) :=
  known_of (okF := ⟨fun _ => true, fun _ _ => none, fun _ _ _ => none⟩) (n := 2000) (letI : Toks := ⟨fun _ => 0⟩; ⟨(fun _ _ _ h => nomatch h), CallOk.none, CallMono.none⟩) mixed (by kernel_rfl) rfl rfl (by kernel_rfl)
set_option maxRecDepth 1000000 in
theorem is_T : Known Try.prog (71, [.string nmT], .bool true) :=
  known_of (okF := ⟨fun _ => true, fun _ _ => none, fun _ _ _ => none⟩) (n := 2000) (letI : Toks := ⟨fun _ => 0⟩; ⟨(fun _ _ _ h => nomatch h), CallOk.none, CallMono.none⟩) mixed (by kernel_rfl) rfl rfl (by kernel_rfl)
theorem Temp_F (w : World) : Calls Try.prog 70 #[.string nmF] w fun e w' => e = .returned (.string nmT) ∧ Below w.heap.size w w' := tmp_F.2.2.2 w
theorem IsTemp_F (w : World) : Calls Try.prog 71 #[.string nmF] w fun e w' => e = .returned (.bool false) ∧ Below w.heap.size w w' := is_F.2.2.2 w
theorem IsTemp_T (w : World) : Calls Try.prog 71 #[.string nmT] w fun e w' => e = .returned (.bool true) ∧ Below w.heap.size w w' := is_T.2.2.2 w
end Go.Proofs.Ytplmfmcogbdpjaa

namespace Go.Proofs.Ytplmfmcogbdpjaa.Dk
open Go Go.RowKit Go.Proofs.Ytplmfmcogbdpjaa Go.Proofs.Ytplmfmcogbdpjaa.Crw Go.Proofs.Ytplmfmcogbdpjaa.Vl Go.ChangeShapes Go.WideShapes Go.ChangeAt
set_option linter.unusedVariables false
set_option maxRecDepth 100000
theorem nmF_ne : nmF.toList.isEmpty = false := by decide +kernel
theorem nmT_ne : nmT.toList.isEmpty = false := by decide +kernel
theorem nmTF : (nmT.toList == nmF.toList) = false := by decide +kernel
section
variable {w w' : World} {B d mb : Nat} {U V : Nat → Prop} {s s' : Ds} {F : List Fi} {p q : ByteArray}
theorem set_last (F : List Fi) (x y : Fi) : (F ++ [x]).set F.length y = F ++ [y] := set_mid F [] x y
theorem get_last (F : List Fi) (x : Fi) : (F ++ [x])[F.length]? = some x := by simp
set_option maxHeartbeats 16000000 in
theorem Write_ok (H : DkP w B d mb V s F) (hno : ∀ (k : Nat) (x : Fi), F[k]? = some x → hitP nmT x = false) (hs : s.de = false) {s1 s2 s3 : Ds} (h1 : burnS s s1 0) (e1 : s1.u = s.u) (d1 : s1.de = false) {n : Nat} (h2 : burnS { s1 with u := s1.u + n } s2 0) (d2 : s2.de = false) (h3 : burnS s2 s3 0)
    (hq : 0 ≤ s.q ∧ s.q ≤ 65536) (hu : 0 ≤ s.u ∧ s.u ≤ 65536) {B' c t : Nat} {A : Option Addr} {bs : List Int} (hr : Reads w B' 1 A n (bsV bs)) (hB : B' ≤ w.heap.size) (hA : ∀ ad, A = some ad → ¬ V ad.block) (hn : (n : Int) ≤ s.q - s.u)
    (hrm : ∀ (wa : World) (V' : Nat → Prop) (g : Nat) (v : Value), DkP wa B d mb V' s3 (F ++ [⟨nmT, g, v, bs, bs.length, true⟩]) → Calls Try.prog 66 #[.pointer (some ⟨d, 0, none⟩), .string nmF] wa fun r w' => (∃ u, r = .returned u) ∧ Gone wa w' B d mb V' s3 (F ++ [⟨nmT, g, v, bs, bs.length, true⟩]) [⟨nmT, g, v, bs, bs.length, true⟩] t nmF) :
    Calls Try.prog 42 #[.pointer (some ⟨d, 0, none⟩), .string nmF, .slice A n c] w fun r w' => r = .returned (.int .i64 0) ∧ ∃ V' g v, DkP w' B d mb V' { s3 with u := s3.u - t } [⟨nmF, g, v, bs, bs.length, true⟩] ∧ Vol V w w' ∧ (∀ b, V' b → V b ∨ w.heap.size ≤ b) := by
  have HH := Lib.hid H
  have HR := Lib.hid hr
  have HN := Lib.hid hno
  clear H hr hno
  go_enter Try.func42, Try.ntmps42
  go_wp2_with fail
  refine (Temp_F w).mono ?_
  rintro r w1 ⟨rfl, b1⟩
  have hAp := Append_newF (HH.out.below b1) (p := nmT) (c := c) HN.out nmT_ne hs h1 e1 hq hu (reads_vol (U := fun _ => False) HR.out hB (Vol.of_below b1) (fun _ _ h => h)) (Nat.le_trans hB b1.size) hA hn
  go_wp2_with fail
  refine hAp.mono ?_
  rintro r w2 ⟨rfl, V2, g, v, D2, v2, x2⟩
  clear hAp
  have hSy := Sync_yesF D2 (j := F.length) (p := nmT) (get_last _ _) rfl nmT_ne (by show s1.de = false; exact d1) h2
  rw [set_last] at hSy
  clear D2
  go_wp2_with fail
  refine hSy.mono ?_
  rintro r w3 ⟨rfl, D3, v3⟩
  clear hSy
  have hRn := Rename_F D3 (j := F.length) (p := nmT) (q := nmF) (G := [⟨nmT, g, v, bs, bs.length, true⟩]) (i := 0) (t := t) (get_last _ _) rfl nmT_ne nmF_ne nmTF d2 h3 rfl (by
    intro wa hwa
    rw [set_last] at hwa
    refine (hrm wa V2 g v hwa).mono ?_
    rintro r w' ⟨hu, hG⟩
    refine ⟨hu, ?_⟩
    rw [set_last]
    exact hG)
  clear D3
  go_wp2_with fail
  refine hRn.mono ?_
  rintro r w4 ⟨rfl, D4, v4⟩
  clear hRn
  go_wp2_with fail
  go_ret
  have hv2 : Vol V w w2 := (Vol.of_below b1).trans v2 (fun b e => .inl e)
  have k2 : ∀ b, V2 b → V b ∨ w.heap.size ≤ b := fun b e => (x2 b e).imp id (fun e => Nat.le_trans b1.size e)
  exact ⟨rfl, V2, g, v, D4, (hv2.trans v3 k2).trans v4 k2, k2⟩
end
end Go.Proofs.Ytplmfmcogbdpjaa.Dk

namespace Go.Proofs.Ytplmfmcogbdpjaa.Dk
open Go Go.RowKit Go.Proofs.Ytplmfmcogbdpjaa Go.Proofs.Ytplmfmcogbdpjaa.Crw Go.Proofs.Ytplmfmcogbdpjaa.Vl Go.ChangeShapes Go.WideShapes Go.ChangeAt
set_option linter.unusedVariables false
set_option maxRecDepth 100000
section
variable {w w' : World} {B d mb : Nat} {U V : Nat → Prop} {s s' : Ds} {F : List Fi} {p q : ByteArray}
theorem reads_bel2 {w1 w2 : World} {z n B : Nat} {A : Option Addr} {xs : List Value} (h : Reads w1 B z A n xs) (hB : B ≤ w1.heap.size) (hb : Below w1.heap.size w1 w2) : Reads w2 B z A n xs := reads_vol (U := fun _ => False) h hB (Vol.of_below hb) (fun _ _ h => h)
abbrev kyF : List UInt8 := nmF.data.toList
abbrev kyT : List UInt8 := nmT.data.toList
theorem kyFT : kyT ≠ kyF := by decide
def ClR (w w1 : World) (B d mb : Nat) (V : Nat → Prop) (s s' : Ds) (F0 T : List Fi) (l : List (List UInt8)) (A : Option Addr) (i : Value) (wr : World) : Prop :=
  ∃ k, i = .int .i64 (k : Nat) ∧ k ≤ l.length ∧ ((kyT ∉ l.take k ∧ DkP wr B d mb V s (F0 ++ T)) ∨ (kyT ∈ l.take k ∧ T ≠ [] ∧ DkP wr B d mb V s' F0)) ∧ Vol V w wr ∧ Reads wr w1.heap.size 1 A l.length (l.map encStr) ∧ w1.heap.size ≤ wr.heap.size
set_option maxHeartbeats 16000000 in
theorem Clean_ (F0 T : List Fi) (H : DkP w B d mb V s (F0 ++ T)) (hF0 : ∀ x ∈ F0, x.p = nmF) (hT : T = [] ∨ ∃ t, T = [t] ∧ t.p = nmT) (hl : (F0 ++ T).length ≤ 65536) (hs : s.de = false ∧ s.fu = false) (hbs : ∀ t ∈ T, t.bs.length ≤ 65536) (hu : 0 ≤ s.u ∧ s.u ≤ 65536) :
    Calls Try.prog 43 #[.pointer (some ⟨d, 0, none⟩)] w fun r w' => r = .returned (.int .i64 0) ∧ DkP w' B d mb V { s with u := s.u - (total (T.map Fi.sh) : Int) } F0 ∧ Vol V w w' := by
  obtain ⟨s', hs'⟩ : ∃ s', s' = { s with u := s.u - (total (T.map Fi.sh) : Int) } := ⟨_, rfl⟩
  rw [← hs']
  obtain ⟨l, hl, hList⟩ := List_all H (by omega)
  have hnd : l.Nodup := hl.nodup_iff.2 H.nodup
  have hll : l.length ≤ 65536 := by
    have h1 := hl.length_eq
    simp at h1
    simp at *
    omega
  have HH := Lib.hid H
  have HL := Lib.hid hl
  have HND := Lib.hid hnd
  have HS := Lib.hid hs'
  have HT := Lib.hid hT
  have HF0 := Lib.hid hF0
  have HBS := Lib.hid hbs
  clear H hl hnd hs' hT hF0 hbs
  go_enter Try.func43, Try.ntmps43
  go_upto_region 2 with (go_at_call 22; refine hList.mono ?_; rintro r w1 ⟨v, rfl, hb1, ho1⟩; obtain ⟨A, c, rfl, -, -⟩ := own_slice ho1)
  have hAV : Hid (∀ ad, A = some ad → ¬ V ad.block) := Lib.hid (by
    intro ad e hv
    subst e
    have h1 := (ho1.lt ad.block rfl).1
    have h2 := HH.out.lt _ hv
    omega)
  have hs0 : ClR w w1 B d mb V s s' F0 T l A (.int .i64 (0 : Nat)) w1 := ⟨0, rfl, Nat.zero_le _, .inl ⟨by simp, HH.out.below hb1⟩, Vol.of_below hb1, own_reads ho1, Nat.le_refl _⟩
  have HS0 := Lib.hid hs0
  clear hs0 ho1 hb1 hList
  go_loopw [9] (fun i wr => Hid (ClR w w1 B d mb V s s' F0 T l A i wr)) (fun i _ => l.length - (intOf i).toNat)
  case atStart => exact HS0
  case round =>
    obtain ⟨k, rfl, hk, hst, hvol, hrd, hsz⟩ := hrel.out
    clear hrel HS0
    by_cases hlt : k < l.length
    · have k1 : (k : Int) < (l.length : Int) := by omega
      obtain ⟨nm, hnm⟩ : ∃ nm, l[k]? = some nm := ⟨l[k], List.getElem?_eq_getElem hlt⟩
      have htk : l.take (k + 1) = l.take k ++ [nm] := by rw [List.take_add_one, hnm]; rfl
      have hno : nm ∉ l.take k := by
        intro h
        obtain ⟨i, hi⟩ := List.getElem?_of_mem h
        have hik : i < k := by
          have h0 := (List.getElem?_eq_some_iff.1 hi).1
          rw [List.length_take] at h0
          omega
        rw [List.getElem?_take_of_lt hik] at hi
        have := (List.getElem?_inj (List.getElem?_eq_some_iff.1 hi).1 HND.out).1 (hi.trans hnm.symm)
        omega
      have hmem : nm ∈ ((F0 ++ T).map Fi.sh).map Sh.ky := HL.out.mem_iff.1 (List.mem_of_getElem? hnm)
      have hcase : nm = kyF ∨ (nm = kyT ∧ ∃ t, T = [t] ∧ t.p = nmT) := by
        obtain ⟨y, hy, rfl⟩ := List.mem_map.1 hmem
        obtain ⟨x, hx, rfl⟩ := List.mem_map.1 hy
        rcases List.mem_append.1 hx with h | h
        · exact .inl (by show x.p.data.toList = _; rw [HF0.out x h])
        · rcases HT.out with h0 | ⟨t, h0, h1⟩
          · rw [h0] at h; cases h
          · rw [h0] at h
            have : x = t := by simpa using h
            exact .inr ⟨by show x.p.data.toList = _; rw [this, h1], t, h0, h1⟩
      obtain ⟨ad, u, hA, hadb, hu1, hc1⟩ := hrd.at_ hlt
      subst hA
      rw [List.getElem?_map, hnm] at hu1
      injection hu1 with hu1
      rcases hcase with rfl | ⟨rfl, t, hTt, htp⟩
      · have hc1' : wr.cell? (ad.add k) = some (.string nmF) := by rw [hc1, ← hu1]
        have HST := Lib.hid hst
        have HVO := Lib.hid hvol
        have HRD := Lib.hid hrd
        have HTK := Lib.hid htk
        clear hst hvol hrd htk hno hmem hnm hu1 hc1
        go_wp2_with fail
        refine (IsTemp_F _).mono ?_
        rintro r w2 ⟨rfl, hb2⟩
        go_wp2_with fail
        refine ⟨Lib.hid ⟨k + 1, by rw [Int.natCast_add]; rfl, hlt, ?_, HVO.out.below hb2, reads_bel2 HRD.out hsz hb2, Nat.le_trans hsz hb2.size⟩, by simp [intOf]; omega⟩
        rcases HST.out with ⟨h1, h2⟩ | ⟨h1, h2, h3⟩
        · exact .inl ⟨by rw [HTK.out]; simp only [List.mem_append, List.mem_singleton]; exact fun h => h.elim h1 kyFT, h2.below hb2⟩
        · exact .inr ⟨by rw [HTK.out]; exact List.mem_append_left _ h1, h2, h3.below hb2⟩
      · have hc1' : wr.cell? (ad.add k) = some (.string nmT) := by rw [hc1, ← hu1]
        have hD : DkP wr B d mb V s (F0 ++ T) := by
          rcases hst with ⟨h1, h2⟩ | ⟨h1, h2, h3⟩
          · exact h2
          · exact absurd h1 hno
        subst hTt
        have hjt : (F0 ++ [t])[F0.length]? = some t := get_last F0 t
        have HVO := Lib.hid hvol
        have HRD := Lib.hid hrd
        have HTK := Lib.hid htk
        have HD := Lib.hid hD
        clear hst hvol hrd htk hno hmem hnm hu1 hc1 hD
        go_wp2_with fail
        refine (IsTemp_T _).mono ?_
        rintro r w2 ⟨rfl, hb2⟩
        have hRe := Remove_yes (HD.out.below hb2) (p := nmT) hjt htp nmT_ne hs (HBS.out t (by simp)) hu
        rw [erase_mid F0 [] t, List.append_nil] at hRe
        go_wp2_with fail
        refine hRe.mono ?_
        rintro r w3 ⟨rfl, D3, v3⟩
        clear hRe
        go_wp2_with fail
        refine ⟨Lib.hid ⟨k + 1, by rw [Int.natCast_add]; rfl, hlt, .inr ⟨by rw [HTK.out]; simp, by simp, ?_⟩, (HVO.out.below hb2).trans v3 (fun b e => .inl e), reads_vol (reads_bel2 HRD.out hsz hb2) (Nat.le_trans hsz hb2.size) v3 hAV.out, Nat.le_trans hsz (Nat.le_trans hb2.size v3.size)⟩, by simp [intOf]; omega⟩
        rw [HS.out]
        have e : (total ([t].map Fi.sh) : Int) = (t.bs.length : Int) := by simp [total]
        rw [e]
        exact D3
    · have hke : k = l.length := by omega
      have k1 : decide (k < l.length) = false := by simp; omega
      have HST := Lib.hid hst
      have HVO := Lib.hid hvol
      clear hst hvol hrd hsz
      go_wp2_with fail
      go_ret
      refine ⟨rfl, ?_, HVO.out⟩
      rw [hke, List.take_length] at HST
      rcases HST.out with ⟨h1, h2⟩ | ⟨h1, h2, h3⟩
      · rcases HT.out with h0 | ⟨t, h0, h4⟩
        · rw [HS.out, h0]
          rw [h0, List.append_nil] at h2
          have e : s.u - (total (([] : List Fi).map Fi.sh) : Int) = s.u := by simp [total]
          rw [e]
          exact h2
        · exact absurd (HL.out.mem_iff.2 (by rw [h0]; simp [h4])) h1
      · exact h3
end
end Go.Proofs.Ytplmfmcogbdpjaa.Dk

namespace Go.Proofs.Ytplmfmcogbdpjaa.Dk
open Go Go.RowKit Go.Proofs.Ytplmfmcogbdpjaa Go.Proofs.Ytplmfmcogbdpjaa.Crw Go.Proofs.Ytplmfmcogbdpjaa.Vl Go.ChangeShapes Go.WideShapes Go.ChangeAt
set_option linter.unusedVariables false
set_option maxRecDepth 100000
section
variable {w w' : World} {B d mb : Nat} {U V : Nat → Prop} {s s' : Ds} {F : List Fi} {p q : ByteArray}
set_option maxHeartbeats 16000000 in
theorem Write_die0 (H : DkP w B d mb V s F) (hs : s.de = false) {s1 : Ds} (h1 : burnS s s1 7)
    (hq : 0 ≤ s.q ∧ s.q ≤ 65536) (hu : 0 ≤ s.u ∧ s.u ≤ 65536) {c n : Nat} {A : Option Addr} (hn : (n : Int) ≤ s.q - s.u) :
    Calls Try.prog 42 #[.pointer (some ⟨d, 0, none⟩), .string nmF, .slice A n c] w fun r w' => r = .returned (.int .i64 7) ∧ DkP w' B d mb V s1 F ∧ Vol V w w' := by
  have HH := Lib.hid H
  clear H
  go_enter Try.func42, Try.ntmps42
  go_wp2_with fail
  refine (Temp_F w).mono ?_
  rintro r w1 ⟨rfl, b1⟩
  have hAp := Append_dies (HH.out.below b1) (p := nmT) (n := n) (c := c) (A := A) nmT_ne hs h1 hq hu hn
  go_wp2_with fail
  refine hAp.mono ?_
  rintro r w2 ⟨rfl, D2, v2⟩
  clear hAp
  go_wp2_with fail
  go_ret
  exact ⟨rfl, D2, (Vol.of_below b1).trans v2 (fun b e => .inl e)⟩
set_option maxHeartbeats 16000000 in
theorem Write_die1 (H : DkP w B d mb V s F) (hno : ∀ (k : Nat) (x : Fi), F[k]? = some x → hitP nmT x = false) (hs : s.de = false) {s1 s2 : Ds} (h1 : burnS s s1 0) (e1 : s1.u = s.u) (d1 : s1.de = false) {n : Nat} (h2 : burnS { s1 with u := s1.u + n } s2 7)
    (hq : 0 ≤ s.q ∧ s.q ≤ 65536) (hu : 0 ≤ s.u ∧ s.u ≤ 65536) {B' c : Nat} {A : Option Addr} {bs : List Int} (hr : Reads w B' 1 A n (bsV bs)) (hB : B' ≤ w.heap.size) (hA : ∀ ad, A = some ad → ¬ V ad.block) (hn : (n : Int) ≤ s.q - s.u) :
    Calls Try.prog 42 #[.pointer (some ⟨d, 0, none⟩), .string nmF, .slice A n c] w fun r w' => r = .returned (.int .i64 7) ∧ ∃ V' g v, DkP w' B d mb V' s2 (F ++ [⟨nmT, g, v, bs, 0, false⟩]) ∧ Vol V w w' ∧ (∀ b, V' b → V b ∨ w.heap.size ≤ b) := by
  have HH := Lib.hid H
  have HR := Lib.hid hr
  have HN := Lib.hid hno
  clear H hr hno
  go_enter Try.func42, Try.ntmps42
  go_wp2_with fail
  refine (Temp_F w).mono ?_
  rintro r w1 ⟨rfl, b1⟩
  have hAp := Append_newF (HH.out.below b1) (p := nmT) (c := c) HN.out nmT_ne hs h1 e1 hq hu (reads_vol (U := fun _ => False) HR.out hB (Vol.of_below b1) (fun _ _ h => h)) (Nat.le_trans hB b1.size) hA hn
  go_wp2_with fail
  refine hAp.mono ?_
  rintro r w2 ⟨rfl, V2, g, v, D2, v2, x2⟩
  clear hAp
  have hSy := Sync_dies D2 (j := F.length) (p := nmT) (get_last _ _) rfl nmT_ne (by show s1.de = false; exact d1) h2
  clear D2
  go_wp2_with fail
  refine hSy.mono ?_
  rintro r w3 ⟨rfl, D3, v3⟩
  clear hSy
  go_wp2_with fail
  go_ret
  have hv2 : Vol V w w2 := (Vol.of_below b1).trans v2 (fun b e => .inl e)
  have k2 : ∀ b, V2 b → V b ∨ w.heap.size ≤ b := fun b e => (x2 b e).imp id (fun e => Nat.le_trans b1.size e)
  exact ⟨rfl, V2, g, v, D3, hv2.trans v3 k2, k2⟩
set_option maxHeartbeats 16000000 in
theorem Write_die2 (H : DkP w B d mb V s F) (hno : ∀ (k : Nat) (x : Fi), F[k]? = some x → hitP nmT x = false) (hs : s.de = false) {s1 s2 s3 : Ds} (h1 : burnS s s1 0) (e1 : s1.u = s.u) (d1 : s1.de = false) {n : Nat} (h2 : burnS { s1 with u := s1.u + n } s2 0) (d2 : s2.de = false) (h3 : burnS s2 s3 7)
    (hq : 0 ≤ s.q ∧ s.q ≤ 65536) (hu : 0 ≤ s.u ∧ s.u ≤ 65536) {B' c : Nat} {A : Option Addr} {bs : List Int} (hr : Reads w B' 1 A n (bsV bs)) (hB : B' ≤ w.heap.size) (hA : ∀ ad, A = some ad → ¬ V ad.block) (hn : (n : Int) ≤ s.q - s.u) :
    Calls Try.prog 42 #[.pointer (some ⟨d, 0, none⟩), .string nmF, .slice A n c] w fun r w' => r = .returned (.int .i64 7) ∧ ∃ V' g v, DkP w' B d mb V' s3 (F ++ [⟨nmT, g, v, bs, bs.length, true⟩]) ∧ Vol V w w' ∧ (∀ b, V' b → V b ∨ w.heap.size ≤ b) := by
  have HH := Lib.hid H
  have HR := Lib.hid hr
  have HN := Lib.hid hno
  clear H hr hno
  go_enter Try.func42, Try.ntmps42
  go_wp2_with fail
  refine (Temp_F w).mono ?_
  rintro r w1 ⟨rfl, b1⟩
  have hAp := Append_newF (HH.out.below b1) (p := nmT) (c := c) HN.out nmT_ne hs h1 e1 hq hu (reads_vol (U := fun _ => False) HR.out hB (Vol.of_below b1) (fun _ _ h => h)) (Nat.le_trans hB b1.size) hA hn
  go_wp2_with fail
  refine hAp.mono ?_
  rintro r w2 ⟨rfl, V2, g, v, D2, v2, x2⟩
  clear hAp
  have hSy := Sync_yesF D2 (j := F.length) (p := nmT) (get_last _ _) rfl nmT_ne (by show s1.de = false; exact d1) h2
  clear D2
  go_wp2_with fail
  refine hSy.mono ?_
  rintro r w3 ⟨rfl, D3, v3⟩
  clear hSy
  have hRn := Rename_dies D3 (j := F.length) (p := nmT) (q := nmF) (by rw [set_last]; exact get_last _ _) rfl nmT_ne nmF_ne d2 h3
  clear D3
  go_wp2_with fail
  refine hRn.mono ?_
  rintro r w4 ⟨rfl, D4, v4⟩
  clear hRn
  go_wp2_with fail
  go_ret
  have hv2 : Vol V w w2 := (Vol.of_below b1).trans v2 (fun b e => .inl e)
  have k2 : ∀ b, V2 b → V b ∨ w.heap.size ≤ b := fun b e => (x2 b e).imp id (fun e => Nat.le_trans b1.size e)
  rw [set_last] at D4
  exact ⟨rfl, V2, g, v, D4, (hv2.trans v3 k2).trans v4 k2, k2⟩
end
end Go.Proofs.Ytplmfmcogbdpjaa.Dk

namespace Go.Proofs.Ytplmfmcogbdpjaa.Dk
open Go Go.RowKit Go.Proofs.Ytplmfmcogbdpjaa Go.Proofs.Ytplmfmcogbdpjaa.Crw Go.Proofs.Ytplmfmcogbdpjaa.Vl Go.ChangeShapes Go.WideShapes Go.ChangeAt
set_option linter.unusedVariables false
set_option maxRecDepth 100000
section
variable {w w' : World} {B d mb : Nat} {U V : Nat → Prop} {s s' : Ds} {F : List Fi} {p q : ByteArray}
/-- The disk behind a Write: F1, the files that are firm; T, what is left of one that is not whole. -/
structure Wr (w w' : World) (B d mb : Nat) (V V' : Nat → Prop) (Y1 : List Sh) (F1 T : List Fi) (s1 : Ds) : Prop where
  dk : DkP w' B d mb V' s1 (F1 ++ T)
  y1 : F1.map Fi.sh = Y1
  t : T = [] ∨ ∃ t, T = [t] ∧ t.p = nmT ∧ 0 ≤ t.sy ∧ t.sy ≤ t.bs.length ∧ t.bs.length ≤ 40
  q : s1.q = 300
  u : s1.u = total ((F1 ++ T).map Fi.sh)
  vol : Vol V w w'
  new : ∀ b, V' b → V b ∨ w.heap.size ≤ b
theorem no_of {p : ByteArray} {F : List Fi} (h : ∀ x ∈ F, hitP p x = false) : ∀ (k : Nat) (x : Fi), F[k]? = some x → hitP p x = false := fun k x hk => h x (List.mem_of_getElem? hk)
theorem WriteF (a : List Int) (ha : a.length ≤ 40) (F0 : List Fi) (hF0 : F0 = [] ∨ ∃ x, F0 = [x] ∧ x.sh = ⟨nmF, a, a.length, true⟩) (f : Nat) (hf : f ≤ 4) (H : DkP w B d mb V ⟨300, total (F0.map Fi.sh), true, f, false⟩ F0)
    {B' n c : Nat} {A : Option Addr} {bs : List Int} (hr : Reads w B' 1 A n (bsV bs)) (hB : B' ≤ w.heap.size) (hA : ∀ ad, A = some ad → ¬ V ad.block) (hn : n ≤ 40) :
    Calls Try.prog 42 #[.pointer (some ⟨d, 0, none⟩), .string nmF, .slice A n c] w fun r w' => r = .returned (.int .i64 (if 3 ≤ f then 0 else 7)) ∧ ∃ V' F1 T s1, Wr w w' B d mb V V' (if 3 ≤ f then [⟨nmF, bs, bs.length, true⟩] else F0.map Fi.sh) F1 T s1 := by
  have hbl : bs.length = n := by have := hr.1; simpa [bsV] using this
  have hx0 : ∀ x ∈ F0, x.p = nmF ∧ x.bs.length = a.length := by
    rcases hF0 with h | ⟨x, h, hx⟩
    · intro x hx; rw [h] at hx; cases hx
    · intro z hz
      rw [h] at hz
      have : z = x := by simpa using hz
      rw [this]
      exact ⟨congrArg Sh.p hx, by rw [show x.bs = a from congrArg Sh.bs hx]⟩
  have hno : ∀ (k : Nat) (x : Fi), F0[k]? = some x → hitP nmT x = false := no_of (fun x hx => by
    unfold hitP
    rw [(hx0 x hx).1]
    decide)
  have ht : total (F0.map Fi.sh) ≤ 40 := by
    rcases hF0 with h | ⟨x, h, hx⟩
    · rw [h]; simp [total]
    · rw [h]
      have := (hx0 x (by rw [h]; simp)).2
      simp [total]
      omega
  obtain ⟨t, htd⟩ : ∃ t, t = total (F0.map Fi.sh) := ⟨_, rfl⟩
  rw [← htd] at H ht
  have c1 : (0 : Int) ≤ 300 ∧ (300 : Int) ≤ 65536 := by decide
  have c2 : 0 ≤ (t : Int) ∧ (t : Int) ≤ 65536 := by omega
  have c3 : (n : Int) ≤ 300 - (t : Int) := by omega
  by_cases h3 : 3 ≤ f
  · rw [if_pos h3, if_pos h3]
    obtain ⟨m, hm⟩ : ∃ m, f = m + 3 := ⟨f - 3, by omega⟩
    have e0 : (f : Int) = ((m + 2 : Nat) : Int) + 1 := by omega
    have W := Write_ok H hno rfl (s1 := ⟨300, t, true, (m + 2 : Nat), false⟩) (s2 := ⟨300, (t : Int) + n, true, (m + 1 : Nat), false⟩) (s3 := ⟨300, (t : Int) + n, true, (m : Nat), false⟩) (n := n) (t := t) (c := c)
      (.inr (.inl ⟨rfl, m + 2, e0, by omega, rfl, rfl⟩)) rfl rfl (.inr (.inl ⟨rfl, m + 1, by show ((m + 2 : Nat) : Int) = ((m + 1 : Nat) : Int) + 1; omega, by omega, rfl, rfl⟩)) rfl (.inr (.inl ⟨rfl, m, by show ((m + 1 : Nat) : Int) = (m : Int) + 1; omega, by omega, rfl, rfl⟩)) c1 c2 hr hB hA c3 (by
        intro wa V' g v hwa
        rcases hF0 with h | ⟨x, h, hx⟩
        · subst h
          refine (remove_no hwa (p := nmF) (no_of (by intro x hx; have : x = ⟨nmT, g, v, bs, bs.length, true⟩ := by simpa using hx
                                                      rw [this]; rfl))).mono ?_
          rintro r w' ⟨hu, hb⟩
          have e : (t : Int) = 0 := by rw [htd]; simp [total]
          refine ⟨hu, ⟨?_, Vol.of_below hb, no_of (by intro x hx; have : x = ⟨nmT, g, v, bs, bs.length, true⟩ := by simpa using hx
                                                      rw [this]; rfl)⟩⟩
          have h := hwa.below hb
          rw [show (t : Int) + n = (t : Int) + n - t by omega] at h
          exact h
        · subst h
          have hxl := (hx0 x (by simp)).2
          have hxt : t = x.bs.length := by rw [htd]; simp [total]
          refine (remove_yes hwa (j := 0) (x := x) (p := nmF) rfl (hx0 x (by simp)).1 (by omega) ⟨by show (0 : Int) ≤ (t : Int) + n; omega, by show (t : Int) + n ≤ 65536; omega⟩).mono ?_
          rintro r w' ⟨hu, hd, hv⟩
          refine ⟨hu, ⟨?_, hv, no_of (by intro x hx; have : x = ⟨nmT, g, v, bs, bs.length, true⟩ := by simpa using hx
                                         rw [this]; rfl)⟩⟩
          rw [← hxt] at hd
          exact hd)
    refine W.mono ?_
    rintro r w' ⟨rfl, V', g, v, D, hv, hV⟩
    refine ⟨rfl, V', [⟨nmF, g, v, bs, bs.length, true⟩], [], _, D, rfl, .inl rfl, rfl, ?_, hv, hV⟩
    show (t : Int) + n - t = _
    simp [total]
    omega
  · rw [if_neg h3, if_neg h3]
    have hcase : f = 0 ∨ f = 1 ∨ f = 2 := by omega
    rcases hcase with rfl | rfl | rfl
    · refine (Write_die0 H rfl (s1 := ⟨300, t, true, (0 : Nat), true⟩) (.inr (.inr ⟨rfl, rfl, rfl, rfl⟩)) c1 c2 (n := n) (c := c) (A := A) c3).mono ?_
      rintro r w' ⟨rfl, D, hv⟩
      refine ⟨rfl, V, F0, [], _, by rw [List.append_nil]; exact D, rfl, .inl rfl, rfl, ?_, hv, fun b e => .inl e⟩
      rw [List.append_nil, ← htd]
    · refine (Write_die1 H hno rfl (s1 := ⟨300, t, true, (0 : Nat), false⟩) (s2 := ⟨300, (t : Int) + n, true, (0 : Nat), true⟩) (.inr (.inl ⟨rfl, 0, rfl, by omega, rfl, rfl⟩)) rfl rfl (n := n) (.inr (.inr ⟨rfl, rfl, rfl, rfl⟩)) c1 c2 hr hB hA c3).mono ?_
      rintro r w' ⟨rfl, V', g, v, D, hv, hV⟩
      refine ⟨rfl, V', F0, [⟨nmT, g, v, bs, 0, false⟩], _, D, rfl, .inr ⟨_, rfl, rfl, by show (0 : Int) ≤ 0; omega, by show (0 : Int) ≤ (bs.length : Int); omega, by show bs.length ≤ 40; omega⟩, rfl, ?_, hv, hV⟩
      rw [List.map_append, total_app, ← htd]
      show (t : Int) + n = ((t + (bs.length + 0) : Nat) : Int)
      omega
    · refine (Write_die2 H hno rfl (s1 := ⟨300, t, true, (1 : Nat), false⟩) (s2 := ⟨300, (t : Int) + n, true, (0 : Nat), false⟩) (s3 := ⟨300, (t : Int) + n, true, (0 : Nat), true⟩) (.inr (.inl ⟨rfl, 1, rfl, by omega, rfl, rfl⟩)) rfl rfl (n := n) (.inr (.inl ⟨rfl, 0, rfl, by omega, rfl, rfl⟩)) rfl (.inr (.inr ⟨rfl, rfl, rfl, rfl⟩)) c1 c2 hr hB hA c3).mono ?_
      rintro r w' ⟨rfl, V', g, v, D, hv, hV⟩
      refine ⟨rfl, V', F0, [⟨nmT, g, v, bs, bs.length, true⟩], _, D, rfl, .inr ⟨_, rfl, rfl, by show (0 : Int) ≤ (bs.length : Int); omega, by show (bs.length : Int) ≤ (bs.length : Int); omega, by show bs.length ≤ 40; omega⟩, rfl, ?_, hv, hV⟩
      rw [List.map_append, total_app, ← htd]
      show (t : Int) + n = ((t + (bs.length + 0) : Nat) : Int)
      omega
theorem crash_split (K : Nat) {F1 T F' : List Fi} {Y1 : List Sh} (hY : Y1 = [] ∨ ∃ z, Y1 = [⟨nmF, z, z.length, true⟩]) (hy : F1.map Fi.sh = Y1) (hT : T = [] ∨ ∃ t, T = [t] ∧ t.p = nmT ∧ 0 ≤ t.sy ∧ t.sy ≤ t.bs.length ∧ t.bs.length ≤ 40) (h : F'.map Fi.sh = ((F1 ++ T).map Fi.sh).filterMap (Sh.cr K)) :
    ∃ G1 G2, F' = G1 ++ G2 ∧ G1.map Fi.sh = Y1 ∧ (G2 = [] ∨ ∃ t, G2 = [t] ∧ t.p = nmT) ∧ (∀ t ∈ G2, t.bs.length ≤ 65536) := by
  have e1 : Y1.filterMap (Sh.cr K) = Y1 := by
    rcases hY with rfl | ⟨z, rfl⟩
    · rfl
    · have e : Sh.n K ⟨nmF, z, z.length, true⟩ = z.length := by
        show (z.length : Int).toNat + min K (z.length - (z.length : Int).toNat) = z.length
        omega
      have : Sh.cr K ⟨nmF, z, z.length, true⟩ = some ⟨nmF, z, z.length, true⟩ := by
        unfold Sh.cr
        rw [e, if_neg (fun h => Bool.noConfusion (show true = false from h.2))]
        show some (⟨nmF, z.take z.length, z.length, true⟩ : Sh) = _
        rw [List.take_length]
      rw [List.filterMap_cons, this]
      rfl
  rw [List.map_append, List.filterMap_append, hy, e1] at h
  obtain ⟨G1, G2, e2, h1, h2⟩ := List.map_eq_append_iff.1 h
  refine ⟨G1, G2, e2, h1, ?_⟩
  rcases hT with rfl | ⟨t, rfl, tp, t0, t1, t2⟩
  · have := List.map_eq_nil_iff.1 (h2.trans (by rfl))
    subst this
    exact ⟨.inl rfl, fun t ht => by cases ht⟩
  · cases hc : Sh.cr K t.sh with
    | none =>
      have h3 : G2.map Fi.sh = [] := by rw [h2, List.map_cons, List.map_nil, List.filterMap_cons, hc]; rfl
      have := List.map_eq_nil_iff.1 h3
      subst this
      exact ⟨.inl rfl, fun t ht => by cases ht⟩
    | some y =>
      have h3 : G2.map Fi.sh = [y] := by rw [h2, List.map_cons, List.map_nil, List.filterMap_cons, hc]; rfl
      obtain ⟨x, G3, rfl, h4, h5⟩ := List.map_eq_cons_iff.1 h3
      have := List.map_eq_nil_iff.1 h5
      subst this
      have hy2 : y.p = nmT ∧ y.bs.length ≤ 40 := by
        unfold Sh.cr at hc
        split at hc
        · cases hc
        · injection hc with hc
          subst hc
          refine ⟨tp, ?_⟩
          show (t.bs.take _).length ≤ 40
          rw [List.length_take]
          omega
      have hxp : x.p = nmT := (congrArg Sh.p h4).trans hy2.1
      have hxb : x.bs.length ≤ 40 := by rw [show x.bs = y.bs from congrArg Sh.bs h4]; exact hy2.2
      exact ⟨.inr ⟨x, rfl, hxp⟩, fun t ht => by
        have : t = x := by simpa using ht
        rw [this]
        omega⟩
theorem Wr.ok {w w' : World} {V V' : Nat → Prop} {Y1 : List Sh} {F1 T : List Fi} {s1 : Ds} (h : Wr w w' B d mb V V' Y1 F1 T s1) (hY : Y1 = [] ∨ ∃ z : List Int, Y1 = [⟨nmF, z, z.length, true⟩] ∧ z.length ≤ 40) : (F1 ++ T).length ≤ 2 ∧ (∀ y ∈ (F1 ++ T).map Fi.sh, 0 ≤ y.sy ∧ y.sy ≤ y.bs.length ∧ y.bs.length ≤ 65536) ∧ total ((F1 ++ T).map Fi.sh) ≤ 80 := by
  have h1 : F1.length ≤ 1 ∧ (∀ y ∈ F1.map Fi.sh, 0 ≤ y.sy ∧ y.sy ≤ y.bs.length ∧ y.bs.length ≤ 65536) ∧ total (F1.map Fi.sh) ≤ 40 := by
    have hl : F1.length = Y1.length := by rw [← h.y1, List.length_map]
    rw [hl, h.y1]
    rcases hY with rfl | ⟨z, rfl, hz⟩
    · exact ⟨by simp, fun y hy => (by cases hy), by simp [total]⟩
    · refine ⟨by simp, fun y hy => ?_, by simp [total]; omega⟩
      have : y = ⟨nmF, z, z.length, true⟩ := by simpa using hy
      rw [this]
      exact ⟨by show (0 : Int) ≤ (z.length : Int); omega, by show (z.length : Int) ≤ (z.length : Int); omega, by show z.length ≤ 65536; omega⟩
  have h2 : T.length ≤ 1 ∧ (∀ y ∈ T.map Fi.sh, 0 ≤ y.sy ∧ y.sy ≤ y.bs.length ∧ y.bs.length ≤ 65536) ∧ total (T.map Fi.sh) ≤ 40 := by
    rcases h.t with rfl | ⟨t, rfl, -, t0, t1, t2⟩
    · exact ⟨by simp, fun y hy => (by cases hy), by simp [total]⟩
    · refine ⟨by simp, fun y hy => ?_, by simp [total]; omega⟩
      have : y = t.sh := by simpa using hy
      rw [this]
      exact ⟨t0, t1, by show t.bs.length ≤ 65536; omega⟩
  refine ⟨by rw [List.length_append]; omega, fun y hy => ?_, by rw [List.map_append, total_app]; omega⟩
  rw [List.map_append] at hy
  exact (List.mem_append.1 hy).elim (h1.2.1 y) (h2.2.1 y)
end
end Go.Proofs.Ytplmfmcogbdpjaa.Dk
