/- A region that draws its order comes, in any order, to what it comes to in the text's. -/
import Derived.Test.YtfbedlhigggggaaInv
namespace Go.Proofs.Ytfbedlhigggggaa
open Go Go.RowKit
variable [Toks]

section
variable {P : Program} {call : XCall} {ops : Array Oper} {S : Nat → St} {M0 : Nat} {ρ0 ρ ρ' : Ren} {w0 w w' : World} {TS : Tr Value} {p p' : Nat} {listed : Array Bool} {a : Act}
omit [Toks] in
theorem aload_same {V H : AHeap} {t : TypeId} {ad : Addr} (h : V.get ad.block = H.get ad.block) : aload P V t ad = aload P H t ad := by
  have hc : V.cel ad.block = H.cel ad.block := by unfold AHeap.cel; rw [h]
  unfold aload
  rw [hc]
omit [Toks] in
theorem mapOf_same {V H : AHeap} {t : TypeId} {r : Nat} (h : V.get r = H.get r) : mapOf P V t r = mapOf P H t r := by
  unfold mapOf
  rw [h]
omit [Toks] in
theorem aconvert_same {V H : AHeap} {s d : TypeId} {ad : Addr} {m c : Nat} (h : V.get ad.block = H.get ad.block) : (aconvert P s d (.slice (some ad) m c) V).map (·.1) = (aconvert P s d (.slice (some ad) m c) H).map (·.1) := by
  unfold aconvert
  split
  · split
    · split
      · rfl
      · rename_i e0 e1 n' c' hu1 hx e2 hue hn
        injection hx with hx1 hx2 hx3
        injection hx1 with hx1
        subst hx1
        have hc : V.cel ad.block = H.cel ad.block := by unfold AHeap.cel; rw [h]
        rw [hc]
        cases H.cel ad.block with
        | none => rfl
        | some o =>
          simp only
          cases takeN o.cells ad.off e1 with
          | none => rfl
          | some cs => simp only [Option.bind_some]; cases bytesOf cs <;> rfl
    · rfl
  · rename_i e; cases e
  · rfl
omit [Toks] in
theorem readOk_move {o : Oper} {T : Tr Value} {v : Value} {n : Nat} {V : AHeap} (h1 : ∃ H, readOk P o T v n H = true) (h2 : ∀ id, id < n → ∃ H, readOk P o T v n H = true ∧ id < H.n ∧ V.get id = H.get id) : readOk P o T v n V = true := by
  obtain ⟨H0, h1⟩ := h1
  obtain ⟨dst, op, type, pos, after, guard⟩ := o
  cases op <;> try rfl
  case lookup t x k ok =>
    simp only [readOk] at h1 h2 ⊢
    split
    · rename_i r u hx hk
      rw [hx, hk] at h1
      simp only [Bool.and_eq_true, decide_eq_true_eq] at h1
      obtain ⟨H, g1, g2, g3⟩ := h2 r h1.1
      rw [hx, hk] at g1
      simp only [g2, decide_true, Bool.not_true, Bool.false_or, Bool.and_eq_true, decide_eq_true_eq] at g1
      have e : alookup P V t r u ok = alookup P H t r u ok := by unfold alookup; rw [mapOf_same g3]
      simp only [e, Bool.and_eq_true, decide_eq_true_eq, Bool.or_eq_true]
      exact ⟨h1.1, .inr g1.2⟩
    · rfl
  case call c =>
    obtain ⟨callee, args, argTypes⟩ := c
    cases callee with
    | value f => rfl
    | invoke r m => rfl
    | builtin b =>
      cases b <;> try rfl
      simp only [readOk] at h1 h2 ⊢
      split
      · rename_i r hx
        rw [hx] at h1
        simp only [Bool.and_eq_true, decide_eq_true_eq] at h1
        obtain ⟨H, g1, g2, g3⟩ := h2 r h1.1
        rw [hx] at g1
        simp only [g2, decide_true, Bool.not_true, Bool.false_or, Bool.and_eq_true, decide_eq_true_eq] at g1
        have e : (xlen P argTypes (.map (some r)) V).map (·.1) = (xlen P argTypes (.map (some r)) H).map (·.1) := by
          unfold xlen
          cases argTypes[0]? with
          | none => rfl
          | some t =>
            simp only [mapOf_same g3]
            cases mapOf P H t r <;> rfl
        simp only [Bool.and_eq_true, decide_eq_true_eq, Bool.or_eq_true]
        refine ⟨h1.1, .inr ?_⟩
        have g4 := g1.2
        cases hh : xlen P argTypes (.map (some r)) H with
        | none => rw [hh] at g4; cases g4
        | some q =>
          rw [hh] at g4 e
          cases hv : xlen P argTypes (.map (some r)) V with
          | none => rw [hv] at e; cases e
          | some q' =>
            rw [hv] at e
            simp only [Option.map_some, Option.some.injEq] at e
            simp only [e]
            exact g4
      · rfl
  case load t x =>
    simp only [readOk] at h1 h2 ⊢
    split
    · rename_i ad hx
      rw [hx] at h1
      simp only [Bool.and_eq_true, decide_eq_true_eq] at h1
      obtain ⟨H, g1, g2, g3⟩ := h2 ad.block h1.1
      rw [hx] at g1
      simp only [g2, decide_true, Bool.not_true, Bool.false_or, Bool.and_eq_true, decide_eq_true_eq] at g1
      simp only [aload_same (P := P) (t := t) g3, Bool.and_eq_true, decide_eq_true_eq, Bool.or_eq_true]
      exact ⟨h1.1, .inr g1.2⟩
    · rfl
  case convert s d x =>
    simp only [readOk] at h1 h2 ⊢
    split
    · rename_i ad m c hx
      rw [hx] at h1
      simp only [Bool.and_eq_true, decide_eq_true_eq] at h1
      obtain ⟨H, g1, g2, g3⟩ := h2 ad.block h1.1
      rw [hx] at g1
      simp only [g2, decide_true, Bool.not_true, Bool.false_or, Bool.and_eq_true, decide_eq_true_eq] at g1
      have e := aconvert_same (P := P) (s := s) (d := d) (m := m) (c := c) g3
      simp only [Bool.and_eq_true, decide_eq_true_eq, Bool.or_eq_true]
      refine ⟨h1.1, .inr ?_⟩
      have g4 := g1.2
      split at g4
      · rename_i r hr
        rw [hr] at e
        cases hq : aconvert P s d (.slice (some ad) m c) V with
        | none => rw [hq] at e; cases e
        | some q =>
          rw [hq] at e
          simp only [Option.map_some, Option.some.injEq] at e
          simp only [e]
          exact g4
      · cases g4
    · rfl
  case binOp op t x y yt =>
    simp only [readOk] at h1 h2 ⊢
    split
    · rename_i a1 a2 hx hy
      rw [hx, hy] at h1
      simp only [Bool.and_eq_true, decide_eq_true_eq] at h1
      obtain ⟨⟨⟨c1, c2⟩, _⟩, _⟩ := h1
      obtain ⟨H, g1, g2, g3⟩ := h2 a1.block c1
      obtain ⟨K, k1, k2, k3⟩ := h2 a2.block c2
      rw [hx, hy] at g1 k1
      simp only [Bool.and_eq_true, decide_eq_true_eq] at g1 k1 ⊢
      obtain ⟨o1, q1, q2⟩ := aliveAt_get g1.1.2 g2
      obtain ⟨o2, r1, r2⟩ := aliveAt_get k1.2 k2
      refine ⟨⟨⟨c1, c2⟩, ?_⟩, ?_⟩
      · unfold aliveAt
        rw [g3, q1]
        simp [q2]
      · unfold aliveAt
        rw [k3, r1]
        simp [r2]
    · rfl

theorem Inv.is_next (lk : Looks ops) (inv : Inv ops S ρ0 w0 ρ TS p listed a w) {i : Nat} {o : Oper} (ho : ops[i]? = some o) (hi : ¬ On listed i) (hedge : ∀ e ∈ o.after, Region.binds .any e = true → On listed e.on) (hmo : mover ops i o = true) : i = p := by
  have hil := idx_lt ho
  have hge : p ≤ i := by
    rcases Nat.lt_or_ge i p with e | e
    · exact absurd ((inv.mv i ⟨o, ho, hmo⟩).2 e) hi
    · exact e
  refine Classical.byContradiction fun hne => ?_
  have hpm : IsMover ops p := inv.hp.2.resolve_left (by omega)
  have key : ∀ k q, p ≤ q → q < i → IsMover ops q → i - q ≤ k → False := by
    intro k
    induction k with
    | zero => intro q h1 h2 h3 h4; omega
    | succ k ih =>
      intro q h1 h2 h3 h4
      obtain ⟨oq, hoq, hmq⟩ := h3
      rcases lk.chain q i oq o hoq ho hmq hmo h2 with e | ⟨k', g1, g2, g3⟩
      · obtain ⟨e, he1, he2, he3⟩ := edgeTo_spec e
        have hon := hedge e he1 he2
        rw [he3] at hon
        have := (inv.mv q ⟨oq, hoq, hmq⟩).1 hon
        omega
      · exact ih k' (by omega) g2 g3 (by omega)
  exact key (i - p) p (Nat.le_refl _) (by omega) hpm (by omega)
omit [Toks] in
theorem Text.val (t : Text P call ops S) {i : Nat} {o : Oper} (ho : ops[i]? = some o) : ∃ v, ((wantedX ops o (S i).tmps = true ∧ xop P call o (S i).tmps (S i).heap = some (v, (S (i + 1)).heap)) ∨ (wantedX ops o (S i).tmps = false ∧ v = undef ∧ (S (i + 1)).heap = (S i).heap)) ∧
    ∀ d, o.dst = some d → (S (i + 1)).tmps.get d = some v ∧ d < (S 0).nt := by
  have h := t.step i o ho
  have hnt := t.nt i (by have := idx_lt ho; omega)
  have lt_ : ∀ {v : Value} {h' : AHeap} {d : Tmp}, putX (S i) o.dst v h' = some (S (i + 1)) → o.dst = some d → (S (i + 1)).tmps.get d = some v ∧ d < (S 0).nt := by
    intro v h' d hp hd
    refine ⟨by rw [putX_get hp, if_pos hd], ?_⟩
    rw [hd] at hp
    simp only [putX] at hp
    split at hp
    · rename_i hlt
      rw [hnt] at hlt
      exact hlt
    · cases hp
  unfold xstep at h
  split at h
  · rename_i hw
    simp only [Option.bind_eq_some_iff] at h
    obtain ⟨⟨v, h'⟩, hv, hp⟩ := h
    refine ⟨v, .inl ⟨hw, ?_⟩, fun d hd => lt_ hp hd⟩
    rw [(putX_n hp).1]
    exact hv
  · rename_i hw
    exact ⟨undef, .inr ⟨by simpa using hw, rfl, (putX_n h).1⟩, fun d hd => lt_ h hd⟩
/-- The next mover. -/
theorem Inv.stepMover (t : Text P call ops S) (hm : CallMono call) (lk : Looks ops) (s0 : Sim M0 ρ0 (S 0).heap w0) (hM0 : (S ops.size).heap.n ≤ M0) (inv : Inv ops S ρ0 w0 ρ TS p listed a w)
    {o : Oper} (ho : ops[p]? = some o) (hi : ¬ On listed p) (hedge : ∀ e ∈ o.after, Region.binds .any e = true → On listed e.on) (hmo : IsMover ops p) {v v' : Value}
    (E : Ext ρ ρ' (S p).heap (S (p + 1)).heap w w') (Sm : Sim (S (p + 1)).heap.n ρ' (S (p + 1)).heap w') (hv : VR ρ' v v') (hval : ∀ d, o.dst = some d → (S (p + 1)).tmps.get d = some v ∧ d < (S 0).nt) :
    ∃ TS' p', Inv ops S ρ0 w0 ρ' TS' p' (listed.setIfInBounds p true) (a.put o.dst v') w' := by
  have hil := idx_lt ho
  obtain ⟨p', q1, q2, q3, q4⟩ := next_stage (ops := ops) (ops.size - (p + 1)) (p + 1) (by omega)
  have hls : p < listed.size := by rw [inv.hsz]; exact hil
  have none_ : ∀ id, (∀ l, ρ0 id = some l → False) → (∀ j, j < ops.size → On listed j → (S j).heap.n ≤ id → id < (S (j + 1)).heap.n → False) → ρ id = none := by
    intro id h1 h2
    cases h3 : ρ id with
    | none => rfl
    | some l =>
      rcases inv.dom id l h3 with g | ⟨j, g1, g2, g3, g4⟩
      · exact (h1 l g).elim
      · exact (h2 j g1 g2 g3 g4).elim
  suffices h : ∃ TS', Inv ops S ρ0 w0 ρ' TS' p' (listed.setIfInBounds p true) (a.put o.dst v') w' by
    obtain ⟨TS', h⟩ := h
    exact ⟨TS', p', h⟩
  refine inv.next t hm lk s0 hM0 ho hi hedge (X := (S p).heap) (X' := (S (p + 1)).heap) (v := v) (v' := v') (p' := p') rfl rfl ?_ E Sm hv hval ⟨q2, q3⟩ ?_ ?_ (fun id o' _ h1 h2 => (E.ro id o' h1 h2).1) ?_ ?_ (fun id o' h1 h2 => E.alive id o' (Nat.lt_of_lt_of_le h1 (t.le hm (by omega) (by omega))) h2)
  · intro id o'
    constructor
    · intro h1
      have hid := AHeap.get_lt h1
      obtain ⟨x, hx, hb⟩ := born_exists t hm id p (by omega) hid
      exact ⟨hid, x, hb, by rw [Nat.max_eq_left hx]; exact h1⟩
    · rintro ⟨hid, x, hb, hg⟩
      have hx : x ≤ p := by
        rcases Nat.lt_or_ge p x with e | e
        · have := hb.2.2 p e; omega
        · exact e
      rwa [Nat.max_eq_left hx] at hg
  · intro j hj
    rw [on_set hls]
    constructor
    · rintro (rfl | h)
      · omega
      · have := (inv.mv j hj).1 h; omega
    · intro h
      by_cases e : j = p
      · exact .inl e
      · right
        refine (inv.mv j hj).2 ?_
        rcases Nat.lt_or_ge j (p + 1) with g | g
        · omega
        · exact absurd hj (q4 j g h)
  · rintro id o' ⟨x, hb, hg⟩
    constructor
    · intro hid
      have hx : x ≤ p + 1 := by
        rcases Nat.lt_or_ge (p + 1) x with e | e
        · have := hb.2.2 (p + 1) e; omega
        · exact e
      rw [Nat.max_eq_left (by omega), t.stay' hm (i := p + 1) q1 q2 (fun m h1 h2 => q4 m h1 h2) id hid] at hg
      exact hg
    · intro hid
      have hx : p + 1 < x := by
        rcases Nat.lt_or_ge (p + 1) x with e | e
        · exact e
        · have := t.le hm (i := x) (j := p + 1) e (by omega)
          have := hb.2.1
          omega
      refine ⟨x, hb, ?_⟩
      rw [Nat.max_eq_right (by omega)]
      rcases Nat.le_total p' x with e | e
      · rwa [Nat.max_eq_right e] at hg
      · rw [Nat.max_eq_left e, t.stay' hm e q2 (fun m h1 h2 => q4 m (by omega) h2) id hb.2.1] at hg
        exact hg
  · intro j hj hoff id h1 h2
    have hjp : (S (j + 1)).heap.n ≤ (S p).heap.n := t.le hm (by omega) (by omega)
    refine E.out id (by omega) (none_ id (fun l hl => ?_) fun k k1 k2 k3 k4 => ?_)
    · rcases (s0.dom id l hl).1 with e | e
      · have := t.le hm (i := 0) (j := j) (by omega) (by omega); omega
      · have := t.le hm (i := p) (j := ops.size) (by omega) (by omega); omega
    · rcases Nat.lt_trichotomy k j with e | e | e
      · have := t.le hm (i := k + 1) (j := j) (by omega) (by omega); omega
      · subst e; exact hoff k2
      · have := t.le hm (i := j + 1) (j := k) (by omega) (by omega); omega
  · intro id h1 h2
    have h0p : (S 0).heap.n ≤ (S p).heap.n := t.le hm (by omega) (by omega)
    refine E.out id (by omega) (none_ id (fun l hl => by rw [h2] at hl; cases hl) fun k k1 k2 k3 k4 => ?_)
    have := t.le hm (i := 0) (j := k) (by omega) (by omega)
    omega
/-- An operation that turns nothing that is there: a memory of its own to look at. -/
theorem Inv.stepFloater (t : Text P call ops S) (hm : CallMono call) (lk : Looks ops) (s0 : Sim M0 ρ0 (S 0).heap w0) (hM0 : (S ops.size).heap.n ≤ M0) (inv : Inv ops S ρ0 w0 ρ TS p listed a w)
    {i : Nat} {o : Oper} (ho : ops[i]? = some o) (hi : ¬ On listed i) (hedge : ∀ e ∈ o.after, Region.binds .any e = true → On listed e.on) (hmo : mover ops i o = false) {v : Value}
    (hx : (wantedX ops o (S i).tmps = true ∧ xop P call o (S i).tmps (S i).heap = some (v, (S (i + 1)).heap)) ∨ (wantedX ops o (S i).tmps = false ∧ v = undef ∧ (S (i + 1)).heap = (S i).heap)) (hval : ∀ d, o.dst = some d → (S (i + 1)).tmps.get d = some v ∧ d < (S 0).nt) :
    ∃ V V', Sim (S (i + 1)).heap.n ρ V w ∧ V'.n = (S (i + 1)).heap.n ∧ ((wantedX ops o (S i).tmps = true ∧ xop P call o (S i).tmps V = some (v, V')) ∨ (wantedX ops o (S i).tmps = false ∧ v = undef ∧ V' = V)) ∧
      ∀ (ρ' : Ren) (v' : Value) (w' : World), Ext ρ ρ' V V' w w' → Sim (S (i + 1)).heap.n ρ' V' w' → VR ρ' v v' → ∃ TS', Inv ops S ρ0 w0 ρ' TS' p (listed.setIfInBounds i true) (a.put o.dst v') w' := by
  have hil := idx_lt ho
  have hnm : ¬ IsMover ops i := by rintro ⟨o', ho', hmo'⟩; rw [ho] at ho'; cases ho'; rw [hmo] at hmo'; cases hmo'
  have hls : i < listed.size := by rw [inv.hsz]; exact hil
  obtain ⟨f, hf⟩ : ∃ f : Nat → Option AObj, ∀ id o, f id = some o ↔ EL ops S p id o := by
    classical
    refine ⟨fun id => if h : ∃ o, EL ops S p id o then some h.choose else none, fun id o => ?_⟩
    by_cases h : ∃ o, EL ops S p id o
    · simp only [h, dif_pos, Option.some.injEq]
      constructor
      · intro e; rw [← e]; exact h.choose_spec
      · intro e; exact EL.unique h.choose_spec e
    · simp only [h, dif_neg, not_false_eq_true]
      exact ⟨(fun e => nomatch e), fun e => (h ⟨o, e⟩).elim⟩
  obtain ⟨tr, htr⟩ := Tr.exists_of f (S i).heap.n
  obtain ⟨V, hVn, hVg⟩ : ∃ V : AHeap, V.n = (S i).heap.n ∧ ∀ id o, V.get id = some o ↔ id < (S i).heap.n ∧ EL ops S p id o := by
    refine ⟨⟨(S i).heap.n, tr⟩, rfl, fun id o => ?_⟩
    simp only [AHeap.get, htr]
    by_cases e : id < (S i).heap.n
    · simp only [e, if_true, true_and]; exact hf id o
    · simp only [e, if_false, false_and, iff_false]; exact fun x => nomatch x
  have sV := inv.view t hm s0 hM0 hil hi hVn (fun id o h => ((hVg id o).1 h).2)
  -- a stage that this operation may meet
  have reach : ∀ z, p ≤ z → z ≤ ops.size → (∀ x, z = max p x → x ≤ i → True) → (z = p ∨ z ≤ i) → ∃ q, z ≤ q ∧ q ≤ ops.size ∧ (q = ops.size ∨ IsMover ops q) ∧ (∀ m, z ≤ m → m < q → ¬ IsMover ops m) ∧ outOf ops i o q = false := by
    intro z hz1 hz2 _ hz3
    obtain ⟨q, q1, q2, q3, q4⟩ := next_stage (ops := ops) (ops.size - z) z (by omega)
    refine ⟨q, q1, q2, q3, q4, ?_⟩
    cases hout : outOf ops i o q with
    | false => rfl
    | true =>
      exfalso
      unfold outOf at hout
      simp only [List.any_eq_true, Bool.and_eq_true, Bool.or_eq_true, decide_eq_true_eq] at hout
      obtain ⟨⟨o', m⟩, hmem, hmv, hc⟩ := hout
      rw [List.mem_zipIdx_iff_getElem?] at hmem
      have hom : ops[m]? = some o' := by simpa using hmem
      rcases hc with ⟨h1, h2⟩ | ⟨h1, h2⟩
      · have hlt := lk.reach_lt 6 m o' i hom h2
        have hmz : m < z := by
          rcases Nat.lt_or_ge m z with g | g
          · exact g
          · exact absurd ⟨o', hom, hmv⟩ (q4 m g h1)
        have hmp : m < p := by rcases hz3 with g | g <;> omega
        exact hi (inv.reach_on 6 o' i (inv.closed m o' hom ((inv.mv m ⟨o', hom, hmv⟩).2 hmp)) h2)
      · have := (inv.mv m ⟨o', hom, hmv⟩).1 (inv.reach_on 6 o m hedge h2)
        omega
  have stage : ∀ id, id < (S i).heap.n → ∃ q, q ≤ ops.size ∧ (q = ops.size ∨ IsMover ops q) ∧ outOf ops i o q = false ∧ id < (S q).heap.n ∧ V.get id = (S q).heap.get id := by
    intro id hid
    obtain ⟨x, hx1, hb⟩ := born_exists t hm id i (by omega) hid
    have hmx : max p x ≤ ops.size := by have := inv.hp.1; omega
    obtain ⟨q, q1, q2, q3, q4, q5⟩ := reach (max p x) (by omega) hmx (fun _ _ _ => trivial) (by omega)
    have hlt : id < (S (max p x)).heap.n := Nat.lt_of_lt_of_le hb.2.1 (t.le hm (by omega) hmx)
    have e := t.stay' hm q1 q2 q4 id hlt
    refine ⟨q, q2, q3, q5, Nat.lt_of_lt_of_le hlt (t.le hm q1 q2), ?_⟩
    rw [e]
    cases hg : (S (max p x)).heap.get id with
    | some o' => exact (hVg id o').2 ⟨hid, x, hb, hg⟩
    | none =>
      cases hV : V.get id with
      | none => rfl
      | some o' =>
        obtain ⟨_, y, hb2, hg2⟩ := (hVg id o').1 hV
        rw [born_unique hb2 hb, hg] at hg2
        cases hg2
  have hkeep : ∀ id, id < (S i).heap.n → (S (i + 1)).heap.get id = (S i).heap.get id := fun id hid => t.keep hil hnm id hid
  have h0i : (S 0).heap.n ≤ (S i).heap.n := t.le hm (by omega) (by omega)
  obtain ⟨V', hxV, hpair⟩ : ∃ V', ((wantedX ops o (S i).tmps = true ∧ xop P call o (S i).tmps V = some (v, V')) ∨ (wantedX ops o (S i).tmps = false ∧ v = undef ∧ V' = V)) ∧
      (((S (i + 1)).heap = (S i).heap ∧ V' = V) ∨ ∃ ob, (S (i + 1)).heap = (S i).heap.push ob ∧ V' = V.push ob) := by
    rcases hx with ⟨hw, hxo⟩ | ⟨hw, hv, hh⟩
    · obtain ⟨d, hd⟩ := Option.isSome_iff_exists.1 (lk.dsts i o ho hmo)
      have hva : valAt o (S (i + 1)) = v := by simp only [valAt, hd, (hval d hd).1, Option.getD_some]
      have hr : readOk P o (S i).tmps v (S i).heap.n V = true := readOk_move (by
        obtain ⟨q, q1, q2, q3, q4, q5⟩ := reach p (Nat.le_refl _) inv.hp.1 (fun _ _ _ => trivial) (.inl rfl)
        refine ⟨(S q).heap, ?_⟩
        have := (t.reads i o ho hw q q2 q3).resolve_right (by rw [q5]; decide)
        rwa [hva] at this) fun id hid => by
        obtain ⟨q, q1, q2, q5, q3, q4⟩ := stage id hid
        have := (t.reads i o ho hw q q1 q2).resolve_right (by rw [q5]; decide)
        rw [hva] at this
        exact ⟨_, this, q3, q4⟩
      obtain ⟨V', g1, g2⟩ := xop_view (mover_effect hmo) hxo hr hVn
      exact ⟨V', .inl ⟨hw, g1⟩, g2⟩
    · exact ⟨V, .inr ⟨hw, hv, rfl⟩, .inl ⟨hh, rfl⟩⟩
  have hV'n : V'.n = (S (i + 1)).heap.n := by
    rcases hpair with ⟨e1, e2⟩ | ⟨ob, e1, e2⟩
    · rw [e1, e2, hVn]
    · rw [e1, e2]; simp only [AHeap.push, hVn]
  refine ⟨V, V', sV, hV'n, hxV, fun ρ' v' w' E Sm hv => ?_⟩
  refine inv.next t hm lk s0 hM0 ho hi hedge (X := V) (X' := V') (v := v) (v' := v') (p' := p) hVn hV'n hVg E Sm hv hval inv.hp ?_ ?_ (fun id o' h1 h2 h3 => ?_) ?_ (fun id h1 _ => hkeep id (by omega)) (fun id o' h1 h2 => ⟨o', by rw [← hkeep id (by omega)]; exact h2⟩)
  · intro j hj
    rw [on_set hls]
    constructor
    · rintro (rfl | h)
      · exact absurd hj hnm
      · exact (inv.mv j hj).1 h
    · exact fun h => .inr ((inv.mv j hj).2 h)
  · intro id o' hel
    refine ⟨fun hid => ?_, fun _ => hel⟩
    rcases Nat.lt_or_ge id (S i).heap.n with e | e
    · have h1 := (hVg id o').2 ⟨e, hel⟩
      rcases hpair with ⟨_, e2⟩ | ⟨ob, _, e2⟩
      · rw [e2]; exact h1
      · rw [e2, AHeap.get_push, if_neg (by omega)]; exact h1
    · rcases hpair with ⟨e1, e2⟩ | ⟨ob, e1, e2⟩
      · rw [e1] at hid; omega
      · have hid2 : id = (S i).heap.n := by rw [e1] at hid; simp only [AHeap.push] at hid; omega
        obtain ⟨x, hb, hg⟩ := hel
        have hb2 : Born ops S id (i + 1) := ⟨hil, hid, fun y hy => Nat.le_trans (t.le hm (i := y) (j := i) (by omega) (by omega)) e⟩
        rw [born_unique hb hb2] at hg
        have hob : (S (i + 1)).heap.get id = some ob := by rw [e1, AHeap.get_push, if_pos hid2]
        have key : ∀ k, i + 1 + k ≤ max p (i + 1) → (S (i + 1 + k)).heap.get id = some ob := by
          intro k
          induction k with
          | zero => intro _; exact hob
          | succ k ih =>
            intro hk
            have h1 := ih (by omega)
            have hml : i + 1 + k < ops.size := by have := inv.hp.1; omega
            rw [show i + 1 + (k + 1) = (i + 1 + k) + 1 by omega]
            by_cases hmv : IsMover ops (i + 1 + k)
            · rw [inv.outs (i + 1 + k) hml ((inv.mv _ hmv).2 (by omega)) i (by omega) hi id e hid]
              exact h1
            · rw [t.keep hml hmv id (Nat.lt_of_lt_of_le hid (t.le hm (by omega) (by omega)))]
              exact h1
        have := key (max p (i + 1) - (i + 1)) (by omega)
        rw [show i + 1 + (max p (i + 1) - (i + 1)) = max p (i + 1) by omega, hg] at this
        rw [e2, AHeap.get_push, if_pos (by rw [hVn]; exact hid2), this]
  · rw [hkeep id (by omega)]; exact h2
  · intro j hj _ id h1 h2
    exact hkeep id (Nat.lt_of_lt_of_le h2 (t.le hm (by omega) (by omega)))
/-- All is done. -/
theorem Inv.done (t : Text P call ops S) (hm : CallMono call) (lk : Looks ops) (s0 : Sim M0 ρ0 (S 0).heap w0) (hM0 : (S ops.size).heap.n ≤ M0) (inv : Inv ops S ρ0 w0 ρ TS p listed a w) (hall : ∀ j, j < ops.size → On listed j) :
    SR M0 ρ (S ops.size) a w ∧ Ext ρ0 ρ (S 0).heap (S ops.size).heap w0 w := by
  have hp : p = ops.size := by
    rcases inv.hp.2 with e | e
    · exact e
    · have e' := e
      obtain ⟨o, ho, _⟩ := e'
      have := (inv.mv p e).1 (hall p (idx_lt ho))
      omega
  subst hp
  have h0n : (S 0).heap.n ≤ (S ops.size).heap.n := t.le hm (Nat.zero_le _) (Nat.le_refl _)
  have el : ∀ id o, (S ops.size).heap.get id = some o → EL ops S ops.size id o := fun id o h => by
    obtain ⟨x, hx, hb⟩ := born_exists t hm id ops.size (Nat.le_refl _) (AHeap.get_lt h)
    exact ⟨x, hb, by rw [Nat.max_eq_left hx]; exact h⟩
  have hts : ∀ d : Tmp, TS.get d = (S ops.size).tmps.get d := by
    intro d
    by_cases hw : ∃ (j : Nat) (o' : Oper), ops[j]? = some o' ∧ o'.dst = some d
    · obtain ⟨j, o', hj, hd⟩ := hw
      have hjl := idx_lt hj
      rw [inv.ts1 j o' d hj (hall j hjl) hd]
      have := t.same d (ops.size - (j + 1)) (j + 1) (by omega) (fun k o2 h1 h2 hk e => by have := lk.uniq k j o2 o' d hk hj e hd; omega)
      rw [show j + 1 + (ops.size - (j + 1)) = ops.size by omega] at this
      exact this.symm
    · rw [inv.ts0 d fun j o' hj _ e => hw ⟨j, o', hj, e⟩]
      have := t.same d ops.size 0 (by omega) (fun k o2 h1 h2 hk e => hw ⟨k, o2, hk, e⟩)
      rw [Nat.zero_add] at this
      exact this.symm
  have sm : Sim M0 ρ (S ops.size).heap w := by
    refine ⟨fun id o l h1 h2 => inv.ok id o l (el id o h1) h2, fun x y o o' l l' h1 h2 => inv.inj x y o o' l l' (el x o h1) (el y o' h2), fun id l h => ⟨?_, inv.lt id l h⟩, fun id h => AHeap.get_ge _ id h, hM0⟩
    rcases inv.dom id l h with g | ⟨j, g1, g2, g3, g4⟩
    · rcases (s0.dom id l g).1 with e | e
      · exact .inl (by omega)
      · exact .inr e
    · exact .inl (Nat.lt_of_lt_of_le g4 (t.le hm (by omega) (Nat.le_refl _)))
  have chain : ∀ id, id < (S 0).heap.n → ∀ m, m ≤ ops.size → (∀ o, (S m).heap.get id = some o → ∃ o', (S 0).heap.get id = some o') ∧ (ρ0 id = none → (S m).heap.get id = (S 0).heap.get id) := by
    intro id hid m
    induction m with
    | zero => intro _; exact ⟨fun o h => ⟨o, h⟩, fun _ => rfl⟩
    | succ m ih =>
      intro hm'
      obtain ⟨i1, i2⟩ := ih (by omega)
      refine ⟨fun o h => ?_, fun h => ?_⟩
      · obtain ⟨o', h'⟩ := inv.aliveA m (by omega) (hall m (by omega)) id o hid h
        exact i1 o' h'
      · rw [inv.out0 m (by omega) (hall m (by omega)) id hid h, i2 h]
  refine ⟨⟨fun d => by rw [← hts d]; exact inv.tr d, by rw [inv.nt, t.nt ops.size (Nat.le_refl _)], inv.df, sm⟩, ⟨inv.sub, fun id l h1 h2 => ?_, fun id o h1 h2 => (chain id h1 _ (Nat.le_refl _)).1 o h2, fun id h1 h2 => (chain id h1 _ (Nat.le_refl _)).2 h2, h0n, inv.size, inv.os, inv.tape, inv.output, inv.frame, fun id o h1 h2 => ⟨?_, fun l hl => inv.ro id o l h1 h2 hl⟩, fun id o l h1 h2 h3 => inv.two id o l (el id o h1) h2 h3⟩⟩
  · have hnb := inv.newb id l h1 h2
    rcases inv.dom id l h1 with g | ⟨j, g1, g2, g3, g4⟩
    · rw [h2] at g; cases g
    · exact ⟨Nat.le_trans (t.le hm (Nat.zero_le _) (by omega)) g3, Nat.lt_of_lt_of_le g4 (t.le hm (by omega) (Nat.le_refl _)), hnb⟩
  · obtain ⟨x, hb, hg⟩ := inv.ro_EL t hm h1 h2
    rw [Nat.max_eq_left hb.1] at hg
    exact hg
end
end Go.Proofs.Ytfbedlhigggggaa
