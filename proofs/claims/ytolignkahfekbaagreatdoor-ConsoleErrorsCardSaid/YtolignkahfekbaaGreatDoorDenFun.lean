/- Functions as plain terms, and the table of them. -/
import Derived.Test.YtolignkahfekbaaGreatDoorDenCode
import Derived.Test.YtolignkahfekbaaGreatDoorCfg
namespace Go.Proofs.YtolignkahfekbaaGreatDoor
open Go Go.RowKit
section
variable {P : Program} {c : XCall}
theorem denRes_ok {nt : Nat} {T : Tr Value} {h : AHeap} : ∀ {rs : List ResultVar} {k : List Value → R} {x : Value × AHeap}, denRes P T h rs k = some x → ∃ l, resV P ⟨nt, T, h⟩ rs = some l ∧ k l = some x
  | [], k, x, hx => ⟨[], rfl, hx⟩
  | .tmp t :: r, k, x, hx => by
    simp only [denRes] at hx
    obtain ⟨l, h1, h2⟩ := denRes_ok (nt := nt) hx
    exact ⟨_, by simp only [resV, h1, Option.bind_some]; rfl, h2⟩
  | .cell a t :: r, k, x, hx => by
    simp only [denRes] at hx
    have hp : ∀ {ad}, getT T a = .pointer (some ad) → T.get a = some (.pointer (some ad)) := by
      intro ad e
      unfold getT at e
      cases hg : T.get a with
      | none => rw [hg] at e; cases e
      | some u => rw [hg] at e; rw [← e]; rfl
    split at hx
    · rename_i ha
      obtain ⟨ad, u, e1, e2, e3⟩ := oLoad1_ok (P := P) ha hx
      obtain ⟨l, h1, h2⟩ := denRes_ok (nt := nt) e3
      exact ⟨_, by simp only [resV, hp e1, e2, h1, Option.bind_some], h2⟩
    · rename_i ha
      split at hx
      · rename_i s hs
        obtain ⟨ad, u, e1, e2, e3⟩ := oLoadN_ok (P := P) ha hs hx
        obtain ⟨l, h1, h2⟩ := denRes_ok (nt := nt) e3
        exact ⟨_, by simp only [resV, hp e1, e2, h1, Option.bind_some], h2⟩
      · cases hx
    · cases hx
theorem pEnd_ok : ∀ {l : List Value} {h : AHeap} {x : Value × AHeap}, pEnd l h = some x → x.2 = h ∧ (match l with
    | [v] => some v
    | l => if l.all noTup then some (.tuple l.toArray) else none) = some x.1
  | [], h, x, hx => by
    simp only [pEnd] at hx
    split at hx
    · simp only [Option.some.injEq] at hx; subst hx; exact ⟨rfl, rfl⟩
    · cases hx
  | [v], h, x, hx => by
    simp only [pEnd, Option.some.injEq] at hx
    subst hx
    exact ⟨rfl, rfl⟩
  | a :: b :: r, h, x, hx => by
    simp only [pEnd] at hx
    split at hx
    · rename_i hn
      simp only [Option.some.injEq] at hx
      subst hx
      exact ⟨rfl, by simp only; rw [if_pos hn]⟩
    · cases hx
theorem endV_ok {l : List Value} {h : AHeap} {x : Value × AHeap} : endV l h = some x → x.2 = h ∧ (match l with
    | [v] => some v
    | l => if l.all noTup then some (.tuple l.toArray) else none) = some x.1 := fun e => pEnd_ok (by rw [← endV_eq]; exact e)
theorem denEnd_ok {nt : Nat} {T : Tr Value} {h : AHeap} {rs : Array ResultVar} {x : Value × AHeap} (hx : denRes P T h rs.toList (fun l => endV l h) = some x) : x.2 = h ∧ resX P ⟨nt, T, h⟩ rs = some x.1 := by
  obtain ⟨l, h1, h2⟩ := denRes_ok (nt := nt) hx
  obtain ⟨h3, h4⟩ := endV_ok h2
  refine ⟨h3, ?_⟩
  unfold resX
  rw [h1, Option.bind_some]
  exact h4
noncomputable def denEnd (P : Program) (fn : Func) : KE := fun e T h => match e with
  | .normal | .ret => denRes P T h fn.results.toList fun l => endV l h
  | _ => none
theorem denEnd_mono {fn : Func} : MonoE (denEnd P fn) := by
  intro e T h x hx
  cases e with
  | normal => rw [(denEnd_ok (nt := 0) (P := P) hx).1]; exact Nat.le_refl _
  | ret => rw [(denEnd_ok (nt := 0) (P := P) hx).1]; exact Nat.le_refl _
  | _ => cases hx
/-- What a way of answering calls of one function must keep. -/
def GoodR (P : Program) [Toks] (f : FuncId) (r : List Value → AHeap → R) : Prop :=
  (∀ args h v h', r args h = some (v, h') → h.n ≤ h'.n) ∧
  ∀ (M : Nat) (ρ : Ren) (h : AHeap) (w : World) (args : List Value) (args' : Array Value) (v : Value) (h' : AHeap), Sim M ρ h w → h'.n ≤ M → LR (VR ρ) args args'.toList → r args h = some (v, h') →
    ∃ fn, P.funcs[f]? = some fn ∧ fn.body.isNone = false ∧ (fn.name == "runtime.NumGoroutine") = false ∧ Calls P f args' w (After M ρ h w v h')
abbrev G := XCall → List Value → AHeap → R
def GoodG (P : Program) [Toks] (f : FuncId) (g : G) : Prop := ∀ c, CallOk P c → CallMono c → GoodR P f (g c)
variable [Toks]
theorem denF_ok {f : FuncId} {fn : Func} (hfn : P.funcs[f]? = some fn) (hname : (fn.name == "runtime.NumGoroutine") = false) (hmix : P.follows .mixedOrders = true) (n F D : Nat) (hc : CallOk P c) (hm : CallMono c)
    {r : List Value → AHeap → R} (hr : ∀ args h x, r args h = some x → args.length = n ∧ appN n (denF P fn n F D c) args h = some x) : GoodR P f r := by
  have get : ∀ {args : List Value} {h : AHeap} {x : Value × AHeap}, r args h = some x → args.length = n ∧ ∃ body, fn.body = some body ∧ den P c (n + (fn.ntmps - n)) F D body (argsTr args 0 .nil) h (denEnd P fn) = some x := by
    intro args h x hx
    obtain ⟨hl, h1⟩ := hr args h x hx
    refine ⟨hl, ?_⟩
    unfold denF at h1
    rw [appN_lamN _ _ _ _ hl] at h1
    split at h1
    · rename_i body hb
      exact ⟨body, hb, h1⟩
    · cases h1
  constructor
  · intro args h v h' hx
    obtain ⟨_, body, _, h1⟩ := get hx
    exact den_mono hm D body _ h _ (v, h') denEnd_mono h1
  · intro M ρ h w args args' v h' s hM ha hx
    obtain ⟨hl, body, hb, h1⟩ := get hx
    refine ⟨fn, hfn, by rw [hb]; rfl, hname, ?_⟩
    refine calls_of_wp hfn hb ?_
    have hen := enter_ok s ha fn.ntmps
    rw [hl] at hen
    refine den_ok hc hm hmix D body _ h _ (v, h') denEnd_mono h1 M ρ _ w _ hM hen fun e T' h2 ρ' a' w' _ hx' hs' hE => ?_
    have fin : ∀ {e : XExit}, (e = .normal ∨ e = .ret) → denEnd P fn e T' h2 = some (v, h') → h' = h2 ∧ resX P ⟨n + (fn.ntmps - n), T', h2⟩ fn.results = some v := by
      rintro e (rfl | rfl) hx
      · obtain ⟨a1, a2⟩ := denEnd_ok (nt := n + (fn.ntmps - n)) (P := P) hx; exact ⟨a1, a2⟩
      · obtain ⟨a1, a2⟩ := denEnd_ok (nt := n + (fn.ntmps - n)) (P := P) hx; exact ⟨a1, a2⟩
    cases e with
    | normal =>
      obtain ⟨rfl, hres⟩ := fin (.inl rfl) hx'
      obtain ⟨v', g1, g2⟩ := resX_ok hs' hres
      exact ⟨hs'.df, v', g1, ρ', v', rfl, hE, hs'.sim, g2⟩
    | ret =>
      obtain ⟨rfl, hres⟩ := fin (.inr rfl) hx'
      obtain ⟨v', g1, g2⟩ := resX_ok hs' hres
      exact ⟨hs'.df, v', g1, ρ', v', rfl, hE, hs'.sim, g2⟩
    | exit id => cases hx'
    | goto l => cases hx'
end
/-! Arguments, one by one. -/
noncomputable def consK (l : List Value) (k : Value → List Value → R) : R := List.rec (motive := fun _ => R) none (fun a r _ => k a r) l
noncomputable def nilK (l : List Value) (r : R) : R := List.rec (motive := fun _ => R) r (fun _ _ _ => none) l
theorem consK_some {l : List Value} {k : Value → List Value → R} {x : Value × AHeap} (e : consK l k = some x) : ∃ a r, l = a :: r ∧ k a r = some x := by
  cases l with
  | nil => cases e
  | cons a r => exact ⟨a, r, rfl, e⟩
theorem nilK_some {l : List Value} {r : R} {x : Value × AHeap} (e : nilK l r = some x) : l = [] ∧ r = some x := by
  cases l with
  | nil => exact ⟨rfl, e⟩
  | cons a r => cases e
noncomputable def ap0 (g : AHeap → R) (l : List Value) (h : AHeap) : R := nilK l (g h)
noncomputable def ap1 (g : Value → AHeap → R) (l : List Value) (h : AHeap) : R := consK l fun a l => nilK l (g a h)
noncomputable def ap2 (g : Value → Value → AHeap → R) (l : List Value) (h : AHeap) : R := consK l fun a l => consK l fun b l => nilK l (g a b h)
noncomputable def ap3 (g : Value → Value → Value → AHeap → R) (l : List Value) (h : AHeap) : R := consK l fun a l => consK l fun b l => consK l fun d l => nilK l (g a b d h)
noncomputable def ap4 (g : Value → Value → Value → Value → AHeap → R) (l : List Value) (h : AHeap) : R := consK l fun a l => consK l fun b l => consK l fun d l => consK l fun e l => nilK l (g a b d e h)
noncomputable def ap5 (g : Value → Value → Value → Value → Value → AHeap → R) (l : List Value) (h : AHeap) : R := consK l fun a l => consK l fun b l => consK l fun d l => consK l fun e l => consK l fun f l => nilK l (g a b d e f h)
noncomputable def ap6 (g : Value → Value → Value → Value → Value → Value → AHeap → R) (l : List Value) (h : AHeap) : R := consK l fun a l => consK l fun b l => consK l fun d l => consK l fun e l => consK l fun f l => consK l fun i l => nilK l (g a b d e f i h)
noncomputable def ap7 (g : Value → Value → Value → Value → Value → Value → Value → AHeap → R) (l : List Value) (h : AHeap) : R := consK l fun a l => consK l fun b l => consK l fun d l => consK l fun e l => consK l fun f l => consK l fun i l => consK l fun j l => nilK l (g a b d e f i j h)
noncomputable def ap8 (g : Value → Value → Value → Value → Value → Value → Value → Value → AHeap → R) (l : List Value) (h : AHeap) : R := consK l fun a l => consK l fun b l => consK l fun d l => consK l fun e l => consK l fun f l => consK l fun i l => consK l fun j l => consK l fun k l => nilK l (g a b d e f i j k h)
section
variable {P : Program} [Toks] {f : FuncId} {fn : Func} (hfn : P.funcs[f]? = some fn) (hname : (fn.name == "runtime.NumGoroutine") = false) (hmix : P.follows .mixedOrders = true) {F D : Nat}
include hfn hname hmix
theorem good0 {g : XCall → NF 0} (e : ∀ c, denF P fn 0 F D c = g c) : GoodG P f fun c => ap0 (g c) := fun c hc hm => denF_ok hfn hname hmix 0 F D hc hm (by
  intro args h x hx; rw [e]; have hx : ap0 (g c) args h = some x := hx; unfold ap0 at hx; obtain ⟨rfl, hz⟩ := nilK_some hx; exact ⟨rfl, hz⟩)
theorem good1 {g : XCall → NF 1} (e : ∀ c, denF P fn 1 F D c = g c) : GoodG P f fun c => ap1 (g c) := fun c hc hm => denF_ok hfn hname hmix 1 F D hc hm (by
  intro args h x hx; rw [e]; have hx : ap1 (g c) args h = some x := hx; unfold ap1 at hx; obtain ⟨_, _, rfl, h0⟩ := consK_some hx; obtain ⟨rfl, hz⟩ := nilK_some h0; exact ⟨rfl, hz⟩)
theorem good2 {g : XCall → NF 2} (e : ∀ c, denF P fn 2 F D c = g c) : GoodG P f fun c => ap2 (g c) := fun c hc hm => denF_ok hfn hname hmix 2 F D hc hm (by
  intro args h x hx; rw [e]; have hx : ap2 (g c) args h = some x := hx; unfold ap2 at hx; obtain ⟨_, _, rfl, h0⟩ := consK_some hx; obtain ⟨_, _, rfl, h1⟩ := consK_some h0; obtain ⟨rfl, hz⟩ := nilK_some h1; exact ⟨rfl, hz⟩)
theorem good3 {g : XCall → NF 3} (e : ∀ c, denF P fn 3 F D c = g c) : GoodG P f fun c => ap3 (g c) := fun c hc hm => denF_ok hfn hname hmix 3 F D hc hm (by
  intro args h x hx; rw [e]; have hx : ap3 (g c) args h = some x := hx; unfold ap3 at hx; obtain ⟨_, _, rfl, h0⟩ := consK_some hx; obtain ⟨_, _, rfl, h1⟩ := consK_some h0; obtain ⟨_, _, rfl, h2⟩ := consK_some h1; obtain ⟨rfl, hz⟩ := nilK_some h2; exact ⟨rfl, hz⟩)
theorem good4 {g : XCall → NF 4} (e : ∀ c, denF P fn 4 F D c = g c) : GoodG P f fun c => ap4 (g c) := fun c hc hm => denF_ok hfn hname hmix 4 F D hc hm (by
  intro args h x hx; rw [e]; have hx : ap4 (g c) args h = some x := hx; unfold ap4 at hx; obtain ⟨_, _, rfl, h0⟩ := consK_some hx; obtain ⟨_, _, rfl, h1⟩ := consK_some h0; obtain ⟨_, _, rfl, h2⟩ := consK_some h1; obtain ⟨_, _, rfl, h3⟩ := consK_some h2; obtain ⟨rfl, hz⟩ := nilK_some h3; exact ⟨rfl, hz⟩)
theorem good5 {g : XCall → NF 5} (e : ∀ c, denF P fn 5 F D c = g c) : GoodG P f fun c => ap5 (g c) := fun c hc hm => denF_ok hfn hname hmix 5 F D hc hm (by
  intro args h x hx; rw [e]; have hx : ap5 (g c) args h = some x := hx; unfold ap5 at hx; obtain ⟨_, _, rfl, h0⟩ := consK_some hx; obtain ⟨_, _, rfl, h1⟩ := consK_some h0; obtain ⟨_, _, rfl, h2⟩ := consK_some h1; obtain ⟨_, _, rfl, h3⟩ := consK_some h2; obtain ⟨_, _, rfl, h4⟩ := consK_some h3; obtain ⟨rfl, hz⟩ := nilK_some h4; exact ⟨rfl, hz⟩)
theorem good6 {g : XCall → NF 6} (e : ∀ c, denF P fn 6 F D c = g c) : GoodG P f fun c => ap6 (g c) := fun c hc hm => denF_ok hfn hname hmix 6 F D hc hm (by
  intro args h x hx; rw [e]; have hx : ap6 (g c) args h = some x := hx; unfold ap6 at hx; obtain ⟨_, _, rfl, h0⟩ := consK_some hx; obtain ⟨_, _, rfl, h1⟩ := consK_some h0; obtain ⟨_, _, rfl, h2⟩ := consK_some h1; obtain ⟨_, _, rfl, h3⟩ := consK_some h2; obtain ⟨_, _, rfl, h4⟩ := consK_some h3; obtain ⟨_, _, rfl, h5⟩ := consK_some h4; obtain ⟨rfl, hz⟩ := nilK_some h5; exact ⟨rfl, hz⟩)
theorem good7 {g : XCall → NF 7} (e : ∀ c, denF P fn 7 F D c = g c) : GoodG P f fun c => ap7 (g c) := fun c hc hm => denF_ok hfn hname hmix 7 F D hc hm (by
  intro args h x hx; rw [e]; have hx : ap7 (g c) args h = some x := hx; unfold ap7 at hx; obtain ⟨_, _, rfl, h0⟩ := consK_some hx; obtain ⟨_, _, rfl, h1⟩ := consK_some h0; obtain ⟨_, _, rfl, h2⟩ := consK_some h1; obtain ⟨_, _, rfl, h3⟩ := consK_some h2; obtain ⟨_, _, rfl, h4⟩ := consK_some h3; obtain ⟨_, _, rfl, h5⟩ := consK_some h4; obtain ⟨_, _, rfl, h6⟩ := consK_some h5; obtain ⟨rfl, hz⟩ := nilK_some h6; exact ⟨rfl, hz⟩)
theorem good8 {g : XCall → NF 8} (e : ∀ c, denF P fn 8 F D c = g c) : GoodG P f fun c => ap8 (g c) := fun c hc hm => denF_ok hfn hname hmix 8 F D hc hm (by
  intro args h x hx; rw [e]; have hx : ap8 (g c) args h = some x := hx; unfold ap8 at hx; obtain ⟨_, _, rfl, h0⟩ := consK_some hx; obtain ⟨_, _, rfl, h1⟩ := consK_some h0; obtain ⟨_, _, rfl, h2⟩ := consK_some h1; obtain ⟨_, _, rfl, h3⟩ := consK_some h2; obtain ⟨_, _, rfl, h4⟩ := consK_some h3; obtain ⟨_, _, rfl, h5⟩ := consK_some h4; obtain ⟨_, _, rfl, h6⟩ := consK_some h5; obtain ⟨_, _, rfl, h7⟩ := consK_some h6; obtain ⟨rfl, hz⟩ := nilK_some h7; exact ⟨rfl, hz⟩)
end
/-! The table. -/
def mkTab : List (Nat × G) → Tr G
  | [] => .nil
  | (f, g) :: r => (mkTab r).set f (some g)
inductive AllG (P : Program) [Toks] : List (Nat × G) → Prop where
  | nil : AllG P []
  | cons {f : Nat} {g : G} {r : List (Nat × G)} : GoodG P f g → AllG P r → AllG P ((f, g) :: r)
section
variable {P : Program} [Toks]
theorem AllG.get {l : List (Nat × G)} (a : AllG P l) {f : Nat} {g : G} (h : (mkTab l).get f = some g) : GoodG P f g := by
  induction a with
  | nil => simp [mkTab, Tr.get] at h
  | cons hg _ ih =>
    rw [mkTab, Tr.get_set] at h
    split at h
    · rename_i e
      subst e
      injection h with h
      subst h
      exact hg
    · exact ih h
theorem AllG.append {l m : List (Nat × G)} (a : AllG P l) (b : AllG P m) : AllG P (l ++ m) := by
  induction a with
  | nil => exact b
  | cons hg _ ih => exact .cons hg ih
def pDisp (tab : Tr G) (fb : XCall) (ih : XCall) : XCall := fun f args h =>
  match tab.get f with
  | some g => g ih args h
  | none => fb f args h
noncomputable def disp (tab : Tr G) (fb : XCall) (ih : XCall) : XCall := fun f args h => Option.rec (motive := fun _ => R) (fb f args h) (fun g => g ih args h) (getR tab f)
omit [Toks] in
theorem disp_eq (tab : Tr G) (fb ih : XCall) (f : FuncId) (args : List Value) (h : AHeap) : disp tab fb ih f args h = pDisp tab fb ih f args h := by
  unfold disp pDisp
  rw [getR_eq]
  cases tab.get f <;> rfl
noncomputable def gcall (tab : Tr G) (fb : XCall) (n : Nat) : XCall := Nat.rec (motive := fun _ => XCall) (fun _ _ _ => none) (fun _ ih => disp tab fb ih) n
theorem disp_ok {l : List (Nat × G)} (a : AllG P l) {fb ih : XCall} (h1 : CallOk P fb) (h2 : CallMono fb) (i1 : CallOk P ih) (i2 : CallMono ih) : CallOk P (disp (mkTab l) fb ih) ∧ CallMono (disp (mkTab l) fb ih) := by
  constructor
  · intro M ρ h w f args args' v h' s hM ha hx
    rw [disp_eq] at hx
    unfold pDisp at hx
    split at hx
    · rename_i g hg
      exact (a.get hg ih i1 i2).2 M ρ h w args args' v h' s hM ha hx
    · exact h1 M ρ h w f args args' v h' s hM ha hx
  · intro f args h v h' hx
    rw [disp_eq] at hx
    unfold pDisp at hx
    split at hx
    · rename_i g hg
      exact (a.get hg ih i1 i2).1 args h v h' hx
    · exact h2 f args h v h' hx
theorem gcall_ok {l : List (Nat × G)} (a : AllG P l) {fb : XCall} (h1 : CallOk P fb) (h2 : CallMono fb) : ∀ n, CallOk P (gcall (mkTab l) fb n) ∧ CallMono (gcall (mkTab l) fb n)
  | 0 => ⟨CallOk.none, CallMono.none⟩
  | n + 1 => disp_ok a h1 h2 (gcall_ok a h1 h2 n).1 (gcall_ok a h1 h2 n).2
/-- What no plain term stands for: the executor itself. -/
def deep (P : Program) (okF : Cfg) (n : Nat) : XCall := xcall P okF n
theorem deep_ok {okF : Cfg} (hok : CfgOk P okF) (hm : P.follows .mixedOrders = true) (n : Nat) : CallOk P (deep P okF n) ∧ CallMono (deep P okF n) :=
  ⟨xcall_ok hok hm n, callX_n hok.mono fun c st st' e h => run_n hok.mono n (.code c) st st' e h⟩
/-- A statement that the plain terms find true, over numbers that need not be known. -/
theorem top_plain {l : List (Nat × G)} (a : AllG P l) {okF : Cfg} (hok : CfgOk P okF) (hm : P.follows .mixedOrders = true) (m n : Nat) {f : FuncId} {args : List Value} {args' : Array Value} (W : World) (ha : LR (VR fun _ => none) args args'.toList)
    (h : yes (gcall (mkTab l) (deep P okF m) n f args h0) = true) : Calls P f args' W fun e w' => e = .returned (.bool true) ∧ Below W.heap.size W w' := by
  unfold yes at h
  split at h
  · rename_i h' hx
    have s : Sim h'.n (fun _ => none) h0 W := ⟨fun i o l h1 h2 => (by cases h2), fun i j o o' l l' _ _ h3 => (by cases h3), fun i l h1 => (by cases h1), fun i _ => AHeap.get_ge h0 i (Nat.zero_le _), Nat.zero_le _⟩
    obtain ⟨fn, _, _, _, g⟩ := (gcall_ok a (deep_ok hok hm m).1 (deep_ok hok hm m).2 n).1 h'.n (fun _ => none) h0 W f args args' (.bool true) h' s (Nat.le_refl _) ha hx
    refine g.mono fun e w' ⟨ρ', v', e1, E, _, hv⟩ => ?_
    rw [hv.bool] at e1
    exact ⟨e1, E.os, E.tape, E.output, E.size, fun k hk => E.frame k hk fun i l o h1 => (by cases h1)⟩
  · cases h
end
end Go.Proofs.YtolignkahfekbaaGreatDoor
