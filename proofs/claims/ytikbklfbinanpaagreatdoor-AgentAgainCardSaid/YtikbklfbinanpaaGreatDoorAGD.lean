/- AgentAgain: the memory of its agent, and what is known of its calls. -/
import Derived.Test.YtikbklfbinanpaaGreatDoorAllSum
import Derived.Test.YtikbklfbinanpaaGreatDoorPlA
import Derived.Test.YtikbklfbinanpaaGreatDoorJit
import Derived.Test.YtikbklfbinanpaaGreatDoorRoots
namespace Go.Proofs.YtikbklfbinanpaaGreatDoor.agentAgain
open Go Lit
noncomputable def cfg (i d j : Nat) : Cfg := ⟨fun _ => true, overJ [] [(i, (d : Int), .int .i64 (j : Nat))], summAll⟩
noncomputable def cc (i d j : Nat) : XCall := gcall (mkTab tabAll) (deep Tryz.prog (cfg i d j) 3000) 60
abbrev sn (k : Nat) (l r : Tr Nat) : Tr Nat := .node (some k) l r
abbrev sl (k : Nat) : Tr Nat := .node (some k) .nil .nil
abbrev se : Tr Nat := .nil
noncomputable def o0 : Option AObj := lH 0 3 0 [lD [lS [101,112,111,99,104],lP 4],lD [lS [97,100,109,105,116,47,48,49],lP 13],lD [lS [108,111,103,47,102,47,97],lP 19]]
noncomputable def o1 : Option AObj := lH 74 0 6 [lI 4000,lI 16,lM 0,lF,lI 0,lF]
noncomputable def o2 : Option AObj := lH 0 3 0 [lD [lA [lS [102],lS [97]],lP 17]]
noncomputable def o3 : Option AObj := lH 114 0 5 [lP 1,lI 1,lO 16 0 1 1,lM 2,lF]
noncomputable def o4 : Option AObj := lH 197 0 3 [lO 5 0 1 1,lI 1,lT]
noncomputable def o5 : Option AObj := lH 5 0 1 [lB 1]
noncomputable def o6 : Option AObj := lH 0 3 0 [lD [lA [lS [102],lS [97]],lP 18]]
noncomputable def o7 : Option AObj := lH 87 0 1 [.slice none 0 0]
noncomputable def o8 : Option AObj := lH 117 0 1 [.slice none 0 0]
noncomputable def o9 : Option AObj := lH 58 0 14 [lC 4621819117588971520 4621819117588971520,lI 4,lI 3,lI 5,lI 2,lI 8,lI 4000,lP 1,lP 3,lM 6,lP 7,lP 8,lI 0,lT]
noncomputable def o10 : Option AObj := lH 9 0 1 [lS [97]]
noncomputable def o11 : Option AObj := lH 52 0 2 [lS [97],lC 4636737291354636288 0]
noncomputable def o12 : Option AObj := lH 34 0 9 [lI 11,lS [102],lS [],lS [97],lI 0,lI 7,lI 1,lI 1,.slice none 0 0]
noncomputable def o13 : Option AObj := lH 197 0 3 [lO 14 0 10 10,lI 10,lT]
noncomputable def o14 : Option AObj := lH 5 0 1 [lB 1,lB 102,lB 1,lB 120,lB 0,lB 1,lB 1,lB 97,lB 100,lB 0]
noncomputable def o15 : Option AObj := lH 150 0 4 [lS [102],lS [120],lI 0,lO 15 0 1 1]
noncomputable def o16 : Option AObj := lH 143 0 5 [lO 21 0 1 1,lI 0,lF,lI 0,lI 0]
noncomputable def o17 : Option AObj := lH 143 0 5 [lO 22 0 1 1,lI 0,lT,lI 2,lI 2]
noncomputable def o18 : Option AObj := lH 197 0 3 [lO 20 0 5 5,lI 5,lT]
noncomputable def o19 : Option AObj := lH 5 0 1 [lB 3,lB 1,lB 1,lB 7,lB 165]
noncomputable def o20 : Option AObj := lH 98 0 2 [lI 1,lI 7]
noncomputable def o21 : Option AObj := lH 74 0 6 [lI 4000,lI 20,lM 0,lF,lI 0,lF]
noncomputable def o22 : Option AObj := lH 58 0 14 [lC 4621819117588971520 4621819117588971520,lI 4,lI 3,lI 5,lI 2,lI 8,lI 4000,lP 1,lP 3,lM 6,lP 7,lP 8,lI 60,lT]
noncomputable def o23 : Option AObj := lH 143 0 5 [lO 21 0 1 1,lI 1,lF,lI 1,lI 1]
noncomputable def o24 : Option AObj := lH 143 0 5 [lO 22 0 1 1,lI 1,lF,lI 8,lI 62]
noncomputable def o25 : Option AObj := lH 197 0 3 [lO 23 0 9 9,lI 9,lT]
noncomputable def o26 : Option AObj := lH 5 0 1 [lB 3,lB 1,lB 1,lB 7,lB 165,lB 2,lB 2,lB 1,lB 165]
noncomputable def o27 : Option AObj := lH 0 3 0 [lD [lS [101,112,111,99,104],lP 4]]
noncomputable def o28 : Option AObj := lH 74 0 6 [lI 4000,lI 1,lM 0,lF,lI 0,lF]
noncomputable def o29 : Option AObj := lH 0 3 0 []
noncomputable def o30 : Option AObj := lH 114 0 5 [lP 1,lI 1,.slice none 0 0,lM 2,lF]
noncomputable def oA (t : Nat) : Option AObj := lH 58 0 14 [lC 4621819117588971520 4621819117588971520,lI 4,lI 3,lI 5,lI 2,lI 8,lI 4000,lP 1,lP 3,lM 6,lP 7,lP 8,lI (t : Nat),lT]
noncomputable def oS (d due : Nat) : Option AObj := lH 143 0 5 [lO 22 0 1 1,lI 0,lT,lI (d : Nat),lI (due : Nat)]
noncomputable def oS2 (due : Nat) : Option AObj := lH 143 0 5 [lO 22 0 1 1,lI 1,lF,lI 8,lI (due : Nat)]
/-- The agent with one update that waits: the time, the delay, when it is due. -/
noncomputable def H (t d due : Nat) : AHeap := ⟨23, (tn o0 (tn o1 (tn o3 (tn o7 (tl o11) te) (tn o11 (tl o18) te)) (tn o5 (tn (oA t) (tl o16) te) (tn o13 (tl o20) te))) (tn o2 (tn o4 (tn o8 (tl o15) te) (tn o12 (tl o19) te)) (tn o6 (tn o10 (tl (oS d due)) te) (tn o14 (tl o20) te))))⟩
/-- .. and when it was acknowledged. -/
noncomputable def H2 (t due : Nat) : AHeap := ⟨24, (tn o0 (tn o21 (tn o3 (tn o7 (tl o11) (tl o26)) (tn o11 (tl o25) te)) (tn o5 (tn (oA t) (tl o23) te) (tn o13 (tl o20) te))) (tn o2 (tn o4 (tn o8 (tl o15) te) (tl o12)) (tn o6 (tn o10 (tl (oS2 due)) te) (tn o14 (tl o20) te))))⟩
noncomputable def M1 : AHeap := ⟨10, (tn o27 (tn o28 (tn o30 (tl o7) te) (tn o5 (tl o9) te)) (tn o29 (tn o4 (tl o8) te) (tl o29)))⟩
def cfgL : List Value := [lC 4621819117588971520 4621819117588971520,lI 4,lI 3,lI 5,lI 2,lI 8,lI 4000]
def stL : List Value := [lI 11,lS [102],lS [],lS [97],lI 0,lI 7,lI 1,lI 1,.slice none 0 0]
abbrev tickF : FuncId := 9
def unT : Value → Value
  | .tuple ⟨[a, _]⟩ => a
  | _ => .bool false
def idOf : Value → Nat
  | .slice (some a) _ _ => a.block
  | _ => 0
noncomputable def objIs (o : Option AObj) : Bool := match o with
  | some o => bAnd (eqL0 o.cells stL) (bAnd (Nat.beq o.elem 34) (bAnd (Nat.beq o.kind 0) (Nat.beq o.es 9)))
  | none => false
noncomputable def nilT : Value := lD [.slice none 0 0,lI 0]
/-- A tick at which nothing is due. -/
noncomputable def okN (i d due : Nat) : Bool := match cc i 0 0 tickF [lP 9, .chan (some i)] (H (i - 1) d due) with
  | some r => bAnd (eqV2 r.1 nilT) (sameR [lP 9] (H i d due) 23 .nil [lP 9] r.2)
  | none => false
/-- A tick at which it is due. -/
noncomputable def okY (i dp d j : Nat) : Bool := match cc i d j tickF [lP 9, .chan (some i)] (H (i - 1) dp i) with
  | some r => bAnd (eqV2 r.1 (lD [lO (idOf (unT r.1)) 0 1 1,lI 0])) (bAnd (objIs (r.2.get (idOf (unT r.1)))) (sameR [lP 9] (H i d (i + d - j)) 23 .nil [lP 9] r.2))
  | none => false
/-- A tick when it was acknowledged. -/
noncomputable def okE (k due : Nat) : Bool := match cc 0 0 0 tickF [lP 9, lI (k : Nat)] (H2 (60 + k) due) with
  | some r => bAnd (eqV2 r.1 nilT) (sameR [lP 9] (H2 (61 + k) due) 24 .nil [lP 9] r.2)
  | none => false
noncomputable def ck (f : FuncId) (args : List Value) (h : AHeap) : Option (Value × AHeap) := cc 0 0 0 f args h
noncomputable def rv (r : Option (Value × AHeap)) : Value := match r with
  | some r => r.1
  | none => .bool false
noncomputable def rh (r : Option (Value × AHeap)) : AHeap := match r with
  | some r => r.2
  | none => h0
theorem r_eq {r : Option (Value × AHeap)} {v : Value} (h : r.map (·.1) = some v) : r = some (v, rh r) := by
  cases r with
  | none => cases h
  | some r =>
    simp only [Option.map_some, Option.some.injEq] at h
    rw [← h]
    rfl
/-- The acknowledgement. -/
noncomputable def rAk (due : Nat) : Option (Value × AHeap) := ck 11 [lS [97],lI 1,lI 1] (H 60 8 due)
noncomputable def rAs (due : Nat) : Option (Value × AHeap) := ck 6 [lP 9,rv (rAk due),lI 0,.slice none 0 0] (rh (rAk due))
noncomputable def okA (due : Nat) : Bool := bAnd (match rAk due with
  | some _ => true
  | none => false) (match rAs due with
  | some r => bAnd (eqV2 r.1 lT) (sameR [lP 9] (H2 60 due) 23 (sl 74) [lP 9] r.2)
  | none => false)
/-! The beginning. -/
noncomputable def rP : Option (Value × AHeap) := ck 5 [] h0
noncomputable def rU : Option (Value × AHeap) := ck 4 [lA cfgL] (rh rP)
noncomputable def rO : Option (Value × AHeap) := ck 7 [lS [120],lC 4636737291354636288 0,lL 10 0 1 1] (M1.push ⟨[lS [97]], 9, 0, 1⟩)
noncomputable def rS : Option (Value × AHeap) := ck 8 [lS [97],lI 1,lI 1,lI 7] (rh rO)
noncomputable def hW : AHeap := (rh rS).push ⟨stL, 34, 0, 9⟩
noncomputable def rD : Option (Value × AHeap) := ck 6 [lP 9,rv rO,lI 0,lL (rh rS).n 0 1 1] hW
set_option maxRecDepth 1000000
theorem rP_v : rP.map (·.1) = some (lA cfgL) := by kernel_rfl
theorem rU_v : rU.map (·.1) = some (lD [lP 20,lP 3,lT]) := by kernel_rfl
theorem rU_s : sameR [lP 9,lP 1,lT] M1 0 (sn 2 (sn 3 (sn 8 (sl 18) se) (sn 13 (sl 20) se)) (sn 7 (sn 12 (sl 19) se) (sl 17))) [lP 20,lP 3,lT] (rh rU) = true := by kernel_rfl
theorem rO_s : rO.isSome = true := by kernel_rfl
theorem rS_v : rS.map (·.1) = some (lA stL) := by kernel_rfl
theorem rD_v : rD.map (·.1) = some lT := by kernel_rfl
theorem rD_s : sameR [lP 9] (H 0 2 2) 11 (sn 14 (sn 16 (sn 141 (sl 155) (sl 212)) (sn 148 (sl 202) se)) (sn 140 (sn 146 (sl 201) se) (sn 151 (sl 207) se))) [lP 9] (rh rD) = true := by kernel_rfl
end Go.Proofs.YtikbklfbinanpaaGreatDoor.agentAgain
