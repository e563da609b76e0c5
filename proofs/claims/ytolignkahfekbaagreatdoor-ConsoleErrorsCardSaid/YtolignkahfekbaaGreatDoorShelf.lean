/-
  DERIVED: THE SHELF's CONTRACTS AT THIS DUMP, IN PLAIN WORDS (tools/lay-plain.mjs out of 'TryzShelf.lean', which tools/lay-shelf.mjs wrote): THE SAME DECLARATIONS UNDER THE SAME NAMES: 'import', 'namespace', 'open', 'def', 'theorem' AND NOTHING ELSE: no command of the shelf's: FOR A HAND-IN. Each laying: the table of numbers ('.._ren') and one theorem, a field a fact of the dump's own or the kernel's comparison; each contract: ONE APPLICATION.
-/
import Derived.Shelf.Sort.Plain
import Derived.Test.YtolignkahfekbaaGreatDoorProg
namespace Go.Proofs
open Go.Shelf
def Tryz.lays190_ren : Go.Shelf.Ren := ⟨fun | 190 => 158 | 125 => 221 | 258 => 220 | 128 => 289 | 129 => 251 | 302 => 280 | 303 => 281 | 304 => 282 | 305 => 283 | 306 => 284 | 307 => 285 | 308 => 286 | 309 => 287 | 310 => 288 | 333 => 325 | 329 => 326 | 330 => 327 | 334 => 328 | 335 => 329 | 336 => 330 | 344 => 348 | n => n, fun | 31 => 31 | 9 => 9 | 3 => 3 | 46 => 196 | 0 => 0 | 51 => 267 | 53 => 280 | 4 => 4 | 183 => 364 | 182 => 363 | 131 => 113 | 5 => 5 | 218 => 389 | 222 => 393 | 228 => 411 | 229 => 102 | n => n, fun | n => n⟩
theorem Tryz.lays190 : Go.Proofs.Lays.n190 Tryz.prog Tryz.lays190_ren := {
  mixed := by kernel_rfl
  f125 := Tryz.func221.trans (congrArg some (by kernel_rfl))
  f128 := Tryz.func289.trans (congrArg some (by kernel_rfl))
  f129 := Tryz.func251.trans (congrArg some (by kernel_rfl))
  f190 := Tryz.func158.trans (congrArg some (by kernel_rfl))
  f258 := Tryz.func220.trans (congrArg some (by kernel_rfl))
  f302 := Tryz.func280.trans (congrArg some (by kernel_rfl))
  f303 := Tryz.func281.trans (congrArg some (by kernel_rfl))
  f304 := Tryz.func282.trans (congrArg some (by kernel_rfl))
  f305 := Tryz.func283.trans (congrArg some (by kernel_rfl))
  f306 := Tryz.func284.trans (congrArg some (by kernel_rfl))
  f307 := Tryz.func285.trans (congrArg some (by kernel_rfl))
  f308 := Tryz.func286.trans (congrArg some (by kernel_rfl))
  f309 := Tryz.func287.trans (congrArg some (by kernel_rfl))
  f310 := Tryz.func288.trans (congrArg some (by kernel_rfl))
  f329 := Tryz.func326.trans (congrArg some (by kernel_rfl))
  f330 := Tryz.func327.trans (congrArg some (by kernel_rfl))
  f333 := Tryz.func325.trans (congrArg some (by kernel_rfl))
  f334 := Tryz.func328.trans (congrArg some (by kernel_rfl))
  f335 := Tryz.func329.trans (congrArg some (by kernel_rfl))
  f336 := Tryz.func330.trans (congrArg some (by kernel_rfl))
  f344 := Tryz.func348.trans (congrArg some (by kernel_rfl))
  t0 := Tryz.underlying0
  a0 := Tryz.isAgg0
  z0 := Tryz.sizeOf0
  v0 := Tryz.zeroValue0
  t3 := Tryz.underlying3
  a3 := Tryz.isAgg3
  z3 := Tryz.sizeOf3
  v3 := Tryz.zeroValue3
  t4 := Tryz.underlying4
  a4 := Tryz.isAgg4
  z4 := Tryz.sizeOf4
  v4 := Tryz.zeroValue4
  t5 := Tryz.underlying5
  a5 := Tryz.isAgg5
  z5 := Tryz.sizeOf5
  v5 := Tryz.zeroValue5
  t9 := Tryz.underlying9
  a9 := Tryz.isAgg9
  z9 := Tryz.sizeOf9
  v9 := Tryz.zeroValue9
  t31 := Tryz.underlying31
  a31 := Tryz.isAgg31
  z31 := Tryz.sizeOf31
  v31 := Tryz.zeroValue31
  t46 := Tryz.underlying196
  a46 := Tryz.isAgg196
  z46 := Tryz.sizeOf196
  v46 := Tryz.zeroValue196
  t51 := Tryz.underlying267
  a51 := Tryz.isAgg267
  z51 := Tryz.sizeOf267
  v51 := Tryz.zeroValue267
  t53 := Tryz.underlying280
  a53 := Tryz.isAgg280
  z53 := Tryz.sizeOf280
  v53 := Tryz.zeroValue280
  t131 := Tryz.underlying113
  a131 := Tryz.isAgg113
  z131 := Tryz.sizeOf113
  v131 := Tryz.zeroValue113
  t182 := Tryz.underlying363
  a182 := Tryz.isAgg363
  z182 := Tryz.sizeOf363
  v182 := Tryz.zeroValue363
  t183 := Tryz.underlying364
  a183 := Tryz.isAgg364
  z183 := Tryz.sizeOf364
  v183 := Tryz.zeroValue364
  t218 := Tryz.underlying389
  a218 := Tryz.isAgg389
  z218 := Tryz.sizeOf389
  v218 := Tryz.zeroValue389
  t222 := Tryz.underlying393
  a222 := Tryz.isAgg393
  z222 := Tryz.sizeOf393
  v222 := Tryz.zeroValue393
  t228 := Tryz.underlying411
  a228 := Tryz.isAgg411
  z228 := Tryz.sizeOf411
  v228 := Tryz.zeroValue411
  t229 := Tryz.underlying102
  a229 := Tryz.isAgg102
  z229 := Tryz.sizeOf102
  v229 := Tryz.zeroValue102 }
open Go.Sort Go.RowKit in
theorem Tryz.slices_Sort_string (blk off cap : Nat) (ss : List (List UInt8)) (w : World) (hH : Holds encStr w blk off ss.toArray) (hblk : blk < w.heap.size) (hsz : ss.length < 4611686018427387904) :
    Calls Tryz.prog 158 #[.slice (some ⟨blk, off, none⟩) ss.length cap] w fun e w' =>
      e = .returned (.tuple #[]) ∧ ∃ n os, w' = grow (putRow encStr (Sort.ahead w n) blk off (ss.mergeSort fun x y => decide (x ≤ y)).toArray) os := Any.slices_Sort_string Tryz.lays190 blk off cap ss w hH hblk hsz
end Go.Proofs
