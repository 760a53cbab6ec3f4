/-
  DERIVED: THE SHELF's CONTRACTS AT THIS DUMP, IN PLAIN WORDS (tools/lay-plain.mjs out of 'TrydShelfS.lean', which tools/lay-shelf.mjs wrote): THE SAME DECLARATIONS UNDER THE SAME NAMES: 'import', 'namespace', 'open', 'def', 'theorem' AND NOTHING ELSE: no command of the shelf's: FOR A HAND-IN. Each laying: the table of numbers ('.._ren') and one theorem, a field a fact of the dump's own or the kernel's comparison; each contract: ONE APPLICATION.
-/
import Derived.Shelf.SlSortCmp.NoneTotal
import Derived.Ground.SlsfProg
import Derived.Test.YtdebiobhmpoiiaaDoorProg
namespace Go.Proofs
open Go.Shelf
def Tryd.sortL_ren : Go.Shelf.Ren := ⟨fun | 6 => 180 | 15 => 194 | 14 => 193 | 28 => 208 | 29 => 189 | 20 => 200 | 21 => 201 | 22 => 202 | 23 => 203 | 24 => 204 | 25 => 205 | 26 => 206 | 27 => 207 | 46 => 211 | 47 => 212 | 48 => 213 | 49 => 214 | 50 => 215 | 57 => 216 | n => n, fun | 22 => 170 | 24 => 34 | 25 => 209 | 3 => 3 | 39 => 193 | 0 => 0 | 53 => 211 | 55 => 197 | 4 => 4 | 46 => 227 | 45 => 226 | 50 => 173 | 5 => 5 | 9 => 9 | 66 => 237 | 70 => 241 | 76 => 243 | 77 => 244 | n => n, fun | n => n⟩
theorem Tryd.sortL : Go.Proofs.SlLaysF.n6 Tryd.prog Tryd.sortL_ren := {
  mixed := by kernel_rfl
  f6 := ⟨Tryd.f180.name, by decide, Tryd.func180.trans (congrArg some (by kernel_rfl))⟩
  f14 := ⟨Tryd.f193.name, by decide, Tryd.func193.trans (congrArg some (by kernel_rfl))⟩
  f15 := Tryd.func194.trans (congrArg some (by kernel_rfl))
  f20 := ⟨Tryd.f200.name, by decide, Tryd.func200.trans (congrArg some (by kernel_rfl))⟩
  f21 := ⟨Tryd.f201.name, by decide, Tryd.func201.trans (congrArg some (by kernel_rfl))⟩
  f22 := ⟨Tryd.f202.name, by decide, Tryd.func202.trans (congrArg some (by kernel_rfl))⟩
  f23 := ⟨Tryd.f203.name, by decide, Tryd.func203.trans (congrArg some (by kernel_rfl))⟩
  f24 := ⟨Tryd.f204.name, by decide, Tryd.func204.trans (congrArg some (by kernel_rfl))⟩
  f25 := ⟨Tryd.f205.name, by decide, Tryd.func205.trans (congrArg some (by kernel_rfl))⟩
  f26 := ⟨Tryd.f206.name, by decide, Tryd.func206.trans (congrArg some (by kernel_rfl))⟩
  f27 := ⟨Tryd.f207.name, by decide, Tryd.func207.trans (congrArg some (by kernel_rfl))⟩
  f28 := Tryd.func208.trans (congrArg some (by kernel_rfl))
  f29 := Tryd.func189.trans (congrArg some (by kernel_rfl))
  f46 := ⟨Tryd.f211.name, by decide, Tryd.func211.trans (congrArg some (by kernel_rfl))⟩
  f47 := Tryd.func212.trans (congrArg some (by kernel_rfl))
  f48 := Tryd.func213.trans (congrArg some (by kernel_rfl))
  f49 := ⟨Tryd.f214.name, by decide, Tryd.func214.trans (congrArg some (by kernel_rfl))⟩
  f50 := ⟨Tryd.f215.name, by decide, Tryd.func215.trans (congrArg some (by kernel_rfl))⟩
  f57 := ⟨Tryd.f216.name, by decide, Tryd.func216.trans (congrArg some (by kernel_rfl))⟩
  t0 := Tryd.underlying0
  a0 := Tryd.isAgg0
  z0 := Tryd.sizeOf0
  v0 := Tryd.zeroValue0
  t3 := Tryd.underlying3
  a3 := Tryd.isAgg3
  z3 := Tryd.sizeOf3
  v3 := Tryd.zeroValue3
  t4 := Tryd.underlying4
  a4 := Tryd.isAgg4
  z4 := Tryd.sizeOf4
  v4 := Tryd.zeroValue4
  t5 := Tryd.underlying5
  a5 := Tryd.isAgg5
  z5 := Tryd.sizeOf5
  v5 := Tryd.zeroValue5
  t9 := Tryd.underlying9
  a9 := Tryd.isAgg9
  z9 := Tryd.sizeOf9
  v9 := Tryd.zeroValue9
  t22 := Tryd.underlying170
  a22 := Tryd.isAgg170
  z22 := Tryd.sizeOf170
  v22 := Tryd.zeroValue170
  a24 := Tryd.isAgg34
  z24 := Tryd.sizeOf34
  t25 := Tryd.underlying209
  a25 := Tryd.isAgg209
  z25 := Tryd.sizeOf209
  v25 := Tryd.zeroValue209
  t39 := Tryd.underlying193
  a39 := Tryd.isAgg193
  z39 := Tryd.sizeOf193
  v39 := Tryd.zeroValue193
  t45 := Tryd.underlying226
  a45 := Tryd.isAgg226
  z45 := Tryd.sizeOf226
  v45 := Tryd.zeroValue226
  t46 := Tryd.underlying227
  a46 := Tryd.isAgg227
  z46 := Tryd.sizeOf227
  v46 := Tryd.zeroValue227
  t50 := Tryd.underlying173
  a50 := Tryd.isAgg173
  z50 := Tryd.sizeOf173
  v50 := Tryd.zeroValue173
  t53 := Tryd.underlying211
  a53 := Tryd.isAgg211
  z53 := Tryd.sizeOf211
  v53 := Tryd.zeroValue211
  t55 := Tryd.underlying197
  a55 := Tryd.isAgg197
  z55 := Tryd.sizeOf197
  v55 := Tryd.zeroValue197
  t66 := Tryd.underlying237
  a66 := Tryd.isAgg237
  z66 := Tryd.sizeOf237
  v66 := Tryd.zeroValue237
  t70 := Tryd.underlying241
  a70 := Tryd.isAgg241
  z70 := Tryd.sizeOf241
  v70 := Tryd.zeroValue241
  t76 := Tryd.underlying243
  a76 := Tryd.isAgg243
  z76 := Tryd.sizeOf243
  v76 := Tryd.zeroValue243
  t77 := Tryd.underlying244
  a77 := Tryd.isAgg244
  z77 := Tryd.sizeOf244
  v77 := Tryd.zeroValue244 }
end Go.Proofs
