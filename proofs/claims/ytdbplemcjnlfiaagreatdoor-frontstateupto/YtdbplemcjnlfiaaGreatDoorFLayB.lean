/-
  The numbers under which this program bears the functions of the library that front calls: written by program for this dump.
-/
import Derived.Shelf.Bytes.SlIndexWhole
import Derived.Ground.NamesProg
import Derived.Test.YtdbplemcjnlfiaaGreatDoorProg
namespace Go.Proofs
open Go.Shelf
def Tryz.bytesIndexL_ren : Go.Shelf.Ren := ⟨fun | 185 => 41 | 187 => 52 | 115 => 53 | 253 => 54 | 224 => 55 | 254 => 56 | 255 => 73 | 291 => 74 | n => n, fun | 37 => 47 | 3 => 3 | 4 => 4 | 0 => 0 | 5 => 5 | 46 => 90 | 9 => 9 | 146 => 110 | 51 => 109 | n => n, fun | 1 => 2 | n => n⟩
theorem Tryz.bytesIndexL : Go.Proofs.Lays.n185 Tryz.prog Tryz.bytesIndexL_ren := {
  mixed := by kernel_rfl
  f115 := Tryz.func53.trans (congrArg some (by kernel_rfl))
  f185 := Tryz.func41.trans (congrArg some (by kernel_rfl))
  f187 := Tryz.func52.trans (congrArg some (by kernel_rfl))
  f224 := Tryz.func55.trans (congrArg some (by kernel_rfl))
  f253 := Tryz.func54.trans (congrArg some (by kernel_rfl))
  f254 := Tryz.func56.trans (congrArg some (by kernel_rfl))
  f255 := Tryz.func73.trans (congrArg some (by kernel_rfl))
  f291 := Tryz.func74.trans (congrArg some (by kernel_rfl))
  t0 := Tryz.underlying0
  a0 := Tryz.isAgg0
  z0 := Tryz.sizeOf0
  v0 := Tryz.zeroValue0
  t3 := Tryz.underlying3
  a3 := Tryz.isAgg3
  z3 := Tryz.sizeOf3
  v3 := Tryz.zeroValue3
  t4 := Tryz.underlying4
  a4 := Tryz.isAgg4
  z4 := Tryz.sizeOf4
  v4 := Tryz.zeroValue4
  t5 := Tryz.underlying5
  a5 := Tryz.isAgg5
  z5 := Tryz.sizeOf5
  v5 := Tryz.zeroValue5
  t9 := Tryz.underlying9
  a9 := Tryz.isAgg9
  z9 := Tryz.sizeOf9
  v9 := Tryz.zeroValue9
  t37 := Tryz.underlying47
  a37 := Tryz.isAgg47
  z37 := Tryz.sizeOf47
  v37 := Tryz.zeroValue47
  t46 := Tryz.underlying90
  a46 := Tryz.isAgg90
  z46 := Tryz.sizeOf90
  v46 := Tryz.zeroValue90
  t51 := Tryz.underlying109
  a51 := Tryz.isAgg109
  z51 := Tryz.sizeOf109
  v51 := Tryz.zeroValue109
  t146 := Tryz.underlying110
  a146 := Tryz.isAgg110
  z146 := Tryz.sizeOf110
  v146 := Tryz.zeroValue110
  g1 := by kernel_rfl }
end Go.Proofs
