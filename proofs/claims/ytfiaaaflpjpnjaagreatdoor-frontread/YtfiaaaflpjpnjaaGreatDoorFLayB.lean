/-
  The numbers under which this program bears the functions of the library that front calls: written by program for this dump.
-/
import Derived.Shelf.Bytes.SlIndexWhole
import Derived.Ground.NamesProg
import Derived.Test.YtfiaaaflpjpnjaaGreatDoorProg
namespace Go.Proofs
open Go.Shelf
def Tryz.bytesIndexL_ren : Go.Shelf.Ren := ⟨fun | 185 => 13 | 187 => 26 | 115 => 27 | 253 => 28 | 224 => 29 | 254 => 30 | 255 => 49 | 291 => 50 | n => n, fun | 37 => 23 | 3 => 3 | 4 => 4 | 0 => 0 | 5 => 5 | 46 => 55 | 9 => 9 | 146 => 75 | 51 => 74 | n => n, fun | 1 => 0 | n => n⟩
theorem Tryz.bytesIndexL : Go.Proofs.Lays.n185 Tryz.prog Tryz.bytesIndexL_ren := {
  mixed := by kernel_rfl
  f115 := Tryz.func27.trans (congrArg some (by kernel_rfl))
  f185 := Tryz.func13.trans (congrArg some (by kernel_rfl))
  f187 := Tryz.func26.trans (congrArg some (by kernel_rfl))
  f224 := Tryz.func29.trans (congrArg some (by kernel_rfl))
  f253 := Tryz.func28.trans (congrArg some (by kernel_rfl))
  f254 := Tryz.func30.trans (congrArg some (by kernel_rfl))
  f255 := Tryz.func49.trans (congrArg some (by kernel_rfl))
  f291 := Tryz.func50.trans (congrArg some (by kernel_rfl))
  t0 := Tryz.underlying0
  a0 := Tryz.isAgg0
  z0 := Tryz.sizeOf0
  v0 := Tryz.zeroValue0
  t3 := Tryz.underlying3
  a3 := Tryz.isAgg3
  z3 := Tryz.sizeOf3
  v3 := Tryz.zeroValue3
  t4 := Tryz.underlying4
  a4 := Tryz.isAgg4
  z4 := Tryz.sizeOf4
  v4 := Tryz.zeroValue4
  t5 := Tryz.underlying5
  a5 := Tryz.isAgg5
  z5 := Tryz.sizeOf5
  v5 := Tryz.zeroValue5
  t9 := Tryz.underlying9
  a9 := Tryz.isAgg9
  z9 := Tryz.sizeOf9
  v9 := Tryz.zeroValue9
  t37 := Tryz.underlying23
  a37 := Tryz.isAgg23
  z37 := Tryz.sizeOf23
  v37 := Tryz.zeroValue23
  t46 := Tryz.underlying55
  a46 := Tryz.isAgg55
  z46 := Tryz.sizeOf55
  v46 := Tryz.zeroValue55
  t51 := Tryz.underlying74
  a51 := Tryz.isAgg74
  z51 := Tryz.sizeOf74
  v51 := Tryz.zeroValue74
  t146 := Tryz.underlying75
  a146 := Tryz.isAgg75
  z146 := Tryz.sizeOf75
  v146 := Tryz.zeroValue75
  g1 := by kernel_rfl }
end Go.Proofs
