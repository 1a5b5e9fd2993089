/-
  The numbers under which this program bears the functions of the library that front calls: written by program for this dump.
-/
import Derived.Shelf.Bytes.SlIndexWhole
import Derived.Ground.NamesProg
import Derived.Test.YtcbiibkmmbilbaaGreatDoorProg
namespace Go.Proofs
open Go.Shelf
def Tryz.bytesIndexL_ren : Go.Shelf.Ren := ⟨fun | 185 => 16 | 187 => 29 | 115 => 30 | 253 => 31 | 224 => 32 | 254 => 33 | 255 => 51 | 291 => 52 | n => n, fun | 37 => 23 | 3 => 3 | 4 => 4 | 0 => 0 | 5 => 5 | 46 => 57 | 9 => 9 | 146 => 76 | 51 => 75 | n => n, fun | 1 => 0 | n => n⟩
theorem Tryz.bytesIndexL : Go.Proofs.Lays.n185 Tryz.prog Tryz.bytesIndexL_ren := {
  mixed := by kernel_rfl
  f115 := Tryz.func30.trans (congrArg some (by kernel_rfl))
  f185 := Tryz.func16.trans (congrArg some (by kernel_rfl))
  f187 := Tryz.func29.trans (congrArg some (by kernel_rfl))
  f224 := Tryz.func32.trans (congrArg some (by kernel_rfl))
  f253 := Tryz.func31.trans (congrArg some (by kernel_rfl))
  f254 := Tryz.func33.trans (congrArg some (by kernel_rfl))
  f255 := Tryz.func51.trans (congrArg some (by kernel_rfl))
  f291 := Tryz.func52.trans (congrArg some (by kernel_rfl))
  t0 := Tryz.underlying0
  a0 := Tryz.isAgg0
  z0 := Tryz.sizeOf0
  v0 := Tryz.zeroValue0
  t3 := Tryz.underlying3
  a3 := Tryz.isAgg3
  z3 := Tryz.sizeOf3
  v3 := Tryz.zeroValue3
  t4 := Tryz.underlying4
  a4 := Tryz.isAgg4
  z4 := Tryz.sizeOf4
  v4 := Tryz.zeroValue4
  t5 := Tryz.underlying5
  a5 := Tryz.isAgg5
  z5 := Tryz.sizeOf5
  v5 := Tryz.zeroValue5
  t9 := Tryz.underlying9
  a9 := Tryz.isAgg9
  z9 := Tryz.sizeOf9
  v9 := Tryz.zeroValue9
  t37 := Tryz.underlying23
  a37 := Tryz.isAgg23
  z37 := Tryz.sizeOf23
  v37 := Tryz.zeroValue23
  t46 := Tryz.underlying57
  a46 := Tryz.isAgg57
  z46 := Tryz.sizeOf57
  v46 := Tryz.zeroValue57
  t51 := Tryz.underlying75
  a51 := Tryz.isAgg75
  z51 := Tryz.sizeOf75
  v51 := Tryz.zeroValue75
  t146 := Tryz.underlying76
  a146 := Tryz.isAgg76
  z146 := Tryz.sizeOf76
  v146 := Tryz.zeroValue76
  g1 := by kernel_rfl }
end Go.Proofs
