/-
  A character that is read and written is as it was.
-/
import Derived.Test.YtdbplemcjnlfiaaGreatDoorFRead3
import Derived.Lib.MapLaws
namespace Go.Proofs.YtdbplemcjnlfiaaGreatDoor
open Go.RowKit

theorem enc_dec {s : ByteArray} {i : Nat} (h : i < s.size) (hb : ¬ ((Utf8.decode s i).1 = 65533 ∧ (Utf8.decode s i).2 = 1)) : Lib.encodeRune ((Utf8.decode s i).1 : Int) = (s.extract i (i + (Utf8.decode s i).2)).data.toList := by
  have e := Lib.decodeL_drop s i
  have h1 := Lib.encode_decode (s.data.toList.drop i) (by rw [drop_next s h]; simp) (by rw [e]; exact hb)
  rw [e] at h1
  rw [h1]
  have h2 := sub_extract s i (i + (Utf8.decode s i).2)
  rw [← h2]
  show _ = subL s i (i + (Utf8.decode s i).2)
  unfold subL
  rw [show i + (Utf8.decode s i).2 - i = (Utf8.decode s i).2 by omega]

end Go.Proofs.YtdbplemcjnlfiaaGreatDoor
