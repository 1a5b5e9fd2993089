/-
  The law's plain: a remark's text.
-/
import Derived.Test.YtlholgpenpfpbaaDoorDWide
import Derived.Test.YtlholgpenpfpbaaDoorDRefWords
namespace Go.Proofs.YtlholgpenpfpbaaDoor
open Go.RowKit

theorem plain_take {s : ByteArray} {i : Nat} (hi : i < s.size) : s.data.toList.take (i + 1) = s.data.toList.take i ++ [s.get! i] := by
  rw [List.take_add_one, get_list hi]
  rfl

theorem plain_end {s : ByteArray} {i : Nat} (h : ¬ i < s.size ∨ ¬ i < 40) (hi : i ≤ 40) : (s.data.toList.take i).filter (fun b => b != 10) = plainP s := by
  unfold plainP
  have hl : s.data.toList.length = s.size := by simp
  rcases h with h | h
  · rw [List.take_of_length_le (by omega), List.take_of_length_le (by omega)]
  · rw [show i = 40 by omega]

theorem list_mk {x : ByteArray} {l : List UInt8} (h : x.data.toList = l) : x = mkB l := by rw [← h, mkB_data]

set_option maxRecDepth 100000 in
set_option maxHeartbeats 2000000 in
theorem plain_any (w : World) (s : ByteArray) (hs : s.size ≤ maxLen) :
    Calls Tryd.prog 13 #[.string s] w fun e w' => e = .returned (.string (mkB (plainP s))) ∧ w' = w := by
  have hM : s.size ≤ 9223372036854775807 := Nat.le_trans hs (by decide)
  clear hs
  go_enter Tryd.func13, Tryd.ntmps13
  go_wp2_with fail
  go_loopw [3, 4] (fun p q wr => ∃ (i : Nat) (acc : ByteArray), i ≤ 40 ∧ q = .int .i64 i ∧ p = .string acc ∧ acc.data.toList = (s.data.toList.take i).filter (fun b => b != 10) ∧ acc.size ≤ i ∧ wr = w) (fun _ q _ => 41 - (intOf q).toNat)
  case atStart => exact ⟨0, ⟨#[]⟩, Nat.zero_le _, rfl, rfl, rfl, Nat.le_refl _, rfl⟩
  case round =>
    obtain ⟨i, acc, hi, rfl, rfl, hacc, hsz, hw⟩ := hrel
    subst hw
    have HA : Hid (acc.data.toList = (s.data.toList.take i).filter (fun b => b != 10)) := hacc
    clear hacc
    by_cases hlt : i < s.size
    · have e0 : (i : Int) < (s.size : Int) := by omega
      by_cases h40 : i < 40
      · have e1 : (i : Int) < 40 := by omega
        have hx : (s.extract i (i + 1)).size ≤ 1 := by rw [ByteArray.size_extract]; omega
        have HT := plain_take hlt
        have HO := one_byte hlt
        by_cases h10 : s.get! i = 10
        · have hb : (((s[i]).toNat : Int) != 10) = false := (byte_not hlt 10).trans (by rw [h10]; rfl)
          have HN : Hid (acc.data.toList = (s.data.toList.take (i + 1)).filter (fun b => b != 10)) := by
            show _ = _
            rw [HT, h10, List.filter_append, HA.out]
            simp
          clear HT HO h10
          go_wp2_with fail
          go_roundw
          case rel => exact ⟨i + 1, acc, by omega, by go_num, rfl, HN.out, by omega, trivial⟩
          case measure => simp [intOf]; omega
        · have hb : (((s[i]).toNat : Int) != 10) = true := (byte_not hlt 10).trans (by simp [h10])
          have HN : Hid ((acc ++ s.extract i (i + 1)).data.toList = (s.data.toList.take (i + 1)).filter (fun b => b != 10)) := by
            show _ = _
            rw [add_list, HO, HT, List.filter_append, HA.out]
            simp [h10]
          have HS : Hid ((acc ++ s.extract i (i + 1)).size ≤ i + 1) := by
            show _ ≤ _
            rw [ByteArray.size_append]
            omega
          clear HT HO h10
          go_wp2_with fail
          go_roundw
          case rel => exact ⟨i + 1, acc ++ s.extract i (i + 1), by omega, by go_num, rfl, HN.out, HS.out, trivial⟩
          case measure => simp [intOf]; omega
      · have e1 : ¬ (i : Int) < 40 := by omega
        have HE : Hid (acc = mkB (plainP s)) := list_mk (by rw [HA.out]; exact plain_end (.inr h40) hi)
        go_wp2_with fail
        go_ret
        rw [← HE.out]
        exact ⟨rfl, rfl⟩
    · have e0 : ¬ (i : Int) < (s.size : Int) := by omega
      have HE : Hid (acc = mkB (plainP s)) := list_mk (by rw [HA.out]; exact plain_end (.inl hlt) hi)
      go_wp2_with fail
      go_ret
      rw [← HE.out]
      exact ⟨rfl, rfl⟩

end Go.Proofs.YtlholgpenpfpbaaDoor
