/-
  Names: made, Name, Flow.
-/
import Derived.Test.YtdecceekodpjiaaDoorDMem
import Derived.Test.YtdecceekodpjiaaDoorDLay
namespace Go.Proofs.YtdecceekodpjiaaDoor
open Go.RowKit

theorem indexByte_neg (l : List UInt8) (c : UInt8) : (Lib.indexByte l c < 0) ↔ l.contains c = false := by
  induction l with
  | nil => simp [Lib.indexByte]
  | cons b r ih =>
    have hge := Lib.indexByte_ge r c
    unfold Lib.indexByte
    by_cases h : b = c
    · subst h; simp
    · have h2 : (b == c) = false := by simpa using h
      have h3 : (c == b) = false := by simpa using fun e => h e.symm
      rw [h2, List.contains_cons, h3, Bool.false_or, ← ih]
      simp only [Bool.false_eq_true, if_false]
      split
      · rename_i h4; simp at h4; omega
      · rename_i h4; simp at h4; omega


theorem all_next (s : ByteArray) (f : UInt8 → Bool) {k : Nat} (hk : k < s.size) : (s.data.toList.take (k + 1)).all f = ((s.data.toList.take k).all f && f (s[k]'hk)) := by
  have hl : k < s.data.toList.length := by simpa using hk
  rw [List.take_add_one, List.getElem?_eq_getElem hl, List.all_append]
  simp
  rfl

theorem all_ge (l : List UInt8) (f : UInt8 → Bool) (k : Nat) (h : (l.take k).all f = false) : l.all f = false := by
  cases hb : l.all f with
  | false => rfl
  | true =>
    rw [List.all_eq_true] at hb
    have : (l.take k).all f = true := List.all_eq_true.2 fun x hx => hb x (List.mem_of_mem_take hx)
    rw [this] at h; cases h

set_option maxRecDepth 100000 in
set_option maxHeartbeats 1000000 in
theorem made_any (w : World) (s l : ByteArray) (most : Int) (hm : most ≤ 1000) :
    Calls Tryd.prog 52 #[.string s, .string l, .int .i64 most] w fun e w' => e = .returned (.bool (madeP s l most)) ∧ w' = w := by
  unfold madeP
  by_cases h1 : 1 ≤ s.size
  · by_cases h2 : (s.size : Int) ≤ most
    · simp only [h1, h2, decide_true, Bool.true_and]
      go_enter Tryd.func52, Tryd.ntmps52
      go_wp2
      go_loopw [19] (fun i wr => ∃ (k : Nat), k ≤ s.size ∧ i = .int .i64 k ∧ wr = w ∧ (s.data.toList.take k).all (fun c => l.data.toList.contains c) = true) (fun i _ => s.size - (intOf i).toNat)
      case atStart => exact ⟨0, Nat.zero_le _, rfl, rfl, rfl⟩
      case round =>
        obtain ⟨k, hk, rfl, hwr, hall⟩ := hrel
        subst hwr
        by_cases hlt : k < s.size
        · have hix : ∀ W, (Instr.index 9 (.string s) (.int .i64 (k : Int))).run Tryd.prog W = .ok (.int .u8 (((s[k]'hlt).toNat : Nat) : Int)) W := fun W => by
            rw [run_index_string W _ _ _ _ Tryd.underlying9]
            rw [dif_pos ⟨by omega, by omega⟩]
            simp
          have hnx := all_next s (fun c => l.data.toList.contains c) hlt
          rw [hall, Bool.true_and] at hnx
          have ec : (((s[k]'hlt).toNat : Nat) : Int).toNat.toUInt8 = s[k]'hlt := by simp
          have hI := Any.strings_IndexByte Tryd.indexByteL l (((s[k]'hlt).toNat : Nat) : Int) wr
          rw [ec] at hI
          have hng := indexByte_neg l.data.toList (s[k]'hlt)
          have hge := Lib.indexByte_ge l.data.toList (s[k]'hlt)
          have e0 : (k : Int) < (s.size : Int) := by omega
          change Calls Tryd.prog 65 _ _ _ at hI
          generalize Lib.indexByte l.data.toList (s[k]'hlt) = ix at *
          have HA : Hid ((s.data.toList.take (k + 1)).all (fun c => l.data.toList.contains c) = l.data.toList.contains (s[k]'hlt)) := hnx
          have HN : Hid (ix < 0 ↔ l.data.toList.contains (s[k]'hlt) = false) := hng
          clear hng hnx ec
          by_cases hneg : ix < 0
          · go_wp2_with (first
              | (go_at_call 65; refine hI.mono ?_; rintro e w1 ⟨rfl, rfl⟩; clear hI)
              | fail)
            go_ret
            refine ⟨?_, rfl⟩
            rw [all_ge _ _ (k + 1) (by rw [HA.out]; exact HN.out.1 hneg)]
            rfl
          · go_wp2_with (first
              | (go_at_call 65; refine hI.mono ?_; rintro e w1 ⟨rfl, rfl⟩; clear hI)
              | fail)
            go_roundw
            case rel =>
              refine ⟨k + 1, by omega, by go_num, trivial, ?_⟩
              rw [HA.out]
              cases hb : l.data.toList.contains (s[k]'hlt) with
              | true => rfl
              | false => have := HN.out.2 hb; omega
            case measure => simp [intOf]; omega
        · obtain rfl : k = s.size := by omega
          go_wp2
          go_ret
          refine ⟨?_, rfl⟩
          have e : s.data.toList.take s.size = s.data.toList := List.take_of_length_le (by simp)
          rw [e] at hall
          rw [hall]
          rfl
    · simp only [h1, h2, decide_true, decide_false, Bool.true_and, Bool.false_and]
      go_enter Tryd.func52, Tryd.ntmps52
      go_wp2
      go_ret
      exact ⟨rfl, rfl⟩
  · simp only [h1, decide_false, Bool.false_and]
    go_enter Tryd.func52, Tryd.ntmps52
    go_wp2
    go_ret
    exact ⟨rfl, rfl⟩

set_option maxRecDepth 100000 in
set_option maxHeartbeats 1000000 in
theorem name_any (w : World) (s : ByteArray) :
    Calls Tryd.prog 36 #[.string s] w fun e w' => e = .returned (.bool (nameP s)) ∧ w' = w := by
  have h := made_any w s lettersB 64 (by decide)
  unfold nameP
  generalize madeP s lettersB 64 = b at *
  unfold lettersB at h
  go_enter Tryd.func36, Tryd.ntmps36
  go_wp2_with (first
    | (go_at_call 52; refine h.mono ?_; rintro e w1 ⟨rfl, rfl⟩; clear h)
    | fail)
  go_ret
  exact ⟨rfl, rfl⟩

end Go.Proofs.YtdecceekodpjiaaDoor
