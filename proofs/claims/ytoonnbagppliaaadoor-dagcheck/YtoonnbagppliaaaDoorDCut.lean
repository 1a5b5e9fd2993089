/-
  Lines and words: strings.Cut at a line end, wordsOf.
-/
import Derived.Test.YtoonnbagppliaaaDoorDRead3
namespace Go.Proofs.YtoonnbagppliaaaDoor
open Go.RowKit Go.Shelf

/-- The index of the first line end. -/
def nlAt (s : ByteArray) : Int := Lib.indexByte s.data.toList 10
def cutA (s : ByteArray) : ByteArray := if 0 ≤ nlAt s then s.extract 0 (nlAt s).toNat else s
def cutB (s : ByteArray) : ByteArray := if 0 ≤ nlAt s then s.extract ((nlAt s).toNat + 1) s.size else ⟨#[]⟩

theorem indexByte_lt (l : List UInt8) (c : UInt8) : Lib.indexByte l c < l.length := by
  induction l with
  | nil => simp [Lib.indexByte]
  | cons b r ih =>
    unfold Lib.indexByte
    simp only [List.length_cons]
    split
    · omega
    · split <;> omega

set_option maxRecDepth 100000 in
set_option maxHeartbeats 1000000 in
theorem sCut_any (w : World) (s : ByteArray) (hs : s.size ≤ 1000000) :
    Calls Tryd.prog 42 #[.string s, .string ⟨#[10]⟩] w fun e w' => e = .returned (.tuple #[.string (cutA s), .string (cutB s), .bool (decide (0 ≤ nlAt s))]) ∧ Kept (fun _ => False) w w' := by
  have h := Any.stringslite_Index_one Tryd.indexL s 10 w
  change Calls Tryd.prog 54 _ _ (fun e w' => e = .returned (.int .i64 (nlAt s)) ∧ _) at h
  have hlt : nlAt s < (s.size : Int) := by have := indexByte_lt s.data.toList 10; simpa [nlAt] using this
  have hge : -1 ≤ nlAt s := Lib.indexByte_ge _ _
  unfold cutA cutB
  generalize nlAt s = z at *
  by_cases hz : 0 ≤ z
  · simp only [hz, if_true, decide_true]
    obtain ⟨k, rfl⟩ : ∃ k : Nat, z = (k : Int) := ⟨z.toNat, by omega⟩
    have e1 : (k : Int) + 1 ≤ (s.size : Int) := by omega
    have e2 : (0 : Int) ≤ (k : Int) + 1 := by omega
    go_enter Tryd.func42, Tryd.ntmps42
    go_wp2_with (first
      | (go_at_call 54; refine h.mono ?_; rintro e w1 ⟨rfl, rfl⟩; clear h)
      | go_quiet (fail)
      | fail)
    go_ret3
    exact ⟨rfl, Kept.drewN _ _ _⟩
  · simp only [hz, if_false, decide_false]
    go_enter Tryd.func42, Tryd.ntmps42
    go_wp2_with (first
      | (go_at_call 54; refine h.mono ?_; rintro e w1 ⟨rfl, rfl⟩; clear h)
      | fail)
    go_ret3
    exact ⟨rfl, Kept.refl _ _⟩

set_option maxRecDepth 100000 in
set_option maxHeartbeats 1000000 in
theorem cut_any (w : World) (s : ByteArray) (hs : s.size ≤ 1000000) :
    Calls Tryd.prog 34 #[.string s, .string ⟨#[10]⟩] w fun e w' => e = .returned (.tuple #[.string (cutA s), .string (cutB s), .bool (decide (0 ≤ nlAt s))]) ∧ Kept (fun _ => False) w w' := by
  have h := sCut_any w s hs
  generalize cutA s = a at *
  generalize cutB s = b at *
  generalize decide (0 ≤ nlAt s) = d at *
  go_enter Tryd.func34, Tryd.ntmps34
  go_wp2_with (first
    | (go_at_call 42; refine h.mono ?_; rintro e w1 ⟨rfl, K1⟩; clear h)
    | fail)
  go_ret3
  exact ⟨rfl, K1⟩

/-- The words of a line. -/
def wordsP (s : ByteArray) : List ByteArray := Lib.goFieldsP (fun r => r == 32) s

set_option maxRecDepth 100000 in
set_option maxHeartbeats 1000000 in
theorem blank_any (w : World) (r : Nat) : Calls Tryd.prog 44 #[.int .i32 (r : Int)] w fun e w' => e = .returned (.bool (r == 32)) ∧ w' = w := by
  have hq : ((r : Int) == 32) = (r == 32) := by
    rw [Bool.eq_iff_iff, beq_iff_eq, beq_iff_eq]; omega
  generalize (r == 32) = b at *
  go_enter Tryd.func44, Tryd.ntmps44
  go_wp2
  go_ret
  exact ⟨rfl, rfl⟩

set_option maxRecDepth 100000 in
set_option maxHeartbeats 1000000 in
theorem wordsOf_any (w : World) (s : ByteArray) (hs : s.size ≤ 1000000) :
    Calls Tryd.prog 35 #[.string s] w fun e w' => ∃ A, e = .returned (.slice (some ⟨A, 0, none⟩) (wordsP s).length (wordsP s).length) ∧ w.heap.size ≤ A ∧ w'.ownsRow w.heap.size 9 1 (.slice (some ⟨A, 0, none⟩) (wordsP s).length (wordsP s).length) (wordsP s).length (strsV (wordsP s)) ∧ Kept (fun _ => False) w w' := by
  have h := Any.strings_FieldsFunc_runes Tryd.fieldsL 44 #[] (enters_of Tryd.func44 (by kernel_rfl) rfl) (fun r => r == 32) s w (by omega) (fun W x _ _ => (blank_any W x).mono fun e W2 h => ⟨h.1, 0, h.2⟩) (by kernel_rfl) (by kernel_rfl)
  change Calls Tryd.prog 43 _ _ (fun e w' => ∃ A, e = .returned (.slice (some ⟨A, 0, none⟩) (wordsP s).length (wordsP s).length) ∧ w.heap.size ≤ A ∧ w'.ownsRow w.heap.size 9 1 (.slice (some ⟨A, 0, none⟩) (wordsP s).length (wordsP s).length) (wordsP s).length (strsV (wordsP s)) ∧ Below w.heap.size w w') at h
  generalize wordsP s = l at *
  go_enter Tryd.func35, Tryd.ntmps35
  go_wp2_with (first
    | (go_at_call 43; refine h.mono ?_; rintro e w1 ⟨A, rfl, hA, O, K1⟩; clear h)
    | fail)
  go_ret
  exact ⟨A, rfl, hA, O, ⟨K1.os, K1.tape, K1.output, K1.size, fun k hk _ => K1.block k hk⟩⟩

end Go.Proofs.YtoonnbagppliaaaDoor
