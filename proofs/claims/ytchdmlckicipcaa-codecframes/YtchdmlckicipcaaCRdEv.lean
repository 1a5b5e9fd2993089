/-
  The codec's readers: the end; ReadNumber.
-/
import Derived.Test.YtchdmlckicipcaaCRdMore
namespace Go.Proofs.Ytchdmlckicipcaa
open Go.RowKit

section
variable {w : World} {r : Nat} {a : Option Addr} {m c : Nat} {raw : List Int} {at_ : Nat} {bad : Bool}

/-- A new reader. -/
theorem RAt.new {w : World} {a : Option Addr} {m c : Nat} {raw : List Int} (B : BytesAt w a m c raw) (hm : m ≤ 140737488355328) : RAt (w.alloc (.cells #[.slice a m c, .int .i64 0, .bool false] 58)) w.heap.size a m c raw 0 false :=
  ⟨by rw [heap_alloc_new]; rfl, B.kept (Kept.alloc (fun _ => False) w _) (fun _ _ _ h => h), fun hne ad e => by have := B.lt e hne; omega, Nat.zero_le _, hm⟩

set_option maxRecDepth 100000 in
set_option maxHeartbeats 400000 in
theorem rclose_any (A : RAt w r a m c raw at_ bad) :
    Calls Try.prog 30 #[.pointer (some ⟨r, 0, none⟩)] w fun e w' => e = .returned (.tuple #[]) ∧ RAt w' r a m c raw at_ (bad || decide (at_ < m)) ∧ Kept (fun k => k = r) w w' := by
  have c0 := A.c0
  have c1 := A.c1
  have hle := A.le
  by_cases h : at_ < m
  · have hR : ∀ n, Calls Try.prog 35 #[.pointer (some ⟨r, 0, none⟩), .int .i64 at_] (w.drewN n) fun e w' => e = .returned (.bool false) ∧ RAt w' r a m c raw at_ true ∧ Kept (fun k => k = r) w w' := fun n => by
      refine (rrefuse_any (A.kept (Kept.drewN (fun _ => False) w n) (fun h => h) (fun _ _ _ h => h)) at_ hle).mono ?_
      rintro e w' ⟨rfl, A', K'⟩
      exact ⟨rfl, A', (Kept.drewN _ _ _).and K'⟩
    have h2 : (at_ : Int) < (m : Int) := by omega
    have hd : (bad || decide (at_ < m)) = true := by simp [h]
    rw [hd]
    clear A hd
    go_enter Try.func30, Try.ntmps30
    go_wp2_with fail
    go_quiet (fail)
    go_wp2_with (first
      | (go_at_call 35; refine (hR _).mono ?_; rintro e w1 ⟨rfl, A1, K1⟩; clear hR)
      | fail)
    go_end0
    exact ⟨rfl, A1, K1⟩
  · have h2 : ¬ (at_ : Int) < (m : Int) := by omega
    have hd : (bad || decide (at_ < m)) = bad := by simp [h]
    rw [hd]
    have HA : Hid _ := A
    clear A hd
    go_enter Try.func30, Try.ntmps30
    go_wp2_with fail
    go_quiet (fail)
    go_wp2
    go_end0
    exact ⟨rfl, HA.out.kept (Kept.drewN (fun _ => False) w _) (fun h => h) (fun _ _ _ h => h), Kept.drewN _ _ _⟩
end


end Go.Proofs.Ytchdmlckicipcaa
