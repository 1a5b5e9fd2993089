/-
  The codec's readers: the end; ReadNumber.
-/
import Derived.Test.YtceocmhgbcimoabCRdMore
namespace Go.Proofs.Ytceocmhgbcimoab
open Go.RowKit

section
variable {w : World} {r : Nat} {a : Option Addr} {m c : Nat} {raw : List Int} {at_ : Nat} {bad : Bool}

/-- A new reader. -/
theorem RAt.new {w : World} {a : Option Addr} {m c : Nat} {raw : List Int} (B : BytesAt w a m c raw) (hm : m ≤ 140737488355328) : RAt (w.alloc (.cells #[.slice a m c, .int .i64 0, .bool false] 104)) w.heap.size a m c raw 0 false :=
  ⟨by rw [heap_alloc_new]; rfl, B.kept (Kept.alloc (fun _ => False) w _) (fun _ _ _ h => h), fun hne ad e => by have := B.lt e hne; omega, Nat.zero_le _, hm⟩

set_option maxRecDepth 100000 in
set_option maxHeartbeats 400000 in
theorem rclose_any (A : RAt w r a m c raw at_ bad) :
    Calls Try.prog 66 #[.pointer (some ⟨r, 0, none⟩)] w fun e w' => e = .returned (.tuple #[]) ∧ RAt w' r a m c raw at_ (bad || decide (at_ < m)) ∧ Kept (fun k => k = r) w w' := by
  have c0 := A.c0
  have c1 := A.c1
  have hle := A.le
  by_cases h : at_ < m
  · have hR : ∀ n, Calls Try.prog 87 #[.pointer (some ⟨r, 0, none⟩), .int .i64 at_] (w.drewN n) fun e w' => e = .returned (.bool false) ∧ RAt w' r a m c raw at_ true ∧ Kept (fun k => k = r) w w' := fun n => by
      refine (rrefuse_any (A.kept (Kept.drewN (fun _ => False) w n) (fun h => h) (fun _ _ _ h => h)) at_ hle).mono ?_
      rintro e w' ⟨rfl, A', K'⟩
      exact ⟨rfl, A', (Kept.drewN _ _ _).and K'⟩
    have h2 : (at_ : Int) < (m : Int) := by omega
    have hd : (bad || decide (at_ < m)) = true := by simp [h]
    rw [hd]
    clear A hd
    go_enter Try.func66, Try.ntmps66
    go_wp2_with fail
    go_quiet (fail)
    go_wp2_with (first
      | (go_at_call 87; refine (hR _).mono ?_; rintro e w1 ⟨rfl, A1, K1⟩; clear hR)
      | fail)
    go_end0
    exact ⟨rfl, A1, K1⟩
  · have h2 : ¬ (at_ : Int) < (m : Int) := by omega
    have hd : (bad || decide (at_ < m)) = bad := by simp [h]
    rw [hd]
    have HA : Hid _ := A
    clear A hd
    go_enter Try.func66, Try.ntmps66
    go_wp2_with fail
    go_quiet (fail)
    go_wp2
    go_end0
    exact ⟨rfl, HA.out.kept (Kept.drewN (fun _ => False) w _) (fun h => h) (fun _ _ _ h => h), Kept.drewN _ _ _⟩
end

set_option maxRecDepth 100000 in
set_option maxHeartbeats 400000 in
theorem readNumber_any (w : World) (a : Option Addr) (m c : Nat) (raw : List Int) (B : BytesAt w a m c raw) (hm : m ≤ 140737488355328) :
    Calls Try.prog 108 #[.slice a m c] w fun e w' =>
      ∃ n p er : Int, e = .returned (.tuple #[.int .i64 n, .int .i64 p, .int .i64 er]) ∧ (match rdNum 0 4503599627370496 raw 0 with | .error pl => n = 0 ∧ p = pl ∧ er = 2 | .ok (v, i) => n = v ∧ p = i ∧ er = 0) ∧ Kept (fun _ => False) w w' := by
  have hn := newCell w (.int .i64 0) 3
  have B0 := B.kept (Kept.alloc (fun _ => False) w (.cells #[.int .i64 0] 3)) (fun _ _ _ h => h)
  have A := RAt.new B0 hm
  have hs1 : (w.alloc (.cells #[.int .i64 0] 3)).heap.size = w.heap.size + 1 := by simp
  rw [hs1] at A
  have K0 := Kept.alloc (fun _ => False) (w.alloc (.cells #[.int .i64 0] 3)) (.cells #[.slice a m c, .int .i64 0, .bool false] 104)
  have y := cell_keep K0 hn.1 (fun h => h)
  rw [hn.2] at y
  have hN := rnum_any A w.heap.size 0 (.int .i64 0) y.1 y.2 (by omega) (fun hne ad e => by have := B.lt e hne; omega) 0 4503599627370496
  have fin : ∀ w', Kept (fun k => k = w.heap.size + 1) ((w.alloc (.cells #[.int .i64 0] 3)).alloc (.cells #[.slice a m c, .int .i64 0, .bool false] 104)) w' → Kept (fun _ => False) w w' := fun w' K => (((Kept.alloc (fun _ => False) w _).and (Kept.alloc _ _ _)).trans K (fun k h => .inr (by omega)))
  clear A B B0 hs1 K0 y
  cases hd : rdNum 0 4503599627370496 raw 0 with
  | error pl =>
    rw [hd] at hN
    simp only at hN ⊢
    go_enter Try.func108, Try.ntmps108
    go_wp2_with (first
      | (go_at_call 63; refine hN.mono ?_; rintro e w1 ⟨rfl, A1, K1⟩; have x1 := A1.c1; clear hN A1)
      | fail)
    go_quiet (fail)
    go_wp2
    go_ret3
    exact ⟨_, _, _, rfl, ⟨rfl, rfl, rfl⟩, (fin _ K1).and (Kept.drewN _ _ _)⟩
  | ok x =>
    obtain ⟨v, i⟩ := x
    rw [hd] at hN
    simp only at hN ⊢
    have hv : ∀ w1, Kept (fun k => k = w.heap.size + 1) ((w.alloc (.cells #[.int .i64 0] 3)).alloc (.cells #[.slice a m c, .int .i64 0, .bool false] 104)) w1 → (w1.setCell ⟨w.heap.size, 0, none⟩ (.int .i64 v)).cell? ⟨w.heap.size, 0, none⟩ = some (.int .i64 v) ∧ Kept (fun _ => False) w (w1.setCell ⟨w.heap.size, 0, none⟩ (.int .i64 v)) := fun w1 K1 => by
      have K0 := Kept.alloc (fun _ => False) (w.alloc (.cells #[.int .i64 0] 3)) (.cells #[.slice a m c, .int .i64 0, .bool false] 104)
      have h0 := (cell_keep K0 hn.1 (fun h => h)).1
      have h1 := (cell_keep K1 h0 (by show ¬ w.heap.size = w.heap.size + 1; omega)).1
      exact ⟨World.cell?_setCell_same' w1 _ _ (by rw [h1]; rfl), (fin _ K1).trans (Kept.setCell (S := fun k => k = w.heap.size) _ _ _ rfl) (fun k h => .inr (by omega))⟩
    clear hn fin hd
    go_enter Try.func108, Try.ntmps108
    go_wp2_with (first
      | (go_at_call 63; refine hN.mono ?_; rintro e w2 ⟨rfl, A1, w1, K1, rfl⟩; have x1 := A1.c1; obtain ⟨x2, K2⟩ := hv _ K1; clear hN A1 hv K1; generalize w1.setCell ⟨w.heap.size, 0, none⟩ (.int .i64 v) = W at *)
      | fail)
    go_quiet (fail)
    go_wp2
    go_ret3
    exact ⟨_, _, _, rfl, ⟨rfl, rfl, rfl⟩, K2.and (Kept.drewN _ _ _)⟩

end Go.Proofs.Ytceocmhgbcimoab
