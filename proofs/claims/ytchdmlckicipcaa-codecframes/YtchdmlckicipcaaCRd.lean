/-
  The codec's reader in memory: refuse, take.
-/
import Derived.Test.YtchdmlckicipcaaCWrMore
namespace Go.Proofs.Ytchdmlckicipcaa
open Go.RowKit

/-- A reader's block: the bytes that it reads, the place, whether it is wrong. -/
structure RAt (w : World) (r : Nat) (a : Option Addr) (m c : Nat) (raw : List Int) (at_ : Nat) (bad : Bool) : Prop where
  head : w.heap[r]? = some (.cells #[.slice a m c, .int .i64 at_, .bool bad] 58 (0, 0))
  bytes : BytesAt w a m c raw
  ne : raw ≠ [] → ∀ ad, a = some ad → ad.block ≠ r
  le : at_ ≤ m
  small : m ≤ 140737488355328

section
variable {w w' : World} {r : Nat} {a : Option Addr} {m c : Nat} {raw : List Int} {at_ : Nat} {bad : Bool}

theorem RAt.c0 (A : RAt w r a m c raw at_ bad) : w.cell? ⟨r, 0, none⟩ = some (.slice a m c) := by simp [World.cell?, A.head]
theorem RAt.c1 (A : RAt w r a m c raw at_ bad) : w.cell? ⟨r, 1, none⟩ = some (.int .i64 at_) := by simp [World.cell?, A.head]
theorem RAt.c2 (A : RAt w r a m c raw at_ bad) : w.cell? ⟨r, 2, none⟩ = some (.bool bad) := by simp [World.cell?, A.head]
theorem RAt.fz (A : RAt w r a m c raw at_ bad) (o : Nat) : w.frozen? ⟨r, o, none⟩ = false := by simp [World.frozen?, A.head]
theorem RAt.lt (A : RAt w r a m c raw at_ bad) : r < w.heap.size := (Array.getElem?_eq_some_iff.1 A.head).1

theorem RAt.kept {S : Nat → Prop} (A : RAt w r a m c raw at_ bad) (K : Kept S w w') (h1 : ¬ S r) (h2 : raw ≠ [] → ∀ ad, a = some ad → ¬ S ad.block) : RAt w' r a m c raw at_ bad :=
  ⟨(K.block r A.lt h1).trans A.head, A.bytes.kept K h2, A.ne, A.le, A.small⟩

theorem RAt.to {at' : Nat} {bad' : Bool} (A : RAt w r a m c raw at_ bad) (K : Kept (fun k => k = r) w w') (hh : w'.heap[r]? = some (.cells #[.slice a m c, .int .i64 at', .bool bad'] 58 (0, 0))) (hl : at' ≤ m) : RAt w' r a m c raw at' bad' :=
  ⟨hh, A.bytes.kept K A.ne, A.ne, hl, A.small⟩
end

set_option maxRecDepth 100000 in
set_option maxHeartbeats 400000 in
theorem rrefuse_any {w : World} {r : Nat} {a : Option Addr} {m c : Nat} {raw : List Int} {at_ : Nat} {bad : Bool} (A : RAt w r a m c raw at_ bad) (pl : Nat) (hp : pl ≤ m) :
    Calls Try.prog 35 #[.pointer (some ⟨r, 0, none⟩), .int .i64 pl] w fun e w' => e = .returned (.bool false) ∧ RAt w' r a m c raw pl true ∧ Kept (fun k => k = r) w w' := by
  have c1 := A.c1
  have c2 := A.c2
  have f1 := A.fz 1
  have f2 := A.fz 2
  have hh : ((w.setCell ⟨r, 1, none⟩ (.int .i64 pl)).setCell ⟨r, 2, none⟩ (.bool true)).heap[r]? = some (.cells #[.slice a m c, .int .i64 pl, .bool true] 58 (0, 0)) := by
    simp [World.setCell, Array.getElem?_modify, A.head]
  have K : Kept (fun k => k = r) w ((w.setCell ⟨r, 1, none⟩ (.int .i64 pl)).setCell ⟨r, 2, none⟩ (.bool true)) := (Kept.setCell (S := fun k => k = r) _ _ _ rfl).and (Kept.setCell (S := fun k => k = r) _ _ _ rfl)
  have HA : Hid (RAt ((w.setCell ⟨r, 1, none⟩ (.int .i64 pl)).setCell ⟨r, 2, none⟩ (.bool true)) r a m c raw pl true) := A.to K hh hp
  clear A hh
  go_enter Try.func35, Try.ntmps35
  go_wp2
  go_ret
  exact ⟨rfl, HA.out, K⟩

/-- A piece of bytes that lie somewhere. -/
theorem BytesAt.piece {w : World} {b o m c : Nat} {raw : List Int} (B : BytesAt w (some ⟨b, o, none⟩) m c raw) {i k : Nat} (h : i + k ≤ m) (ad : Addr) (had : ad = ⟨b, o + i, none⟩ ∨ (k = 0)) (c' : Nat) (hc : k ≤ c') : BytesAt w (some ad) k c' ((raw.drop i).take k) := by
  refine ⟨by rw [List.length_take, List.length_drop, B.len]; omega, hc, fun h => (by cases h), ?_, fun y hy => B.byte y (List.mem_of_mem_drop (List.mem_of_mem_take hy))⟩
  intro ad2 e j u hu
  cases e
  rcases had with rfl | rfl
  · rw [List.getElem?_map, List.getElem?_take] at hu
    split at hu
    · rename_i hj
      rw [List.getElem?_drop] at hu
      have := B.cells _ rfl (i + j) u (by rw [List.getElem?_map]; exact hu)
      simp only [Addr.add_lit] at this ⊢
      rw [Nat.add_assoc]; exact this
    · cases hu
  · simp at hu

set_option maxRecDepth 100000 in
set_option maxHeartbeats 400000 in
theorem rtake_no {w : World} {r : Nat} {a : Option Addr} {m c : Nat} {raw : List Int} {at_ : Nat} {bad : Bool} (A : RAt w r a m c raw at_ bad) (k : Nat) (hk : m < at_ + k) :
    Calls Try.prog 34 #[.pointer (some ⟨r, 0, none⟩), .int .i64 k] w fun e w' => e = .returned (.tuple #[.slice none 0 0, .bool false]) ∧ RAt w' r a m c raw m true ∧ Kept (fun k => k = r) w w' := by
  have c0 := A.c0
  have c1 := A.c1
  have hs := A.small
  have hle := A.le
  have h1 : (m : Int) - (at_ : Int) < (k : Int) := by omega
  have hR : ∀ n, Calls Try.prog 35 #[.pointer (some ⟨r, 0, none⟩), .int .i64 m] (w.drewN n) fun e w' => e = .returned (.bool false) ∧ RAt w' r a m c raw m true ∧ Kept (fun k => k = r) w w' := fun n => by
    have K0 := Kept.drewN (fun k => k = r) w n
    refine (rrefuse_any (A.kept (Kept.drewN (fun _ => False) w n) (fun h => h) (fun _ _ _ h => h)) m (Nat.le_refl _)).mono ?_
    rintro e w' ⟨rfl, A', K'⟩
    exact ⟨rfl, A', K0.and K'⟩
  clear A
  go_enter Try.func34, Try.ntmps34
  go_wp2_with fail
  go_quiet (fail)
  go_wp2_with (first
    | (go_at_call 35; refine (hR _).mono ?_; rintro e w1 ⟨rfl, A1, K1⟩; clear hR)
    | fail)
  go_ret2
  exact ⟨rfl, A1, K1⟩

theorem RAt.moved {w : World} {r : Nat} {a : Option Addr} {m c : Nat} {raw : List Int} {at_ : Nat} {bad : Bool} (A : RAt w r a m c raw at_ bad) (at' : Nat) (h : at' ≤ m) (z : Int) (hz : z = at') (n1 n2 : Nat) :
    RAt (((w.drewN n1).setCell ⟨r, 1, none⟩ (.int .i64 z)).drewN n2) r a m c raw at' bad ∧ Kept (fun k => k = r) w (((w.drewN n1).setCell ⟨r, 1, none⟩ (.int .i64 z)).drewN n2) := by
  subst hz
  have K : Kept (fun k => k = r) w (((w.drewN n1).setCell ⟨r, 1, none⟩ (.int .i64 at')).drewN n2) := ((Kept.drewN _ w n1).and (Kept.setCell (S := fun k => k = r) _ _ _ rfl)).and (Kept.drewN _ _ n2)
  refine ⟨A.to K ?_ h, K⟩
  show ((w.drewN n1).setCell ⟨r, 1, none⟩ (.int .i64 at')).heap[r]? = _
  simp [World.setCell, Array.getElem?_modify, A.head]

set_option maxRecDepth 100000 in
set_option maxHeartbeats 400000 in
theorem rtake_nil {w : World} {r : Nat} {c : Nat} {raw : List Int} {at_ : Nat} {bad : Bool} (A : RAt w r none 0 c raw at_ bad) :
    Calls Try.prog 34 #[.pointer (some ⟨r, 0, none⟩), .int .i64 0] w fun e w' => e = .returned (.tuple #[.slice none 0 c, .bool true]) ∧ RAt w' r none 0 c raw 0 bad ∧ Kept (fun k => k = r) w w' := by
  have hat : at_ = 0 := by have := A.le; omega
  subst hat
  have c0 := A.c0
  have c1 := A.c1
  have f1 := A.fz 1
  have HM := A.moved 0 (Nat.le_refl _) 0 rfl
  have M1 := (HM 0 0).1
  have y0 : (w.setCell ⟨r, 1, none⟩ (.int .i64 0)).cell? ⟨r, 0, none⟩ = some (.slice none 0 c) := M1.c0
  have y1 : (w.setCell ⟨r, 1, none⟩ (.int .i64 0)).cell? ⟨r, 1, none⟩ = some (.int .i64 0) := M1.c1
  have HH : Hid _ := HM
  clear A HM M1
  go_enter Try.func34, Try.ntmps34
  go_wp2_with fail
  go_quiet (fail)
  go_wp2_with fail
  go_quiet (fail)
  go_wp2
  go_ret2
  exact ⟨rfl, HH.out _ _⟩

set_option maxRecDepth 100000 in
set_option maxHeartbeats 400000 in
theorem rtake_some {w : World} {r : Nat} {b o m c : Nat} {raw : List Int} {at_ : Nat} {bad : Bool} (A : RAt w r (some ⟨b, o, none⟩) m c raw at_ bad) (k : Nat) (hk : at_ + k ≤ m) :
    Calls Try.prog 34 #[.pointer (some ⟨r, 0, none⟩), .int .i64 k] w fun e w' => ∃ ad c', e = .returned (.tuple #[.slice (some ad) k c', .bool true]) ∧ BytesAt w' (some ad) k c' ((raw.drop at_).take k) ∧ (k ≠ 0 → ad.block = b) ∧ RAt w' r (some ⟨b, o, none⟩) m c raw (at_ + k) bad ∧ Kept (fun k => k = r) w w' := by
  have c0 := A.c0
  have c1 := A.c1
  have f1 := A.fz 1
  have hs := A.small
  have hle := A.le
  have hcap := A.bytes.cap
  have e1 : (k : Int) ≤ (m : Int) - (at_ : Int) := by omega
  have HM := A.moved (at_ + k) hk ((at_ : Int) + (k : Int)) (by omega)
  have M1 := (HM 0 0).1
  have y0 : (w.setCell ⟨r, 1, none⟩ (.int .i64 ((at_ : Int) + (k : Int)))).cell? ⟨r, 0, none⟩ = some (.slice (some ⟨b, o, none⟩) m c) := M1.c0
  have y1 : (w.setCell ⟨r, 1, none⟩ (.int .i64 ((at_ : Int) + (k : Int)))).cell? ⟨r, 1, none⟩ = some (.int .i64 ((at_ : Int) + (k : Int))) := M1.c1
  have HH : Hid _ := HM
  have g1 : at_ ≤ at_ + k := by omega
  have g2 : at_ + k ≤ c := by omega
  have g3 : (0 : Int) ≤ at_ := by omega
  have g4 : (at_ : Int) ≤ (at_ : Int) + k := by omega
  have g5 : (at_ : Int) + k ≤ c := by omega
  clear A HM M1
  go_enter Try.func34, Try.ntmps34
  go_wp2_with fail
  go_quiet (fail)
  go_wp2_with fail
  go_quiet (fail)
  go_wp2
  · subst h
    go_ret2
    exact ⟨_, _, rfl, (HH.out _ _).1.bytes.piece hk _ (.inr (by omega)) _ (by omega), fun h => absurd (by omega) h, HH.out _ _⟩
  · go_ret2
    exact ⟨_, _, rfl, (HH.out _ _).1.bytes.piece hk _ (.inl rfl) _ (by omega), fun _ => rfl, HH.out _ _⟩

set_option maxRecDepth 100000 in
set_option maxHeartbeats 400000 in
theorem rtake_zero {w : World} {r : Nat} {ad : Addr} {c : Nat} {raw : List Int} {at_ : Nat} {bad : Bool} (A : RAt w r (some ad) 0 c raw at_ bad) :
    Calls Try.prog 34 #[.pointer (some ⟨r, 0, none⟩), .int .i64 0] w fun e w' => ∃ a' c', e = .returned (.tuple #[.slice a' 0 c', .bool true]) ∧ RAt w' r (some ad) 0 c raw 0 bad ∧ Kept (fun k => k = r) w w' := by
  have hat : at_ = 0 := by have := A.le; omega
  subst hat
  have c0 := A.c0
  have c1 := A.c1
  have f1 := A.fz 1
  have HM := A.moved 0 (Nat.le_refl _) 0 rfl
  have M1 := (HM 0 0).1
  have y0 : (w.setCell ⟨r, 1, none⟩ (.int .i64 0)).cell? ⟨r, 0, none⟩ = some (.slice (some ad) 0 c) := M1.c0
  have y1 : (w.setCell ⟨r, 1, none⟩ (.int .i64 0)).cell? ⟨r, 1, none⟩ = some (.int .i64 0) := M1.c1
  have HH : Hid _ := HM
  clear A HM M1
  go_enter Try.func34, Try.ntmps34
  go_wp2_with fail
  go_quiet (fail)
  go_wp2_with fail
  go_quiet (fail)
  go_wp2
  all_goals
    go_ret2
    exact ⟨_, _, rfl, HH.out _ _⟩

/-- The bytes that are taken lie where the reader's own lie, or they are none. -/
theorem rtake_yes {w : World} {r : Nat} {a : Option Addr} {m c : Nat} {raw : List Int} {at_ : Nat} {bad : Bool} (A : RAt w r a m c raw at_ bad) (k : Nat) (hk : at_ + k ≤ m) :
    Calls Try.prog 34 #[.pointer (some ⟨r, 0, none⟩), .int .i64 k] w fun e w' => ∃ a' c', e = .returned (.tuple #[.slice a' k c', .bool true]) ∧ BytesAt w' a' k c' ((raw.drop at_).take k) ∧ RAt w' r a m c raw (at_ + k) bad ∧ Kept (fun k => k = r) w w' ∧ (k ≠ 0 → ∀ ad, a' = some ad → ∃ ad0, a = some ad0 ∧ ad.block = ad0.block) := by
  have hB := A.bytes
  have empty : ∀ (w' : World) (a' : Option Addr) (c' : Nat), BytesAt w' a' 0 c' ((raw.drop at_).take 0) := fun w' a' c' =>
    ⟨by simp, Nat.zero_le _, fun _ => rfl, fun ad _ j u hu => (by simp at hu), fun y hy => (by simp at hy)⟩
  by_cases hm : m = 0
  · subst hm
    obtain rfl : k = 0 := by omega
    obtain rfl : at_ = 0 := by omega
    cases a with
    | none =>
      refine (rtake_nil A).mono ?_
      rintro e w' ⟨rfl, A', K⟩
      exact ⟨_, _, rfl, empty _ _ _, A', K, fun h => absurd rfl h⟩
    | some ad =>
      refine (rtake_zero A).mono ?_
      rintro e w' ⟨a', c', rfl, A', K⟩
      exact ⟨_, _, rfl, empty _ _ _, A', K, fun h => absurd rfl h⟩
  · obtain ⟨b, o, rfl, _⟩ := hB.at (j := 0) (by rw [hB.len]; omega)
    refine (rtake_some A k hk).mono ?_
    rintro e w' ⟨ad, c', rfl, B', hbk, A', K⟩
    exact ⟨_, _, rfl, B', A', K, fun h ad2 e2 => ⟨_, rfl, by cases e2; exact hbk h⟩⟩

end Go.Proofs.Ytchdmlckicipcaa
