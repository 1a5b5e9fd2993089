/-
  wakes: a definition is read, and ordered. Lists of numbers held against each other.
-/
import Derived.Test.YtoonnbagppliaaaDoorDParse
import Derived.Test.YtoonnbagppliaaaDoorDDepth
namespace Go.Proofs.YtoonnbagppliaaaDoor
open Go.RowKit

def wkT : ByteArray := ⟨#[119, 111, 114, 107, 102, 108, 111, 119, 32, 119, 10, 98, 32, 119, 97, 105, 116, 32, 115, 32, 97, 102, 116, 101, 114, 32, 97, 10, 97, 32, 97, 99, 116, 105, 118, 105, 116, 121, 32, 113, 10]⟩
def wkN : List Nd := [⟨⟨#[98]⟩, 4, ⟨#[115]⟩, ⟨#[]⟩, 0, 0, [⟨#[97]⟩]⟩, ⟨⟨#[97]⟩, 1, ⟨#[113]⟩, ⟨#[]⟩, 0, 1, []⟩]

theorem wk_parse : parseP wkT = (some (⟨#[119]⟩, wkN), 0, 0) := by kernel_rfl
theorem wk_order : ordP wkN = [1, 0] := by kernel_rfl
theorem wk_depth : depP wkN = 2 := by kernel_rfl

set_option maxRecDepth 100000 in
set_option maxHeartbeats 1000000 in
theorem ints_same (w : World) (b1 b2 n c1 c2 : Nat) (l : List Nat) (h1 : ∀ k (h : k < l.length), w.cell? ⟨b1, k, none⟩ = some (.int .i64 ((l[k]'h : Nat) : Int))) (h2 : ∀ k (h : k < l.length), w.cell? ⟨b2, k, none⟩ = some (.int .i64 ((l[k]'h : Nat) : Int))) (hl : l.length = n) (hn : n ≤ 4611686018427387904) :
    Calls Tryd.prog 17 #[.slice (some ⟨b1, 0, none⟩) n c1, .slice (some ⟨b2, 0, none⟩) n c2] w fun e w' => e = .returned (.bool true) ∧ ∃ m, w' = w.drewN m := by
  have HL : Hid (l.length = n) := hl
  clear hl
  have hnn : ((n : Int) != (n : Int)) = false := by simp
  go_enter Tryd.func17, Tryd.ntmps17
  go_wp2
  go_loopw [5] (fun i wr => ∃ (k m : Nat), k ≤ n ∧ i = .int .i64 k ∧ wr = w.drewN m) (fun i _ => n - (intOf i).toNat)
  case atStart => exact ⟨0, 0, Nat.zero_le _, rfl, rfl⟩
  case round =>
    obtain ⟨k, m, hk, rfl, rfl⟩ := hrel
    by_cases hlt : k < n
    · have hkl : k < l.length := by rw [HL.out]; exact hlt
      have x1 := h1 k hkl
      have x2 := h2 k hkl
      generalize l[k] = x at *
      clear h1 h2
      have e1 : (k : Int) < (n : Int) := by omega
      go_wp2_with fail
      go_quiet (fail)
      go_wp2
      go_roundw
      case rel => exact ⟨k + 1, m + nq, by omega, by go_num, rfl⟩
      case measure => simp [intOf]; omega
    · clear h1 h2
      have e1 : ¬ (k : Int) < (n : Int) := by omega
      go_wp2
      go_ret
      exact ⟨rfl, m, rfl⟩

theorem row_cell {w : World} {base n b k : Nat} {c : Nat} {l : List Nat} (O : w.ownsRow base 3 1 (.slice (some ⟨b, 0, none⟩) n c) n (natsV l)) (hk : k < l.length) : w.cell? ⟨b, k, none⟩ = some (.int .i64 ((l[k]'hk : Nat) : Int)) := by
  have := (ownsRow_get O (k := k) (u := .int .i64 ((l[k]'hk : Nat) : Int)) (by unfold natsV; rw [List.getElem?_map, List.getElem?_eq_getElem hk]; rfl)).1
  simpa using this

/-- The definition of wakes, as Parse gives it. -/
theorem wakesParse (w : World) : Calls Tryd.prog 16 #[.string wkT] w fun e w' => ∃ b o c, e = .returned (.tuple #[.agg #[.string ⟨#[119]⟩, .slice (some ⟨b, o, none⟩) 2 c], .int .i64 0, .int .i64 0]) ∧ Hid (NodesAt w' (some ⟨b, o, none⟩) wkN) ∧ w'.cell? ⟨b, o + 12, none⟩ = some (.int .i64 1) ∧ 2 ≤ c ∧ Kept (fun _ => False) w w' := by
  have hP := parse_any w wkT (by decide)
  rw [wk_parse] at hP
  refine hP.mono ?_
  rintro e w1 ⟨_, hp, K1⟩
  obtain ⟨a, c, rfl, N1, hc⟩ := hp _ _ _ _ rfl
  obtain ⟨b, o, av, cv, rfl, _, _, _, _, _, _, h, _⟩ := N1.at (i := 1) (by decide)
  exact ⟨b, o, c, rfl, N1, h, hc, K1⟩

/-- Its order. -/
theorem wakesOrder (w : World) (b o c : Nat) (HN : Hid (NodesAt w (some ⟨b, o, none⟩) wkN)) : Calls Tryd.prog 11 #[.agg #[.string ⟨#[119]⟩, .slice (some ⟨b, o, none⟩) 2 c]] w fun e w' => ∃ g cv, e = .returned (.tuple #[.slice (some ⟨g, 0, none⟩) 2 cv, .bool true]) ∧ Hid (∀ k (h : k < [1, 0].length), w'.cell? ⟨g, k, none⟩ = some (.int .i64 (([1, 0][k]'h : Nat) : Int))) ∧ Kept (fun _ => False) w w' := by
  have h := order_any w ⟨#[119]⟩ (some ⟨b, o, none⟩) 2 c wkN HN.out rfl (by decide)
  rw [wk_order] at h
  refine h.mono ?_
  rintro e w2 ⟨av, cv, rfl, O2, K2⟩
  obtain ⟨g, cap, e, hbg, hgl⟩ := O2.form (by decide)
  simp only [Value.slice.injEq] at e
  obtain ⟨rfl, _, rfl⟩ := e
  exact ⟨g, cv, rfl, fun k h => row_cell O2 h, K2⟩

/-- Held against the row [1, 0]. -/
theorem wakesInts (w : World) (g cv : Nat) (HO : Hid (∀ k (h : k < [1, 0].length), w.cell? ⟨g, k, none⟩ = some (.int .i64 (([1, 0][k]'h : Nat) : Int)))) : Calls Tryd.prog 17 #[.slice (some ⟨g, 0, none⟩) 2 cv, .slice (some ⟨w.heap.size, 0, none⟩) 2 2] (w.alloc (.cells #[.int .i64 1, .int .i64 0] 3)) fun e w' => e = .returned (.bool true) ∧ Kept (fun _ => False) w w' := by
  refine (ints_same _ g w.heap.size 2 cv 2 [1, 0] (fun k h => keepC (S := fun _ => False) (Kept.alloc _ _ _) (HO.out k h) (fun _ _ h => h)) (fun k h => ?_) rfl (by decide)).mono ?_
  · unfold World.cell?
    rw [heap_alloc_new]
    match k, h with
    | 0, _ => rfl
    | 1, _ => rfl
  · rintro e w' ⟨rfl, m, rfl⟩
    exact ⟨rfl, (Kept.alloc _ _ _).and (Kept.drewN _ _ _)⟩

/-- Its depth. -/
theorem wakesDepth (w : World) (b o c : Nat) (HN : Hid (NodesAt w (some ⟨b, o, none⟩) wkN)) : Calls Tryd.prog 18 #[.agg #[.string ⟨#[119]⟩, .slice (some ⟨b, o, none⟩) 2 c]] w fun e w' => e = .returned (.int .i64 2) ∧ Kept (fun _ => False) w w' := by
  have h := depth_any w ⟨#[119]⟩ (some ⟨b, o, none⟩) 2 c wkN HN.out rfl (by decide)
  rw [wk_depth] at h
  exact h

set_option maxRecDepth 100000 in
set_option maxHeartbeats 1000000 in
theorem wakes_any (w : World) :
    Calls Tryd.prog 7 #[] w fun e w' => e = .returned (.bool true) ∧ Kept (fun _ => False) w w' := by
  have hP := wakesParse w
  unfold wkT at hP
  go_enter Tryd.func7, Tryd.ntmps7
  go_wp2_with (first
    | (go_at_call 16; refine hP.mono ?_; rintro e w1 ⟨b, o, c, rfl, HN, c12, hc, K1⟩; clear hP)
    | (go_at_call 11; refine (wakesOrder _ b o c (keptNew (Kept.alloc _ _ _) HN.out)).mono ?_; rintro e w2 ⟨g, cv, rfl, HO, K2⟩; have HM : Hid (NodesAt w2 (some ⟨b, o, none⟩) wkN) := keptNew K2 (keptNew (Kept.alloc _ _ _) HN.out); have d12 : w2.cell? ⟨b, o + 12, none⟩ = some (.int .i64 1) := keepC (S := fun _ => False) ((Kept.alloc _ _ _).and K2) c12 (fun _ _ h => h); have hd := boxD K2; obtain ⟨d0, d1⟩ := hd; clear c12)
    | (go_at_call 17; refine (wakesInts w2 g cv HO).mono ?_; rintro e w3 ⟨rfl, K3⟩; have HM3 : Hid (NodesAt w3 (some ⟨b, o, none⟩) wkN) := keptNew K3 HM.out; replace d12 := keepC (S := fun _ => False) K3 d12 (fun _ _ h => h); replace d0 := keepC (S := fun _ => False) K3 d0 (fun _ _ h => h); replace d1 := keepC (S := fun _ => False) K3 d1 (fun _ _ h => h))
    | (go_at_call 18; refine (wakesDepth w3 b o c HM3).mono ?_; rintro e w4 ⟨rfl, K4⟩; replace d12 := keepC (S := fun _ => False) K4 d12 (fun _ _ h => h); replace d0 := keepC (S := fun _ => False) K4 d0 (fun _ _ h => h); replace d1 := keepC (S := fun _ => False) K4 d1 (fun _ _ h => h))
    | fail)
  go_ret
  exact ⟨rfl, (((K1.and (Kept.alloc _ _ _)).and K2).and K3).and K4⟩

end Go.Proofs.YtoonnbagppliaaaDoor
