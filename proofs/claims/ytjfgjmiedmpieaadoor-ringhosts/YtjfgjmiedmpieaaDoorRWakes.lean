/-
  wakes: a ring of one host, a point, a turn.
-/
import Derived.Test.YtjfgjmiedmpieaaDoorRHost
namespace Go.Proofs.YtjfgjmiedmpieaaDoor
open Go.RowKit Go.Sort

/-- Host at a number below a hundred. -/
theorem hostSmall_any (w : World) (rb : Nat) (l : List Sp) (R : RingAt w rb l) (hs : l.Pairwise noLater) (s : Nat) (h : s < 100) :
    Calls Tryd.prog 10 #[.pointer (some ⟨rb, 0, none⟩), .int .i64 (s : Int)] w fun e w' => HostPost w l (shardPt s) e w' :=
  host_any w rb l R hs s (by rw [Lib.itoa_nonneg]; have := dec_len s h; omega) (fun W _ => (itoa_any W s h).mono fun e w' ⟨he, hw⟩ => ⟨by rw [Lib.itoa_nonneg]; exact he, by subst hw; exact Kept.refl _ _⟩)

theorem intsNew (w : World) (c : Array Value) (zs : List Int) (hc : c = (zs.map (Value.int .i64)).toArray) : IntsAt (w.alloc (.cells c 3)) (some ⟨w.heap.size, 0, none⟩) zs.length zs.length zs := by
  refine ⟨rfl, Nat.le_refl _, fun h => (by cases h), fun ad h j hj => ?_⟩
  cases h
  subst hc
  exact World.news_of_block (heap_alloc_new w _) j _ (by simp [hj])

theorem mem_allSpots {zs : List Int} {n : Nat} {x : Sp} : x ∈ allSpots zs n ↔ ∃ z ∈ zs, ∃ k, k < n ∧ x = (hostPt z.toNat k, (z.toNat : Int)) := by
  unfold allSpots spotsL
  rw [List.mem_flatMap]
  constructor
  · rintro ⟨z, hz, hx⟩
    obtain ⟨k, hk, rfl⟩ := List.mem_map.1 hx
    exact ⟨z, hz, k, List.mem_range.1 hk, rfl⟩
  · rintro ⟨z, hz, k, hk, rfl⟩
    exact ⟨z, hz, List.mem_map.2 ⟨k, List.mem_range.2 hk, rfl⟩⟩

theorem wk_point : point [] = (16777190, 55) := by decide
theorem wk_c1 : (4715268795898265600 : Nat) = fl 16777190 := by kernel_rfl
theorem wk_c2 : (4632937379169042432 : Nat) = fl 55 := by kernel_rfl
theorem wk_c3 : (13839561654909534208 : Nat) = fl (-4) := by kernel_rfl
theorem wk_c4 : (4616189618054758400 : Nat) = fl 4 := by kernel_rfl

set_option maxRecDepth 100000 in
set_option maxHeartbeats 1000000 in
theorem wakes_any (w : World) :
    Calls Tryd.prog 7 #[] w fun e w' => e = .returned (.bool true) ∧ Kept (fun _ => False) w w' := by
  have hN := new_any (w.alloc (.cells #[.int .i64 0] 3)) (some ⟨w.heap.size, 0, none⟩) 1 1 [0] (intsNew w _ [0] rfl) 4
  have hP := fun W => point_any W ⟨#[]⟩ (by decide)
  have e1 : point (ByteArray.mk #[]).data.toList = (16777190, 55) := wk_point
  rw [e1] at hP
  have q1 := isF_eq (fl_isF (n := 16777190) (by decide)) (fl_isF (n := 16777190) (by decide))
  have q2 := isF_eq (fl_isF (n := 55) (by decide)) (fl_isF (n := 55) (by decide))
  simp only [decide_true] at q1 q2
  rw [← wk_c1] at q1
  rw [← wk_c2] at q2
  have e2 : cx (16777190, 55) = .complex .f64 4715268795898265600 4632937379169042432 := by unfold cx; rw [← wk_c1, ← wk_c2]
  rw [e2] at hP
  have hT := fun W => turn_any W 4613937818241073152 4616189618054758400 3 4 (by rw [fl_three]; exact fl_isF (by decide)) (by rw [wk_c4]; exact fl_isF (by decide)) (by decide) (by decide)
  go_enter Tryd.func7, Tryd.ntmps7
  go_wp2_with (first
    | (go_at_call 4; refine hN.mono ?_; rintro e w1 ⟨K1, (⟨hw, _⟩ | ⟨_, rb, l, rfl, hp, hs, R⟩)⟩; (exact absurd ⟨⟨fun z hz => (by simp at hz; omega), by simp⟩, by decide, by decide⟩ hw); have hH := hostSmall_any w1 rb l R hs 3 (by decide); clear hN)
    | (go_at_call 10; refine hH.mono ?_; rintro e w2 ⟨K2, (⟨hl, _⟩ | ⟨x, hx, rfl⟩)⟩; (exfalso; subst hl; have := hp.length_eq; rw [allSpots_len] at this; simp at this); have hx2 : x.2 = 0 := (by obtain ⟨z, hz, k, _, e⟩ := mem_allSpots.1 (hp.mem_iff.1 hx.1); rw [e]; simp at hz; subst hz; rfl); clear hH)
    | (go_at_call 25; refine (hP _).mono ?_; rintro e w3 ⟨rfl, hw3⟩; subst w3; clear hP)
    | (go_at_call 26; refine (hT _).mono ?_; rintro e w3 ⟨u, v, rfl, fu, fv, hw3⟩; subst w3; have q3 := isF_eq fu (fl_isF (n := -4) (by decide)); have q4 := isF_eq fv (fl_isF (n := 3) (by decide)); simp only [decide_true] at q3 q4; rw [← wk_c3] at q3; rw [← fl_three] at q4; clear hT)
    | fail)
  go_ret
  exact ⟨rfl, ((Kept.alloc _ _ _).and K1).and K2⟩

end Go.Proofs.YtjfgjmiedmpieaaDoor
