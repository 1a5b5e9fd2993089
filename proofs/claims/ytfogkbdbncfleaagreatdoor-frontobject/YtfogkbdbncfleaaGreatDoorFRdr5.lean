/-
  The document's reader: an escape of one letter.
-/
import Derived.Test.YtfogkbdbncfleaaGreatDoorFRdr4
namespace Go.Proofs.YtfogkbdbncfleaaGreatDoor
open Go.RowKit

/-- An escape that is read: one new block of bytes, and the place behind it. -/
def EscOk (w : World) (g : Nat) (s : ByteArray) (bad why : Int) (cs : List Value) (nx : Nat) (e : Ending) (w' : World) : Prop :=
  ∃ W, Kept (fun k => k = g) w W ∧ W.heap.size = w.heap.size ∧ e = .returned (.slice (some ⟨w.heap.size, 0, none⟩) cs.length cs.length) ∧ w' = W.alloc (.cells cs.toArray 5) ∧ RdrAt W g s (nx : Int) bad why

/-- An escape that is refused. -/
def EscNo (w : World) (g : Nat) (s : ByteArray) (p : Nat) (e : Ending) (w' : World) : Prop :=
  e = .returned (.slice none 0 0) ∧ Kept (fun k => k = g) w w' ∧ ∃ j : Nat, j ≤ s.size ∧ RdrAt w' g s (j : Int) (p : Int) 2

set_option maxRecDepth 100000 in
set_option maxHeartbeats 4000000 in
theorem escEnd_any (w : World) (g : Nat) (s : ByteArray) (i : Nat) (bad why : Int) (hs : s.size ≤ 281474976710656) (hi : i + 1 = s.size) (hb : bad < 0) (R : RdrAt w g s i bad why) :
    Calls Tryz.prog 57 #[.pointer (some ⟨g, 0, none⟩)] w (EscNo w g s s.size) := by
  have HN := hid (fun V (R : RdrAt V g s ((i : Int) + 1) bad why) => no_any V g s ((i : Int) + 1) bad why ((s.size : Nat) : Int) 2 R)
  obtain ⟨c0, c1, c2, c3⟩ := R.cells
  have f1 := R.free 1
  have R1 := R.set1 ((i : Int) + 1)
  obtain ⟨d0, d1, d2, d3⟩ := R1.cells
  have HR1 := hid R1
  clear R R1
  have e0 : (i : Int) + 1 ≥ (s.size : Int) := by omega
  have hib : (i : Int) ≤ 281474976710656 := by omega
  go_enter Tryz.func57, Tryz.ntmps57
  go_wp2_with (first
    | (go_at_call 34; refine (HN.out _ (HR1.out.kept (Kept.drewN (fun _ => False) _ _) (fun h => h))).mono ?_; rintro e w2 ⟨rfl, R2, K2⟩; rw [if_pos hb, if_pos hb] at R2)
    | go_quiet (fail)
    | fail)
  go_ret
  exact ⟨rfl, ((Kept.setCell (S := fun k => k = g) _ ⟨g, 1, none⟩ _ rfl).and (Kept.drewN _ _ _)).and K2, i + 1, by omega, R2⟩

set_option maxRecDepth 100000 in
set_option maxHeartbeats 8000000 in
theorem escOne_any (w : World) (g : Nat) (s : ByteArray) (i : Nat) (bad why c : Int) (hs : s.size ≤ 281474976710656) (hi : i + 1 < s.size) (hc : (((s[i + 1]'hi).toNat : Nat) : Int) = c) (R : RdrAt w g s i bad why)
    (v : Int) (hv : (c = 34 ∧ v = 34) ∨ (c = 92 ∧ v = 92) ∨ (c = 47 ∧ v = 47) ∨ (c = 98 ∧ v = 8) ∨ (c = 102 ∧ v = 12) ∨ (c = 110 ∧ v = 10) ∨ (c = 114 ∧ v = 13) ∨ (c = 116 ∧ v = 9)) :
    Calls Tryz.prog 57 #[.pointer (some ⟨g, 0, none⟩)] w (EscOk w g s bad why [.int .u8 v] (i + 2)) := by
  obtain ⟨c0, c1, c2, c3⟩ := R.cells
  have f1 := R.free 1
  have R1 := R.set1 ((i : Int) + 1)
  obtain ⟨d0, d1, d2, d3⟩ := R1.cells
  have f2 := R1.free 1
  have HR1 := hid R1
  clear R R1
  have e0 : ¬ (i : Int) + 1 ≥ (s.size : Int) := by omega
  have hib : (i : Int) ≤ 281474976710656 := by omega
  have hix : ∀ W, (Instr.index 9 (.string s) (.int .i64 ((i : Int) + 1))).run Tryz.prog W = .ok (.int .u8 c) W := fun W => by
    have := ix_str s hi W
    rw [hc] at this
    exact this
  clear hc
  rcases hv with ⟨rfl, rfl⟩ | ⟨rfl, rfl⟩ | ⟨rfl, rfl⟩ | ⟨rfl, rfl⟩ | ⟨rfl, rfl⟩ | ⟨rfl, rfl⟩ | ⟨rfl, rfl⟩ | ⟨rfl, rfl⟩
  · go_enter Tryz.func57, Tryz.ntmps57
    go_wp2_with (first | go_quiet (fail) | fail)
    go_ret
    exact ⟨_, ((Kept.setCell (S := fun k => k = g) _ ⟨g, 1, none⟩ _ rfl).and (Kept.drewN _ _ _)).and (Kept.setCell (S := fun k => k = g) _ ⟨g, 1, none⟩ _ rfl), by simp, rfl, rfl, (HR1.out.kept (Kept.drewN (fun _ => False) _ _) (fun h => h)).set1 _⟩
  · go_enter Tryz.func57, Tryz.ntmps57
    go_wp2_with (first | go_quiet (fail) | fail)
    go_ret
    exact ⟨_, ((Kept.setCell (S := fun k => k = g) _ ⟨g, 1, none⟩ _ rfl).and (Kept.drewN _ _ _)).and (Kept.setCell (S := fun k => k = g) _ ⟨g, 1, none⟩ _ rfl), by simp, rfl, rfl, (HR1.out.kept (Kept.drewN (fun _ => False) _ _) (fun h => h)).set1 _⟩
  · go_enter Tryz.func57, Tryz.ntmps57
    go_wp2_with (first | go_quiet (fail) | fail)
    go_ret
    exact ⟨_, ((Kept.setCell (S := fun k => k = g) _ ⟨g, 1, none⟩ _ rfl).and (Kept.drewN _ _ _)).and (Kept.setCell (S := fun k => k = g) _ ⟨g, 1, none⟩ _ rfl), by simp, rfl, rfl, (HR1.out.kept (Kept.drewN (fun _ => False) _ _) (fun h => h)).set1 _⟩
  · go_enter Tryz.func57, Tryz.ntmps57
    go_wp2_with (first | go_quiet (fail) | fail)
    go_ret
    exact ⟨_, ((Kept.setCell (S := fun k => k = g) _ ⟨g, 1, none⟩ _ rfl).and (Kept.drewN _ _ _)).and (Kept.setCell (S := fun k => k = g) _ ⟨g, 1, none⟩ _ rfl), by simp, rfl, rfl, (HR1.out.kept (Kept.drewN (fun _ => False) _ _) (fun h => h)).set1 _⟩
  · go_enter Tryz.func57, Tryz.ntmps57
    go_wp2_with (first | go_quiet (fail) | fail)
    go_ret
    exact ⟨_, ((Kept.setCell (S := fun k => k = g) _ ⟨g, 1, none⟩ _ rfl).and (Kept.drewN _ _ _)).and (Kept.setCell (S := fun k => k = g) _ ⟨g, 1, none⟩ _ rfl), by simp, rfl, rfl, (HR1.out.kept (Kept.drewN (fun _ => False) _ _) (fun h => h)).set1 _⟩
  · go_enter Tryz.func57, Tryz.ntmps57
    go_wp2_with (first | go_quiet (fail) | fail)
    go_ret
    exact ⟨_, ((Kept.setCell (S := fun k => k = g) _ ⟨g, 1, none⟩ _ rfl).and (Kept.drewN _ _ _)).and (Kept.setCell (S := fun k => k = g) _ ⟨g, 1, none⟩ _ rfl), by simp, rfl, rfl, (HR1.out.kept (Kept.drewN (fun _ => False) _ _) (fun h => h)).set1 _⟩
  · go_enter Tryz.func57, Tryz.ntmps57
    go_wp2_with (first | go_quiet (fail) | fail)
    go_ret
    exact ⟨_, ((Kept.setCell (S := fun k => k = g) _ ⟨g, 1, none⟩ _ rfl).and (Kept.drewN _ _ _)).and (Kept.setCell (S := fun k => k = g) _ ⟨g, 1, none⟩ _ rfl), by simp, rfl, rfl, (HR1.out.kept (Kept.drewN (fun _ => False) _ _) (fun h => h)).set1 _⟩
  · go_enter Tryz.func57, Tryz.ntmps57
    go_wp2_with (first | go_quiet (fail) | fail)
    go_ret
    exact ⟨_, ((Kept.setCell (S := fun k => k = g) _ ⟨g, 1, none⟩ _ rfl).and (Kept.drewN _ _ _)).and (Kept.setCell (S := fun k => k = g) _ ⟨g, 1, none⟩ _ rfl), by simp, rfl, rfl, (HR1.out.kept (Kept.drewN (fun _ => False) _ _) (fun h => h)).set1 _⟩

set_option maxRecDepth 100000 in
set_option maxHeartbeats 8000000 in
theorem escNone_any (w : World) (g : Nat) (s : ByteArray) (i : Nat) (bad why c : Int) (hs : s.size ≤ 281474976710656) (hi : i + 1 < s.size) (hc : (((s[i + 1]'hi).toNat : Nat) : Int) = c) (hb : bad < 0) (R : RdrAt w g s i bad why)
    (hv : c ≠ 34 ∧ c ≠ 92 ∧ c ≠ 47 ∧ c ≠ 98 ∧ c ≠ 102 ∧ c ≠ 110 ∧ c ≠ 114 ∧ c ≠ 116 ∧ c ≠ 117) :
    Calls Tryz.prog 57 #[.pointer (some ⟨g, 0, none⟩)] w (EscNo w g s i) := by
  have HN := hid (fun V (R : RdrAt V g s ((i + 2 : Nat) : Int) bad why) => no_any V g s ((i + 2 : Nat) : Int) bad why (i : Int) 2 R)
  obtain ⟨c0, c1, c2, c3⟩ := R.cells
  have f1 := R.free 1
  have R1 := R.set1 ((i : Int) + 1)
  obtain ⟨d0, d1, d2, d3⟩ := R1.cells
  have f2 := R1.free 1
  have HR1 := hid R1
  clear R R1
  have e0 : ¬ (i : Int) + 1 ≥ (s.size : Int) := by omega
  have hib : (i : Int) ≤ 281474976710656 := by omega
  have hix : ∀ W, (Instr.index 9 (.string s) (.int .i64 ((i : Int) + 1))).run Tryz.prog W = .ok (.int .u8 c) W := fun W => by
    have := ix_str s hi W
    rw [hc] at this
    exact this
  clear hc
  have b34 : (c == 34) = false := by rw [beq_eq_false_iff_ne]; omega
  have b92 : (c == 92) = false := by rw [beq_eq_false_iff_ne]; omega
  have b47 : (c == 47) = false := by rw [beq_eq_false_iff_ne]; omega
  have b98 : (c == 98) = false := by rw [beq_eq_false_iff_ne]; omega
  have b102 : (c == 102) = false := by rw [beq_eq_false_iff_ne]; omega
  have b110 : (c == 110) = false := by rw [beq_eq_false_iff_ne]; omega
  have b114 : (c == 114) = false := by rw [beq_eq_false_iff_ne]; omega
  have b116 : (c == 116) = false := by rw [beq_eq_false_iff_ne]; omega
  have b117 : (c == 117) = false := by rw [beq_eq_false_iff_ne]; omega
  clear hv
  go_enter Tryz.func57, Tryz.ntmps57
  go_wp2_with (first
    | (go_at_call 34; refine (HN.out _ ((HR1.out.kept (Kept.drewN (fun _ => False) _ _) (fun h => h)).set1 _)).mono ?_; rintro e w2 ⟨rfl, R2, K2⟩; rw [if_pos hb, if_pos hb] at R2)
    | go_quiet (fail)
    | fail)
  go_ret
  exact ⟨rfl, (((Kept.setCell (S := fun k => k = g) _ ⟨g, 1, none⟩ _ rfl).and (Kept.drewN _ _ _)).and (Kept.setCell (S := fun k => k = g) _ ⟨g, 1, none⟩ _ rfl)).and K2, i + 2, by omega, R2⟩

end Go.Proofs.YtfogkbdbncfleaaGreatDoor
