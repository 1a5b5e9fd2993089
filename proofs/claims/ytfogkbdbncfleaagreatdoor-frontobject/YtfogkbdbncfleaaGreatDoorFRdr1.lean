/-
  The document's reader in memory: refusals and blanks.
-/
import Derived.Test.YtfogkbdbncfleaaGreatDoorFRead1
namespace Go.Proofs.YtfogkbdbncfleaaGreatDoor
open Go.RowKit

/-- The document's reader: the text, the place, the place of the refusal, the refusal. -/
def RdrAt (w : World) (g : Nat) (s : ByteArray) (i bad why : Int) : Prop := w.heap[g]? = some (.cells #[.string s, .int .i64 i, .int .i64 bad, .int .i64 why] 61 (0, 0))

section
variable {w : World} {g : Nat} {s : ByteArray} {i bad why : Int}

theorem RdrAt.cells (R : RdrAt w g s i bad why) : w.cell? ⟨g, 0, none⟩ = some (.string s) ∧ w.cell? ⟨g, 1, none⟩ = some (.int .i64 i) ∧ w.cell? ⟨g, 2, none⟩ = some (.int .i64 bad) ∧ w.cell? ⟨g, 3, none⟩ = some (.int .i64 why) := by
  unfold RdrAt at R
  simp [World.cell?, R]

theorem RdrAt.free (R : RdrAt w g s i bad why) (k : Nat) : w.frozen? ⟨g, k, none⟩ = false := by
  unfold RdrAt at R
  simp [World.frozen?, R]

theorem RdrAt.set1 (R : RdrAt w g s i bad why) (x : Int) : RdrAt (w.setCell ⟨g, 1, none⟩ (.int .i64 x)) g s x bad why := by
  unfold RdrAt at R ⊢
  simp [World.setCell, Array.getElem?_modify, R]

theorem RdrAt.set2 (R : RdrAt w g s i bad why) (x : Int) : RdrAt (w.setCell ⟨g, 2, none⟩ (.int .i64 x)) g s i x why := by
  unfold RdrAt at R ⊢
  simp [World.setCell, Array.getElem?_modify, R]

theorem RdrAt.set3 (R : RdrAt w g s i bad why) (x : Int) : RdrAt (w.setCell ⟨g, 3, none⟩ (.int .i64 x)) g s i bad x := by
  unfold RdrAt at R ⊢
  simp [World.setCell, Array.getElem?_modify, R]

theorem RdrAt.kept {S : Nat → Prop} {w' : World} (R : RdrAt w g s i bad why) (K : Kept S w w') (hS : ¬ S g) : RdrAt w' g s i bad why := by
  unfold RdrAt at R ⊢
  exact (K.block g (Array.getElem?_eq_some_iff.1 R).1 hS).trans R

end

set_option maxRecDepth 100000 in
theorem no_any (w : World) (g : Nat) (s : ByteArray) (i bad why p e : Int) (R : RdrAt w g s i bad why) :
    Calls Tryz.prog 34 #[.pointer (some ⟨g, 0, none⟩), .int .i64 p, .int .i64 e] w fun x w' => x = .returned (.tuple #[]) ∧ RdrAt w' g s i (if bad < 0 then p else bad) (if bad < 0 then e else why) ∧ Kept (fun k => k = g) w w' := by
  obtain ⟨c0, c1, c2, c3⟩ := R.cells
  have f2 := R.free 2
  have f3 := (R.set2 p).free 3
  have HR := hid R
  clear R
  by_cases hb : bad < 0
  · rw [if_pos hb, if_pos hb]
    go_enter Tryz.func34, Tryz.ntmps34
    go_wp2
    go_end0
    exact ⟨rfl, (HR.out.set2 p).set3 e, (Kept.setCell (S := fun k => k = g) _ ⟨g, 2, none⟩ _ rfl).and (Kept.setCell (S := fun k => k = g) _ ⟨g, 3, none⟩ _ rfl)⟩
  · rw [if_neg hb, if_neg hb]
    go_enter Tryz.func34, Tryz.ntmps34
    go_wp2
    go_end0
    exact ⟨rfl, HR.out, Kept.refl _ _⟩

/-- The reader's place. -/
def rdrPlace (w : World) (g : Nat) : Nat := (intOf ((w.cell? ⟨g, 1, none⟩).getD undef)).toNat

theorem RdrAt.place {w : World} {g k : Nat} {s : ByteArray} {bad why : Int} (R : RdrAt w g s (k : Int) bad why) : rdrPlace w g = k := by
  unfold rdrPlace
  rw [R.cells.2.1]
  simp [intOf]

theorem rskip_round {w wr : World} {g : Nat} {s : ByteArray} {i k : Nat} {bad why : Int} (hlt : k < s.size) (R : RdrAt wr g s k bad why) (hs : skipP s (k + 1) = skipP s i) (K : Kept (fun k => k = g) w wr) (n : Nat) :
    (∃ k' : Nat, k' ≤ s.size ∧ RdrAt ((wr.drewN n).setCell ⟨g, 1, none⟩ (.int .i64 ((k : Int) + 1))) g s (k' : Int) bad why ∧ skipP s k' = skipP s i ∧ Kept (fun k => k = g) w ((wr.drewN n).setCell ⟨g, 1, none⟩ (.int .i64 ((k : Int) + 1)))) ∧
      s.size - rdrPlace ((wr.drewN n).setCell ⟨g, 1, none⟩ (.int .i64 ((k : Int) + 1))) g < s.size - rdrPlace wr g := by
  have R2 : RdrAt ((wr.drewN n).setCell ⟨g, 1, none⟩ (.int .i64 ((k : Int) + 1))) g s ((k + 1 : Nat) : Int) bad why := (R.kept (Kept.drewN (fun _ => False) wr n) (fun h => h)).set1 _
  refine ⟨⟨k + 1, by omega, R2, hs, K.and ((Kept.drewN _ _ _).and (Kept.setCell (S := fun k => k = g) _ ⟨g, 1, none⟩ _ rfl))⟩, ?_⟩
  rw [R2.place, R.place]
  omega

theorem blank_iff (b : UInt8) : blankB b = true ↔ (((b.toNat : Nat) : Int) = 32 ∨ ((b.toNat : Nat) : Int) = 9 ∨ ((b.toNat : Nat) : Int) = 10 ∨ ((b.toNat : Nat) : Int) = 13) := by
  have h : ∀ k : Fin 256, blankB (UInt8.ofNat k.1) = true ↔ (((k.1 : Nat) : Int) = 32 ∨ ((k.1 : Nat) : Int) = 9 ∨ ((k.1 : Nat) : Int) = 10 ∨ ((k.1 : Nat) : Int) = 13) := by decide +kernel
  have := h ⟨b.toNat, b.toNat_lt⟩
  simpa using this

set_option maxRecDepth 100000 in
set_option maxHeartbeats 4000000 in
theorem rskip_any (w : World) (g : Nat) (s : ByteArray) (i : Nat) (bad why : Int) (hs : s.size ≤ 281474976710656) (hi : i ≤ s.size) (R : RdrAt w g s i bad why) :
    Calls Tryz.prog 32 #[.pointer (some ⟨g, 0, none⟩)] w fun x w' => x = .returned (.tuple #[]) ∧ RdrAt w' g s (skipP s i : Nat) bad why ∧ Kept (fun k => k = g) w w' := by
  go_enter Tryz.func32, Tryz.ntmps32
  go_wp2
  go_loopw [] (fun wr => ∃ (k : Nat), k ≤ s.size ∧ RdrAt wr g s k bad why ∧ skipP s k = skipP s i ∧ Kept (fun k => k = g) w wr) (fun wr => s.size - rdrPlace wr g)
  case atStart => exact ⟨i, hi, R, rfl, Kept.refl _ _⟩
  case round =>
    obtain ⟨k, hk, R, hsk, K⟩ := hrel
    obtain ⟨c0, c1, c2, c3⟩ := R.cells
    have f1 := R.free 1
    have HR := hid R
    have HK := hid hsk
    have HKK := hid K
    clear R K hsk
    by_cases hlt : k < s.size
    · have hix := ix_str s hlt
      have e0 : (k : Int) < (s.size : Int) := by omega
      have HN : Hid (blankB (s[k]'hlt) = true → skipP s k = skipP s (k + 1)) := skipP_next s hlt
      have HS : Hid (blankB (s[k]'hlt) = false → skipP s k = k) := skipP_stop s hlt
      have HB : Hid (blankB (s[k]'hlt) = true ↔ ((((s[k]'hlt).toNat : Nat) : Int) = 32 ∨ (((s[k]'hlt).toNat : Nat) : Int) = 9 ∨ (((s[k]'hlt).toNat : Nat) : Int) = 10 ∨ (((s[k]'hlt).toNat : Nat) : Int) = 13)) := blank_iff _
      generalize (((s[k]'hlt).toNat : Nat) : Int) = c at *
      by_cases h32 : c = 32
      · subst h32
        go_wp2_with (first | go_quiet (fail) | fail)
        exact rskip_round hlt HR.out (by rw [← HN.out (HB.out.2 (by simp))]; exact HK.out) HKK.out nq
      have b32 : (c == 32) = false := by rw [beq_eq_false_iff_ne]; exact h32
      by_cases h9 : c = 9
      · subst h9
        go_wp2_with (first | go_quiet (fail) | fail)
        exact rskip_round hlt HR.out (by rw [← HN.out (HB.out.2 (by simp))]; exact HK.out) HKK.out nq
      have b9 : (c == 9) = false := by rw [beq_eq_false_iff_ne]; exact h9
      by_cases h10 : c = 10
      · subst h10
        go_wp2_with (first | go_quiet (fail) | fail)
        exact rskip_round hlt HR.out (by rw [← HN.out (HB.out.2 (by simp))]; exact HK.out) HKK.out nq
      have b10 : (c == 10) = false := by rw [beq_eq_false_iff_ne]; exact h10
      by_cases h13 : c = 13
      · subst h13
        go_wp2_with (first | go_quiet (fail) | fail)
        exact rskip_round hlt HR.out (by rw [← HN.out (HB.out.2 (by simp))]; exact HK.out) HKK.out nq
      have b13 : (c == 13) = false := by rw [beq_eq_false_iff_ne]; exact h13
      have HE : Hid (skipP s k = k) := HS.out (by
        cases hb : blankB (s[k]'hlt) with
        | false => rfl
        | true => have := HB.out.1 hb; omega)
      go_wp2_with (first | go_quiet (fail) | fail)
      go_end0
      refine ⟨rfl, ?_, HKK.out.and (Kept.drewN _ _ _)⟩
      rw [← HK.out, HE.out]
      exact HR.out.kept (Kept.drewN (fun _ => False) _ _) (fun h => h)
    · obtain rfl : k = s.size := by omega
      have e0 : ¬ ((s.size : Nat) : Int) < (s.size : Int) := by omega
      go_wp2_with (first | go_quiet (fail) | fail)
      go_end0
      refine ⟨rfl, ?_, HKK.out.and (Kept.drewN _ _ _)⟩
      rw [← HK.out, skipP_end s (Nat.le_refl _)]
      exact HR.out.kept (Kept.drewN (fun _ => False) _ _) (fun h => h)

end Go.Proofs.YtfogkbdbncfleaaGreatDoor
