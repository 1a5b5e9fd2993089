/-
  The document's reader: a byte behind blanks.
-/
import Derived.Test.YtfogkbdbncfleaaGreatDoorFRdr1
namespace Go.Proofs.YtfogkbdbncfleaaGreatDoor
open Go.RowKit

theorem standsP_at {s : ByteArray} {j : Nat} (h : j < s.size) (c : UInt8) : standsP s j c = true ↔ (((s[j]'h).toNat : Nat) : Int) = ((c.toNat : Nat) : Int) := by
  unfold standsP
  have e : s.data.toList[j]? = some (s[j]'h) := by
    have : j < s.data.toList.length := by simpa using h
    rw [List.getElem?_eq_getElem this]
    rfl
  rw [e, beq_iff_eq, Option.some.injEq]
  constructor
  · intro h; rw [h]
  · intro h; exact UInt8.toNat_inj.1 (by omega)

theorem standsP_past {s : ByteArray} {j : Nat} (h : s.size ≤ j) (c : UInt8) : standsP s j c = false := by
  unfold standsP
  rw [List.getElem?_eq_none (by simpa using h)]
  rfl

set_option maxRecDepth 100000 in
set_option maxHeartbeats 4000000 in
theorem eatBad_any (w : World) (g : Nat) (s : ByteArray) (i : Nat) (bad why : Int) (c : UInt8) (hs : s.size ≤ 281474976710656) (hi : i ≤ s.size) (hb : 0 ≤ bad) (R : RdrAt w g s i bad why) :
    Calls Tryz.prog 30 #[.pointer (some ⟨g, 0, none⟩), .int .u8 ((c.toNat : Nat) : Int)] w fun x w' => x = .returned (.tuple #[]) ∧ RdrAt w' g s (skipP s i : Nat) bad why ∧ Kept (fun k => k = g) w w' := by
  have hS := rskip_any w g s i bad why hs hi R
  clear R
  go_enter Tryz.func30, Tryz.ntmps30
  go_wp2_with (first
    | (go_at_call 32; refine hS.mono ?_; rintro e w1 ⟨rfl, R1, K1⟩; clear hS; obtain ⟨c0, c1, c2, c3⟩ := R1.cells; have HR := hid R1; have HK := hid K1; clear R1 K1)
    | fail)
  try simp only [Exit.inBlock, Exit.then]
  refine bodyPost_ret (results_none rfl _ _ _) rfl ?_
  exact ⟨rfl, HR.out, HK.out⟩

set_option maxRecDepth 100000 in
set_option maxHeartbeats 4000000 in
theorem eat_any (w : World) (g : Nat) (s : ByteArray) (i : Nat) (bad why : Int) (c : UInt8) (hs : s.size ≤ 281474976710656) (hi : i ≤ s.size) (hb : bad < 0) (R : RdrAt w g s i bad why) :
    Calls Tryz.prog 30 #[.pointer (some ⟨g, 0, none⟩), .int .u8 ((c.toNat : Nat) : Int)] w fun x w' => x = .returned (.tuple #[]) ∧
      (if standsP s (skipP s i) c then RdrAt w' g s (skipP s i + 1 : Nat) bad why else RdrAt w' g s (skipP s i : Nat) (skipP s i : Nat) 2) ∧ Kept (fun k => k = g) w w' := by
  have hS := rskip_any w g s i bad why hs hi R
  have hj := skipP_le s hi
  clear R
  generalize skipP s i = j at *
  have HN := hid (fun V (R : RdrAt V g s (j : Nat) bad why) => no_any V g s j bad why j 2 R)
  by_cases hlt : j < s.size
  · have hix := ix_str s hlt
    have hst := standsP_at hlt c
    have e0 : ¬ (j : Int) ≥ (s.size : Int) := by omega
    generalize (((s[j]'hlt).toNat : Nat) : Int) = d at *
    generalize ((c.toNat : Nat) : Int) = cc at *
    by_cases hd : d = cc
    · simp only [hst.2 hd, if_true]
      subst hd
      have q : (d == d) = true := by simp
      clear hst
      go_enter Tryz.func30, Tryz.ntmps30
      go_wp2_with (first
        | (go_at_call 32; refine hS.mono ?_; rintro e w1 ⟨rfl, R1, K1⟩; clear hS; obtain ⟨c0, c1, c2, c3⟩ := R1.cells; have f1 := R1.free 1; have HR := hid R1; have HK := hid K1; clear R1 K1)
        | go_quiet (fail)
        | fail)
      go_end0
      exact ⟨rfl, (HR.out.kept (Kept.drewN (fun _ => False) _ _) (fun h => h)).set1 _, HK.out.and ((Kept.drewN _ _ _).and (Kept.setCell (S := fun k => k = g) _ ⟨g, 1, none⟩ _ rfl))⟩
    · have hsf : standsP s j c = false := by
        cases h : standsP s j c with
        | false => rfl
        | true => exact absurd (hst.1 h) hd
      simp only [hsf, Bool.false_eq_true, if_false]
      clear hsf
      have q : (d == cc) = false := by rw [beq_eq_false_iff_ne]; exact hd
      have q2 : (d != cc) = true := by simp [bne, q]
      clear hst
      go_enter Tryz.func30, Tryz.ntmps30
      go_wp2_with (first
        | (go_at_call 32; refine hS.mono ?_; rintro e w1 ⟨rfl, R1, K1⟩; clear hS; obtain ⟨c0, c1, c2, c3⟩ := R1.cells; have HR := hid R1; have HK := hid K1; clear R1 K1)
        | (go_at_call 34; refine (HN.out _ (HR.out.kept (Kept.drewN (fun _ => False) _ _) (fun h => h))).mono ?_; rintro e w2 ⟨rfl, R2, K2⟩; rw [if_pos hb, if_pos hb] at R2)
        | go_quiet (fail)
        | fail)
      try simp only [Exit.inBlock, Exit.then]
      refine bodyPost_ret (results_none rfl _ _ _) rfl ?_
      exact ⟨rfl, R2, (HK.out.and (Kept.drewN _ _ _)).and K2⟩
  · simp only [standsP_past (show s.size ≤ j by omega) c, Bool.false_eq_true, if_false]
    have e0 : (j : Int) ≥ (s.size : Int) := by omega
    generalize ((c.toNat : Nat) : Int) = cc at *
    go_enter Tryz.func30, Tryz.ntmps30
    go_wp2_with (first
      | (go_at_call 32; refine hS.mono ?_; rintro e w1 ⟨rfl, R1, K1⟩; clear hS; obtain ⟨c0, c1, c2, c3⟩ := R1.cells; have HR := hid R1; have HK := hid K1; clear R1 K1)
      | (go_at_call 34; refine (HN.out _ (HR.out.kept (Kept.drewN (fun _ => False) _ _) (fun h => h))).mono ?_; rintro e w2 ⟨rfl, R2, K2⟩; rw [if_pos hb, if_pos hb] at R2)
      | go_quiet (fail)
      | fail)
    try simp only [Exit.inBlock, Exit.then]
    refine bodyPost_ret (results_none rfl _ _ _) rfl ?_
    exact ⟨rfl, R2, (HK.out.and (Kept.drewN _ _ _)).and K2⟩

set_option maxRecDepth 100000 in
set_option maxHeartbeats 4000000 in
theorem isBad_any (w : World) (g : Nat) (s : ByteArray) (i : Nat) (bad why : Int) (c : UInt8) (hs : s.size ≤ 281474976710656) (hi : i ≤ s.size) (hb : ¬ bad < 0) (R : RdrAt w g s i bad why) :
    Calls Tryz.prog 31 #[.pointer (some ⟨g, 0, none⟩), .int .u8 ((c.toNat : Nat) : Int)] w fun x w' => x = .returned (.bool false) ∧ RdrAt w' g s (skipP s i : Nat) bad why ∧ Kept (fun k => k = g) w w' := by
  have hS := rskip_any w g s i bad why hs hi R
  clear R
  have hbd : decide (bad < 0) = false := by rw [decide_eq_false_iff_not]; exact hb
  go_enter Tryz.func31, Tryz.ntmps31
  go_wp2_with (first
    | (go_at_call 32; refine hS.mono ?_; rintro e w1 ⟨rfl, R1, K1⟩; clear hS; obtain ⟨c0, c1, c2, c3⟩ := R1.cells; have HR := hid R1; have HK := hid K1; clear R1 K1)
    | go_quiet (fail)
    | fail)
  go_ret
  exact ⟨rfl, HR.out.kept (Kept.drewN (fun _ => False) _ _) (fun h => h), HK.out.and (Kept.drewN _ _ _)⟩

set_option maxRecDepth 100000 in
set_option maxHeartbeats 4000000 in
theorem is_any (w : World) (g : Nat) (s : ByteArray) (i : Nat) (bad why : Int) (c : UInt8) (hs : s.size ≤ 281474976710656) (hi : i ≤ s.size) (hb : bad < 0) (R : RdrAt w g s i bad why) :
    Calls Tryz.prog 31 #[.pointer (some ⟨g, 0, none⟩), .int .u8 ((c.toNat : Nat) : Int)] w fun x w' => x = .returned (.bool (standsP s (skipP s i) c)) ∧ RdrAt w' g s (skipP s i : Nat) bad why ∧ Kept (fun k => k = g) w w' := by
  have hS := rskip_any w g s i bad why hs hi R
  have hj := skipP_le s hi
  clear R
  generalize skipP s i = j at *
  by_cases hlt : j < s.size
  · have hix := ix_str s hlt
    have hst := standsP_at hlt c
    have e0 : (j : Int) < (s.size : Int) := by omega
    generalize (((s[j]'hlt).toNat : Nat) : Int) = d at *
    generalize ((c.toNat : Nat) : Int) = cc at *
    by_cases hd : d = cc
    · simp only [hst.2 hd]
      subst hd
      have q : (d == d) = true := by simp
      clear hst
      go_enter Tryz.func31, Tryz.ntmps31
      go_wp2_with (first
        | (go_at_call 32; refine hS.mono ?_; rintro e w1 ⟨rfl, R1, K1⟩; clear hS; obtain ⟨c0, c1, c2, c3⟩ := R1.cells; have HR := hid R1; have HK := hid K1; clear R1 K1)
        | go_quiet (fail)
        | fail)
      go_ret
      exact ⟨rfl, HR.out.kept (Kept.drewN (fun _ => False) _ _) (fun h => h), HK.out.and (Kept.drewN _ _ _)⟩
    · have hsf : standsP s j c = false := by
        cases h : standsP s j c with
        | false => rfl
        | true => exact absurd (hst.1 h) hd
      simp only [hsf]
      clear hsf
      have q : (d == cc) = false := by rw [beq_eq_false_iff_ne]; exact hd
      have q2 : (d != cc) = true := by simp [bne, q]
      clear hst
      go_enter Tryz.func31, Tryz.ntmps31
      go_wp2_with (first
        | (go_at_call 32; refine hS.mono ?_; rintro e w1 ⟨rfl, R1, K1⟩; clear hS; obtain ⟨c0, c1, c2, c3⟩ := R1.cells; have HR := hid R1; have HK := hid K1; clear R1 K1)
        | go_quiet (fail)
        | fail)
      go_ret
      exact ⟨rfl, HR.out.kept (Kept.drewN (fun _ => False) _ _) (fun h => h), HK.out.and (Kept.drewN _ _ _)⟩
  · simp only [standsP_past (show s.size ≤ j by omega) c]
    have e0 : ¬ (j : Int) < (s.size : Int) := by omega
    generalize ((c.toNat : Nat) : Int) = cc at *
    go_enter Tryz.func31, Tryz.ntmps31
    go_wp2_with (first
      | (go_at_call 32; refine hS.mono ?_; rintro e w1 ⟨rfl, R1, K1⟩; clear hS; obtain ⟨c0, c1, c2, c3⟩ := R1.cells; have HR := hid R1; have HK := hid K1; clear R1 K1)
      | go_quiet (fail)
      | fail)
    go_ret
    exact ⟨rfl, HR.out.kept (Kept.drewN (fun _ => False) _ _) (fun h => h), HK.out.and (Kept.drewN _ _ _)⟩

end Go.Proofs.YtfogkbdbncfleaaGreatDoor
