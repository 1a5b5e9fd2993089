/-
  A flag: written by the codec and by the document.
-/
import Derived.Test.YtceocmhgbcimoaaCMail
namespace Go.Proofs.Ytceocmhgbcimoaa
open Go.RowKit

def flagB (b : Bool) : Int := if b then 1 else 0

def wrFlag (b : Bool) : Option (List Int) := some [flagB b]

set_option maxRecDepth 100000 in
set_option maxHeartbeats 400000 in
theorem wflag_ok {w : World} {base p : Nat} {v : Value} {raw : List Int} (A : WAt w 117 base p v raw false) (b : Bool) (hL : raw.length ≤ 2199023255552) :
    Calls Try.prog 129 #[.pointer (some ⟨p, 0, none⟩), .bool b] w fun e w' => e = .returned (.tuple #[]) ∧ (∃ v', WAt w' 117 base p v' (raw ++ [flagB b]) false) ∧ Keep2 base p w w' := by
  obtain ⟨i0, hi0, hz0, hz1, hz2⟩ := info_parts Try.info5
  obtain ⟨a, c, rfl⟩ := ownsRow_shape A.row
  have y0 := A.c0
  have y1 := A.c1
  have f0 := A.fz 0
  have hbp := A.bp
  have HA : Hid (WAt w 117 base p (.slice a raw.length c) raw false) := A
  cases b with
  | true =>
    have ra := A.row.alloc (.cells #[.int .u8 1] 5)
    have hb : base ≤ (w.alloc (.cells #[.int .u8 1] 5)).heap.size := by have := A.hb; simp; omega
    have k2 := fun w3 => A.after (w3 := w3) (o := .cells #[.int .u8 1] 5)
    clear A
    go_enter Try.func129, Try.ntmps129
    go_wp2_with (first
      | (at_builtin; refine wpList_append_src _ rfl _ _ 28 rfl base 5 i0 (.int .u8 0) 1 1 Try.underlying28 hi0 hz0 hz1 hz2 rfl (by decide) (.slice a raw.length c) raw.length _ rfl ra _ rfl 1 _ srcNew (by simp [Value.oneCell']) (by unfold maxLen; omega) (by omega) hb ?_; intro a3 cap3 w3 ho3 hg3 _ hl3; obtain ⟨y3, f3, K3⟩ := k2 w3 hg3; clear k2 ra)
      | fail)
    go_end0
    exact ⟨rfl, ⟨_, HA.out.lay K3 (by rw [show (raw ++ [flagB true]).length = raw.length + 1 by simp, List.map_append]; exact ho3) (hl3.imp id (fun h => ⟨_, h, by simp⟩)) (HA.out.bs.append (fun y hy => by simp [flagB] at hy; subst hy; omega))⟩, (Keep2.own HA.out.row K3).and (Keep2.setP _ _ _ hbp)⟩
  | false =>
    have ra := A.row.alloc (.cells #[.int .u8 0] 5)
    have hb : base ≤ (w.alloc (.cells #[.int .u8 0] 5)).heap.size := by have := A.hb; simp; omega
    have k2 := fun w3 => A.after (w3 := w3) (o := .cells #[.int .u8 0] 5)
    clear A
    go_enter Try.func129, Try.ntmps129
    go_wp2_with (first
      | (at_builtin; refine wpList_append_src _ rfl _ _ 28 rfl base 5 i0 (.int .u8 0) 1 1 Try.underlying28 hi0 hz0 hz1 hz2 rfl (by decide) (.slice a raw.length c) raw.length _ rfl ra _ rfl 1 _ srcNew (by simp [Value.oneCell']) (by unfold maxLen; omega) (by omega) hb ?_; intro a3 cap3 w3 ho3 hg3 _ hl3; obtain ⟨y3, f3, K3⟩ := k2 w3 hg3; clear k2 ra)
      | fail)
    go_end0
    exact ⟨rfl, ⟨_, HA.out.lay K3 (by rw [show (raw ++ [flagB false]).length = raw.length + 1 by simp, List.map_append]; exact ho3) (hl3.imp id (fun h => ⟨_, h, by simp⟩)) (HA.out.bs.append (fun y hy => by simp [flagB] at hy; subst hy; omega))⟩, (Keep2.own HA.out.row K3).and (Keep2.setP _ _ _ hbp)⟩

set_option maxRecDepth 100000 in
set_option maxHeartbeats 400000 in
theorem wflag_any {w : World} {base p : Nat} {st : Option (List Int)} {L : Nat} (I : WIn w 117 base p st L) (b : Bool) (hL : L ≤ 2199023255552) :
    Calls Try.prog 129 #[.pointer (some ⟨p, 0, none⟩), .bool b] w fun e w' => e = .returned (.tuple #[]) ∧ WIn w' 117 base p (put st (wrFlag b)) (L + 8) ∧ Keep2 base p w w' := by
  obtain ⟨v, raw, bad, A, hr, rfl⟩ := I
  cases bad with
  | true =>
    have y1 := A.c1
    have HA : Hid _ := A
    clear A
    go_enter Try.func129, Try.ntmps129
    go_wp2
    refine bodyPost_ret (results_none rfl _ _ _) rfl ?_
    exact ⟨rfl, ⟨v, raw, true, HA.out, by omega, rfl⟩, Keep2.refl _ _ _⟩
  | false =>
    refine (wflag_ok A b (by omega)).mono ?_
    rintro e w' ⟨rfl, ⟨v', A'⟩, K⟩
    exact ⟨rfl, ⟨v', _, false, A', by simp; omega, rfl⟩, K⟩

end Go.Proofs.Ytceocmhgbcimoaa
