/-
  A flag: read by the document.
-/
import Derived.Test.YtceocmhgbcimoaaCRefText
import Derived.Test.YtceocmhgbcimoaaCOpF
namespace Go.Proofs.Ytceocmhgbcimoaa
open Go.RowKit

section
variable {w : World} {r : Nat} {a : Option Addr} {m c : Nat} {raw : List Int} {st : Except Nat Nat}

set_option maxRecDepth 100000 in
set_option maxHeartbeats 400000 in
theorem xrflag_any (A : XAt w r a m c raw st) :
    Calls Try.prog 110 #[.pointer (some ⟨r, 0, none⟩)] w fun e w' => e = .returned (.bool (xval false (xnext rdFlag raw st))) ∧ XAt w' r a m c raw (xst (xnext rdFlag raw st)) ∧ Kept (fun k => k = r) w w' := by
  have hlen := A.bytes.len
  cases st with
  | error pl =>
    obtain ⟨at', hh⟩ := A.shut
    obtain ⟨c2, _⟩ := cellOf' hh (o := 2) rfl
    have HA : Hid (XAt w r a m c raw (.error pl)) := A
    clear A hh
    simp only [xnext, xval, xst]
    go_enter Try.func110, Try.ntmps110
    go_wp2
    go_ret
    exact ⟨rfl, HA.out, Kept.refl _ _⟩
  | ok i =>
    obtain ⟨on, hh, hle⟩ := A.open
    obtain ⟨c0, _⟩ := cellOf' hh (o := 0) rfl
    obtain ⟨c1, f1⟩ := cellOf' hh (o := 1) rfl
    obtain ⟨c2, _⟩ := cellOf' hh (o := 2) rfl
    have hs := A.small
    have hcap := A.bytes.cap
    simp only [xnext]
    unfold rdFlag
    by_cases h1 : raw.length ≤ i
    · rw [if_pos h1, hlen]
      simp only [xval, xst]
      have hNo : ∀ n, Calls Try.prog 125 #[.pointer (some ⟨r, 0, none⟩), .int .i64 m] (w.drewN n) fun e w' => e = .returned (.tuple #[]) ∧ XAt w' r a m c raw (.error m) ∧ Kept (fun k => k = r) w w' := fun n => by
        refine (xno_any (A.kept (Kept.drewN (fun _ => False) w n) (fun h => h) (fun _ _ _ h => h)) m).mono ?_
        rintro e w' ⟨rfl, A', K'⟩
        exact ⟨rfl, A', (Kept.drewN _ _ _).and K'⟩
      have hi2 : (m : Int) ≤ (i : Int) := by omega
      clear A hh
      go_enter Try.func110, Try.ntmps110
      go_wp2_with fail
      go_quiet (fail)
      go_wp2_with (first
        | (go_at_call 125; refine (hNo _).mono ?_; rintro e w1 ⟨rfl, A1, K1⟩; clear hNo)
        | fail)
      go_ret
      exact ⟨rfl, A1, K1⟩
    · rw [if_neg h1]
      obtain ⟨ba, oa, rfl, hc⟩ := A.bytes.at (j := i) (by omega)
      have y := hc i (by omega)
      have hxb := Bs.getD A.bytes.byte i
      generalize raw.getD i 0 = x at *
      have hi2 : (i : Int) < (m : Int) := by omega
      have hi3 : i < m := by omega
      clear hc
      by_cases h2 : 1 < x
      · rw [if_pos h2]
        simp only [xval, xst]
        have hNo : ∀ n, Calls Try.prog 125 #[.pointer (some ⟨r, 0, none⟩), .int .i64 i] (w.drewN n) fun e w' => e = .returned (.tuple #[]) ∧ XAt w' r (some ⟨ba, oa, none⟩) m c raw (.error i) ∧ Kept (fun k => k = r) w w' := fun n => by
          refine (xno_any (A.kept (Kept.drewN (fun _ => False) w n) (fun h => h) (fun _ _ _ h => h)) i).mono ?_
          rintro e w' ⟨rfl, A', K'⟩
          exact ⟨rfl, A', (Kept.drewN _ _ _).and K'⟩
        clear A hh
        go_enter Try.func110, Try.ntmps110
        go_wp2_with fail
        go_quiet (fail)
        go_wp2_with fail
        go_quiet (fail)
        go_wp2_with (first
          | (go_at_call 125; refine (hNo _).mono ?_; rintro e w1 ⟨rfl, A1, K1⟩; clear hNo)
          | fail)
        go_ret
        exact ⟨rfl, A1, K1⟩
      · rw [if_neg h2]
        simp only [xval, xst]
        have HE : Hid _ := A.moved hh (k := 1) (by omega)
        have hne : ¬ ba = r := A.ne (by intro e; rw [e] at h1; exact h1 (Nat.zero_le _)) _ rfl
        have hw1 : IntKind.i64.wrap ((i : Int) + 1) = (i : Int) + 1 := by rw [IntKind.wrap_i64]; omega
        have hw2 : IntKind.i64.wrap ((i : Int) + 1 - 1) = (i : Int) := by rw [IntKind.wrap_i64]; omega
        have g1 : (i : Int) + 1 - 1 = (i : Int) := by omega
        clear A hh
        go_enter Try.func110, Try.ntmps110
        go_wp2_with fail
        go_quiet (fail)
        go_wp2_with fail
        go_quiet (fail)
        go_wp2_with fail
        go_quiet (fail)
        go_wp2
        go_ret
        obtain ⟨q1, q2⟩ := HE.out _ _
        exact ⟨rfl, q1, q2⟩
end

end Go.Proofs.Ytceocmhgbcimoaa
