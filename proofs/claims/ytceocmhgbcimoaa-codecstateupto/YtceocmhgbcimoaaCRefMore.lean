/-
  The document's writer and reader: texts, signed numbers, the end.
-/
import Derived.Test.YtceocmhgbcimoaaCRefWr
import Derived.Test.YtceocmhgbcimoaaCRefRd
namespace Go.Proofs.Ytceocmhgbcimoaa
open Go.RowKit Go.Lib

theorem wrSig_out {n : Int} (h : n < -2251799813685248 ∨ 2251799813685248 < n) : wrSig n = none := by
  unfold wrSig wrNum sgn
  rw [if_neg]
  split <;> omega


section
variable {w : World} {r : Nat} {a : Option Addr} {m c : Nat} {raw : List Int} {st : Except Nat Nat}


/-- What the document's reader tells at the end: the place, and whether it is refused. -/
def xend (raw : List Int) : Except Nat Nat → Except Nat Unit
  | .error e => .error e
  | .ok i => if i < raw.length then .error i else .ok ()

def endTup : Except Nat Unit → Value
  | .error pl => .tuple #[.int .i64 pl, .int .i64 2]
  | .ok _ => .tuple #[.int .i64 0, .int .i64 0]

set_option maxRecDepth 100000 in
set_option maxHeartbeats 400000 in
theorem xend_any (A : XAt w r a m c raw st) :
    Calls Try.prog 100 #[.pointer (some ⟨r, 0, none⟩)] w fun e w' => e = .returned (endTup (xend raw st)) ∧ Kept (fun k => k = r) w w' := by
  have hlen := A.bytes.len
  cases st with
  | error pl =>
    obtain ⟨at', hh⟩ := A.shut
    obtain ⟨c0, _⟩ := cellOf' hh (o := 0) rfl
    obtain ⟨c1, _⟩ := cellOf' hh (o := 1) rfl
    obtain ⟨c2, _⟩ := cellOf' hh (o := 2) rfl
    obtain ⟨c3, _⟩ := cellOf' hh (o := 3) rfl
    clear A hh
    simp only [xend, endTup]
    go_enter Try.func100, Try.ntmps100
    go_wp2_with fail
    go_quiet (fail)
    go_wp2
    go_ret2
    exact ⟨rfl, Kept.drewN _ _ _⟩
  | ok i =>
    obtain ⟨on, hh, hle⟩ := A.open
    obtain ⟨c0, _⟩ := cellOf' hh (o := 0) rfl
    obtain ⟨c1, _⟩ := cellOf' hh (o := 1) rfl
    obtain ⟨c2, _⟩ := cellOf' hh (o := 2) rfl
    obtain ⟨c3, _⟩ := cellOf' hh (o := 3) rfl
    simp only [xend, hlen]
    by_cases hi : i < m
    · rw [if_pos hi]
      have hNo : ∀ n, Calls Try.prog 125 #[.pointer (some ⟨r, 0, none⟩), .int .i64 i] (w.drewN n) fun e w' => e = .returned (.tuple #[]) ∧ XAt w' r a m c raw (.error i) ∧ Kept (fun k => k = r) w w' := fun n => by
        refine (xno_any (A.kept (Kept.drewN (fun _ => False) w n) (fun h => h) (fun _ _ _ h => h)) i).mono ?_
        rintro e w' ⟨rfl, A', K'⟩
        exact ⟨rfl, A', (Kept.drewN _ _ _).and K'⟩
      have hi2 : (i : Int) < (m : Int) := by omega
      simp only [endTup]
      clear A hh
      go_enter Try.func100, Try.ntmps100
      go_wp2_with fail
      go_quiet (fail)
      go_wp2_with (first
        | (go_at_call 125; refine (hNo _).mono ?_; rintro e w1 ⟨rfl, A1, K1⟩; obtain ⟨at', hh⟩ := A1.shut; obtain ⟨d2, _⟩ := cellOf' hh (o := 2) rfl; obtain ⟨d3, _⟩ := cellOf' hh (o := 3) rfl; clear hNo A1 hh c0 c1 c2 c3)
        | fail)
      go_ret2
      exact ⟨rfl, K1⟩
    · rw [if_neg hi]
      have hi2 : ¬ (i : Int) < (m : Int) := by omega
      simp only [endTup]
      clear A hh
      go_enter Try.func100, Try.ntmps100
      go_wp2_with fail
      go_quiet (fail)
      go_wp2
      go_ret2
      exact ⟨rfl, Kept.drewN _ _ _⟩
end

end Go.Proofs.Ytceocmhgbcimoaa
