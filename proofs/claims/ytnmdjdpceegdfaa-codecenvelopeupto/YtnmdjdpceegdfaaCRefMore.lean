/-
  The document's writer and reader: texts, signed numbers, the end.
-/
import Derived.Test.YtnmdjdpceegdfaaCRefWr
import Derived.Test.YtnmdjdpceegdfaaCRefRd
namespace Go.Proofs.Ytnmdjdpceegdfaa
open Go.RowKit Go.Lib

theorem wrSig_out {n : Int} (h : n < -2251799813685248 ∨ 2251799813685248 < n) : wrSig n = none := by
  unfold wrSig wrNum sgn
  rw [if_neg]
  split <;> omega

set_option maxRecDepth 100000 in
set_option maxHeartbeats 400000 in
theorem xsigned_any {w : World} {base p : Nat} {st : Option (List Int)} {L : Nat} (I : WIn w 72 base p st L) (n : Int) (hL : L ≤ 2199023255552) :
    Calls Try.prog 41 #[.pointer (some ⟨p, 0, none⟩), .int .i64 n] w fun e w' => e = .returned (.tuple #[]) ∧ WIn w' 72 base p (put st (wrSig n)) (L + 8) ∧ Keep2 base p w w' := by
  by_cases h : n < -2251799813685248 ∨ 2251799813685248 < n
  · rw [wrSig_out h, put_none]
    obtain ⟨v, raw, bad, A, hr, rfl⟩ := I
    have c1 := A.c1
    have f1 := A.fz 1
    have HI : Hid (WIn (w.setCell ⟨p, 1, none⟩ (.bool true)) 72 base p none (L + 8) ∧ Keep2 base p w (w.setCell ⟨p, 1, none⟩ (.bool true))) := ⟨⟨v, raw, true, A.mark true, by omega, rfl⟩, Keep2.setP _ _ _ A.bp⟩
    clear A
    by_cases h1 : n < -2251799813685248
    · go_enter Try.func41, Try.ntmps41
      go_wp2
      refine bodyPost_ret (results_none rfl _ _ _) rfl ?_
      exact ⟨rfl, HI.out⟩
    · have h2 : 2251799813685248 < n := by omega
      go_enter Try.func41, Try.ntmps41
      go_wp2
      refine bodyPost_ret (results_none rfl _ _ _) rfl ?_
      exact ⟨rfl, HI.out⟩
  · have h1 : ¬ n < -2251799813685248 := by omega
    have h2 : ¬ 2251799813685248 < n := by omega
    have hN := xnum_any I (sgn n) 0 4503599627370496 (by decide) (by decide) hL
    unfold wrSig
    generalize put st (wrNum 0 4503599627370496 (sgn n)) = st2 at *
    clear I h
    by_cases h3 : n < 0
    · have e1 : sgn n = -2 * n - 1 := by unfold sgn; rw [if_pos h3]
      rw [e1] at hN
      go_enter Try.func41, Try.ntmps41
      go_wp2_with (first
        | (go_at_call 39; refine hN.mono ?_; rintro e w1 ⟨rfl, hI, K⟩)
        | fail)
      go_end0
      exact ⟨rfl, hI, K⟩
    · have e1 : sgn n = 2 * n := by unfold sgn; rw [if_neg h3]
      rw [e1] at hN
      go_enter Try.func41, Try.ntmps41
      go_wp2_with (first
        | (go_at_call 39; refine hN.mono ?_; rintro e w1 ⟨rfl, hI, K⟩)
        | fail)
      go_end0
      exact ⟨rfl, hI, K⟩

section
variable {w : World} {r : Nat} {a : Option Addr} {m c : Nat} {raw : List Int} {st : Except Nat Nat}

theorem rdSig_eq (raw : List Int) (st : Except Nat Nat) : xnext rdSig raw st = (match xnext (rdNum 0 4503599627370496) raw st with | .error e => .error e | .ok (n, i) => .ok (unsgn n, i)) := by
  cases st with
  | error e => rfl
  | ok i => rfl

theorem xnum_bd (raw : List Int) (st : Except Nat Nat) : 0 ≤ xval 0 (xnext (rdNum 0 4503599627370496) raw st) ∧ xval 0 (xnext (rdNum 0 4503599627370496) raw st) ≤ 4503599627370496 := by
  cases h : xnext (rdNum 0 4503599627370496) raw st with
  | error e => simp [xval]
  | ok x =>
    obtain ⟨v, i⟩ := x
    cases st with
    | error e => cases h
    | ok j =>
      have := rdNum_ok (show rdNum 0 4503599627370496 raw j = .ok (v, i) from h)
      exact ⟨this.1, this.2.1⟩

set_option maxRecDepth 100000 in
set_option maxHeartbeats 400000 in
theorem xrsigned_any (A : XAt w r a m c raw st) :
    Calls Try.prog 50 #[.pointer (some ⟨r, 0, none⟩)] w fun e w' =>
      e = .returned (.int .i64 (xval 0 (xnext rdSig raw st))) ∧ XAt w' r a m c raw (xst (xnext rdSig raw st)) ∧ Kept (fun k => k = r) w w' := by
  have hN := xrd_any A 0 4503599627370496
  have hbd := xnum_bd raw st
  have he : xval 0 (xnext rdSig raw st) = unsgn (xval 0 (xnext (rdNum 0 4503599627370496) raw st)) ∧ xst (xnext rdSig raw st) = xst (xnext (rdNum 0 4503599627370496) raw st) := by
    rw [rdSig_eq]
    cases xnext (rdNum 0 4503599627370496) raw st with
    | error e => exact ⟨by simp [xval, unsgn], rfl⟩
    | ok x => exact ⟨rfl, rfl⟩
  rw [he.1, he.2]
  generalize xst (xnext (rdNum 0 4503599627370496) raw st) = s2 at *
  generalize xval 0 (xnext (rdNum 0 4503599627370496) raw st) = n at *
  clear A he
  obtain ⟨b0, b1⟩ := hbd
  by_cases hodd : n % 2 = 1
  · have ho : (n % 2 == 1) = true := by simpa using hodd
    have hu : unsgn n = -(n / 2) - 1 := by unfold unsgn; rw [if_pos hodd]
    have hu2 : wrap64 (-(n + 1).tdiv 2) = unsgn n := by rw [hu, Int.tdiv_eq_ediv_of_nonneg (by omega)]; unfold wrap64; omega
    have HU : Hid _ := hu2
    clear hu hu2
    go_enter Try.func50, Try.ntmps50
    go_wp2_with (first
      | (go_at_call 48; refine hN.mono ?_; rintro e w1 ⟨rfl, A1, K1⟩)
      | fail)
    go_ret
    exact ⟨ret_int HU.out, A1, K1⟩
  · have ho : (n % 2 == 1) = false := by simpa using hodd
    have hu : unsgn n = n / 2 := by unfold unsgn; rw [if_neg hodd]
    rw [hu]
    go_enter Try.func50, Try.ntmps50
    go_wp2_with (first
      | (go_at_call 48; refine hN.mono ?_; rintro e w1 ⟨rfl, A1, K1⟩)
      | fail)
    go_ret
    exact ⟨rfl, A1, K1⟩

/-- What the document's reader tells at the end: the place, and whether it is refused. -/
def xend (raw : List Int) : Except Nat Nat → Except Nat Unit
  | .error e => .error e
  | .ok i => if i < raw.length then .error i else .ok ()

def endTup : Except Nat Unit → Value
  | .error pl => .tuple #[.int .i64 pl, .int .i64 2]
  | .ok _ => .tuple #[.int .i64 0, .int .i64 0]

set_option maxRecDepth 100000 in
set_option maxHeartbeats 400000 in
theorem xend_any (A : XAt w r a m c raw st) :
    Calls Try.prog 51 #[.pointer (some ⟨r, 0, none⟩)] w fun e w' => e = .returned (endTup (xend raw st)) ∧ Kept (fun k => k = r) w w' := by
  have hlen := A.bytes.len
  cases st with
  | error pl =>
    obtain ⟨at', hh⟩ := A.shut
    obtain ⟨c0, _⟩ := cellOf' hh (o := 0) rfl
    obtain ⟨c1, _⟩ := cellOf' hh (o := 1) rfl
    obtain ⟨c2, _⟩ := cellOf' hh (o := 2) rfl
    obtain ⟨c3, _⟩ := cellOf' hh (o := 3) rfl
    clear A hh
    simp only [xend, endTup]
    go_enter Try.func51, Try.ntmps51
    go_wp2_with fail
    go_quiet (fail)
    go_wp2
    go_ret2
    exact ⟨rfl, Kept.drewN _ _ _⟩
  | ok i =>
    obtain ⟨on, hh, hle⟩ := A.open
    obtain ⟨c0, _⟩ := cellOf' hh (o := 0) rfl
    obtain ⟨c1, _⟩ := cellOf' hh (o := 1) rfl
    obtain ⟨c2, _⟩ := cellOf' hh (o := 2) rfl
    obtain ⟨c3, _⟩ := cellOf' hh (o := 3) rfl
    simp only [xend, hlen]
    by_cases hi : i < m
    · rw [if_pos hi]
      have hNo : ∀ n, Calls Try.prog 79 #[.pointer (some ⟨r, 0, none⟩), .int .i64 i] (w.drewN n) fun e w' => e = .returned (.tuple #[]) ∧ XAt w' r a m c raw (.error i) ∧ Kept (fun k => k = r) w w' := fun n => by
        refine (xno_any (A.kept (Kept.drewN (fun _ => False) w n) (fun h => h) (fun _ _ _ h => h)) i).mono ?_
        rintro e w' ⟨rfl, A', K'⟩
        exact ⟨rfl, A', (Kept.drewN _ _ _).and K'⟩
      have hi2 : (i : Int) < (m : Int) := by omega
      simp only [endTup]
      clear A hh
      go_enter Try.func51, Try.ntmps51
      go_wp2_with fail
      go_quiet (fail)
      go_wp2_with (first
        | (go_at_call 79; refine (hNo _).mono ?_; rintro e w1 ⟨rfl, A1, K1⟩; obtain ⟨at', hh⟩ := A1.shut; obtain ⟨d2, _⟩ := cellOf' hh (o := 2) rfl; obtain ⟨d3, _⟩ := cellOf' hh (o := 3) rfl; clear hNo A1 hh c0 c1 c2 c3)
        | fail)
      go_ret2
      exact ⟨rfl, K1⟩
    · rw [if_neg hi]
      have hi2 : ¬ (i : Int) < (m : Int) := by omega
      simp only [endTup]
      clear A hh
      go_enter Try.func51, Try.ntmps51
      go_wp2_with fail
      go_quiet (fail)
      go_wp2
      go_ret2
      exact ⟨rfl, Kept.drewN _ _ _⟩
end

end Go.Proofs.Ytnmdjdpceegdfaa
