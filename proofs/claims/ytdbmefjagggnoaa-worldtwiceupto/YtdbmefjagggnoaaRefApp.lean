/-
  The document's disk: add, whatever stands; Append.
-/
import Derived.Test.YtdbmefjagggnoaaRefNil
namespace Go.Proofs.Ytdbmefjagggnoaa
open Go.RowKit Go.Maps Go.ChangeMaps Go.MapKept

section
variable {w w' : World} {S : Nat → Prop} {r : Nat} {rs : RSt} {vL vF : Value} {M : List RM}

theorem refAdd_any (R : RefIn w S r rs vL vF M) (hr : Rising rs.L) (x : Int) (hM : M.length ≤ 1099511627775) {a : Option Addr} {m c : Nat} {b : List Int} (B : BytesAt w a m c b) (hsep : b ≠ [] → ∀ ad, a = some ad → ad.block ≠ r) (hbl : (rs.bytesOf x).length + m ≤ 1099511627776) :
    Calls Try.prog 69 #[.pointer (some ⟨r, 0, none⟩), .int .i64 x, .slice a m c] w fun e w' => e = .returned (.tuple #[]) ∧ RefTo w S r (rs.add x b) w' := by
  by_cases hm : m = 0
  · subst hm
    have hb : b = [] := List.eq_nil_of_length_eq_zero B.len
    have eA : rs.add x b = rs := by unfold RSt.add; rw [if_pos hb]
    rw [eA]
    refine (refAdd_none a c x).mono ?_
    rintro e w' ⟨rfl, rfl⟩
    exact ⟨rfl, R.to (Kept.refl _ _)⟩
  · cases a with
    | none => exact absurd (B.nil rfl) hm
    | some ad =>
      have hbne : b ≠ [] := fun e => hm (by rw [← B.len, e]; rfl)
      cases hh : hitL rs.L x with
      | true => exact refAdd_hit R hr x (by omega) hh B (by omega) hbl
      | false =>
        have hs := hsep hbne ad rfl
        rcases R.rowL.2 with ⟨h0, _⟩ | ⟨g, cap, cur, h1, _⟩
        · exact refAdd_miss0 R x hM hh h0 B hs (by omega) (by omega)
        · exact refAdd_miss R x hM hh hr h1 B hs (by omega) (by omega)

theorem RSt.half_err (rs : RSt) (x : Int) (h : rs.half = true) : rs.err x = 3 := by
  unfold RSt.half at h
  unfold RSt.err
  split at h
  · cases h
  · rename_i hs
    rw [if_neg hs]
    cases hst : rs.struck with
    | none => rw [hst] at h; cases h
    | some p => rfl

theorem bytesOf_after' (rs : RSt) (x : Int) : rs.after.bytesOf x = rs.bytesOf x := rfl

set_option maxRecDepth 100000 in
set_option maxHeartbeats 2000000 in
theorem refAppend_any (R : RefIn w S r rs vL vF M) (Bd : RBd rs) (hr : Rising rs.L) (x : Int) (hM : M.length ≤ 1099511627775) (hl : rs.faults.length ≤ 1099511627776) (hc : rs.count < 4611686018427387904) {a : Option Addr} {m c : Nat} {b : List Int} (B : BytesAt w a m c b) (hsep : b ≠ [] → ∀ ad, a = some ad → ¬ S ad.block) (hbl : (rs.bytesOf x).length + m ≤ 1099511627776) :
    Calls Try.prog 38 #[.pointer (some ⟨r, 0, none⟩), .int .i64 x, .slice a m c] w fun e w' => e = .returned (.int .i64 (rs.err x)) ∧ RefTo w S r (rs.append x b) w' := by
  have hbeg := refBegin_any R Bd x hl hc
  have hmc := B.cap
  have ML : rs.L.length = M.length := by rw [R.ghost]; simp
  have hadd : ∀ w1, RefTo w S r rs.after w1 → ∀ (m1 : Nat) (b1 : List Int), m1 ≤ m → (BytesAt w1 a m c b → BytesAt w1 a m1 c b1) → (b1 ≠ [] → b ≠ []) → Calls Try.prog 69 #[.pointer (some ⟨r, 0, none⟩), .int .i64 x, .slice a m1 c] w1 fun e w' => e = .returned (.tuple #[]) ∧ RefTo w S r (rs.after.add x b1) w' := by
    intro w1 T m1 b1 hm1 hB hne
    obtain ⟨S1, vL1, vF1, M1, R1, K1, hS1⟩ := T
    have ML1 : M1.length = rs.L.length := by have := R1.ghost; rw [show rs.after.L = rs.L from rfl] at this; rw [this]; simp
    refine (refAdd_any R1 (show Rising rs.after.L from hr) x (by omega) (hB (B.kept K1 hsep)) (fun h ad e hr' => hsep (hne h) ad e (hr' ▸ R.sr)) (by rw [bytesOf_after']; omega)).mono ?_
    rintro e w' ⟨rfl, T2⟩
    exact ⟨rfl, T2.trans K1 hS1⟩
  have hall : ∀ w1, RefTo w S r rs.after w1 → Calls Try.prog 69 #[.pointer (some ⟨r, 0, none⟩), .int .i64 x, .slice a m c] w1 fun e w' => e = .returned (.tuple #[]) ∧ RefTo w S r (rs.after.add x b) w' := fun w1 T => hadd w1 T m b (Nat.le_refl _) id id
  have hhalf : ∀ w1, RefTo w S r rs.after w1 → Calls Try.prog 69 #[.pointer (some ⟨r, 0, none⟩), .int .i64 x, .slice a (m / 2) c] w1 fun e w' => e = .returned (.tuple #[]) ∧ RefTo w S r (rs.after.add x (b.take (b.length / 2))) w' := fun w1 T => hadd w1 T (m / 2) (b.take (b.length / 2)) (by omega) (fun B1 => by rw [B.len]; exact B1.take (by omega)) (fun h e => h (by rw [e]; rfl))
  have c1 : m / 2 ≤ c := by omega
  have c2 : ((m : Int) / 2) ≤ (c : Int) := by omega
  clear hadd
  cases hh : rs.half with
  | true =>
    have he := rs.half_err x hh
    rw [he, hh] at hbeg
    rw [he]
    by_cases hx : 0 ≤ x
    · have ea : rs.append x b = rs.after.add x (b.take (b.length / 2)) := by unfold RSt.append; rw [if_pos ⟨hh, hx⟩]
      rw [ea]
      clear ea he hh hall R B Bd hr hsep
      go_enter Try.func38, Try.ntmps38
      go_wp2_with (first
        | (go_at_call 68; refine hbeg.mono ?_; rintro e w1 ⟨rfl, T1⟩; clear hbeg; have hp := hhalf w1 T1; clear hhalf T1)
        | (go_at_call 69; refine hp.mono ?_; rintro e w2 ⟨rfl, F2⟩; clear hp)
        | fail)
      go_ret
      exact ⟨rfl, F2⟩
    · have ea : rs.append x b = rs.after := by unfold RSt.append; rw [if_neg (fun h => hx h.2), he]; rfl
      rw [ea]
      clear ea he hh hall hhalf R B Bd hr hsep
      go_enter Try.func38, Try.ntmps38
      go_wp2_with (first
        | (go_at_call 68; refine hbeg.mono ?_; rintro e w1 ⟨rfl, T1⟩; clear hbeg)
        | fail)
      go_ret
      exact ⟨rfl, T1⟩
  | false =>
    rw [hh] at hbeg
    by_cases he : rs.err x = 0
    · have ea : rs.append x b = rs.after.add x b := by unfold RSt.append; rw [if_neg (fun h => by rw [hh] at h; exact absurd h.1 (by simp)), if_pos he]
      rw [ea]
      rw [he] at hbeg ⊢
      clear ea he hh hhalf R B Bd hr hsep
      go_enter Try.func38, Try.ntmps38
      go_wp2_with (first
        | (go_at_call 68; refine hbeg.mono ?_; rintro e w1 ⟨rfl, T1⟩; clear hbeg; have hp := hall w1 T1; clear hall T1)
        | (go_at_call 69; refine hp.mono ?_; rintro e w2 ⟨rfl, F2⟩; clear hp)
        | fail)
      go_ret
      exact ⟨rfl, F2⟩
    · have ea : rs.append x b = rs.after := by unfold RSt.append; rw [if_neg (fun h => by rw [hh] at h; exact absurd h.1 (by simp)), if_neg he]
      rw [ea]
      have he2 : (rs.err x == 0) = false := by simpa using he
      generalize rs.err x = er at *
      clear ea hh hall hhalf R B Bd hr hsep
      go_enter Try.func38, Try.ntmps38
      go_wp2_with (first
        | (go_at_call 68; refine hbeg.mono ?_; rintro e w1 ⟨rfl, T1⟩; clear hbeg)
        | fail)
      go_ret
      exact ⟨rfl, T1⟩
end

end Go.Proofs.Ytdbmefjagggnoaa
