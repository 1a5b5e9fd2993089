/-
  UTF-8 by the model's decoder; the document's Valid; digits.
-/
import Derived.Test.YtfiaaaflpjpnjaaGreatDoorFRefUB
import Derived.Test.YtfiaaaflpjpnjaaGreatDoorFRefD
import Derived.Test.YtfiaaaflpjpnjaaGreatDoorFIntP
namespace Go.Proofs.YtfiaaaflpjpnjaaGreatDoor
open Go.RowKit

theorem get!_some {S : ByteArray} {i : Nat} {b : UInt8} (h : S.data.toList[i]? = some b) : S.get! i = b := by
  have hlt : i < S.size := by
    have := (List.getElem?_eq_some_iff.1 h).1
    simpa using this
  rw [Utf8W.get!_of_lt S i hlt]
  rw [get_lt S hlt] at h
  exact Option.some.inj h

theorem ofNat_dig : ∀ d : Fin 10, isDig (UInt8.ofNat (48 + d.1)) = true ∧ (d.1 ≠ 0 → UInt8.ofNat (48 + d.1) ≠ 48) := by decide

theorem dec_all (u : Nat) : (∀ c ∈ Lib.decDigits u, isDig c = true) ∧ ∃ c r, Lib.decDigits u = c :: r ∧ (u ≠ 0 → c ≠ 48) := by
  induction u using Nat.strongRecOn with
  | _ u ih =>
    by_cases h : u < 10
    · have hd := ofNat_dig ⟨u % 10, by omega⟩
      rw [dec_last h]
      refine ⟨fun c hc => ?_, _, [], rfl, fun hu => hd.2 (by show u % 10 ≠ 0; omega)⟩
      simp only [List.mem_singleton] at hc
      subst hc
      exact hd.1
    · obtain ⟨h1, c, r, h2, h3⟩ := ih (u / 10) (by omega)
      have hd := ofNat_dig ⟨u % 10, by omega⟩
      rw [dec_step h]
      refine ⟨fun x hx => ?_, c, r ++ [UInt8.ofNat (48 + u % 10)], by rw [h2]; rfl, fun _ => h3 (by omega)⟩
      rcases List.mem_append.1 hx with hx | hx
      · exact h1 x hx
      · simp only [List.mem_singleton] at hx
        subst hx
        exact hd.1

/-- From p on it is UTF-8. -/
def utfB (s : ByteArray) : Nat → Nat → Bool
  | 0, _ => true
  | n + 1, p => if p < s.size then (if (Utf8.decode s p).1 = 65533 ∧ (Utf8.decode s p).2 = 1 then false else utfB s n (p + (Utf8.decode s p).2)) else true

set_option maxRecDepth 100000 in
set_option maxHeartbeats 2000000 in
theorem valid_any (w : World) (s : ByteArray) (hs : s.size ≤ 140737488351232) :
    Calls Tryz.prog 23 #[.string s] w fun e w' => e = .returned (.bool (utfB s (s.size + 1) 0)) ∧ w' = w := by
  go_enter Tryz.func23, Tryz.ntmps23
  go_wp2
  go_loopw [3] (fun i wr => ∃ (p n : Nat), p ≤ s.size ∧ s.size + 1 ≤ p + n ∧ i = .int .i64 (p : Int) ∧ utfB s n p = utfB s (s.size + 1) 0 ∧ wr = w) (fun i _ => s.size - (intOf i).toNat)
  case atStart => exact ⟨0, s.size + 1, Nat.zero_le _, by omega, rfl, rfl, rfl⟩
  case round =>
    obtain ⟨p, n, hp, hn, rfl, hv, hwr⟩ := hrel
    subst wr
    have HV := hid hv
    clear hv
    by_cases hlt : p < s.size
    · have e0 : (p : Int) < (s.size : Int) := by omega
      have hU := utf8_big w s p (by omega) hlt
      rw [utR_is s p hlt] at hU
      have hd := dec_pos s hlt
      have hl := (dec_le s hlt).1
      cases n with
      | zero => omega
      | succ n =>
        have HV2 : Hid ((if (Utf8.decode s p).1 = 65533 ∧ (Utf8.decode s p).2 = 1 then false else utfB s n (p + (Utf8.decode s p).2)) = utfB s (s.size + 1) 0) := by
          show _ = _
          have h := HV.out
          conv at h => lhs; unfold utfB
          rw [if_pos hlt] at h
          exact h
        clear HV
        by_cases hb : (Utf8.decode s p).1 = 65533 ∧ (Utf8.decode s p).2 = 1
        · rw [if_pos hb] at hU
          have HV3 : Hid (utfB s (s.size + 1) 0 = false) := by
            show _ = _
            have h := HV2.out
            rw [if_pos hb] at h
            exact h.symm
          have hU' : Calls Tryz.prog 42 #[.string s, .int .i64 (p : Int)] w fun e w' => e = .returned (.int .i64 0) ∧ w' = w := hU
          clear hU HV2 hb hd hl
          go_wp2_with (first
            | (go_at_call 42; refine hU'.mono ?_; rintro e w1 ⟨rfl, hw1⟩; subst w1; clear hU')
            | fail)
          go_ret
          refine ⟨?_, rfl⟩
          rw [HV3.out]
          rfl
        · rw [if_neg hb] at hU
          have HV3 : Hid (utfB s n (p + (Utf8.decode s p).2) = utfB s (s.size + 1) 0) := by
            show _ = _
            have h := HV2.out
            rw [if_neg hb] at h
            exact h
          clear HV2 hb
          generalize (Utf8.decode s p).2 = d at *
          have z0 : ((d : Int) == 0) = false := by rw [beq_eq_false_iff_ne]; omega
          go_wp2_with (first
            | (go_at_call 42; refine hU.mono ?_; rintro e w1 ⟨rfl, hw1⟩; subst w1; clear hU)
            | fail)
          go_roundw
          case rel => exact ⟨p + d, n, by omega, by omega, by go_num, HV3.out, by trivial⟩
          case measure => simp [intOf]; omega
    · have e0 : ¬ (p : Int) < (s.size : Int) := by omega
      have HV3 : Hid (utfB s (s.size + 1) 0 = true) := by
        show _ = _
        rw [← HV.out]
        cases n with
        | zero => rfl
        | succ n => unfold utfB; rw [if_neg hlt]
      clear HV
      go_wp2
      go_ret
      refine ⟨?_, rfl⟩
      rw [HV3.out]
      rfl

end Go.Proofs.YtfiaaaflpjpnjaaGreatDoor
