/-
  A flag: read by the codec.
-/
import Derived.Test.YtceocmhgbcimoaaCRec
import Derived.Test.YtceocmhgbcimoaaCOpF
namespace Go.Proofs.Ytceocmhgbcimoaa
open Go.RowKit

section
variable {w : World} {r : Nat} {a : Option Addr} {m c : Nat} {raw : List Int} {at_ : Nat} {bad : Bool}

theorem one_byte (h : at_ < raw.length) : (raw.drop at_).take 1 = [raw.getD at_ 0] := by
  rw [List.drop_eq_getElem_cons h, List.getD_eq_getElem?_getD, List.getElem?_eq_getElem h]
  rfl

set_option maxRecDepth 100000 in
set_option maxHeartbeats 400000 in
theorem rflag_any (A : RAt w r a m c raw at_ bad) (q o : Nat) (u : Value) (hq : w.cell? ⟨q, o, none⟩ = some u) (fq : w.frozen? ⟨q, o, none⟩ = false) (hqr : q ≠ r) (hqa : raw ≠ [] → ∀ ad, a = some ad → ad.block ≠ q) :
    Calls Try.prog 130 #[.pointer (some ⟨r, 0, none⟩), .pointer (some ⟨q, o, none⟩)] w fun e w' => RPart Value.bool w w' r a m c raw bad q o e (rdFlag raw at_) := by
  have hlen := A.bytes.len
  have hbs : Bs raw := A.bytes.byte
  unfold rdFlag
  by_cases h1 : raw.length ≤ at_
  · rw [if_pos h1, hlen]
    have hT := rtake_no A 1 (by omega)
    clear A
    go_enter Try.func130, Try.ntmps130
    go_wp2_with (first
      | (go_at_call 123; refine hT.mono ?_; rintro e w3 ⟨rfl, A3, K3⟩; clear hT)
      | fail)
    go_ret
    exact ⟨rfl, A3, w3, K3, .inl rfl⟩
  · rw [if_neg h1]
    have hT := rtake_yes A 1 (by omega)
    rw [one_byte (by omega)] at hT
    have hg := hbs.getD at_
    have hsm := A.small
    generalize raw.getD at_ 0 = y at *
    clear A
    by_cases h2 : 1 < y
    · rw [if_pos h2]
      go_enter Try.func130, Try.ntmps130
      go_wp2_with (first
        | (go_at_call 123; refine hT.mono ?_; rintro e w3 ⟨a3, c3, rfl, B3, A3, K3, _⟩; obtain ⟨b3, o3, rfl, hb3⟩ := B3.at (j := 0) (by simp); have hy0 : w3.cell? ⟨b3, o3, none⟩ = some (.int .u8 y) := hb3 0 (by simp); have d1 := A3.c1; have hR := rrefuse_any A3 at_ (by omega); clear hT)
        | (go_at_call 124; refine hR.mono ?_; rintro e w4 ⟨rfl, A4, K4⟩; clear hR)
        | fail)
      go_ret
      exact ⟨rfl, A4, w4, K3.and K4, .inl rfl⟩
    · rw [if_neg h2]
      go_enter Try.func130, Try.ntmps130
      go_wp2_with (first
        | (go_at_call 123; refine hT.mono ?_; rintro e w3 ⟨a3, c3, rfl, B3, A3, K3, _⟩; obtain ⟨b3, o3, rfl, hb3⟩ := B3.at (j := 0) (by simp); have hy0 : w3.cell? ⟨b3, o3, none⟩ = some (.int .u8 y) := hb3 0 (by simp); obtain ⟨y1, y2⟩ := cell_keep K3 hq hqr; rw [fq] at y2; clear hT)
        | fail)
      go_ret
      exact ⟨rfl, A3.kept (Kept.setCell (S := fun k => k = q) _ _ _ rfl) (fun e => hqr e.symm) hqa, w3, K3, rfl⟩
end

end Go.Proofs.Ytceocmhgbcimoaa
