/-
  The document's Wrong: are hosts and points right?
-/
import Derived.Test.YtjfgjmiedmpieaaDoorRKeep
namespace Go.Proofs.YtjfgjmiedmpieaaDoor
open Go.RowKit Go.Sort

open Classical in
noncomputable def wrongB (zs : List Int) (p : Int) : Bool := decide (¬ (Right zs ∧ 1 ≤ p ∧ p ≤ 64))

theorem wrongB_yes {zs : List Int} {p : Int} (h : ¬ (Right zs ∧ 1 ≤ p ∧ p ≤ 64)) : wrongB zs p = true := by unfold wrongB; simp only [h, not_false_eq_true, decide_true]
theorem wrongB_no {zs : List Int} {p : Int} (h : Right zs ∧ 1 ≤ p ∧ p ≤ 64) : wrongB zs p = false := by unfold wrongB; simp only [h, not_true_eq_false, decide_false, and_self]

theorem Right.took {zs : List Int} (h : Right zs) (n : Nat) : Right (zs.take n) := ⟨fun z hz => h.1 z (List.mem_of_mem_take hz), h.2.sublist (List.take_sublist _ _)⟩

theorem ret_b {a b : Bool} (h : b = a) : Ending.returned (.bool a) = .returned (.bool b) := by rw [h]

theorem mem_took {zs : List Int} {j k : Nat} (hj : j < k) (hk : k < zs.length) : zs[j]'(by omega) ∈ zs.take k := by
  rw [List.mem_take_iff_getElem]
  exact ⟨j, by omega, rfl⟩

set_option maxRecDepth 100000 in
set_option maxHeartbeats 2000000 in
theorem wrong_any (w : World) (a : Option Addr) (m c : Nat) (zs : List Int) (B : IntsAt w a m c zs) (hm : m ≤ 1000000) (p : Int) :
    Calls Tryd.prog 21 #[.slice a m c, .int .i64 p] w fun e w' => e = .returned (.bool (wrongB zs p)) ∧ Kept (fun _ => False) w w' := by
  have HL : Hid (zs.length = m) := B.len
  go_enter Tryd.func21, Tryd.ntmps21
  go_wp2
  go_loopw [5] (fun i wr => ∃ (k q : Nat), k ≤ m ∧ i = .int .i64 k ∧ Right (zs.take k) ∧ wr = w.drewN q) (fun i _ => m - (intOf i).toNat)
  case atStart => exact ⟨0, 0, Nat.zero_le _, rfl, ⟨fun z hz => by simp at hz, by simp⟩, rfl⟩
  case round =>
    obtain ⟨k, q, hk, rfl, hR, rfl⟩ := hrel
    by_cases hlt : k < m
    · have hkl : k < zs.length := by rw [HL.out]; exact hlt
      have e0 : (k : Int) < (m : Int) := by omega
      obtain ⟨b, o, rfl, hc⟩ := B.at hkl
      have x1 := hc k hkl
      have HC : Hid (∀ j (h : j < zs.length), w.cell? ⟨b, o + j, none⟩ = some (.int .i64 (zs[j]'h))) := hc
      obtain ⟨y, hy⟩ : ∃ y, zs[k] = y := ⟨_, rfl⟩
      have HY : Hid (zs[k] = y) := hy
      have HRt : Hid (Right (zs.take k)) := hR
      rw [hy] at x1
      clear hc hR hy
      by_cases h0 : y < 0
      · have HQ : Hid (wrongB zs p = true) := wrongB_yes (fun h => by have h5 := (h.1.1 zs[k] (List.getElem_mem hkl)).1; rw [HY.out] at h5; omega)
        go_wp2
        go_ret
        exact ⟨ret_b HQ.out, Kept.drewN _ _ _⟩
      by_cases h16 : 16 ≤ y
      · have HQ : Hid (wrongB zs p = true) := wrongB_yes (fun h => by have h5 := (h.1.1 zs[k] (List.getElem_mem hkl)).2; rw [HY.out] at h5; omega)
        go_wp2
        go_ret
        exact ⟨ret_b HQ.out, Kept.drewN _ _ _⟩
      go_wp2
      go_loopw [6] (fun i wr => ∃ (j q' : Nat), j ≤ k ∧ i = .int .i64 j ∧ y ∉ zs.take j ∧ wr = w.drewN q') (fun i _ => k - (intOf i).toNat)
      case atStart => exact ⟨0, q, Nat.zero_le _, rfl, by simp, rfl⟩
      case round =>
        obtain ⟨j, q', hj, rfl, hn, rfl⟩ := hrel
        by_cases hjk : j < k
        · have hjl : j < zs.length := by omega
          have x2 := HC.out j hjl
          have e1 : (j : Int) < (k : Int) := by omega
          have e2 : (j : Int) < (m : Int) := by omega
          obtain ⟨x, hx⟩ : ∃ x, zs[j] = x := ⟨_, rfl⟩
          have HX : Hid (zs[j] = x) := hx
          rw [hx] at x2
          have HN : Hid (y ∉ zs.take j) := hn
          clear hx hn
          by_cases hxy : x = y
          · have HQ : Hid (wrongB zs p = true) := wrongB_yes (fun h => by
              have h5 := (Right.of_take (h.1.took (k + 1)) hkl).2
              rw [HY.out, ← hxy, ← HX.out] at h5
              exact h5 (mem_took hjk hkl))
            subst hxy
            go_wp2_with fail
            go_quiet (fail)
            go_wp2
            go_ret
            exact ⟨ret_b HQ.out, (Kept.drewN (fun _ => False) w q').and (Kept.drewN _ _ _)⟩
          · have g1 : (x == y) = false := by simpa using hxy
            go_wp2_with fail
            go_quiet (fail)
            go_wp2
            go_roundw
            case rel => exact ⟨j + 1, q' + nq, by omega, by go_num, (by
              rw [← List.take_append_getElem hjl, HX.out, List.mem_append, List.mem_singleton]
              exact fun h => h.elim HN.out (fun h => hxy h.symm)), rfl⟩
            case measure => simp [intOf]; omega
        · obtain rfl : j = k := by omega
          have HA : Hid (Right (zs.take (j + 1))) := by
            show Right _
            rw [← List.take_append_getElem hkl, HY.out]
            exact HRt.out.add (by omega) hn
          clear hn
          have e1 : ¬ (j : Int) < (j : Int) := by omega
          go_wp2
          go_roundw
          case rel => exact ⟨j + 1, q', by omega, by go_num, HA.out, rfl⟩
          case measure => simp [intOf]; omega
    · have e0 : ¬ (k : Int) < (m : Int) := by omega
      obtain rfl : k = m := by omega
      rw [List.take_of_length_le (by rw [HL.out]; exact Nat.le_refl _)] at hR
      by_cases h1 : p < 1
      · have HQ : Hid (wrongB zs p = true) := wrongB_yes (fun h => by omega)
        clear hR
        go_wp2
        go_ret
        exact ⟨ret_b HQ.out, Kept.drewN _ _ _⟩
      by_cases h64 : 64 < p
      · have HQ : Hid (wrongB zs p = true) := wrongB_yes (fun h => by omega)
        clear hR
        go_wp2
        go_ret
        exact ⟨ret_b HQ.out, Kept.drewN _ _ _⟩
      have HQ : Hid (wrongB zs p = false) := wrongB_no ⟨hR, by omega, by omega⟩
      clear hR
      go_wp2
      go_ret
      exact ⟨ret_b HQ.out, Kept.drewN _ _ _⟩

end Go.Proofs.YtjfgjmiedmpieaaDoor
