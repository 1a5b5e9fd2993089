/-
  Two states that are alike are found so.
-/
import Derived.Test.YtceocmhgbcimoaaCStateW
namespace Go.Proofs.Ytceocmhgbcimoaa
open Go.RowKit

set_option maxRecDepth 100000 in
set_option maxHeartbeats 2000000 in
theorem keepState_any (w : World) (s0 s1 s2 s3 : ByteArray) (s4 : Int) (s5 : ByteArray) (s8 : Int) (nn ng : Nat) (ns : List NodeD) (gs : List SignalD) (a1 a2 b1 b2 : Option Addr) (c1 c2 d1 d2 : Nat) (N1 : RowAt 3 nodeC w a1 nn c1 ns) (N2 : RowAt 3 nodeC w a2 nn c2 ns) (G1 : RowAt 2 signalC w b1 ng d1 gs) (G2 : RowAt 2 signalC w b2 ng d2 gs) (hnn : nn ≤ 1000000000) (hng : ng ≤ 1000000000) :
    Calls Try.prog 43 #[.agg #[.string s0, .string s1, .string s2, .string s3, .int .i64 s4, .string s5, .slice a1 nn c1, .slice b1 ng d1, .int .i64 s8], .agg #[.string s0, .string s1, .string s2, .string s3, .int .i64 s4, .string s5, .slice a2 nn c2, .slice b2 ng d2, .int .i64 s8]] w fun e w' => e = .returned (.bool true) ∧ Kept (fun _ => False) w w' := by
  have hC : ∀ w', Kept (fun _ => False) ((w.alloc (.cells #[.string s0, .string s1, .string s2, .string s3, .int .i64 s4, .string s5, .slice a1 nn c1, .slice b1 ng d1, .int .i64 s8] 72)).alloc (.cells #[.string s0, .string s1, .string s2, .string s3, .int .i64 s4, .string s5, .slice a2 nn c2, .slice b2 ng d2, .int .i64 s8] 72)) w' → w'.cell? ⟨w.heap.size, 0, none⟩ = some (.string s0) ∧ w'.cell? ⟨w.heap.size, 1, none⟩ = some (.string s1) ∧ w'.cell? ⟨w.heap.size, 2, none⟩ = some (.string s2) ∧ w'.cell? ⟨w.heap.size, 3, none⟩ = some (.string s3) ∧ w'.cell? ⟨w.heap.size, 4, none⟩ = some (.int .i64 s4) ∧ w'.cell? ⟨w.heap.size, 5, none⟩ = some (.string s5) ∧ w'.cell? ⟨w.heap.size, 6, none⟩ = some (.slice a1 nn c1) ∧ w'.cell? ⟨w.heap.size, 7, none⟩ = some (.slice b1 ng d1) ∧ w'.cell? ⟨w.heap.size, 8, none⟩ = some (.int .i64 s8) ∧ w'.cell? ⟨w.heap.size + 1, 0, none⟩ = some (.string s0) ∧ w'.cell? ⟨w.heap.size + 1, 1, none⟩ = some (.string s1) ∧ w'.cell? ⟨w.heap.size + 1, 2, none⟩ = some (.string s2) ∧ w'.cell? ⟨w.heap.size + 1, 3, none⟩ = some (.string s3) ∧ w'.cell? ⟨w.heap.size + 1, 4, none⟩ = some (.int .i64 s4) ∧ w'.cell? ⟨w.heap.size + 1, 5, none⟩ = some (.string s5) ∧ w'.cell? ⟨w.heap.size + 1, 6, none⟩ = some (.slice a2 nn c2) ∧ w'.cell? ⟨w.heap.size + 1, 7, none⟩ = some (.slice b2 ng d2) ∧ w'.cell? ⟨w.heap.size + 1, 8, none⟩ = some (.int .i64 s8) := fun w' K => by
    have hs : (w.alloc (.cells #[.string s0, .string s1, .string s2, .string s3, .int .i64 s4, .string s5, .slice a1 nn c1, .slice b1 ng d1, .int .i64 s8] 72)).heap.size = w.heap.size + 1 := by simp
    have hA : w'.heap[w.heap.size]? = some (.cells #[.string s0, .string s1, .string s2, .string s3, .int .i64 s4, .string s5, .slice a1 nn c1, .slice b1 ng d1, .int .i64 s8] 72 (0, 0)) := by
      rw [K.block w.heap.size (by simp; omega) (fun h => h), Below.heap_alloc _ _ _ (by simp), heap_alloc_new]
    have hB : w'.heap[w.heap.size + 1]? = some (.cells #[.string s0, .string s1, .string s2, .string s3, .int .i64 s4, .string s5, .slice a2 nn c2, .slice b2 ng d2, .int .i64 s8] 72 (0, 0)) := by
      rw [K.block (w.heap.size + 1) (by simp) (fun h => h), ← hs, heap_alloc_new]
    exact ⟨cellOf hA (o := 0) rfl, cellOf hA (o := 1) rfl, cellOf hA (o := 2) rfl, cellOf hA (o := 3) rfl, cellOf hA (o := 4) rfl, cellOf hA (o := 5) rfl, cellOf hA (o := 6) rfl, cellOf hA (o := 7) rfl, cellOf hA (o := 8) rfl, cellOf hB (o := 0) rfl, cellOf hB (o := 1) rfl, cellOf hB (o := 2) rfl, cellOf hB (o := 3) rfl, cellOf hB (o := 4) rfl, cellOf hB (o := 5) rfl, cellOf hB (o := 6) rfl, cellOf hB (o := 7) rfl, cellOf hB (o := 8) rfl⟩
  have RN1 : Hid (∀ w', Kept (fun _ => False) ((w.alloc (.cells #[.string s0, .string s1, .string s2, .string s3, .int .i64 s4, .string s5, .slice a1 nn c1, .slice b1 ng d1, .int .i64 s8] 72)).alloc (.cells #[.string s0, .string s1, .string s2, .string s3, .int .i64 s4, .string s5, .slice a2 nn c2, .slice b2 ng d2, .int .i64 s8] 72)) w' → RowAt 3 nodeC w' a1 nn c1 ns) := fun w' K => (N1.kept ((Kept.alloc (fun _ => False) w _).and (Kept.alloc _ _ _)) (fun _ _ _ h => h)).kept K (fun _ _ _ h => h)
  have RN2 : Hid (∀ w', Kept (fun _ => False) ((w.alloc (.cells #[.string s0, .string s1, .string s2, .string s3, .int .i64 s4, .string s5, .slice a1 nn c1, .slice b1 ng d1, .int .i64 s8] 72)).alloc (.cells #[.string s0, .string s1, .string s2, .string s3, .int .i64 s4, .string s5, .slice a2 nn c2, .slice b2 ng d2, .int .i64 s8] 72)) w' → RowAt 3 nodeC w' a2 nn c2 ns) := fun w' K => (N2.kept ((Kept.alloc (fun _ => False) w _).and (Kept.alloc _ _ _)) (fun _ _ _ h => h)).kept K (fun _ _ _ h => h)
  have RG1 : Hid (∀ w', Kept (fun _ => False) ((w.alloc (.cells #[.string s0, .string s1, .string s2, .string s3, .int .i64 s4, .string s5, .slice a1 nn c1, .slice b1 ng d1, .int .i64 s8] 72)).alloc (.cells #[.string s0, .string s1, .string s2, .string s3, .int .i64 s4, .string s5, .slice a2 nn c2, .slice b2 ng d2, .int .i64 s8] 72)) w' → RowAt 2 signalC w' b1 ng d1 gs) := fun w' K => (G1.kept ((Kept.alloc (fun _ => False) w _).and (Kept.alloc _ _ _)) (fun _ _ _ h => h)).kept K (fun _ _ _ h => h)
  have RG2 : Hid (∀ w', Kept (fun _ => False) ((w.alloc (.cells #[.string s0, .string s1, .string s2, .string s3, .int .i64 s4, .string s5, .slice a1 nn c1, .slice b1 ng d1, .int .i64 s8] 72)).alloc (.cells #[.string s0, .string s1, .string s2, .string s3, .int .i64 s4, .string s5, .slice a2 nn c2, .slice b2 ng d2, .int .i64 s8] 72)) w' → RowAt 2 signalC w' b2 ng d2 gs) := fun w' K => (G2.kept ((Kept.alloc (fun _ => False) w _).and (Kept.alloc _ _ _)) (fun _ _ _ h => h)).kept K (fun _ _ _ h => h)
  have hlN := N1.len
  have hlG := G1.len
  clear N1 N2 G1 G2
  obtain ⟨xa0, xa1, xa2, xa3, xa4, xa5, xa6, xa7, xa8, xb0, xb1, xb2, xb3, xb4, xb5, xb6, xb7, xb8⟩ := hC _ (Kept.refl _ _)
  go_enter Try.func43, Try.ntmps43
  go_wp2
  clear xa0 xa1 xa2 xa3 xa4 xa5 xa6 xa7 xa8 xb0 xb1 xb2 xb3 xb4 xb5 xb6 xb7 xb8
  go_loopw [5] (fun i wr => ∃ (k : Nat), i = .int .i64 k ∧ k ≤ nn ∧ Kept (fun _ => False) ((w.alloc (.cells #[.string s0, .string s1, .string s2, .string s3, .int .i64 s4, .string s5, .slice a1 nn c1, .slice b1 ng d1, .int .i64 s8] 72)).alloc (.cells #[.string s0, .string s1, .string s2, .string s3, .int .i64 s4, .string s5, .slice a2 nn c2, .slice b2 ng d2, .int .i64 s8] 72)) wr) (fun i _ => nn - (intOf i).toNat)
  case atStart => exact ⟨0, rfl, Nat.zero_le _, Kept.refl _ _⟩
  case round =>
    obtain ⟨k, rfl, hk, KK⟩ := hrel
    by_cases hkn : k = nn
    · obtain rfl : nn = k := hkn.symm
      have hc : ¬ ((nn : Int) < (nn : Int)) := by omega
      obtain ⟨xa0, xa1, xa2, xa3, xa4, xa5, xa6, xa7, xa8, xb0, xb1, xb2, xb3, xb4, xb5, xb6, xb7, xb8⟩ := hC _ KK
      go_wp2
      clear xa0 xa1 xa2 xa3 xa4 xa5 xa6 xa7 xa8 xb0 xb1 xb2 xb3 xb4 xb5 xb6 xb7 xb8
      go_loopw [6] (fun i wr => ∃ (k : Nat), i = .int .i64 k ∧ k ≤ ng ∧ Kept (fun _ => False) ((w.alloc (.cells #[.string s0, .string s1, .string s2, .string s3, .int .i64 s4, .string s5, .slice a1 nn c1, .slice b1 ng d1, .int .i64 s8] 72)).alloc (.cells #[.string s0, .string s1, .string s2, .string s3, .int .i64 s4, .string s5, .slice a2 nn c2, .slice b2 ng d2, .int .i64 s8] 72)) wr) (fun i _ => ng - (intOf i).toNat)
      case atStart => exact ⟨0, rfl, Nat.zero_le _, KK⟩
      case round =>
        obtain ⟨k, rfl, hk, KK⟩ := hrel
        by_cases hkn : k = ng
        · obtain rfl : ng = k := hkn.symm
          have hc : ¬ ((ng : Int) < (ng : Int)) := by omega
          obtain ⟨xa0, xa1, xa2, xa3, xa4, xa5, xa6, xa7, xa8, xb0, xb1, xb2, xb3, xb4, xb5, xb6, xb7, xb8⟩ := hC _ KK
          go_wp2
          go_ret
          exact ⟨rfl, ((Kept.alloc (fun _ => False) w _).and (Kept.alloc _ _ _)).and KK⟩
        · have hkl : k < gs.length := by omega
          obtain ⟨o, ho⟩ : ∃ o, gs[k]? = some o := ⟨gs[k], List.getElem?_eq_getElem hkl⟩
          obtain ⟨u0, u1⟩ := o
          have help : ∃ b off, b1 = some ⟨b, off, none⟩ ∧ wr.cell? ⟨b, off + k * 2, none⟩ = some (.string u0) ∧ wr.cell? ⟨b, off + k * 2 + 1, none⟩ = some (.string u1) := by
            cases hb1 : b1 with
            | none => have := (RG1.out _ KK).nil hb1; omega
            | some ad =>
              obtain ⟨hsp, h⟩ := (RG1.out _ KK).cells ad hb1 (by omega)
              obtain ⟨b, off, sp⟩ := ad
              obtain rfl : sp = none := hsp
              have h := h k _ ho
              exact ⟨b, off, rfl, h 0 _ rfl, h 1 _ rfl⟩
          have helq : ∃ b off, b2 = some ⟨b, off, none⟩ ∧ wr.cell? ⟨b, off + k * 2, none⟩ = some (.string u0) ∧ wr.cell? ⟨b, off + k * 2 + 1, none⟩ = some (.string u1) := by
            cases hb2 : b2 with
            | none => have := (RG2.out _ KK).nil hb2; omega
            | some ad =>
              obtain ⟨hsp, h⟩ := (RG2.out _ KK).cells ad hb2 (by omega)
              obtain ⟨b, off, sp⟩ := ad
              obtain rfl : sp = none := hsp
              have h := h k _ ho
              exact ⟨b, off, rfl, h 0 _ rfl, h 1 _ rfl⟩
          obtain ⟨bp, op, rfl, e0, e1⟩ := help
          obtain ⟨bq, oq, rfl, f0, f1⟩ := helq
          obtain ⟨xa0, xa1, xa2, xa3, xa4, xa5, xa6, xa7, xa8, xb0, xb1, xb2, xb3, xb4, xb5, xb6, xb7, xb8⟩ := hC _ KK
          have hc : (k : Int) < (ng : Int) := by omega
          have hc2 : k < ng := by omega
          go_wp2_with fail
          go_quiet (fail)
          go_wp2
          go_roundw
          case rel => exact ⟨k + 1, by simp, by omega, KK.and (Kept.drewN _ _ _)⟩
          case measure => simp [intOf]; omega
    · have hkl : k < ns.length := by omega
      obtain ⟨o, ho⟩ : ∃ o, ns[k]? = some o := ⟨ns[k], List.getElem?_eq_getElem hkl⟩
      obtain ⟨u0, u1, u2⟩ := o
      have help : ∃ b off, a1 = some ⟨b, off, none⟩ ∧ wr.cell? ⟨b, off + k * 3, none⟩ = some (.int .i64 u0) ∧ wr.cell? ⟨b, off + k * 3 + 1, none⟩ = some (.int .i64 u1) ∧ wr.cell? ⟨b, off + k * 3 + 2, none⟩ = some (.string u2) := by
        cases ha1 : a1 with
        | none => have := (RN1.out _ KK).nil ha1; omega
        | some ad =>
          obtain ⟨hsp, h⟩ := (RN1.out _ KK).cells ad ha1 (by omega)
          obtain ⟨b, off, sp⟩ := ad
          obtain rfl : sp = none := hsp
          have h := h k _ ho
          exact ⟨b, off, rfl, h 0 _ rfl, h 1 _ rfl, h 2 _ rfl⟩
      have helq : ∃ b off, a2 = some ⟨b, off, none⟩ ∧ wr.cell? ⟨b, off + k * 3, none⟩ = some (.int .i64 u0) ∧ wr.cell? ⟨b, off + k * 3 + 1, none⟩ = some (.int .i64 u1) ∧ wr.cell? ⟨b, off + k * 3 + 2, none⟩ = some (.string u2) := by
        cases ha2 : a2 with
        | none => have := (RN2.out _ KK).nil ha2; omega
        | some ad =>
          obtain ⟨hsp, h⟩ := (RN2.out _ KK).cells ad ha2 (by omega)
          obtain ⟨b, off, sp⟩ := ad
          obtain rfl : sp = none := hsp
          have h := h k _ ho
          exact ⟨b, off, rfl, h 0 _ rfl, h 1 _ rfl, h 2 _ rfl⟩
      obtain ⟨bp, op, rfl, e0, e1, e2⟩ := help
      obtain ⟨bq, oq, rfl, f0, f1, f2⟩ := helq
      obtain ⟨xa0, xa1, xa2, xa3, xa4, xa5, xa6, xa7, xa8, xb0, xb1, xb2, xb3, xb4, xb5, xb6, xb7, xb8⟩ := hC _ KK
      have hc : (k : Int) < (nn : Int) := by omega
      have hc2 : k < nn := by omega
      go_wp2_with fail
      go_quiet (fail)
      go_wp2
      go_roundw
      case rel => exact ⟨k + 1, by simp, by omega, KK.and (Kept.drewN _ _ _)⟩
      case measure => simp [intOf]; omega

end Go.Proofs.Ytceocmhgbcimoaa
