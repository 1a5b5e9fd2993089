/-
  The document's Count.
-/
import Derived.Test.YtdbplemcjnlfiaaGreatDoorFStD
namespace Go.Proofs.YtdbplemcjnlfiaaGreatDoor
open Go.RowKit Go.Sort

set_option maxRecDepth 100000 in
set_option maxHeartbeats 4000000 in
theorem count_any (w : World) (df id pa pn : ByteArray) (st : Int) (tx : ByteArray) (an : Option Addr) (ln cn : Nat) (ag : Option Addr) (lg cg : Nat) (ev : Int) (St Tr : Nat → Int) (Tx : Nat → ByteArray) (R : NdsIn w an ln St Tr Tx) (hl : ln ≤ 40) :
    Calls Tryz.prog 31 #[.agg #[.string df, .string id, .string pa, .string pn, .int .i64 st, .string tx, .slice an ln cn, .slice ag lg cg, .int .i64 ev]] w fun e w' => e = .returned (.tuple #[.int .i64 ((ovN St ln : Nat) : Int), .int .i64 ((ln : Int) - ((ovN St ln : Nat) : Int))]) ∧ Kept (fun _ => False) w w' := by
  have HR := hid R
  have K0 : Kept (fun _ => False) w (w.alloc (.cells #[.string df, .string id, .string pa, .string pn, .int .i64 st, .string tx, .slice an ln cn, .slice ag lg cg, .int .i64 ev] 42)) := Kept.alloc _ _ _
  have hb := heap_alloc_new w (.cells #[.string df, .string id, .string pa, .string pn, .int .i64 st, .string tx, .slice an ln cn, .slice ag lg cg, .int .i64 ev] 42)
  clear R
  go_enter Tryz.func31, Tryz.ntmps31
  go_wp2
  have HK0 := hid K0
  clear K0
  generalize w.alloc (.cells #[.string df, .string id, .string pa, .string pn, .int .i64 st, .string tx, .slice an ln cn, .slice ag lg cg, .int .i64 ev] 42) = W at *
  generalize w.heap.size = gs at *
  have c6 : W.cell? ⟨gs, 6, none⟩ = some (.slice an ln cn) := by simp [World.cell?, hb]
  clear hb
  go_loopw [4, 5] (fun ov i wr => ∃ (k : Nat), k ≤ ln ∧ i = .int .i64 (k : Int) ∧ ov = .int .i64 ((ovN St k : Nat) : Int) ∧ wr = W) (fun _ i _ => ln - (intOf i).toNat)
  case atStart => exact ⟨0, Nat.zero_le _, rfl, rfl, rfl⟩
  case round =>
    obtain ⟨k, hk, rfl, rfl, hwr⟩ := hrel
    subst wr
    by_cases hlt : k < ln
    · have e0 : (k : Int) < (ln : Int) := by omega
      rcases HR.out.kept HK0.out with h0 | ⟨b, o, rfl, hc⟩
      · omega
      have c0 := (hc k hlt).1.1
      have HL := hid (ovN_le St k)
      have HN : Hid (ovN St (k + 1) = ovN St k + if St k = 3 then 1 else 0) := rfl
      clear hc
      generalize hs : St k = sk at *
      generalize ovN St k = o1 at *
      clear hs
      by_cases h3 : sk = 3
      · have HN2 : Hid (ovN St (k + 1) = o1 + 1) := by show _ = _; rw [HN.out, if_pos h3]
        have e1 : (sk == 3) = true := by rw [beq_iff_eq]; exact h3
        have hov : IntKind.i64.wrap ((o1 : Int) + 1) = (o1 : Int) + 1 := by rw [IntKind.wrap_i64]; have := HL.out; omega
        clear h3
        go_wp2
        go_roundw
        case rel => exact ⟨k + 1, by omega, by go_num, by rw [HN2.out]; go_num, by trivial⟩
        case measure => simp [intOf]; omega
      · have HN2 : Hid (ovN St (k + 1) = o1) := by show _ = _; rw [HN.out, if_neg h3]; rfl
        have e1 : (sk == 3) = false := by rw [beq_eq_false_iff_ne]; exact h3
        clear h3
        go_wp2
        go_roundw
        case rel => exact ⟨k + 1, by omega, by go_num, by rw [HN2.out], by trivial⟩
        case measure => simp [intOf]; omega
    · have e0 : ¬ (k : Int) < (ln : Int) := by omega
      obtain rfl : k = ln := by omega
      have hsub : IntKind.i64.wrap ((k : Int) - ((ovN St k : Nat) : Int)) = (k : Int) - ((ovN St k : Nat) : Int) := by rw [IntKind.wrap_i64]; have := ovN_le St k; omega
      go_wp2_with (first | go_quiet (fail) | fail)
      go_ret2
      exact ⟨rfl, HK0.out.and (Kept.drewN _ _ _)⟩

end Go.Proofs.YtdbplemcjnlfiaaGreatDoor
