/-
  Whom a name means in a state; where a signal is kept.
-/
import Derived.Test.YtdecceekodpjiaaDoorHState
import Derived.Deep.QuietTactic
import Derived.BigQuiet
namespace Go.Proofs.YtdecceekodpjiaaDoor
open Go.RowKit

theorem FlatAt.shape {w : World} {sz n : Nat} {v : Value} {l : List Value} (F : FlatAt w sz v n l) : ∃ a c, v = .slice a n c := by
  obtain ⟨_, a, c, e, _⟩ := F
  exact ⟨a, c, e⟩

/-- The node of a name, if the state has it, too. -/
def findS (ns : List Nd) (m : Nat) (s : ByteArray) : Bool := match findP ns s with | some i => decide (i < m) | none => false

set_option maxRecDepth 100000 in
set_option maxHeartbeats 2000000 in
theorem hfind_any (w : World) (name : ByteArray) (a : Option Addr) (c : Nat) (ns : List Nd) (hN : NodesAt w a ns) (hn : ns.length ≤ 1000000) (s : St) (v6 v7 : Value) (R : StRd w s v6 v7) (x : ByteArray) :
    Calls Tryd.prog 54 #[.agg #[.string name, .slice a ns.length c], .agg (stA s v6 v7), .string x] w fun e w' => e = .returned (.tuple #[.int .i64 ((findP ns x).getD 0 : Nat), .bool (findS ns s.nodes.length x)]) ∧ Kept (fun _ => False) w w' := by
  obtain ⟨a6, c6, rfl⟩ := R.nodes.shape
  have hfew := R.few6
  have K0 : Kept (fun _ => False) w ((w.alloc (.cells #[.string name, .slice a ns.length c] 28)).alloc (.cells (stA s (.slice a6 s.nodes.length c6) v7) 39)) := (Kept.alloc _ _ _).and (Kept.alloc _ _ _)
  have hF := find_any _ name a ns.length c ns (keptNew K0 hN) rfl (by omega) x
  unfold stA at hF K0 ⊢
  unfold findS
  clear R hN
  have HK0 : Hid (Kept (fun _ => False) w ((w.alloc (.cells #[.string name, .slice a ns.length c] 28)).alloc (.cells #[.string s.dfn, .string s.id, .string s.par, .string s.pnode, .int .i64 s.status, .string s.text, .slice a6 s.nodes.length c6, v7, .int .i64 s.events] 39))) := K0
  clear K0
  generalize hl : s.nodes.length = m at *
  generalize s.dfn = x0 at *
  generalize s.id = x1 at *
  generalize s.par = x2 at *
  generalize s.pnode = x3 at *
  generalize s.status = x4 at *
  generalize s.text = x5 at *
  generalize s.events = x8 at *
  clear hl
  cases hf : findP ns x with
  | none =>
    rw [hf] at hF
    simp only [Option.getD_none, Option.isSome_none] at hF ⊢
    clear hf
    go_enter Tryd.func54, Tryd.ntmps54
    go_wp2_with (first
      | (go_at_call 66; refine hF.mono ?_; rintro e w1 ⟨rfl, K1⟩; clear hF)
      | go_quiet (fail)
      | fail)
    go_ret2
    exact ⟨rfl, (HK0.out.and K1).and (Kept.drewN _ _ _)⟩
  | some i =>
    have hi := findP_lt hf
    rw [hf] at hF
    simp only [Option.getD_some, Option.isSome_some] at hF ⊢
    clear hf
    by_cases him : i < m
    · have e1 : (i : Int) < (m : Int) := by omega
      have e2 : decide (i < m) = true := decide_eq_true him
      rw [e2]
      go_enter Tryd.func54, Tryd.ntmps54
      go_wp2_with (first
        | (go_at_call 66; refine hF.mono ?_; rintro e w1 ⟨rfl, K1⟩; clear hF; have c6' := boxC (S := fun _ => False) (w := w.alloc (.cells #[.string name, .slice a ns.length c] 28)) (arr := #[.string x0, .string x1, .string x2, .string x3, .int .i64 x4, .string x5, .slice a6 m c6, v7, .int .i64 x8]) K1 (fun h => h) 6 _ rfl; rw [World.size_alloc] at c6')
        | go_quiet (fail)
        | fail)
      go_ret2
      exact ⟨rfl, (HK0.out.and K1).and (Kept.drewN _ _ _)⟩
    · have e1 : ¬ (i : Int) < (m : Int) := by omega
      have e2 : decide (i < m) = false := decide_eq_false him
      rw [e2]
      go_enter Tryd.func54, Tryd.ntmps54
      go_wp2_with (first
        | (go_at_call 66; refine hF.mono ?_; rintro e w1 ⟨rfl, K1⟩; clear hF; have c6' := boxC (S := fun _ => False) (w := w.alloc (.cells #[.string name, .slice a ns.length c] 28)) (arr := #[.string x0, .string x1, .string x2, .string x3, .int .i64 x4, .string x5, .slice a6 m c6, v7, .int .i64 x8]) K1 (fun h => h) 6 _ rfl; rw [World.size_alloc] at c6')
        | go_quiet (fail)
        | fail)
      go_ret2
      exact ⟨rfl, (HK0.out.and K1).and (Kept.drewN _ _ _)⟩

end Go.Proofs.YtdecceekodpjiaaDoor
