/-
  checkNode: what is wrong with a node, but for its After.
-/
import Derived.Test.YtoonnbagppliaaaDoorDFits
namespace Go.Proofs.YtoonnbagppliaaaDoor
open Go.RowKit

theorem findP_some_self {ns : List Nd} {i : Nat} (hi : i < ns.length) : ∃ j, findP ns (ns[i]).name = some j ∧ j ≤ i := by
  cases h : findP ns (ns[i]).name with
  | none => exact absurd rfl (findP_none.1 h _ (List.getElem_mem hi))
  | some j =>
    refine ⟨j, rfl, ?_⟩
    apply Nat.le_of_not_lt
    intro hlt
    exact findP_first h hlt rfl

set_option maxRecDepth 100000 in
set_option maxHeartbeats 1000000 in
theorem checkNode_any (w : World) (name : ByteArray) (a : Option Addr) (n c : Nat) (ns : List Nd) (hN : NodesAt w a ns) (hl : ns.length = n) (hn : n ≤ 4611686018427387904) (i : Nat) (hi : i < ns.length) :
    Calls Tryd.prog 9 #[.agg #[.string name, .slice a n c], .int .i64 i] w fun e w' => e = .returned (.int .i64 (nodeE ns i ns[i])) ∧ Kept (fun _ => False) w w' := by
  have K0 : Kept (fun _ => False) w (w.alloc (.cells #[.string name, .slice a n c] 25)) := Kept.alloc _ _ _
  obtain ⟨b, o, av, cv, rfl, hT, c0, c1, c2, c3, c4, c5, c6⟩ := (keptNew K0 hN).at hi
  have K1 := K0.and (Kept.alloc (fun _ => False) _ (.cells #[.string (ns[i]).name, .int .i64 (ns[i]).kind, .string (ns[i]).arg, .string (ns[i]).to, .int .i64 (ns[i]).delay, .int .i64 (ns[i]).tries, .slice av (ns[i]).after.length cv] 34))
  have HD : Hid (∀ W, Kept (fun _ => False) ((w.alloc (.cells #[.string name, .slice (some ⟨b, o, none⟩) n c] 25)).alloc (.cells #[.string (ns[i]).name, .int .i64 (ns[i]).kind, .string (ns[i]).arg, .string (ns[i]).to, .int .i64 (ns[i]).delay, .int .i64 (ns[i]).tries, .slice av (ns[i]).after.length cv] 34)) W →
      (W.cell? ⟨w.heap.size, 0, none⟩ = some (.string name) ∧ W.cell? ⟨w.heap.size, 1, none⟩ = some (.slice (some ⟨b, o, none⟩) n c)) ∧ W.cell? ⟨w.heap.size + 1, 0, none⟩ = some (.string (ns[i]).name) ∧ W.cell? ⟨w.heap.size + 1, 1, none⟩ = some (.int .i64 (ns[i]).kind) ∧ W.cell? ⟨w.heap.size + 1, 2, none⟩ = some (.string (ns[i]).arg) ∧
      W.cell? ⟨w.heap.size + 1, 3, none⟩ = some (.string (ns[i]).to) ∧ W.cell? ⟨w.heap.size + 1, 4, none⟩ = some (.int .i64 (ns[i]).delay) ∧ W.cell? ⟨w.heap.size + 1, 5, none⟩ = some (.int .i64 (ns[i]).tries) ∧ W.cell? ⟨w.heap.size + 1, 6, none⟩ = some (.slice av (ns[i]).after.length cv)) := fun W K => by
    refine ⟨boxD ((Kept.alloc _ _ _).and K), ?_⟩
    have := boxN K
    rw [World.size_alloc] at this
    exact this
  have e0 : (i : Int) < (n : Int) := by omega
  have q1 := fun W => named_any W (ns[i]).name (ns[i]).kind (ns[i]).arg (ns[i]).to (ns[i]).delay (ns[i]).tries (ns[i]).after av (ns[i]).after.length cv
  have q3 := fun W => fits_any W (ns[i]).name (ns[i]).kind (ns[i]).arg (ns[i]).to (ns[i]).delay (ns[i]).tries (ns[i]).after av (ns[i]).after.length cv
  have q2 := fun W (h : NodesAt W (some ⟨b, o, none⟩) ns) => find_any W name (some ⟨b, o, none⟩) n c ns h hl hn (ns[i]).name
  obtain ⟨j, hj, hji⟩ := findP_some_self hi
  unfold nodeE
  rw [hj, Option.getD_some]
  rw [hj] at q2
  simp only [Option.getD_some, Option.isSome_some] at q2
  change ∀ W, Calls Tryd.prog _ _ W (fun e w' => e = .returned (.bool (namedP ns[i])) ∧ _) at q1
  change ∀ W, Calls Tryd.prog _ _ W (fun e w' => e = .returned (.bool (fitsP ns[i])) ∧ _) at q3
  have HN : Hid (NodesAt w (some ⟨b, o, none⟩) ns) := hN
  clear hN hT hj
  cases g1 : namedP ns[i] with
  | false =>
    rw [g1] at q1
    generalize ns[i] = x at *
    go_enter Tryd.func9, Tryd.ntmps9
    go_wp2_with (first
      | (go_at_call 20; refine (q1 _).mono ?_; rintro e w1 ⟨rfl, K2⟩)
      | fail)
    go_ret
    exact ⟨rfl, K1.and K2⟩
  | true =>
    rw [g1] at q1
    by_cases hlt : j < i
    · have e1 : (j : Int) < (i : Int) := by omega
      simp only [hlt, if_true]
      generalize ns[i] = x at *
      go_enter Tryd.func9, Tryd.ntmps9
      go_wp2_with (first
        | (go_at_call 20; refine (q1 _).mono ?_; rintro e w1 ⟨rfl, K2⟩; obtain ⟨⟨d0, d1⟩, n0, n1, n2, n3, n4, n5, n6⟩ := HD.out _ K2; clear q1)
        | (go_at_call 21; refine (q2 _ (keptNew (K1.and K2) HN.out)).mono ?_; rintro e w2 ⟨rfl, K3⟩)
        | fail)
      go_ret
      exact ⟨rfl, (K1.and K2).and K3⟩
    · simp only [hlt, if_false]
      have e1 : ¬ (j : Int) < (i : Int) := by omega
      cases g3 : fitsP ns[i] <;>
      · rw [g3] at q3
        generalize ns[i] = x at *
        go_enter Tryd.func9, Tryd.ntmps9
        go_wp2_with (first
          | (go_at_call 20; refine (q1 _).mono ?_; rintro e w1 ⟨rfl, K2⟩; obtain ⟨⟨d0, d1⟩, n0, n1, n2, n3, n4, n5, n6⟩ := HD.out _ K2; clear q1)
          | (go_at_call 21; refine (q2 _ (keptNew (K1.and K2) HN.out)).mono ?_; rintro e w2 ⟨rfl, K3⟩; clear d0 d1 n0 n1 n2 n3 n4 n5 n6; obtain ⟨⟨d0, d1⟩, n0, n1, n2, n3, n4, n5, n6⟩ := HD.out _ (K2.and K3); clear q2)
          | (go_at_call 22; refine (q3 _).mono ?_; rintro e w3 ⟨rfl, K4⟩)
          | fail)
        go_ret
        exact ⟨rfl, ((K1.and K2).and K3).and K4⟩

end Go.Proofs.YtoonnbagppliaaaDoor
