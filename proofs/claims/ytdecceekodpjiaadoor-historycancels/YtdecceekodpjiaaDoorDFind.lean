/-
  Find, named, fits: nodes looked at by themselves.
-/
import Derived.Test.YtdecceekodpjiaaDoorDName
namespace Go.Proofs.YtdecceekodpjiaaDoor
open Go.RowKit

/-- What is handed over beside its own block. -/
def ndV (n : Nd) (v : Value) : Value := .agg #[.string n.name, .int .i64 n.kind, .string n.arg, .string n.to, .int .i64 n.delay, .int .i64 n.tries, v]

set_option maxRecDepth 100000 in
set_option maxHeartbeats 1000000 in
theorem find_any (w : World) (name : ByteArray) (a : Option Addr) (n c : Nat) (ns : List Nd) (hN : NodesAt w a ns) (hl : ns.length = n) (hn : n ≤ 4611686018427387904) (s : ByteArray) :
    Calls Tryd.prog 66 #[.agg #[.string name, .slice a n c], .string s] w fun e w' => e = .returned (.tuple #[.int .i64 ((findP ns s).getD 0 : Nat), .bool (findP ns s).isSome]) ∧ Kept (fun _ => False) w w' := by
  subst hl
  go_enter Tryd.func66, Tryd.ntmps66
  go_wp2
  go_loopw [11] (fun i wr => ∃ (k : Nat), k ≤ ns.length ∧ i = .int .i64 k ∧ Kept (fun _ => False) (w.alloc (.cells #[.string name, .slice a ns.length c] 28)) wr ∧ findP (ns.take k) s = none) (fun i _ => ns.length - (intOf i).toNat)
  case atStart => exact ⟨0, Nat.zero_le _, rfl, Kept.refl _ _, rfl⟩
  case round =>
    obtain ⟨k, hk, rfl, K, hf⟩ := hrel
    by_cases hlt : k < ns.length
    · obtain ⟨b, o, av, cv, rfl, hT, c0, c1, c2, c3, c4, c5, c6⟩ := (keptNew K (keptNew (Kept.alloc _ _ _) hN)).at hlt
      have hnx := findP_take (s := s) hlt
      have hft := fun h => findP_of_first hlt h (fun j hj => findP_none.1 hf _ (List.mem_take_iff_getElem.2 ⟨j, by omega, rfl⟩))
      rw [hf, Option.none_or] at hnx
      have HF : Hid ((ns[k]).name = s → findP ns s = some k) := hft
      have HN : Hid (findP (ns.take (k + 1)) s = if (ns[k]).name = s then some k else none) := hnx
      have e0 : (k : Int) < (ns.length : Int) := by omega
      clear hft hnx hT
      by_cases he : (ns[k]).name = s
      · have he2 : ((ns[k]).name.toList == s.toList) = true := by rw [he]; simp
        generalize ns[k] = x at *
        go_wp2
        go_ret2
        rw [HF.out he]
        exact ⟨rfl, ((Kept.alloc _ _ _).and K).and (Kept.alloc _ _ _)⟩
      · have he2 : ((ns[k]).name.toList == s.toList) = false := by
          simp only [beq_eq_false_iff_ne, ne_eq]
          exact fun h => he (ByteArray.ext (Array.toList_inj.1 (by rw [← Lib.toList_data, ← Lib.toList_data]; exact h)))
        generalize ns[k] = x at *
        go_wp2
        go_roundw
        case rel =>
          refine ⟨k + 1, by omega, by go_num, K.and (Kept.alloc _ _ _), ?_⟩
          rw [HN.out, if_neg he]
        case measure => simp [intOf]; omega
    · obtain rfl : k = ns.length := by omega
      go_wp2
      go_ret2
      rw [List.take_length] at hf
      rw [hf]
      exact ⟨rfl, (Kept.alloc _ _ _).and K⟩

theorem str_empty (s : ByteArray) : (s.toList == ([] : List UInt8)) = decide (s.size = 0) := by
  have : s.toList.length = s.size := by rw [Lib.toList_data]; simp
  by_cases h : s.size = 0
  · rw [h] at this
    have := List.eq_nil_of_length_eq_zero this
    rw [this]; simp [h]
  · have h2 : s.toList ≠ [] := fun e => h (by rw [← this, e]; rfl)
    simp [h, h2]

end Go.Proofs.YtdecceekodpjiaaDoor
