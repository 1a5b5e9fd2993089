/-
  Count: how many nodes are over, and how many are not.
-/
import Derived.Test.YtdecceekodpjiaaDoorHMarks
import Derived.Test.YtdecceekodpjiaaDoorRFloat
namespace Go.Proofs.YtdecceekodpjiaaDoor
open Go.RowKit

def overC (l : List Ns) : Nat := l.countP (fun x => x.status == 3)
def restC (l : List Ns) : Nat := l.countP (fun x => !(x.status == 3))

theorem isF_zero : IsF 0 0 := by
  have h := isF_int 0 (by decide)
  rwa [show floatOfInt .f64 0 = 0 by kernel_rfl] at h

theorem isF_one : IsF 4607182418800017408 1 := by
  have h := isF_int 1 (by decide)
  rwa [show floatOfInt .f64 1 = 4607182418800017408 by kernel_rfl] at h

set_option maxRecDepth 100000 in
set_option maxHeartbeats 4000000 in
theorem count_any (w : World) (s : St) (v6 v7 : Value) (R : StRd w s v6 v7) :
    Calls Tryd.prog 16 #[.agg #[.string s.dfn, .string s.id, .string s.par, .string s.pnode, .int .i64 s.status, .string s.text, v6, v7, .int .i64 s.events]] w fun e w' => (∃ x y, e = .returned (.complex .f64 x y) ∧ IsF x (overC s.nodes : Nat) ∧ IsF y (restC s.nodes : Nat)) ∧ Kept (fun _ => False) w w' := by
  obtain ⟨F6, F7, h6, h7⟩ := R
  obtain ⟨hl6, a6, c6, rfl, hc6, _, hr6⟩ := F6
  have K0 := Kept.alloc (fun _ => False) w (.cells #[.string s.dfn, .string s.id, .string s.par, .string s.pnode, .int .i64 s.status, .string s.text, .slice a6 s.nodes.length c6, v7, .int .i64 s.events] 39)
  have HK0 := hid K0
  have HR := hid hr6
  clear K0 hr6 F7
  go_enter Tryd.func16, Tryd.ntmps16
  go_wp2_with fail
  go_loopw [3, 9] (fun v i wr => ∃ (k x y : Nat), k ≤ s.nodes.length ∧ i = .int .i64 k ∧ v = .complex .f64 x y ∧ IsF x (overC (s.nodes.take k) : Nat) ∧ IsF y (restC (s.nodes.take k) : Nat) ∧ Kept (fun _ => False) w wr) (fun _ i _ => s.nodes.length - (intOf i).toNat)
  case atStart => exact ⟨0, 0, 0, Nat.zero_le _, rfl, rfl, isF_zero, isF_zero, HK0.out⟩
  case round =>
    obtain ⟨k, x, y, hk, rfl, rfl, hx, hy, K⟩ := hrel
    by_cases hlt : k < s.nodes.length
    · have e0 : (k : Int) < (s.nodes.length : Int) := by omega
      obtain ⟨b, o, rfl, hc⟩ : ∃ b o, a6 = some ⟨b, o, none⟩ ∧ ∀ j u, (nsF s.nodes)[j]? = some u → w.cell? ⟨b, o + j, none⟩ = some u := by
        rcases HR.out with h | h
        · omega
        · exact h
      have at_ : ∀ j u, (nsF s.nodes)[k * 3 + j]? = some u → wr.cell? ⟨b, o + k * 3 + j, none⟩ = some u := fun j u hu => by
        rw [Nat.add_assoc]
        exact keepC K (hc _ u hu) (fun _ _ h => h)
      have q0 := at_ 0 _ (nsF_get hlt).1
      have q1 := at_ 1 _ (nsF_get hlt).2.1
      have q2 := at_ 2 _ (nsF_get hlt).2.2
      rw [Nat.add_zero] at q0
      have b1 : overC (s.nodes.take k) ≤ k := Nat.le_trans List.countP_le_length (by rw [List.length_take]; omega)
      have b2 : restC (s.nodes.take k) ≤ k := Nat.le_trans List.countP_le_length (by rw [List.length_take]; omega)
      have n1 : overC (s.nodes.take (k + 1)) = overC (s.nodes.take k) + if ((s.nodes[k]).status == 3) = true then 1 else 0 := by
        unfold overC
        rw [List.take_succ_eq_append_getElem hlt, List.countP_append, List.countP_cons, List.countP_nil, Nat.zero_add]
      have n2 : restC (s.nodes.take (k + 1)) = restC (s.nodes.take k) + if ((s.nodes[k]).status == 3) = true then 0 else 1 := by
        unfold restC
        rw [List.take_succ_eq_append_getElem hlt, List.countP_append, List.countP_cons, List.countP_nil, Nat.zero_add]
        cases ((s.nodes[k]).status == 3) <;> rfl
      generalize overC (s.nodes.take k) = p at *
      generalize restC (s.nodes.take k) = q at *
      have HQ1 := hid n1
      have HQ2 := hid n2
      have HK := hid K
      clear at_ hc n1 n2 K
      cases hs : ((s.nodes[k]).status == 3) with
      | true =>
        obtain ⟨x', y', e2, fx, fy⟩ := cadd_whole hx hy isF_one isF_zero (by omega) (by omega)
        have m2 : ∀ W, (binOp .add 45 (.complex .f64 x y) (.complex .f64 4607182418800017408 0)).run Tryd.prog W = .ok (.complex .f64 x' y') W := fun W => run_complex_sum W .add (.inl rfl) _ _ _ _ _ _ _ _ e2
        go_wp2_with fail
        go_roundw
        case rel => exact ⟨k + 1, x', y', by omega, by go_num, rfl, by rw [HQ1.out, hs, if_pos rfl]; exact_mod_cast fx, by rw [HQ2.out, hs, if_pos rfl]; simpa using fy, HK.out.and (Kept.alloc _ _ _)⟩
        case measure => simp [intOf]; omega
      | false =>
        obtain ⟨x', y', e2, fx, fy⟩ := cadd_whole hx hy isF_zero isF_one (by omega) (by omega)
        have m2 : ∀ W, (binOp .add 45 (.complex .f64 x y) (.complex .f64 0 4607182418800017408)).run Tryd.prog W = .ok (.complex .f64 x' y') W := fun W => run_complex_sum W .add (.inl rfl) _ _ _ _ _ _ _ _ e2
        go_wp2_with fail
        go_roundw
        case rel => exact ⟨k + 1, x', y', by omega, by go_num, rfl, by rw [HQ1.out, hs, if_neg (by decide)]; simpa using fx, by rw [HQ2.out, hs, if_neg (by decide)]; exact_mod_cast fy, HK.out.and (Kept.alloc _ _ _)⟩
        case measure => simp [intOf]; omega
    · obtain rfl : k = s.nodes.length := by omega
      rw [List.take_length] at hx hy
      have e0 : ¬ ((s.nodes.length : Int) < (s.nodes.length : Int)) := by omega
      have HK := hid K
      clear K
      go_wp2_with fail
      go_ret
      exact ⟨⟨x, y, rfl, hx, hy⟩, HK.out⟩

end Go.Proofs.YtdecceekodpjiaaDoor
