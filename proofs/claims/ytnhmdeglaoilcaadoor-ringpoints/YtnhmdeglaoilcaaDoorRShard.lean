/-
  Shard: a workflow's shard, the document's beside it; clip.
-/
import Derived.Test.YtnhmdeglaoilcaaDoorRRef
namespace Go.Proofs.YtnhmdeglaoilcaaDoor
open Go.RowKit Go.Sort

/-- A text that is not too long. -/
def clipS (s : ByteArray) : ByteArray := if 500 < s.size then s.extract 0 500 else s

theorem clipS_size (s : ByteArray) : (clipS s).size ≤ 500 := by
  unfold clipS
  split
  · simp; omega
  · omega

set_option maxRecDepth 100000 in
set_option maxHeartbeats 400000 in
theorem clip_any (w : World) (s : ByteArray) :
    Calls Tryd.prog 10 #[.string s] w fun e w' => e = .returned (.string (clipS s)) ∧ w' = w := by
  unfold clipS
  by_cases h : 500 < s.size
  · have h2 : (500 : Int) < (s.size : Int) := by omega
    have h3 : (500 : Int) ≤ (s.size : Int) := by omega
    rw [if_pos h]
    go_enter Tryd.func10, Tryd.ntmps10
    go_wp2
    go_ret
    exact ⟨rfl, rfl⟩
  · have h2 : ¬ (500 : Int) < (s.size : Int) := by omega
    rw [if_neg h]
    go_enter Tryd.func10, Tryd.ntmps10
    go_wp2
    go_ret
    exact ⟨rfl, rfl⟩

/-- A workflow's shard. -/
def shardVal (s : ByteArray) (n : Int) : Int := if n < 1 then 0 else ((point s.data.toList).1 + (point s.data.toList).2) % n

set_option maxRecDepth 100000 in
set_option maxHeartbeats 400000 in
theorem shard_any (w : World) (s : ByteArray) (hs : s.size ≤ 500) (n : Int) :
    Calls Tryd.prog 29 #[.string s, .int .i64 n] w fun e w' => e = .returned (.int .i64 (shardVal s n)) ∧ w' = w := by
  unfold shardVal
  by_cases hn : n < 1
  · rw [if_pos hn]
    go_enter Tryd.func29, Tryd.ntmps29
    go_wp2
    go_ret
    exact ⟨rfl, rfl⟩
  · rw [if_neg hn]
    have P := point_any w s (by omega)
    have hz := point_in s.data.toList
    generalize point s.data.toList = z at *
    obtain ⟨r, e, fr⟩ := isF_add hz.f1 hz.f2 (by have := hz.1; have := hz.2; omega)
    have ha : ∀ W, (binOp .add 31 (.float .f64 (fl z.1)) (.float .f64 (fl z.2))).run Tryd.prog W = .ok (.float .f64 r) W := fun W => run_float_arith W .add _ _ _ _ _ e
    have hc : ∀ W, (convert 31 3 (.float .f64 r)).run Tryd.prog W = .ok (.int .i64 (z.1 + z.2)) W := fun W =>
      run_convert_float_int W 31 3 .f64 .i64 r _ (by rw [Tryd.underlying31]; rfl) Tryd.underlying3 (isF_toInt fr (by have := hz.1; have := hz.2; omega) (by have := hz.1; have := hz.2; omega))
    have hm : (z.1 + z.2).tmod n = (z.1 + z.2) % n := Int.tmod_eq_emod_of_nonneg (by have := hz.1; have := hz.2; omega)
    have hn0 : (n == 0) = false := by simp; omega
    unfold cx at P
    generalize fl z.1 = p at *
    generalize fl z.2 = q at *
    generalize z.1 + z.2 = t at *
    have HM : Hid (t.tmod n = t % n) := hm
    clear e fr hz hm
    go_enter Tryd.func29, Tryd.ntmps29
    go_wp2_with (first
      | (go_at_call 11; refine P.mono ?_; rintro e w1 ⟨rfl, hw1⟩; subst w1)
      | fail)
    go_ret
    exact ⟨ret_int HM.out, rfl⟩

set_option maxRecDepth 100000 in
set_option maxHeartbeats 400000 in
theorem refShard_any (w : World) (s : ByteArray) (hs : s.size ≤ 500) (n : Int) :
    Calls Tryd.prog 30 #[.string s, .int .i64 n] w fun e w' => e = .returned (.int .i64 (shardVal s n)) ∧ Kept (fun _ => False) w w' := by
  unfold shardVal
  by_cases hn : n < 1
  · rw [if_pos hn]
    go_enter Tryd.func30, Tryd.ntmps30
    go_wp2
    go_ret
    exact ⟨rfl, Kept.refl _ _⟩
  · rw [if_neg hn]
    have P := refPoint_any w s (by omega)
    have hz := point_in s.data.toList
    generalize point s.data.toList = z at *
    have hm : (z.1 + z.2).tmod n = (z.1 + z.2) % n := Int.tmod_eq_emod_of_nonneg (by have := hz.1; have := hz.2; omega)
    have hn0 : (n == 0) = false := by simp; omega
    have hb : -9223372036854775808 ≤ z.1 + z.2 ∧ z.1 + z.2 ≤ 9223372036854775807 := by have := hz.1; have := hz.2; omega
    unfold pv at P
    have HM : Hid ((z.1 + z.2).tmod n = (z.1 + z.2) % n) := hm
    clear hz hm
    go_enter Tryd.func30, Tryd.ntmps30
    go_wp2_with (first
      | (go_at_call 9; refine P.mono ?_; rintro e w1 ⟨rfl, K1⟩)
      | fail)
    go_ret
    exact ⟨ret_int HM.out, K1.and (Kept.alloc _ _ _)⟩

end Go.Proofs.YtnhmdeglaoilcaaDoor
