/-
  WorldClock holds for every row of ticks: the law's call returns true and leaves its argument as it was. No condition.
-/
import Derived.Test.YtbckemimaiajoaaClock
import Derived.Test.YtbckemimaiajoaaLift
namespace Go.Proofs.Ytbckemimaiajoaa
open Go.ChangeShapes Go.WideShapes Go.ChangeAt Go.RowKit

theorem newCell (w : World) (v : Value) (t : TypeId) : (w.alloc (.cells #[v] t)).cell? ⟨w.heap.size, 0, none⟩ = some v ∧ (w.alloc (.cells #[v] t)).frozen? ⟨w.heap.size, 0, none⟩ = false := by
  have h := heap_alloc_new w (.cells #[v] t)
  constructor
  · unfold World.cell?; rw [h]; rfl
  · unfold World.frozen?; rw [h]; rfl

set_option maxRecDepth 100000 in
set_option maxHeartbeats 1000000 in
theorem clock_walk (a0 : Option Addr) (len0 cap0 : Nat) (z0 : List Int) (w : World) (w0 : IsRow .i64 w a0 len0 cap0 z0) :
    Calls Try.prog 7 #[.slice a0 len0 cap0] w fun e w' => e = .returned (.bool true) ∧ Below w.heap.size w w' := by
  have hlen : len0 ≤ 9223372036854775807 := by
    rcases w0 with ⟨_, h, _⟩ | ⟨x, _, h1, h2, _⟩
    · omega
    · unfold maxLen at h2; omega
  have hrow : ∀ k : Nat, k < len0 → ∃ b off, a0 = some ⟨b, off, none⟩ ∧ ∃ z, w.cell? ⟨b, off + k, none⟩ = some (.int .i64 z) ∧ b < w.heap.size ∧ -9223372036854775808 ≤ z ∧ z ≤ 9223372036854775807 := by
    intro k hk
    rcases w0 with ⟨_, h, _⟩ | ⟨x, rfl, h1, h2, h3, hc, hw⟩
    · omega
    · obtain ⟨b, off, rfl⟩ := addr_form (hc 0 (by omega))
      have hck := hc k (by omega)
      rw [Addr.add_lit] at hck
      have hz : (Lit.int .i64 (z0.getD k 0)).wf = true := hw _ (by rw [List.getD_eq_getElem?_getD, List.getElem?_eq_getElem (by omega)]; exact List.getElem_mem _)
      exact ⟨b, off, rfl, _, hck, World.block_lt_of_cell? w _ hck, isI64_bd hz⟩
  clear w0
  go_enter Try.func7, Try.ntmps7
  go_wp2_with (first
    | (go_at_call 42; refine (newClock_any _).mono ?_; rintro e w1 ⟨rfl, rfl⟩)
    | (go_at_call 43; refine (clockNow_any _ 0 _ (cell_one_new _ _ _ 0 _ rfl)).mono ?_; rintro e w1 ⟨rfl, rfl⟩)
    | fail)
  go_loopw [4, 5] (fun now i wr => ∃ (k : Nat) (t : Int), k ≤ len0 ∧ i = .int .i64 k ∧ now = .int .i64 t ∧ 0 ≤ t ∧ t ≤ 1125899906842624 ∧ wr.cell? ⟨w.heap.size, 0, none⟩ = some (.int .i64 t) ∧ wr.frozen? ⟨w.heap.size, 0, none⟩ = false ∧ Below w.heap.size w wr)
    (fun _ i _ => len0 - (intOf i).toNat)
  case atStart =>
    refine ⟨0, 0, Nat.zero_le _, rfl, rfl, by decide, by decide, ?_, ?_, (Below.refl _ _).alloc (Nat.le_refl _) _⟩
    · exact (newCell w _ _).1
    · exact (newCell w _ _).2
  case round =>
    obtain ⟨k, t, hk, rfl, rfl, ht0, ht1, hc, hf, hB⟩ := hrel
    by_cases hlt : k < len0 ∧ k < 100
    · obtain ⟨h1, h2⟩ := hlt
      obtain ⟨b, off, rfl, z, hz, hb, z0, z1⟩ := hrow k h1
      have hzr : wr.cell? ⟨b, off + k, none⟩ = some (.int .i64 z) := (hB.cell (p := ⟨b, off + k, none⟩) hb).trans hz
      have hbn : b ≠ w.heap.size := by omega
      clear hrow hz
      by_cases hok : 1 ≤ z ∧ z ≤ 1125899906842624 - t
      · obtain ⟨hz1, hz2⟩ := hok
        have hT := clockTick_yes w.heap.size t z wr hc hf ht0 ht1 (by omega) (by omega)
        have hzs : (wr.setCell ⟨w.heap.size, 0, none⟩ (.int .i64 (t + z))).cell? ⟨b, off + k, none⟩ = some (.int .i64 z) := by
          rw [World.cell?_of_block (w := wr) (Below.heap_setCell _ _ _ _ hbn)]; exact hzr
        have hcs := World.cell?_setCell_same' wr ⟨w.heap.size, 0, none⟩ (.int .i64 (t + z)) (by rw [hc]; rfl)
        have hN := clockNow_any w.heap.size (t + z) _ hcs
        go_wp2_with (first
          | (go_at_call 44; refine hT.mono ?_; rintro e w2 ⟨rfl, rfl⟩; clear hT)
          | (go_at_call 43; refine hN.mono ?_; rintro e w2 ⟨rfl, rfl⟩; clear hN)
          | fail)
        go_roundw
        case rel => exact ⟨k + 1, t + z, by omega, by go_num, rfl, by omega, by omega, hcs, by rw [World.frozen?_setCell]; exact hf, hB.setCell (p := ⟨w.heap.size, 0, none⟩) (Nat.le_refl _) _⟩
        case measure => simp [intOf]; omega
      · have hT := clockTick_no w.heap.size t z wr hc ht0 ht1 (by omega)
        have hN := clockNow_any w.heap.size t _ hc
        go_wp2_with (first
          | (go_at_call 44; refine hT.mono ?_; rintro e w2 ⟨rfl, rfl⟩; clear hT)
          | (go_at_call 43; refine hN.mono ?_; rintro e w2 ⟨rfl, rfl⟩; clear hN)
          | fail)
        all_goals
          go_roundw
          case rel => exact ⟨k + 1, t, by omega, by go_num, rfl, ht0, ht1, hc, hf, hB⟩
          case measure => simp [intOf]; omega
    · clear hrow
      go_wp2_with (first
        | (go_at_call 15; refine (wakes_any _).mono ?_; rintro e w2 ⟨rfl, K2⟩)
        | fail)
      all_goals
        go_ret
        exact ⟨rfl, hB.trans (K2.none.mono hB.size)⟩

set_option maxRecDepth 100000 in
theorem clock_lifted (os : Os) (started : os.Started) (H : Type) (enc : TypeId × Value → H) :
    ReturnsInHanded {} Try.checked os 7 .any (Rows.worldClockSpec.pre6 enc Try.prog Try.f7 Rows.worldClockRow.domain false) (Rows.worldClockSpec.post enc Try.prog Try.f7 false true false false) := by
  refine returnsInHanded_of_change (C := Try.checked) Try.own started (by kernel_rfl) Try.func7
    (ChangeSpec.witness6 (enc := enc) (C := Try.checked) false ⟨#[], #[.slice none 0 0], []⟩ 8 (by kernel_rfl) (by kernel_rfl) (by kernel_rfl) (by kernel_rfl)) ?_
  intro W base args ds gs before hval0 hW _ _
  have hval : ∀ (j : Nat) t v, Try.f7.params[j]? = some t → args[j]? = some v → Value.okWide Try.prog W .any base t v := hval0
  have hW' := hW
  obtain ⟨p, q, hA0, hV, rfl, _, _⟩ := hW
  have hA : DataW.TrodAll enc Try.prog W 0 (fun _ => true) true Try.f7.params.toList args.toList ds p := hA0
  rw [Try.params7] at hA hval
  obtain ⟨v0, vs0, d0, ds0, p0, q0, hargs, rfl, rfl, h0, r0⟩ := trodAll_cons hA
  obtain ⟨rfl, rfl, rfl⟩ := trodAll_nil r0
  obtain rfl : args = #[v0] := by cases args; simp_all
  obtain ⟨rfl, rfl⟩ := trodVars_none hV
  have k0 := h0
  have lt0 : ∀ x ∈ p0, x.block < W.heap.size := by obtain ⟨m, hm⟩ := k0; exact DataW.trod_lt m _ _ _ hm
  obtain ⟨a0', len0', cap0', rfl⟩ := okWide_slice Try.underlying29 (hval 0 29 v0 rfl rfl)
  obtain ⟨a0, len0, cap0, z0, e0, w0⟩ : ∃ a len cap zs, Value.slice a0' len0' cap0' = .slice a len cap ∧ IsRow .i64 W a len cap zs := by
    obtain ⟨fuel, hf⟩ := h0
    exact isRow_open Try.underlying29 Try.underlying3 (by kernel_rfl) hf
  simp only [Value.slice.injEq] at e0
  obtain ⟨rfl, rfl, rfl⟩ := e0
  clear hA0 hval0
  refine (clock_walk _ _ _ z0 W w0).mono fun e W' ⟨he, bel⟩ => ?_
  subst he
  exact ⟨_, rfl, _, _, _, [], _, [], hW', trodAll_mk1 (shut_bool Try.underlying4 _), (trodAll_cons_mk (Below.trod Try.laidOut (by kernel_rfl) (of_decide_eq_true (by kernel_rfl)) k0 bel lt0) trodAll_mk0), rfl, bel.frame _, fun h => by cases h⟩

theorem worldClock_holds : Rows.WorldClockSaid :=
  OpenClaim.holds_of_wide 7 Try.f7 rfl rfl rfl rfl rfl rfl rfl ⟨rfl, rfl, rfl, rfl, rfl⟩ rfl rfl rfl rfl rfl (by kernel_rfl) Try.func7 (by kernel_rfl)
    (of_decide_eq_true (by kernel_rfl)) (by unfold Func.isWrapper; first | (rw [if_pos (by decide +kernel)]; kernel_rfl) | (rw [if_neg (by decide +kernel)]; exact ⟨rfl, rfl⟩))
    (fun os started H enc _ => clock_lifted os started H enc)

end Go.Proofs.Ytbckemimaiajoaa
