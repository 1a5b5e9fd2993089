/-
  RingShards holds for all texts and numbers of shards: the law's call returns true and leaves its arguments as they were. No condition; the listed tables are tied to the program's text.
-/
import Derived.Test.YtnhmdeglaoilcaaDoorRCard
import Derived.Test.YtnhmdeglaoilcaaDoorRShard
namespace Go.Proofs.YtnhmdeglaoilcaaDoor
open Go.ChangeShapes Go.WideShapes Go.ChangeAt Go.RowKit

theorem shardVal_in (s : ByteArray) (n : Int) : 0 ≤ shardVal s n ∧ (1 ≤ n → shardVal s n < n) := by
  unfold shardVal
  split
  · exact ⟨by decide, fun h => by omega⟩
  · exact ⟨Int.emod_nonneg _ (by omega), fun h => Int.emod_lt_of_pos _ (by omega)⟩

set_option maxRecDepth 100000 in
set_option maxHeartbeats 2000000 in
theorem ringShards_walk (a : Option Addr) (len cap : Nat) (n : Int) (S : Nat → ByteArray) (w : World) (hS : StrsAt w a len S) :
    Calls Tryd.prog 7 #[.slice a len cap, .int .i64 n] w fun e w' => e = .returned (.bool true) ∧ Below w.heap.size w w' := by
  have hW := fun V => wakes_any V
  go_enter Tryd.func7, Tryd.ntmps7
  go_wp2
  go_loopw [5] (fun i wr => ∃ (k : Nat), k ≤ len ∧ k ≤ 20 ∧ i = .int .i64 k ∧ Kept (fun _ => False) w wr) (fun i _ => len - (intOf i).toNat)
  case atStart => exact ⟨0, Nat.zero_le _, by decide, rfl, Kept.refl _ _⟩
  case round =>
    obtain ⟨k, hk, hk20, rfl, K⟩ := hrel
    by_cases hlt : k < len
    · have e0 : (k : Int) < (len : Int) := by omega
      by_cases h20 : k < 20
      · obtain ⟨b, o, rfl, hcell⟩ := hS.at hlt
        have x0 := cellKept K (hcell k hlt)
        have C := fun V => clip_any V (S k)
        have hsz := clipS_size (S k)
        have A := fun V => shard_any V (clipS (S k)) hsz n
        have R := fun V => refShard_any V (clipS (S k)) hsz n
        obtain ⟨v1, v2⟩ := shardVal_in (clipS (S k)) n
        generalize shardVal (clipS (S k)) n = v at *
        generalize clipS (S k) = s at *
        clear hcell hW
        have e1 : (v == v) = true := by simp
        have e2 : (v != v) = false := by simp
        by_cases hn : 1 ≤ n
        · have hv := v2 hn
          clear v2
          go_wp2_with (first
            | (go_at_call 10; refine (C _).mono ?_; rintro e w1 ⟨rfl, hw1⟩; subst w1)
            | (go_at_call 29; refine (A _).mono ?_; rintro e w1 ⟨rfl, hw1⟩; subst w1)
            | (go_at_call 30; refine (R _).mono ?_; rintro e w1 ⟨rfl, K1⟩)
            | fail)
          go_roundw
          case rel => exact ⟨k + 1, by omega, by omega, by go_num, K.and K1⟩
          case measure => simp [intOf]; omega
        · clear v2
          go_wp2_with (first
            | (go_at_call 10; refine (C _).mono ?_; rintro e w1 ⟨rfl, hw1⟩; subst w1)
            | (go_at_call 29; refine (A _).mono ?_; rintro e w1 ⟨rfl, hw1⟩; subst w1)
            | (go_at_call 30; refine (R _).mono ?_; rintro e w1 ⟨rfl, K1⟩)
            | fail)
          go_roundw
          case rel => exact ⟨k + 1, by omega, by omega, by go_num, K.and K1⟩
          case measure => simp [intOf]; omega
      · have e3 : ¬ (k : Int) < 20 := by omega
        go_wp2_with (first
          | (go_at_call 16; refine (hW _).mono ?_; rintro e w1 ⟨rfl, K1⟩)
          | fail)
        go_ret
        exact ⟨rfl, (K.and K1).none⟩
    · have e3 : ¬ (k : Int) < (len : Int) := by omega
      go_wp2_with (first
        | (go_at_call 16; refine (hW _).mono ?_; rintro e w1 ⟨rfl, K1⟩)
        | fail)
      go_ret
      exact ⟨rfl, (K.and K1).none⟩

set_option maxRecDepth 100000 in
theorem ringShards_lifted (os : Os) (started : os.Started) (H : Type) (enc : TypeId × Value → H) :
    ReturnsInHanded {} Tryd.checked os 7 .any (fun w args => (Rows.ringShardsSpec.pre enc Tryd.prog Tryd.f7 [] false w args ∧ laidMetH Tryd.prog laidL w) ∧ sizedMet enc Tryd.prog Tryd.f7 (OpenSpec.ofChange Rows.ringShardsSpec) false w args)
      (Rows.ringShardsSpec.post enc Tryd.prog Tryd.f7 false true false false) := by
  refine returnsInHanded_of_change_and (C := Tryd.checked) (X := fun w _ => laidMetH Tryd.prog laidL w) (fun _ _ _ hh h => h.of_heap hh) Tryd.own started (by kernel_rfl) Tryd.func7
    (ChangeSpec.witness_shaped (enc := enc) (C := Tryd.checked) (os := os) (X := fun w _ => laidMetH Tryd.prog laidL w) false (World.doorLaid Tryd.prog 24 os) #[.slice none 0 0, .int .i64 0] 8 rfl (World.shaped_of_RefB (by kernel_rfl) (by kernel_rfl)) (by kernel_rfl) (by kernel_rfl) (by kernel_rfl) (door_met os _)) ?_
  intro W base args ds gs before hval0 hW _ _ _ _
  have hval : ∀ (j : Nat) t v, Tryd.f7.params[j]? = some t → args[j]? = some v → Value.okWide Tryd.prog W .any base t v := hval0
  have hW' := hW
  obtain ⟨p, q, hA0, hV, rfl, _, _⟩ := hW
  have hA : DataW.TrodAll enc Tryd.prog W 0 (fun _ => true) true Tryd.f7.params.toList args.toList ds p := hA0
  rw [Tryd.params7] at hA hval
  obtain ⟨v0, vs0, d0, ds0, p0, q0, hargs, rfl, rfl, h0, r0⟩ := trodAll_cons hA
  obtain ⟨v1, vs1, d1, ds1, p1, q1, rfl, rfl, rfl, h1, r1⟩ := trodAll_cons r0
  obtain ⟨rfl, rfl, rfl⟩ := trodAll_nil r1
  obtain rfl : args = #[v0, v1] := by cases args; simp_all
  obtain ⟨rfl, rfl⟩ := trodVars_none hV
  have k0 := h0
  have k1 := h1
  have lt0 : ∀ x ∈ p0, x.block < W.heap.size := by obtain ⟨m, hm⟩ := k0; exact DataW.trod_lt m _ _ _ hm
  have lt1 : ∀ x ∈ p1, x.block < W.heap.size := by obtain ⟨m, hm⟩ := k1; exact DataW.trod_lt m _ _ _ hm
  obtain ⟨a0', len0', cap0', rfl⟩ := okWide_slice Tryd.underlying22 (hval 0 22 v0 rfl rfl)
  obtain ⟨a0, len0, cap0, S, e0, _, _, w0⟩ : ∃ a len cap S, Value.slice a0' len0' cap0' = .slice a len cap ∧ len ≤ cap ∧ cap ≤ maxLen ∧ StrsAt W a len S := by
    obtain ⟨fuel, hf⟩ := h0
    exact strs_open Tryd.underlying22 Tryd.underlying9 (by kernel_rfl) hf
  simp only [Value.slice.injEq] at e0
  obtain ⟨rfl, rfl, rfl⟩ := e0
  obtain ⟨n, rfl, _⟩ := open_int Tryd.underlying3 (hval 1 3 v1 rfl rfl) h1
  clear hA0 hval0
  refine (ringShards_walk _ _ _ n S W w0).mono fun e W' ⟨he, bel⟩ => ?_
  subst he
  exact ⟨_, rfl, _, _, _, [], _, [], hW', trodAll_mk1 (shut_bool Tryd.underlying4 _), (trodAll_cons_mk (Below.trod Tryd.laidOut (by kernel_rfl) (of_decide_eq_true (by kernel_rfl)) k0 bel lt0) (trodAll_cons_mk (Below.trod Tryd.laidOut (by kernel_rfl) (of_decide_eq_true (by kernel_rfl)) k1 bel lt1) trodAll_mk0)), rfl, bel.frame _, fun h => by cases h⟩

theorem ringShards_row : Rows.RingShardsSaid :=
  OpenClaim.holds_of_wide 7 Tryd.f7 rfl rfl rfl rfl rfl rfl rfl ⟨rfl, rfl, rfl, rfl, rfl⟩ rfl rfl rfl rfl rfl (by kernel_rfl) Tryd.func7 (by kernel_rfl)
    (of_decide_eq_true (by kernel_rfl)) (by unfold Func.isWrapper; first | (rw [if_pos (by decide +kernel)]; kernel_rfl) | (rw [if_neg (by decide +kernel)]; exact ⟨rfl, rfl⟩))
    (fun os started H enc _ => ringShards_lifted os started H enc)

theorem ringShards_holds : Rows.RingShardsCardSaid :=
  Claim7.holds_tied_plain_at .later [] [.data, .data, .data] true Rows.ringShardsCard.stood.harness false
    ringShards_row (fun _ h => by cases h) (by kernel_rfl) (fun _ h => by cases h) ringShards_row_tie rfl ⟨rfl, rfl⟩ (by kernel_rfl) rfl
    (fun f fn hf hfn => by
      obtain rfl : f = 7 := Option.some.inj ((show Tryd.prog.funcNamed "tiller/tillerlaw06.RingShards" = some 7 by kernel_rfl).symm.trans hf) |>.symm
      obtain rfl : fn = Tryd.f7 := (Option.some.inj (Tryd.func7.symm.trans hfn)).symm
      exact ⟨by kernel_rfl, fun j t ht => by
        rw [Tryd.params7] at ht
        have hm : t ∈ [22, 3] := by simpa using Array.mem_of_getElem? ht
        have hall : ([22, 3].all fun u => !Tryd.prog.wantsStandIn u) = true := by kernel_rfl
        exact (show Tryd.prog.wantsStandIn t = false by simpa using List.all_eq_true.1 hall t hm)⟩)
    (by kernel_rfl)

end Go.Proofs.YtnhmdeglaoilcaaDoor
