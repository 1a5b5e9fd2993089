/-
  change: a workflow's end.
-/
import Derived.Test.YtfjekjbkifmpfaaDoorG10
namespace Go.Proofs.YtfjekjbkifmpfaaDoor
open Go.RowKit

set_option maxRecDepth 100000 in
set_option maxHeartbeats 8000000 in
theorem chg_closed (w : World) (F : Nat → Prop) (sb so : Nat) (T : TypeId) (pre post : List Value) (s : St) (v6 v7 : Value) (S : StIn w F sb so T pre post s v6 v7) (hs : s.status = 1)
    (nm : ByteArray) (a : Option Addr) (n c : Nat) (en et : ByteArray) (ez : Int) (he0 : 0 ≤ s.events) (he1 : s.events ≤ 1000000000000) :
    Calls Tryd.prog 36 #[.agg #[.string nm, .slice a n c], .pointer (some ⟨sb, so, none⟩), .agg #[.int .i64 15, .string en, .string et, .int .i64 ez]] w (ChgPost w F sb so T pre post (if ez = 2 ∨ ez = 3 ∨ ez = 4 then some { s with status := ez, text := et, events := s.events + 1 } else none)) := by
  have K0 := Bx2.kept w nm a n c 15 en et ez
  have S0 := S.new K0
  have hb := S0.blk
  unfold stL at hb
  obtain ⟨⟨_, _, _, _, c4, _, _, _, _⟩, _⟩ := nineAt hb S0.off
  rw [hs] at c4
  have B0 := BxSt.begun w nm a n c 15 en et ez
  obtain ⟨⟨x0, _, _, x3⟩, _⟩ := four B0.b1
  have HK0 := hid K0
  have HS0 := hid S0
  have HB0 := hid B0
  have hof := S.off
  have hlt := S.lt
  have hw8 : IntKind.i64.wrap (s.events + 1) = s.events + 1 := by rw [IntKind.wrap_i64]; omega
  clear S S0 hb B0 K0
  have main : ∀ (hz : (ez == 2) = true ∨ ((ez == 2) = false ∧ (ez == 3) = true) ∨ ((ez == 2) = false ∧ (ez == 3) = false ∧ (ez == 4) = true)), Calls Tryd.prog 36 #[.agg #[.string nm, .slice a n c], .pointer (some ⟨sb, so, none⟩), .agg #[.int .i64 15, .string en, .string et, .int .i64 ez]] w (ChgPost w F sb so T pre post (some { s with status := ez, text := et, events := s.events + 1 })) := by
    rintro (z2 | ⟨z2, z3⟩ | ⟨z2, z3, z4⟩)
    all_goals
      go_enter Tryd.func36, Tryd.ntmps36
      go_upto_region 17 with (first | go_quiet (fail) | fail)
      obtain ⟨⟨_, _, t2, t3⟩, _⟩ := four HB0.out.b1
      have hb1 := HS0.out.blk
      unfold stL at hb1
      refine wp_onlyN (ch17 _ hb1 hof t3 t2 (by omega) ?_)
      intro _ _ _ _ _ _ _ _ _ _ w5 hb5 K5
      obtain ⟨⟨_, _, _, _, _, _, _, _, e8⟩, _, _, _, _, _, _, _, _, g8⟩ := nineAt hb5 hof
      have S5 := HS0.out.re (s' := { s with status := ez, text := et }) K5 hb5 rfl rfl
      have HG : Hid (Goes w F sb so T pre post { s with status := ez, text := et } w5) := ⟨⟨F, v6, v7, S5, fun g h => .inl h⟩, (HK0.out.mono (fun _ h => h.elim)).and (K5.mono (fun j h => h ▸ HS0.out.inS))⟩
      have hin := HS0.out.inS
      clear hb1 t2 t3 hb5 K5 S5 c4 x0 x3 HS0 HB0 HK0
      go_wp2_with fail
      go_ret
      exact ⟨rfl, Goes.count (s := { s with status := ez, text := et }) hin HG.out⟩
  by_cases h2 : ez = 2
  · rw [if_pos (.inl h2)]
    exact main (.inl (by simp [h2]))
  · by_cases h3 : ez = 3
    · rw [if_pos (.inr (.inl h3))]
      exact main (.inr (.inl ⟨by simp [h2], by simp [h3]⟩))
    · by_cases h4 : ez = 4
      · rw [if_pos (.inr (.inr h4))]
        exact main (.inr (.inr ⟨by simp [h2], by simp [h3], by simp [h4]⟩))
      · rw [if_neg (by omega)]
        have z2 : (ez == 2) = false := by simp [h2]
        have z3 : (ez == 3) = false := by simp [h3]
        have z4 : (ez == 4) = false := by simp [h4]
        clear main h2 h3 h4
        go_enter Tryd.func36, Tryd.ntmps36
        go_wp2_with (first | go_quiet (fail) | fail)
        go_ret
        exact ⟨rfl, HK0.out⟩

end Go.Proofs.YtfjekjbkifmpfaaDoor
