/-
  Check: what is wrong with a definition.
-/
import Derived.Test.YtoonnbagppliaaaDoorDChk
import Derived.Test.YtoonnbagppliaaaDoorDAft
import Derived.Test.YtoonnbagppliaaaDoorDOrder
namespace Go.Proofs.YtoonnbagppliaaaDoor
open Go.RowKit

theorem firstE_mono {f : Nat → Int} {k : Nat} {x : Nat × Int} (h : firstE f k = some x) : ∀ {n}, k ≤ n → firstE f n = some x := by
  intro n hn
  induction n with
  | zero => obtain rfl : k = 0 := by omega
            exact h
  | succ n ih =>
    by_cases e : k = n + 1
    · subst e; exact h
    · rw [firstE, ih (by omega)]

theorem firstE_hit {f : Nat → Int} {k n : Nat} (h : firstE f k = none) (hk : k < n) (hf : f k ≠ 0) : firstE f n = some (k, f k) :=
  firstE_mono (k := k + 1) (by rw [firstE, h]; simp [hf]) (by omega)

theorem firstE_next {f : Nat → Int} {k : Nat} (h : firstE f k = none) (hf : f k = 0) : firstE f (k + 1) = none := by
  rw [firstE, h]; simp [hf]

/-- What is wrong with node i by itself; with its After. -/
def nodeAt (ns : List Nd) (i : Nat) : Int := match ns[i]? with | some n => nodeE ns i n | none => 0
def aftAt (ns : List Nd) (i : Nat) : Int := match ns[i]? with | some n => afterE ns n | none => 0

theorem checkP_eq (name : ByteArray) (ns : List Nd) : checkP name ns =
    if nameP name = false then ((-1 : Int), (17 : Int))
    else if ns.length < 1 ∨ 32 < ns.length then ((-1 : Int), (10 : Int))
    else match firstE (nodeAt ns) ns.length with
      | some (i, e) => ((i : Int), e)
      | none => match firstE (aftAt ns) ns.length with
        | some (i, e) => ((i : Int), e)
        | none => if (ordP ns).length = ns.length then ((-1 : Int), (0 : Int)) else ((-1 : Int), (15 : Int)) := rfl

set_option maxRecDepth 100000 in
set_option maxHeartbeats 4000000 in
theorem check_any (w : World) (name : ByteArray) (a : Option Addr) (n c : Nat) (ns : List Nd) (hN : NodesAt w a ns) (hl : ns.length = n) :
    Calls Tryd.prog 5 #[.agg #[.string name, .slice a n c]] w fun e w' => e = .returned (.tuple #[.int .i64 (checkP name ns).1, .int .i64 (checkP name ns).2]) ∧ Kept (fun _ => False) w w' := by
  subst hl
  generalize hr : checkP name ns = r
  have HR : Hid (checkP name ns = r) := hr
  clear hr
  have hnm := name_any (w.alloc (.cells #[.string name, .slice a ns.length c] 25)) name
  cases g0 : nameP name with
  | false =>
    rw [g0] at hnm
    go_enter Tryd.func5, Tryd.ntmps5
    go_wp2_with (first
      | (go_at_call 8; refine hnm.mono ?_; rintro e w1 ⟨rfl, rfl⟩; clear hnm)
      | fail)
    go_ret2
    refine ⟨?_, Kept.alloc _ _ _⟩
    rw [← HR.out, checkP_eq, if_pos g0]
    rfl
  | true =>
    rw [g0] at hnm
    by_cases hc1 : ns.length < 1
    · have e1 : (ns.length : Int) < 1 := by omega
      go_enter Tryd.func5, Tryd.ntmps5
      go_wp2_with (first
        | (go_at_call 8; refine hnm.mono ?_; rintro e w1 ⟨rfl, rfl⟩; clear hnm)
        | fail)
      go_ret2
      refine ⟨?_, Kept.alloc _ _ _⟩
      rw [← HR.out, checkP_eq, if_neg (by rw [g0]; simp), if_pos (.inl hc1)]
      rfl
    · by_cases hc2 : 32 < ns.length
      · have e1 : ¬ (ns.length : Int) < 1 := by omega
        have e2 : (32 : Int) < (ns.length : Int) := by omega
        go_enter Tryd.func5, Tryd.ntmps5
        go_wp2_with (first
          | (go_at_call 8; refine hnm.mono ?_; rintro e w1 ⟨rfl, rfl⟩; clear hnm)
          | fail)
        go_ret2
        refine ⟨?_, Kept.alloc _ _ _⟩
        rw [← HR.out, checkP_eq, if_neg (by rw [g0]; simp), if_pos (.inr hc2)]
        rfl
      · have e1 : ¬ (ns.length : Int) < 1 := by omega
        have e2 : ¬ (32 : Int) < (ns.length : Int) := by omega
        have HN : Hid (NodesAt w a ns) := hN
        have HP : Hid (checkP name ns = match firstE (nodeAt ns) ns.length with
            | some (i, e) => ((i : Int), e)
            | none => match firstE (aftAt ns) ns.length with
              | some (i, e) => ((i : Int), e)
              | none => if (ordP ns).length = ns.length then ((-1 : Int), (0 : Int)) else ((-1 : Int), (15 : Int))) := by
          show _ = _
          rw [checkP_eq, if_neg (by rw [g0]; simp), if_neg (by omega)]
        have hcn := fun W (h : Kept (fun _ => False) w W) (i : Nat) (hi : i < ns.length) => checkNode_any W name a ns.length c ns (keptNew h hN) rfl (by omega) i hi
        have hca := fun W (h : Kept (fun _ => False) w W) (i : Nat) (hi : i < ns.length) => checkAfter_any W name a ns.length c ns (keptNew h hN) rfl (by omega) i hi
        have hor := fun W (h : Kept (fun _ => False) w W) => order_any W name a ns.length c ns (keptNew h hN) rfl (by omega)
        have hlen : ns.length ≤ 32 := by omega
        clear hN
        go_enter Tryd.func5, Tryd.ntmps5
        go_wp2_with (first
          | (go_at_call 8; refine hnm.mono ?_; rintro e w1 ⟨rfl, rfl⟩; clear hnm)
          | fail)
        go_loopw [27] (fun q wr => ∃ (i : Nat), i ≤ ns.length ∧ q = .int .i64 (i : Nat) ∧ firstE (nodeAt ns) i = none ∧ Kept (fun _ => False) (w.alloc (.cells #[.string name, .slice a ns.length c] 25)) wr) (fun q _ => ns.length - (intOf q).toNat)
        case atStart => exact ⟨0, Nat.zero_le _, rfl, rfl, Kept.refl _ _⟩
        case round =>
          obtain ⟨i, hi, rfl, hfe, K⟩ := hrel
          have Kw := (Kept.alloc (fun _ => False) w _).and K
          obtain ⟨d0, d1⟩ := boxD K
          by_cases hlt : i < ns.length
          · have h1 := hcn wr Kw i hlt
            have e3 : (i : Int) < (ns.length : Int) := by omega
            have hat : nodeAt ns i = nodeE ns i ns[i] := by unfold nodeAt; rw [List.getElem?_eq_getElem hlt]
            rw [← hat] at h1
            by_cases hz : nodeAt ns i = 0
            · have HF : Hid (firstE (nodeAt ns) (i + 1) = none) := firstE_next hfe hz
              rw [hz] at h1
              clear hat hz hfe hcn hca hor
              go_wp2_with (first
                | (go_at_call 9; refine h1.mono ?_; rintro e w2 ⟨rfl, K2⟩; clear h1)
                | fail)
              go_roundw
              case rel => exact ⟨i + 1, by omega, by go_num, HF.out, K.and K2⟩
              case measure => simp [intOf]; omega
            · have HF : Hid (firstE (nodeAt ns) ns.length = some (i, nodeAt ns i)) := firstE_hit hfe hlt hz
              have hz2 : (nodeAt ns i == 0) = false := by simpa using hz
              clear hat hfe hcn hca hor
              generalize nodeAt ns i = z at *
              go_wp2_with (first
                | (go_at_call 9; refine h1.mono ?_; rintro e w2 ⟨rfl, K2⟩; clear h1)
                | fail)
              go_ret2
              refine ⟨?_, Kw.and K2⟩
              rw [← HR.out, HP.out, HF.out]
              rfl
          · obtain rfl : i = ns.length := by omega
            have HF0 : Hid (firstE (nodeAt ns) ns.length = none) := hfe
            obtain ⟨wo, hwo⟩ : ∃ wo, wo = wr := ⟨_, rfl⟩
            subst hwo
            clear hfe hcn
            go_wp2_with fail
            go_loopw [41] (fun q wr => ∃ (i : Nat), i ≤ ns.length ∧ q = .int .i64 (i : Nat) ∧ firstE (aftAt ns) i = none ∧ Kept (fun _ => False) (w.alloc (.cells #[.string name, .slice a ns.length c] 25)) wr) (fun q _ => ns.length - (intOf q).toNat)
            case atStart => exact ⟨0, Nat.zero_le _, rfl, rfl, K⟩
            case round =>
              obtain ⟨i, hi, rfl, hfe, K'⟩ := hrel
              have Kw' := (Kept.alloc (fun _ => False) w _).and K'
              obtain ⟨d0', d1'⟩ := boxD K'
              by_cases hlt : i < ns.length
              · have h1 := hca wr Kw' i hlt
                have e3 : (i : Int) < (ns.length : Int) := by omega
                have hat : aftAt ns i = afterE ns ns[i] := by unfold aftAt; rw [List.getElem?_eq_getElem hlt]
                rw [← hat] at h1
                by_cases hz : aftAt ns i = 0
                · have HF : Hid (firstE (aftAt ns) (i + 1) = none) := firstE_next hfe hz
                  rw [hz] at h1
                  clear hat hz hfe hca hor
                  go_wp2_with (first
                    | (go_at_call 10; refine h1.mono ?_; rintro e w2 ⟨rfl, K2⟩; clear h1)
                    | fail)
                  go_roundw
                  case rel => exact ⟨i + 1, by omega, by go_num, HF.out, K'.and K2⟩
                  case measure => simp [intOf]; omega
                · have HF : Hid (firstE (aftAt ns) ns.length = some (i, aftAt ns i)) := firstE_hit hfe hlt hz
                  have hz2 : (aftAt ns i == 0) = false := by simpa using hz
                  clear hat hfe hca hor
                  generalize aftAt ns i = z at *
                  go_wp2_with (first
                    | (go_at_call 10; refine h1.mono ?_; rintro e w2 ⟨rfl, K2⟩; clear h1)
                    | fail)
                  go_ret2
                  refine ⟨?_, Kw'.and K2⟩
                  rw [← HR.out, HP.out, HF0.out, HF.out]
                  rfl
              · obtain rfl : i = ns.length := by omega
                have HF1 : Hid (firstE (aftAt ns) ns.length = none) := hfe
                have h1 := hor wr Kw'
                clear hfe hca hor
                by_cases hok : (ordP ns).length = ns.length
                · rw [show decide ((ordP ns).length = ns.length) = true by simpa using hok] at h1
                  go_wp2_with (first
                    | (go_at_call 11; refine h1.mono ?_; rintro e w2 ⟨av, cv, rfl, _, K2⟩; clear h1)
                    | fail)
                  go_ret2
                  refine ⟨?_, Kw'.and K2⟩
                  rw [← HR.out, HP.out, HF0.out, HF1.out]
                  simp only [hok, if_true]
                  rfl
                · rw [show decide ((ordP ns).length = ns.length) = false by simpa using hok] at h1
                  go_wp2_with (first
                    | (go_at_call 11; refine h1.mono ?_; rintro e w2 ⟨av, cv, rfl, _, K2⟩; clear h1)
                    | fail)
                  go_ret2
                  refine ⟨?_, Kw'.and K2⟩
                  rw [← HR.out, HP.out, HF0.out, HF1.out]
                  simp only [hok, if_false]
                  rfl

end Go.Proofs.YtoonnbagppliaaaDoor
