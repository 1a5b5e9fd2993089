/-
  The laws' small request, read.
-/
import Derived.Test.YtfiaaaflpjpnjaaGreatDoorFWake1
namespace Go.Proofs.YtfiaaaflpjpnjaaGreatDoor
open Go.RowKit

def sliceLenOf : Value → Nat
  | .slice _ n _ => n
  | _ => 0

set_option maxRecDepth 100000 in
set_option maxHeartbeats 2000000 in
theorem valid_short (w : World) (b o n : Nat) (x : Nat → Int) (hn : n ≤ 9) (hc : ∀ j, j < n → w.cell? ⟨b, o + j, none⟩ = some (.int .u8 (x j)) ∧ x j < 128) :
    Calls Tryz.prog 15 #[.slice (some ⟨b, o, none⟩) n n] w fun e w' => e = .returned (.bool true) ∧ w' = w := by
  go_enter Tryz.func15, Tryz.ntmps15
  go_wp2
  go_loopw [0] (fun v wr => ∃ (k m : Nat) (ad : Option Addr), k + m = n ∧ v = .slice ad m m ∧ (0 < m → ad = some ⟨b, o + k, none⟩) ∧ wr = w) (fun v _ => sliceLenOf v)
  case atStart => exact ⟨0, n, _, by omega, rfl, fun _ => rfl, rfl⟩
  case round =>
    obtain ⟨k, m, ad, hk, rfl, had, hwr⟩ := hrel
    subst wr
    rcases Nat.eq_zero_or_pos m with h0 | h0
    · subst h0
      go_wp2
      go_ret
      exact ⟨rfl, rfl⟩
    · obtain rfl := had h0
      obtain ⟨c0, hx⟩ := hc k (by omega)
      have e0 : (0 : Int) < (m : Int) := by omega
      have e1 : (1 : Int) ≤ (m : Int) := by omega
      have e2 : ¬ (8 : Int) < (m : Int) - 1 := by omega
      go_wp2
      refine ⟨⟨k + 1, m - 1, _, by omega, rfl, fun h => ?_, trivial⟩, ?_⟩
      · rw [if_neg (by omega)]
        rfl
      · simp only [sliceLenOf]; omega

set_option maxRecDepth 100000 in
set_option maxHeartbeats 2000000 in
theorem read_of (w : World) (b : Nat) (hd m p body : ByteArray)
    (hI : ∀ W q, W = w.alloc (.cells #[.int .u8 13, .int .u8 10, .int .u8 13, .int .u8 10] 5 (4, 5)) → q = w.heap.size → Calls Tryz.prog 13 #[.slice (some ⟨b, 0, none⟩) 52 52, .slice (some ⟨q, 0, none⟩) 4 4] W fun e w' => e = .returned (.int .i64 39) ∧ Kept (fun _ => False) W w')
    (hCv : ∀ W, Kept (fun _ => False) w W → (convert 23 9 (.slice (some ⟨b, 0, none⟩) 39 52)).run Tryz.prog W = .ok (.string hd) W)
    (hH : ∀ W, Kept (fun _ => False) w W → Calls Tryz.prog 14 #[.string hd] W fun e w' => e = .returned (.tuple #[.agg #[.string m, .string p, .int .i64 9], .bool true]) ∧ Kept (fun _ => False) W w')
    (hm1 : (m.toList == [71, 69, 84]) = false) (hm2 : (m.toList == [80, 79, 83, 84]) = true)
    (hV : ∀ W, Kept (fun _ => False) w W → Calls Tryz.prog 15 #[.slice (some ⟨b, 43, none⟩) 9 9] W fun e w' => e = .returned (.bool true) ∧ w' = W)
    (hCb : ∀ W, Kept (fun _ => False) w W → (convert 23 9 (.slice (some ⟨b, 43, none⟩) 9 9)).run Tryz.prog W = .ok (.string body) W) :
    Calls Tryz.prog 7 #[.slice (some ⟨b, 0, none⟩) 52 52] w fun e w' => e = .returned (.tuple #[.string m, .string p, .string body, .int .i64 200]) ∧ Kept (fun _ => False) w w' := by
  have HK1 : Hid (Kept (fun _ => False) w (w.alloc (.cells #[.int .u8 13, .int .u8 10, .int .u8 13, .int .u8 10] 5 (4, 5)))) := Kept.alloc _ _ _
  have hcc := Lib.run_convert_bytes_const w 23 5 #[.int .u8 13, .int .u8 10, .int .u8 13, .int .u8 10] 4 4 Tryz.underlying23 Tryz.underlying5
  have hmin : min (52 : Int) 4096 = 52 := by decide
  go_enter Tryz.func7, Tryz.ntmps7
  go_wp2_with (first
    | (go_at_call 13; refine (hI _ _ rfl rfl).mono ?_; rintro e w2 ⟨rfl, K2⟩; clear hI; have HK2 := hid (HK1.out.and K2); clear K2 HK1; have hcv := hCv _ HK2.out; clear hCv)
    | (go_at_call 14; refine (hH _ HK2.out).mono ?_; rintro e w3 ⟨rfl, K3⟩; clear hH hcv; have HK3 := hid ((HK2.out.and K3).and (Kept.alloc _ _ (.cells #[.string m, .string p, .int .i64 9] 35))); obtain ⟨⟨y0, y1, y2⟩, _⟩ := three_cells (heap_alloc_new w3 (.cells #[.string m, .string p, .int .i64 9] 35)); have hcb := hCb _ (HK3.out.and (Kept.drew _ _)); have hcb2 := hCb _ HK3.out; clear hCb K3 HK2)
    | (go_at_call 15; refine (hV _ HK3.out).mono ?_; rintro e w4 ⟨rfl, hw4⟩; subst w4; clear hV)
    | fail)
  go_region
  go_wp2
  refine bodyPost_ret (by simp [results, Tryz.results7, go_sem]; try rfl) rfl ?_
  exact ⟨rfl, HK3.out.and (Kept.drew _ _)⟩

end Go.Proofs.YtfiaaaflpjpnjaaGreatDoor
