/-
  A path and what stands behind its question mark: the program's Query, the document's index and Query.
-/
import Derived.Test.YtimipkhjcgmioaaGreatDoorFRep
import Derived.Test.YtimipkhjcgmioaaGreatDoorFCard
import Derived.Lib.IndexBytes
import Derived.Lib.IndexLaws
import Derived.Lib.PathFns
namespace Go.Proofs.YtimipkhjcgmioaaGreatDoor
open Go.RowKit

theorem query_any (w : World) (l : List UInt8) (hl : l.length ≤ 1000000000) (M : MaxAt w) :
    Calls Tryz.prog 35 #[.string (mkB l)] w fun e w' => e = .returned (.tuple #[.string (mkB (Lib.cut l [63]).1), .string (mkB (Lib.cut l [63]).2.1)]) ∧ Kept (fun _ => False) w w' := by
  obtain ⟨m, hm⟩ := M
  have h := Any.strings_Cut Tryz.cutL (mkB l) ⟨#[63]⟩ m w (by rw [mkB_size]; omega) hm
  have h2 : Calls Tryz.prog 72 #[.string (mkB l), .string ⟨#[63]⟩] w fun e w' => e = .returned (.tuple #[.string (mkB (Lib.cut l [63]).1), .string (mkB (Lib.cut l [63]).2.1), .bool (Lib.cut l [63]).2.2]) ∧ Kept (fun _ => False) w w' :=
    h.mono fun e w' ⟨he, n, hw⟩ => ⟨he, by rw [hw]; exact Kept.drewN _ _ _⟩
  clear h
  generalize (Lib.cut l [63]).1 = a at *
  generalize (Lib.cut l [63]).2.1 = b at *
  generalize (Lib.cut l [63]).2.2 = c at *
  go_enter Tryz.func35, Tryz.ntmps35
  go_wp2_with (first | (go_at_call 72; refine h2.mono ?_; rintro e w1 ⟨rfl, K1⟩; clear h2) | fail)
  go_ret2
  exact ⟨rfl, K1⟩

set_option maxRecDepth 100000 in
set_option maxHeartbeats 2000000 in
theorem refIndex_any (w : World) (s sub : ByteArray) (h1 : 1 ≤ sub.size) (h2 : sub.size ≤ 1000) (hs : s.size ≤ 1000000000) :
    Calls Tryz.prog 44 #[.string s, .string sub] w fun e w' => e = .returned (.int .i64 (Lib.index s.data.toList sub.data.toList)) ∧ w' = w := by
  go_enter Tryz.func44, Tryz.ntmps44
  go_wp2
  go_loopw [5] (fun x wr => ∃ i : Nat, i ≤ s.size + 1 ∧ x = .int .i64 (i : Int) ∧ Lib.NoOcc s.data.toList sub.data.toList i ∧ wr = w) (fun x _ => s.size + 1 - (intOf x).toNat)
  case atStart => exact ⟨0, by omega, rfl, Lib.NoOcc.zero _ _, rfl⟩
  case round =>
    obtain ⟨i, hi, rfl, hno, rfl⟩ := hrel
    have HN := hid hno
    clear hno
    by_cases hin : i + sub.size ≤ s.size
    · have hp := Lib.occ_of_piece s sub i hin
      have hpi : ((i : Int) + (sub.size : Int)) ≤ (s.size : Int) := by omega
      cases ho : Lib.occAt s.data.toList sub.data.toList i with
      | true =>
        have HX : Hid (Lib.index s.data.toList sub.data.toList = i) := Lib.index_hit HN.out (by rw [← Lib.size_eq]; omega) ho
        rw [ho] at hp
        replace hp := hp.symm
        go_wp2
        go_ret
        rw [HX.out]
        exact ⟨rfl, rfl⟩
      | false =>
        have HX : Hid (Lib.NoOcc s.data.toList sub.data.toList (i + 1)) := HN.out.succ ho
        rw [ho] at hp
        replace hp := hp.symm
        go_wp2
        go_roundw
        case rel => exact ⟨i + 1, by omega, rfl, HX.out, trivial⟩
        case measure => simp [intOf]; omega
    · have hpi : ¬ ((i : Int) + (sub.size : Int)) ≤ (s.size : Int) := by omega
      have HX : Hid (Lib.index s.data.toList sub.data.toList = -1) := Lib.index_past (fun e => by have : sub.size = 0 := by rw [Lib.size_eq, e]; rfl
                                                                                                  omega) HN.out (by rw [← Lib.size_eq, ← Lib.size_eq]; omega)
      go_wp2
      go_ret
      rw [HX.out]
      exact ⟨rfl, rfl⟩

set_option maxRecDepth 100000 in
set_option maxHeartbeats 2000000 in
theorem refQuery_any (w : World) (l : List UInt8) (hl : l.length ≤ 1000000000) :
    Calls Tryz.prog 36 #[.string (mkB l)] w fun e w' => e = .returned (.tuple #[.string (mkB (Lib.cut l [63]).1), .string (mkB (Lib.cut l [63]).2.1)]) ∧ Kept (fun _ => False) w w' := by
  have hI := refIndex_any w (mkB l) ⟨#[63]⟩ (by decide) (by decide) (by rw [mkB_size]; omega)
  have hI2 : Calls Tryz.prog 44 #[.string (mkB l), .string ⟨#[63]⟩] w fun e w' => e = .returned (.int .i64 (Lib.index l [63])) ∧ w' = w := hI
  clear hI
  have hg := Lib.index_ge l [63]
  have hsz := mkB_size l
  by_cases h0 : 0 ≤ Lib.index l [63]
  · have hr : Lib.index l [63] + 1 ≤ (l.length : Int) := by
      have := Lib.index_room l [63] h0
      simpa using this
    have hc : Lib.cut l [63] = (l.take (Lib.index l [63]).toNat, l.drop ((Lib.index l [63]).toNat + 1), true) := by unfold Lib.cut; rw [if_pos h0]; rfl
    rw [hc]
    obtain ⟨k, hk⟩ : ∃ k : Nat, Lib.index l [63] = k := ⟨(Lib.index l [63]).toNat, by omega⟩
    rw [hk] at hI2 hr ⊢
    have hx1 : (mkB l).extract 0 k = mkB (l.take k) := Lib.extract_upto (mkB l) k
    have hx2 : (mkB l).extract (k + 1) (mkB l).size = mkB (l.drop (k + 1)) := Lib.extract_from (mkB l) (k + 1)
    have hkk : (k : Int) + 1 ≤ ((mkB l).size : Int) := by rw [mkB_size]; omega
    have HX1 := hid hx1
    have HX2 := hid hx2
    clear hx1 hx2
    show Calls _ _ _ _ fun e w' => e = .returned (.tuple #[.string (mkB (l.take k)), .string (mkB (l.drop (k + 1)))]) ∧ Kept (fun _ => False) w w'
    generalize mkB (l.take k) = z1 at *
    generalize mkB (l.drop (k + 1)) = z2 at *
    generalize mkB l = s at *
    go_enter Tryz.func36, Tryz.ntmps36
    go_wp2_with (first | (go_at_call 44; refine hI2.mono ?_; rintro e w1 ⟨rfl, hw1⟩; subst w1; clear hI2) | go_quiet (fail) | fail)
    go_ret2
    refine ⟨?_, Kept.drewN _ _ _⟩
    show Ending.returned (.tuple #[.string (s.extract 0 k), .string (s.extract (k + 1) l.length)]) = _
    rw [← hsz, HX1.out, HX2.out]
  · have hm : Lib.index l [63] = -1 := by omega
    have hc : Lib.cut l [63] = (l, [], false) := by unfold Lib.cut; rw [if_neg h0]
    rw [hc]
    rw [hm] at hI2
    go_enter Tryz.func36, Tryz.ntmps36
    go_wp2_with (first | (go_at_call 44; refine hI2.mono ?_; rintro e w1 ⟨rfl, hw1⟩; subst w1; clear hI2) | go_quiet (fail) | fail)
    go_ret2
    exact ⟨rfl, Kept.refl _ _⟩

end Go.Proofs.YtimipkhjcgmioaaGreatDoor
