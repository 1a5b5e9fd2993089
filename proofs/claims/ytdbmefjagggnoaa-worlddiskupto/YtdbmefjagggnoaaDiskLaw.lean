/-
  The walk of WorldDisk.
-/
import Derived.Test.YtdbmefjagggnoaaDisk8
namespace Go.Proofs.Ytdbmefjagggnoaa
open Go.RowKit Go.Maps Go.ChangeMaps Go.MapKept

set_option maxRecDepth 100000 in
set_option maxHeartbeats 4000000 in
theorem disk_walk (a : Option Addr) (n c : Nat) (xs : List OX) (w : World) (O : OpsAt w a n c xs) :
    Calls Try.prog 3 #[.slice a n c] w fun e w' => e = .returned (.bool true) ∧ Below w.heap.size w w' := by
  have hlen := O.len
  have hcap := O.cap
  have HO : Hid (OpsAt w a n c xs) := O
  clear O
  go_enter Try.func3, Try.ntmps3
  go_wp2_with (first
    | (go_at_call 7; refine (newDisk_any w).mono ?_; rintro e w1 ⟨rfl, D1, K1, hz1⟩; have HD1 : Hid _ := D1; have HZ1 : Hid (w1.heap.size = w.heap.size + 3) := hz1; clear D1 hz1)
    | (go_at_call 8; refine (refNew_any w1).mono ?_; rintro e w2 ⟨rfl, R2, K2⟩; have HB : Hid (Both w2 w.heap.size (w.heap.size + 2) w1.heap.size 0) := Both.new HD1.out HZ1.out R2 K2; have bl : Below w.heap.size w w2 := (K1.and K2).none; clear R2)
    | fail)
  generalize w1.heap.size = r at *
  generalize w.heap.size + 2 = d at *
  go_loopw [5] (fun i wr => ∃ k : Nat, k ≤ n ∧ k ≤ 200 ∧ i = .int .i64 k ∧ Both wr w.heap.size d r k ∧ Below w.heap.size w wr) (fun i _ => n - (Go.RowKit.intOf i).toNat)
  case atStart => exact ⟨0, Nat.zero_le _, Nat.zero_le _, rfl, HB.out, bl⟩
  case round =>
    obtain ⟨k, hk, hk2, rfl, Bo, Bl⟩ := hrel
    have HBo : Hid (Both wr w.heap.size d r k) := Bo
    have hz : w.heap.size ≤ wr.heap.size := Bl.size
    clear Bo
    by_cases hgo : k < n ∧ k < 200
    · obtain ⟨hkn, hk3⟩ := hgo
      have hc1 : (k : Int) < (n : Int) := by omega
      have hc2 : (k : Int) < 200 := by omega
      obtain ⟨x, hx⟩ : ∃ x, xs[k]? = some x := ⟨xs[k], List.getElem?_eq_getElem (by omega)⟩
      have hok := (HO.out.ok x (List.mem_of_getElem? hx)).below Bl
      obtain ⟨b, off, rfl⟩ : ∃ b off, a = some ⟨b, off, none⟩ := by
        cases a with
        | none => have := HO.out.nil rfl; omega
        | some ad =>
          obtain ⟨hsp, _⟩ := HO.out.cells ad rfl (by omega)
          obtain ⟨b, off, sp⟩ := ad
          obtain rfl : sp = none := hsp
          exact ⟨b, off, rfl⟩
      have hce := (HO.out.cells _ rfl (by omega)).2 k x hx
      have hbl : b < w.heap.size := World.block_lt_of_cell? w _ hce.c0
      have hcb := hce.below hbl Bl
      have HOK : Hid _ := hok
      have HCB : Hid _ := hcb
      clear hok hcb hce hx
      go_wp2_with fail
      refine wp_onlyN (disk8 _ HBo.out (by omega) hz HOK.out HCB.out hbl hkn ?_)
      intro v20 v21 v22 v23 v24 v25 v26 v27 v28 v29 v30 v31 v32 v33 v34 v35 v36 v37 v38 v39 v40 v41 v42 v43 v44 v45 w9 J
      have HJ : Hid (Both w9 w.heap.size d r (k + 1) ∧ Below w.heap.size wr.drew w9) := J
      clear J
      go_wp2
      go_roundw
      case rel => exact ⟨k + 1, by omega, by omega, by go_num, HJ.out.1, (Bl.trans ((Kept.drew (fun _ => False) wr).below hz (fun _ h => h.elim))).trans HJ.out.2⟩
      case measure => simp [Go.RowKit.intOf]; omega
    · have hSm := both_same HBo.out (by omega)
      by_cases hkn : k < n
      · have hc1 : (k : Int) < (n : Int) := by omega
        have hc2 : ¬ (k : Int) < 200 := by omega
        go_wp2_with (first
          | (go_at_call 12; refine hSm.mono ?_; rintro e w6 ⟨rfl, K6⟩; clear hSm)
          | (go_at_call 13; refine (wakes_any _).mono ?_; rintro e w7 ⟨rfl, K7⟩)
          | fail)
        go_ret
        exact ⟨rfl, Bl.trans ((K6.and K7).below hz (fun _ h => h.elim))⟩
      · have hc1 : ¬ (k : Int) < (n : Int) := by omega
        go_wp2_with (first
          | (go_at_call 12; refine hSm.mono ?_; rintro e w6 ⟨rfl, K6⟩; clear hSm)
          | (go_at_call 13; refine (wakes_any _).mono ?_; rintro e w7 ⟨rfl, K7⟩)
          | fail)
        go_ret
        exact ⟨rfl, Bl.trans ((K6.and K7).below hz (fun _ h => h.elim))⟩

end Go.Proofs.Ytdbmefjagggnoaa
