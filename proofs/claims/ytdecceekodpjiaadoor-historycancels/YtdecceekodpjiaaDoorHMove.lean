/-
  moveOf: what an event does to a node, found in the table of moves.
-/
import Derived.Test.YtdecceekodpjiaaDoorHPure
namespace Go.Proofs.YtdecceekodpjiaaDoor
open Go.RowKit

def movesA : Array Value := #[.int .i64 2, .int .i64 1, .int .i64 0, .int .i64 1, .bool false, .int .i64 3, .int .i64 1, .int .i64 1, .int .i64 2, .bool false, .int .i64 5, .int .i64 1, .int .i64 2, .int .i64 1, .bool false, .int .i64 4, .int .i64 1, .int .i64 2, .int .i64 3, .bool true, .int .i64 6, .int .i64 0, .int .i64 2, .int .i64 4, .bool true, .int .i64 6, .int .i64 3, .int .i64 0, .int .i64 4, .bool true, .int .i64 7, .int .i64 2, .int .i64 0, .int .i64 2, .bool false, .int .i64 8, .int .i64 2, .int .i64 2, .int .i64 3, .bool false, .int .i64 9, .int .i64 3, .int .i64 0, .int .i64 2, .bool false, .int .i64 10, .int .i64 3, .int .i64 2, .int .i64 3, .bool true, .int .i64 11, .int .i64 4, .int .i64 0, .int .i64 2, .bool false, .int .i64 12, .int .i64 4, .int .i64 2, .int .i64 3, .bool true, .int .i64 12, .int .i64 4, .int .i64 0, .int .i64 3, .bool true, .int .i64 14, .int .i64 5, .int .i64 0, .int .i64 3, .bool false]

theorem movesA_is : movesA.toList = movesL.flatMap mvC := rfl

/-- The table of moves, as its initialiser lays it. -/
def MovesAt (w : World) : Prop := ∃ t fr, w.heap[0]? = some (.cells movesA t fr)

theorem MovesAt.kept {S : Nat → Prop} {w w' : World} (M : MovesAt w) (K : Kept S w w') (hS : ¬ S 0) : MovesAt w' := by
  obtain ⟨t, fr, h⟩ := M
  exact ⟨t, fr, (K.block 0 (Array.getElem?_eq_some_iff.1 h).1 hS).trans h⟩

theorem MovesAt.load {w : World} (M : MovesAt w) : (loadVar 123 ⟨0, 0, none⟩).run Tryd.prog w = .ok (.agg movesA) w := by
  obtain ⟨t, fr, h⟩ := M
  exact run_loadVar_row w 0 t 123 movesA fr _ h Tryd.underlying123 rfl (by kernel_rfl)

theorem moves_len : movesL.length = 14 := rfl

theorem moves_index (W : World) : ∀ (k : Nat) (hk : k < 14), (Instr.index 123 (.agg movesA) (.int .i64 (k : Int))).run Tryd.prog W = .ok (mvV (movesL[k]'hk)) W
  | 0, _ => by kernel_rfl
  | 1, _ => by kernel_rfl
  | 2, _ => by kernel_rfl
  | 3, _ => by kernel_rfl
  | 4, _ => by kernel_rfl
  | 5, _ => by kernel_rfl
  | 6, _ => by kernel_rfl
  | 7, _ => by kernel_rfl
  | 8, _ => by kernel_rfl
  | 9, _ => by kernel_rfl
  | 10, _ => by kernel_rfl
  | 11, _ => by kernel_rfl
  | 12, _ => by kernel_rfl
  | 13, _ => by kernel_rfl
  | k + 14, h => absurd h (by omega)

theorem moveP_found {e kd s : Int} {k : Nat} (hk : k < 14) (h : ∀ j (hj : j < k), (movesL[j]'(by rw [moves_len]; omega)).fits e kd s = false) (hf : (movesL[k]'hk).fits e kd s = true) : moveP e kd s = some (movesL[k]'hk) := by
  unfold moveP
  rw [List.find?_eq_some_iff_getElem]
  exact ⟨hf, k, hk, rfl, fun j hj => by simp [h j hj]⟩

theorem moveP_none {e kd s : Int} (h : ∀ j (hj : j < 14), (movesL[j]'hj).fits e kd s = false) : moveP e kd s = none := by
  unfold moveP
  rw [List.find?_eq_none]
  intro m hm
  obtain ⟨j, hj, rfl⟩ := List.mem_iff_getElem.1 hm
  simp [h j hj]

theorem five {w : World} {b : Nat} {T : TypeId} {u0 u1 u2 u3 u4 : Value} (h : w.heap[b]? = some (.cells #[u0, u1, u2, u3, u4] T (0, 0))) :
    (w.cell? ⟨b, 0, none⟩ = some u0 ∧ w.cell? ⟨b, 1, none⟩ = some u1 ∧ w.cell? ⟨b, 2, none⟩ = some u2 ∧ w.cell? ⟨b, 3, none⟩ = some u3 ∧ w.cell? ⟨b, 4, none⟩ = some u4) ∧
    w.frozen? ⟨b, 0, none⟩ = false ∧ w.frozen? ⟨b, 1, none⟩ = false ∧ w.frozen? ⟨b, 2, none⟩ = false ∧ w.frozen? ⟨b, 3, none⟩ = false ∧ w.frozen? ⟨b, 4, none⟩ = false := by
  simp [World.cell?, World.frozen?, h]

theorem put5 {w : World} {b : Nat} {T : TypeId} {u0 u1 u2 u3 u4 : Value} (h : w.heap[b]? = some (.cells #[u0, u1, u2, u3, u4] T (0, 0))) (v0 v1 v2 v3 v4 : Value) : (((((w.setCell ⟨b, 0, none⟩ v0).setCell ⟨b, 1, none⟩ v1).setCell ⟨b, 2, none⟩ v2).setCell ⟨b, 3, none⟩ v3).setCell ⟨b, 4, none⟩ v4).heap[b]? = some (.cells #[v0, v1, v2, v3, v4] T (0, 0)) := by
  simp [World.setCell, Array.getElem?_modify, h]

theorem kept5 {S : Nat → Prop} (w : World) {b : Nat} (hb : S b) (v0 v1 v2 v3 v4 : Value) : Kept S w (((((w.setCell ⟨b, 0, none⟩ v0).setCell ⟨b, 1, none⟩ v1).setCell ⟨b, 2, none⟩ v2).setCell ⟨b, 3, none⟩ v3).setCell ⟨b, 4, none⟩ v4) :=
  ((((Kept.setCell w _ _ hb).and (Kept.setCell _ _ _ hb)).and (Kept.setCell _ _ _ hb)).and (Kept.setCell _ _ _ hb)).and (Kept.setCell _ _ _ hb)

def zeroMv : Mv := ⟨0, 0, 0, 0, false⟩

set_option maxRecDepth 100000 in
set_option maxHeartbeats 4000000 in
theorem moveOf_any (w : World) (M : MovesAt w) (e kd s : Int) :
    Calls Tryd.prog 68 #[.int .i64 e, .int .i64 kd, .int .i64 s] w fun en w' => en = .returned (.tuple #[mvV ((moveP e kd s).getD zeroMv), .bool (moveP e kd s).isSome]) ∧ Kept (fun _ => False) w w' := by
  obtain ⟨tt, fr, hg⟩ := M.kept (Kept.alloc (fun _ => False) w (.cells #[.int .i64 0, .int .i64 0, .int .i64 0, .int .i64 0, .bool false] 116)) (fun h => h)
  clear M
  go_enter Tryd.func68, Tryd.ntmps68
  go_wp2_with (refine wpList_load_row rfl 123 _ rfl 0 rfl tt _ fr _ hg Tryd.underlying123 rfl (by kernel_rfl) ?_)
  generalize hA : movesA = A
  have hix : ∀ (W : World) (k : Nat) (hk : k < 14), (Instr.index 123 (.agg A) (.int .i64 (k : Int))).run Tryd.prog W = .ok (mvV (movesL[k]'hk)) W := fun W k hk => by rw [← hA]; exact moves_index W k hk
  clear hA hg
  go_loopw [11] (fun q wr => ∃ (k : Nat), k ≤ 14 ∧ q = .int .i64 k ∧ (∀ j (hj : j < k) (hj2 : j < 14), (movesL[j]'hj2).fits e kd s = false) ∧ Kept (fun _ => False) (w.alloc (.cells #[.int .i64 0, .int .i64 0, .int .i64 0, .int .i64 0, .bool false] 116)) wr) (fun q _ => 14 - (intOf q).toNat)
  case atStart => exact ⟨0, Nat.zero_le _, rfl, fun j hj => by omega, Kept.refl _ _⟩
  case round =>
    obtain ⟨k, hk, rfl, hno, K⟩ := hrel
    have Kw : Kept (fun _ => False) w wr := (Kept.alloc _ _ _).and K
    have hb : wr.heap[w.heap.size]? = some (.cells #[.int .i64 0, .int .i64 0, .int .i64 0, .int .i64 0, .bool false] 116 (0, 0)) := (K.block _ (by rw [World.size_alloc]; omega) (fun h => h)).trans (heap_alloc_new _ _)
    have HNo : Hid (∀ j (hj : j < k) (hj2 : j < 14), (movesL[j]'hj2).fits e kd s = false) := hno
    clear hno
    by_cases hlt : k < 14
    · have e0 : (k : Int) < 14 := by omega
      have hi := fun W => hix W k hlt
      clear hix
      have HF : Hid ((movesL[k]'hlt).fits e kd s = true → moveP e kd s = some (movesL[k]'hlt)) := fun h => moveP_found hlt (fun j hj => HNo.out j hj (by omega)) h
      have HG : Hid ((movesL[k]'hlt).fits e kd s = false → ∀ j (hj : j < k + 1) (hj2 : j < 14), (movesL[j]'hj2).fits e kd s = false) := fun h j hj hj2 => by
        by_cases hjk : j = k
        · subst hjk; exact h
        · exact HNo.out j (by omega) hj2
      generalize movesL[k]'hlt = m at *
      unfold Mv.fits at HF HG
      unfold mvV at hi
      cases b1 : (m.event == e) with
      | false =>
        have hn := HG.out (by rw [b1]; rfl)
        have HN2 : Hid (∀ j (hj : j < k + 1) (hj2 : j < 14), (movesL[j]'hj2).fits e kd s = false) := hn
        clear hn HF HG HNo
        go_wp2_with fail
        go_roundw
        case rel => exact ⟨k + 1, by omega, by go_num, HN2.out, K.and (Kept.alloc _ _ _)⟩
        case measure => simp [intOf]; omega
      | true =>
        cases b2 : (m.src == s) with
        | false =>
          have hn := HG.out (by rw [b1, b2]; rfl)
          have HN2 : Hid (∀ j (hj : j < k + 1) (hj2 : j < 14), (movesL[j]'hj2).fits e kd s = false) := hn
          clear hn HF HG HNo
          go_wp2_with fail
          go_roundw
          case rel => exact ⟨k + 1, by omega, by go_num, HN2.out, K.and (Kept.alloc _ _ _)⟩
          case measure => simp [intOf]; omega
        | true =>
          cases b3 : (m.kind == kd) with
          | true =>
            have hm := HF.out (by rw [b1, b2, b3]; rfl)
            have HM : Hid (moveP e kd s = some m) := hm
            clear hm HF HG HNo
            have hb2 : (wr.alloc (.cells #[.int .i64 m.event, .int .i64 m.kind, .int .i64 m.src, .int .i64 m.dst, .bool m.txt] 116)).heap[w.heap.size]? = some (.cells #[.int .i64 0, .int .i64 0, .int .i64 0, .int .i64 0, .bool false] 116 (0, 0)) := by rw [Below.heap_alloc _ _ _ (Array.getElem?_eq_some_iff.1 hb).1]; exact hb
            obtain ⟨⟨c0, c1, c2, c3, c4⟩, f0, f1, f2, f3, f4⟩ := five hb2
            go_wp2_with fail
            have b3 := put5 hb2 (.int .i64 m.event) (.int .i64 m.kind) (.int .i64 m.src) (.int .i64 m.dst) (.bool m.txt)
            obtain ⟨⟨g0, g1, g2, g3, g4⟩, _⟩ := five b3
            have KK := kept5 (S := fun j => j = w.heap.size) (wr.alloc (.cells #[.int .i64 m.event, .int .i64 m.kind, .int .i64 m.src, .int .i64 m.dst, .bool m.txt] 116)) rfl (.int .i64 m.event) (.int .i64 m.kind) (.int .i64 m.src) (.int .i64 m.dst) (.bool m.txt)
            refine bodyPost_ret (by simp [results, Tryd.results68, go_sem, g0, g1, g2, g3, g4]; try rfl) rfl ?_
            refine ⟨by rw [HM.out]; rfl, (Kw.and (Kept.alloc _ _ _)).trans KK (fun i h => .inr (by omega))⟩
          | false =>
            cases b4 : (m.kind == 0) with
            | true =>
              have hm := HF.out (by rw [b1, b2, b3, b4]; rfl)
              have HM : Hid (moveP e kd s = some m) := hm
              clear hm HF HG HNo
              have hb2 : (wr.alloc (.cells #[.int .i64 m.event, .int .i64 m.kind, .int .i64 m.src, .int .i64 m.dst, .bool m.txt] 116)).heap[w.heap.size]? = some (.cells #[.int .i64 0, .int .i64 0, .int .i64 0, .int .i64 0, .bool false] 116 (0, 0)) := by rw [Below.heap_alloc _ _ _ (Array.getElem?_eq_some_iff.1 hb).1]; exact hb
              obtain ⟨⟨c0, c1, c2, c3, c4⟩, f0, f1, f2, f3, f4⟩ := five hb2
              go_wp2_with fail
              have b3 := put5 hb2 (.int .i64 m.event) (.int .i64 m.kind) (.int .i64 m.src) (.int .i64 m.dst) (.bool m.txt)
              obtain ⟨⟨g0, g1, g2, g3, g4⟩, _⟩ := five b3
              have KK := kept5 (S := fun j => j = w.heap.size) (wr.alloc (.cells #[.int .i64 m.event, .int .i64 m.kind, .int .i64 m.src, .int .i64 m.dst, .bool m.txt] 116)) rfl (.int .i64 m.event) (.int .i64 m.kind) (.int .i64 m.src) (.int .i64 m.dst) (.bool m.txt)
              refine bodyPost_ret (by simp [results, Tryd.results68, go_sem, g0, g1, g2, g3, g4]; try rfl) rfl ?_
              refine ⟨by rw [HM.out]; rfl, (Kw.and (Kept.alloc _ _ _)).trans KK (fun i h => .inr (by omega))⟩
            | false =>
              have hn := HG.out (by rw [b1, b2, b3, b4]; rfl)
              have HN2 : Hid (∀ j (hj : j < k + 1) (hj2 : j < 14), (movesL[j]'hj2).fits e kd s = false) := hn
              clear hn HF HG HNo
              go_wp2_with fail
              go_roundw
              case rel => exact ⟨k + 1, by omega, by go_num, HN2.out, K.and (Kept.alloc _ _ _)⟩
              case measure => simp [intOf]; omega
    · have e0 : ¬ (k : Int) < 14 := by omega
      have hm : moveP e kd s = none := moveP_none (fun j hj => HNo.out j (by omega) hj)
      have HM : Hid (moveP e kd s = none) := hm
      clear hm HNo hix
      obtain ⟨⟨c0, c1, c2, c3, c4⟩, f0, f1, f2, f3, f4⟩ := five hb
      go_wp2_with fail
      have b3 := put5 hb (.int .i64 0) (.int .i64 0) (.int .i64 0) (.int .i64 0) (.bool false)
      obtain ⟨⟨g0, g1, g2, g3, g4⟩, _⟩ := five b3
      have KK := kept5 (S := fun j => j = w.heap.size) wr rfl (.int .i64 0) (.int .i64 0) (.int .i64 0) (.int .i64 0) (.bool false)
      refine bodyPost_ret (by simp [results, Tryd.results68, go_sem, g0, g1, g2, g3, g4]; try rfl) rfl ?_
      refine ⟨by rw [HM.out]; rfl, Kw.trans KK (fun i h => .inr (by omega))⟩

end Go.Proofs.YtdecceekodpjiaaDoor
