/-
  slices.Delete of one parcel; the program's Drop, Take, Double.
-/
import Derived.Test.YthpamcfemhimcaaNetSend
namespace Go.Proofs.Ythpamcfemhimcaa
open Go.RowKit

def putL (cur : Array Value) : Nat → List Value → Array Value
  | _, [] => cur
  | o, v :: r => putL (cur.setIfInBounds o v) (o + 1) r

theorem putL_size : ∀ (l : List Value) (o : Nat) (cur : Array Value), (putL cur o l).size = cur.size
  | [], _, _ => rfl
  | v :: r, o, cur => by rw [putL, putL_size r]; simp

theorem putL_list : ∀ (l : List Value) (o : Nat) (cur : Array Value), o + l.length ≤ cur.size → (putL cur o l).toList = cur.toList.take o ++ l ++ cur.toList.drop (o + l.length)
  | [], o, cur, _ => by simp [putL]
  | v :: r, o, cur, h => by
    simp only [List.length_cons] at h
    rw [putL, putL_list r (o + 1) _ (by simp; omega), Array.toList_setIfInBounds]
    have ho : o < cur.toList.length := by simp; omega
    rw [List.take_set, List.take_succ_eq_append_getElem ho, List.set_append_right _ _ (by simp; omega)]
    have e1 : o - (cur.toList.take o).length = 0 := by simp; omega
    rw [e1, List.drop_set_of_lt (by omega)]
    simp [Nat.add_assoc, Nat.add_comm 1]

theorem heap_setCells {g : Nat} {e : TypeId} {fr : Nat × Nat} : ∀ (l : List Value) (o : Nat) (w : World) (cur : Array Value), w.heap[g]? = some (.cells cur e fr) → (w.setCells g o l).heap[g]? = some (.cells (putL cur o l) e fr)
  | [], _, _, _, h => h
  | v :: r, o, w, cur, h => heap_setCells r (o + 1) _ _ (by simp [World.setCell, Array.getElem?_modify, h])

theorem Kept.setCells {S : Nat → Prop} {g : Nat} (hg : S g) : ∀ (l : List Value) (o : Nat) (w : World), Kept S w (w.setCells g o l)
  | [], _, w => Kept.refl _ w
  | v :: r, o, w => (Kept.setCell w ⟨g, o, Option.none⟩ v hg).and (Kept.setCells hg r (o + 1) _)

theorem run_clear_three {P : Program} (w : World) (t e ty : TypeId) (z0 z1 z2 : Value) (ht : P.underlying t = some (.slice e)) (hv : ∀ w, (zeroValue e).run P w = .ok (.agg #[z0, z1, z2]) w) (hz : (Value.agg #[z0, z1, z2]).cells = #[z0, z1, z2]) (h1 : ∀ u ∈ [z0, z1, z2], u.oneCell' = true) (b o c : Nat)
    (hc : ∀ j, j < 3 → (w.cell? ⟨b, o + j, none⟩).isSome = true) (hf : ∀ j, j < 3 → w.frozen? ⟨b, o + j, none⟩ = false) :
    (Builtin.clear_ #[t] ty #[.slice (some ⟨b, o, none⟩) 1 c]).run P w = .ok (.tuple #[]) (w.setCells b o [z0, z1, z2]) := by
  have hzc : (Builtin.zeroCells (Value.agg #[z0, z1, z2]).cells 1).toList = [z0, z1, z2] := by
    rw [hz]
    simp [Builtin.zeroCells]
    apply List.ext_getElem
    · simp
    · intro i h1 h2
      simp at h1
      match i, h1 with
      | 0, _ => rfl
      | 1, _ => rfl
      | 2, _ => rfl
  have hst := run_storeCells_cells (P := P) b o [z0, z1, z2] 0 w (by simpa using hc) (by simpa using hf) h1
  simp only [Nat.add_zero] at hst
  simp [Builtin.clear_, run_underlying ht, hv, hzc, hst]

set_option maxRecDepth 100000 in
set_option maxHeartbeats 1000000 in
theorem del_any (w : World) (g cap i q : Nat) (ps : List PV) (hr : w.ownsRow 0 29 3 (.slice (some ⟨g, 0, none⟩) (q + 1) cap) (q + 1) (netCells ps)) (hl : ps.length = q + 1) (hi : i < q + 1) (hq : q ≤ 1000) (h1 : ∀ u ∈ netCells ps, u.oneCell' = true) :
    Calls Try.prog 30 #[.slice (some ⟨g, 0, none⟩) (q + 1) cap, .int .i64 (i : Int), .int .i64 ((i : Int) + 1)] w fun e w' =>
      e = .returned (.slice (some ⟨g, 0, none⟩) q cap) ∧ w'.ownsRow 0 29 3 (.slice (some ⟨g, 0, none⟩) q cap) q (netCells (ps.eraseIdx i)) ∧ Kept (fun k => k = g) w w' := by
  obtain ⟨i0, hi0, hz0, hz1, hz2⟩ := info_parts Try.info29w
  rcases hr.2 with ⟨e, _⟩ | ⟨g', cap', cur, e, _, hh, c1, c2, c3, c4⟩
  · cases e
  · simp only [Value.slice.injEq, Option.some.injEq, Addr.mk.injEq] at e
    obtain ⟨⟨rfl, _⟩, _, rfl⟩ := e
    unfold maxLen at c2
    have b1 : (i : Int) + 1 ≤ (q : Int) + 1 := by omega
    have b2 : (q : Int) + 1 ≤ (cap : Int) := by omega
    have b3 : (i : Int) ≤ (cap : Int) := by omega
    have b4 : i ≤ cap := by omega
    have b5 : i + 1 ≤ q + 1 := by omega
    have b6 : IntKind.i64.wrap ((i : Int) + 1) = (i : Int) + 1 := by rw [IntKind.wrap_i64]; omega
    obtain ⟨news, hnews⟩ : ∃ news, news = netCells (ps.drop (i + 1)) := ⟨_, rfl⟩
    have hnl : news.length = (q - i) * 3 := by rw [hnews, netCells_length, List.length_drop, hl]; omega
    have s2 : Hid (∀ u ∈ news, u.oneCell' = true) := by
      intro u hu
      rw [hnews, ← netCells_drop] at hu
      exact h1 u (List.mem_of_mem_drop hu)
    have hcell : ∀ k, k < (q + 1) * 3 → w.cell? ⟨g, k, none⟩ = (netCells ps)[k]? ∧ w.frozen? ⟨g, k, none⟩ = false := by
      intro k hk
      refine ⟨?_, by simp [World.frozen?, hh]⟩
      rw [← c4, List.getElem?_take, if_pos hk]
      simp [World.cell?, hh]
    have hsome : ∀ k, k < (q + 1) * 3 → (w.cell? ⟨g, k, none⟩).isSome = true := by
      intro k hk
      rw [(hcell k hk).1, List.getElem?_eq_getElem (by rw [netCells_length, hl]; exact hk)]
      rfl
    have hsrc : ∀ A : Addr, (A = ⟨g, (i + 1) * 3, none⟩ ∨ q = i) → Hid (∀ t u, news[t]? = some u → w.drew.cell? (A.add t) = some u) := by
      intro A hA t u hu
      have ht : t < (q - i) * 3 := by
        have := (List.getElem?_eq_some_iff.1 hu).1
        rwa [hnl] at this
      rcases hA with rfl | hA
      · rw [Addr.add_lit]
        show w.cell? _ = _
        rw [(hcell _ (by omega)).1, ← hu, hnews, ← netCells_drop, List.getElem?_drop]
      · omega
    have s3 : Hid (∀ t, t < news.length → (w.drew.cell? ⟨g, 0 + i * 3 + t, none⟩).isSome = true ∧ w.drew.frozen? ⟨g, 0 + i * 3 + t, none⟩ = false) := by
      intro t ht
      rw [hnl] at ht
      exact ⟨hsome _ (by omega), (hcell _ (by omega)).2⟩
    have s1 : Hid (news.length = (q - i) * 3) := hnl
    obtain ⟨W1, hW1⟩ : ∃ W1, W1 = w.drew.setCells g (0 + i * 3) news := ⟨_, rfl⟩
    have hh1 : W1.heap[g]? = some (.cells (putL cur (i * 3) news) 29 (0, 0)) := by
      rw [hW1, Nat.zero_add]
      exact heap_setCells _ _ _ _ hh
    have hK1 : Kept (fun k => k = g) w W1 := by rw [hW1]; exact (Kept.drew _ w).and (Kept.setCells (S := fun k => k = g) rfl _ _ _)
    have hc1 : ∀ j, j < 3 → (W1.cell? ⟨g, q * 3 + j, none⟩).isSome = true := fun j hj => by
      simp only [World.cell?, hh1]
      rw [Array.getElem?_eq_getElem (by rw [putL_size, c3]; omega)]
      rfl
    have hcl : ∀ ty, (Builtin.clear_ #[39] ty #[.slice (some ⟨g, q * 3, none⟩) 1 (cap - q)]).run Try.prog W1 = .ok (.tuple #[]) (W1.setCells g (q * 3) [.int .i64 0, .int .i64 0, .slice none 0 0]) :=
      fun ty => run_clear_three W1 _ 29 ty _ _ _ Try.underlying39 Try.zeroValue29 (by kernel_rfl) (by intro u hu; simp at hu; rcases hu with rfl | rfl | rfl <;> rfl) g (q * 3) (cap - q) hc1 (fun j _ => by simp [World.frozen?, hh1])
    have fin : Hid ((W1.setCells g (q * 3) [.int .i64 0, .int .i64 0, .slice none 0 0]).ownsRow 0 29 3 (.slice (some ⟨g, 0, none⟩) q cap) q (netCells (ps.eraseIdx i)) ∧ Kept (fun k => k = g) w (W1.setCells g (q * 3) [.int .i64 0, .int .i64 0, .slice none 0 0])) := by
      refine ⟨⟨by rw [netCells_length, List.length_eraseIdx_of_lt (by omega)]; omega, .inr ⟨g, cap, _, rfl, Nat.zero_le _, heap_setCells _ _ _ _ hh1, by omega, by unfold maxLen; omega, by rw [putL_size, putL_size, c3], ?_⟩⟩, hK1.and (Kept.setCells (S := fun k => k = g) rfl _ _ _)⟩
      rw [putL_list _ _ _ (by rw [putL_size, c3]; simp; omega), putL_list _ _ _ (by rw [c3, hnl]; omega)]
      have l1 : (List.take (i * 3) cur.toList).length = i * 3 := by rw [List.length_take, Array.length_toList, c3]; omega
      have l2 : (List.take (i * 3) cur.toList ++ news).length = q * 3 := by rw [List.length_append, l1, hnl]; omega
      rw [List.append_assoc (List.take (q * 3) _), List.take_append_of_le_length (by rw [List.length_take, List.length_append, l2]; omega), List.take_take, Nat.min_self, List.take_append_of_le_length (by rw [l2]; omega), List.take_of_length_le (by rw [l2]; omega)]
      have l3 : List.take (i * 3) cur.toList = netCells (ps.take i) := by
        rw [← netCells_take, ← c4, List.take_take, Nat.min_eq_left (by omega)]
      rw [l3, hnews, ← netCells_append, List.eraseIdx_eq_take_drop_succ]
    have hW : Hid (W1 = w.drew.setCells g (0 + i * 3) news) := hW1
    clear hW1 hh1 hK1 hc1 hcell hsome hnews hnl hr c4 h1
    by_cases hci : cap = i + 1
    · have hqi : q = i := by omega
      have hs := hsrc ⟨g, 0, none⟩ (.inr hqi)
      clear hsrc
      subst hqi
      subst hci
      have d1 : (q : Int) ≤ (q : Int) + 1 := by omega
      have d2 : (0 : Int) ≤ (q : Int) + 1 := by omega
      go_enter Try.func30, Try.ntmps30
      go_wp2_with fail
      go_region_law (refine step_append_room rfl (.tmp 22) (.tmp 25) 39 rfl 29 i0 3 Try.underlying39 hi0 hz1 g 0 q (q + 1) (by simp [Act.eval, Act.put]) ⟨g, 0, none⟩ 0 0 news (by simp [Act.eval, Act.put]) (by have := s1.out; omega) hs.out s2.out (by omega) s3.out ?_; rw [← hW.out])
      have hcl2 : ∀ ty, (Builtin.clear_ #[39] ty #[.slice (some ⟨g, q * 3, none⟩) 1 1]).run Try.prog W1 = .ok (.tuple #[]) (W1.setCells g (q * 3) [.int .i64 0, .int .i64 0, .slice none 0 0]) := fun ty => by
        have := hcl ty
        rwa [show q + 1 - q = 1 by omega] at this
      clear hcl
      go_wp2
      go_ret
      exact ⟨rfl, fin.out⟩
    · have hs := hsrc ⟨g, (i + 1) * 3, none⟩ (.inl rfl)
      have e3 : ¬ (cap : Int) = (i : Int) + 1 := by omega
      have d1 : (0 : Int) ≤ (i : Int) + 1 := by omega
      have d2 : (i : Int) ≤ (q : Int) + 1 := by omega
      have hiq : i + (q - i) = q := by omega
      have d3 : (q : Int) ≤ (q : Int) + 1 := by omega
      clear hsrc
      go_enter Try.func30, Try.ntmps30
      go_wp2_with fail
      go_region_law (refine step_append_room rfl (.tmp 22) (.tmp 25) 39 rfl 29 i0 3 Try.underlying39 hi0 hz1 g 0 i cap (by simp [Act.eval, Act.put]) ⟨g, (i + 1) * 3, none⟩ (q - i) (cap - (i + 1)) news (by simp [Act.eval, Act.put]) s1.out hs.out s2.out (by omega) s3.out ?_; rw [← hW.out, show i + (q - i) = q from hiq])
      go_wp2
      go_ret
      exact ⟨rfl, fin.out⟩

end Go.Proofs.Ythpamcfemhimcaa
