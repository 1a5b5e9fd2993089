/-
  The method Hosts: the hosts of a ring, in order, each once.
-/
import Derived.Test.YtjfgjmiedmpieaaDoorRKeep
import Derived.Test.YtjfgjmiedmpieaaDoorRLayS
namespace Go.Proofs.YtjfgjmiedmpieaaDoor
open Go.RowKit Go.Sort

/-- Two rows of spots in order that hold the same are the same. -/
theorem spots_eq {l l' : List Sp} (h : l.Pairwise noLater) (h' : l'.Pairwise noLater) (hp : l.Perm l') : l = l' :=
  List.Perm.eq_of_pairwise (fun _ _ _ _ h1 h2 => noLater_antisymm h1 h2) h h' hp

/-- A row of numbers that is written over. -/
theorem row_put {w : World} {base n cap g : Nat} {xs : List Value} (h : w.ownsRow base 3 1 (.slice (some ⟨g, 0, none⟩) n cap) n xs) (d : List Int) (hd : d.length = n) (q : Nat) (os : Array Obj) (k : Nat) (hk : k ≤ n) :
    (grow (putRow (Value.int .i64) (Sort.ahead w q) g 0 d.toArray) os).ownsRow base 3 1 (.slice (some ⟨g, 0, none⟩) k cap) k ((d.take k).map (Value.int .i64)) := by
  rcases h.2 with ⟨h0, _⟩ | ⟨g', cap', cur, hv, hb, hh, r1, r2, r3, _⟩
  · cases h0
  · simp only [Value.slice.injEq, Option.some.injEq, Addr.mk.injEq] at hv
    obtain ⟨⟨rfl, _⟩, _, rfl⟩ := hv
    have hg : g < w.heap.size := by
      rcases Nat.lt_or_ge g w.heap.size with h | h
      · exact h
      · rw [Array.getElem?_eq_none h] at hh; cases hh
    refine ⟨by rw [List.length_map, List.length_take]; omega, .inr ⟨g, cap, putCells (Value.int .i64) 0 d.toArray cur, rfl, hb, ?_, by omega, r2, by unfold putCells; simpa using r3, ?_⟩⟩
    · show ((w.heap.modify g (onCells (putCells (Value.int .i64) 0 d.toArray))) ++ os)[g]? = _
      rw [Array.getElem?_append_left (by simpa using hg), Array.getElem?_modify, if_pos rfl, hh]
      rfl
    · apply List.ext_getElem?
      intro i
      rw [Nat.mul_one, List.getElem?_take, List.getElem?_map, List.getElem?_take]
      by_cases hi : i < k
      · rw [if_pos hi, if_pos hi]
        have hic : i < cur.size := by omega
        have hid : i < d.length := by omega
        rw [Array.getElem?_toList]
        unfold putCells
        rw [Array.getElem?_mapIdx, Array.getElem?_eq_getElem hic, List.getElem?_eq_getElem hid]
        simp only [Option.map_some]
        rw [if_pos ⟨Nat.zero_le _, by simpa using hid⟩, Nat.sub_zero, getElem!_pos d.toArray i (by simpa using hid)]
        simp
      · rw [if_neg hi, if_neg hi]
        rfl

theorem holdsInts {w : World} {base n cap g : Nat} {l : List Int} (h : w.ownsRow base 3 1 (.slice (some ⟨g, 0, none⟩) n cap) n (l.map (Value.int .i64))) : Holds (Value.int .i64) w g 0 l.toArray := by
  intro j hj
  have hjl : j < l.length := by simpa using hj
  obtain ⟨c, f⟩ := ownsRow_get h (k := j) (u := .int .i64 (l[j]'hjl)) (by rw [List.getElem?_map, List.getElem?_eq_getElem hjl]; rfl)
  rw [Nat.zero_add, getElem!_pos l.toArray j hj]
  simpa using ⟨c, f⟩

theorem kept_put {w : World} {g q : Nat} {d : Array Int} {os : Array Obj} : Kept (fun i => i = g) w (grow (putRow (Value.int .i64) (Sort.ahead w q) g 0 d) os) := by
  refine ⟨rfl, rfl, rfl, ?_, fun i hi hn => ?_⟩
  · show w.heap.size ≤ ((w.heap.modify g _) ++ os).size
    simp
  · show ((w.heap.modify g _) ++ os)[i]? = _
    rw [Array.getElem?_append_left (by simpa using hi), Array.getElem?_modify, if_neg (fun e => hn e.symm)]

/-- The hosts of spots, sorted, each once. -/
def hostsL (l : List Sp) : List Int := Lib.compact ((l.map (·.2)).mergeSort fun x y => decide (x ≤ y))

theorem compact_le (l : List Int) : (Lib.compact l).length ≤ l.length := by
  unfold Lib.compact Lib.compactUpTo
  rw [List.length_map]
  refine Nat.le_trans (List.length_filter_le _ _) ?_
  rw [List.length_range]
  exact Nat.le_refl _

theorem sortInts_any (w : World) (base : Nat) (a : Option Addr) (n c : Nat) (zs : List Int) (ho : w.ownsRow base 3 1 (.slice a n c) n (zs.map (Value.int .i64))) (hn : n ≤ 1099511627776) :
    Calls Tryd.prog 27 #[.slice a n c] w fun e w' => e = .returned (.tuple #[]) ∧ w'.ownsRow base 3 1 (.slice a n c) n ((zs.mergeSort fun x y => decide (x ≤ y)).map (Value.int .i64)) ∧ Kept (fun k => base ≤ k) w w' := by
  have hlen : zs.length = n := by have := ho.1; simpa using this
  rcases ho.2 with ⟨e, h0⟩ | ⟨g, cap, cur, e, hb, hh, h1, _⟩
  · simp only [Value.slice.injEq] at e
    obtain ⟨rfl, rfl, rfl⟩ := e
    obtain rfl : zs = [] := List.eq_nil_of_length_eq_zero hlen
    refine (AnyM.slices_Sort_int_none Tryd.sortL none 0 w).mono ?_
    rintro e w1 ⟨rfl, rfl⟩
    exact ⟨rfl, by simpa using ho, Kept.refl _ _⟩
  · simp only [Value.slice.injEq] at e
    obtain ⟨rfl, _, rfl⟩ := e
    have hg : g < w.heap.size := (ho.lt g rfl).2
    have hcon := AnyM.slices_Sort_int Tryd.sortL g 0 c zs w (holdsInts ho) hg (by omega)
    rw [hlen] at hcon
    refine hcon.mono ?_
    rintro e w1 ⟨rfl, q, os, rfl⟩
    have hr := row_put ho (zs.mergeSort fun x y => decide (x ≤ y)) (by rw [List.length_mergeSort]; exact hlen) q os n (Nat.le_refl _)
    rw [List.take_of_length_le (by rw [List.length_mergeSort]; omega)] at hr
    exact ⟨rfl, hr, kept_put.mono (fun i e => by subst e; exact hb)⟩

theorem compactInts_any (w : World) (base : Nat) (a : Option Addr) (n c : Nat) (zs : List Int) (ho : w.ownsRow base 3 1 (.slice a n c) n (zs.map (Value.int .i64))) (hn : n ≤ 1099511627776) :
    Calls Tryd.prog 28 #[.slice a n c] w fun e w' => e = .returned (.slice a (Lib.compact zs).length c) ∧ w'.ownsRow base 3 1 (.slice a (Lib.compact zs).length c) (Lib.compact zs).length ((Lib.compact zs).map (Value.int .i64)) ∧ Kept (fun k => base ≤ k) w w' := by
  have hlen : zs.length = n := by have := ho.1; simpa using this
  rcases ho.2 with ⟨e, h0⟩ | ⟨g, cap, cur, e, hb, hh, h1, _⟩
  · simp only [Value.slice.injEq] at e
    obtain ⟨rfl, rfl, rfl⟩ := e
    obtain rfl : zs = [] := List.eq_nil_of_length_eq_zero hlen
    refine (Any.slices_Compact_int_empty Tryd.compactL none 0 w).mono ?_
    rintro e w1 ⟨rfl, rfl⟩
    exact ⟨rfl, ho, Kept.refl _ _⟩
  · simp only [Value.slice.injEq] at e
    obtain ⟨rfl, _, rfl⟩ := e
    have hcon := Any.slices_Compact_int Tryd.compactL g 0 c zs w (holdsInts ho) (by omega) (by omega)
    rw [hlen] at hcon
    refine hcon.mono ?_
    rintro e w1 ⟨rfl, q, rfl⟩
    have hle := compact_le zs
    have hr := row_put ho (Lib.compact zs ++ List.replicate (n - (Lib.compact zs).length) 0) (by rw [List.length_append, List.length_replicate]; omega) q #[] (Lib.compact zs).length (by omega)
    rw [List.take_left, grow_empty] at hr
    have hk := kept_put (w := w) (g := g) (q := q) (d := (Lib.compact zs ++ List.replicate (n - (Lib.compact zs).length) 0).toArray) (os := #[])
    rw [grow_empty] at hk
    exact ⟨rfl, hr, hk.mono (fun i e => by subst e; exact hb)⟩

theorem map_take_next (l : List Sp) (k : Nat) (hk : k < l.length) : (l.take (k + 1)).map (·.2) = (l.take k).map (·.2) ++ [(l[k]).2] := by
  rw [List.take_add_one, List.getElem?_eq_getElem hk, List.map_append]
  rfl

set_option maxRecDepth 100000 in
set_option maxHeartbeats 2000000 in
theorem hostsM_any (w : World) (rb : Nat) (l : List Sp) (R : RingAt w rb l) :
    Calls Tryd.prog 8 #[.pointer (some ⟨rb, 0, none⟩)] w fun e w' => ∃ a c, e = .returned (.slice a (hostsL l).length c) ∧ w'.ownsRow w.heap.size 3 1 (.slice a (hostsL l).length c) (hostsL l).length ((hostsL l).map (Value.int .i64)) ∧ Kept (fun _ => False) w w' := by
  obtain ⟨i0, hi, hz0, hz1, hz2⟩ := info_parts Tryd.info3
  obtain ⟨⟨a, c, h2, hA, _⟩, hsq, hfew⟩ := R
  have hst := fun (W : World) (a : Addr) (x y : Nat) (m : Mode) => run_store Tryd.prog W a (.complex .f64 x y) m rfl
  go_enter Tryd.func8, Tryd.ntmps8
  go_wp2
  go_loopw [3, 11] (fun v i wr => ∃ (k : Nat) (a1 : Option Addr) (c1 : Nat), k ≤ l.length ∧ i = .int .i64 k ∧ v = .slice a1 k c1 ∧ wr.ownsRow w.heap.size 3 1 (.slice a1 k c1) k (((l.take k).map (·.2)).map (Value.int .i64)) ∧ Kept (fun k => w.heap.size ≤ k) w wr) (fun _ i _ => l.length - (intOf i).toNat)
  case atStart => exact ⟨0, none, 0, Nat.zero_le _, rfl, rfl, World.ownsRow_nil _ _ _ _, Kept.refl _ _⟩
  case round =>
    obtain ⟨k, a1, c1, hk, rfl, rfl, ho, K⟩ := hrel
    have hb := K.size
    by_cases hlt : k < l.length
    · have e0 : (k : Int) < (l.length : Int) := by omega
      rcases hA with ⟨_, e⟩ | ⟨g, rfl, hg, hcells⟩
      · subst e; simp at hlt
      have hgb : wr.heap[g]? = w.heap[g]? := K.block g hg (by simpa using hg)
      have x1 := (World.cell?_of_block (a := ⟨g, k * 2, none⟩) hgb).trans (hcells k hlt).1
      have x2 := (World.cell?_of_block (a := ⟨g, k * 2 + 1, none⟩) hgb).trans (hcells k hlt).2
      have hnx := map_take_next l k hlt
      have HN : Hid (((l.take (k + 1)).map (·.2)).map (Value.int .i64) = ((l.take k).map (·.2)).map (Value.int .i64) ++ [.int .i64 (l[k]).2]) := by
        show _ = _
        rw [hnx, List.map_append]
        rfl
      unfold cx at x1
      generalize fl (l[k]).1.1 = p at *
      generalize fl (l[k]).1.2 = q at *
      generalize (l[k]).2 = y at *
      generalize ((l.take k).map (·.2)).map (Value.int .i64) = xs at *
      have hsrc : ((wr.alloc (.cells #[.complex .f64 p q, .int .i64 y] 59)).alloc (.cells #[.int .i64 y] 3)).heap[wr.heap.size + 1]? = some (.cells #[.int .i64 y] 3) := by
        have := heap_alloc_new (wr.alloc (.cells #[.complex .f64 p q, .int .i64 y] 59)) (.cells #[.int .i64 y] 3)
        rw [show (wr.alloc (.cells #[.complex .f64 p q, .int .i64 y] 59)).heap.size = wr.heap.size + 1 by simp] at this
        exact this
      have HS : Hid _ := hsrc
      clear hcells hnx hsrc
      go_wp2_with (first
        | (at_builtin; refine wpList_append_src _ rfl _ _ 22 rfl w.heap.size 3 i0 _ 1 8 Tryd.underlying22 hi hz0 hz1 hz2 rfl (by decide) (.slice a1 k c1) k _ rfl ((ho.alloc _).alloc _) _ rfl 1 [.int .i64 y] (.inl ⟨_, 1, rfl, rfl, World.news_of_block HS.out⟩) (by simp [Value.oneCell']) (by unfold maxLen; omega) (by omega) (by simp; omega) ?_; intro a3 cap3 w3 ho3 hg3 _ hl3)
        | fail)
      go_roundw
      case rel => exact ⟨k + 1, a3, cap3, by omega, by go_num, rfl, by rw [HN.out]; exact ho3, ((K.and (Kept.alloc _ _ _)).and (Kept.alloc _ _ _)).and (Kept.grown hg3 (fun k e => (ho.lt k e).1))⟩
      case measure => simp [intOf]; omega
    · have e0 : ¬ (k : Int) < (l.length : Int) := by omega
      obtain rfl : k = l.length := by omega
      rw [List.take_length] at ho
      have SO := sortInts_any wr _ _ _ _ _ ho (by omega)
      clear hst
      go_wp2_with (first
        | (go_at_call 27; refine SO.mono ?_; rintro e w1 ⟨rfl, ho1, K1⟩; have CO := compactInts_any w1 _ _ _ _ _ ho1 (by omega); clear SO)
        | (go_at_call 28; refine CO.mono ?_; rintro e w2 ⟨rfl, ho2, K2⟩; clear CO)
        | fail)
      go_ret
      exact ⟨a1, c1, rfl, ho2, (Kept.refl (fun _ => False) w).trans ((K.and K1).and K2) (fun _ h => .inr h)⟩

end Go.Proofs.YtjfgjmiedmpieaaDoor
