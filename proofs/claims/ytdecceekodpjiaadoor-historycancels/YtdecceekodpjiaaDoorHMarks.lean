/-
  The run's marks: which nodes are over, which have begun.
-/
import Derived.Test.YtdecceekodpjiaaDoorHSmall
namespace Go.Proofs.YtdecceekodpjiaaDoor
open Go.RowKit

def overL (l : List Ns) : List Bool := l.map (fun x => x.status == 3)

/-- Marks on their way: k of n are set. -/
structure MkSt (w0 wr : World) (g n k : Nat) (f : Nat → Bool) : Prop where
  row : wr.ownsRow w0.heap.size 4 1 (.slice (some ⟨g, 0, none⟩) n n) n ((List.range n).map (fun i => Value.bool (if i < k then f i else false)))
  keep : Kept (fun _ => False) w0 wr

theorem made_bools (n : Nat) : (madeCells (Value.bool false).cells (n * 1)).toList = (List.range n).map (fun _ => Value.bool false) := by
  unfold madeCells
  rw [Array.toList_map, Array.toList_range, Nat.mul_one]
  refine List.map_congr_left (fun i _ => ?_)
  show (#[Value.bool false] : Array Value)[i % 1]! = _
  rw [Nat.mod_one]
  rfl

theorem Tryd.info4 : (Tryd.prog.info? 4).map (fun i => (i.zero, i.size, i.bytes)) = some (some (.bool false), 1, 1) := by kernel_rfl

theorem make_marks (w : World) (n : Nat) (hn : n ≤ 1000000) (f : Nat → Bool) : ∃ w', (Instr.makeSlice 22 (.int .i64 (n : Int)) (.int .i64 (n : Int))).run Tryd.prog w = .ok (.slice (some ⟨w.heap.size, 0, none⟩) n n) w' ∧ MkSt w w' w.heap.size n 0 f := by
  obtain ⟨i, hi, hz, h3, h32⟩ := info_parts Tryd.info4
  obtain ⟨w', h1, h2, h4⟩ := run_makeSlice_full (P := Tryd.prog) w w.heap.size 22 4 i _ 1 (by kernel_rfl) hi hz h3 .i64 .i64 n (by omega) (by rw [h32]; omega) (by simp [maxLen]; omega) (Nat.le_refl _)
  rw [made_bools] at h2
  exact ⟨w', h1, by simpa using h2, Kept.grown h4 (fun _ h => nomatch h)⟩

theorem MkSt.set {w0 wr : World} {g n k : Nat} {f : Nat → Bool} (M : MkSt w0 wr g n k f) (hg : w0.heap.size ≤ g) (hk : k < n) : MkSt w0 (wr.setCell ⟨g, k, none⟩ (.bool (f k))) g n (k + 1) f := by
  refine ⟨?_, M.keep.trans (Kept.setCell (S := fun j => j = g) _ _ _ rfl) (fun j h => .inr (h ▸ hg))⟩
  have hp := ownsRow_put M.row k (.bool (f k))
  have he : (List.range n).map (fun i => Value.bool (if i < k + 1 then f i else false)) = ((List.range n).map (fun i => Value.bool (if i < k then f i else false))).set k (.bool (f k)) := ?_
  · rw [he]
    exact hp
  apply List.ext_getElem?
  intro j
  rw [List.getElem?_set]
  simp only [List.getElem?_map, List.length_map, List.length_range]
  by_cases hj : k = j
  · subst hj
    simp [hk]
  · rw [if_neg hj]
    by_cases hj2 : j < n
    · rw [List.getElem?_range hj2]
      simp only [Option.map_some]
      by_cases h3 : j < k
      · rw [if_pos h3, if_pos (by omega)]
      · rw [if_neg h3, if_neg (by omega)]
    · rw [List.getElem?_eq_none (by simpa using hj2)]
      rfl

theorem MkSt.new {w0 wr w1 : World} {g n k : Nat} {f : Nat → Bool} (M : MkSt w0 wr g n k f) (K : Kept (fun _ => False) wr w1) : MkSt w0 w1 g n k f :=
  ⟨ownsRow_keep M.row (fun q hq => K.block q (ownsRow_blk M.row hq) (fun h => h)), M.keep.and K⟩

theorem MkSt.at {w0 wr : World} {g n k : Nat} {f : Nat → Bool} (M : MkSt w0 wr g n k f) (hk : k < n) : wr.cell? ⟨g, k, none⟩ = some (.bool false) ∧ wr.frozen? ⟨g, k, none⟩ = false := by
  obtain ⟨g', c', hv, _, _, hr⟩ := row_at M.row (by omega)
  obtain ⟨rfl, _⟩ : g = g' ∧ n = c' := by simpa using hv
  exact hr k _ (by rw [List.getElem?_map, List.getElem?_range hk]; simp)

theorem MkSt.done {w0 wr : World} {g n : Nat} {f : Nat → Bool} (M : MkSt w0 wr g n n f) : CellsAt wr (some ⟨g, 0, none⟩) ((List.range n).map (fun i => Value.bool (f i))) := by
  have he : (List.range n).map (fun i => Value.bool (if i < n then f i else false)) = (List.range n).map (fun i => Value.bool (f i)) := List.map_congr_left (fun i hi => by rw [if_pos (List.mem_range.1 hi)])
  have hr := M.row
  rw [he] at hr
  by_cases h0 : n = 0
  · subst h0
    exact .inl rfl
  · obtain ⟨g', c', hv, _, _, hc⟩ := row_at hr (by omega)
    obtain ⟨rfl, _⟩ : g = g' ∧ n = c' := by simpa using hv
    exact .inr ⟨g, 0, rfl, fun j u hu => by rw [Nat.zero_add]; exact (hc j u hu).1⟩

set_option maxRecDepth 100000 in
set_option maxHeartbeats 4000000 in
theorem over_any (w : World) (H : Nat → Prop) (rb : Nat) (nm : ByteArray) (a : Option Addr) (n c : Nat) (r : Rn) (R : RAt w H rb nm a n c r) (h6 : r.st.nodes.length ≤ 1000000) :
    Calls Tryd.prog 48 #[.pointer (some ⟨rb, 0, none⟩)] w fun e w' => ∃ g, e = .returned (.slice (some ⟨g, 0, none⟩) r.st.nodes.length r.st.nodes.length) ∧ CellsAt w' (some ⟨g, 0, none⟩) ((overL r.st.nodes).map Value.bool) ∧ w.heap.size ≤ g ∧ Kept (fun _ => False) w w' := by
  obtain ⟨v6, v7, v12, v13, hb, hn6, _, _, _, htop⟩ := R.opened
  obtain ⟨_, _, _, _, _, _, _, _, c8, _⟩ := runCells hb
  obtain ⟨a6, c6, rfl⟩ := ownsRow_shape hn6
  obtain ⟨w2, hmk, M2⟩ := make_marks w r.st.nodes.length h6 (fun i => ((r.st.nodes.map (fun x => x.status))[i]?).getD 0 == 3)
  have c8' := keepC M2.keep c8 (fun _ _ h => h)
  have HM2 := hid M2
  clear M2
  go_enter Tryd.func48, Tryd.ntmps48
  go_wp2_with fail
  have hN6 := hid hn6
  have hz2 : w.heap.size ≤ w.heap.size := Nat.le_refl _
  clear hb c8 c8' hmk R
  go_loopw [19] (fun i wr => ∃ (k : Nat), k ≤ r.st.nodes.length ∧ i = .int .i64 k ∧ MkSt w wr w.heap.size r.st.nodes.length k (fun i => ((r.st.nodes.map (fun x => x.status))[i]?).getD 0 == 3)) (fun i _ => r.st.nodes.length - (intOf i).toNat)
  case atStart => exact ⟨0, Nat.zero_le _, rfl, HM2.out⟩
  case round =>
    obtain ⟨k, hk, rfl, M⟩ := hrel
    by_cases hlt : k < r.st.nodes.length
    · have e0 : (k : Int) < (r.st.nodes.length : Int) := by omega
      have hn7 := ownsRow_keep hN6.out (fun g hg => M.keep.block g (ownsRow_blk hN6.out hg) (fun h => h))
      obtain ⟨g6, cg, hv, _, _, hrow⟩ := row_at hn7 (by omega)
      obtain ⟨rfl, rfl⟩ : a6 = some ⟨g6, 0, none⟩ ∧ c6 = cg := by simpa using hv
      have q0 := (hrow _ _ (nsF_get hlt).1).1
      have q1 := (hrow _ _ (nsF_get hlt).2.1).1
      have q2 := (hrow _ _ (nsF_get hlt).2.2).1
      have hf : (((r.st.nodes.map (fun x => x.status))[k]?).getD 0 == 3) = ((r.st.nodes[k]).status == 3) := by rw [List.getElem?_map, List.getElem?_eq_getElem hlt]; rfl
      have M1 := M.new (Kept.alloc (fun _ => False) wr (.cells #[.int .i64 (r.st.nodes[k]).status, .int .i64 (r.st.nodes[k]).tr, .string (r.st.nodes[k]).text] 54))
      obtain ⟨m0, m1⟩ := M1.at hlt
      have M3 := M1.set (Nat.le_refl _) hlt
      rw [hf] at M3
      have HM3 := hid M3
      clear M M1 M3 hrow hn7 hf
      go_wp2_with fail
      go_roundw
      case rel => exact ⟨k + 1, by omega, by go_num, HM3.out⟩
      case measure => simp [intOf]; omega
    · obtain rfl : k = r.st.nodes.length := by omega
      have e0 : ¬ ((r.st.nodes.length : Int) < (r.st.nodes.length : Int)) := by omega
      have HM := hid M
      clear M
      go_wp2_with fail
      go_ret
      refine ⟨w.heap.size, rfl, ?_, Nat.le_refl _, HM.out.keep⟩
      have hd := HM.out.done
      have he : (List.range r.st.nodes.length).map (fun i => Value.bool (((r.st.nodes.map (fun x => x.status))[i]?).getD 0 == 3)) = (overL r.st.nodes).map Value.bool := List.ext_getElem (by simp [overL]) (fun i h1 h2 => by
        have hi : i < r.st.nodes.length := by simpa using h1
        simp [overL, hi])
      rw [he] at hd
      exact hd

def begunB (l : List Ns) (i : Nat) : Bool := match l[i]? with
  | none => true
  | some x => x.status != 0

def begunL (l : List Ns) (n : Nat) : List Bool := (List.range n).map (begunB l)

set_option maxRecDepth 100000 in
set_option maxHeartbeats 4000000 in
theorem begun_any (w : World) (H : Nat → Prop) (rb : Nat) (nm : ByteArray) (a : Option Addr) (n c : Nat) (r : Rn) (R : RAt w H rb nm a n c r) (hn : n ≤ 1000000) (h6 : r.st.nodes.length ≤ 1000000) :
    Calls Tryd.prog 49 #[.pointer (some ⟨rb, 0, none⟩)] w fun e w' => ∃ g, e = .returned (.slice (some ⟨g, 0, none⟩) n n) ∧ CellsAt w' (some ⟨g, 0, none⟩) ((begunL r.st.nodes n).map Value.bool) ∧ w.heap.size ≤ g ∧ Kept (fun _ => False) w w' := by
  obtain ⟨v6, v7, v12, v13, hb, hn6, _, _, _, htop⟩ := R.opened
  obtain ⟨_, c1, _, _, _, _, _, _, c8, _⟩ := runCells hb
  obtain ⟨a6, c6, rfl⟩ := ownsRow_shape hn6
  obtain ⟨w2, hmk, M2⟩ := make_marks w n hn (begunB r.st.nodes)
  have HM2 := hid M2
  have hN6 := hid hn6
  have HC8 := hid c8
  clear M2 R hb
  go_enter Tryd.func49, Tryd.ntmps49
  go_wp2_with fail
  clear c1 c8 hmk
  go_loopw [14] (fun i wr => ∃ (k : Nat), k ≤ n ∧ i = .int .i64 k ∧ MkSt w wr w.heap.size n k (begunB r.st.nodes)) (fun i _ => n - (intOf i).toNat)
  case atStart => exact ⟨0, Nat.zero_le _, rfl, HM2.out⟩
  case round =>
    obtain ⟨k, hk, rfl, M⟩ := hrel
    by_cases hlt : k < n
    · have e0 : (k : Int) < (n : Int) := by omega
      have c8 := keepC M.keep HC8.out (fun _ _ h => h)
      obtain ⟨m0, m1⟩ := M.at hlt
      have M3 := M.set (Nat.le_refl _) hlt
      by_cases hl6 : k < r.st.nodes.length
      · have e6 : ¬ ((r.st.nodes.length : Int) ≤ (k : Int)) := by omega
        have e7 : (k : Int) < (r.st.nodes.length : Int) := by omega
        have hn7 := ownsRow_keep hN6.out (fun g hg => M.keep.block g (ownsRow_blk hN6.out hg) (fun h => h))
        obtain ⟨g6, cg, hv, _, _, hrow⟩ := row_at hn7 (by omega)
        obtain ⟨rfl, rfl⟩ : a6 = some ⟨g6, 0, none⟩ ∧ c6 = cg := by simpa using hv
        have q0 := (hrow _ _ (nsF_get hl6).1).1
        have hf : begunB r.st.nodes k = ((r.st.nodes[k]).status != 0) := by unfold begunB; rw [List.getElem?_eq_getElem hl6]
        rw [hf] at M3
        have HM3 := hid M3
        clear M M3 hrow hn7 hf
        go_wp2_with (first | go_quiet (fail) | fail)
        go_roundw
        case rel => exact ⟨k + 1, by omega, by go_num, HM3.out⟩
        case measure => simp [intOf]; omega
      · have e6 : (r.st.nodes.length : Int) ≤ (k : Int) := by omega
        have hf : begunB r.st.nodes k = true := by unfold begunB; rw [List.getElem?_eq_none (by omega)]
        rw [hf] at M3
        have HM3 := hid M3
        clear M M3 hf
        go_wp2_with (first | go_quiet (fail) | fail)
        go_roundw
        case rel => exact ⟨k + 1, by omega, by go_num, HM3.out⟩
        case measure => simp [intOf]; omega
    · obtain rfl : k = n := by omega
      have e0 : ¬ ((k : Int) < (k : Int)) := by omega
      have HM := hid M
      clear M
      go_wp2_with fail
      go_ret
      refine ⟨w.heap.size, rfl, ?_, Nat.le_refl _, HM.out.keep⟩
      have hd := HM.out.done
      unfold begunL
      rw [List.map_map]
      exact hd

end Go.Proofs.YtdecceekodpjiaaDoor
