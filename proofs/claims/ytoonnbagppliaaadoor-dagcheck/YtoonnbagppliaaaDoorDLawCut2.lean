/-
  The law's cut: its walk.
-/
import Derived.Test.YtoonnbagppliaaaDoorDLawCut
namespace Go.Proofs.YtoonnbagppliaaaDoor
open Go.RowKit

theorem heap_alloc_new2 (w : World) (o o' : Obj) : ((w.alloc o).alloc o').heap[w.heap.size + 1]? = some o' := by
  have h := heap_alloc_new (w.alloc o) o'
  rw [World.size_alloc] at h
  exact h

theorem cut_short {w : World} {v : Value} {n : Nd} (T : TextsAt w v n.after) (h : n.after.length ≤ 10) : TextsAt w v (cutN n).after := by
  have hq : (cutN n).after = n.after := List.take_of_length_le h
  rw [hq]
  exact T

set_option maxRecDepth 100000 in
set_option maxHeartbeats 4000000 in
theorem cutA_any (w : World) (name : ByteArray) (a : Option Addr) (n c : Nat) (ms : List Nd) (R : RawAt w a ms) (hn : ms.length = n) (hc : n ≤ c) (h40 : n ≤ 40) :
    Calls Tryd.prog 4 #[.agg #[.string name, .slice a n c]] w fun e w' => ∃ a' c', e = .returned (.agg #[.string name, .slice a' n c']) ∧ NodesAt w' a' (ms.map cutN) ∧ n ≤ c' ∧ Kept (fun _ => False) w w' := by
  obtain ⟨i0, hi0, hz0, hz1, hz2⟩ := info_parts Tryd.info34
  have HR : Hid (RawAt w a ms) := R
  have HN : Hid (ms.length = n) := hn
  have HS : Hid (CutJ w ((w.alloc (.cells #[.string name, .slice a n c] 25)).alloc (.cells #[.string ⟨#[]⟩, .slice none 0 0] 25)) name a c ms 0 none 0 []) := by
    show CutJ _ _ _ _ _ _ _ _ _ _
    have h1 := heap_alloc_new (w.alloc (.cells #[.string name, .slice a n c] 25)) (.cells #[.string ⟨#[]⟩, .slice none 0 0] 25)
    rw [World.size_alloc] at h1
    exact ⟨Nat.zero_le _, World.ownsRow_nil _ _ _ _, rfl, fun j _ h => by simp at h, (Kept.alloc _ _ _).and (Kept.alloc _ _ _), by rw [Below.heap_alloc _ _ _ (by simp), heap_alloc_new, hn], h1⟩
  clear R hn
  have e40 : ¬ (40 : Int) < (n : Int) := by omega
  go_enter Tryd.func4, Tryd.ntmps4
  go_wp2
  go_loopw [3, 4] (fun l i wr => ∃ (k : Nat) (a' : Option Addr) (c' : Nat) (vs : List Value), i = .int .i64 k ∧ l = .slice a' k c' ∧ Hid (CutJ w wr name a c ms k a' c' vs)) (fun _ i _ => n - (intOf i).toNat)
  case atStart => exact ⟨0, none, 0, [], rfl, rfl, HS⟩
  case round =>
    obtain ⟨k, a', c', vs, rfl, rfl, J⟩ := hrel
    obtain ⟨⟨y0, y1⟩, f0, f1⟩ := twoC J.out.b0
    rw [HN.out] at y1
    have hkn : k ≤ n := by have := J.out.le; rw [HN.out] at this; exact this
    by_cases hlt : k < n
    · have e1 : (k : Int) < (n : Int) := by omega
      have hk : k < ms.length := by rw [HN.out]; exact hlt
      obtain ⟨b, o, av, cv, ea, T, x0, x1, x2, x3, x4, x5, x6⟩ := HR.out.at hk
      subst ea
      have HT : Hid (TextsAt w (.slice av (ms[k]).after.length cv) (ms[k]).after) := T
      have hcv : (ms[k]).after.length ≤ cv := by obtain ⟨_, _, e, h, _⟩ := T; simp only [Value.slice.injEq] at e; omega
      have G := J.out.kept
      replace x0 := keepC G x0 (fun _ _ h => h)
      replace x1 := keepC G x1 (fun _ _ h => h)
      replace x2 := keepC G x2 (fun _ _ h => h)
      replace x3 := keepC G x3 (fun _ _ h => h)
      replace x4 := keepC G x4 (fun _ _ h => h)
      replace x5 := keepC G x5 (fun _ _ h => h)
      replace x6 := keepC G x6 (fun _ _ h => h)
      have hsz : w.heap.size + 2 ≤ wr.heap.size := by have := (Array.getElem?_eq_some_iff.1 J.out.b1).1; omega
      clear T G
      have hpush := fun (v : Value) (T : TextsAt w v (cutN ms[k]).after) (wq w3 : World) (a3 : Option Addr) (c3 : Nat) (hq : Kept (fun _ => False) wr wq) => J.out.push (a3 := a3) (c3 := c3) (w3 := w3) hk T hq
      have HP : Hid _ := hpush
      clear hpush
      generalize ms[k] = nd at *
      by_cases h10 : 10 < nd.after.length
      · have e2 : (10 : Int) < (nd.after.length : Int) := by omega
        go_wp2_with (first
          | (at_builtin; refine wpList_append_src _ rfl _ _ 23 rfl (w.heap.size + 2) 34 i0 _ 7 96 Tryd.underlying23 hi0 hz0 hz1 hz2 rfl (by decide) (.slice a' k c') k _ rfl ((J.out.row.alloc _).alloc _) _ rfl 1 _ (.inl ⟨_, 1, rfl, rfl, World.news_of_block (heap_alloc_new2 _ _ _)⟩) (ndC_one (cutN nd) av 10 cv) (by unfold maxLen; omega) (by omega) (by simp; omega) ?_; intro a3 cap3 w3 ho3 hg3 _ hl3)
          | fail)
        go_roundw
        case rel => exact ⟨k + 1, a3, cap3, _, by go_num, rfl, HP.out _ (HT.out.take (by omega)) _ w3 a3 cap3 ((Kept.alloc _ _ _).and (Kept.alloc _ _ _)) ho3 hg3⟩
        case measure => simp [intOf]; omega
      · have e2 : ¬ (10 : Int) < (nd.after.length : Int) := by omega
        go_wp2_with (first
          | (at_builtin; refine wpList_append_src _ rfl _ _ 23 rfl (w.heap.size + 2) 34 i0 _ 7 96 Tryd.underlying23 hi0 hz0 hz1 hz2 rfl (by decide) (.slice a' k c') k _ rfl ((J.out.row.alloc _).alloc _) _ rfl 1 _ (.inl ⟨_, 1, rfl, rfl, World.news_of_block (heap_alloc_new2 _ _ _)⟩) (ndC_one (cutN nd) av nd.after.length cv) (by unfold maxLen; omega) (by omega) (by simp; omega) ?_; intro a3 cap3 w3 ho3 hg3 _ hl3)
          | fail)
        go_roundw
        case rel => exact ⟨k + 1, a3, cap3, _, by go_num, rfl, HP.out _ (cut_short HT.out (by omega)) _ w3 a3 cap3 ((Kept.alloc _ _ _).and (Kept.alloc _ _ _)) ho3 hg3⟩
        case measure => simp [intOf]; omega
    · obtain rfl : k = n := by omega
      have e1 : ¬ (k : Int) < (k : Int) := by omega
      obtain ⟨⟨r0, r1⟩, s0, s1⟩ := twoC J.out.b1
      have hbB := (Array.getElem?_eq_some_iff.1 J.out.b1).1
      have HJ := J
      clear hlt
      go_wp2
      have k1 : Kept (fun j => j = w.heap.size) wr (wr.setCell ⟨w.heap.size, 1, none⟩ (.slice a' k c')) := Kept.setCell _ _ _ rfl
      have b2 := put2 ((k1.block (w.heap.size + 1) hbB (by omega)).trans HJ.out.b1) (.string name) (.slice a' k c')
      have kk : Kept (fun j => j = w.heap.size ∨ j = w.heap.size + 1) wr (((wr.setCell ⟨w.heap.size, 1, none⟩ (.slice a' k c')).setCell ⟨w.heap.size + 1, 0, none⟩ (.string name)).setCell ⟨w.heap.size + 1, 1, none⟩ (.slice a' k c')) := ((k1.mono (fun _ h => .inl h)).and (Kept.setCell _ _ _ (.inr rfl))).and (Kept.setCell _ _ _ (.inr rfl))
      generalize (((wr.setCell ⟨w.heap.size, 1, none⟩ (.slice a' k c')).setCell ⟨w.heap.size + 1, 0, none⟩ (.string name)).setCell ⟨w.heap.size + 1, 1, none⟩ (.slice a' k c')) = V at *
      obtain ⟨⟨g0, g1⟩, _, _⟩ := twoC b2
      refine bodyPost_ret (by simp [results, Tryd.results4, go_sem, g0, g1]; try rfl) rfl ?_
      have KW : Kept (fun _ => False) w V := HJ.out.kept.trans kk (fun i h => .inr (by omega))
      obtain ⟨q1, q2⟩ := HJ.out.nodes HR.out HN.out.symm (kk.mono (fun j h => by omega)) KW
      exact ⟨a', c', rfl, q1, q2, KW⟩

theorem RawAt.take {w : World} {a : Option Addr} {ns : List Nd} (R : RawAt w a ns) (m : Nat) : RawAt w a (ns.take m) := by
  refine ⟨fun n h => R.1 n (List.mem_of_mem_take h), ?_⟩
  rcases R.2 with h | ⟨b, o, h, hc⟩
  · left; rw [h]; simp
  · refine .inr ⟨b, o, h, fun i hi => ?_⟩
    have hi2 : i < ns.length := by rw [List.length_take] at hi; omega
    have := hc i hi2
    rw [List.getElem_take]
    exact this

set_option maxRecDepth 100000 in
set_option maxHeartbeats 4000000 in
theorem cutB_any (w : World) (name : ByteArray) (a : Option Addr) (n c : Nat) (ns : List Nd) (R0 : RawAt w a ns) (hn0 : ns.length = n) (hc : n ≤ c) (h40 : 40 < n) :
    Calls Tryd.prog 4 #[.agg #[.string name, .slice a n c]] w fun e w' => ∃ a' c', e = .returned (.agg #[.string name, .slice a' 40 c']) ∧ NodesAt w' a' ((ns.take 40).map cutN) ∧ 40 ≤ c' ∧ Kept (fun _ => False) w w' := by
  obtain ⟨i0, hi0, hz0, hz1, hz2⟩ := info_parts Tryd.info34
  have R := R0.take 40
  have hn : (ns.take 40).length = 40 := by rw [List.length_take]; omega
  generalize ns.take 40 = ms at *
  have HR : Hid (RawAt w a ms) := R
  have HN : Hid (ms.length = 40) := hn
  have e40 : (40 : Int) < (n : Int) := by omega
  have HS : Hid (CutJ w ((w.alloc (.cells #[.string name, .slice a 40 c] 25)).alloc (.cells #[.string ⟨#[]⟩, .slice none 0 0] 25)) name a c ms 0 none 0 []) := by
    show CutJ _ _ _ _ _ _ _ _ _ _
    exact ⟨Nat.zero_le _, World.ownsRow_nil _ _ _ _, rfl, fun j _ h => by simp at h, (Kept.alloc _ _ _).and (Kept.alloc _ _ _), by rw [Below.heap_alloc _ _ _ (by simp), heap_alloc_new, hn], heap_alloc_new2 _ _ _⟩
  clear R hn R0 hn0
  go_enter Tryd.func4, Tryd.ntmps4
  go_wp2
  go_loopw [3, 4] (fun l i wr => ∃ (k : Nat) (a' : Option Addr) (c' : Nat) (vs : List Value), i = .int .i64 k ∧ l = .slice a' k c' ∧ Hid (CutJ w wr name a c ms k a' c' vs)) (fun _ i _ => 40 - (intOf i).toNat)
  case atStart => exact ⟨0, none, 0, [], rfl, rfl, HS⟩
  case round =>
    obtain ⟨k, a', c', vs, rfl, rfl, J⟩ := hrel
    obtain ⟨⟨y0, y1⟩, f0, f1⟩ := twoC J.out.b0
    rw [HN.out] at y1
    have hkn : k ≤ 40 := by have := J.out.le; rw [HN.out] at this; exact this
    by_cases hlt : k < 40
    · have e1 : (k : Int) < (40 : Int) := by omega
      have hk : k < ms.length := by rw [HN.out]; exact hlt
      obtain ⟨b, o, av, cv, ea, T, x0, x1, x2, x3, x4, x5, x6⟩ := HR.out.at hk
      subst ea
      have HT : Hid (TextsAt w (.slice av (ms[k]).after.length cv) (ms[k]).after) := T
      have hcv : (ms[k]).after.length ≤ cv := by obtain ⟨_, _, e, h, _⟩ := T; simp only [Value.slice.injEq] at e; omega
      have G := J.out.kept
      replace x0 := keepC G x0 (fun _ _ h => h)
      replace x1 := keepC G x1 (fun _ _ h => h)
      replace x2 := keepC G x2 (fun _ _ h => h)
      replace x3 := keepC G x3 (fun _ _ h => h)
      replace x4 := keepC G x4 (fun _ _ h => h)
      replace x5 := keepC G x5 (fun _ _ h => h)
      replace x6 := keepC G x6 (fun _ _ h => h)
      have hsz : w.heap.size + 2 ≤ wr.heap.size := by have := (Array.getElem?_eq_some_iff.1 J.out.b1).1; omega
      clear T G
      have hpush := fun (v : Value) (T : TextsAt w v (cutN ms[k]).after) (wq w3 : World) (a3 : Option Addr) (c3 : Nat) (hq : Kept (fun _ => False) wr wq) => J.out.push (a3 := a3) (c3 := c3) (w3 := w3) hk T hq
      have HP : Hid _ := hpush
      clear hpush
      generalize ms[k] = nd at *
      by_cases h10 : 10 < nd.after.length
      · have e2 : (10 : Int) < (nd.after.length : Int) := by omega
        go_wp2_with (first
          | (at_builtin; refine wpList_append_src _ rfl _ _ 23 rfl (w.heap.size + 2) 34 i0 _ 7 96 Tryd.underlying23 hi0 hz0 hz1 hz2 rfl (by decide) (.slice a' k c') k _ rfl ((J.out.row.alloc _).alloc _) _ rfl 1 _ (.inl ⟨_, 1, rfl, rfl, World.news_of_block (heap_alloc_new2 _ _ _)⟩) (ndC_one (cutN nd) av 10 cv) (by unfold maxLen; omega) (by omega) (by simp; omega) ?_; intro a3 cap3 w3 ho3 hg3 _ hl3)
          | fail)
        go_roundw
        case rel => exact ⟨k + 1, a3, cap3, _, by go_num, rfl, HP.out _ (HT.out.take (by omega)) _ w3 a3 cap3 ((Kept.alloc _ _ _).and (Kept.alloc _ _ _)) ho3 hg3⟩
        case measure => simp [intOf]; omega
      · have e2 : ¬ (10 : Int) < (nd.after.length : Int) := by omega
        go_wp2_with (first
          | (at_builtin; refine wpList_append_src _ rfl _ _ 23 rfl (w.heap.size + 2) 34 i0 _ 7 96 Tryd.underlying23 hi0 hz0 hz1 hz2 rfl (by decide) (.slice a' k c') k _ rfl ((J.out.row.alloc _).alloc _) _ rfl 1 _ (.inl ⟨_, 1, rfl, rfl, World.news_of_block (heap_alloc_new2 _ _ _)⟩) (ndC_one (cutN nd) av nd.after.length cv) (by unfold maxLen; omega) (by omega) (by simp; omega) ?_; intro a3 cap3 w3 ho3 hg3 _ hl3)
          | fail)
        go_roundw
        case rel => exact ⟨k + 1, a3, cap3, _, by go_num, rfl, HP.out _ (cut_short HT.out (by omega)) _ w3 a3 cap3 ((Kept.alloc _ _ _).and (Kept.alloc _ _ _)) ho3 hg3⟩
        case measure => simp [intOf]; omega
    · obtain rfl : k = 40 := by omega
      have e1 : ¬ (40 : Int) < (40 : Int) := by omega
      obtain ⟨⟨r0, r1⟩, s0, s1⟩ := twoC J.out.b1
      have hbB := (Array.getElem?_eq_some_iff.1 J.out.b1).1
      have HJ := J
      clear hlt
      go_wp2
      have k1 : Kept (fun j => j = w.heap.size) wr (wr.setCell ⟨w.heap.size, 1, none⟩ (.slice a' 40 c')) := Kept.setCell _ _ _ rfl
      have b2 := put2 ((k1.block (w.heap.size + 1) hbB (by omega)).trans HJ.out.b1) (.string name) (.slice a' 40 c')
      have kk : Kept (fun j => j = w.heap.size ∨ j = w.heap.size + 1) wr (((wr.setCell ⟨w.heap.size, 1, none⟩ (.slice a' 40 c')).setCell ⟨w.heap.size + 1, 0, none⟩ (.string name)).setCell ⟨w.heap.size + 1, 1, none⟩ (.slice a' 40 c')) := ((k1.mono (fun _ h => .inl h)).and (Kept.setCell _ _ _ (.inr rfl))).and (Kept.setCell _ _ _ (.inr rfl))
      generalize (((wr.setCell ⟨w.heap.size, 1, none⟩ (.slice a' 40 c')).setCell ⟨w.heap.size + 1, 0, none⟩ (.string name)).setCell ⟨w.heap.size + 1, 1, none⟩ (.slice a' 40 c')) = V at *
      obtain ⟨⟨g0, g1⟩, _, _⟩ := twoC b2
      refine bodyPost_ret (by simp [results, Tryd.results4, go_sem, g0, g1]; try rfl) rfl ?_
      have KW : Kept (fun _ => False) w V := HJ.out.kept.trans kk (fun i h => .inr (by omega))
      obtain ⟨q1, q2⟩ := HJ.out.nodes HR.out HN.out.symm (kk.mono (fun j h => by omega)) KW
      exact ⟨a', c', rfl, q1, q2, KW⟩

/-- cut, for every definition. -/
theorem lawCut_any (w : World) (name : ByteArray) (a : Option Addr) (n c : Nat) (ns : List Nd) (R : RawAt w a ns) (hn : ns.length = n) (hc : n ≤ c) :
    Calls Tryd.prog 4 #[.agg #[.string name, .slice a n c]] w fun e w' => ∃ a' c', e = .returned (.agg #[.string name, .slice a' (cutNs ns).length c']) ∧ NodesAt w' a' (cutNs ns) ∧ (cutNs ns).length ≤ c' ∧ Kept (fun _ => False) w w' := by
  unfold cutNs
  by_cases h : n ≤ 40
  · have e : ns.take 40 = ns := List.take_of_length_le (by omega)
    rw [e, List.length_map, hn]
    exact cutA_any w name a n c ns R hn hc h
  · have e : (ns.take 40).length = 40 := by rw [List.length_take]; omega
    rw [List.length_map, e]
    exact cutB_any w name a n c ns R hn hc (by omega)

end Go.Proofs.YtoonnbagppliaaaDoor
