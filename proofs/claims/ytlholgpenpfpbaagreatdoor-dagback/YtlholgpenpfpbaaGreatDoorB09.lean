/-
  The law's cut: its walk.
-/
import Derived.Test.YtlholgpenpfpbaaGreatDoorB08
import Derived.Test.YtlholgpenpfpbaaGreatDoorB05
import Derived.Test.YtlholgpenpfpbaaGreatDoorB07
import Derived.Lib.MapLaws
import Derived.Lib.IndexLaws
import Derived.Lib.ItoaNum
import Derived.Lib.Join
namespace Go.Proofs.YtlholgpenpfpbaaGreatDoor
open Go.RowKit

theorem heap_alloc_new2 (w : World) (o o' : Obj) : ((w.alloc o).alloc o').heap[w.heap.size + 1]? = some o' := by
  have h := heap_alloc_new (w.alloc o) o'
  rw [World.size_alloc] at h
  exact h

theorem cut_short {w : World} {v : Value} {n : Nd} (T : TextsAt w v n.after) (h : n.after.length ≤ 10) : TextsAt w v (cutN n).after := by
  have hq : (cutN n).after = n.after := List.take_of_length_le h
  rw [hq]
  exact T

set_option maxRecDepth 100000 in
set_option maxHeartbeats 4000000 in
theorem cutA_any (w : World) (name : ByteArray) (a : Option Addr) (n c : Nat) (ms : List Nd) (R : RawAt w a ms) (hn : ms.length = n) (hc : n ≤ c) (h40 : n ≤ 40) :
    Calls Tryz.prog 4 #[.agg #[.string name, .slice a n c]] w fun e w' => ∃ a' c', e = .returned (.agg #[.string name, .slice a' n c']) ∧ NodesAt w' a' (ms.map cutN) ∧ n ≤ c' ∧ Kept (fun _ => False) w w' := by
  obtain ⟨i0, hi0, hz0, hz1, hz2⟩ := info_parts Tryz.info35
  have HR : Hid (RawAt w a ms) := R
  have HN : Hid (ms.length = n) := hn
  have HS : Hid (CutJ w ((w.alloc (.cells #[.string name, .slice a n c] 24)).alloc (.cells #[.string ⟨#[]⟩, .slice none 0 0] 24)) name a c ms 0 none 0 []) := by
    show CutJ _ _ _ _ _ _ _ _ _ _
    have h1 := heap_alloc_new (w.alloc (.cells #[.string name, .slice a n c] 24)) (.cells #[.string ⟨#[]⟩, .slice none 0 0] 24)
    rw [World.size_alloc] at h1
    exact ⟨Nat.zero_le _, World.ownsRow_nil _ _ _ _, rfl, fun j _ h => by simp at h, (Kept.alloc _ _ _).and (Kept.alloc _ _ _), by rw [Below.heap_alloc _ _ _ (by simp), heap_alloc_new, hn], h1⟩
  clear R hn
  have e40 : ¬ (40 : Int) < (n : Int) := by omega
  go_enter Tryz.func4, Tryz.ntmps4
  go_wp2
  go_loopw [3, 4] (fun l i wr => ∃ (k : Nat) (a' : Option Addr) (c' : Nat) (vs : List Value), i = .int .i64 k ∧ l = .slice a' k c' ∧ Hid (CutJ w wr name a c ms k a' c' vs)) (fun _ i _ => n - (intOf i).toNat)
  case atStart => exact ⟨0, none, 0, [], rfl, rfl, HS⟩
  case round =>
    obtain ⟨k, a', c', vs, rfl, rfl, J⟩ := hrel
    obtain ⟨⟨y0, y1⟩, f0, f1⟩ := twoC J.out.b0
    rw [HN.out] at y1
    have hkn : k ≤ n := by have := J.out.le; rw [HN.out] at this; exact this
    by_cases hlt : k < n
    · have e1 : (k : Int) < (n : Int) := by omega
      have hk : k < ms.length := by rw [HN.out]; exact hlt
      obtain ⟨b, o, av, cv, ea, T, x0, x1, x2, x3, x4, x5, x6⟩ := HR.out.at hk
      subst ea
      have HT : Hid (TextsAt w (.slice av (ms[k]).after.length cv) (ms[k]).after) := T
      have hcv : (ms[k]).after.length ≤ cv := by obtain ⟨_, _, e, h, _⟩ := T; simp only [Value.slice.injEq] at e; omega
      have G := J.out.kept
      replace x0 := keepC G x0 (fun _ _ h => h)
      replace x1 := keepC G x1 (fun _ _ h => h)
      replace x2 := keepC G x2 (fun _ _ h => h)
      replace x3 := keepC G x3 (fun _ _ h => h)
      replace x4 := keepC G x4 (fun _ _ h => h)
      replace x5 := keepC G x5 (fun _ _ h => h)
      replace x6 := keepC G x6 (fun _ _ h => h)
      have hsz : w.heap.size + 2 ≤ wr.heap.size := by have := (Array.getElem?_eq_some_iff.1 J.out.b1).1; omega
      clear T G
      have hpush := fun (v : Value) (T : TextsAt w v (cutN ms[k]).after) (wq w3 : World) (a3 : Option Addr) (c3 : Nat) (hq : Kept (fun _ => False) wr wq) => J.out.push (a3 := a3) (c3 := c3) (w3 := w3) hk T hq
      have HP : Hid _ := hpush
      clear hpush
      generalize ms[k] = nd at *
      by_cases h10 : 10 < nd.after.length
      · have e2 : (10 : Int) < (nd.after.length : Int) := by omega
        go_wp2_with (first
          | (at_builtin; refine wpList_append_src _ rfl _ _ 22 rfl (w.heap.size + 2) 35 i0 _ 7 96 Tryz.underlying22 hi0 hz0 hz1 hz2 rfl (by decide) (.slice a' k c') k _ rfl ((J.out.row.alloc _).alloc _) _ rfl 1 _ (.inl ⟨_, 1, rfl, rfl, World.news_of_block (heap_alloc_new2 _ _ _)⟩) (ndC_one (cutN nd) av 10 cv) (by unfold maxLen; omega) (by omega) (by simp; omega) ?_; intro a3 cap3 w3 ho3 hg3 _ hl3)
          | fail)
        go_roundw
        case rel => exact ⟨k + 1, a3, cap3, _, by go_num, rfl, HP.out _ (HT.out.take (by omega)) _ w3 a3 cap3 ((Kept.alloc _ _ _).and (Kept.alloc _ _ _)) ho3 hg3⟩
        case measure => simp [intOf]; omega
      · have e2 : ¬ (10 : Int) < (nd.after.length : Int) := by omega
        go_wp2_with (first
          | (at_builtin; refine wpList_append_src _ rfl _ _ 22 rfl (w.heap.size + 2) 35 i0 _ 7 96 Tryz.underlying22 hi0 hz0 hz1 hz2 rfl (by decide) (.slice a' k c') k _ rfl ((J.out.row.alloc _).alloc _) _ rfl 1 _ (.inl ⟨_, 1, rfl, rfl, World.news_of_block (heap_alloc_new2 _ _ _)⟩) (ndC_one (cutN nd) av nd.after.length cv) (by unfold maxLen; omega) (by omega) (by simp; omega) ?_; intro a3 cap3 w3 ho3 hg3 _ hl3)
          | fail)
        go_roundw
        case rel => exact ⟨k + 1, a3, cap3, _, by go_num, rfl, HP.out _ (cut_short HT.out (by omega)) _ w3 a3 cap3 ((Kept.alloc _ _ _).and (Kept.alloc _ _ _)) ho3 hg3⟩
        case measure => simp [intOf]; omega
    · obtain rfl : k = n := by omega
      have e1 : ¬ (k : Int) < (k : Int) := by omega
      obtain ⟨⟨r0, r1⟩, s0, s1⟩ := twoC J.out.b1
      have hbB := (Array.getElem?_eq_some_iff.1 J.out.b1).1
      have HJ := J
      clear hlt
      go_wp2
      have k1 : Kept (fun j => j = w.heap.size) wr (wr.setCell ⟨w.heap.size, 1, none⟩ (.slice a' k c')) := Kept.setCell _ _ _ rfl
      have b2 := put2 ((k1.block (w.heap.size + 1) hbB (by omega)).trans HJ.out.b1) (.string name) (.slice a' k c')
      have kk : Kept (fun j => j = w.heap.size ∨ j = w.heap.size + 1) wr (((wr.setCell ⟨w.heap.size, 1, none⟩ (.slice a' k c')).setCell ⟨w.heap.size + 1, 0, none⟩ (.string name)).setCell ⟨w.heap.size + 1, 1, none⟩ (.slice a' k c')) := ((k1.mono (fun _ h => .inl h)).and (Kept.setCell _ _ _ (.inr rfl))).and (Kept.setCell _ _ _ (.inr rfl))
      generalize (((wr.setCell ⟨w.heap.size, 1, none⟩ (.slice a' k c')).setCell ⟨w.heap.size + 1, 0, none⟩ (.string name)).setCell ⟨w.heap.size + 1, 1, none⟩ (.slice a' k c')) = V at *
      obtain ⟨⟨g0, g1⟩, _, _⟩ := twoC b2
      refine bodyPost_ret (by simp [results, Tryz.results4, go_sem, g0, g1]; try rfl) rfl ?_
      have KW : Kept (fun _ => False) w V := HJ.out.kept.trans kk (fun i h => .inr (by omega))
      obtain ⟨q1, q2⟩ := HJ.out.nodes HR.out HN.out.symm (kk.mono (fun j h => by omega)) KW
      exact ⟨a', c', rfl, q1, q2, KW⟩

theorem RawAt.take {w : World} {a : Option Addr} {ns : List Nd} (R : RawAt w a ns) (m : Nat) : RawAt w a (ns.take m) := by
  refine ⟨fun n h => R.1 n (List.mem_of_mem_take h), ?_⟩
  rcases R.2 with h | ⟨b, o, h, hc⟩
  · left; rw [h]; simp
  · refine .inr ⟨b, o, h, fun i hi => ?_⟩
    have hi2 : i < ns.length := by rw [List.length_take] at hi; omega
    have := hc i hi2
    rw [List.getElem_take]
    exact this

set_option maxRecDepth 100000 in
set_option maxHeartbeats 4000000 in
theorem cutB_any (w : World) (name : ByteArray) (a : Option Addr) (n c : Nat) (ns : List Nd) (R0 : RawAt w a ns) (hn0 : ns.length = n) (hc : n ≤ c) (h40 : 40 < n) :
    Calls Tryz.prog 4 #[.agg #[.string name, .slice a n c]] w fun e w' => ∃ a' c', e = .returned (.agg #[.string name, .slice a' 40 c']) ∧ NodesAt w' a' ((ns.take 40).map cutN) ∧ 40 ≤ c' ∧ Kept (fun _ => False) w w' := by
  obtain ⟨i0, hi0, hz0, hz1, hz2⟩ := info_parts Tryz.info35
  have R := R0.take 40
  have hn : (ns.take 40).length = 40 := by rw [List.length_take]; omega
  generalize ns.take 40 = ms at *
  have HR : Hid (RawAt w a ms) := R
  have HN : Hid (ms.length = 40) := hn
  have e40 : (40 : Int) < (n : Int) := by omega
  have HS : Hid (CutJ w ((w.alloc (.cells #[.string name, .slice a 40 c] 24)).alloc (.cells #[.string ⟨#[]⟩, .slice none 0 0] 24)) name a c ms 0 none 0 []) := by
    show CutJ _ _ _ _ _ _ _ _ _ _
    exact ⟨Nat.zero_le _, World.ownsRow_nil _ _ _ _, rfl, fun j _ h => by simp at h, (Kept.alloc _ _ _).and (Kept.alloc _ _ _), by rw [Below.heap_alloc _ _ _ (by simp), heap_alloc_new, hn], heap_alloc_new2 _ _ _⟩
  clear R hn R0 hn0
  go_enter Tryz.func4, Tryz.ntmps4
  go_wp2
  go_loopw [3, 4] (fun l i wr => ∃ (k : Nat) (a' : Option Addr) (c' : Nat) (vs : List Value), i = .int .i64 k ∧ l = .slice a' k c' ∧ Hid (CutJ w wr name a c ms k a' c' vs)) (fun _ i _ => 40 - (intOf i).toNat)
  case atStart => exact ⟨0, none, 0, [], rfl, rfl, HS⟩
  case round =>
    obtain ⟨k, a', c', vs, rfl, rfl, J⟩ := hrel
    obtain ⟨⟨y0, y1⟩, f0, f1⟩ := twoC J.out.b0
    rw [HN.out] at y1
    have hkn : k ≤ 40 := by have := J.out.le; rw [HN.out] at this; exact this
    by_cases hlt : k < 40
    · have e1 : (k : Int) < (40 : Int) := by omega
      have hk : k < ms.length := by rw [HN.out]; exact hlt
      obtain ⟨b, o, av, cv, ea, T, x0, x1, x2, x3, x4, x5, x6⟩ := HR.out.at hk
      subst ea
      have HT : Hid (TextsAt w (.slice av (ms[k]).after.length cv) (ms[k]).after) := T
      have hcv : (ms[k]).after.length ≤ cv := by obtain ⟨_, _, e, h, _⟩ := T; simp only [Value.slice.injEq] at e; omega
      have G := J.out.kept
      replace x0 := keepC G x0 (fun _ _ h => h)
      replace x1 := keepC G x1 (fun _ _ h => h)
      replace x2 := keepC G x2 (fun _ _ h => h)
      replace x3 := keepC G x3 (fun _ _ h => h)
      replace x4 := keepC G x4 (fun _ _ h => h)
      replace x5 := keepC G x5 (fun _ _ h => h)
      replace x6 := keepC G x6 (fun _ _ h => h)
      have hsz : w.heap.size + 2 ≤ wr.heap.size := by have := (Array.getElem?_eq_some_iff.1 J.out.b1).1; omega
      clear T G
      have hpush := fun (v : Value) (T : TextsAt w v (cutN ms[k]).after) (wq w3 : World) (a3 : Option Addr) (c3 : Nat) (hq : Kept (fun _ => False) wr wq) => J.out.push (a3 := a3) (c3 := c3) (w3 := w3) hk T hq
      have HP : Hid _ := hpush
      clear hpush
      generalize ms[k] = nd at *
      by_cases h10 : 10 < nd.after.length
      · have e2 : (10 : Int) < (nd.after.length : Int) := by omega
        go_wp2_with (first
          | (at_builtin; refine wpList_append_src _ rfl _ _ 22 rfl (w.heap.size + 2) 35 i0 _ 7 96 Tryz.underlying22 hi0 hz0 hz1 hz2 rfl (by decide) (.slice a' k c') k _ rfl ((J.out.row.alloc _).alloc _) _ rfl 1 _ (.inl ⟨_, 1, rfl, rfl, World.news_of_block (heap_alloc_new2 _ _ _)⟩) (ndC_one (cutN nd) av 10 cv) (by unfold maxLen; omega) (by omega) (by simp; omega) ?_; intro a3 cap3 w3 ho3 hg3 _ hl3)
          | fail)
        go_roundw
        case rel => exact ⟨k + 1, a3, cap3, _, by go_num, rfl, HP.out _ (HT.out.take (by omega)) _ w3 a3 cap3 ((Kept.alloc _ _ _).and (Kept.alloc _ _ _)) ho3 hg3⟩
        case measure => simp [intOf]; omega
      · have e2 : ¬ (10 : Int) < (nd.after.length : Int) := by omega
        go_wp2_with (first
          | (at_builtin; refine wpList_append_src _ rfl _ _ 22 rfl (w.heap.size + 2) 35 i0 _ 7 96 Tryz.underlying22 hi0 hz0 hz1 hz2 rfl (by decide) (.slice a' k c') k _ rfl ((J.out.row.alloc _).alloc _) _ rfl 1 _ (.inl ⟨_, 1, rfl, rfl, World.news_of_block (heap_alloc_new2 _ _ _)⟩) (ndC_one (cutN nd) av nd.after.length cv) (by unfold maxLen; omega) (by omega) (by simp; omega) ?_; intro a3 cap3 w3 ho3 hg3 _ hl3)
          | fail)
        go_roundw
        case rel => exact ⟨k + 1, a3, cap3, _, by go_num, rfl, HP.out _ (cut_short HT.out (by omega)) _ w3 a3 cap3 ((Kept.alloc _ _ _).and (Kept.alloc _ _ _)) ho3 hg3⟩
        case measure => simp [intOf]; omega
    · obtain rfl : k = 40 := by omega
      have e1 : ¬ (40 : Int) < (40 : Int) := by omega
      obtain ⟨⟨r0, r1⟩, s0, s1⟩ := twoC J.out.b1
      have hbB := (Array.getElem?_eq_some_iff.1 J.out.b1).1
      have HJ := J
      clear hlt
      go_wp2
      have k1 : Kept (fun j => j = w.heap.size) wr (wr.setCell ⟨w.heap.size, 1, none⟩ (.slice a' 40 c')) := Kept.setCell _ _ _ rfl
      have b2 := put2 ((k1.block (w.heap.size + 1) hbB (by omega)).trans HJ.out.b1) (.string name) (.slice a' 40 c')
      have kk : Kept (fun j => j = w.heap.size ∨ j = w.heap.size + 1) wr (((wr.setCell ⟨w.heap.size, 1, none⟩ (.slice a' 40 c')).setCell ⟨w.heap.size + 1, 0, none⟩ (.string name)).setCell ⟨w.heap.size + 1, 1, none⟩ (.slice a' 40 c')) := ((k1.mono (fun _ h => .inl h)).and (Kept.setCell _ _ _ (.inr rfl))).and (Kept.setCell _ _ _ (.inr rfl))
      generalize (((wr.setCell ⟨w.heap.size, 1, none⟩ (.slice a' 40 c')).setCell ⟨w.heap.size + 1, 0, none⟩ (.string name)).setCell ⟨w.heap.size + 1, 1, none⟩ (.slice a' 40 c')) = V at *
      obtain ⟨⟨g0, g1⟩, _, _⟩ := twoC b2
      refine bodyPost_ret (by simp [results, Tryz.results4, go_sem, g0, g1]; try rfl) rfl ?_
      have KW : Kept (fun _ => False) w V := HJ.out.kept.trans kk (fun i h => .inr (by omega))
      obtain ⟨q1, q2⟩ := HJ.out.nodes HR.out HN.out.symm (kk.mono (fun j h => by omega)) KW
      exact ⟨a', c', rfl, q1, q2, KW⟩

/-- cut, for every definition. -/
theorem lawCut_any (w : World) (name : ByteArray) (a : Option Addr) (n c : Nat) (ns : List Nd) (R : RawAt w a ns) (hn : ns.length = n) (hc : n ≤ c) :
    Calls Tryz.prog 4 #[.agg #[.string name, .slice a n c]] w fun e w' => ∃ a' c', e = .returned (.agg #[.string name, .slice a' (cutNs ns).length c']) ∧ NodesAt w' a' (cutNs ns) ∧ (cutNs ns).length ≤ c' ∧ Kept (fun _ => False) w w' := by
  unfold cutNs
  by_cases h : n ≤ 40
  · have e : ns.take 40 = ns := List.take_of_length_le (by omega)
    rw [e, List.length_map, hn]
    exact cutA_any w name a n c ns R hn hc h
  · have e : (ns.take 40).length = 40 := by rw [List.length_take]; omega
    rw [List.length_map, e]
    exact cutB_any w name a n c ns R hn hc (by omega)

end Go.Proofs.YtlholgpenpfpbaaGreatDoor

/-
  A definition handed in by value; its box, written over by the cut one.
-/
namespace Go.Proofs.YtlholgpenpfpbaaGreatDoor
open Go.ChangeShapes Go.WideShapes Go.ChangeAt Go.RowKit Go.Deep

theorem array2 {α : Type} {cs : Array α} (h : cs.size = 2) : ∃ c0 c1, cs = #[c0, c1] := by
  obtain ⟨l⟩ := cs
  match l, h with
  | [c0, c1], _ => exact ⟨c0, c1, rfl⟩

set_option maxRecDepth 100000 in
theorem dv_open {H : Type} {enc : TypeId × Value → H} {W : World} {base b0 : Nat} {r : Reach} {held : Bool} {v : Value} {d : DataW H} {p : List MemPlace}
    (hv : Value.okWide Tryz.prog W r b0 24 v) (h : DataW.Trod enc Tryz.prog W base (fun _ => true) held 24 v d p) :
    ∃ (name : ByteArray) (a : Option Addr) (c : Nat) (ns : List Nd), v = .agg #[.string name, .slice a ns.length c] ∧ name.size ≤ maxLen ∧ ns.length ≤ c ∧ c ≤ maxLen ∧ RawAt W a ns := by
  obtain ⟨cs, rfl, hsz⟩ := okWide_struct Tryz.underlying24 hv
  obtain ⟨c0, c1, rfl⟩ := array2 (hsz.trans (by kernel_rfl))
  obtain ⟨fuel, hf⟩ := h
  obtain ⟨e0, e1, name, ns, e, R⟩ := def_open (cs := [c0, c1]) hf rfl
  obtain ⟨rfl, hn, a, c, rfl, h1, h2, h3⟩ := R
  simp only [List.cons.injEq, and_true] at e
  obtain ⟨rfl, rfl⟩ := e
  exact ⟨name, a, c, ns, rfl, hn, h1, h2, h3⟩

/-- The box of a definition is written over. -/
theorem NodesAt.boxed {w : World} {g n c n' c' : Nat} {name : ByteArray} {a a' : Option Addr} {ms : List Nd} (hb : w.heap[g]? = some (.cells #[.string name, .slice a n c] 24 (0, 0))) (N : NodesAt w a' ms) :
    NodesAt ((w.setCell ⟨g, 0, none⟩ (.string name)).setCell ⟨g, 1, none⟩ (.slice a' n' c')) a' ms := by
  have hcell : ∀ o, w.cell? ⟨g, o, none⟩ = (#[Value.string name, .slice a n c] : Array Value)[o]? := fun o => by simp [World.cell?, hb]
  have hb2 := put2 hb (.string name) (.slice a' n' c')
  have hnew : ((w.setCell ⟨g, 0, none⟩ (.string name)).setCell ⟨g, 1, none⟩ (.slice a' n' c')).cell? ⟨g, 0, none⟩ = some (.string name) := by simp [World.cell?, hb2]
  have hne : ∀ b o, b ≠ g → ((w.setCell ⟨g, 0, none⟩ (.string name)).setCell ⟨g, 1, none⟩ (.slice a' n' c')).cell? ⟨b, o, none⟩ = w.cell? ⟨b, o, none⟩ := fun b o h => World.cell?_of_block (((Below.heap_setCell _ _ _ _ (fun e => h e)).trans (Below.heap_setCell _ _ _ _ (fun e => h e))))
  refine ⟨N.1, ?_⟩
  rcases N.2 with h | ⟨b, o, h, hc⟩
  · exact .inl h
  · refine .inr ⟨b, o, h, fun i hi => ?_⟩
    obtain ⟨v, hv, hw⟩ := hc i hi
    have hbg : b ≠ g := by
      intro e
      subst e
      have h6 := hw 6 v rfl
      rw [hcell] at h6
      have := (Array.getElem?_eq_some_iff.1 h6).1
      simp at this
      omega
    refine ⟨v, ?_, fun j u hu => by rw [hne _ _ hbg]; exact hw j u hu⟩
    obtain ⟨a2, c2, e, h1, h2, h3, h4⟩ := hv
    refine ⟨a2, c2, e, h1, h2, ?_, h4⟩
    rcases h3 with h | ⟨b2, o2, h, hc2⟩
    · exact .inl h
    · refine .inr ⟨b2, o2, h, fun j u hu => ?_⟩
      have hx := hc2 j u hu
      by_cases e : b2 = g
      · subst e
        obtain ⟨s, rfl⟩ : ∃ s, u = .string s := by
          rw [List.getElem?_map] at hu
          cases hs : ((ms[i]).after)[j]? with
          | none => rw [hs] at hu; cases hu
          | some s => rw [hs] at hu; exact ⟨s, (Option.some.inj hu).symm⟩
        rw [hcell] at hx
        have hlt := (Array.getElem?_eq_some_iff.1 hx).1
        simp at hlt
        rcases Nat.eq_zero_or_pos (o2 + j) with e0 | e0
        · rw [e0] at hx ⊢
          rw [hnew]
          simpa using hx
        · obtain e1 : o2 + j = 1 := by omega
          rw [e1] at hx
          simp at hx
      · rw [hne _ _ e]; exact hx

/-- What the cut leaves behind it. -/
structure BoxSt (w W : World) (name : ByteArray) (a' : Option Addr) (m c' : Nat) (ms : List Nd) : Prop where
  b0 : W.heap[w.heap.size]? = some (.cells #[.string name, .slice a' m c'] 24 (0, 0))
  nodes : NodesAt W a' ms
  kept : Kept (fun _ => False) w W

theorem BoxSt.mk' {w w1 : World} {name : ByteArray} {a a' : Option Addr} {n c m c' : Nat} {ms : List Nd} (K : Kept (fun _ => False) (w.alloc (.cells #[.string name, .slice a n c] 24)) w1) (N : NodesAt w1 a' ms) :
    BoxSt w ((w1.setCell ⟨w.heap.size, 0, none⟩ (.string name)).setCell ⟨w.heap.size, 1, none⟩ (.slice a' m c')) name a' m c' ms := by
  have hb : w1.heap[w.heap.size]? = some (.cells #[.string name, .slice a n c] 24 (0, 0)) := by
    rw [K.block w.heap.size (by simp) (fun h => h)]
    exact heap_alloc_new _ _
  refine ⟨put2 hb _ _, N.boxed hb, ?_⟩
  have k2 : Kept (fun j => j = w.heap.size) w1 ((w1.setCell ⟨w.heap.size, 0, none⟩ (.string name)).setCell ⟨w.heap.size, 1, none⟩ (.slice a' m c')) := (Kept.setCell (S := fun j => j = w.heap.size) w1 ⟨w.heap.size, 0, none⟩ (.string name) rfl).and (Kept.setCell (S := fun j => j = w.heap.size) _ ⟨w.heap.size, 1, none⟩ _ rfl)
  exact ((Kept.alloc (fun _ => False) _ _).and K).trans k2 (fun i h => .inr (by omega))

end Go.Proofs.YtlholgpenpfpbaaGreatDoor

/-
  A line's words byte by byte; a text's lines. Nothing here speaks of a program.
-/
namespace Go.Proofs.YtlholgpenpfpbaaGreatDoor
open Go.RowKit

/-- The words' places, byte by byte: d bytes are left. -/
def spB (s : ByteArray) : Nat → Nat → Option Nat → List (Nat × Nat) → List (Nat × Nat) × Option Nat
  | 0, _, st, acc => (acc, st)
  | d + 1, pos, st, acc =>
    if s.get! pos = 32 then
      (match st with
       | some a => spB s d (pos + 1) none (acc ++ [(a, pos)])
       | none => spB s d (pos + 1) none acc)
    else spB s d (pos + 1) (some (st.getD pos)) acc

theorem spB_succ (s : ByteArray) (d pos : Nat) (st : Option Nat) (acc : List (Nat × Nat)) : spB s (d + 1) pos st acc = if s.get! pos = 32 then (match st with
       | some a => spB s d (pos + 1) none (acc ++ [(a, pos)])
       | none => spB s d (pos + 1) none acc)
    else spB s d (pos + 1) (some (st.getD pos)) acc := rfl

theorem spF_succ (p : Nat → Bool) (s : ByteArray) (f pos : Nat) (st : Option Nat) (acc : List (Nat × Nat)) (h : pos < s.size) : Lib.spansFromP p s (f + 1) pos st acc = if p (Utf8.decode s pos).1 then
        (match st with
         | some a => Lib.spansFromP p s f (pos + (Utf8.decode s pos).2) none (acc ++ [(a, pos)])
         | none => Lib.spansFromP p s f (pos + (Utf8.decode s pos).2) none acc)
       else
        (match st with
         | some a => Lib.spansFromP p s f (pos + (Utf8.decode s pos).2) (some a) acc
         | none => Lib.spansFromP p s f (pos + (Utf8.decode s pos).2) (some pos) acc) := by
  exact if_pos h

theorem spB_acc (s : ByteArray) : ∀ (d pos : Nat) (st : Option Nat) (a0 acc : List (Nat × Nat)), spB s d pos st (a0 ++ acc) = (a0 ++ (spB s d pos st acc).1, (spB s d pos st acc).2)
  | 0, _, _, _, _ => rfl
  | d + 1, pos, st, a0, acc => by
    unfold spB
    split
    · cases st with
      | some a => simp only []; rw [List.append_assoc]; exact spB_acc s d _ _ _ _
      | none => exact spB_acc s d _ _ _ _
    · exact spB_acc s d _ _ _ _

theorem spB_skip (s : ByteArray) : ∀ (w d pos : Nat) (st : Option Nat) (acc : List (Nat × Nat)), 1 ≤ w → w ≤ d → (∀ j, j < w → s.get! (pos + j) ≠ 32) → spB s d pos st acc = spB s (d - w) (pos + w) (some (st.getD pos)) acc
  | 0, _, _, _, _, h, _, _ => by omega
  | w + 1, d, pos, st, acc, _, h2, h3 => by
    obtain ⟨d', rfl⟩ : ∃ d', d = d' + 1 := ⟨d - 1, by omega⟩
    have h0 := h3 0 (by omega)
    rw [Nat.add_zero] at h0
    rw [spB_succ, if_neg h0]
    by_cases hw : w = 0
    · subst hw; rfl
    · rw [spB_skip s w d' (pos + 1) _ acc (by omega) (by omega) (fun j hj => by have := h3 (j + 1) (by omega); rwa [show pos + (j + 1) = pos + 1 + j by omega] at this)]
      rw [show d' + 1 - (w + 1) = d' - w by omega, show pos + (w + 1) = pos + 1 + w by omega]
      rfl

theorem u8_ne {x : UInt8} (h : 128 ≤ x.toNat) : x ≠ 32 := fun e => by subst e; simp at h

theorem spans_bytes (s : ByteArray) : ∀ (n d f pos : Nat) (st : Option Nat) (acc : List (Nat × Nat)), d ≤ n → pos + d = s.size → d ≤ f → Lib.spansFromP (fun r => r == 32) s f pos st acc = spB s d pos st acc
  | n, 0, f, pos, st, acc, _, hp, _ => Lib.spansFromP_end _ _ _ _ _ _ (by omega)
  | 0, d + 1, _, _, _, _, hn, _, _ => by omega
  | n + 1, d + 1, f, pos, st, acc, hn, hp, hf => by
    obtain ⟨f', rfl⟩ : ∃ f', f = f' + 1 := ⟨f - 1, by omega⟩
    have hpos : pos < s.size := by omega
    rw [spF_succ _ _ _ _ _ _ hpos, Lib.decode_at]
    rcases Lib.decodeN_shape (s.size - pos) (s.get! pos).toNat (s.get! (pos + 1)).toNat (s.get! (pos + 2)).toNat (s.get! (pos + 3)).toNat with ⟨h0, e⟩ | ⟨h0, hN, h1, h2, e⟩ | ⟨h0, hN, h1, h2, h3, h4, e⟩ | ⟨h0, hN, h1, h2, h3, h4, h5, e⟩ | e
    · rw [e]
      simp only []
      rw [spB_succ]
      by_cases c : s.get! pos = 32
      · rw [if_pos c, c]
        simp only [show ((32 : UInt8).toNat == 32) = true from rfl, if_true]
        cases st with
        | some a => exact spans_bytes s n d f' (pos + 1) none _ (by omega) (by omega) (by omega)
        | none => exact spans_bytes s n d f' (pos + 1) none _ (by omega) (by omega) (by omega)
      · have c2 : ((s.get! pos).toNat == 32) = false := by
          rw [beq_eq_false_iff_ne]
          intro h
          exact c (UInt8.toNat_inj.1 h)
        rw [if_neg c, c2]
        simp only [Bool.false_eq_true, if_false]
        cases st with
        | some a => exact spans_bytes s n d f' (pos + 1) _ _ (by omega) (by omega) (by omega)
        | none => exact spans_bytes s n d f' (pos + 1) _ _ (by omega) (by omega) (by omega)
    · rw [e]
      simp only []
      have c2 : ((s.get! pos).toNat % 32 * 64 + (s.get! (pos + 1)).toNat % 64 == 32) = false := by rw [beq_eq_false_iff_ne]; omega
      rw [c2]
      simp only [Bool.false_eq_true, if_false]
      rw [spB_skip s 2 (d + 1) pos st acc (by omega) (by omega) (fun j hj => by
        match j, hj with
        | 0, _ => exact u8_ne (by rw [Nat.add_zero]; omega)
        | 1, _ => exact u8_ne (by omega))]
      cases st with
      | some a => exact spans_bytes s n (d + 1 - 2) f' (pos + 2) _ _ (by omega) (by omega) (by omega)
      | none => exact spans_bytes s n (d + 1 - 2) f' (pos + 2) _ _ (by omega) (by omega) (by omega)
    · rw [e]
      simp only []
      have c2 : ((s.get! pos).toNat % 16 * 4096 + (s.get! (pos + 1)).toNat % 64 * 64 + (s.get! (pos + 2)).toNat % 64 == 32) = false := by rw [beq_eq_false_iff_ne]; omega
      rw [c2]
      simp only [Bool.false_eq_true, if_false]
      rw [spB_skip s 3 (d + 1) pos st acc (by omega) (by omega) (fun j hj => by
        match j, hj with
        | 0, _ => exact u8_ne (by rw [Nat.add_zero]; omega)
        | 1, _ => exact u8_ne (by omega)
        | 2, _ => exact u8_ne (by omega))]
      cases st with
      | some a => exact spans_bytes s n (d + 1 - 3) f' (pos + 3) _ _ (by omega) (by omega) (by omega)
      | none => exact spans_bytes s n (d + 1 - 3) f' (pos + 3) _ _ (by omega) (by omega) (by omega)
    · rw [e]
      simp only []
      have c2 : ((s.get! pos).toNat % 8 * 262144 + (s.get! (pos + 1)).toNat % 64 * 4096 + (s.get! (pos + 2)).toNat % 64 * 64 + (s.get! (pos + 3)).toNat % 64 == 32) = false := by rw [beq_eq_false_iff_ne]; omega
      rw [c2]
      simp only [Bool.false_eq_true, if_false]
      rw [spB_skip s 4 (d + 1) pos st acc (by omega) (by omega) (fun j hj => by
        match j, hj with
        | 0, _ => exact u8_ne (by rw [Nat.add_zero]; omega)
        | 1, _ => exact u8_ne (by omega)
        | 2, _ => exact u8_ne (by omega)
        | 3, _ => exact u8_ne (by omega))]
      cases st with
      | some a => exact spans_bytes s n (d + 1 - 4) f' (pos + 4) _ _ (by omega) (by omega) (by omega)
      | none => exact spans_bytes s n (d + 1 - 4) f' (pos + 4) _ _ (by omega) (by omega) (by omega)
    · have hne : s.get! pos ≠ 32 := fun h => by
        rw [h] at e
        rw [Lib.decodeN, if_pos (by decide)] at e
        simp at e
      rw [e]
      simp only [show ((65533 : Nat) == 32) = false from rfl, Bool.false_eq_true, if_false]
      rw [spB_succ, if_neg hne]
      cases st with
      | some a => exact spans_bytes s n d f' (pos + 1) _ _ (by omega) (by omega) (by omega)
      | none => exact spans_bytes s n d f' (pos + 1) _ _ (by omega) (by omega) (by omega)

/-- The words from a place on. -/
def wordsFrom (s : ByteArray) (i : Nat) : List ByteArray := (Lib.closeSpans s (spB s (s.size - i) i none [])).map (fun x => s.extract x.1 x.2)

theorem words_from (s : ByteArray) : wordsP s = wordsFrom s 0 := by
  unfold wordsP Lib.goFieldsP Lib.spansOfP wordsFrom
  rw [spans_bytes s s.size s.size s.size 0 none [] (Nat.le_refl _) (by omega) (Nat.le_refl _), Nat.sub_zero]

theorem wordsFrom_end (s : ByteArray) {i : Nat} (h : s.size ≤ i) : wordsFrom s i = [] := by
  unfold wordsFrom
  rw [show s.size - i = 0 by omega]
  rfl

theorem wordsFrom_blank {s : ByteArray} {i : Nat} (h : i < s.size) (hb : s.get! i = 32) : wordsFrom s i = wordsFrom s (i + 1) := by
  unfold wordsFrom
  rw [show s.size - i = (s.size - (i + 1)) + 1 by omega, spB_succ, if_pos hb]

theorem close_acc (s : ByteArray) (x : Nat × Nat) (p : List (Nat × Nat) × Option Nat) : Lib.closeSpans s (x :: p.1, p.2) = x :: Lib.closeSpans s p := by
  unfold Lib.closeSpans
  cases p.2 <;> rfl

theorem wordsFrom_word {s : ByteArray} {i k : Nat} (hik : i < k) (hk : k ≤ s.size) (hw : ∀ j, i ≤ j → j < k → s.get! j ≠ 32) (he : k = s.size ∨ s.get! k = 32) : wordsFrom s i = s.extract i k :: wordsFrom s k := by
  have h1 := spB_skip s (k - i) (s.size - i) i none [] (by omega) (by omega) (fun j hj => hw _ (by omega) (by omega))
  rw [show i + (k - i) = k by omega, show s.size - i - (k - i) = s.size - k by omega] at h1
  rcases he with he | he
  · have h2 : wordsFrom s i = [s.extract i k] := by
      unfold wordsFrom
      rw [h1, show s.size - k = 0 by omega]
      show [s.extract i s.size] = _
      rw [he]
    rw [h2, wordsFrom_end s (by omega)]
  · by_cases hks : k < s.size
    · rw [wordsFrom_blank hks he]
      unfold wordsFrom
      rw [h1, show s.size - k = (s.size - (k + 1)) + 1 by omega, spB_succ, if_pos he]
      simp only [Option.getD_none, List.nil_append]
      have h3 := spB_acc s (s.size - (k + 1)) (k + 1) none [(i, k)] []
      rw [List.append_nil] at h3
      rw [h3, List.singleton_append, close_acc]
      rfl
    · have h2 : wordsFrom s i = [s.extract i k] := by
        unfold wordsFrom
        rw [h1, show s.size - k = 0 by omega]
        show [s.extract i s.size] = _
        rw [show k = s.size by omega]
      rw [h2, wordsFrom_end s (by omega)]

/-- A text's lines. -/
def linesK : Nat → ByteArray → List ByteArray
  | 0, _ => []
  | f + 1, s => if s.size = 0 then [] else cutA s :: linesK f (cutB s)

theorem linesK_more : ∀ (n f g : Nat) (s : ByteArray), s.size ≤ n → s.size < f → s.size < g → linesK f s = linesK g s
  | n, f, g, s, hn, hf, hg => by
    obtain ⟨f', rfl⟩ : ∃ f', f = f' + 1 := ⟨f - 1, by omega⟩
    obtain ⟨g', rfl⟩ : ∃ g', g = g' + 1 := ⟨g - 1, by omega⟩
    rw [linesK, linesK]
    split
    · rfl
    · rename_i h0
      have hc := cutB_size (t := s) (by omega)
      cases n with
      | zero => omega
      | succ n => rw [linesK_more n f' g' (cutB s) (by omega) (by omega) (by omega)]

def linesP (s : ByteArray) : List ByteArray := linesK (s.size + 1) s

theorem linesP_nil {s : ByteArray} (h : s.size = 0) : linesP s = [] := by unfold linesP; rw [linesK, if_pos h]
theorem linesP_cons {s : ByteArray} (h : 0 < s.size) : linesP s = cutA s :: linesP (cutB s) := by
  unfold linesP
  rw [linesK, if_neg (by omega)]
  have hc := cutB_size h
  rw [linesK_more (cutB s).size s.size ((cutB s).size + 1) (cutB s) (Nat.le_refl _) hc (by omega)]

end Go.Proofs.YtlholgpenpfpbaaGreatDoor

/-
  A text as the row of its lines: what the program's reader answers, said line by line. Nothing here speaks of a program.
-/
namespace Go.Proofs.YtlholgpenpfpbaaGreatDoor
open Go.RowKit

def rfK : List ByteArray → Nat → Bool → ByteArray → List Nd → List Nat → Option (ByteArray × List Nd × List Nat) × Nat
  | [], line, b, nm, ns, ls => if b then (some (nm, ns, ls), 0) else (none, line)
  | x :: t, line, b, nm, ns, ls =>
    if rSilent (wordsP x, false) then rfK t (line + 1) b nm ns ls
    else if b = false then
      (if (rHead (wordsP x, false)).2.2 then (none, line) else rfK t (line + 1) true (rHead (wordsP x, false)).1 ns ls)
    else
      (if (rNode (wordsP x, false)).2.2 then (none, line) else rfK t (line + 1) true nm (ns ++ [(rNode (wordsP x, false)).1]) (ls ++ [line]))

theorem rl_fold : ∀ (n : Nat) (s : ByteArray), s.size ≤ n → ∀ (line : Nat) (b : Bool) (nm : ByteArray) (ns : List Nd) (ls : List Nat), rlK (s.size + 1) s line b nm ns ls = rfK (linesP s) line b nm ns ls
  | n, s, hn, line, b, nm, ns, ls => by
    by_cases h0 : s.size = 0
    · rw [linesP_nil h0]
      simp only [rlK, rfK, h0, if_true]
    · have hp : 0 < s.size := by omega
      have hc := cutB_size hp
      cases n with
      | zero => omega
      | succ n =>
        have ih := rl_fold n (cutB s) (by omega)
        rw [rl_step hp, linesP_cons hp]
        simp only [rfK, ih]

theorem rlP_fold (t : ByteArray) : rlP t = rfK (linesP t) 1 false ⟨#[]⟩ [] [] := rl_fold t.size t (Nat.le_refl _) 1 false ⟨#[]⟩ [] []

/-- The heading's name. -/
def headR : List ByteArray → Option ByteArray
  | [x, y] => if x = wfB ∧ nameP y = true then some y else none
  | _ => none

theorem head_same (ws : List ByteArray) : headR ws = if (rHead (ws, false)).2.2 then none else some (rHead (ws, false)).1 := by
  match ws with
  | [] => simp [headR, rHead, rTake, rName, rWord, rEnd]
  | [x] =>
    by_cases hx : x = wfB <;> simp [headR, rHead, rTake, rName, rWord, rEnd, hx]
  | [x, y] =>
    by_cases hx : x = wfB
    · cases hy : nameP y <;> simp [headR, rHead, rTake, rName, rWord, rEnd, hx, hy]
    · simp [headR, rHead, rTake, rName, rWord, rEnd, hx]
  | x :: y :: z :: r =>
    by_cases hx : x = wfB
    · simp [headR, rHead, rTake, rName, rWord, rEnd, hx]
    · simp [headR, rHead, rTake, rName, rWord, rEnd, hx]

end Go.Proofs.YtlholgpenpfpbaaGreatDoor

/-
  What is written of a definition is read as it, with blanks, empty lines and remarks too. Nothing here speaks of a program.
-/
namespace Go.Proofs.YtlholgpenpfpbaaGreatDoor
open Go.RowKit

/-- Bytes as a text. -/
def mkB (l : List UInt8) : ByteArray := ⟨l.toArray⟩
theorem mkB_list (l : List UInt8) : (mkB l).data.toList = l := by simp [mkB]
theorem mkB_size (l : List UInt8) : (mkB l).size = l.length := by show l.toArray.size = _; simp
theorem mkB_data (s : ByteArray) : mkB s.data.toList = s := by cases s; simp [mkB]
theorem mkB_inj {a b : List UInt8} (h : mkB a = mkB b) : a = b := by rw [← mkB_list a, h, mkB_list]

/-- A line's words, byte by byte. -/
def splitW : List UInt8 → List UInt8 → List (List UInt8)
  | [], cur => if cur = [] then [] else [cur]
  | b :: t, cur => if b = 32 then (if cur = [] then splitW t [] else cur :: splitW t []) else splitW t (cur ++ [b])

theorem get_list {s : ByteArray} {k : Nat} (h : k < s.size) : s.data.toList[k]? = some (s.get! k) := by
  obtain ⟨d⟩ := s
  have h' : k < d.size := h
  show d.toList[k]? = some d[k]!
  rw [getElem!_pos d k h']
  simp [h']

theorem extract_list (s : ByteArray) (i k : Nat) : (s.extract i k).data.toList = (s.data.toList.drop i).take (k - i) := by
  rw [ByteArray.data_extract, Array.toList_extract]

theorem wordsFrom_split (s : ByteArray) : ∀ (n i k : Nat), s.size - k ≤ n → i ≤ k → k ≤ s.size → (∀ j, i ≤ j → j < k → s.get! j ≠ 32) →
    wordsFrom s i = (splitW (s.data.toList.drop k) ((s.data.toList.drop i).take (k - i))).map mkB
  | n, i, k, hn, hik, hk, hw => by
    have hlen : s.data.toList.length = s.size := by simp
    have hcur : ((s.data.toList.drop i).take (k - i)).length = k - i := by rw [List.length_take, List.length_drop, hlen]; omega
    by_cases hks : k < s.size
    · have hd : s.data.toList.drop k = s.get! k :: s.data.toList.drop (k + 1) := by
        rw [List.drop_eq_getElem_cons (by omega)]
        have := get_list hks
        rw [List.getElem?_eq_getElem (by omega)] at this
        rw [Option.some.inj this]
      rw [hd]
      cases n with
      | zero => omega
      | succ n =>
        by_cases hb : s.get! k = 32
        · rw [splitW, if_pos hb]
          by_cases hi : i = k
          · subst hi
            rw [if_pos (by rw [Nat.sub_self]; rfl), wordsFrom_blank hks hb, wordsFrom_split s n (i + 1) (i + 1) (by omega) (Nat.le_refl _) (by omega) (fun j h1 h2 => by omega), Nat.sub_self]
            rfl
          · have hne : ¬ (s.data.toList.drop i).take (k - i) = [] := by
              intro h
              rw [h] at hcur
              simp at hcur
              omega
            rw [if_neg hne, wordsFrom_word (k := k) (by omega) hk hw (.inr hb), wordsFrom_blank hks hb, wordsFrom_split s n (k + 1) (k + 1) (by omega) (Nat.le_refl _) (by omega) (fun j h1 h2 => by omega), Nat.sub_self, List.map_cons]
            congr 1
            rw [← extract_list, mkB_data]
        · rw [splitW, if_neg hb, wordsFrom_split s n i (k + 1) (by omega) (by omega) (by omega) (fun j h1 h2 => by
            by_cases hj : j = k
            · rw [hj]; exact hb
            · exact hw j h1 (by omega))]
          congr 2
          rw [show k + 1 - i = (k - i) + 1 by omega, List.take_add_one, List.getElem?_drop, show i + (k - i) = k by omega, get_list hks]
          rfl
    · have hke : k = s.size := by omega
      rw [List.drop_of_length_le (by omega), splitW]
      by_cases hi : i = k
      · subst hi
        rw [if_pos (by rw [Nat.sub_self]; rfl), wordsFrom_end s (by omega)]
        rfl
      · have hne : ¬ (s.data.toList.drop i).take (k - i) = [] := by
          intro h
          rw [h] at hcur
          simp at hcur
          omega
        rw [if_neg hne, wordsFrom_word (k := k) (by omega) hk hw (.inl hke), wordsFrom_end s (by omega), ← extract_list, List.map_cons, mkB_data]
        rfl

theorem wordsP_split (l : List UInt8) : wordsP (mkB l) = (splitW l []).map mkB := by
  rw [words_from, wordsFrom_split (mkB l) (mkB l).size 0 0 (by omega) (Nat.le_refl _) (by omega) (fun j h1 h2 => by omega), mkB_list]
  rfl

theorem splitW_word : ∀ (w r cur : List UInt8), (∀ b ∈ w, b ≠ 32) → splitW (w ++ r) cur = splitW r (cur ++ w)
  | [], r, cur, _ => by simp
  | b :: w, r, cur, h => by
    rw [List.cons_append, splitW, if_neg (h b (by simp)), splitW_word w r (cur ++ [b]) (fun x hx => h x (by simp [hx]))]
    simp

theorem splitW_blanks : ∀ (e r : List UInt8), (∀ b ∈ e, b = 32) → splitW (e ++ r) [] = splitW r []
  | [], r, _ => rfl
  | b :: e, r, h => by
    rw [List.cons_append, splitW, if_pos (h b (by simp)), if_pos rfl]
    exact splitW_blanks e r (fun x hx => h x (by simp [hx]))

theorem splitW_end {cur : List UInt8} (h : cur ≠ []) {e : List UInt8} (he : e ≠ []) (hb : ∀ b ∈ e, b = 32) (r : List UInt8) : splitW (e ++ r) cur = cur :: splitW r [] := by
  cases e with
  | nil => exact absurd rfl he
  | cons b e =>
    rw [List.cons_append, splitW, if_pos (hb b (by simp)), if_neg h, splitW_blanks e r (fun x hx => hb x (by simp [hx]))]

/-- A word: at least one byte, no blank, no end of a line, no remark. -/
def WordOk (w : List UInt8) : Prop := w ≠ [] ∧ (∀ b ∈ w, b ≠ 32 ∧ b ≠ 10) ∧ w.headD 0 ≠ 35

theorem splitW_tail (sep : List UInt8) (hs : sep ≠ []) (hb : ∀ b ∈ sep, b = 32) : ∀ (ws : List (List UInt8)) (x : List UInt8), WordOk x → (∀ w ∈ ws, WordOk w) → splitW (Lib.joinTail sep ws) x = x :: ws
  | [], x, hx, _ => by simp [Lib.joinTail, splitW, hx.1]
  | y :: ws, x, hx, h => by
    have hy := h y (by simp)
    have e : Lib.joinTail sep (y :: ws) = sep ++ (y ++ Lib.joinTail sep ws) := by simp [Lib.joinTail]
    rw [e, splitW_end hx.1 hs hb, splitW_word y _ [] (fun b hb' => (hy.2.1 b hb').1), List.nil_append, splitW_tail sep hs hb ws y hy (fun w hw => h w (by simp [hw]))]

theorem splitW_join (sep : List UInt8) (hs : sep ≠ []) (hb : ∀ b ∈ sep, b = 32) (ws : List (List UInt8)) (h : ∀ w ∈ ws, WordOk w) : splitW (Lib.join ws sep) [] = ws := by
  cases ws with
  | nil => rfl
  | cons x ws =>
    rw [Lib.join_cons, splitW_word x _ [] (fun b hb' => ((h x (by simp)).2.1 b hb').1), List.nil_append, splitW_tail sep hs hb ws x (h x (by simp)) (fun w hw => h w (by simp [hw]))]

/-- What a line begins with is its first word's beginning. -/
theorem splitW_first : ∀ (t : List UInt8) (c : UInt8) (cur : List UInt8), ∃ w r, splitW t (c :: cur) = (c :: w) :: r
  | [], c, cur => ⟨cur, [], by simp [splitW]⟩
  | b :: t, c, cur => by
    rw [splitW]
    split
    · rw [if_neg (by simp)]; exact ⟨cur, _, rfl⟩
    · exact splitW_first t c (cur ++ [b])

/-! ### Lines -/

theorem indexByte_at : ∀ (l r : List UInt8), (∀ b ∈ l, b ≠ 10) → Lib.indexByte (l ++ 10 :: r) 10 = l.length
  | [], r, _ => rfl
  | b :: l, r, h => by
    have hb : (b == 10) = false := by simp [h b (by simp)]
    have ih := indexByte_at l r (fun x hx => h x (by simp [hx]))
    rw [List.cons_append, Lib.indexByte, hb, ih]
    have h0 : ((l.length : Int) == -1) = false := by simp
    rw [h0]
    simp

theorem indexByte_no : ∀ (l : List UInt8), (∀ b ∈ l, b ≠ 10) → Lib.indexByte l 10 = -1
  | [], _ => rfl
  | b :: l, h => by
    have hb : (b == 10) = false := by simp [h b (by simp)]
    rw [Lib.indexByte, hb, indexByte_no l (fun x hx => h x (by simp [hx]))]
    rfl

theorem linesP_line (l r : List UInt8) (h : ∀ b ∈ l, b ≠ 10) : linesP (mkB (l ++ 10 :: r)) = mkB l :: linesP (mkB r) := by
  have hn : nlAt (mkB (l ++ 10 :: r)) = l.length := by unfold nlAt; rw [mkB_list, indexByte_at l r h]
  have ha : cutA (mkB (l ++ 10 :: r)) = mkB l := by
    unfold cutA
    rw [hn, if_pos (by omega), ← mkB_data (ByteArray.extract _ _ _), extract_list, mkB_list]
    simp
  have hb : cutB (mkB (l ++ 10 :: r)) = mkB r := by
    unfold cutB
    rw [hn, if_pos (by omega), ← mkB_data (ByteArray.extract _ _ _), extract_list, mkB_list, mkB_size]
    congr 1
    rw [show ((l.length : Int).toNat + 1) = l.length + 1 by simp, List.drop_append, List.drop_of_length_le (by omega), List.nil_append, show l.length + 1 - l.length = 1 by omega, List.drop_succ_cons, List.drop_zero, List.take_of_length_le]
    rw [List.length_append, List.length_cons]
    omega
  rw [linesP_cons (by rw [mkB_size, List.length_append, List.length_cons]; omega), ha, hb]

theorem linesP_last (l : List UInt8) (h : ∀ b ∈ l, b ≠ 10) (h0 : l ≠ []) : linesP (mkB l) = [mkB l] := by
  have hn : nlAt (mkB l) = -1 := by unfold nlAt; rw [mkB_list, indexByte_no l h]
  have hp : 0 < l.length := List.length_pos_iff.2 h0
  rw [linesP_cons (by rw [mkB_size]; exact hp)]
  unfold cutA cutB
  rw [hn, if_neg (by omega), if_neg (by omega), linesP_nil rfl]

theorem linesP_mk0 : linesP (mkB []) = [] := linesP_nil rfl

/-- What the lines of a text say, those that say nothing left out. -/
def saysL (L : List ByteArray) : List (List ByteArray) := (L.map wordsP).filter (fun ws => !rSilent (ws, false))

theorem saysL_nil : saysL [] = [] := rfl
theorem saysL_silent {x : ByteArray} {L : List ByteArray} (h : rSilent (wordsP x, false) = true) : saysL (x :: L) = saysL L := by simp [saysL, h]
theorem saysL_says {x : ByteArray} {L : List ByteArray} (h : rSilent (wordsP x, false) = false) : saysL (x :: L) = wordsP x :: saysL L := by simp [saysL, h]

theorem rfK_nodes (W : Nd → List ByteArray) (nm : ByteArray) : ∀ (L : List ByteArray) (line : Nat) (ns0 ns : List Nd) (ls : List Nat), saysL L = ns.map W → (∀ n ∈ ns, rNode (W n, false) = (n, ([], false))) →
    ∃ ls', rfK L line true nm ns0 ls = (some (nm, ns0 ++ ns, ls'), 0)
  | [], line, ns0, ns, ls, h, _ => by
    cases ns with
    | nil => exact ⟨ls, by simp [rfK]⟩
    | cons n ns => simp [saysL_nil] at h
  | x :: L, line, ns0, ns, ls, h, hr => by
    by_cases hs : rSilent (wordsP x, false) = true
    · rw [saysL_silent hs] at h
      obtain ⟨ls', e⟩ := rfK_nodes W nm L (line + 1) ns0 ns ls h hr
      exact ⟨ls', by rw [rfK, if_pos hs, e]⟩
    · have hs' : rSilent (wordsP x, false) = false := by simpa using hs
      rw [saysL_says hs'] at h
      cases ns with
      | nil => simp at h
      | cons n ns =>
        simp only [List.map_cons, List.cons.injEq] at h
        have hn := hr n (by simp)
        obtain ⟨ls', e⟩ := rfK_nodes W nm L (line + 1) (ns0 ++ [n]) ns (ls ++ [line]) h.2 (fun y hy => hr y (by simp [hy]))
        refine ⟨ls', ?_⟩
        rw [rfK, if_neg hs, if_neg (by simp), h.1, hn]
        simp only [Bool.false_eq_true, if_false]
        rw [e, List.append_assoc]
        rfl

theorem rfK_head (W : Nd → List ByteArray) (nm : ByteArray) (hnm : nameP nm = true) : ∀ (L : List ByteArray) (line : Nat) (ns : List Nd), saysL L = [wfB, nm] :: ns.map W → (∀ n ∈ ns, rNode (W n, false) = (n, ([], false))) →
    ∃ ls', rfK L line false ⟨#[]⟩ [] [] = (some (nm, ns, ls'), 0)
  | [], line, ns, h, _ => by simp [saysL_nil] at h
  | x :: L, line, ns, h, hr => by
    by_cases hs : rSilent (wordsP x, false) = true
    · rw [saysL_silent hs] at h
      obtain ⟨ls', e⟩ := rfK_head W nm hnm L (line + 1) ns h hr
      exact ⟨ls', by rw [rfK, if_pos hs, e]⟩
    · have hs' : rSilent (wordsP x, false) = false := by simpa using hs
      rw [saysL_says hs'] at h
      simp only [List.cons.injEq] at h
      obtain ⟨ls', e⟩ := rfK_nodes W nm L (line + 1) [] ns [] h.2 hr
      have hh : rHead ([wfB, nm], false) = (nm, ([], false)) := by simp [rHead, rTake, rName, rWord, rEnd, hnm]
      refine ⟨ls', ?_⟩
      rw [rfK, if_neg hs, if_pos rfl, h.1, hh]
      simp only [Bool.false_eq_true, if_false]
      rw [e, List.nil_append]

theorem parse_of_says (W : Nd → List ByteArray) {t nm : ByteArray} {ns : List Nd} (hsz : t.size ≤ 16384) (h : saysL (linesP t) = [wfB, nm] :: ns.map W) (hc : (checkP nm ns).2 = 0) (hnm : nameP nm = true) (hr : ∀ n ∈ ns, rNode (W n, false) = (n, ([], false))) :
    parseP t = (some (nm, ns), 0, 0) := by
  unfold parseP
  rw [if_neg (by omega), rlP_fold]
  obtain ⟨ls', e⟩ := rfK_head W nm hnm (linesP t) 1 ns h hr
  rw [e]
  simp only [hc, if_true]

end Go.Proofs.YtlholgpenpfpbaaGreatDoor

/-
  The rows of an order; definitions that are taken; one node more; rings: in which round a node is told when all that may be are told at once. Nothing here speaks of a program.
-/
namespace Go.Proofs.YtlholgpenpfpbaaGreatDoor
open Go.RowKit

/-- Each of T was told at its turn. -/
def Ordd (ns : List Nd) (T : List Nat) : Prop := ∀ k (h : k < T.length), mayB ns (T.take k) (T[k]'h) = true

theorem Ordd.nil (ns : List Nd) : Ordd ns [] := fun k h => by simp at h

theorem Ordd.snoc {ns : List Nd} {T : List Nat} (O : Ordd ns T) {i : Nat} (h : mayB ns T i = true) : Ordd ns (T ++ [i]) := by
  intro k hk
  by_cases e : k < T.length
  · rw [List.getElem_append_left e, List.take_append_of_le_length (by omega)]
    exact O k e
  · have e2 : k = T.length := by simp at hk; omega
    subst e2
    simp only [List.getElem_append_right (Nat.le_refl _), Nat.sub_self, List.getElem_cons_zero, List.take_left]
    exact h

theorem ordK_ordd {ns : List Nd} : ∀ (k : Nat) (T : List Nat), Ordd ns T → Ordd ns (ordK ns k T)
  | 0, T, h => h
  | k + 1, T, h => by
    unfold ordK
    cases hn : nextP ns T with
    | none => exact h
    | some j => exact ordK_ordd k (T ++ [j]) (h.snoc (nextP_is hn).1)

theorem ordP_ordd (ns : List Nd) : Ordd ns (ordP ns) := ordK_ordd _ _ (Ordd.nil ns)

theorem mayB_out {ns : List Nd} {T : List Nat} {i : Nat} (h : mayB ns T i = true) : i ∉ T ∧ ∀ n, ns[i]? = some n → ∀ s ∈ n.after, ∃ j, aheadP ns n s = some j ∧ j ∈ T := by
  have hl := mayB_lt h
  unfold mayB at h
  rw [List.getElem?_eq_getElem hl] at h
  simp only [Bool.and_eq_true, Bool.not_eq_true', decide_eq_true_eq] at h
  refine ⟨by simpa using h.1, fun n hn s hs => ?_⟩
  rw [List.getElem?_eq_getElem hl] at hn
  obtain rfl := Option.some.inj hn
  have h2 := h.2
  unfold need at h2
  rw [List.countP_eq_zero] at h2
  have h3 := h2 s hs
  cases ha : aheadP ns ns[i] s with
  | none => rw [ha] at h3; simp at h3
  | some j => rw [ha] at h3; exact ⟨j, rfl, by simpa using h3⟩

theorem mayB_of {ns : List Nd} {T : List Nat} {i : Nat} (hi : i ∉ T) {n : Nd} (hn : ns[i]? = some n) (h : ∀ s ∈ n.after, ∃ j, aheadP ns n s = some j ∧ j ∈ T) : mayB ns T i = true := by
  unfold mayB
  rw [hn]
  simp only [Bool.and_eq_true, Bool.not_eq_true', decide_eq_true_eq]
  refine ⟨by simpa using hi, ?_⟩
  unfold need
  rw [List.countP_eq_zero]
  intro s hs
  obtain ⟨j, hj, hT⟩ := h s hs
  rw [hj]
  simpa using hT

theorem Ordd.nodup {ns : List Nd} {T : List Nat} (O : Ordd ns T) : T.Nodup := by
  rw [List.nodup_iff_pairwise_ne, List.pairwise_iff_getElem]
  intro i j hi hj hij e
  have := (mayB_out (O j hj)).1
  rw [← e] at this
  exact this (List.mem_take_iff_getElem.2 ⟨i, by omega, rfl⟩)

theorem aheadP_fj {ns : List Nd} {n : Nd} {s : ByteArray} {j : Nat} (h : aheadP ns n s = some j) : fj ns s = j := by
  unfold aheadP at h
  split at h
  · cases h
  · unfold fj; rw [h]; rfl

/-- The rows of the first nodes of an order. -/
structure LevOk (ns : List Nd) (T : List Nat) (R : Nat → Nat) (L : Nat) : Prop where
  none : ∀ x, x ∉ T → R x = 0
  pos : ∀ x, x ∈ T → 1 ≤ R x
  aft : ∀ x, x ∈ T → ∀ n, ns[x]? = some n → ∀ s ∈ n.after, ∃ j, aheadP ns n s = some j ∧ j ∈ T ∧ R j < R x
  top : ∀ x, x ∈ T → R x = 1 ∨ ∃ n, ns[x]? = some n ∧ ∃ s ∈ n.after, ∃ j, aheadP ns n s = some j ∧ R j + 1 = R x
  le : ∀ x, R x ≤ L
  some : L = 0 ∨ ∃ x, x ∈ T ∧ R x = L

theorem curP_new {ns : List Nd} {R : Nat → Nat} {i : Nat} : ∀ (l : List ByteArray) (a : Nat), (∀ s ∈ l, fj ns s ≠ i) →
    a ≤ curP ns R i a l ∧ (∀ s ∈ l, R (fj ns s) ≤ curP ns R i a l) ∧ (curP ns R i a l = a ∨ ∃ s ∈ l, curP ns R i a l = R (fj ns s))
  | [], a, _ => ⟨Nat.le_refl _, fun s h => (by cases h), .inl rfl⟩
  | s :: l, a, h => by
    have hs := h s (List.mem_cons_self ..)
    have ih := curP_new (R := R) l (max a (R (fj ns s))) (fun t ht => h t (List.mem_cons_of_mem _ ht))
    have e : curP ns R i a (s :: l) = curP ns R i (max a (R (fj ns s))) l := by
      show curP ns R i (max a (if fj ns s = i then a else R (fj ns s))) l = _
      rw [if_neg hs]
    rw [e]
    obtain ⟨h1, h2, h3⟩ := ih
    refine ⟨by omega, fun t ht => ?_, ?_⟩
    · rcases List.mem_cons.1 ht with rfl | ht
      · omega
      · exact h2 t ht
    · rcases h3 with h3 | ⟨t, ht, h3⟩
      · by_cases c : a ≤ R (fj ns s)
        · exact .inr ⟨s, List.mem_cons_self .., by rw [h3]; omega⟩
        · left; rw [h3]; omega
      · exact .inr ⟨t, List.mem_cons_of_mem _ ht, h3⟩

theorem LevOk.step {ns : List Nd} {T : List Nat} {R : Nat → Nat} {L i : Nat} (O : LevOk ns T R L) (h : mayB ns T i = true) : LevOk ns (T ++ [i]) (depStep ns (R, L) i).1 (depStep ns (R, L) i).2 := by
  have hl := mayB_lt h
  have hn := List.getElem?_eq_getElem hl
  obtain ⟨hi, ha⟩ := mayB_out h
  have ha := ha _ hn
  unfold depStep
  rw [hn]
  simp only []
  have h0 := O.none i hi
  rw [h0]
  have hne : ∀ s ∈ (ns[i]).after, fj ns s ≠ i := fun s hs e => by
    obtain ⟨j, hj, hT⟩ := ha s hs
    rw [aheadP_fj hj] at e
    subst e
    exact hi hT
  obtain ⟨c1, c2, c3⟩ := curP_new (R := R) (ns[i]).after 0 hne
  have hcL : curP ns R i 0 (ns[i]).after ≤ L := curP_le O.le _ _ (Nat.zero_le _)
  have mi : ∀ x, x ∈ T → x ≠ i := fun x hx e => hi (e ▸ hx)
  refine ⟨fun x hx => ?_, fun x hx => ?_, fun x hx n hxn s hs => ?_, fun x hx => ?_, fun x => ?_, ?_⟩
  · simp at hx
    show (if x = i then _ else _) = _
    rw [if_neg hx.2]
    exact O.none x hx.1
  · show 1 ≤ (if x = i then _ else _)
    split
    · omega
    · rename_i e
      rcases List.mem_append.1 hx with hx | hx
      · exact O.pos x hx
      · simp at hx; exact absurd hx e
  · rcases List.mem_append.1 hx with hx | hx
    · obtain ⟨j, hj, hT, hlt⟩ := O.aft x hx n hxn s hs
      refine ⟨j, hj, List.mem_append_left _ hT, ?_⟩
      rw [if_neg (mi _ hT), if_neg (mi _ hx)]
      exact hlt
    · simp at hx; subst hx
      rw [hn] at hxn
      obtain rfl := Option.some.inj hxn
      obtain ⟨j, hj, hT⟩ := ha s hs
      refine ⟨j, hj, List.mem_append_left _ hT, ?_⟩
      rw [if_neg (mi _ hT), if_pos rfl]
      have := c2 s hs
      rw [aheadP_fj hj] at this
      omega
  · rcases List.mem_append.1 hx with hx | hx
    · rw [if_neg (mi _ hx)]
      rcases O.top x hx with h1 | ⟨n, hxn, s, hs, j, hj, h1⟩
      · exact .inl h1
      · obtain ⟨j', hj', hT', _⟩ := O.aft x hx n hxn s hs
        rw [hj] at hj'
        obtain rfl := Option.some.inj hj'
        exact .inr ⟨n, hxn, s, hs, j, hj, by rw [if_neg (mi _ hT')]; exact h1⟩
    · simp at hx; subst hx
      rw [if_pos rfl]
      rcases c3 with c3 | ⟨s, hs, c3⟩
      · left; omega
      · obtain ⟨j, hj, hT⟩ := ha s hs
        rw [aheadP_fj hj] at c3
        exact .inr ⟨_, hn, s, hs, j, hj, by rw [if_neg (mi _ hT), c3]⟩
  · show (if x = i then _ else _) ≤ max _ _
    have := O.le x
    split <;> omega
  · right
    by_cases c : L ≤ curP ns R i 0 (ns[i]).after + 1
    · exact ⟨i, by simp, by show (if i = i then _ else _) = max _ _; rw [if_pos rfl]; omega⟩
    · rcases O.some with e | ⟨x, hx, e⟩
      · omega
      · refine ⟨x, List.mem_append_left _ hx, ?_⟩
        show (if x = i then _ else _) = max _ _
        rw [if_neg (mi _ hx)]
        omega

theorem lev_take {ns : List Nd} {T : List Nat} (O : Ordd ns T) : ∀ k, k ≤ T.length → LevOk ns (T.take k) (depK ns (T.take k)).1 (depK ns (T.take k)).2
  | 0, _ => ⟨fun _ _ => rfl, fun x h => by simp at h, fun x h => by simp at h, fun x h => by simp at h, fun _ => Nat.zero_le _, .inl rfl⟩
  | k + 1, h => by
    have hk : k < T.length := by omega
    have e : T.take (k + 1) = T.take k ++ [T[k]] := by rw [List.take_add_one, List.getElem?_eq_getElem hk]; rfl
    rw [e, depK_snoc]
    exact (lev_take O k (by omega)).step (O k hk)

theorem lev_all {ns : List Nd} {T : List Nat} (O : Ordd ns T) : LevOk ns T (depK ns T).1 (depK ns T).2 := by
  have := lev_take O T.length (Nat.le_refl _)
  rwa [List.take_length] at this

/-- In which round a node is told when all that may be are told at once. -/
def rowP (ns : List Nd) (x : Nat) : Nat := (depK ns (ordP ns)).1 x

theorem mem_full : ∀ {n : Nat} {l : List Nat}, l.Nodup → (∀ i ∈ l, i < n) → l.length = n → ∀ i, i < n → i ∈ l := by
  intro n l h1 h2 h3 i hi
  by_cases hm : i ∈ l
  · exact hm
  · exfalso
    have h4 : (i :: l).Nodup := List.nodup_cons.2 ⟨hm, h1⟩
    have h5 := nodup_le h4 (fun j hj => by rcases List.mem_cons.1 hj with rfl | hj; exact hi; exact h2 j hj)
    simp at h5
    omega

theorem lev_ord (ns : List Nd) : LevOk ns (ordP ns) (rowP ns) (depP ns) := lev_all (ordP_ordd ns)

theorem ord_all {ns : List Nd} (h : (ordP ns).length = ns.length) : ∀ i, i < ns.length → i ∈ ordP ns := mem_full (ordP_ordd ns).nodup (ordP_lt ns) h

/-- The nodes that may begin when those with a mark are over, and have begun. -/
def readyB (ns : List Nd) (over begun : Nat → Bool) (i : Nat) : Bool := !begun i && match ns[i]? with | some n => n.after.all (fun s => match aheadP ns n s with | some j => over j | none => false) | none => false
def readyP (ns : List Nd) (over begun : Nat → Bool) : List Nat := (List.range ns.length).filter (readyB ns over begun)

theorem readyB_row {ns : List Nd} (h : (ordP ns).length = ns.length) (r : Nat) {i : Nat} (hi : i < ns.length) : readyB ns (fun x => decide (rowP ns x ≤ r)) (fun x => decide (rowP ns x ≤ r)) i = decide (rowP ns i = r + 1) := by
  have O := lev_ord ns
  have hm := ord_all h i hi
  have hn := List.getElem?_eq_getElem hi
  unfold readyB
  rw [hn]
  by_cases c : rowP ns i = r + 1
  · simp only [c, decide_true, Bool.and_eq_true, List.all_eq_true]
    refine ⟨by simp, fun s hs => ?_⟩
    obtain ⟨j, hj, _, hlt⟩ := O.aft i hm _ hn s hs
    rw [hj]
    simp only [decide_eq_true_eq]
    omega
  · simp only [c, decide_false, Bool.and_eq_false_iff, Bool.not_eq_false', decide_eq_true_eq]
    by_cases c2 : rowP ns i ≤ r
    · exact .inl c2
    · right
      rw [List.all_eq_false]
      have := O.pos i hm
      rcases O.top i hm with h1 | ⟨n, hxn, s, hs, j, hj, h1⟩
      · omega
      · rw [hn] at hxn
        obtain rfl := Option.some.inj hxn
        refine ⟨s, hs, ?_⟩
        rw [hj]
        simp only [decide_eq_true_eq]
        omega

theorem readyP_row {ns : List Nd} (h : (ordP ns).length = ns.length) (r : Nat) : readyP ns (fun x => decide (rowP ns x ≤ r)) (fun x => decide (rowP ns x ≤ r)) = (List.range ns.length).filter (fun i => decide (rowP ns i = r + 1)) := by
  unfold readyP
  apply List.filter_congr
  intro x hx
  exact readyB_row h r (List.mem_range.1 hx)

/-- No row is left out. -/
theorem row_each {ns : List Nd} (h : (ordP ns).length = ns.length) : ∀ d r, r + d + 1 = depP ns → ∃ x, x < ns.length ∧ rowP ns x = r + 1
  | 0, r, e => by
    rcases (lev_ord ns).some with h0 | ⟨x, hx, h1⟩
    · omega
    · exact ⟨x, ordP_lt ns x hx, by omega⟩
  | d + 1, r, e => by
    obtain ⟨x, hx, h1⟩ := row_each h d (r + 1) (by omega)
    have O := lev_ord ns
    have hm := ord_all h x hx
    rcases O.top x hm with h2 | ⟨n, hxn, s, hs, j, hj, h2⟩
    · omega
    · obtain ⟨j', hj', hT', _⟩ := O.aft x hm n hxn s hs
      rw [hj] at hj'
      obtain rfl := Option.some.inj hj'
      exact ⟨j, ordP_lt ns j hT', by omega⟩

theorem ready_some {ns : List Nd} (h : (ordP ns).length = ns.length) {r : Nat} (hr : r < depP ns) : 0 < ((List.range ns.length).filter (fun i => decide (rowP ns i = r + 1))).length := by
  obtain ⟨x, hx, h1⟩ := row_each h (depP ns - r - 1) r (by omega)
  exact List.length_pos_of_mem (List.mem_filter.2 ⟨List.mem_range.2 hx, by simpa using h1⟩)

/-- How many have been told. -/
def cntP (ns : List Nd) (r : Nat) : Nat := (List.range ns.length).countP (fun i => decide (rowP ns i ≤ r))

theorem cntP_zero {ns : List Nd} (h : (ordP ns).length = ns.length) : cntP ns 0 = 0 := by
  unfold cntP
  rw [List.countP_eq_zero]
  intro x hx
  have := (lev_ord ns).pos x (ord_all h x (List.mem_range.1 hx))
  simp only [decide_eq_true_eq]
  omega

theorem cntP_next (ns : List Nd) (r : Nat) : cntP ns (r + 1) = cntP ns r + ((List.range ns.length).filter (fun i => decide (rowP ns i = r + 1))).length := by
  unfold cntP
  rw [← List.countP_eq_length_filter]
  induction List.range ns.length with
  | nil => rfl
  | cons x l ih =>
    simp only [List.countP_cons, ih, decide_eq_true_eq]
    split <;> split <;> split <;> omega

theorem cntP_all (ns : List Nd) : cntP ns (depP ns) = ns.length := by
  unfold cntP
  rw [List.countP_eq_length.2, List.length_range]
  intro x _
  simpa using (lev_ord ns).le x

theorem cntP_le (ns : List Nd) (r : Nat) : cntP ns r ≤ ns.length := by
  unfold cntP
  have := List.countP_le_length (p := fun i => decide (rowP ns i ≤ r)) (l := List.range ns.length)
  simpa using this


/-- A definition that is taken. -/
structure Taken (name : ByteArray) (ns : List Nd) : Prop where
  name : nameP name = true
  lo : 1 ≤ ns.length
  hi : ns.length ≤ 32
  nod : ∀ i (h : i < ns.length), nodeE ns i (ns[i]'h) = 0
  aft : ∀ i (h : i < ns.length), afterE ns (ns[i]'h) = 0
  ord : (ordP ns).length = ns.length

theorem firstE_none {f : Nat → Int} : ∀ {n}, firstE f n = none → ∀ i, i < n → f i = 0
  | 0, _, i, hi => by omega
  | n + 1, h, i, hi => by
    unfold firstE at h
    cases hn : firstE f n with
    | some x => rw [hn] at h; cases h
    | none =>
      rw [hn] at h
      by_cases e : f n = 0
      · by_cases e2 : i = n
        · subst e2; exact e
        · exact firstE_none hn i (by omega)
      · simp [e] at h

theorem firstE_some {f : Nat → Int} : ∀ {n} {x : Nat × Int}, firstE f n = some x → x.2 ≠ 0
  | 0, x, h => by cases h
  | n + 1, x, h => by
    unfold firstE at h
    cases hn : firstE f n with
    | some y => rw [hn] at h; cases h; exact firstE_some hn
    | none =>
      rw [hn] at h
      by_cases e : f n = 0
      · simp [e] at h
      · simp [e] at h; subst h; exact e

theorem firstE_zero {f : Nat → Int} : ∀ {n}, (∀ i, i < n → f i = 0) → firstE f n = none
  | 0, _ => rfl
  | n + 1, h => by
    unfold firstE
    rw [firstE_zero (fun i hi => h i (by omega))]
    simp [h n (by omega)]

theorem taken_of {name : ByteArray} {ns : List Nd} (h : (checkP name ns).2 = 0) : Taken name ns := by
  rw [checkP_eq] at h
  cases g0 : nameP name with
  | false => rw [if_pos g0] at h; simp at h
  | true =>
    rw [if_neg (by rw [g0]; simp)] at h
    by_cases c : ns.length < 1 ∨ 32 < ns.length
    · rw [if_pos c] at h; simp at h
    · rw [if_neg c] at h
      cases h1 : firstE (nodeAt ns) ns.length with
      | some x => rw [h1] at h; exact absurd h (firstE_some h1)
      | none =>
        rw [h1] at h
        cases h2 : firstE (aftAt ns) ns.length with
        | some x => rw [h2] at h; exact absurd h (firstE_some h2)
        | none =>
          rw [h2] at h
          by_cases h3 : (ordP ns).length = ns.length
          · refine ⟨g0, by omega, by omega, fun i hi => ?_, fun i hi => ?_, h3⟩
            · have := firstE_none h1 i hi
              unfold nodeAt at this
              rw [List.getElem?_eq_getElem hi] at this
              exact this
            · have := firstE_none h2 i hi
              unfold aftAt at this
              rw [List.getElem?_eq_getElem hi] at this
              exact this
          · simp [h3] at h

theorem Taken.check {name : ByteArray} {ns : List Nd} (T : Taken name ns) : checkP name ns = (-1, 0) := by
  have h1 : firstE (nodeAt ns) ns.length = none := firstE_zero (fun i hi => by
    unfold nodeAt; rw [List.getElem?_eq_getElem hi]; exact T.nod i hi)
  have h2 : firstE (aftAt ns) ns.length = none := firstE_zero (fun i hi => by
    unfold aftAt; rw [List.getElem?_eq_getElem hi]; exact T.aft i hi)
  have := T.lo
  have := T.hi
  rw [checkP_eq, if_neg (by rw [T.name]; simp), if_neg (by omega), h1, h2]
  simp only []
  rw [if_pos T.ord]

/-- What is wrong but for the order. -/
theorem check_loop {name : ByteArray} {ns : List Nd} (h0 : nameP name = true) (hl : 1 ≤ ns.length) (hh : ns.length ≤ 32) (hn : ∀ i (h : i < ns.length), nodeE ns i (ns[i]'h) = 0) (ha : ∀ i (h : i < ns.length), afterE ns (ns[i]'h) = 0)
    (ho : (ordP ns).length ≠ ns.length) : checkP name ns = (-1, 15) := by
  have h1 : firstE (nodeAt ns) ns.length = none := firstE_zero (fun i hi => by
    unfold nodeAt; rw [List.getElem?_eq_getElem hi]; exact hn i hi)
  have h2 : firstE (aftAt ns) ns.length = none := firstE_zero (fun i hi => by
    unfold aftAt; rw [List.getElem?_eq_getElem hi]; exact ha i hi)
  rw [checkP_eq, if_neg (by rw [h0]; simp), if_neg (by omega), h1, h2]
  simp only []
  rw [if_neg ho]

theorem nodeE_ok {ns : List Nd} {i : Nat} {n : Nd} (h : nodeE ns i n = 0) : namedP n = true ∧ i ≤ (findP ns n.name).getD 0 ∧ fitsP n = true := by
  unfold nodeE at h
  split at h
  · rename_i h1
    split at h
    · simp at h
    · rename_i h2
      split at h
      · rename_i h3; exact ⟨h1, by omega, h3⟩
      · simp at h
  · simp at h

theorem nodeE_of {ns : List Nd} {i : Nat} {n : Nd} (h1 : namedP n = true) (h2 : i ≤ (findP ns n.name).getD 0) (h3 : fitsP n = true) : nodeE ns i n = 0 := by
  unfold nodeE
  rw [if_pos h1, if_neg (by omega), if_pos h3]

theorem afterE_ok {ns : List Nd} {n : Nd} (h : afterE ns n = 0) : (∀ s ∈ n.after, (findP ns s).isSome = true) ∧ n.after.Nodup := by
  unfold afterE at h
  split at h
  · rename_i h1
    split at h
    · rename_i h2; exact ⟨by simpa using h1, h2⟩
    · simp at h
  · simp at h

theorem afterE_of {ns : List Nd} {n : Nd} (h1 : ∀ s ∈ n.after, (findP ns s).isSome = true) (h2 : n.after.Nodup) : afterE ns n = 0 := by
  unfold afterE
  rw [if_pos (by simpa using h1), if_pos h2]

theorem findP_mem {ns : List Nd} {n : Nd} (h : n ∈ ns) : (findP ns n.name).isSome = true := by
  cases hf : findP ns n.name with
  | none => exact absurd rfl (findP_none.1 hf n h)
  | some _ => rfl

theorem Taken.self {name : ByteArray} {ns : List Nd} (T : Taken name ns) {i : Nat} (hi : i < ns.length) : findP ns (ns[i]).name = some i := by
  have h1 := findP_mem (List.getElem_mem hi)
  obtain ⟨j, hj⟩ := Option.isSome_iff_exists.1 h1
  have h2 := (nodeE_ok (T.nod i hi)).2.1
  rw [hj] at h2
  simp at h2
  by_cases e : j = i
  · rw [hj, e]
  · exact absurd rfl (findP_first hj (j := i) (by omega))

theorem Taken.inj {name : ByteArray} {ns : List Nd} (T : Taken name ns) {i j : Nat} (hi : i < ns.length) (hj : j < ns.length) (h : (ns[i]).name = (ns[j]).name) : i = j := by
  have h1 := T.self hi
  rw [h, T.self hj] at h1
  exact (Option.some.inj h1).symm

/-- One node more. -/
theorem findP_snoc (ns : List Nd) (z : Nd) (s : ByteArray) : findP (ns ++ [z]) s = (findP ns s).or (if z.name = s then some ns.length else none) := by
  unfold findP
  rw [List.findIdx?_append]
  congr 1
  by_cases h : z.name = s <;> simp [h]

theorem findP_snoc_some {ns : List Nd} (z : Nd) {s : ByteArray} (h : (findP ns s).isSome = true) : findP (ns ++ [z]) s = findP ns s := by
  rw [findP_snoc]
  obtain ⟨j, hj⟩ := Option.isSome_iff_exists.1 h
  rw [hj]; rfl

theorem aheadP_snoc {ns : List Nd} (z n : Nd) {s : ByteArray} (h : (findP ns s).isSome = true) : aheadP (ns ++ [z]) n s = aheadP ns n s := by
  unfold aheadP
  rw [findP_snoc_some z h]

theorem need_snoc {ns : List Nd} (z n : Nd) (T : List Nat) (h : ∀ s ∈ n.after, (findP ns s).isSome = true) : need (ns ++ [z]) T n = need ns T n := by
  unfold need
  apply List.countP_congr
  intro s hs
  rw [aheadP_snoc z n (h s hs)]

theorem mayB_snoc {ns : List Nd} (z : Nd) (T : List Nat) {i : Nat} (hi : i < ns.length) (h : ∀ s ∈ (ns[i]).after, (findP ns s).isSome = true) : mayB (ns ++ [z]) T i = mayB ns T i := by
  unfold mayB
  rw [List.getElem?_append_left hi, List.getElem?_eq_getElem hi]
  simp only []
  rw [need_snoc z _ T h]

theorem nextP_snoc {ns : List Nd} (z : Nd) {T : List Nat} (h : ∀ i (hi : i < ns.length), ∀ s ∈ (ns[i]).after, (findP ns s).isSome = true) {j : Nat} (hj : nextP ns T = some j) : nextP (ns ++ [z]) T = some j := by
  obtain ⟨h1, h2⟩ := nextP_is hj
  have hl := mayB_lt h1
  refine nextP_some (by rw [mayB_snoc z T hl (h j hl)]; exact h1) (fun k hk => ?_)
  have hkl : k < ns.length := by omega
  rw [mayB_snoc z T hkl (h k hkl)]
  exact h2 k hk

theorem ordK_snoc {ns : List Nd} (z : Nd) (h : ∀ i (hi : i < ns.length), ∀ s ∈ (ns[i]).after, (findP ns s).isSome = true) (m : Nat) : ∀ (k : Nat) (T : List Nat), (ordK ns k T).length = T.length + k → ordK (ns ++ [z]) (k + m) T = ordK (ns ++ [z]) m (ordK ns k T)
  | 0, T, _ => by simp [ordK]
  | k + 1, T, hlen => by
    rw [show k + 1 + m = (k + m) + 1 by omega]
    unfold ordK at hlen
    cases hn : nextP ns T with
    | none => rw [hn] at hlen; simp only [] at hlen; omega
    | some j =>
      rw [hn] at hlen
      simp only [] at hlen
      have e1 : ordK (ns ++ [z]) ((k + m) + 1) T = ordK (ns ++ [z]) (k + m) (T ++ [j]) := by
        rw [ordK, nextP_snoc z h hn]
      have e2 : ordK ns (k + 1) T = ordK ns k (T ++ [j]) := by rw [ordK, hn]
      rw [e1, e2]
      exact ordK_snoc z h m k (T ++ [j]) (by rw [hlen]; simp; omega)

/-- A node that stands behind all others is the last one. -/
theorem ordP_grow {name : ByteArray} {ns : List Nd} (T : Taken name ns) (z : Nd) (hz : z.after = ns.map (·.name)) (hf : findP ns z.name = none) : ordP (ns ++ [z]) = ordP ns ++ [ns.length] := by
  have ha : ∀ i (hi : i < ns.length), ∀ s ∈ (ns[i]).after, (findP ns s).isSome = true := fun i hi => (afterE_ok (T.aft i hi)).1
  have e : ordP (ns ++ [z]) = ordK (ns ++ [z]) 1 (ordP ns) := by
    unfold ordP
    rw [List.length_append]
    exact ordK_snoc z ha 1 ns.length [] (by have := T.ord; unfold ordP at this; rw [this]; simp)
  rw [e]
  have hall := ord_all T.ord
  have hnx : nextP (ns ++ [z]) (ordP ns) = some ns.length := by
    refine nextP_some ?_ (fun j hj => ?_)
    · refine mayB_of (n := z) (fun hm => absurd (ordP_lt ns _ hm) (Nat.lt_irrefl _)) (by simp) (fun s hs => ?_)
      rw [hz] at hs
      obtain ⟨n, hn, rfl⟩ := List.mem_map.1 hs
      have h1 := findP_mem hn
      obtain ⟨j, hj⟩ := Option.isSome_iff_exists.1 h1
      refine ⟨j, ?_, hall j (findP_lt hj)⟩
      unfold aheadP
      rw [if_neg (fun e => by rw [e, hf] at h1; cases h1), findP_snoc_some z h1, hj]
    · rw [mayB_snoc z _ hj (ha j hj)]
      unfold mayB
      simp [hall j hj]
  rw [ordK, hnx]
  rfl

theorem depK_snocNs {ns : List Nd} (z : Nd) (h : ∀ i (hi : i < ns.length), ∀ s ∈ (ns[i]).after, (findP ns s).isSome = true) : ∀ (od : List Nat), (∀ i ∈ od, i < ns.length) → ∀ st, od.foldl (depStep (ns ++ [z])) st = od.foldl (depStep ns) st
  | [], _, _ => rfl
  | i :: od, hod, st => by
    have hi := hod i (List.mem_cons_self ..)
    have hc : ∀ (l : List ByteArray) (R : Nat → Nat) (a : Nat), (∀ s ∈ l, (findP ns s).isSome = true) → curP (ns ++ [z]) R i a l = curP ns R i a l := by
      intro l R
      induction l with
      | nil => intro a _; rfl
      | cons s l ih =>
        intro a hs
        have e : fj (ns ++ [z]) s = fj ns s := by unfold fj; rw [findP_snoc_some z (hs s (List.mem_cons_self ..))]
        show curP (ns ++ [z]) R i (max a (if fj (ns ++ [z]) s = i then a else R (fj (ns ++ [z]) s))) l = curP ns R i (max a (if fj ns s = i then a else R (fj ns s))) l
        rw [e]
        exact ih _ (fun t ht => hs t (List.mem_cons_of_mem _ ht))
    have e : depStep (ns ++ [z]) st i = depStep ns st i := by
      unfold depStep
      rw [List.getElem?_append_left hi, List.getElem?_eq_getElem hi]
      simp only []
      rw [hc _ _ _ (h i hi)]
    rw [List.foldl_cons, List.foldl_cons, e]
    exact depK_snocNs z h od (fun k hk => hod k (List.mem_cons_of_mem _ hk)) _

theorem depP_grow {name : ByteArray} {ns : List Nd} (T : Taken name ns) (z : Nd) (hz : z.after = ns.map (·.name)) (hf : findP ns z.name = none) : depP (ns ++ [z]) = depP ns + 1 := by
  have ha : ∀ i (hi : i < ns.length), ∀ s ∈ (ns[i]).after, (findP ns s).isSome = true := fun i hi => (afterE_ok (T.aft i hi)).1
  have e : depK (ns ++ [z]) (ordP ns) = depK ns (ordP ns) := depK_snocNs z ha (ordP ns) (ordP_lt ns) _
  unfold depP
  rw [ordP_grow T z hz hf, depK_snoc, e]
  have O := lev_ord ns
  unfold depStep
  rw [show (ns ++ [z])[ns.length]? = some z by simp]
  simp only []
  have h0 : (depK ns (ordP ns)).1 ns.length = 0 := O.none ns.length (fun hm => absurd (ordP_lt ns _ hm) (Nat.lt_irrefl _))
  rw [h0]
  have hfj : ∀ s ∈ z.after, ∃ j, j < ns.length ∧ fj (ns ++ [z]) s = j := fun s hs => by
    rw [hz] at hs
    obtain ⟨n, hn, rfl⟩ := List.mem_map.1 hs
    have h1 := findP_mem hn
    obtain ⟨j, hj⟩ := Option.isSome_iff_exists.1 h1
    exact ⟨j, findP_lt hj, by unfold fj; rw [findP_snoc_some z h1, hj]; rfl⟩
  obtain ⟨c1, c2, c3⟩ := curP_new (ns := ns ++ [z]) (R := (depK ns (ordP ns)).1) (i := ns.length) z.after 0 (fun s hs e => by obtain ⟨j, hj, he⟩ := hfj s hs; omega)
  have hL : ∀ x, (depK ns (ordP ns)).1 x ≤ (depK ns (ordP ns)).2 := O.le
  have hle : curP (ns ++ [z]) (depK ns (ordP ns)).1 ns.length 0 z.after ≤ (depK ns (ordP ns)).2 := curP_le hL _ _ (Nat.zero_le _)
  have hge : (depK ns (ordP ns)).2 ≤ curP (ns ++ [z]) (depK ns (ordP ns)).1 ns.length 0 z.after := by
    rcases O.some with h | ⟨x, hx, hxe⟩
    · have h' : (depK ns (ordP ns)).2 = 0 := h
      omega
    · have hxl := ordP_lt ns x hx
      have hm : (ns[x]).name ∈ z.after := by rw [hz]; exact List.mem_map.2 ⟨_, List.getElem_mem hxl, rfl⟩
      have h1 := c2 _ hm
      have h2 : fj (ns ++ [z]) (ns[x]).name = x := by
        unfold fj
        rw [findP_snoc_some z (findP_mem (List.getElem_mem hxl)), T.self hxl]; rfl
      rw [h2] at h1
      have hxe' : (depK ns (ordP ns)).1 x = (depK ns (ordP ns)).2 := hxe
      omega
  omega

theorem taken_grow {name : ByteArray} {ns : List Nd} (T : Taken name ns) (h9 : ns.length ≤ 9) (z : Nd) (hz : z.after = ns.map (·.name)) (hf : findP ns z.name = none) (hn : namedP z = true) (hfit : fitsP z = true) : Taken name (ns ++ [z]) := by
  have ho := ordP_grow T z hz hf
  refine ⟨T.name, by simp, by simp; omega, fun i hi => ?_, fun i hi => ?_, by rw [ho]; simp [T.ord]⟩
  · by_cases e : i < ns.length
    · rw [List.getElem_append_left e]
      obtain ⟨h1, h2, h3⟩ := nodeE_ok (T.nod i e)
      exact nodeE_of h1 (by rw [findP_snoc_some z (findP_mem (List.getElem_mem e))]; exact h2) h3
    · have e2 : i = ns.length := by simp at hi; omega
      subst e2
      simp only [List.getElem_append_right (Nat.le_refl _), Nat.sub_self, List.getElem_cons_zero]
      exact nodeE_of hn (by rw [findP_snoc, hf]; simp) hfit
  · by_cases e : i < ns.length
    · rw [List.getElem_append_left e]
      obtain ⟨h1, h2⟩ := afterE_ok (T.aft i e)
      exact afterE_of (fun s hs => by rw [findP_snoc_some z (h1 s hs)]; exact h1 s hs) h2
    · have e2 : i = ns.length := by simp at hi; omega
      subst e2
      simp only [List.getElem_append_right (Nat.le_refl _), Nat.sub_self, List.getElem_cons_zero]
      refine afterE_of (fun s hs => ?_) ?_
      · rw [hz] at hs
        obtain ⟨n, hn, rfl⟩ := List.mem_map.1 hs
        rw [findP_snoc_some z (findP_mem hn)]
        exact findP_mem hn
      · rw [hz, List.nodup_iff_pairwise_ne, List.pairwise_iff_getElem]
        intro i j hi hj hij e
        simp only [List.getElem_map] at e
        simp at hi hj
        have := T.inj hi hj e
        omega

/-- No name in its After means itself. -/
theorem Taken.few {name : ByteArray} {ns : List Nd} (T : Taken name ns) {i : Nat} (hi : i < ns.length) : (ns[i]).after.length ≤ ns.length := by
  obtain ⟨h1, h2⟩ := afterE_ok (T.aft i hi)
  have h3 : ((ns[i]).after.map (fj ns)).Nodup := by
    rw [List.nodup_iff_pairwise_ne, List.pairwise_iff_getElem]
    intro p q hp hq hpq e
    simp only [List.getElem_map] at e
    simp at hp hq
    have f1 := h1 _ (List.getElem_mem hp)
    have f2 := h1 _ (List.getElem_mem hq)
    obtain ⟨j1, g1⟩ := Option.isSome_iff_exists.1 f1
    obtain ⟨j2, g2⟩ := Option.isSome_iff_exists.1 f2
    unfold fj at e
    rw [g1, g2] at e
    simp at e
    subst e
    have n1 := findP_name g1
    have n2 := findP_name g2
    rw [n1] at n2
    have := (List.nodup_iff_pairwise_ne.1 h2)
    rw [List.pairwise_iff_getElem] at this
    exact this p q hp hq hpq n2
  have h4 := nodup_le h3 (n := ns.length) (fun k hk => by
    obtain ⟨s, hs, rfl⟩ := List.mem_map.1 hk
    obtain ⟨j, hj⟩ := Option.isSome_iff_exists.1 (h1 s hs)
    unfold fj; rw [hj]; exact findP_lt hj)
  simpa using h4


/-- From b one comes to a by going to what stands ahead. -/
inductive Path (ns : List Nd) (b : Nat) : Nat → Prop
  | refl : Path ns b b
  | step {i j : Nat} {n : Nd} {s : ByteArray} : Path ns b i → ns[i]? = some n → s ∈ n.after → findP ns s = some j → Path ns b j

/-- Node a gets one more name in its After. -/
def addA (n : Nd) (s : ByteArray) : Nd := { n with after := n.after ++ [s] }
def loopNs (ns : List Nd) (a : Nat) (s : ByteArray) : List Nd := ns.modify a (fun n => addA n s)

theorem loopNs_len (ns : List Nd) (a : Nat) (s : ByteArray) : (loopNs ns a s).length = ns.length := by unfold loopNs; simp

theorem loopNs_at {ns : List Nd} {a : Nat} {s : ByteArray} {i : Nat} : (loopNs ns a s)[i]? = (ns[i]?).map (fun n => if a = i then addA n s else n) := by
  unfold loopNs
  rw [List.getElem?_modify]
  cases ns[i]? <;> rfl

theorem findP_names : ∀ {l m : List Nd}, l.map (·.name) = m.map (·.name) → ∀ s, findP l s = findP m s := by
  intro l m h s
  have e : ∀ (l : List Nd), findP l s = (l.map (·.name)).findIdx? (fun n => decide (n = s)) := fun l => by
    unfold findP
    rw [List.findIdx?_map]
    rfl
  rw [e, e, h]

theorem loopNs_names (ns : List Nd) (a : Nat) (s : ByteArray) : (loopNs ns a s).map (·.name) = ns.map (·.name) := by
  apply List.ext_getElem?
  intro i
  rw [List.getElem?_map, List.getElem?_map, loopNs_at]
  cases ns[i]? with
  | none => rfl
  | some n => by_cases e : a = i <;> simp [e, addA]

theorem loopNs_find (ns : List Nd) (a : Nat) (s t : ByteArray) : findP (loopNs ns a s) t = findP ns t := findP_names (loopNs_names ns a s) t

theorem aheadP_find {ns : List Nd} {n : Nd} {s : ByteArray} {j : Nat} (h : aheadP ns n s = some j) : findP ns s = some j := by
  unfold aheadP at h
  split at h
  · cases h
  · exact h

theorem loop_not {name : ByteArray} {ns : List Nd} (T : Taken name ns) {a b : Nat} (ha : a < ns.length) (hb : b < ns.length) (P : Path ns b a) : (ordP (loopNs ns a (ns[b]).name)).length ≠ (loopNs ns a (ns[b]).name).length := by
  intro hf
  have O := lev_ord (loopNs ns a (ns[b]).name)
  have hall := ord_all hf
  rw [loopNs_len] at hall
  have hle : ∀ j, Path ns b j → j < ns.length ∧ rowP (loopNs ns a (ns[b]).name) j ≤ rowP (loopNs ns a (ns[b]).name) b := by
    intro j p
    induction p with
    | refl => exact ⟨hb, Nat.le_refl _⟩
    | @step i j n s p hn hs hj ih =>
      obtain ⟨hi, hle⟩ := ih
      have hm := hall i hi
      have hn' : (loopNs ns a (ns[b]).name)[i]? = some (if a = i then addA n (ns[b]).name else n) := by rw [loopNs_at, hn]; rfl
      obtain ⟨j', hj', _, hlt⟩ := O.aft i hm _ hn' s (by split; (exact List.mem_append_left _ hs); exact hs)
      have e : j' = j := by
        have hj'' := aheadP_find hj'
        rw [loopNs_find, hj] at hj''
        exact (Option.some.inj hj'').symm
      subst e
      exact ⟨findP_lt hj, by omega⟩
  have h1 := (hle a P).2
  have hn' : (loopNs ns a (ns[b]).name)[a]? = some (addA ns[a] (ns[b]).name) := by rw [loopNs_at, List.getElem?_eq_getElem ha]; simp
  obtain ⟨j', hj', _, hlt⟩ := O.aft a (hall a ha) _ hn' (ns[b]).name (List.mem_append_right _ (by simp))
  have e : j' = b := by
    have hj'' := aheadP_find hj'
    rw [loopNs_find, T.self hb] at hj''
    exact (Option.some.inj hj'').symm
  subst e
  omega

theorem loop_check {name : ByteArray} {ns : List Nd} (T : Taken name ns) {a b : Nat} (ha : a < ns.length) (hb : b < ns.length) (P : Path ns b a) (hm : (ns[b]).name ∉ (ns[a]).after) : checkP name (loopNs ns a (ns[b]).name) = (-1, 15) := by
  have hl := loopNs_len ns a (ns[b]).name
  have hat : ∀ i (h : i < (loopNs ns a (ns[b]).name).length), ∃ hi : i < ns.length, (loopNs ns a (ns[b]).name)[i] = if a = i then addA ns[i] (ns[b]).name else ns[i] := fun i h => by
    have hi : i < ns.length := by omega
    refine ⟨hi, ?_⟩
    have := loopNs_at (ns := ns) (a := a) (s := (ns[b]).name) (i := i)
    rw [List.getElem?_eq_getElem h, List.getElem?_eq_getElem hi] at this
    exact Option.some.inj this
  refine check_loop T.name (by have := T.lo; omega) (by have := T.hi; omega) (fun i h => ?_) (fun i h => ?_) (loop_not T ha hb P)
  · obtain ⟨hi, e⟩ := hat i h
    obtain ⟨h1, h2, h3⟩ := nodeE_ok (T.nod i hi)
    rw [e]
    refine nodeE_of ?_ ?_ ?_
    · split; (exact h1); exact h1
    · rw [loopNs_find]; split; (exact h2); exact h2
    · split; (exact h3); exact h3
  · obtain ⟨hi, e⟩ := hat i h
    obtain ⟨h1, h2⟩ := afterE_ok (T.aft i hi)
    rw [e]
    by_cases c : a = i
    · subst c
      rw [if_pos rfl]
      refine afterE_of (fun s hs => ?_) ?_
      · rw [loopNs_find]
        rcases List.mem_append.1 hs with hs | hs
        · exact h1 s hs
        · simp at hs; subst hs; exact findP_mem (List.getElem_mem hb)
      · show ((ns[a]).after ++ [(ns[b]).name]).Nodup
        rw [List.nodup_append]
        exact ⟨h2, by simp, fun x hx y hy e => by simp at hy; subst hy; subst e; exact hm hx⟩
    · rw [if_neg c]
      exact afterE_of (fun s hs => by rw [loopNs_find]; exact h1 s hs) h2

end Go.Proofs.YtlholgpenpfpbaaGreatDoor

/-
  A node's words as they are written, and read again; a definition's text, and the same with more blanks, empty lines and remarks. Nothing here speaks of a program.
-/
namespace Go.Proofs.YtlholgpenpfpbaaGreatDoor
open Go.RowKit

def itB (z : Int) : ByteArray := mkB (Lib.itoa z)

def kindW (n : Nd) : List ByteArray :=
  if n.kind = 1 then [actB, n.arg] ++ ((if n.tries = 1 then [] else [triB, itB n.tries]) ++ (if n.delay = 0 then [] else [tmoB, itB n.delay]))
  else if n.kind = 2 then [timB, itB n.delay]
  else if n.kind = 3 then [chiB, n.arg]
  else if n.kind = 4 then [waiB, n.arg]
  else if n.kind = 5 then [senB, n.to, n.arg]
  else []
def aftW (l : List ByteArray) : List ByteArray := if l = [] then [] else aftB :: l
/-- The words of a node's line. -/
def wordsW (n : Nd) : List ByteArray := n.name :: (kindW n ++ aftW n.after)

/-! ### Numbers -/

theorem digitVal_of {d : Nat} (h : d < 10) : Lib.digitVal (UInt8.ofNat (48 + d)) = some d := by
  unfold Lib.digitVal
  have : (UInt8.ofNat (48 + d)).toNat = 48 + d := by rw [UInt8.toNat_ofNat']; omega
  rw [this, if_pos ⟨by omega, by omega⟩]
  congr 1
  omega

theorem decFrom_append : ∀ (l r : List UInt8) (a n : Nat), Lib.decFrom a l = some n → Lib.decFrom a (l ++ r) = Lib.decFrom n r
  | [], r, a, n, h => by simp [Lib.decFrom] at h; rw [h]; rfl
  | b :: l, r, a, n, h => by
    rw [List.cons_append, Lib.decFrom]
    rw [Lib.decFrom] at h
    cases hd : Lib.digitVal b with
    | none => rw [hd] at h; cases h
    | some d => rw [hd] at h; exact decFrom_append l r _ n h

theorem dec_back : ∀ (f u : Nat), u ≤ f → Lib.decFrom 0 (Lib.decDigits u) = some u ∧ (Lib.decDigits u ≠ []) ∧ (∀ b ∈ Lib.decDigits u, digitsB.data.toList.contains b = true) ∧ (Lib.decDigits u = [48] ∨ (Lib.decDigits u).headD 0 ≠ 48)
  | f, u, hf => by
    have hdig : ∀ d, d < 10 → digitsB.data.toList.contains (UInt8.ofNat (48 + d)) = true := by decide
    have hne48 : ∀ d, d < 10 → d ≠ 0 → UInt8.ofNat (48 + d) ≠ 48 := by decide
    rw [Lib.decDigits]
    by_cases h : u < 10
    · rw [dif_pos h]
      refine ⟨?_, by simp, fun b hb => ?_, ?_⟩
      · rw [Lib.decFrom, digitVal_of h]
        simp [Lib.decFrom]
      · rw [List.mem_singleton] at hb; rw [hb]; exact hdig u h
      · by_cases h0 : u = 0
        · left; rw [h0]; rfl
        · right; exact hne48 u h h0
    · rw [dif_neg h]
      cases f with
      | zero => omega
      | succ f =>
        obtain ⟨i1, i2, i3, i4⟩ := dec_back f (u / 10) (by omega)
        refine ⟨?_, by simp, fun b hb => ?_, ?_⟩
        · rw [decFrom_append _ _ _ _ i1]
          simp only [Lib.decFrom, digitVal_of (show u % 10 < 10 by omega)]
          congr 1
          omega
        · rw [List.mem_append] at hb
          rcases hb with hb | hb
          · exact i3 b hb
          · rw [List.mem_singleton] at hb; rw [hb]; exact hdig _ (by omega)
        · right
          cases hl : Lib.decDigits (u / 10) with
          | nil => exact absurd hl i2
          | cons b r =>
            rw [List.cons_append, List.headD_cons]
            rcases i4 with e | e
            · rw [e] at i1
              simp [Lib.decFrom, Lib.digitVal] at i1
              omega
            · rw [hl] at e; exact e

theorem dec_short (u : Nat) (h : u < 1000000000000000) : (Lib.decDigits u).length ≤ 15 := by
  rw [Lib.decDigits_length]
  have key : ∀ (k u : Nat), u < 10 ^ (k + 1) → Lib.nDigits u ≤ k + 1 := by
    intro k
    induction k with
    | zero => intro u hu; rw [← Lib.decDigits_length, Lib.decDigits, dif_pos (by omega)]; simp
    | succ k ih =>
      intro u hu
      rw [← Lib.decDigits_length, Lib.decDigits]
      split
      · simp
      · rw [List.length_append, Lib.decDigits_length]
        have := ih (u / 10) (by rw [Nat.pow_succ] at hu; omega)
        simp only [List.length_singleton]
        omega
  exact key 14 u (by omega)

theorem num_back {z : Int} (h0 : 0 ≤ z) (h1 : z ≤ 1000000) : numP (itB z) = true ∧ numV (itB z) = z := by
  obtain ⟨u, rfl⟩ : ∃ u : Nat, z = u := ⟨z.toNat, by omega⟩
  have e : Lib.itoa (u : Int) = Lib.decDigits u := by unfold Lib.itoa; rw [if_neg (by omega)]; simp
  obtain ⟨b1, b2, b3, b4⟩ := dec_back u u (Nat.le_refl _)
  have hs := dec_short u (by omega)
  have hp : 0 < (Lib.decDigits u).length := List.length_pos_iff.2 b2
  have hm : madeP (itB (u : Int)) digitsB 15 = true := by
    unfold madeP itB
    rw [mkB_size, mkB_list, e]
    simp only [Bool.and_eq_true, decide_eq_true_eq, List.all_eq_true]
    exact ⟨⟨by omega, by omega⟩, b3⟩
  refine ⟨?_, ?_⟩
  · unfold numP
    rw [hm, Bool.true_and]
    unfold itB
    rw [mkB_list, e]
    rcases b4 with h | h
    · rw [h]; rfl
    · rw [Bool.or_eq_true]
      right
      rw [Bool.not_eq_true', beq_eq_false_iff_ne]
      exact h
  · have ha := (num_atoi hm).1
    unfold itB at ha ⊢
    rw [mkB_list, e] at ha
    unfold numV
    rw [mkB_list, e]
    cases hl : Lib.decDigits u with
    | nil => exact absurd hl b2
    | cons b r =>
      have hb := b3 b (by rw [hl]; simp)
      have e1 : (b == 45) = false := by
        cases hh : (b == 45) with
        | false => rfl
        | true => rw [beq_iff_eq] at hh; subst hh; simp [digitsB] at hb
      have e2 : (b == 43) = false := by
        cases hh : (b == 43) with
        | false => rfl
        | true => rw [beq_iff_eq] at hh; subst hh; simp [digitsB] at hb
      rw [hl] at b1
      simp only [Lib.atoi, e1, e2, Bool.false_eq_true, if_false, Lib.decNat]
      rw [show (List.isEmpty (b :: r)) = false from rfl]
      simp only [Bool.false_eq_true, if_false]
      rw [b1]
      rfl

theorem dig_word (z : Int) (h0 : 0 ≤ z) : WordOk (Lib.itoa z) := by
  obtain ⟨u, rfl⟩ : ∃ u : Nat, z = u := ⟨z.toNat, by omega⟩
  have e : Lib.itoa (u : Int) = Lib.decDigits u := by unfold Lib.itoa; rw [if_neg (by omega)]; simp
  obtain ⟨_, b2, b3, _⟩ := dec_back u u (Nat.le_refl _)
  have key : ∀ b, digitsB.data.toList.contains b = true → b ≠ 32 ∧ b ≠ 10 ∧ b ≠ 35 := by
    intro b hb
    refine ⟨?_, ?_, ?_⟩ <;> (rintro rfl; revert hb; decide)
  rw [e]
  refine ⟨b2, fun b hb => ⟨(key b (b3 b hb)).1, (key b (b3 b hb)).2.1⟩, ?_⟩
  cases hl : Lib.decDigits u with
  | nil => exact absurd hl b2
  | cons b r => exact (key b (b3 b (by rw [hl]; simp))).2.2

/-! ### Names -/

theorem made_word {s l : ByteArray} {m : Int} (hl : ∀ b ∈ l.data.toList, b ≠ 32 ∧ b ≠ 10 ∧ b ≠ 35) (h : madeP s l m = true) : WordOk s.data.toList := by
  unfold madeP at h
  simp only [Bool.and_eq_true, decide_eq_true_eq, List.all_eq_true] at h
  obtain ⟨⟨h1, _⟩, h3⟩ := h
  have hlen : s.data.toList.length = s.size := by simp
  have key : ∀ b ∈ s.data.toList, b ≠ 32 ∧ b ≠ 10 ∧ b ≠ 35 := fun b hb => hl b (by simpa using h3 b hb)
  have hne : s.data.toList ≠ [] := by intro e; rw [e] at hlen; simp at hlen; omega
  refine ⟨hne, fun b hb => ⟨(key b hb).1, (key b hb).2.1⟩, ?_⟩
  cases hs : s.data.toList with
  | nil => exact absurd hs hne
  | cons b r => exact (key b (by rw [hs]; simp)).2.2

theorem name_word {s : ByteArray} (h : nameP s = true) : WordOk s.data.toList := made_word (by decide) h
theorem flow_word {s : ByteArray} (h : flowP s = true) : WordOk s.data.toList := made_word (by decide) h
theorem lit_words : (WordOk actB.data.toList ∧ WordOk timB.data.toList ∧ WordOk chiB.data.toList ∧ WordOk waiB.data.toList ∧ WordOk senB.data.toList) ∧ WordOk triB.data.toList ∧ WordOk tmoB.data.toList ∧ WordOk aftB.data.toList ∧ WordOk wfB.data.toList := by
  unfold WordOk
  decide

/-! ### A definition that is right -/

structure NdRight (n : Nd) : Prop where
  named : namedP n = true
  fits : fitsP n = true
  after : ∀ s ∈ n.after, nameP s = true

theorem check_right {nm : ByteArray} {ns : List Nd} (h : (checkP nm ns).2 = 0) : nameP nm = true ∧ ns.length ≤ 32 ∧ 1 ≤ ns.length ∧ ∀ n ∈ ns, NdRight n ∧ n.after.length ≤ 32 := by
  have T := taken_of h
  have node : ∀ k (hk : k < ns.length), namedP ns[k] = true ∧ fitsP ns[k] = true := by
    intro k hk
    have e := T.nod k hk
    unfold nodeE at e
    split at e
    · rename_i hnamed
      split at e
      · simp at e
      · split at e
        · rename_i hf; exact ⟨hnamed, hf⟩
        · simp at e
    · simp at e
  refine ⟨T.name, T.hi, T.lo, fun n hmem => ?_⟩
  obtain ⟨k, hk, rfl⟩ := List.mem_iff_getElem.1 hmem
  obtain ⟨n1, n2⟩ := node k hk
  refine ⟨⟨n1, n2, fun s hs => ?_⟩, by have := T.few hk; have := T.hi; omega⟩
  have e := T.aft k hk
  unfold afterE at e
  split at e
  · rename_i hall
    have := List.all_eq_true.1 hall s hs
    obtain ⟨j, hj⟩ := Option.isSome_iff_exists.1 this
    have := (node j (findP_lt hj)).1
    rw [← findP_name hj]
    unfold namedP at this
    simp only [Bool.and_eq_true] at this
    exact this.1.1
  · simp at e

end Go.Proofs.YtlholgpenpfpbaaGreatDoor
