/-
  The law's cut: its walk.
-/
import Derived.Test.YtlholgpenpfpbaaDoorB08
import Derived.Test.YtlholgpenpfpbaaDoorB06
import Derived.Test.YtlholgpenpfpbaaDoorB05
import Derived.Test.YtlholgpenpfpbaaDoorB02
import Derived.Deep.RegionHeld3
import Derived.Lib.MapLaws
import Derived.Deep.QuietTactic
import Derived.BigQuiet
namespace Go.Proofs.YtlholgpenpfpbaaDoor
open Go.RowKit

theorem heap_alloc_new2 (w : World) (o o' : Obj) : ((w.alloc o).alloc o').heap[w.heap.size + 1]? = some o' := by
  have h := heap_alloc_new (w.alloc o) o'
  rw [World.size_alloc] at h
  exact h

theorem cut_short {w : World} {v : Value} {n : Nd} (T : TextsAt w v n.after) (h : n.after.length ≤ 10) : TextsAt w v (cutN n).after := by
  have hq : (cutN n).after = n.after := List.take_of_length_le h
  rw [hq]
  exact T

set_option maxRecDepth 100000 in
set_option maxHeartbeats 4000000 in
theorem cutA_any (w : World) (name : ByteArray) (a : Option Addr) (n c : Nat) (ms : List Nd) (R : RawAt w a ms) (hn : ms.length = n) (hc : n ≤ c) (h40 : n ≤ 40) :
    Calls Tryd.prog 11 #[.agg #[.string name, .slice a n c]] w fun e w' => ∃ a' c', e = .returned (.agg #[.string name, .slice a' n c']) ∧ NodesAt w' a' (ms.map cutN) ∧ n ≤ c' ∧ Kept (fun _ => False) w w' := by
  obtain ⟨i0, hi0, hz0, hz1, hz2⟩ := info_parts Tryd.info44
  have HR : Hid (RawAt w a ms) := R
  have HN : Hid (ms.length = n) := hn
  have HS : Hid (CutJ w ((w.alloc (.cells #[.string name, .slice a n c] 26)).alloc (.cells #[.string ⟨#[]⟩, .slice none 0 0] 26)) name a c ms 0 none 0 []) := by
    show CutJ _ _ _ _ _ _ _ _ _ _
    have h1 := heap_alloc_new (w.alloc (.cells #[.string name, .slice a n c] 26)) (.cells #[.string ⟨#[]⟩, .slice none 0 0] 26)
    rw [World.size_alloc] at h1
    exact ⟨Nat.zero_le _, World.ownsRow_nil _ _ _ _, rfl, fun j _ h => by simp at h, (Kept.alloc _ _ _).and (Kept.alloc _ _ _), by rw [Below.heap_alloc _ _ _ (by simp), heap_alloc_new, hn], h1⟩
  clear R hn
  have e40 : ¬ (40 : Int) < (n : Int) := by omega
  go_enter Tryd.func11, Tryd.ntmps11
  go_wp2
  go_loopw [3, 4] (fun l i wr => ∃ (k : Nat) (a' : Option Addr) (c' : Nat) (vs : List Value), i = .int .i64 k ∧ l = .slice a' k c' ∧ Hid (CutJ w wr name a c ms k a' c' vs)) (fun _ i _ => n - (intOf i).toNat)
  case atStart => exact ⟨0, none, 0, [], rfl, rfl, HS⟩
  case round =>
    obtain ⟨k, a', c', vs, rfl, rfl, J⟩ := hrel
    obtain ⟨⟨y0, y1⟩, f0, f1⟩ := twoC J.out.b0
    rw [HN.out] at y1
    have hkn : k ≤ n := by have := J.out.le; rw [HN.out] at this; exact this
    by_cases hlt : k < n
    · have e1 : (k : Int) < (n : Int) := by omega
      have hk : k < ms.length := by rw [HN.out]; exact hlt
      obtain ⟨b, o, av, cv, ea, T, x0, x1, x2, x3, x4, x5, x6⟩ := HR.out.at hk
      subst ea
      have HT : Hid (TextsAt w (.slice av (ms[k]).after.length cv) (ms[k]).after) := T
      have hcv : (ms[k]).after.length ≤ cv := by obtain ⟨_, _, e, h, _⟩ := T; simp only [Value.slice.injEq] at e; omega
      have G := J.out.kept
      replace x0 := keepC G x0 (fun _ _ h => h)
      replace x1 := keepC G x1 (fun _ _ h => h)
      replace x2 := keepC G x2 (fun _ _ h => h)
      replace x3 := keepC G x3 (fun _ _ h => h)
      replace x4 := keepC G x4 (fun _ _ h => h)
      replace x5 := keepC G x5 (fun _ _ h => h)
      replace x6 := keepC G x6 (fun _ _ h => h)
      have hsz : w.heap.size + 2 ≤ wr.heap.size := by have := (Array.getElem?_eq_some_iff.1 J.out.b1).1; omega
      clear T G
      have hpush := fun (v : Value) (T : TextsAt w v (cutN ms[k]).after) (wq w3 : World) (a3 : Option Addr) (c3 : Nat) (hq : Kept (fun _ => False) wr wq) => J.out.push (a3 := a3) (c3 := c3) (w3 := w3) hk T hq
      have HP : Hid _ := hpush
      clear hpush
      generalize ms[k] = nd at *
      by_cases h10 : 10 < nd.after.length
      · have e2 : (10 : Int) < (nd.after.length : Int) := by omega
        go_wp2_with (first
          | (at_builtin; refine wpList_append_src _ rfl _ _ 24 rfl (w.heap.size + 2) 44 i0 _ 7 96 Tryd.underlying24 hi0 hz0 hz1 hz2 rfl (by decide) (.slice a' k c') k _ rfl ((J.out.row.alloc _).alloc _) _ rfl 1 _ (.inl ⟨_, 1, rfl, rfl, World.news_of_block (heap_alloc_new2 _ _ _)⟩) (ndC_one (cutN nd) av 10 cv) (by unfold maxLen; omega) (by omega) (by simp; omega) ?_; intro a3 cap3 w3 ho3 hg3 _ hl3)
          | fail)
        go_roundw
        case rel => exact ⟨k + 1, a3, cap3, _, by go_num, rfl, HP.out _ (HT.out.take (by omega)) _ w3 a3 cap3 ((Kept.alloc _ _ _).and (Kept.alloc _ _ _)) ho3 hg3⟩
        case measure => simp [intOf]; omega
      · have e2 : ¬ (10 : Int) < (nd.after.length : Int) := by omega
        go_wp2_with (first
          | (at_builtin; refine wpList_append_src _ rfl _ _ 24 rfl (w.heap.size + 2) 44 i0 _ 7 96 Tryd.underlying24 hi0 hz0 hz1 hz2 rfl (by decide) (.slice a' k c') k _ rfl ((J.out.row.alloc _).alloc _) _ rfl 1 _ (.inl ⟨_, 1, rfl, rfl, World.news_of_block (heap_alloc_new2 _ _ _)⟩) (ndC_one (cutN nd) av nd.after.length cv) (by unfold maxLen; omega) (by omega) (by simp; omega) ?_; intro a3 cap3 w3 ho3 hg3 _ hl3)
          | fail)
        go_roundw
        case rel => exact ⟨k + 1, a3, cap3, _, by go_num, rfl, HP.out _ (cut_short HT.out (by omega)) _ w3 a3 cap3 ((Kept.alloc _ _ _).and (Kept.alloc _ _ _)) ho3 hg3⟩
        case measure => simp [intOf]; omega
    · obtain rfl : k = n := by omega
      have e1 : ¬ (k : Int) < (k : Int) := by omega
      obtain ⟨⟨r0, r1⟩, s0, s1⟩ := twoC J.out.b1
      have hbB := (Array.getElem?_eq_some_iff.1 J.out.b1).1
      have HJ := J
      clear hlt
      go_wp2
      have k1 : Kept (fun j => j = w.heap.size) wr (wr.setCell ⟨w.heap.size, 1, none⟩ (.slice a' k c')) := Kept.setCell _ _ _ rfl
      have b2 := put2 ((k1.block (w.heap.size + 1) hbB (by omega)).trans HJ.out.b1) (.string name) (.slice a' k c')
      have kk : Kept (fun j => j = w.heap.size ∨ j = w.heap.size + 1) wr (((wr.setCell ⟨w.heap.size, 1, none⟩ (.slice a' k c')).setCell ⟨w.heap.size + 1, 0, none⟩ (.string name)).setCell ⟨w.heap.size + 1, 1, none⟩ (.slice a' k c')) := ((k1.mono (fun _ h => .inl h)).and (Kept.setCell _ _ _ (.inr rfl))).and (Kept.setCell _ _ _ (.inr rfl))
      generalize (((wr.setCell ⟨w.heap.size, 1, none⟩ (.slice a' k c')).setCell ⟨w.heap.size + 1, 0, none⟩ (.string name)).setCell ⟨w.heap.size + 1, 1, none⟩ (.slice a' k c')) = V at *
      obtain ⟨⟨g0, g1⟩, _, _⟩ := twoC b2
      refine bodyPost_ret (by simp [results, Tryd.results11, go_sem, g0, g1]; try rfl) rfl ?_
      have KW : Kept (fun _ => False) w V := HJ.out.kept.trans kk (fun i h => .inr (by omega))
      obtain ⟨q1, q2⟩ := HJ.out.nodes HR.out HN.out.symm (kk.mono (fun j h => by omega)) KW
      exact ⟨a', c', rfl, q1, q2, KW⟩

theorem RawAt.take {w : World} {a : Option Addr} {ns : List Nd} (R : RawAt w a ns) (m : Nat) : RawAt w a (ns.take m) := by
  refine ⟨fun n h => R.1 n (List.mem_of_mem_take h), ?_⟩
  rcases R.2 with h | ⟨b, o, h, hc⟩
  · left; rw [h]; simp
  · refine .inr ⟨b, o, h, fun i hi => ?_⟩
    have hi2 : i < ns.length := by rw [List.length_take] at hi; omega
    have := hc i hi2
    rw [List.getElem_take]
    exact this

set_option maxRecDepth 100000 in
set_option maxHeartbeats 4000000 in
theorem cutB_any (w : World) (name : ByteArray) (a : Option Addr) (n c : Nat) (ns : List Nd) (R0 : RawAt w a ns) (hn0 : ns.length = n) (hc : n ≤ c) (h40 : 40 < n) :
    Calls Tryd.prog 11 #[.agg #[.string name, .slice a n c]] w fun e w' => ∃ a' c', e = .returned (.agg #[.string name, .slice a' 40 c']) ∧ NodesAt w' a' ((ns.take 40).map cutN) ∧ 40 ≤ c' ∧ Kept (fun _ => False) w w' := by
  obtain ⟨i0, hi0, hz0, hz1, hz2⟩ := info_parts Tryd.info44
  have R := R0.take 40
  have hn : (ns.take 40).length = 40 := by rw [List.length_take]; omega
  generalize ns.take 40 = ms at *
  have HR : Hid (RawAt w a ms) := R
  have HN : Hid (ms.length = 40) := hn
  have e40 : (40 : Int) < (n : Int) := by omega
  have HS : Hid (CutJ w ((w.alloc (.cells #[.string name, .slice a 40 c] 26)).alloc (.cells #[.string ⟨#[]⟩, .slice none 0 0] 26)) name a c ms 0 none 0 []) := by
    show CutJ _ _ _ _ _ _ _ _ _ _
    exact ⟨Nat.zero_le _, World.ownsRow_nil _ _ _ _, rfl, fun j _ h => by simp at h, (Kept.alloc _ _ _).and (Kept.alloc _ _ _), by rw [Below.heap_alloc _ _ _ (by simp), heap_alloc_new, hn], heap_alloc_new2 _ _ _⟩
  clear R hn R0 hn0
  go_enter Tryd.func11, Tryd.ntmps11
  go_wp2
  go_loopw [3, 4] (fun l i wr => ∃ (k : Nat) (a' : Option Addr) (c' : Nat) (vs : List Value), i = .int .i64 k ∧ l = .slice a' k c' ∧ Hid (CutJ w wr name a c ms k a' c' vs)) (fun _ i _ => 40 - (intOf i).toNat)
  case atStart => exact ⟨0, none, 0, [], rfl, rfl, HS⟩
  case round =>
    obtain ⟨k, a', c', vs, rfl, rfl, J⟩ := hrel
    obtain ⟨⟨y0, y1⟩, f0, f1⟩ := twoC J.out.b0
    rw [HN.out] at y1
    have hkn : k ≤ 40 := by have := J.out.le; rw [HN.out] at this; exact this
    by_cases hlt : k < 40
    · have e1 : (k : Int) < (40 : Int) := by omega
      have hk : k < ms.length := by rw [HN.out]; exact hlt
      obtain ⟨b, o, av, cv, ea, T, x0, x1, x2, x3, x4, x5, x6⟩ := HR.out.at hk
      subst ea
      have HT : Hid (TextsAt w (.slice av (ms[k]).after.length cv) (ms[k]).after) := T
      have hcv : (ms[k]).after.length ≤ cv := by obtain ⟨_, _, e, h, _⟩ := T; simp only [Value.slice.injEq] at e; omega
      have G := J.out.kept
      replace x0 := keepC G x0 (fun _ _ h => h)
      replace x1 := keepC G x1 (fun _ _ h => h)
      replace x2 := keepC G x2 (fun _ _ h => h)
      replace x3 := keepC G x3 (fun _ _ h => h)
      replace x4 := keepC G x4 (fun _ _ h => h)
      replace x5 := keepC G x5 (fun _ _ h => h)
      replace x6 := keepC G x6 (fun _ _ h => h)
      have hsz : w.heap.size + 2 ≤ wr.heap.size := by have := (Array.getElem?_eq_some_iff.1 J.out.b1).1; omega
      clear T G
      have hpush := fun (v : Value) (T : TextsAt w v (cutN ms[k]).after) (wq w3 : World) (a3 : Option Addr) (c3 : Nat) (hq : Kept (fun _ => False) wr wq) => J.out.push (a3 := a3) (c3 := c3) (w3 := w3) hk T hq
      have HP : Hid _ := hpush
      clear hpush
      generalize ms[k] = nd at *
      by_cases h10 : 10 < nd.after.length
      · have e2 : (10 : Int) < (nd.after.length : Int) := by omega
        go_wp2_with (first
          | (at_builtin; refine wpList_append_src _ rfl _ _ 24 rfl (w.heap.size + 2) 44 i0 _ 7 96 Tryd.underlying24 hi0 hz0 hz1 hz2 rfl (by decide) (.slice a' k c') k _ rfl ((J.out.row.alloc _).alloc _) _ rfl 1 _ (.inl ⟨_, 1, rfl, rfl, World.news_of_block (heap_alloc_new2 _ _ _)⟩) (ndC_one (cutN nd) av 10 cv) (by unfold maxLen; omega) (by omega) (by simp; omega) ?_; intro a3 cap3 w3 ho3 hg3 _ hl3)
          | fail)
        go_roundw
        case rel => exact ⟨k + 1, a3, cap3, _, by go_num, rfl, HP.out _ (HT.out.take (by omega)) _ w3 a3 cap3 ((Kept.alloc _ _ _).and (Kept.alloc _ _ _)) ho3 hg3⟩
        case measure => simp [intOf]; omega
      · have e2 : ¬ (10 : Int) < (nd.after.length : Int) := by omega
        go_wp2_with (first
          | (at_builtin; refine wpList_append_src _ rfl _ _ 24 rfl (w.heap.size + 2) 44 i0 _ 7 96 Tryd.underlying24 hi0 hz0 hz1 hz2 rfl (by decide) (.slice a' k c') k _ rfl ((J.out.row.alloc _).alloc _) _ rfl 1 _ (.inl ⟨_, 1, rfl, rfl, World.news_of_block (heap_alloc_new2 _ _ _)⟩) (ndC_one (cutN nd) av nd.after.length cv) (by unfold maxLen; omega) (by omega) (by simp; omega) ?_; intro a3 cap3 w3 ho3 hg3 _ hl3)
          | fail)
        go_roundw
        case rel => exact ⟨k + 1, a3, cap3, _, by go_num, rfl, HP.out _ (cut_short HT.out (by omega)) _ w3 a3 cap3 ((Kept.alloc _ _ _).and (Kept.alloc _ _ _)) ho3 hg3⟩
        case measure => simp [intOf]; omega
    · obtain rfl : k = 40 := by omega
      have e1 : ¬ (40 : Int) < (40 : Int) := by omega
      obtain ⟨⟨r0, r1⟩, s0, s1⟩ := twoC J.out.b1
      have hbB := (Array.getElem?_eq_some_iff.1 J.out.b1).1
      have HJ := J
      clear hlt
      go_wp2
      have k1 : Kept (fun j => j = w.heap.size) wr (wr.setCell ⟨w.heap.size, 1, none⟩ (.slice a' 40 c')) := Kept.setCell _ _ _ rfl
      have b2 := put2 ((k1.block (w.heap.size + 1) hbB (by omega)).trans HJ.out.b1) (.string name) (.slice a' 40 c')
      have kk : Kept (fun j => j = w.heap.size ∨ j = w.heap.size + 1) wr (((wr.setCell ⟨w.heap.size, 1, none⟩ (.slice a' 40 c')).setCell ⟨w.heap.size + 1, 0, none⟩ (.string name)).setCell ⟨w.heap.size + 1, 1, none⟩ (.slice a' 40 c')) := ((k1.mono (fun _ h => .inl h)).and (Kept.setCell _ _ _ (.inr rfl))).and (Kept.setCell _ _ _ (.inr rfl))
      generalize (((wr.setCell ⟨w.heap.size, 1, none⟩ (.slice a' 40 c')).setCell ⟨w.heap.size + 1, 0, none⟩ (.string name)).setCell ⟨w.heap.size + 1, 1, none⟩ (.slice a' 40 c')) = V at *
      obtain ⟨⟨g0, g1⟩, _, _⟩ := twoC b2
      refine bodyPost_ret (by simp [results, Tryd.results11, go_sem, g0, g1]; try rfl) rfl ?_
      have KW : Kept (fun _ => False) w V := HJ.out.kept.trans kk (fun i h => .inr (by omega))
      obtain ⟨q1, q2⟩ := HJ.out.nodes HR.out HN.out.symm (kk.mono (fun j h => by omega)) KW
      exact ⟨a', c', rfl, q1, q2, KW⟩

/-- cut, for every definition. -/
theorem lawCut_any (w : World) (name : ByteArray) (a : Option Addr) (n c : Nat) (ns : List Nd) (R : RawAt w a ns) (hn : ns.length = n) (hc : n ≤ c) :
    Calls Tryd.prog 11 #[.agg #[.string name, .slice a n c]] w fun e w' => ∃ a' c', e = .returned (.agg #[.string name, .slice a' (cutNs ns).length c']) ∧ NodesAt w' a' (cutNs ns) ∧ (cutNs ns).length ≤ c' ∧ Kept (fun _ => False) w w' := by
  unfold cutNs
  by_cases h : n ≤ 40
  · have e : ns.take 40 = ns := List.take_of_length_le (by omega)
    rw [e, List.length_map, hn]
    exact cutA_any w name a n c ns R hn hc h
  · have e : (ns.take 40).length = 40 := by rw [List.length_take]; omega
    rw [List.length_map, e]
    exact cutB_any w name a n c ns R hn hc (by omega)

end Go.Proofs.YtlholgpenpfpbaaDoor

/-
  A definition handed in by value; its box, written over by the cut one.
-/
namespace Go.Proofs.YtlholgpenpfpbaaDoor
open Go.ChangeShapes Go.WideShapes Go.ChangeAt Go.RowKit Go.Deep

theorem array2 {α : Type} {cs : Array α} (h : cs.size = 2) : ∃ c0 c1, cs = #[c0, c1] := by
  obtain ⟨l⟩ := cs
  match l, h with
  | [c0, c1], _ => exact ⟨c0, c1, rfl⟩

set_option maxRecDepth 100000 in
theorem dv_open {H : Type} {enc : TypeId × Value → H} {W : World} {base b0 : Nat} {r : Reach} {held : Bool} {v : Value} {d : DataW H} {p : List MemPlace}
    (hv : Value.okWide Tryd.prog W r b0 26 v) (h : DataW.Trod enc Tryd.prog W base (fun _ => true) held 26 v d p) :
    ∃ (name : ByteArray) (a : Option Addr) (c : Nat) (ns : List Nd), v = .agg #[.string name, .slice a ns.length c] ∧ name.size ≤ maxLen ∧ ns.length ≤ c ∧ c ≤ maxLen ∧ RawAt W a ns := by
  obtain ⟨cs, rfl, hsz⟩ := okWide_struct Tryd.underlying26 hv
  obtain ⟨c0, c1, rfl⟩ := array2 (hsz.trans (by kernel_rfl))
  obtain ⟨fuel, hf⟩ := h
  obtain ⟨e0, e1, name, ns, e, R⟩ := def_open (cs := [c0, c1]) hf rfl
  obtain ⟨rfl, hn, a, c, rfl, h1, h2, h3⟩ := R
  simp only [List.cons.injEq, and_true] at e
  obtain ⟨rfl, rfl⟩ := e
  exact ⟨name, a, c, ns, rfl, hn, h1, h2, h3⟩

/-- The box of a definition is written over. -/
theorem NodesAt.boxed {w : World} {g n c n' c' : Nat} {name : ByteArray} {a a' : Option Addr} {ms : List Nd} (hb : w.heap[g]? = some (.cells #[.string name, .slice a n c] 26 (0, 0))) (N : NodesAt w a' ms) :
    NodesAt ((w.setCell ⟨g, 0, none⟩ (.string name)).setCell ⟨g, 1, none⟩ (.slice a' n' c')) a' ms := by
  have hcell : ∀ o, w.cell? ⟨g, o, none⟩ = (#[Value.string name, .slice a n c] : Array Value)[o]? := fun o => by simp [World.cell?, hb]
  have hb2 := put2 hb (.string name) (.slice a' n' c')
  have hnew : ((w.setCell ⟨g, 0, none⟩ (.string name)).setCell ⟨g, 1, none⟩ (.slice a' n' c')).cell? ⟨g, 0, none⟩ = some (.string name) := by simp [World.cell?, hb2]
  have hne : ∀ b o, b ≠ g → ((w.setCell ⟨g, 0, none⟩ (.string name)).setCell ⟨g, 1, none⟩ (.slice a' n' c')).cell? ⟨b, o, none⟩ = w.cell? ⟨b, o, none⟩ := fun b o h => World.cell?_of_block (((Below.heap_setCell _ _ _ _ (fun e => h e)).trans (Below.heap_setCell _ _ _ _ (fun e => h e))))
  refine ⟨N.1, ?_⟩
  rcases N.2 with h | ⟨b, o, h, hc⟩
  · exact .inl h
  · refine .inr ⟨b, o, h, fun i hi => ?_⟩
    obtain ⟨v, hv, hw⟩ := hc i hi
    have hbg : b ≠ g := by
      intro e
      subst e
      have h6 := hw 6 v rfl
      rw [hcell] at h6
      have := (Array.getElem?_eq_some_iff.1 h6).1
      simp at this
      omega
    refine ⟨v, ?_, fun j u hu => by rw [hne _ _ hbg]; exact hw j u hu⟩
    obtain ⟨a2, c2, e, h1, h2, h3, h4⟩ := hv
    refine ⟨a2, c2, e, h1, h2, ?_, h4⟩
    rcases h3 with h | ⟨b2, o2, h, hc2⟩
    · exact .inl h
    · refine .inr ⟨b2, o2, h, fun j u hu => ?_⟩
      have hx := hc2 j u hu
      by_cases e : b2 = g
      · subst e
        obtain ⟨s, rfl⟩ : ∃ s, u = .string s := by
          rw [List.getElem?_map] at hu
          cases hs : ((ms[i]).after)[j]? with
          | none => rw [hs] at hu; cases hu
          | some s => rw [hs] at hu; exact ⟨s, (Option.some.inj hu).symm⟩
        rw [hcell] at hx
        have hlt := (Array.getElem?_eq_some_iff.1 hx).1
        simp at hlt
        rcases Nat.eq_zero_or_pos (o2 + j) with e0 | e0
        · rw [e0] at hx ⊢
          rw [hnew]
          simpa using hx
        · obtain e1 : o2 + j = 1 := by omega
          rw [e1] at hx
          simp at hx
      · rw [hne _ _ e]; exact hx

/-- What the cut leaves behind it. -/
structure BoxSt (w W : World) (name : ByteArray) (a' : Option Addr) (m c' : Nat) (ms : List Nd) : Prop where
  b0 : W.heap[w.heap.size]? = some (.cells #[.string name, .slice a' m c'] 26 (0, 0))
  nodes : NodesAt W a' ms
  kept : Kept (fun _ => False) w W

theorem BoxSt.mk' {w w1 : World} {name : ByteArray} {a a' : Option Addr} {n c m c' : Nat} {ms : List Nd} (K : Kept (fun _ => False) (w.alloc (.cells #[.string name, .slice a n c] 26)) w1) (N : NodesAt w1 a' ms) :
    BoxSt w ((w1.setCell ⟨w.heap.size, 0, none⟩ (.string name)).setCell ⟨w.heap.size, 1, none⟩ (.slice a' m c')) name a' m c' ms := by
  have hb : w1.heap[w.heap.size]? = some (.cells #[.string name, .slice a n c] 26 (0, 0)) := by
    rw [K.block w.heap.size (by simp) (fun h => h)]
    exact heap_alloc_new _ _
  refine ⟨put2 hb _ _, N.boxed hb, ?_⟩
  have k2 : Kept (fun j => j = w.heap.size) w1 ((w1.setCell ⟨w.heap.size, 0, none⟩ (.string name)).setCell ⟨w.heap.size, 1, none⟩ (.slice a' m c')) := (Kept.setCell (S := fun j => j = w.heap.size) w1 ⟨w.heap.size, 0, none⟩ (.string name) rfl).and (Kept.setCell (S := fun j => j = w.heap.size) _ ⟨w.heap.size, 1, none⟩ _ rfl)
  exact ((Kept.alloc (fun _ => False) _ _).and K).trans k2 (fun i h => .inr (by omega))

end Go.Proofs.YtlholgpenpfpbaaDoor

/-
  A definition is copied, as a region that draws its order.
-/
namespace Go.Proofs.YtlholgpenpfpbaaDoor
open Go.RowKit

/-- A definition of one's own: its box and its row. -/
structure DefSt (W W' : World) (xb : Nat) (nm : ByteArray) (a3 : Option Addr) (n c3 : Nat) (xs : List Value) : Prop where
  box : W'.heap[xb]? = some (.cells #[.string nm, .slice a3 n c3] 26 (0, 0))
  new : W.heap.size ≤ xb
  row : W'.ownsRow W.heap.size 44 7 (.slice a3 n c3) n xs
  apart : ∀ g, (Value.slice a3 n c3).ownBlock = some g → g ≠ xb
  kept : Kept (fun _ => False) W W'



end Go.Proofs.YtlholgpenpfpbaaDoor

/-
  A line's words byte by byte; a text's lines. Nothing here speaks of a program.
-/
namespace Go.Proofs.YtlholgpenpfpbaaDoor
open Go.RowKit

/-- The words' places, byte by byte: d bytes are left. -/
def spB (s : ByteArray) : Nat → Nat → Option Nat → List (Nat × Nat) → List (Nat × Nat) × Option Nat
  | 0, _, st, acc => (acc, st)
  | d + 1, pos, st, acc =>
    if s.get! pos = 32 then
      (match st with
       | some a => spB s d (pos + 1) none (acc ++ [(a, pos)])
       | none => spB s d (pos + 1) none acc)
    else spB s d (pos + 1) (some (st.getD pos)) acc

theorem spB_succ (s : ByteArray) (d pos : Nat) (st : Option Nat) (acc : List (Nat × Nat)) : spB s (d + 1) pos st acc = if s.get! pos = 32 then (match st with
       | some a => spB s d (pos + 1) none (acc ++ [(a, pos)])
       | none => spB s d (pos + 1) none acc)
    else spB s d (pos + 1) (some (st.getD pos)) acc := rfl

theorem spF_succ (p : Nat → Bool) (s : ByteArray) (f pos : Nat) (st : Option Nat) (acc : List (Nat × Nat)) (h : pos < s.size) : Lib.spansFromP p s (f + 1) pos st acc = if p (Utf8.decode s pos).1 then
        (match st with
         | some a => Lib.spansFromP p s f (pos + (Utf8.decode s pos).2) none (acc ++ [(a, pos)])
         | none => Lib.spansFromP p s f (pos + (Utf8.decode s pos).2) none acc)
       else
        (match st with
         | some a => Lib.spansFromP p s f (pos + (Utf8.decode s pos).2) (some a) acc
         | none => Lib.spansFromP p s f (pos + (Utf8.decode s pos).2) (some pos) acc) := by
  exact if_pos h

theorem spB_acc (s : ByteArray) : ∀ (d pos : Nat) (st : Option Nat) (a0 acc : List (Nat × Nat)), spB s d pos st (a0 ++ acc) = (a0 ++ (spB s d pos st acc).1, (spB s d pos st acc).2)
  | 0, _, _, _, _ => rfl
  | d + 1, pos, st, a0, acc => by
    unfold spB
    split
    · cases st with
      | some a => simp only []; rw [List.append_assoc]; exact spB_acc s d _ _ _ _
      | none => exact spB_acc s d _ _ _ _
    · exact spB_acc s d _ _ _ _

theorem spB_skip (s : ByteArray) : ∀ (w d pos : Nat) (st : Option Nat) (acc : List (Nat × Nat)), 1 ≤ w → w ≤ d → (∀ j, j < w → s.get! (pos + j) ≠ 32) → spB s d pos st acc = spB s (d - w) (pos + w) (some (st.getD pos)) acc
  | 0, _, _, _, _, h, _, _ => by omega
  | w + 1, d, pos, st, acc, _, h2, h3 => by
    obtain ⟨d', rfl⟩ : ∃ d', d = d' + 1 := ⟨d - 1, by omega⟩
    have h0 := h3 0 (by omega)
    rw [Nat.add_zero] at h0
    rw [spB_succ, if_neg h0]
    by_cases hw : w = 0
    · subst hw; rfl
    · rw [spB_skip s w d' (pos + 1) _ acc (by omega) (by omega) (fun j hj => by have := h3 (j + 1) (by omega); rwa [show pos + (j + 1) = pos + 1 + j by omega] at this)]
      rw [show d' + 1 - (w + 1) = d' - w by omega, show pos + (w + 1) = pos + 1 + w by omega]
      rfl

theorem u8_ne {x : UInt8} (h : 128 ≤ x.toNat) : x ≠ 32 := fun e => by subst e; simp at h

theorem spans_bytes (s : ByteArray) : ∀ (n d f pos : Nat) (st : Option Nat) (acc : List (Nat × Nat)), d ≤ n → pos + d = s.size → d ≤ f → Lib.spansFromP (fun r => r == 32) s f pos st acc = spB s d pos st acc
  | n, 0, f, pos, st, acc, _, hp, _ => Lib.spansFromP_end _ _ _ _ _ _ (by omega)
  | 0, d + 1, _, _, _, _, hn, _, _ => by omega
  | n + 1, d + 1, f, pos, st, acc, hn, hp, hf => by
    obtain ⟨f', rfl⟩ : ∃ f', f = f' + 1 := ⟨f - 1, by omega⟩
    have hpos : pos < s.size := by omega
    rw [spF_succ _ _ _ _ _ _ hpos, Lib.decode_at]
    rcases Lib.decodeN_shape (s.size - pos) (s.get! pos).toNat (s.get! (pos + 1)).toNat (s.get! (pos + 2)).toNat (s.get! (pos + 3)).toNat with ⟨h0, e⟩ | ⟨h0, hN, h1, h2, e⟩ | ⟨h0, hN, h1, h2, h3, h4, e⟩ | ⟨h0, hN, h1, h2, h3, h4, h5, e⟩ | e
    · rw [e]
      simp only []
      rw [spB_succ]
      by_cases c : s.get! pos = 32
      · rw [if_pos c, c]
        simp only [show ((32 : UInt8).toNat == 32) = true from rfl, if_true]
        cases st with
        | some a => exact spans_bytes s n d f' (pos + 1) none _ (by omega) (by omega) (by omega)
        | none => exact spans_bytes s n d f' (pos + 1) none _ (by omega) (by omega) (by omega)
      · have c2 : ((s.get! pos).toNat == 32) = false := by
          rw [beq_eq_false_iff_ne]
          intro h
          exact c (UInt8.toNat_inj.1 h)
        rw [if_neg c, c2]
        simp only [Bool.false_eq_true, if_false]
        cases st with
        | some a => exact spans_bytes s n d f' (pos + 1) _ _ (by omega) (by omega) (by omega)
        | none => exact spans_bytes s n d f' (pos + 1) _ _ (by omega) (by omega) (by omega)
    · rw [e]
      simp only []
      have c2 : ((s.get! pos).toNat % 32 * 64 + (s.get! (pos + 1)).toNat % 64 == 32) = false := by rw [beq_eq_false_iff_ne]; omega
      rw [c2]
      simp only [Bool.false_eq_true, if_false]
      rw [spB_skip s 2 (d + 1) pos st acc (by omega) (by omega) (fun j hj => by
        match j, hj with
        | 0, _ => exact u8_ne (by rw [Nat.add_zero]; omega)
        | 1, _ => exact u8_ne (by omega))]
      cases st with
      | some a => exact spans_bytes s n (d + 1 - 2) f' (pos + 2) _ _ (by omega) (by omega) (by omega)
      | none => exact spans_bytes s n (d + 1 - 2) f' (pos + 2) _ _ (by omega) (by omega) (by omega)
    · rw [e]
      simp only []
      have c2 : ((s.get! pos).toNat % 16 * 4096 + (s.get! (pos + 1)).toNat % 64 * 64 + (s.get! (pos + 2)).toNat % 64 == 32) = false := by rw [beq_eq_false_iff_ne]; omega
      rw [c2]
      simp only [Bool.false_eq_true, if_false]
      rw [spB_skip s 3 (d + 1) pos st acc (by omega) (by omega) (fun j hj => by
        match j, hj with
        | 0, _ => exact u8_ne (by rw [Nat.add_zero]; omega)
        | 1, _ => exact u8_ne (by omega)
        | 2, _ => exact u8_ne (by omega))]
      cases st with
      | some a => exact spans_bytes s n (d + 1 - 3) f' (pos + 3) _ _ (by omega) (by omega) (by omega)
      | none => exact spans_bytes s n (d + 1 - 3) f' (pos + 3) _ _ (by omega) (by omega) (by omega)
    · rw [e]
      simp only []
      have c2 : ((s.get! pos).toNat % 8 * 262144 + (s.get! (pos + 1)).toNat % 64 * 4096 + (s.get! (pos + 2)).toNat % 64 * 64 + (s.get! (pos + 3)).toNat % 64 == 32) = false := by rw [beq_eq_false_iff_ne]; omega
      rw [c2]
      simp only [Bool.false_eq_true, if_false]
      rw [spB_skip s 4 (d + 1) pos st acc (by omega) (by omega) (fun j hj => by
        match j, hj with
        | 0, _ => exact u8_ne (by rw [Nat.add_zero]; omega)
        | 1, _ => exact u8_ne (by omega)
        | 2, _ => exact u8_ne (by omega)
        | 3, _ => exact u8_ne (by omega))]
      cases st with
      | some a => exact spans_bytes s n (d + 1 - 4) f' (pos + 4) _ _ (by omega) (by omega) (by omega)
      | none => exact spans_bytes s n (d + 1 - 4) f' (pos + 4) _ _ (by omega) (by omega) (by omega)
    · have hne : s.get! pos ≠ 32 := fun h => by
        rw [h] at e
        rw [Lib.decodeN, if_pos (by decide)] at e
        simp at e
      rw [e]
      simp only [show ((65533 : Nat) == 32) = false from rfl, Bool.false_eq_true, if_false]
      rw [spB_succ, if_neg hne]
      cases st with
      | some a => exact spans_bytes s n d f' (pos + 1) _ _ (by omega) (by omega) (by omega)
      | none => exact spans_bytes s n d f' (pos + 1) _ _ (by omega) (by omega) (by omega)

/-- The words from a place on. -/
def wordsFrom (s : ByteArray) (i : Nat) : List ByteArray := (Lib.closeSpans s (spB s (s.size - i) i none [])).map (fun x => s.extract x.1 x.2)

theorem words_from (s : ByteArray) : wordsP s = wordsFrom s 0 := by
  unfold wordsP Lib.goFieldsP Lib.spansOfP wordsFrom
  rw [spans_bytes s s.size s.size s.size 0 none [] (Nat.le_refl _) (by omega) (Nat.le_refl _), Nat.sub_zero]

theorem wordsFrom_end (s : ByteArray) {i : Nat} (h : s.size ≤ i) : wordsFrom s i = [] := by
  unfold wordsFrom
  rw [show s.size - i = 0 by omega]
  rfl

theorem wordsFrom_blank {s : ByteArray} {i : Nat} (h : i < s.size) (hb : s.get! i = 32) : wordsFrom s i = wordsFrom s (i + 1) := by
  unfold wordsFrom
  rw [show s.size - i = (s.size - (i + 1)) + 1 by omega, spB_succ, if_pos hb]

theorem close_acc (s : ByteArray) (x : Nat × Nat) (p : List (Nat × Nat) × Option Nat) : Lib.closeSpans s (x :: p.1, p.2) = x :: Lib.closeSpans s p := by
  unfold Lib.closeSpans
  cases p.2 <;> rfl

theorem wordsFrom_word {s : ByteArray} {i k : Nat} (hik : i < k) (hk : k ≤ s.size) (hw : ∀ j, i ≤ j → j < k → s.get! j ≠ 32) (he : k = s.size ∨ s.get! k = 32) : wordsFrom s i = s.extract i k :: wordsFrom s k := by
  have h1 := spB_skip s (k - i) (s.size - i) i none [] (by omega) (by omega) (fun j hj => hw _ (by omega) (by omega))
  rw [show i + (k - i) = k by omega, show s.size - i - (k - i) = s.size - k by omega] at h1
  rcases he with he | he
  · have h2 : wordsFrom s i = [s.extract i k] := by
      unfold wordsFrom
      rw [h1, show s.size - k = 0 by omega]
      show [s.extract i s.size] = _
      rw [he]
    rw [h2, wordsFrom_end s (by omega)]
  · by_cases hks : k < s.size
    · rw [wordsFrom_blank hks he]
      unfold wordsFrom
      rw [h1, show s.size - k = (s.size - (k + 1)) + 1 by omega, spB_succ, if_pos he]
      simp only [Option.getD_none, List.nil_append]
      have h3 := spB_acc s (s.size - (k + 1)) (k + 1) none [(i, k)] []
      rw [List.append_nil] at h3
      rw [h3, List.singleton_append, close_acc]
      rfl
    · have h2 : wordsFrom s i = [s.extract i k] := by
        unfold wordsFrom
        rw [h1, show s.size - k = 0 by omega]
        show [s.extract i s.size] = _
        rw [show k = s.size by omega]
      rw [h2, wordsFrom_end s (by omega)]

/-- A text's lines. -/
def linesK : Nat → ByteArray → List ByteArray
  | 0, _ => []
  | f + 1, s => if s.size = 0 then [] else cutA s :: linesK f (cutB s)

theorem linesK_more : ∀ (n f g : Nat) (s : ByteArray), s.size ≤ n → s.size < f → s.size < g → linesK f s = linesK g s
  | n, f, g, s, hn, hf, hg => by
    obtain ⟨f', rfl⟩ : ∃ f', f = f' + 1 := ⟨f - 1, by omega⟩
    obtain ⟨g', rfl⟩ : ∃ g', g = g' + 1 := ⟨g - 1, by omega⟩
    rw [linesK, linesK]
    split
    · rfl
    · rename_i h0
      have hc := cutB_size (t := s) (by omega)
      cases n with
      | zero => omega
      | succ n => rw [linesK_more n f' g' (cutB s) (by omega) (by omega) (by omega)]

def linesP (s : ByteArray) : List ByteArray := linesK (s.size + 1) s

theorem linesP_nil {s : ByteArray} (h : s.size = 0) : linesP s = [] := by unfold linesP; rw [linesK, if_pos h]
theorem linesP_cons {s : ByteArray} (h : 0 < s.size) : linesP s = cutA s :: linesP (cutB s) := by
  unfold linesP
  rw [linesK, if_neg (by omega)]
  have hc := cutB_size h
  rw [linesK_more (cutB s).size s.size ((cutB s).size + 1) (cutB s) (Nat.le_refl _) hc (by omega)]

end Go.Proofs.YtlholgpenpfpbaaDoor

/-
  The document's words and Lines.
-/
namespace Go.Proofs.YtlholgpenpfpbaaDoor
open Go.RowKit

theorem get_at {s : ByteArray} {i : Nat} (h : i < s.size) : s.get! i = s[i] := by
  obtain ⟨d⟩ := s
  exact getElem!_pos d i h

theorem byte_is {s : ByteArray} {i : Nat} (h : i < s.size) (c : UInt8) : (((s[i]).toNat : Int) == (c.toNat : Int)) = decide (s.get! i = c) := by
  rw [get_at h]
  by_cases e : s[i] = c
  · rw [e]; simp
  · have : ¬ ((s[i]).toNat : Int) = (c.toNat : Int) := fun h2 => e (UInt8.toNat_inj.1 (by omega))
    simp [e, this]

theorem byte_not {s : ByteArray} {i : Nat} (h : i < s.size) (c : UInt8) : (((s[i]).toNat : Int) != (c.toNat : Int)) = !decide (s.get! i = c) := by
  have := byte_is h c
  rw [bne, this]

/-- A word more is put behind the others. -/
theorem words_push {s : ByteArray} {L : List ByteArray} {i k : Nat} (h : L ++ wordsFrom s i = wordsP s) (hik : i < k) (hk : k ≤ s.size) (hw : ∀ j, i ≤ j → j < k → s.get! j ≠ 32) (he : k = s.size ∨ s.get! k = 32) : (L ++ [s.extract i k]) ++ wordsFrom s k = wordsP s := by
  rw [← h, wordsFrom_word hik hk hw he, List.append_assoc]
  rfl

set_option maxRecDepth 100000 in
set_option maxHeartbeats 4000000 in
theorem refWords_any (w : World) (s : ByteArray) (hs : s.size ≤ 100000) :
    Calls Tryd.prog 16 #[.string s] w fun e w' => ∃ a c, e = .returned (.slice a (wordsP s).length c) ∧ w'.ownsRow w.heap.size 9 1 (.slice a (wordsP s).length c) (wordsP s).length (strsV (wordsP s)) ∧ Kept (fun _ => False) w w' := by
  obtain ⟨j0, hj0, hy0, hy1, hy2⟩ := info_parts Tryd.info9
  have hwl := (words_ok s).1
  go_enter Tryd.func16, Tryd.ntmps16
  go_wp2_with fail
  go_loopw [4, 3] (fun q v wr => ∃ (i : Nat) (L : List ByteArray) (a : Option Addr) (c : Nat), i ≤ s.size ∧ q = .int .i64 i ∧ v = .slice a L.length c ∧ L ++ wordsFrom s i = wordsP s ∧ wr.ownsRow w.heap.size 9 1 (.slice a L.length c) L.length (strsV L) ∧ Kept (fun j => w.heap.size ≤ j) w wr) (fun q _ _ => s.size - (intOf q).toNat)
  case atStart => exact ⟨0, [], none, 0, Nat.zero_le _, rfl, rfl, by rw [words_from]; rfl, World.ownsRow_nil _ _ _ _, Kept.refl _ _⟩
  case round =>
    obtain ⟨i, L, a, c, hi, rfl, rfl, hL, O, K⟩ := hrel
    have HL : Hid (L ++ wordsFrom s i = wordsP s) := hL
    have HO : Hid (wr.ownsRow w.heap.size 9 1 (.slice a L.length c) L.length (strsV L)) := O
    have hLl : L.length ≤ 100000 := by have := congrArg List.length hL; rw [List.length_append] at this; omega
    clear hL O
    by_cases hlt : i < s.size
    · have e0 : (i : Int) < (s.size : Int) := by omega
      have hb := byte_is hlt 32
      have hb' : (((s[i]).toNat : Int) == 32) = decide (s.get! i = 32) := hb
      clear hb
      by_cases h32 : s.get! i = 32
      · simp only [h32, decide_true] at hb'
        have HX : Hid (L ++ wordsFrom s (i + 1) = wordsP s) := by show _ = _; rw [← wordsFrom_blank hlt h32]; exact HL.out
        generalize hm : L.length = m at *
        clear h32
        go_wp2_with fail
        go_roundw
        case rel => exact ⟨i + 1, L, a, c, by omega, by go_num, by rw [hm], HX.out, by rw [hm]; exact HO.out, K⟩
        case measure => simp [intOf]; omega
      · simp only [h32, decide_false] at hb'
        have H32 : Hid (s.get! i ≠ 32) := h32
        generalize hm : L.length = m at *
        obtain ⟨wo, hwo⟩ : ∃ wo, wo = wr := ⟨_, rfl⟩
        subst hwo
        clear h32
        go_wp2_with fail
        go_loopw [5] (fun q wr => ∃ (k : Nat), i ≤ k ∧ k ≤ s.size ∧ q = .int .i64 k ∧ (∀ j, i ≤ j → j < k → s.get! j ≠ 32) ∧ wr = wo) (fun q _ => s.size - (intOf q).toNat)
        case atStart => exact ⟨i, Nat.le_refl _, by omega, rfl, fun j h1 h2 => by omega, rfl⟩
        case round =>
          obtain ⟨k, hik, hk, rfl, hnb, hwq⟩ := hrel
          subst hwq
          have HNb : Hid (∀ j, i ≤ j → j < k → s.get! j ≠ 32) := hnb
          clear hnb hb'
          have fin : k = s.size ∨ s.get! k = 32 → i < k := fun h => by
            by_cases e : i = k
            · subst e
              rcases h with h | h
              · omega
              · exact absurd h H32.out
            · omega
          have HFin : Hid (k = s.size ∨ s.get! k = 32 → i < k) := fin
          have HC : Hid (∀ u ∈ [Value.string (s.extract i k)], u.oneCell' = true) := strsV_one [s.extract i k]
          have hzz := K.size
          clear fin
          by_cases hlk : k < s.size
          · have e1 : (k : Int) < (s.size : Int) := by omega
            have hn' : (((s[k]).toNat : Int) != 32) = !decide (s.get! k = 32) := byte_not hlk 32
            by_cases h32 : s.get! k = 32
            · simp only [h32, decide_true, Bool.not_true] at hn'
              have HX : Hid ((L ++ [s.extract i k]) ++ wordsFrom s k = wordsP s) := words_push HL.out (HFin.out (.inr h32)) hk HNb.out (.inr h32)
              have hik2 := HFin.out (.inr h32)
              have e2 : (i : Int) ≤ (k : Int) := by omega
              have e3 : (k : Int) ≤ (s.size : Int) := by omega
              clear h32
              go_wp2_with (first
                | (at_builtin; refine wpList_append_src _ rfl _ _ 22 rfl w.heap.size 9 j0 _ 1 16 Tryd.underlying22 hj0 hy0 hy1 hy2 rfl (by decide) (.slice a m c) m _ rfl (HO.out.alloc _) _ rfl 1 _ (.inl ⟨_, 1, rfl, rfl, World.news_of_block (heap_alloc_new _ _)⟩) HC.out (by unfold maxLen; omega) (by omega) (by simp; omega) ?_; intro a3 cap3 w7 ho3 hg3 _ hl3)
                | fail)
              have KG : Kept (fun g => w.heap.size ≤ g) (wr.alloc (.cells #[.string (s.extract i k)] 9)) w7 := Kept.grown hg3 (fun g e => (HO.out.lt g e).1)
              go_roundw
              case rel =>
                refine ⟨k, L ++ [s.extract i k], a3, cap3, hk, rfl, by simp [hm], HX.out, ?_, (K.and (Kept.alloc _ _ _)).and KG⟩
                rw [List.length_append, List.length_singleton, hm, show strsV (L ++ [s.extract i k]) = strsV L ++ [.string (s.extract i k)] by unfold strsV; simp]
                exact ho3
              case measure => simp [intOf]; omega
            · simp only [h32, decide_false, Bool.not_false] at hn'
              have HX : Hid (∀ j, i ≤ j → j < k + 1 → s.get! j ≠ 32) := fun j h1 h2 => by
                by_cases e : j = k
                · subst e; exact h32
                · exact HNb.out j h1 (by omega)
              clear h32
              go_wp2_with fail
              go_roundw
              case rel => exact ⟨k + 1, by omega, by omega, by go_num, HX.out, trivial⟩
              case measure => simp [intOf]; omega
          · obtain rfl : k = s.size := by omega
            have HX : Hid ((L ++ [s.extract i s.size]) ++ wordsFrom s s.size = wordsP s) := words_push HL.out hlt (Nat.le_refl _) HNb.out (.inl rfl)
            have e1 : ¬ (s.size : Int) < (s.size : Int) := by omega
            have e2 : (i : Int) ≤ (s.size : Int) := by omega
            have e3 : (s.size : Int) ≤ (s.size : Int) := by omega
            go_wp2_with (first
              | (at_builtin; refine wpList_append_src _ rfl _ _ 22 rfl w.heap.size 9 j0 _ 1 16 Tryd.underlying22 hj0 hy0 hy1 hy2 rfl (by decide) (.slice a m c) m _ rfl (HO.out.alloc _) _ rfl 1 _ (.inl ⟨_, 1, rfl, rfl, World.news_of_block (heap_alloc_new _ _)⟩) HC.out (by unfold maxLen; omega) (by omega) (by simp; omega) ?_; intro a3 cap3 w7 ho3 hg3 _ hl3)
              | fail)
            have KG : Kept (fun g => w.heap.size ≤ g) (wr.alloc (.cells #[.string (s.extract i s.size)] 9)) w7 := Kept.grown hg3 (fun g e => (HO.out.lt g e).1)
            go_roundw
            case rel =>
              refine ⟨s.size, L ++ [s.extract i s.size], a3, cap3, Nat.le_refl _, rfl, by simp [hm], HX.out, ?_, (K.and (Kept.alloc _ _ _)).and KG⟩
              rw [List.length_append, List.length_singleton, hm, show strsV (L ++ [s.extract i s.size]) = strsV L ++ [.string (s.extract i s.size)] by unfold strsV; simp]
              exact ho3
            case measure => simp [intOf]; omega
    · obtain rfl : i = s.size := by omega
      have hL := HL.out
      rw [wordsFrom_end s (Nat.le_refl _), List.append_nil] at hL
      have HLe : Hid (L = wordsP s) := hL
      have e0 : ¬ (s.size : Int) < (s.size : Int) := by omega
      clear hL
      generalize hm : L.length = m at *
      go_wp2_with fail
      go_ret
      subst hm
      have e := HLe.out
      subst e
      exact ⟨a, c, rfl, HO.out, (Kept.refl (fun _ => False) w).trans K (fun g h => .inr h)⟩

end Go.Proofs.YtlholgpenpfpbaaDoor

/-
  The document's number and option.
-/
namespace Go.Proofs.YtlholgpenpfpbaaDoor
open Go.RowKit

theorem toList_get {s : ByteArray} {k : Nat} (h : k < s.size) : s.data.toList[k]? = some s[k] := by
  obtain ⟨d⟩ := s
  have h' : k < d.toList.length := by rw [Array.length_toList]; exact h
  rw [List.getElem?_eq_getElem h']
  rfl

theorem digit_iff (b : UInt8) : digitsB.data.toList.contains b = decide (48 ≤ b.toNat ∧ b.toNat ≤ 57) := by
  rw [Bool.eq_iff_iff, decide_eq_true_eq]
  constructor
  · intro h
    obtain ⟨d, hd⟩ := digit_in h
    unfold Lib.digitVal at hd
    split at hd
    · assumption
    · cases hd
  · rintro ⟨h1, h2⟩
    have : b.toNat = 48 ∨ b.toNat = 49 ∨ b.toNat = 50 ∨ b.toNat = 51 ∨ b.toNat = 52 ∨ b.toNat = 53 ∨ b.toNat = 54 ∨ b.toNat = 55 ∨ b.toNat = 56 ∨ b.toNat = 57 := by omega
    have hb : b = UInt8.ofNat b.toNat := by simp
    rcases this with h | h | h | h | h | h | h | h | h | h <;> (rw [h] at hb; subst hb; decide)

theorem head_get {s : ByteArray} (h : 0 < s.size) : s.data.toList.headD 0 = s[0] := by
  have := toList_get h
  cases hl : s.data.toList with
  | nil => rw [hl] at this; cases this
  | cons b r => rw [hl] at this; exact Option.some.inj this

theorem one_zero {s : ByteArray} (h1 : s.size = 1) (h0 : s[0]'(by omega) = 48) : s = ⟨#[48]⟩ := by
  apply ByteArray.ext_getElem
  · rw [h1]; rfl
  · intro i hi hi'
    have : i = 0 := by omega
    subst this
    rw [h0]
    rfl

theorem num_short {s : ByteArray} (h : s.size < 1 ∨ 15 < s.size) : numP s = false := by
  unfold numP madeP
  rcases h with h | h
  · have : ¬ 1 ≤ s.size := by omega
    simp [this]
  · have : ¬ (s.size : Int) ≤ 15 := by omega
    simp [this]

theorem num_nought {s : ByteArray} (h : 1 < s.size) (h0 : s[0]'(by omega) = 48) : numP s = false := by
  unfold numP
  have e1 : ¬ s = ⟨#[48]⟩ := fun e => by rw [e] at h; revert h; decide
  have e2 : s.data.toList.headD 0 = 48 := by rw [head_get (by omega), h0]
  rw [e2]
  simp [e1]

theorem num_bad {s : ByteArray} {k : Nat} (h : k < s.size) (hb : ¬ (48 ≤ (s[k]).toNat ∧ (s[k]).toNat ≤ 57)) : numP s = false := by
  unfold numP madeP
  have : s.data.toList.all (fun c => digitsB.data.toList.contains c) = false := by
    rw [List.all_eq_false]
    refine ⟨s[k], List.mem_of_getElem? (toList_get h), ?_⟩
    rw [digit_iff]
    simpa using hb
  rw [this]
  simp

theorem dec_all : ∀ {l : List UInt8} {acc n : Nat}, Lib.decFrom acc l = some n → l.all (fun c => digitsB.data.toList.contains c) = true
  | [], _, _, _ => rfl
  | b :: r, acc, n, h => by
    unfold Lib.decFrom at h
    cases hd : Lib.digitVal b with
    | none => rw [hd] at h; cases h
    | some d =>
      rw [hd] at h
      rw [List.all_cons, dec_all h, digit_iff]
      unfold Lib.digitVal at hd
      split at hd
      · rename_i hh; simp only [hh, and_self, decide_true, Bool.true_and]
      · cases hd

theorem num_good {s : ByteArray} {n : Nat} (h1 : 1 ≤ s.size) (h2 : s.size ≤ 15) (h3 : s.size = 1 ∨ s[0]'(by omega) ≠ 48) (hd : Lib.decFrom 0 s.data.toList = some n) : numP s = true ∧ numV s = (n : Int) := by
  have hm : madeP s digitsB 15 = true := by
    unfold madeP
    have e1 : decide (1 ≤ s.size) = true := by simpa using h1
    have e2 : decide ((s.size : Int) ≤ 15) = true := by simp; omega
    rw [e1, e2, dec_all hd]
    rfl
  constructor
  · unfold numP
    rw [hm, Bool.true_and, head_get (by omega)]
    by_cases e : s[0]'(by omega) = 48
    · rcases h3 with h3 | h3
      · have hd2 : decide (s = ⟨#[48]⟩) = true := by simpa using one_zero h3 e
        rw [hd2]
        rfl
      · exact absurd e h3
    · have : (s[0]'(by omega) == 48) = false := by simpa using e
      rw [this]
      simp
  · have h := (num_atoi hm).1
    cases hl : s.data.toList with
    | nil =>
      have : s.data.toList.length = s.size := by simp
      rw [hl] at this
      simp at this
      omega
    | cons b r =>
      rw [hl] at h hd
      have hb : digitsB.data.toList.contains b = true := by have := dec_all hd; rw [List.all_cons, Bool.and_eq_true] at this; exact this.1
      have e1 : (b == 45) = false := by
        cases hh : (b == 45) with
        | false => rfl
        | true => rw [beq_iff_eq] at hh; subst hh; simp [digitsB] at hb
      have e2 : (b == 43) = false := by
        cases hh : (b == 43) with
        | false => rfl
        | true => rw [beq_iff_eq] at hh; subst hh; simp [digitsB] at hb
      simp only [Lib.atoi, e1, e2, Bool.false_eq_true, if_false] at h
      unfold Lib.decNat at h
      rw [hd] at h
      simpa using h.symm

theorem dec_lt : ∀ {l : List UInt8} {acc n : Nat}, Lib.decFrom acc l = some n → n + 1 ≤ (acc + 1) * 10 ^ l.length
  | [], acc, n, h => by
    have : acc = n := Option.some.inj h
    simp; omega
  | b :: r, acc, n, h => by
    unfold Lib.decFrom at h
    cases hd : Lib.digitVal b with
    | none => rw [hd] at h; cases h
    | some d =>
      rw [hd] at h
      have ih := dec_lt h
      have hdl : d ≤ 9 := by
        unfold Lib.digitVal at hd
        split at hd
        · have := Option.some.inj hd; omega
        · cases hd
      have h2 : (acc * 10 + d + 1) * 10 ^ r.length ≤ ((acc + 1) * 10) * 10 ^ r.length := Nat.mul_le_mul_right _ (by omega)
      rw [List.length_cons, Nat.pow_succ, Nat.mul_comm (10 ^ r.length) 10, ← Nat.mul_assoc]
      omega

theorem dec_small {s : ByteArray} {k n : Nat} (hk : k ≤ 15) (hd : Lib.decFrom 0 (s.data.toList.take k) = some n) : n < 1000000000000000 := by
  have h1 := dec_lt hd
  have h2 : (s.data.toList.take k).length ≤ 15 := by rw [List.length_take]; omega
  have h3 : 10 ^ (s.data.toList.take k).length ≤ 10 ^ 15 := Nat.pow_le_pow_right (by decide) h2
  have h4 : (10 : Nat) ^ 15 = 1000000000000000 := by decide
  omega

/-- What number answers. -/
def numR (s : ByteArray) : Int × Bool := if numP s then (numV s, true) else (0, false)

theorem dec_next {s : ByteArray} {k n : Nat} (h : k < s.size) (hd : Lib.decFrom 0 (s.data.toList.take k) = some n) (hb : 48 ≤ (s[k]).toNat ∧ (s[k]).toNat ≤ 57) : Lib.decFrom 0 (s.data.toList.take (k + 1)) = some (n * 10 + ((s[k]).toNat - 48)) :=
  Lib.decFrom_take s.data.toList k 0 n s[k] ((s[k]).toNat - 48) hd (toList_get h) (by unfold Lib.digitVal; rw [if_pos hb])

set_option maxRecDepth 100000 in
set_option maxHeartbeats 4000000 in
theorem refNum_any (w : World) (s : ByteArray) (hs : s.size ≤ 1000000) :
    Calls Tryd.prog 38 #[.string s] w fun e w' => e = .returned (.tuple #[.int .i64 (numR s).1, .bool (numR s).2]) ∧ w' = w := by
  generalize hr : numR s = r
  have HR : Hid (numR s = r) := hr
  clear hr
  by_cases c1 : s.size < 1
  · have e1 : (s.size : Int) < 1 := by omega
    have HN : Hid (numP s = false) := num_short (.inl c1)
    go_enter Tryd.func38, Tryd.ntmps38
    go_wp2_with fail
    go_ret2
    refine ⟨?_, rfl⟩
    rw [← HR.out]; unfold numR; rw [HN.out]; rfl
  · have e1 : ¬ (s.size : Int) < 1 := by omega
    by_cases c2 : 15 < s.size
    · have e2 : (15 : Int) < (s.size : Int) := by omega
      have HN : Hid (numP s = false) := num_short (.inr c2)
      go_enter Tryd.func38, Tryd.ntmps38
      go_wp2_with fail
      go_ret2
      refine ⟨?_, rfl⟩
      rw [← HR.out]; unfold numR; rw [HN.out]; rfl
    · have e2 : ¬ (15 : Int) < (s.size : Int) := by omega
      have h0 : 0 < s.size := by omega
      have hix0 : ∀ W, (Instr.index 9 (.string s) (.int .i64 0)).run Tryd.prog W = .ok (.int .u8 (((s[0]'h0).toNat : Nat) : Int)) W := fun W => by
        rw [run_index_string W _ _ _ _ Tryd.underlying9]
        rw [dif_pos ⟨by omega, by omega⟩]
        simp
      by_cases c3 : s[0]'h0 = 48 ∧ 1 < s.size
      · have HN : Hid (numP s = false) := num_nought c3.2 c3.1
        have q1 : ((((s[0]'h0).toNat : Nat) : Int) == 48) = true := by rw [c3.1]; rfl
        have q2 : (1 : Int) < (s.size : Int) := by omega
        clear c3
        generalize (((s[0]'h0).toNat : Nat) : Int) = x at *
        go_enter Tryd.func38, Tryd.ntmps38
        go_wp2_with fail
        go_ret2
        refine ⟨?_, rfl⟩
        rw [← HR.out]; unfold numR; rw [HN.out]; rfl
      · have HG : Hid (s.size = 1 ∨ s[0]'h0 ≠ 48) := by
          show _ ∨ _
          by_cases e : s[0]'h0 = 48
          · left
            by_cases e2 : 1 < s.size
            · exact absurd ⟨e, e2⟩ c3
            · omega
          · exact .inr e
        have hcase : ((((s[0]'h0).toNat : Nat) : Int) == 48) = false ∨ (((((s[0]'h0).toNat : Nat) : Int) == 48) = true ∧ ¬ (1 : Int) < (s.size : Int)) := by
          rcases HG.out with e | e
          · cases hq : ((((s[0]'h0).toNat : Nat) : Int) == 48) with
            | false => exact .inl rfl
            | true => exact .inr ⟨rfl, by omega⟩
          · left
            rw [beq_eq_false_iff_ne]
            intro h
            exact e (UInt8.toNat_inj.1 (by have : (48 : UInt8).toNat = 48 := rfl; omega))
        have HC : Hid _ := hcase
        clear c3 hcase
        generalize (((s[0]'h0).toNat : Nat) : Int) = x at *
        go_enter Tryd.func38, Tryd.ntmps38
        rcases HC.out with q1 | ⟨q1, q2⟩
        all_goals (
          go_wp2_with fail
          go_loopw [5, 4] (fun q v wr => ∃ (k n : Nat), k ≤ s.size ∧ q = .int .i64 k ∧ v = .int .i64 n ∧ Lib.decFrom 0 (s.data.toList.take k) = some n ∧ wr = w) (fun q _ _ => s.size - (intOf q).toNat)
          case atStart => exact ⟨0, 0, Nat.zero_le _, rfl, rfl, rfl, rfl⟩
          case round =>
            obtain ⟨k, n, hk, rfl, rfl, hd, hwr⟩ := hrel
            subst hwr
            have hsm := dec_small (by omega) hd
            by_cases hlt : k < s.size
            · have e3 : (k : Int) < (s.size : Int) := by omega
              have hix : ∀ W, (Instr.index 9 (.string s) (.int .i64 (k : Int))).run Tryd.prog W = .ok (.int .u8 (((s[k]'hlt).toNat : Nat) : Int)) W := fun W => by
                rw [run_index_string W _ _ _ _ Tryd.underlying9]
                rw [dif_pos ⟨by omega, by omega⟩]
                simp
              by_cases hb : 48 ≤ (s[k]).toNat ∧ (s[k]).toNat ≤ 57
              · have HX : Hid (Lib.decFrom 0 (s.data.toList.take (k + 1)) = some (n * 10 + ((s[k]).toNat - 48))) := dec_next hlt hd hb
                obtain ⟨y, hy⟩ : ∃ y : Nat, y = (s[k]).toNat := ⟨_, rfl⟩
                rw [← hy] at hix hb
                have HY : Hid (y = (s[k]).toNat) := hy
                have a0 : ¬ (y : Int) < 48 := by omega
                have a1 : ¬ (57 : Int) < (y : Int) := by omega
                have a2 : IntKind.u8.wrap ((y : Int) - 48) = ((y - 48 : Nat) : Int) := by rw [IntKind.wrap_u8]; omega
                clear hd hy q1 hix0
                go_wp2_with fail
                go_roundw
                case rel => exact ⟨k + 1, n * 10 + (y - 48), by omega, by go_num, by go_num, by rw [HX.out, ← HY.out], trivial⟩
                case measure => simp [intOf]; omega
              · have HN : Hid (numP s = false) := num_bad hlt hb
                clear hd q1 hix0
                by_cases hb2 : (s[k]).toNat < 48
                · have a0 : (((s[k]'hlt).toNat : Nat) : Int) < 48 := by omega
                  clear hb hb2
                  generalize (((s[k]'hlt).toNat : Nat) : Int) = y at *
                  go_wp2_with fail
                  go_ret2
                  refine ⟨?_, rfl⟩
                  rw [← HR.out]; unfold numR; rw [HN.out]; rfl
                · have a0 : ¬ (((s[k]'hlt).toNat : Nat) : Int) < 48 := by omega
                  have a1 : (57 : Int) < (((s[k]'hlt).toNat : Nat) : Int) := by omega
                  clear hb hb2
                  generalize (((s[k]'hlt).toNat : Nat) : Int) = y at *
                  go_wp2_with fail
                  go_ret2
                  refine ⟨?_, rfl⟩
                  rw [← HR.out]; unfold numR; rw [HN.out]; rfl
            · obtain rfl : k = s.size := by omega
              rw [List.take_of_length_le (by simp)] at hd
              have e3 : ¬ (s.size : Int) < (s.size : Int) := by omega
              have hg := num_good (by omega) (by omega) HG.out hd
              have HN1 : Hid (numP s = true) := hg.1
              have HN2 : Hid (numV s = (n : Int)) := hg.2
              clear hd hg q1 hix0
              go_wp2_with fail
              go_ret2
              refine ⟨?_, rfl⟩
              rw [← HR.out]; unfold numR; rw [HN1.out, HN2.out]; rfl)

/-- What option answers: the number, whether it is there, what is left, whether it is fine. -/
def optR (ws : List ByteArray) (nm : ByteArray) : Int × Bool × List ByteArray × Bool := match ws with
  | [] => (0, false, [], true)
  | x :: t => if x = nm then (match t with
    | [] => (0, false, x :: t, false)
    | y :: u => ((numR y).1, true, u, (numR y).2)) else (0, false, x :: t, true)

theorem results_tmp4 {fn : Func} {t u v x : Tmp} (h : fn.results = #[.tmp t, .tmp u, .tmp v, .tmp x]) (tmps : Array Value) (P : Program) (w : World) :
    (results fn tmps).run P w = .ok (.tuple #[tmps.getD t undef, tmps.getD u undef, tmps.getD v undef, tmps.getD x undef]) w := by
  simp [results, h]

theorem texts_drop {w : World} {b o c k : Nat} {l : List ByteArray} (h : TextsAt w (.slice (some ⟨b, o, none⟩) l.length c) l) (hk : k ≤ l.length) : TextsAt w (.slice (some ⟨b, o + k, none⟩) (l.drop k).length (c - k)) (l.drop k) := by
  obtain ⟨a', c', e, h1, h2, h3, h4⟩ := h
  simp only [Value.slice.injEq] at e
  obtain ⟨rfl, _, rfl⟩ := e
  refine ⟨_, _, rfl, by rw [List.length_drop]; omega, by omega, ?_, fun s hs => h4 s (List.mem_of_mem_drop hs)⟩
  rcases h3 with h | ⟨b', o', e, hc⟩
  · left
    have : l = [] := by simpa using h
    subst this
    simp
  · simp only [Option.some.injEq, Addr.mk.injEq] at e
    obtain ⟨rfl, rfl, _⟩ := e
    refine .inr ⟨b, o + k, rfl, fun j v hv => ?_⟩
    have := hc (k + j) v (by rw [List.map_drop, List.getElem?_drop] at hv; exact hv)
    rw [show o + k + j = o + (k + j) by omega]
    exact this

theorem texts_nil (w : World) (a : Option Addr) (c : Nat) (hc : c ≤ maxLen) : TextsAt w (.slice a 0 c) [] := ⟨a, c, rfl, Nat.zero_le _, hc, .inl rfl, fun s hs => by cases hs⟩

theorem TextsAt.one {w : World} {a : Option Addr} {c : Nat} {x : ByteArray} {t : List ByteArray} (h : TextsAt w (.slice a (x :: t).length c) (x :: t)) : ∃ b o, a = some ⟨b, o, none⟩ ∧ (x :: t).length ≤ c ∧ ∀ i (hi : i < (x :: t).length), w.cell? ⟨b, o + i, none⟩ = some (.string ((x :: t)[i]'hi)) := by
  obtain ⟨a2, c2, hsl, hc2, hne⟩ := h.at
  obtain ⟨rfl, rfl⟩ : a = a2 ∧ c = c2 := by simpa using hsl
  obtain ⟨b, o, e, hx⟩ := hne (by simp)
  exact ⟨b, o, e, hc2, hx⟩

def OptPost (w : World) (a0 : Option Addr) (c0 : Nat) (ws : List ByteArray) (nm : ByteArray) (e : Ending) (w' : World) : Prop := ∃ a c, e = .returned (.tuple #[.int .i64 (optR ws nm).1, .bool (optR ws nm).2.1, .slice a (optR ws nm).2.2.1.length c, .bool (optR ws nm).2.2.2]) ∧ (∀ V, TextsAt V (.slice a0 ws.length c0) ws → TextsAt V (.slice a (optR ws nm).2.2.1.length c) (optR ws nm).2.2.1) ∧ Kept (fun _ => False) w w'

set_option maxRecDepth 100000 in
set_option maxHeartbeats 4000000 in
theorem refOpt_any (w : World) (a : Option Addr) (c : Nat) (ws : List ByteArray) (nm : ByteArray) (h : TextsAt w (.slice a ws.length c) ws) (hs : ∀ s ∈ ws, s.size ≤ 1000000) (hl : ws.length ≤ 1000000) :
    Calls Tryd.prog 37 #[.slice a ws.length c, .string nm] w (OptPost w a c ws nm) := by
  have HT : Hid (TextsAt w (.slice a ws.length c) ws) := h
  match ws, hs, hl, h, HT with
  | [], _, _, _, HT =>
    have e0 : ((([] : List ByteArray).length : Int) == 0) = true := rfl
    clear h
    go_enter Tryd.func37, Tryd.ntmps37
    go_wp2_with fail
    refine bodyPost_ret (results_tmp4 rfl _ _ _) rfl ?_
    exact ⟨a, c, rfl, fun _ h => h, Kept.refl _ _⟩
  | x :: t, hs, hl, h, HT =>
    obtain ⟨b, o, rfl, hc, hx⟩ := h.one
    have x0 := hx 0 (by simp)
    simp only [List.getElem_cons_zero, Nat.add_zero] at x0
    have e0 : (((x :: t).length : Int) == 0) = false := by simp <;> omega
    have hse := str_ne x nm
    have e1 : (0 : Int) < ((x :: t).length : Int) := by simp <;> omega
    by_cases hxn : x = nm
    · subst hxn
      simp only [decide_true, Bool.not_true] at hse
      match t, hs, hl, h, HT, hc, hx, e0, e1 with
      | [], _, _, _, HT, _, _, e0, e1 =>
        have e2 : ((([x] : List ByteArray).length : Nat) : Int) < 2 := by simp
        have HO : Hid (optR [x] x = (0, false, [x], false)) := by show _ = _; simp [optR]
        clear h hx
        go_enter Tryd.func37, Tryd.ntmps37
        go_wp2_with fail
        refine bodyPost_ret (results_tmp4 rfl _ _ _) rfl ?_
        refine ⟨some ⟨b, o, none⟩, c, ?_, ?_, Kept.refl _ _⟩
        · rw [HO.out]; rfl
        · rw [HO.out]; exact fun _ h => h
      | y :: u, hs, hl, h, HT, hc, hx, e0, e1 =>
        have y0 := hx 1 (by simp)
        simp only [List.getElem_cons_succ, List.getElem_cons_zero] at y0
        have e2 : ¬ (((x :: y :: u).length : Nat) : Int) < 2 := by simp only [List.length_cons]; omega
        have e3 : (1 : Int) < (((x :: y :: u).length : Nat) : Int) := by simp only [List.length_cons]; omega
        have e4 : (2 : Int) ≤ (((x :: y :: u).length : Nat) : Int) := by simp only [List.length_cons]; omega
        have e5 : (((x :: y :: u).length : Nat) : Int) ≤ (c : Int) := by omega
        have hN := refNum_any w y (hs y (by simp))
        have HO : Hid (optR (x :: y :: u) x = ((numR y).1, true, u, (numR y).2)) := by show _ = _; simp [optR]
        have HD2 : Hid (∀ V, TextsAt V (.slice (some ⟨b, o, none⟩) (x :: y :: u).length c) (x :: y :: u) → TextsAt V (.slice (some ⟨b, o + 2, none⟩) u.length (c - 2)) u) := fun V hV => texts_drop (k := 2) hV (by simp)
        have hcm : c ≤ maxLen := by obtain ⟨_, _, e, _, g, _⟩ := h; simp only [Value.slice.injEq] at e; omega
        have HLn : Hid ((x :: y :: u).length = u.length + 2) := rfl
        clear h hx
        generalize hn : (x :: y :: u).length = n at *
        go_enter Tryd.func37, Tryd.ntmps37
        go_wp2_with (first
          | (go_at_call 38; refine hN.mono ?_; rintro e w5 ⟨rfl, hw⟩; subst w5; clear hN)
          | go_quiet (fail)
          | fail)
        all_goals
          have HL := HLn.out
          refine bodyPost_ret (results_tmp4 rfl _ _ _) rfl ?_
        · refine ⟨some ⟨b, o, none⟩, 0, ?_, ?_, Kept.drewN _ _ _⟩
          · rw [HO.out]
            show Ending.returned (.tuple #[_, _, .slice _ (n - 2) 0, _]) = _
            rw [show n - 2 = u.length by omega]
            rfl
          · have hu : u = [] := List.length_eq_zero_iff.1 (by omega)
            rw [HO.out]
            subst hu
            exact fun _ _ => texts_nil _ _ _ (by simp [maxLen])
        · refine ⟨some ⟨b, o + 2, none⟩, c - 2, ?_, ?_, Kept.drewN _ _ _⟩
          · rw [HO.out]
            show Ending.returned (.tuple #[_, _, .slice _ (n - 2) _, _]) = _
            rw [show n - 2 = u.length by omega]
            rfl
          · rw [HO.out]
            rw [hn]
            exact HD2.out
    · simp only [hxn, decide_false, Bool.not_false] at hse
      have hse2 : (x.toList == nm.toList) = false := by cases hb : (x.toList == nm.toList) <;> simp_all [bne]
      have HO : Hid (optR (x :: t) nm = (0, false, x :: t, true)) := by show _ = _; simp [optR, hxn]
      clear h hx
      generalize hn : (x :: t).length = n at *
      go_enter Tryd.func37, Tryd.ntmps37
      go_wp2_with fail
      refine bodyPost_ret (results_tmp4 rfl _ _ _) rfl ?_
      refine ⟨some ⟨b, o, none⟩, c, ?_, ?_, Kept.refl _ _⟩
      · rw [HO.out]; simp only [hn]; rfl
      · rw [HO.out]; exact fun _ h => h

theorem optR_len (ws : List ByteArray) (nm : ByteArray) : (optR ws nm).2.2.1.length ≤ ws.length := by
  unfold optR
  split
  · simp
  · split
    · split
      · simp
      · simp; omega
    · simp

theorem optR_mem (ws : List ByteArray) (nm : ByteArray) {s : ByteArray} (h : s ∈ (optR ws nm).2.2.1) : s ∈ ws := by
  unfold optR at h
  split at h
  · exact h
  · split at h
    · split at h
      · exact h
      · exact List.mem_cons_of_mem _ (List.mem_cons_of_mem _ h)
    · exact h

end Go.Proofs.YtlholgpenpfpbaaDoor
