/-
  What the laws hold against each other and spoil: states.
-/
import Derived.Test.YtfjekjbkifmpfaaDoorG20
import Derived.Test.YtfjekjbkifmpfaaDoorG25
import Derived.Test.YtfjekjbkifmpfaaDoorG26
import Derived.Test.YtfjekjbkifmpfaaDoorG12
import Derived.Test.YtfjekjbkifmpfaaDoorG27
import Derived.Test.YtfjekjbkifmpfaaDoorG01
import Derived.Test.YtfjekjbkifmpfaaDoorG14
import Derived.Deep.Cut
import Derived.Deep.CutRange
import Derived.BigQuiet
namespace Go.Proofs.YtfjekjbkifmpfaaDoor.Rf
open Go.RowKit

theorem own_apart {w : World} {B B' T T' sz sz' n n' : Nat} {v v' : Value} {xs ys : List Value} (h : w.ownsRow B T sz v n xs) (h' : w.ownsRow B' T' sz' v' n' ys) (hT : T ≠ T') : ∀ g, v.ownBlock = some g → v'.ownBlock ≠ some g := by
  intro g hg h7
  rcases h.2 with ⟨h0, _⟩ | ⟨g', cap, cur, rfl, _, hh, _⟩
  · rw [h0] at hg; cases hg
  · obtain rfl : g' = g := by simpa [Value.ownBlock] using hg
    rcases h'.2 with ⟨h1, _⟩ | ⟨g2, cap2, cur2, rfl, _, hh2, _⟩
    · rw [h1] at h7; cases h7
    · obtain rfl : g2 = g' := by simpa [Value.ownBlock] using h7
      rw [hh] at hh2
      simp only [Option.some.injEq, Obj.cells.injEq] at hh2
      exact hT hh2.2.1

theorem own_ne {w : World} {B T T' sz n ib : Nat} {v : Value} {xs : List Value} {cs : Array Value} {fz : Nat × Nat} (h : w.ownsRow B T sz v n xs) (hb : w.heap[ib]? = some (.cells cs T' fz)) (hT : T ≠ T') : ∀ g, v.ownBlock = some g → g ≠ ib := by
  intro g hg e
  subst e
  rcases h.2 with ⟨h0, _⟩ | ⟨g', cap, cur, rfl, _, hh, _⟩
  · rw [h0] at hg; cases hg
  · obtain rfl : g' = g := by simpa [Value.ownBlock] using hg
    rw [hh] at hb
    simp only [Option.some.injEq, Obj.cells.injEq] at hb
    exact hT hb.2.1

/-- A state in its box while it is spoilt. -/
structure SpSt (w wr : World) (ib : Nat) (s0 s1 s2 s3 s4 s5 s8 v6 v7 : Value) (a6 : Option Addr) (n6 c6 : Nat) (a7 : Option Addr) (n7 c7 : Nat) : Prop where
  blk : wr.heap[ib]? = some (.cells #[s0, s1, s2, s3, s4, s5, .slice a6 n6 c6, .slice a7 n7 c7, s8] 33 (0, 0))
  rows6 : ∃ xs, wr.ownsRow 0 61 3 (.slice a6 n6 c6) n6 xs
  rows7 : ∃ ys, wr.ownsRow 0 88 2 (.slice a7 n7 c7) n7 ys
  of6 : BlkOf w v6 (.slice a6 n6 c6)
  of7 : BlkOf w v7 (.slice a7 n7 c7)
  kept : Kept (fun g => v6.ownBlock = some g ∨ v7.ownBlock = some g) w wr

theorem SpSt.ne {w wr : World} {ib : Nat} {s0 s1 s2 s3 s4 s5 s8 v6 v7 : Value} {a6 a7 : Option Addr} {n6 c6 n7 c7 : Nat} (X : SpSt w wr ib s0 s1 s2 s3 s4 s5 s8 v6 v7 a6 n6 c6 a7 n7 c7) : (∀ g, (Value.slice a6 n6 c6).ownBlock = some g → g ≠ ib) ∧ ∀ g, (Value.slice a7 n7 c7).ownBlock = some g → g ≠ ib := by
  obtain ⟨xs, h6⟩ := X.rows6
  obtain ⟨ys, h7⟩ := X.rows7
  exact ⟨own_ne h6 X.blk (by decide), own_ne h7 X.blk (by decide)⟩

set_option maxRecDepth 100000 in
set_option maxHeartbeats 8000000 in
theorem spoilState_any (w : World) (s : St) (a6 : Option Addr) (c6 : Nat) (a7 : Option Addr) (c7 : Nat) (h6 : w.ownsRow 0 61 3 (.slice a6 s.nodes.length c6) s.nodes.length (nsF s.nodes)) (h7 : w.ownsRow 0 88 2 (.slice a7 s.sigs.length c7) s.sigs.length (sgF s.sigs)) (hn6 : s.nodes.length ≤ 1000000) (hn7 : s.sigs.length ≤ 1000000) :
    Calls Tryd.prog 20 #[.agg #[.string s.dfn, .string s.id, .string s.par, .string s.pnode, .int .i64 s.status, .string s.text, .slice a6 s.nodes.length c6, .slice a7 s.sigs.length c7, .int .i64 s.events]] w fun e w' => e = .returned (.tuple #[]) ∧ Kept (fun g => (Value.slice a6 s.nodes.length c6).ownBlock = some g ∨ (Value.slice a7 s.sigs.length c7).ownBlock = some g) w w' := by
  obtain ⟨i0, hi, hz0, hz1, hz2⟩ := info_parts Tryd.info61
  obtain ⟨j0, hj0, hy0, hy1, hy2⟩ := info_parts Tryd.info88
  have KA := Kept.alloc (fun g => (Value.slice a6 s.nodes.length c6).ownBlock = some g ∨ (Value.slice a7 s.sigs.length c7).ownBlock = some g) w (.cells #[.string s.dfn, .string s.id, .string s.par, .string s.pnode, .int .i64 s.status, .string s.text, .slice a6 s.nodes.length c6, .slice a7 s.sigs.length c7, .int .i64 s.events] 33)
  have X0 : SpSt w (w.alloc (.cells #[.string s.dfn, .string s.id, .string s.par, .string s.pnode, .int .i64 s.status, .string s.text, .slice a6 s.nodes.length c6, .slice a7 s.sigs.length c7, .int .i64 s.events] 33)) w.heap.size (.string s.dfn) (.string s.id) (.string s.par) (.string s.pnode) (.int .i64 s.status) (.string s.text) (.int .i64 s.events) (.slice a6 s.nodes.length c6) (.slice a7 s.sigs.length c7) a6 s.nodes.length c6 a7 s.sigs.length c7 :=
    ⟨heap_alloc_new _ _, ⟨_, h6.alloc _⟩, ⟨_, h7.alloc _⟩, fun g h => .inl h, fun g h => .inl h, KA⟩
  generalize hv6 : Value.slice a6 s.nodes.length c6 = v6 at *
  generalize hv7 : Value.slice a7 s.sigs.length c7 = v7 at *
  subst hv6
  subst hv7
  clear h6 h7 KA
  generalize s.nodes.length = m6 at *
  generalize s.sigs.length = m7 at *
  go_enter Tryd.func20, Tryd.ntmps20
  go_wp2_with fail
  go_loopw [2] (fun i wr => ∃ (k : Nat), k ≤ m6 ∧ i = .int .i64 k ∧ SpSt w wr w.heap.size (.string s.dfn) (.string s.id) (.string s.par) (.string s.pnode) (.int .i64 s.status) (.string s.text) (.int .i64 s.events) (.slice a6 m6 c6) (.slice a7 m7 c7) a6 m6 c6 a7 m7 c7) (fun i _ => m6 - (intOf i).toNat)
  case atStart => exact ⟨0, Nat.zero_le _, rfl, X0⟩
  case round =>
    obtain ⟨k, hk, rfl, X⟩ := hrel
    clear X0
    obtain ⟨⟨_, _, _, _, _, _, b6, b7, _⟩, _⟩ := nine X.blk
    by_cases hlt : k < m6
    · obtain ⟨xs, ho⟩ := X.rows6
      obtain ⟨ys, ho7⟩ := X.rows7
      have hne := X.ne.1
      obtain ⟨g, cg, hv, hown, hcap, hrow⟩ := row_at ho (by omega)
      obtain ⟨rfl, rfl⟩ : a6 = some ⟨g, 0, none⟩ ∧ c6 = cg := by simpa using hv
      have HL : Hid (xs.length = m6 * 3) := ho.1
      obtain ⟨x0, f0⟩ := hrow (k * 3) _ (List.getElem?_eq_getElem (by rw [HL.out]; omega))
      obtain ⟨x1, f1⟩ := hrow (k * 3 + 1) _ (List.getElem?_eq_getElem (by rw [HL.out]; omega))
      obtain ⟨x2, f2⟩ := hrow (k * 3 + 2) _ (List.getElem?_eq_getElem (by rw [HL.out]; omega))
      have e1 : (k : Int) < (m6 : Int) := by omega
      have o1 := ownsRow_put ho (k * 3) (.int .i64 (-1))
      have k1 : Kept (fun j => j = g) (wr) ((wr).setCell ⟨g, k * 3, none⟩ (.int .i64 (-1))) := Kept.setCell _ _ _ rfl
      have o2 := ownsRow_put o1 (k * 3 + 1) (.int .i64 0)
      have k2 : Kept (fun j => j = g) ((wr).setCell ⟨g, k * 3, none⟩ (.int .i64 (-1))) (((wr).setCell ⟨g, k * 3, none⟩ (.int .i64 (-1))).setCell ⟨g, k * 3 + 1, none⟩ (.int .i64 0)) := Kept.setCell _ _ _ rfl
      have o3 := ownsRow_put o2 (k * 3 + 2) (.string ⟨#[115, 112, 111, 105, 108, 116]⟩)
      have k3 : Kept (fun j => j = g) (((wr).setCell ⟨g, k * 3, none⟩ (.int .i64 (-1))).setCell ⟨g, k * 3 + 1, none⟩ (.int .i64 0)) ((((wr).setCell ⟨g, k * 3, none⟩ (.int .i64 (-1))).setCell ⟨g, k * 3 + 1, none⟩ (.int .i64 0)).setCell ⟨g, k * 3 + 2, none⟩ (.string ⟨#[115, 112, 111, 105, 108, 116]⟩)) := Kept.setCell _ _ _ rfl
      have KK := (k1.and k2).and k3
      have hap := own_apart ho ho7 (by decide) g rfl
      have X2 : SpSt w ((((wr).setCell ⟨g, k * 3, none⟩ (.int .i64 (-1))).setCell ⟨g, k * 3 + 1, none⟩ (.int .i64 0)).setCell ⟨g, k * 3 + 2, none⟩ (.string ⟨#[115, 112, 111, 105, 108, 116]⟩)) w.heap.size (.string s.dfn) (.string s.id) (.string s.par) (.string s.pnode) (.int .i64 s.status) (.string s.text) (.int .i64 s.events) (.slice (some ⟨g, 0, none⟩) m6 c6) (.slice a7 m7 c7) (some ⟨g, 0, none⟩) m6 c6 a7 m7 c7 :=
        ⟨(KK.block _ (Array.getElem?_eq_some_iff.1 X.blk).1 (fun h => hne g rfl h.symm)).trans X.blk, ⟨_, o3⟩, ⟨_, ownsRow_keep ho7 (fun j hj => KK.block j (ownsRow_blk ho7 hj) (fun e => hap (e ▸ hj)))⟩, X.of6, X.of7, X.kept.and (KK.mono (fun j h => .inl (by rw [h]; rfl)))⟩
      have HX2 := hid X2
      clear X ho ho7 hrow hv hown o1 o2 o3 k1 k2 k3 KK X2 hap
      go_wp2_with fail
      go_roundw
      case rel => exact ⟨k + 1, by omega, by go_num, HX2.out⟩
      case measure => simp [intOf]; omega
    · have e1 : ¬ ((k : Int) < (m6 : Int)) := by omega
      have HX := hid X
      clear X
      go_wp2_with fail
      go_loopw [3] (fun i w9 => ∃ (j : Nat) (a8 : Option Addr) (c8 : Nat) (a9 : Option Addr) (c9 : Nat), j ≤ 10 ∧ i = .int .i64 j ∧ SpSt w w9 w.heap.size (.string s.dfn) (.string s.id) (.string s.par) (.string s.pnode) (.int .i64 s.status) (.string s.text) (.int .i64 s.events) (.slice a6 m6 c6) (.slice a7 m7 c7) a8 (m6 + j) c8 a9 (m7 + j) c9) (fun i _ => 10 - (intOf i).toNat)
      case atStart => exact ⟨0, a6, c6, a7, c7, by decide, rfl, HX.out⟩
      case round =>
        clear HX b6 b7
        obtain ⟨j, a8, c8, a9, c9, hj, rfl, X⟩ := hrel
        obtain ⟨⟨_, _, _, _, _, _, b6, b7, _⟩, _, _, _, _, _, _, z6, z7, _⟩ := nine X.blk
        obtain ⟨hm8, hM8⟩ : ∃ m, m = m6 + j := ⟨_, rfl⟩
        obtain ⟨hm9, hM9⟩ : ∃ m, m = m7 + j := ⟨_, rfl⟩
        rw [← hM8] at X b6
        rw [← hM9] at X b7
        have HM8 := hid hM8
        have HM9 := hid hM9
        have hl8 : hm8 ≤ 1000010 := by omega
        have hl9 : hm9 ≤ 1000010 := by omega
        clear hM8 hM9
        by_cases hj2 : j < 10
        · have e2 : (j : Int) < 10 := by omega
          obtain ⟨xs, ho⟩ := X.rows6
          obtain ⟨ys, ho7⟩ := X.rows7
          have HX := hid X
          have HO := hid ho
          have HO7 := hid ho7
          have hib : w.heap.size < wr.heap.size := (Array.getElem?_eq_some_iff.1 X.blk).1
          have HC8 := hid (show ∀ u ∈ ([.int .i64 (-2), .int .i64 0, .string ⟨#[]⟩] : List Value), u.oneCell' = true by simp [Value.oneCell'])
          have HC9 := hid (show ∀ u ∈ ([.string ⟨#[103, 114, 111, 119, 110]⟩, .string ⟨#[]⟩] : List Value), u.oneCell' = true by simp [Value.oneCell'])
          clear X ho ho7
          go_upto_region 9 with (first
            | (at_builtin; refine wpList_append_src _ rfl _ _ 30 rfl 0 61 i0 _ 3 32 Tryd.underlying30 hi hz0 hz1 hz2 rfl (by decide) (.slice a8 hm8 c8) hm8 _ rfl (HO.out.alloc _) _ rfl 1 _ (.inl ⟨_, 1, rfl, rfl, World.news_of_block (heap_alloc_new _ _)⟩) HC8.out (by unfold maxLen; omega) (by omega) (Nat.zero_le _) ?_; intro a4 cap4 w4 ho4 hg4 _ hl4; have KG := Kept.grown (S := fun g => (Value.slice a8 hm8 c8).ownBlock = some g) hg4 (fun g e => e); have hb4 := ((KG.block w.heap.size (by rw [World.size_alloc]; omega) (fun h => HX.out.ne.1 _ h rfl)).trans ((Kept.alloc (fun _ => False) wr _).block w.heap.size hib (fun h => h))).trans HX.out.blk; obtain ⟨⟨_, _, _, _, _, _, p6, p7, _⟩, _, _, _, _, _, _, q6, q7, _⟩ := nine hb4)
            | fail)
          have hne4 : ∀ g, (Value.slice a4 (hm8 + 1) cap4).ownBlock = some g → g ≠ w.heap.size := fun g hg => by
            rcases hl4 with h | h
            · exact HX.out.ne.1 g (h ▸ hg)
            · rw [h] at hg
              simp at hg
              omega
          have KS4 : Kept (fun j => j = w.heap.size) w4 (w4.setCell ⟨w.heap.size, 6, none⟩ (.slice a4 (hm8 + 1) cap4)) := Kept.setCell _ _ _ rfl
          have hz4 := KG.size
          rw [World.size_alloc] at hz4
          have o4 := ownsRow_keep ho4 (fun g hg => KS4.block g (ownsRow_blk ho4 hg) (hne4 g hg))
          have KW4 : Kept (fun g => (Value.slice a8 hm8 c8).ownBlock = some g ∨ g = w.heap.size) wr (w4.setCell ⟨w.heap.size, 6, none⟩ (.slice a4 (hm8 + 1) cap4)) := (((Kept.alloc (fun _ => False) wr _).mono (fun _ h => h.elim)).and (KG.mono (fun g h => .inl h))).and (KS4.mono (fun g h => .inr h))
          have hap := own_apart HO.out HO7.out (by decide)
          have o7 := ownsRow_keep HO7.out (fun g hg => KW4.block g (ownsRow_blk HO7.out hg) (fun e => e.elim (fun e => hap g e hg) (fun e => HX.out.ne.2 g hg e)))
          have hb5 := setB hb4 (o := 6) (.slice a4 (hm8 + 1) cap4)
          have of4 : BlkOf w (.slice a6 m6 c6) (.slice a4 (hm8 + 1) cap4) := fun g hg => by
            rcases hl4 with h | h
            · exact HX.out.of6 g (h ▸ hg)
            · rw [h] at hg
              simp at hg
              exact .inr (by omega)
          have HO4 := hid o4
          have HO7' := hid o7
          have HB5 := hid hb5
          have HKW4 := hid KW4
          have hib4 : w.heap.size < (w4.setCell ⟨w.heap.size, 6, none⟩ (.slice a4 (hm8 + 1) cap4)).heap.size := (Array.getElem?_eq_some_iff.1 hb5).1
          obtain ⟨⟨_, _, _, _, _, _, r6, r7, _⟩, _, _, _, _, _, _, t6, t7, _⟩ := nine hb5
          clear ho4 hg4 hl4 KG hb4 p6 p7 q6 q7 KS4 o4 KW4 o7 hb5 b6 b7 z6 z7 hne4
          generalize w4.setCell ⟨w.heap.size, 6, none⟩ (.slice a4 (hm8 + 1) cap4) = w5 at *
          go_wp2_with (first
            | (at_builtin; refine wpList_append_src _ rfl _ _ 31 rfl 0 88 j0 _ 2 32 Tryd.underlying31 hj0 hy0 hy1 hy2 rfl (by decide) (.slice a9 hm9 c9) hm9 _ rfl (HO7'.out.alloc _) _ rfl 1 _ (.inl ⟨_, 1, rfl, rfl, World.news_of_block (heap_alloc_new _ _)⟩) HC9.out (by unfold maxLen; omega) (by omega) (Nat.zero_le _) ?_; intro a3 cap3 w3 ho3 hg3 _ hl3; have KG3 := Kept.grown (S := fun g => (Value.slice a9 hm9 c9).ownBlock = some g) hg3 (fun g e => e); have hb3 := ((KG3.block w.heap.size (by rw [World.size_alloc]; omega) (fun h => HX.out.ne.2 _ h rfl)).trans ((Kept.alloc (fun _ => False) w5 _).block w.heap.size hib4 (fun h => h))).trans HB5.out; obtain ⟨⟨_, _, _, _, _, _, p6, p7, _⟩, _, _, _, _, _, _, q6, q7, _⟩ := nine hb3)
            | fail)
          have hz3 := KG3.size
          rw [World.size_alloc] at hz3
          have hz5 := HKW4.out.size
          have hne3 : ∀ g, (Value.slice a3 (hm9 + 1) cap3).ownBlock = some g → g ≠ w.heap.size := fun g hg => by
            rcases hl3 with h | h
            · exact HX.out.ne.2 g (h ▸ hg)
            · rw [h] at hg
              simp at hg
              omega
          have KS3 : Kept (fun j => j = w.heap.size) w3 (w3.setCell ⟨w.heap.size, 7, none⟩ (.slice a3 (hm9 + 1) cap3)) := Kept.setCell _ _ _ rfl
          have o3 := ownsRow_keep ho3 (fun g hg => KS3.block g (ownsRow_blk ho3 hg) (hne3 g hg))
          have KW3 : Kept (fun g => (Value.slice a9 hm9 c9).ownBlock = some g ∨ g = w.heap.size) w5 (w3.setCell ⟨w.heap.size, 7, none⟩ (.slice a3 (hm9 + 1) cap3)) := (((Kept.alloc (fun _ => False) w5 _).mono (fun _ h => h.elim)).and (KG3.mono (fun g h => .inl h))).and (KS3.mono (fun g h => .inr h))
          have hap3 := own_apart HO4.out HO7'.out (by decide)
          have hne6 := own_ne HO4.out HB5.out (by decide)
          have o6 := ownsRow_keep HO4.out (fun g hg => KW3.block g (ownsRow_blk HO4.out hg) (fun e => e.elim (fun e => hap3 g hg e) (fun e => hne6 g hg e)))
          have hb6 := setB hb3 (o := 7) (.slice a3 (hm9 + 1) cap3)
          have of3 : BlkOf w (.slice a7 m7 c7) (.slice a3 (hm9 + 1) cap3) := fun g hg => by
            rcases hl3 with h | h
            · exact HX.out.of7 g (h ▸ hg)
            · rw [h] at hg
              simp at hg
              exact .inr (by omega)
          have X9 : SpSt w (w3.setCell ⟨w.heap.size, 7, none⟩ (.slice a3 (hm9 + 1) cap3)) w.heap.size (.string s.dfn) (.string s.id) (.string s.par) (.string s.pnode) (.int .i64 s.status) (.string s.text) (.int .i64 s.events) (.slice a6 m6 c6) (.slice a7 m7 c7) a4 (hm8 + 1) cap4 a3 (hm9 + 1) cap3 :=
            ⟨hb6, ⟨_, o6⟩, ⟨_, o3⟩, of4, of3, (HX.out.kept.trans HKW4.out (fun g h => by
              rcases h with h | h
              · exact (HX.out.of6 g h).imp .inl (fun h => h)
              · exact .inr (by omega))).trans KW3 (fun g h => by
              rcases h with h | h
              · exact (HX.out.of7 g h).imp .inr (fun h => h)
              · exact .inr (by omega))⟩
          have HX9 := hid X9
          clear X9 hb6 o6 o3 KW3 KS3 hne3 KG3 ho3 hg3 hl3 hb3
          go_roundw
          case rel =>
            refine ⟨j + 1, a4, cap4, a3, cap3, by omega, by go_num, ?_⟩
            rw [show m6 + (j + 1) = hm8 + 1 by rw [HM8.out]; omega, show m7 + (j + 1) = hm9 + 1 by rw [HM9.out]; omega]
            exact HX9.out
          case measure => simp [intOf]; omega
        · have e2 : ¬ ((j : Int) < 10) := by omega
          have HX := hid X
          clear X
          go_wp2_with fail
          go_loopw [4] (fun i w9 => ∃ (k : Nat), k ≤ hm9 ∧ i = .int .i64 k ∧ SpSt w w9 w.heap.size (.string s.dfn) (.string s.id) (.string s.par) (.string s.pnode) (.int .i64 s.status) (.string s.text) (.int .i64 s.events) (.slice a6 m6 c6) (.slice a7 m7 c7) a8 hm8 c8 a9 hm9 c9) (fun i _ => hm9 - (intOf i).toNat)
          case atStart => exact ⟨0, Nat.zero_le _, rfl, HX.out⟩
          case round =>
            clear HX b6 b7 z6 z7
            obtain ⟨k, hk, rfl, X⟩ := hrel
            obtain ⟨⟨_, _, _, _, _, _, b6, b7, _⟩, _⟩ := nine X.blk
            by_cases hlt : k < hm9
            · obtain ⟨xs, ho⟩ := X.rows6
              obtain ⟨ys, ho7⟩ := X.rows7
              have hne := X.ne.2
              obtain ⟨g, cg, hv, hown, hcap, hrow⟩ := row_at ho7 (by omega)
              obtain ⟨rfl, rfl⟩ : a9 = some ⟨g, 0, none⟩ ∧ c9 = cg := by simpa using hv
              have HL : Hid (ys.length = hm9 * 2) := ho7.1
              obtain ⟨x0, f0⟩ := hrow (k * 2) _ (List.getElem?_eq_getElem (by rw [HL.out]; omega))
              obtain ⟨x1, f1⟩ := hrow (k * 2 + 1) _ (List.getElem?_eq_getElem (by rw [HL.out]; omega))
              have e1 : (k : Int) < (hm9 : Int) := by omega
              have o1 := ownsRow_put ho7 (k * 2) (.string ⟨#[115, 112, 111, 105, 108, 116]⟩)
              have k1 : Kept (fun j => j = g) (wr) ((wr).setCell ⟨g, k * 2, none⟩ (.string ⟨#[115, 112, 111, 105, 108, 116]⟩)) := Kept.setCell _ _ _ rfl
              have o2 := ownsRow_put o1 (k * 2 + 1) (.string ⟨#[]⟩)
              have k2 : Kept (fun j => j = g) ((wr).setCell ⟨g, k * 2, none⟩ (.string ⟨#[115, 112, 111, 105, 108, 116]⟩)) (((wr).setCell ⟨g, k * 2, none⟩ (.string ⟨#[115, 112, 111, 105, 108, 116]⟩)).setCell ⟨g, k * 2 + 1, none⟩ (.string ⟨#[]⟩)) := Kept.setCell _ _ _ rfl
              have KK := k1.and k2
              have hap : (Value.slice a8 hm8 c8).ownBlock ≠ some g := fun h => own_apart ho ho7 (by decide) g h rfl
              have X2 : SpSt w (((wr).setCell ⟨g, k * 2, none⟩ (.string ⟨#[115, 112, 111, 105, 108, 116]⟩)).setCell ⟨g, k * 2 + 1, none⟩ (.string ⟨#[]⟩)) w.heap.size (.string s.dfn) (.string s.id) (.string s.par) (.string s.pnode) (.int .i64 s.status) (.string s.text) (.int .i64 s.events) (.slice a6 m6 c6) (.slice a7 m7 c7) a8 hm8 c8 (some ⟨g, 0, none⟩) hm9 c9 :=
                ⟨(KK.block _ (Array.getElem?_eq_some_iff.1 X.blk).1 (fun h => hne g rfl h.symm)).trans X.blk, ⟨_, ownsRow_keep ho (fun j hj => KK.block j (ownsRow_blk ho hj) (fun e => hap (e ▸ hj)))⟩, ⟨_, o2⟩, X.of6, X.of7, X.kept.trans KK (fun j h => by
                  obtain rfl : j = g := h
                  exact (X.of7 j rfl).imp .inr (fun h => h))⟩
              have HX2 := hid X2
              clear X ho ho7 hrow hv hown o1 o2 k1 k2 KK X2 hap
              go_wp2_with fail
              go_roundw
              case rel => exact ⟨k + 1, by omega, by go_num, HX2.out⟩
              case measure => simp [intOf]; omega
            · have e1 : ¬ ((k : Int) < (hm9 : Int)) := by omega
              have HX := hid X
              clear X
              go_wp2_with fail
              go_end0
              exact ⟨rfl, HX.out.kept⟩

end Go.Proofs.YtfjekjbkifmpfaaDoor.Rf

/-
  What is reached stays fine: a state behind an input is one that is reached.
-/
namespace Go.Proofs.YtfjekjbkifmpfaaDoor
open Go.RowKit

section
variable {nm : ByteArray} {ns : List Nd} {r : Rn}

theorem moves_txt : ∀ m ∈ movesL, (m.txt = true → m.dst = 3 ∨ m.dst = 4) ∧ (m.src = 0 ∨ m.src = 1 ∨ m.src = 2) := by
  intro m hm
  simp only [movesL, List.mem_cons, List.not_mem_nil, or_false] at hm
  rcases hm with rfl | rfl | rfl | rfl | rfl | rfl | rfl | rfl | rfl | rfl | rfl | rfl | rfl | rfl <;> decide

theorem changeP_bare {s t : St} {e : Ev} (hB : Bare s) (h : changeP nm ns s e = some t) : Bare t := by
  unfold changeP at h
  by_cases hst : s.status ≠ (if e.kind = 1 then 0 else 1)
  · rw [if_pos hst] at h
    cases h
  rw [if_neg hst] at h
  split at h
  · cases h
    intro y hy _
    have hy2 := (List.mem_replicate.1 hy).2
    rw [hy2]
  split at h
  · cases h; exact hB
  split at h
  · split at h
    · cases h; exact hB
    · cases h
  · cases hc : changeNodeP ns s e with
    | none => rw [hc] at h; cases h
    | some u =>
      rw [hc] at h
      cases h
      unfold changeNodeP at hc
      split at hc
      · cases hc
      split at hc
      · cases hc
      split at hc
      · cases hc
      · rename_i i _ _ m hm _ l hl
        cases hc
        have hmv : m ∈ movesL ∧ ∀ x, s.nodes[i]? = some x → x.status = m.src := by
          unfold nodeMove at hm
          split at hm
          · rename_i n y hn hy
            obtain ⟨h1, h2⟩ := moveP_src hm
            exact ⟨h1, fun x hx => by rw [hy] at hx; cases hx; exact h2.symm⟩
          · cases hm
        obtain ⟨g1, g2⟩ := moves_txt m hmv.1
        exact setNode_bare hB rfl g1 (fun x hx => hB x (List.mem_of_getElem? hx) (by rw [hmv.2 x hx]; exact g2))

theorem tellP_bare {e : Ev} {ts : List Tk} (hB : Bare r.st) : Bare (tellP nm ns r e ts).st := by
  unfold tellP
  split
  · exact hB
  · rename_i t ht
    exact changeP_bare hB ht

theorem endP_bare {st : Int} {tx : ByteArray} (hB : Bare r.st) : Bare (endP nm ns r st tx).st := tellP_bare hB
theorem breakP_bare {x tx : ByteArray} (hB : Bare r.st) : Bare (breakP nm ns r x tx).st := endP_bare (tellP_bare hB)

theorem beginP_bare {x : Nd} (hB : Bare r.st) : Bare (beginP nm ns r x).st := by
  unfold beginP askP waitP
  repeat' split
  all_goals first
    | exact breakP_bare hB
    | exact hB
    | exact tellP_bare hB

theorem goRow_bare : ∀ (l : List Nat) (r : Rn), Bare r.st → Bare (goRow nm ns r l).1.st
  | [], r, hB => hB
  | i :: l, r, hB => by
    unfold goRow
    split
    · exact hB
    · split
      · exact beginP_bare hB
      · split
        · exact beginP_bare hB
        · exact goRow_bare l _ (beginP_bare hB)

theorem goP_keeps : ∀ (f : Nat) (r : Rn), Bare r.st → Bare (goP nm ns f r).st ∧ Grow r.st (goP nm ns f r).st
  | 0, r, hB => ⟨hB, Grow.refl _⟩
  | f + 1, r, hB => by
    unfold goP
    have b1 := goRow_bare (nm := nm) (ns := ns) (goReady ns r) r hB
    have g1 := goRow_grow (nm := nm) (ns := ns) (goReady ns r) r
    cases hg : goRow nm ns r (goReady ns r) with
    | mk r1 w =>
      rw [hg] at b1 g1
      cases w with
      | stop => exact ⟨b1, g1⟩
      | again =>
        obtain ⟨b2, g2⟩ := goP_keeps f r1 b1
        exact ⟨b2, g1.trans g2⟩
      | through =>
        dsimp only
        split
        · exact ⟨endP_bare b1, g1.trans endP_grow⟩
        · exact ⟨b1, g1⟩

theorem tellGo_keeps {e : Ev} (he : e.kind ≠ 1) (hB : Bare r.st) : Bare (goOnP nm ns (tellP nm ns r e [])).st ∧ Grow r.st (goOnP nm ns (tellP nm ns r e [])).st := by
  obtain ⟨b, g⟩ := goP_keeps (nm := nm) (ns := ns) (restC (tellP nm ns r e []).st.nodes + 1) (tellP nm ns r e []) (tellP_bare hB)
  exact ⟨b, (tellP_grow he).trans g⟩

theorem failTry_keeps {i : Nat} {tx : ByteArray} (hB : Bare r.st) : Bare (failTryP nm ns r i tx).st ∧ Grow r.st (failTryP nm ns r i tx).st := by
  unfold failTryP
  repeat' split
  · exact ⟨breakP_bare hB, breakP_grow⟩
  · exact ⟨tellP_bare hB, tellP_grow (by simp)⟩
  · exact ⟨hB, Grow.refl _⟩

/-- An input that is no start keeps all that a state is fine by. -/
theorem doP_keeps (q : Inp) (hq : q.kind ≠ 1) (hB : Bare r.st) : Bare (doP nm ns r q).1.st ∧ Grow r.st (doP nm ns r q).1.st := by
  unfold doP
  rw [if_neg hq]
  split
  · exact ⟨hB, Grow.refl _⟩
  split
  · exact ⟨hB, Grow.refl _⟩
  split
  · unfold signalP
    repeat' split
    · exact ⟨hB, Grow.refl _⟩
    · exact ⟨hB, Grow.refl _⟩
    · exact tellGo_keeps (by simp) hB
    · exact ⟨hB, Grow.refl _⟩
    · exact ⟨tellP_bare hB, tellP_grow (by simp)⟩
  split
  · unfold takeP
    repeat' split
    · exact ⟨hB, Grow.refl _⟩
    · exact ⟨tellP_bare hB, tellP_grow (by simp)⟩
    · exact ⟨hB, Grow.refl _⟩
    · exact ⟨hB, Grow.refl _⟩
  split
  · unfold completeP
    repeat' split
    · exact ⟨hB, Grow.refl _⟩
    · exact ⟨hB, Grow.refl _⟩
    · exact tellGo_keeps (by simp) hB
  split
  · unfold failP
    repeat' split
    · exact ⟨hB, Grow.refl _⟩
    · exact ⟨hB, Grow.refl _⟩
    · exact failTry_keeps hB
  split
  · unfold fireP
    repeat' split
    · exact ⟨hB, Grow.refl _⟩
    · exact failTry_keeps hB
    · exact tellGo_keeps (by simp) hB
  split
  · unfold kidP
    repeat' split
    · exact ⟨hB, Grow.refl _⟩
    · exact ⟨breakP_bare hB, breakP_grow⟩
    · exact tellGo_keeps (by simp) hB
  split
  · unfold cancelP
    split
    · exact ⟨hB, Grow.refl _⟩
    · exact ⟨endP_bare hB, endP_grow⟩
  · exact ⟨hB, Grow.refl _⟩

/-- What may be reached: nothing yet, or a fine state. -/
def Met (ns : List Nd) (s : St) : Prop := Bare s ∧ (s.status ≠ 0 → s.nodes.length = ns.length)

theorem startP_met (q : Inp) (hB : Bare r.st) (h0 : r.st.status = 0) : Met ns (startP nm ns r q).1.st := by
  unfold startP
  rw [if_neg (by simp [h0])]
  have hb2 : Bare ({ r with st := { r.st with id := q.name } } : Rn).st := hB
  obtain ⟨b, g⟩ := goP_keeps (nm := nm) (ns := ns) (restC (tellP nm ns { r with st := { r.st with id := q.name } } ⟨1, q.pnode, q.par, 0⟩ []).st.nodes + 1) _ (tellP_bare (e := ⟨1, q.pnode, q.par, 0⟩) (ts := []) hb2)
  refine ⟨b, fun _ => ?_⟩
  have hc : changeP nm ns { r.st with id := q.name } ⟨1, q.pnode, q.par, 0⟩ = some { r.st with id := q.name, status := 1, dfn := nm, par := q.par, pnode := q.pnode, nodes := List.replicate ns.length ⟨0, 0, ⟨#[]⟩⟩, events := r.st.events + 1 } := by
    unfold changeP
    dsimp only
    rw [if_neg (c := r.st.status ≠ (if (1 : Int) = 1 then 0 else 1)) (by rw [h0]; decide), if_pos (c := (1 : Int) = 1) rfl]
  have h3 : (List.replicate ns.length (⟨0, 0, ⟨#[]⟩⟩ : Ns)).length = ns.length := List.length_replicate
  have hn := congrArg (fun t : St => t.nodes.length) (tell_fit (ts := []) (r := { r with st := { r.st with id := q.name } }) hc)
  exact g.len.trans (hn.trans h3)

theorem doP_met (q : Inp) (M : Met ns r.st) : Met ns (doP nm ns r q).1.st := by
  by_cases hq : q.kind = 1
  · unfold doP
    rw [if_pos hq]
    by_cases h0 : r.st.status = 0
    · exact startP_met q M.1 h0
    · unfold startP
      rw [if_pos h0]
      exact M
  · by_cases h0 : r.st.status = 0
    · have : doP nm ns r q = (r, 6) := by unfold doP; rw [if_neg hq, if_pos h0]
      rw [this]
      exact M
    · obtain ⟨b, g⟩ := doP_keeps (nm := nm) (ns := ns) (r := r) q hq M.1
      exact ⟨b, fun _ => g.len.trans (M.2 h0)⟩

/-- The document's Step is the program's, of every state that is met. -/
theorem step_same (S : Sound ns) {s : St} (M : Met ns s) (q : Inp) : doesR nm ns ⟨s, q.now, [], []⟩ q = stepP nm ns s q :=
  does_same S (fun h => ⟨M.2 (by show s.status ≠ 0; rw [show s.status = 1 from h]; decide), M.1⟩) M.1 q rfl

end

end Go.Proofs.YtfjekjbkifmpfaaDoor

/-
  How much a run holds behind the document's steps; what is met stays so.
-/
namespace Go.Proofs.YtfjekjbkifmpfaaDoor.Rf
open Go.RowKit

theorem if_some' {α : Type} {q P : Prop} [Decidable q] {a b : Option α} {p : α} (h : (if q then a else b) = some p) (ha : a = some p → P) (hb : b = some p → P) : P := by
  by_cases hq : q
  · rw [if_pos hq] at h
    exact ha h
  · rw [if_neg hq] at h
    exact hb h

theorem moveR_sigs {sg : List Sg} {e : Ev} {n : Nd} {y : Ns} {p : Int × ByteArray × List Sg} (h : moveR sg e n y = some p) : p.2.2.length ≤ sg.length := by
  have one : ∀ {z : Int} {t : ByteArray}, some (z, t, sg) = some p → p.2.2.length ≤ sg.length := fun h => by
    obtain rfl := Option.some.inj h
    exact Nat.le_refl _
  unfold moveR at h
  refine if_some' h one (fun h => ?_)
  refine if_some' h one (fun h => ?_)
  refine if_some' h one (fun h => ?_)
  refine if_some' h one (fun h => ?_)
  refine if_some' h one (fun h => ?_)
  refine if_some' h one (fun h => ?_)
  refine if_some' h one (fun h => ?_)
  refine if_some' h one (fun h => ?_)
  refine if_some' h one (fun h => ?_)
  refine if_some' h one (fun h => ?_)
  refine if_some' h one (fun h => ?_)
  refine if_some' h (fun h => ?_) (fun h => if_some' h one (fun h => by cases h))
  cases hk : keptP sg n.arg with
  | none => rw [hk] at h; cases h
  | some k =>
    rw [hk] at h
    obtain rfl := Option.some.inj h
    show (sg.eraseIdx k).length ≤ sg.length
    rw [List.length_eraseIdx]
    split <;> omega

theorem applyR_fit {nm : ByteArray} {ns : List Nd} {s s' : St} {e : Ev} (h : applyR nm ns s e = some s') (hn : ns.length ≤ 1000000) (h6 : s.nodes.length ≤ 1000000) : s'.nodes.length ≤ 1000000 ∧ s'.sigs.length ≤ s.sigs.length + 1 ∧ s'.events = s.events + 1 ∧ (e.kind ≠ 1 → s'.nodes.length = s.nodes.length) ∧ s'.id = s.id ∧ (e.kind = 1 → s'.nodes.length = ns.length) := by
  unfold applyR at h
  by_cases h1 : e.kind = 1
  · rw [if_pos h1] at h
    refine if_some' h (fun h => by cases h) (fun h => ?_)
    obtain rfl := Option.some.inj h
    exact ⟨by simpa using hn, Nat.le_succ _, rfl, fun h => absurd h1 h, rfl, fun _ => by simp⟩
  rw [if_neg h1] at h
  refine if_some' h (fun h => by cases h) (fun h => ?_)
  refine if_some' h (fun h => ?_) (fun h => ?_)
  · obtain rfl := Option.some.inj h
    exact ⟨h6, by simp, rfl, fun _ => rfl, rfl, fun h => absurd h h1⟩
  refine if_some' h (fun h => ?_) (fun h => ?_)
  · refine if_some' h (fun h => by cases h) (fun h => ?_)
    obtain rfl := Option.some.inj h
    exact ⟨h6, Nat.le_succ _, rfl, fun _ => rfl, rfl, fun h => absurd h h1⟩
  split at h
  · cases h
  split at h
  · rename_i n y _ _
    cases hm : moveR s.sigs e n y with
    | none => rw [hm] at h; cases h
    | some p =>
      rw [hm] at h
      obtain rfl := Option.some.inj h
      refine ⟨by simpa using h6, Nat.le_succ_of_le (moveR_sigs hm), rfl, fun _ => by simp, rfl, fun h => absurd h h1⟩
  · cases h

section
variable {nm : ByteArray} {ns : List Nd} {r : Rn} {m : Nat}

theorem evR_fit (F : Fit r m) (hn : ns.length ≤ 1000000) (e : Ev) : Fit (evR nm ns r e) (m + 1) := by
  have h0 := F.sigs
  have h1 := F.ev0
  have h2 := F.ev1
  have h3 := F.evs
  have h4 := F.tks
  unfold evR
  cases ha : applyR nm ns r.st e with
  | none => exact ⟨F.idsz, F.nodes, by show r.st.sigs.length ≤ _; omega, h1, by show r.st.events ≤ _; omega, by simp; omega, by show r.tks.length ≤ _; omega⟩
  | some s =>
    obtain ⟨g1, g2, g3, _, g5, _⟩ := applyR_fit ha hn F.nodes
    exact ⟨by show s.id.size ≤ _; rw [g5]; exact F.idsz, g1, by show s.sigs.length ≤ _; omega, by show 0 ≤ s.events; omega, by show s.events ≤ _; omega, by simp; omega, by show r.tks.length ≤ _; omega⟩

theorem taskR_fit (F : Fit r m) (t : Tk) : Fit (taskR r t) (m + 1) := by
  have h0 := F.sigs
  have h2 := F.ev1
  have h3 := F.evs
  have h4 := F.tks
  exact ⟨F.idsz, F.nodes, by show r.st.sigs.length ≤ _; omega, F.ev0, by show r.st.events ≤ _; omega, by show r.evs.length ≤ _; omega, by unfold taskR; simp; omega⟩

theorem mailR_fit (F : Fit r m) (x : Ml) : Fit (mailR r x) (m + 1) := taskR_fit F _

theorem fit_more {m' : Nat} (F : Fit r m) (h : m ≤ m') : Fit r m' :=
  ⟨F.idsz, F.nodes, by have := F.sigs; omega, F.ev0, by have := F.ev1; omega, by have := F.evs; omega, by have := F.tks; omega⟩

theorem evR_len {e : Ev} (he : e.kind ≠ 1) : (evR nm ns r e).st.nodes.length = r.st.nodes.length := by
  unfold evR
  cases ha : applyR nm ns r.st e with
  | none => rfl
  | some s =>
    unfold applyR at ha
    rw [if_neg he] at ha
    show s.nodes.length = _
    refine if_some' ha (fun h => by cases h) (fun h => ?_)
    refine if_some' h (fun h => ?_) (fun h => ?_)
    · obtain rfl := Option.some.inj h
      rfl
    refine if_some' h (fun h => ?_) (fun h => ?_)
    · refine if_some' h (fun h => by cases h) (fun h => ?_)
      obtain rfl := Option.some.inj h
      rfl
    split at h
    · cases h
    split at h
    · rename_i n y _ _
      cases hm : moveR r.st.sigs e n y with
      | none => rw [hm] at h; cases h
      | some p =>
        rw [hm] at h
        obtain rfl := Option.some.inj h
        simp
    · cases h

theorem mailsP_len (s : St) (st : Int) (tx : ByteArray) : (mailsP ns s st tx).length ≤ ns.length + 1 := by
  unfold mailsP
  rw [List.length_append]
  have := cancelL_len ns s tx (min ns.length s.nodes.length)
  split <;> simp <;> omega

theorem closedR_fit (F : Fit r m) (hn : ns.length ≤ 1000000) (st : Int) (tx : ByteArray) : Fit (closedR nm ns r st tx) (m + ns.length + 2) := by
  have F1 := evR_fit (nm := nm) (ns := ns) F hn ⟨15, ⟨#[]⟩, tx, st⟩
  have hl := mailsP_len (ns := ns) (evR nm ns r ⟨15, ⟨#[]⟩, tx, st⟩).st st tx
  have h3 := F1.evs
  have h4 := F.tks
  refine ⟨F1.idsz, F1.nodes, by have := F1.sigs; show (evR nm ns r ⟨15, ⟨#[]⟩, tx, st⟩).st.sigs.length ≤ _; omega, F1.ev0, by have := F1.ev1; show (evR nm ns r ⟨15, ⟨#[]⟩, tx, st⟩).st.events ≤ _; omega, by show (evR nm ns r ⟨15, ⟨#[]⟩, tx, st⟩).evs.length ≤ _; omega, ?_⟩
  unfold closedR
  simp only [List.length_append, List.length_map]
  omega

theorem beginR_fit (F : Fit r m) (hn : ns.length ≤ 1000000) (x : Nd) : Fit (beginR nm ns r x) (m + ns.length + 3) := by
  unfold beginR
  split
  · exact fit_more (taskR_fit (evR_fit F hn _) _) (by omega)
  split
  · exact fit_more (taskR_fit (evR_fit F hn _) _) (by omega)
  split
  · split
    · exact fit_more (closedR_fit (evR_fit F hn _) hn _ _) (by omega)
    · exact fit_more (mailR_fit (evR_fit F hn _) _) (by omega)
  split
  · split
    · exact fit_more (evR_fit F hn _) (by omega)
    · exact fit_more (evR_fit F hn _) (by omega)
  · exact fit_more (mailR_fit (evR_fit F hn _) _) (by omega)

theorem evR_fine {e : Ev} (F : Fine ns r.st) : Fine ns (evR nm ns r e).st := by
  refine ⟨?_, ?_⟩
  · by_cases he : e.kind = 1
    · unfold evR
      cases ha : applyR nm ns r.st e with
      | none => exact F.len
      | some s =>
        unfold applyR at ha
        rw [if_pos he] at ha
        show s.nodes.length = _
        refine if_some' ha (fun h => by cases h) (fun h => ?_)
        obtain rfl := Option.some.inj h
        simp
    · rw [evR_len he]
      exact F.len
  · unfold evR
    rw [apply_same F.bare]
    cases hc : changeP nm ns r.st e with
    | none => exact F.bare
    | some s => exact changeP_bare F.bare hc

end

end Go.Proofs.YtfjekjbkifmpfaaDoor.Rf

/-
  slices.Contains of a row of whole numbers.
-/
namespace Go.Proofs.YtfjekjbkifmpfaaDoor
open Go.RowKit

def idxZ (ks : List Int) (x : Int) : Int := match ks.findIdx? (fun k => x == k) with | some i => (i : Int) | none => -1

theorem idxZ_hit {ks : List Int} {x : Int} {k : Nat} (hk : k < ks.length) (hno : ∀ j (hj : j < k), (x == (ks[j]'(by omega))) = false) (h : (x == ks[k]) = true) : idxZ ks x = k := by
  have : ks.findIdx? (fun k => x == k) = some k := by
    rw [List.findIdx?_eq_some_iff_getElem]
    exact ⟨hk, h, fun j hj => by simp [hno j hj]⟩
  unfold idxZ
  rw [this]

theorem idxZ_none {ks : List Int} {x : Int} (hno : ∀ j (hj : j < ks.length), (x == ks[j]) = false) : idxZ ks x = -1 := by
  have : ks.findIdx? (fun k => x == k) = none := by
    rw [List.findIdx?_eq_none_iff]
    intro y hy
    obtain ⟨j, hj, rfl⟩ := List.mem_iff_getElem.1 hy
    exact hno j hj
  unfold idxZ
  rw [this]

theorem idxZ_contains (ks : List Int) (x : Int) : decide (0 ≤ idxZ ks x) = ks.contains x := by
  unfold idxZ
  split
  · rename_i i h
    rw [List.findIdx?_eq_some_iff_getElem] at h
    obtain ⟨hi, h, _⟩ := h
    have hx : x = ks[i] := by simpa using h
    have : ks.contains x = true := by rw [List.contains_iff_mem, hx]; exact List.getElem_mem hi
    rw [this]
    simp
  · rename_i h
    rw [List.findIdx?_eq_none_iff] at h
    have : ks.contains x = false := by
      cases hc : ks.contains x with
      | false => rfl
      | true =>
        rw [List.contains_iff_mem] at hc
        have := h x hc
        simp at this
    rw [this]
    decide

set_option maxRecDepth 100000 in
set_option maxHeartbeats 2000000 in
theorem index_any (w : World) (a : Option Addr) (c : Nat) (ks : List Int) (hl : ks.length ≤ 1000000) (h : CellsAt w a (ks.map (Value.int .i64))) (x : Int) :
    Calls Tryd.prog 109 #[.slice a ks.length c, .int .i64 x] w fun e w' => e = .returned (.int .i64 (idxZ ks x)) ∧ w' = w := by
  have HC : Hid (CellsAt w a (ks.map (Value.int .i64))) := h
  clear h
  go_enter Tryd.func109, Tryd.ntmps109
  go_wp2_with fail
  go_loopw [8] (fun q wr => ∃ (k : Nat), k ≤ ks.length ∧ q = .int .i64 k ∧ wr = w ∧ ∀ j (hj : j < k) (hj2 : j < ks.length), (x == ks[j]) = false) (fun q _ => ks.length - (intOf q).toNat)
  case atStart => exact ⟨0, Nat.zero_le _, rfl, rfl, fun j hj => by omega⟩
  case round =>
    obtain ⟨k, hk, rfl, hwr, hno⟩ := hrel
    subst wr
    have HNo : Hid (∀ j (hj : j < k) (hj2 : j < ks.length), (x == ks[j]) = false) := hno
    clear hno
    by_cases hlt : k < ks.length
    · have e0 : (k : Int) < (ks.length : Int) := by omega
      obtain ⟨b, o, rfl, hc⟩ : ∃ b o, a = some ⟨b, o, none⟩ ∧ w.cell? ⟨b, o + k, none⟩ = some (.int .i64 ks[k]) := by
        rcases HC.out with h | ⟨b, o, h, hc⟩
        · simp at h; subst h; simp at hlt
        · exact ⟨b, o, h, hc k _ (by simp [hlt])⟩
      have HF : Hid ((x == ks[k]) = true → idxZ ks x = k) := fun h => idxZ_hit hlt (fun j hj => HNo.out j hj (by omega)) h
      have HG : Hid ((x == ks[k]) = false → ∀ j (hj : j < k + 1) (hj2 : j < ks.length), (x == ks[j]) = false) := fun h j hj hj2 => by
        by_cases hjk : j = k
        · subst hjk; exact h
        · exact HNo.out j (by omega) hj2
      clear HC HNo
      generalize ks[k] = y at *
      cases hb : (x == y) with
      | true =>
        have HI := hid (HF.out hb)
        clear HF HG
        go_wp2_with fail
        go_ret
        exact ⟨by rw [HI.out]; rfl, rfl⟩
      | false =>
        have HN := hid (HG.out hb)
        clear HF HG
        go_wp2_with fail
        go_roundw
        case rel => exact ⟨k + 1, by omega, by go_num, by first | trivial | rfl, HN.out⟩
        case measure => simp [intOf]; omega
    · have e0 : ¬ (k : Int) < (ks.length : Int) := by omega
      have HI := hid (idxZ_none (ks := ks) (x := x) (fun j hj => HNo.out j (by omega) hj))
      clear HC HNo
      go_wp2_with fail
      go_ret
      exact ⟨by rw [HI.out]; rfl, rfl⟩

set_option maxRecDepth 100000 in
theorem contains_any (w : World) (a : Option Addr) (c : Nat) (ks : List Int) (hl : ks.length ≤ 1000000) (h : CellsAt w a (ks.map (Value.int .i64))) (x : Int) :
    Calls Tryd.prog 97 #[.slice a ks.length c, .int .i64 x] w fun e w' => e = .returned (.bool (ks.contains x)) ∧ w' = w := by
  have hI := index_any w a c ks hl h x
  have HE := hid (idxZ_contains ks x)
  generalize idxZ ks x = z at *
  clear h
  go_enter Tryd.func97, Tryd.ntmps97
  go_wp2_with (first
    | (go_at_call 109; refine hI.mono ?_; rintro e w1 ⟨rfl, hw1⟩; subst w1; clear hI)
    | fail)
  go_ret
  exact ⟨by rw [← HE.out]; rfl, rfl⟩

end Go.Proofs.YtfjekjbkifmpfaaDoor

/-
  HistoryRoots as data: what the law asks behind a start.
-/
namespace Go.Proofs.YtfjekjbkifmpfaaDoor
open Go.RowKit

section
variable {nm : ByteArray} {ns : List Nd}

/-- What is reached by telling events that are no starts. -/
inductive Tolds (nm : ByteArray) (ns : List Nd) : Rn → Rn → Prop where
  | none {r : Rn} : Tolds nm ns r r
  | tell {r r' : Rn} {e : Ev} {ts : List Tk} : e.kind ≠ 1 → Tolds nm ns (tellP nm ns r e ts) r' → Tolds nm ns r r'

theorem Tolds.trans {r r1 r2 : Rn} (h : Tolds nm ns r r1) (h2 : Tolds nm ns r1 r2) : Tolds nm ns r r2 := by
  induction h with
  | none => exact h2
  | tell he _ ih => exact .tell he (ih h2)

theorem told1 {r : Rn} {e : Ev} {ts : List Tk} (he : e.kind ≠ 1) : Tolds nm ns r (tellP nm ns r e ts) := .tell he .none

theorem endP_told {r : Rn} {st : Int} {tx : ByteArray} : Tolds nm ns r (endP nm ns r st tx) := told1 (by show (15 : Int) ≠ 1; decide)
theorem breakP_told {r : Rn} {x tx : ByteArray} : Tolds nm ns r (breakP nm ns r x tx) := (told1 (by show (6 : Int) ≠ 1; decide)).trans endP_told
theorem beginP_told {r : Rn} {x : Nd} : Tolds nm ns r (beginP nm ns r x) := by
  unfold beginP askP waitP
  repeat' split
  all_goals first
    | exact breakP_told
    | exact .none
    | exact told1 (by simp)

theorem goRow_told : ∀ (l : List Nat) (r : Rn), Tolds nm ns r (goRow nm ns r l).1
  | [], r => .none
  | i :: l, r => by
    unfold goRow
    split
    · exact .none
    · split
      · exact beginP_told
      · split
        · exact beginP_told
        · exact beginP_told.trans (goRow_told l _)

theorem goP_told : ∀ (f : Nat) (r : Rn), Tolds nm ns r (goP nm ns f r)
  | 0, r => .none
  | f + 1, r => by
    unfold goP
    have g1 := goRow_told (nm := nm) (ns := ns) (goReady ns r) r
    cases hg : goRow nm ns r (goReady ns r) with
    | mk r1 w =>
      rw [hg] at g1
      cases w with
      | stop => exact g1
      | again => exact g1.trans (goP_told f r1)
      | through =>
        dsimp only
        split
        · exact g1.trans endP_told
        · exact g1

theorem goOnP_told {r : Rn} : Tolds nm ns r (goOnP nm ns r) := goP_told _ _

theorem changeP_more {s s' : St} {e : Ev} (h : changeP nm ns s e = some s') : s'.events = s.events + 1 ∧ s'.sigs.length ≤ s.sigs.length + 1 := by
  unfold changeP at h
  by_cases hst : s.status ≠ (if e.kind = 1 then 0 else 1)
  · rw [if_pos hst] at h
    cases h
  rw [if_neg hst] at h
  split at h
  · cases h
    exact ⟨rfl, Nat.le_succ _⟩
  split at h
  · cases h
    exact ⟨rfl, by simp⟩
  split at h
  · split at h
    · cases h
      exact ⟨rfl, Nat.le_succ _⟩
    · cases h
  · cases hc : changeNodeP ns s e with
    | none => rw [hc] at h; cases h
    | some t =>
      rw [hc] at h
      cases h
      unfold changeNodeP at hc
      split at hc
      · cases hc
      split at hc
      · cases hc
      split at hc
      · cases hc
      · rename_i l hl
        cases hc
        refine ⟨rfl, ?_⟩
        split at hl
        · exact Nat.le_succ_of_le (receiveP_len hl)
        · cases hl
          exact Nat.le_succ _

/-- Each event counts once; and keeps at most one signal. -/
theorem Tolds.count {r r' : Rn} (h : Tolds nm ns r r') : r'.st.events - r'.evs.length = r.st.events - r.evs.length ∧ (r'.st.sigs.length : Int) - r'.evs.length ≤ (r.st.sigs.length : Int) - r.evs.length ∧ r.evs.length ≤ r'.evs.length := by
  induction h with
  | none => exact ⟨rfl, Int.le_refl _, Nat.le_refl _⟩
  | @tell r r' e ts he _ ih =>
    obtain ⟨h1, h2, h3⟩ := ih
    rw [h1]
    unfold tellP at h2 h3 ⊢
    cases hc : changeP nm ns r.st e with
    | none => rw [hc] at h2 h3; exact ⟨rfl, h2, h3⟩
    | some s =>
      rw [hc] at h2 h3
      obtain ⟨c1, c2⟩ := changeP_more hc
      simp only [List.length_append, List.length_singleton] at h2 h3 ⊢
      refine ⟨by rw [c1]; omega, by omega, by omega⟩

/-- The state behind the first event. -/
def startR (nm : ByteArray) (ns : List Nd) (q : Inp) : Rn := ⟨⟨nm, q.name, q.par, q.pnode, 1, ⟨#[]⟩, List.replicate ns.length ⟨0, 0, ⟨#[]⟩⟩, [], 1⟩, q.now, [⟨1, q.pnode, q.par, 0⟩], []⟩

theorem start_is (q : Inp) (hq : q.kind = 1) : stepP nm ns ⟨⟨#[]⟩, ⟨#[]⟩, ⟨#[]⟩, ⟨#[]⟩, 0, ⟨#[]⟩, [], [], 0⟩ q = (goOnP nm ns (startR nm ns q), 0) := by
  unfold stepP doP
  rw [if_pos hq]
  rfl

theorem startR_fine (q : Inp) : Fine ns (startR nm ns q).st := by
  refine ⟨by show (List.replicate ns.length _).length = _; simp, fun y hy _ => ?_⟩
  have : y ∈ List.replicate ns.length (⟨0, 0, ⟨#[]⟩⟩ : Ns) := hy
  rw [List.mem_replicate] at this
  rw [this.2]

theorem startR_roots (q : Inp) : Roots q.now ns (startR nm ns q) := by
  have h0 : ∀ (i : Nat) (y : Ns), (startR nm ns q).st.nodes[i]? = some y → y.status = 0 := fun i y h => by
    have h : (List.replicate ns.length (⟨0, 0, ⟨#[]⟩⟩ : Ns))[i]? = some y := h
    have := List.mem_of_getElem? h
    rw [List.mem_replicate] at this
    rw [this.2]
  refine ⟨startR_fine q, rfl, fun i x y _ hy h => absurd (h0 i y hy) h, fun i x y _ hy => ?_, fun e he h7 => ?_⟩
  · rw [if_pos (h0 i y hy)]
    unfold beganC startR
    simp
  · have he : e ∈ [(⟨1, q.pnode, q.par, 0⟩ : Ev)] := he
    rw [List.mem_singleton] at he
    rw [he] at h7
    cases h7

/-- What the law asks of each node. -/
def freeB (ns : List Nd) (l : List Ns) (x : Nd) : Bool := x.after.all (fun s => (List.range ns.length).all (fun j => match ns[j]?, l[j]? with | some z, some y => !(decide (z.name = s)) || y.status == 3 | _, _ => true))

theorem free_over {l : List Ns} (S : Sound ns) {x : Nd} (h : overP ns x (overL l) = true) : freeB ns l x = true := by
  unfold freeB
  unfold overP at h
  rw [List.all_eq_true] at h ⊢
  intro s hs
  have h1 := h s hs
  rw [List.all_eq_true]
  intro j hj
  unfold oneP aheadP at h1
  split at h1
  · rename_i k hk
    split at hk
    · cases hk
    split
    · rename_i z u hz hu
      by_cases e : z.name = s
      · have h2 := S.find j z hz
        rw [e, hk] at h2
        cases h2
        unfold overL at h1
        rw [List.getD_eq_getElem?_getD, List.getElem?_map, hu] at h1
        simp only [Option.map_some, Option.getD_some] at h1
        simp [h1]
      · simp [e]
    · rfl
  · cases h1

theorem over_free {l : List Ns} (S : Sound ns) (hl : l.length = ns.length) {x : Nd} {i : Nat} {y : Ns} (hx : ns[i]? = some x) (hy : l[i]? = some y) (hy0 : y.status = 0) (ha : ∀ s ∈ x.after, (findP ns s).isSome = true) (h : freeB ns l x = true) : overP ns x (overL l) = true := by
  unfold freeB at h
  unfold overP
  rw [List.all_eq_true] at h ⊢
  intro s hs
  have h1 := h s hs
  rw [List.all_eq_true] at h1
  obtain ⟨j, hj⟩ := Option.isSome_iff_exists.1 (ha s hs)
  have hjl := findP_lt hj
  have h2 := h1 j (List.mem_range.2 hjl)
  have hz := findP_name hj
  rw [List.getElem?_eq_getElem hjl, List.getElem?_eq_getElem (show j < l.length by omega)] at h2
  have hz' : (ns[j]).name = s := hz
  simp only [hz', decide_true, Bool.not_true, Bool.false_or] at h2
  unfold oneP aheadP
  by_cases e : s = x.name
  · have h3 := S.find i x hx
    rw [← e, hj] at h3
    obtain rfl : j = i := Option.some.inj h3
    rw [List.getElem?_eq_getElem (show j < l.length by omega)] at hy
    rw [Option.some.inj hy, hy0] at h2
    simp at h2
  · rw [if_neg e, hj]
    show (overL l).getD j false = true
    unfold overL
    rw [List.getD_eq_getElem?_getD, List.getElem?_map, List.getElem?_eq_getElem (show j < l.length by omega)]
    simpa using h2

/-- All that HistoryRoots asks. -/
structure Rooted (now : Int) (ns : List Nd) (r : Rn) : Prop where
  len : r.st.nodes.length = ns.length
  evs : r.st.events = r.evs.length
  free : r.st.status = 1 → ∀ (i : Nat) (x : Nd) (y : Ns), ns[i]? = some x → r.st.nodes[i]? = some y → freeB ns r.st.nodes x = !(y.status == 0)
  once : r.st.status = 1 → ∀ (i : Nat) (x : Nd) (y : Ns), ns[i]? = some x → r.st.nodes[i]? = some y → beganC r.evs x.name = if y.status = 0 then 0 else 1
  time : r.st.status = 1 → ∀ e ∈ r.evs, e.kind = 7 → ∀ x ∈ ns, e.node = x.name → e.num = IntKind.i64.wrap (now + x.delay)

theorem rooted (S : Sound ns) (ha : ∀ x ∈ ns, ∀ s ∈ x.after, (findP ns s).isSome = true) (q : Inp) : Rooted q.now ns (goOnP nm ns (startR nm ns q)) := by
  have hK := goP_keeps (nm := nm) (ns := ns) (restC (startR nm ns q).st.nodes + 1) (startR nm ns q) (startR_fine q).bare
  have hlen : (goOnP nm ns (startR nm ns q)).st.nodes.length = ns.length := hK.2.len.trans (startR_fine q).len
  have hev := (goOnP_told (nm := nm) (ns := ns) (r := startR nm ns q)).count.1
  have hR : (goOnP nm ns (startR nm ns q)).st.status = 1 → Roots q.now ns (goOnP nm ns (startR nm ns q)) ∧ goReady ns (goOnP nm ns (startR nm ns q)) = [] := by
    rcases goOn_on (nm := nm) S (startR_fine (nm := nm) q) with h | h
    · exact roots_on S h (startR_roots q)
    · exact absurd rfl h
  refine ⟨hlen, ?_, fun h i x y hx hy => ?_, fun h => (hR h).1.once, fun h => (hR h).1.time⟩
  · have e1 : (startR nm ns q).st.events = 1 := rfl
    have e2 : (startR nm ns q).evs.length = 1 := rfl
    rw [e1, e2] at hev
    omega
  · obtain ⟨R, hz⟩ := hR h
    by_cases h0 : y.status = 0
    · rw [h0]
      show freeB _ _ _ = false
      cases hf : freeB ns (goOnP nm ns (startR nm ns q)).st.nodes x with
      | false => rfl
      | true =>
        exfalso
        have ho := over_free S hlen hx hy h0 (ha x (List.mem_of_getElem? hx)) hf
        have hi : i < ns.length := (List.getElem?_eq_some_iff.1 hx).1
        have : i ∈ goReady ns (goOnP nm ns (startR nm ns q)) := by
          unfold goReady rdyL
          rw [List.mem_filter]
          refine ⟨List.mem_range.2 hi, ?_⟩
          unfold rdyB
          rw [hx]
          have hb : (begunL (goOnP nm ns (startR nm ns q)).st.nodes ns.length).getD i false = false := by
            unfold begunL
            rw [List.getD_eq_getElem?_getD, List.getElem?_map, List.getElem?_range hi]
            show begunB _ i = false
            unfold begunB
            rw [hy]
            simp [h0]
          rw [hb]
          exact ho
        rw [hz] at this
        cases this
    · have hb : (!(y.status == 0)) = true := by simp [h0]
      rw [hb]
      exact free_over S (R.free i x y hx hy h0)

end

end Go.Proofs.YtfjekjbkifmpfaaDoor

/-
  The document's Apply: nobody bears the event's name.
-/
namespace Go.Proofs.YtfjekjbkifmpfaaDoor.Rf
open Go.RowKit

set_option maxRecDepth 100000 in
set_option maxHeartbeats 16000000 in
theorem apply_lost (w : World) (nm : ByteArray) (a : Option Addr) (c : Nat) (ns : List Nd) (hN : NodesAt w a ns) (hn : ns.length ≤ 1000000) (s : St) (v6 v7 : Value) (R : StRd w s v6 v7) (he0 : 0 ≤ s.events) (he1 : s.events ≤ 1000000000000) (ev : Ev) (h1 : ev.kind ≠ 1) (h13 : ev.kind ≠ 13) (h15 : ev.kind ≠ 15) (hs : s.status = 1) (hf : ∀ i, findP ns ev.node = some i → s.nodes.length ≤ i) :
    Calls Tryd.prog 19 #[.agg #[.string nm, .slice a ns.length c], .agg (stA s v6 v7), .agg #[.int .i64 ev.kind, .string ev.node, .string ev.text, .int .i64 ev.num]] w (ApPost w s v6 v7 (applyR nm ns s ev)) := by
  have _ := hn
  obtain ⟨ek, en, et, ez⟩ := ev
  obtain ⟨x0, x1, x2, x3, x4, x5, ln, ls, x8⟩ := s
  simp only [] at he0 he1 h1 h13 h15 hs hf ⊢
  obtain ⟨va6, vc6, rfl⟩ := R.nodes.shape
  obtain ⟨va7, vc7, rfl⟩ := R.sigs.shape
  simp only [] at R ⊢
  subst hs
  have H1 := hid h1
  have H13 := hid h13
  have H15 := hid h15
  have HFn := hid hf
  clear h1 h13 h15 hf
  obtain ⟨d0, d1, d2, d3, dz, KW⟩ := ap_boxes w nm a ns.length c ⟨x0, x1, x2, x3, 1, x5, ln, ls, x8⟩ (Value.slice va6 ln.length vc6) (Value.slice va7 ls.length vc7) ⟨ek, en, et, ez⟩
  have hC := refCopied_any _ _ (Value.slice va6 ln.length vc6) (Value.slice va7 ls.length vc7) (R.new KW)
  have HR := hid R
  have HF7 : Hid (ls.length ≤ 1000000) := R.few7
  have HN := hid hN
  unfold stA at hC ⊢
  unfold apD apS apE apZ stA zero9 at d0 d1 d2 d3 dz KW hC
  simp only [] at d0 d1 d2 d3 dz KW hC ⊢
  obtain ⟨⟨p0, p1, p2, p3, p4, p5, p6, p7, p8⟩, _⟩ := nine d1
  have HD0 := hid d0
  have HD1 := hid d1
  have HD2 := hid d2
  have HD3 := hid d3
  have HDZ := hid dz
  have HKW := hid KW
  clear d0 d1 d2 d3 dz KW R hN
  go_enter Tryd.func19, Tryd.ntmps19
  go_upto_region 3 with (first
    | (go_at_call 41; refine hC.mono ?_; rintro e w1 ⟨w6, w7, rfl, O1, K1⟩; obtain ⟨ua6, uc6, rfl⟩ := ownsRow_shape O1.nodes; obtain ⟨ua7, uc7, rfl⟩ := ownsRow_shape O1.sigs; simp only [] at O1; clear hC p0 p1 p2 p3 p4 p5 p6 p7 p8; unfold stA;
        have HO1 := hid O1; have HK1 := hid K1; clear O1 K1)
    | fail)
  have KX : Kept (fun g => g = w1.heap.size) w1 (w1.alloc (.cells #[.string x0, .string x1, .string x2, .string x3, .int .i64 1, .string x5, (Value.slice ua6 ln.length uc6), (Value.slice ua7 ls.length uc7), .int .i64 (x8 + 1)] 33)) := Kept.alloc _ _ _
  have hx4 : w.heap.size + 4 ≤ w1.heap.size := by rw [← HDZ.out]; exact HK1.out.size
  have hbx : (w1.alloc (.cells #[.string x0, .string x1, .string x2, .string x3, .int .i64 1, .string x5, (Value.slice ua6 ln.length uc6), (Value.slice ua7 ls.length uc7), .int .i64 (x8 + 1)] 33)).heap[w1.heap.size]? = some (.cells (stA (⟨x0, x1, x2, x3, 1, x5, ln, ls, x8 + 1⟩ : St) (Value.slice ua6 ln.length uc6) (Value.slice ua7 ls.length uc7)) 33 (0, 0)) := heap_alloc_new w1 _
  have hzx : w1.heap.size < (w1.alloc (.cells #[.string x0, .string x1, .string x2, .string x3, .int .i64 1, .string x5, (Value.slice ua6 ln.length uc6), (Value.slice ua7 ls.length uc7), .int .i64 (x8 + 1)] 33)).heap.size := (Array.getElem?_eq_some_iff.1 hbx).1
  have AP : ApIn w (w1.alloc (.cells #[.string x0, .string x1, .string x2, .string x3, .int .i64 1, .string x5, (Value.slice ua6 ln.length uc6), (Value.slice ua7 ls.length uc7), .int .i64 (x8 + 1)] 33)) nm a ns.length c ⟨x0, x1, x2, x3, 1, x5, ln, ls, x8⟩ (Value.slice va6 ln.length vc6) (Value.slice va7 ls.length vc7) ⟨ek, en, et, ez⟩ w1.heap.size (⟨x0, x1, x2, x3, 1, x5, ln, ls, x8 + 1⟩ : St) (Value.slice ua6 ln.length uc6) (Value.slice ua7 ls.length uc7) := by
    have key : ∀ {k : Nat} {o : Obj}, k < w.heap.size + 4 → ((((w.alloc (.cells #[.string nm, .slice a ns.length c] 24)).alloc (.cells #[.string x0, .string x1, .string x2, .string x3, .int .i64 1, .string x5, (Value.slice va6 ln.length vc6), (Value.slice va7 ls.length vc7), .int .i64 x8] 33)).alloc (.cells #[.int .i64 ek, .string en, .string et, .int .i64 ez] 51)).alloc (.cells #[.string ⟨#[]⟩, .string ⟨#[]⟩, .string ⟨#[]⟩, .string ⟨#[]⟩, .int .i64 0, .string ⟨#[]⟩, .slice none 0 0, .slice none 0 0, .int .i64 0] 33)).heap[k]? = some o → (w1.alloc (.cells #[.string x0, .string x1, .string x2, .string x3, .int .i64 1, .string x5, (Value.slice ua6 ln.length uc6), (Value.slice ua7 ls.length uc7), .int .i64 (x8 + 1)] 33)).heap[k]? = some o := fun {k o} hk h => (KX.block k (Nat.lt_of_lt_of_le (by rw [HDZ.out]; exact hk) HK1.out.size) (by omega)).trans ((HK1.out.block k (by rw [HDZ.out]; exact hk) (fun h => h)).trans h)
    have o6 := HO1.out.nodes
    have o7 := HO1.out.sigs
    have b6 : ∀ g, (Value.slice ua6 ln.length uc6).ownBlock = some g → w.heap.size + 4 ≤ g ∧ g < w1.heap.size := fun g hg => ⟨by rw [← HDZ.out]; exact (o6.lt g hg).1, (o6.lt g hg).2⟩
    have b7 : ∀ g, (Value.slice ua7 ls.length uc7).ownBlock = some g → w.heap.size + 4 ≤ g ∧ g < w1.heap.size := fun g hg => ⟨by rw [← HDZ.out]; exact (o7.lt g hg).1, (o7.lt g hg).2⟩
    exact ⟨key (by omega) HD0.out, key (by omega) HD1.out, key (by omega) HD2.out, key (by omega) HD3.out,
      ⟨hbx, rfl, ownsRow_low (ownsRow_keep o6 (fun g hg => KX.block g (b6 g hg).2 (by have := (b6 g hg).2; omega))) (Nat.zero_le _), ownsRow_low (ownsRow_keep o7 (fun g hg => KX.block g (b7 g hg).2 (by have := (b7 g hg).2; omega))) (Nat.zero_le _), ⟨hx4, hzx⟩, fun g hg => ⟨⟨(b6 g hg).1, by have := (b6 g hg).2; omega⟩, by have := (b6 g hg).2; omega⟩, fun g hg => ⟨⟨(b7 g hg).1, by have := (b7 g hg).2; omega⟩, by have := (b7 g hg).2; omega⟩, fun g h => h.2⟩,
      (HKW.out.and HK1.out).trans KX (fun i hi => .inr (by subst hi; omega))⟩
  clear HO1 HK1 KX hbx hzx HD0 HD1 HD2 HD3
  generalize w1.alloc (.cells #[.string x0, .string x1, .string x2, .string x3, .int .i64 1, .string x5, (Value.slice ua6 ln.length uc6), (Value.slice ua7 ls.length uc7), .int .i64 (x8 + 1)] 33) = V at *
  clear HDZ HKW
  generalize w1.heap.size = bx at *
  have c1 : (ek == 1) = false := by rw [beq_eq_false_iff_ne]; exact H1.out
  have c13 : (ek == 13) = false := by rw [beq_eq_false_iff_ne]; exact H13.out
  have c15 : (ek == 15) = false := by rw [beq_eq_false_iff_ne]; exact H15.out
  have hFd := refFind_any V nm a ns.length c ns (keptNew AP.keep HN.out) rfl (by omega) en
  obtain ⟨y0, y1⟩ := twoB AP.d
  obtain ⟨⟨e0, e1, e2, e3⟩, _⟩ := four AP.ev
  obtain ⟨⟨s0, s1, s2, s3, s4, s5, s6, s7, s8⟩, _⟩ := nine AP.st
  have hxb := AP.xs.blk
  change V.heap[bx]? = some (.cells #[.string x0, .string x1, .string x2, .string x3, .int .i64 1, .string x5, (Value.slice ua6 ln.length uc6), (Value.slice ua7 ls.length uc7), .int .i64 (x8 + 1)] 33 (0, 0)) at hxb
  obtain ⟨⟨l0, l1, l2, l3, l4, l5, l6, l7, l8⟩, m0, m1, m2, m3, m4, m5, m6, m7, m8⟩ := nine hxb
  cases hf : findP ns en with
  | none =>
    rw [hf] at hFd
    have HG : Hid (applyR nm ns (⟨x0, x1, x2, x3, 1, x5, ln, ls, x8⟩ : St) ⟨ek, en, et, ez⟩ = none) := by
      show _ = _
      unfold applyR
      rw [if_neg H1.out, if_neg (by simp), if_neg H13.out, if_neg H15.out]
      dsimp only
      rw [hf]
    clear hf
    go_upto_region 20 with (first
      | (go_at_call 23; refine hFd.mono ?_; rintro e w2 ⟨rfl, K2⟩; clear hFd)
      | fail)
    replace AP := AP.new K2
    clear y0 y1 e0 e1 e2 e3 s0 s1 s2 s3 s4 s5 s6 s7 s8 l0 l1 l2 l3 l4 l5 l6 l7 l8 m0 m1 m2 m3 m4 m5 m6 m7 m8 hxb K2
    obtain ⟨⟨s0, s1, s2, s3, s4, s5, s6, s7, s8⟩, _⟩ := nine AP.st
    obtain ⟨⟨z0, z1, z2, z3, z4, z5, z6, z7, z8⟩, q0, q1, q2, q3, q4, q5, q6, q7, q8⟩ := nine AP.re
    have E1 := put9 AP.re (.string x0) (.string x1) (.string x2) (.string x3) (.int .i64 1) (.string x5) (Value.slice va6 ln.length vc6) (Value.slice va7 ls.length vc7) (.int .i64 x8)
    have KK := kept9 (S := fun j => j = w.heap.size + 1 + 1 + 1) w2 rfl (.string x0) (.string x1) (.string x2) (.string x3) (.int .i64 1) (.string x5) (Value.slice va6 ln.length vc6) (Value.slice va7 ls.length vc7) (.int .i64 x8)
    obtain ⟨⟨k0, k1, k2, k3, k4, k5, k6, k7, k8⟩, _⟩ := nine E1
    have HKK := hid (AP.keep.trans KK (fun i hi => .inr (by subst hi; omega)))
    clear E1 KK
    go_wp2_with fail
    refine bodyPost_ret (v := .tuple #[.agg #[.string x0, .string x1, .string x2, .string x3, .int .i64 1, .string x5, (Value.slice va6 ln.length vc6), (Value.slice va7 ls.length vc7), .int .i64 x8], .int .i64 12]) (by simp [results, Tryd.results19, go_sem, k0, k1, k2, k3, k4, k5, k6, k7, k8]; try rfl) rfl ?_
    show ApPost _ _ _ _ _ _ _
    rw [HG.out]
    exact ⟨rfl, HKK.out⟩
  | some i =>
    have hi := HFn.out i hf
    rw [hf] at hFd
    have HG : Hid (applyR nm ns (⟨x0, x1, x2, x3, 1, x5, ln, ls, x8⟩ : St) ⟨ek, en, et, ez⟩ = none) := by
      show _ = _
      unfold applyR
      rw [if_neg H1.out, if_neg (by simp), if_neg H13.out, if_neg H15.out]
      dsimp only
      rw [hf]
      dsimp only
      rw [List.getElem?_eq_none hi]
      cases ns[i]? <;> rfl
    clear hf
    have g1 : (ln.length : Int) ≤ (i : Int) := by omega
    go_upto_region 20 with (first
      | (go_at_call 23; refine hFd.mono ?_; rintro e w2 ⟨rfl, K2⟩; clear hFd)
      | fail)
    replace AP := AP.new K2
    clear y0 y1 e0 e1 e2 e3 s0 s1 s2 s3 s4 s5 s6 s7 s8 l0 l1 l2 l3 l4 l5 l6 l7 l8 m0 m1 m2 m3 m4 m5 m6 m7 m8 hxb K2
    have hxb := AP.xs.blk
    change w2.heap[bx]? = some (.cells #[.string x0, .string x1, .string x2, .string x3, .int .i64 1, .string x5, (Value.slice ua6 ln.length uc6), (Value.slice ua7 ls.length uc7), .int .i64 (x8 + 1)] 33 (0, 0)) at hxb
    obtain ⟨⟨_, _, _, _, _, _, l6, _, _⟩, _⟩ := nine hxb
    obtain ⟨⟨s0, s1, s2, s3, s4, s5, s6, s7, s8⟩, _⟩ := nine AP.st
    obtain ⟨⟨z0, z1, z2, z3, z4, z5, z6, z7, z8⟩, q0, q1, q2, q3, q4, q5, q6, q7, q8⟩ := nine AP.re
    have E1 := put9 AP.re (.string x0) (.string x1) (.string x2) (.string x3) (.int .i64 1) (.string x5) (Value.slice va6 ln.length vc6) (Value.slice va7 ls.length vc7) (.int .i64 x8)
    have KK := kept9 (S := fun j => j = w.heap.size + 1 + 1 + 1) w2 rfl (.string x0) (.string x1) (.string x2) (.string x3) (.int .i64 1) (.string x5) (Value.slice va6 ln.length vc6) (Value.slice va7 ls.length vc7) (.int .i64 x8)
    obtain ⟨⟨k0, k1, k2, k3, k4, k5, k6, k7, k8⟩, _⟩ := nine E1
    have HKK := hid (AP.keep.trans KK (fun i hi => .inr (by subst hi; omega)))
    clear E1 KK
    go_wp2_with fail
    refine bodyPost_ret (v := .tuple #[.agg #[.string x0, .string x1, .string x2, .string x3, .int .i64 1, .string x5, (Value.slice va6 ln.length vc6), (Value.slice va7 ls.length vc7), .int .i64 x8], .int .i64 12]) (by simp [results, Tryd.results19, go_sem, k0, k1, k2, k3, k4, k5, k6, k7, k8]; try rfl) rfl ?_
    show ApPost _ _ _ _ _ _ _
    rw [HG.out]
    exact ⟨rfl, HKK.out⟩

end Go.Proofs.YtfjekjbkifmpfaaDoor.Rf

/-
  The document's going on, with its number of steps.
-/
namespace Go.Proofs.YtfjekjbkifmpfaaDoor.Rf
open Go.RowKit

/-- The document's going on in f steps at most. -/
inductive OnF (nm : ByteArray) (ns : List Nd) : Nat → Rn → Rn → Prop where
  | stop {f : Nat} {r : Rn} : r.st.status ≠ 1 → OnF nm ns f r r
  | step {f : Nat} {r r' : Rn} {i : Nat} {l : List Nat} : r.st.status = 1 → r.st.nodes.length = ns.length → goReady ns r = i :: l → (hi : i < ns.length) → OnF nm ns f (beginR nm ns r (ns[i]'hi)) r' → OnF nm ns (f + 1) r r'
  | done {f : Nat} {r : Rn} : r.st.status = 1 → r.st.nodes.length = ns.length → goReady ns r = [] → restC r.st.nodes = 0 → OnF nm ns f r (closedR nm ns r 2 (lastP r.st.nodes))
  | rest {f : Nat} {r : Rn} : r.st.status = 1 → r.st.nodes.length = ns.length → goReady ns r = [] → restC r.st.nodes ≠ 0 → OnF nm ns f r r

def idleC (l : List Ns) : Nat := l.countP (fun y => y.status == 0)

theorem count_modify {α : Type} {p : α → Bool} {f : α → α} : ∀ (l : List α) (i : Nat) (y : α), l[i]? = some y → p y = true → p (f y) = false → (l.modify i f).countP p + 1 = l.countP p
  | [], i, y, h, _, _ => by simp at h
  | a :: l, 0, y, h, h1, h2 => by
    obtain rfl : a = y := by simpa using h
    rw [List.modify_zero_cons, List.countP_cons, List.countP_cons, h1, h2]
    simp
  | a :: l, i + 1, y, h, h1, h2 => by
    have := count_modify l i y (by simpa using h) h1 h2
    rw [List.modify_succ_cons, List.countP_cons, List.countP_cons]
    omega

theorem idleC_len (l : List Ns) : idleC l ≤ l.length := List.countP_le_length

theorem idle_set {l : List Ns} {i : Nat} {y : Ns} {m : Mv} {e : Ev} (h : l[i]? = some y) (h0 : y.status = 0) (hm : m.dst ≠ 0) : idleC (setNode l i m e) + 1 = idleC l := by
  unfold idleC setNode
  exact count_modify l i y h (by simp [h0]) (by simp [hm])

theorem on_fuel {nm : ByteArray} {ns : List Nd} (S : Sound ns) {r r' : Rn} (h : On nm ns r r') : Fine ns r.st → OnF nm ns (idleC r.st.nodes) r r' := by
  induction h with
  | stop h => exact fun _ => .stop h
  | done h1 h2 h3 => exact fun F => .done h1 F.len h2 h3
  | rest h1 h2 h3 => exact fun F => .rest h1 F.len h2 h3
  | @step r r' i x hs hR hx hOn ih =>
    intro F
    obtain ⟨l, hl⟩ : ∃ l, goReady ns r = i :: l := by
      cases hg : goReady ns r with
      | nil => rw [hg] at hR; cases hR
      | cons j l =>
        rw [hg] at hR
        obtain rfl : j = i := by simpa using hR
        exact ⟨l, rfl⟩
    obtain ⟨hi, y, hy, hy0⟩ := goReady_idle (ns := ns) (r := r) (i := i) (by rw [hl]; exact List.mem_cons_self)
    obtain rfl : ns[i] = x := by rw [List.getElem?_eq_getElem hi] at hx; exact Option.some.inj hx
    have hk := S.kind _ (List.getElem_mem hi)
    have hf := S.find i _ (List.getElem?_eq_getElem hi)
    have hb := begin_same (nm := nm) F.bare hs hf hx hy hy0 hk.1 hk.2
    obtain ⟨m, e, hm, _, hn⟩ := begin_nodes (nm := nm) hs hf hx hy hy0 hk.1 hk.2
    have ih' := ih (by rw [hb]; exact begin_fine F hs hf hx hy hy0 hk.1 hk.2)
    have hc : idleC (beginR nm ns r ns[i]).st.nodes + 1 = idleC r.st.nodes := by
      rw [hb, hn]
      exact idle_set hy hy0 hm
    rw [← hc]
    exact .step hs F.len hl hi ih'

theorem rest_zero {l : List Ns} : restC l = 0 ↔ ∀ (j : Nat) (h : j < l.length), (l[j]'h).status = 3 := by
  unfold restC
  rw [List.countP_eq_zero]
  constructor
  · intro h j hj
    have := h _ (List.getElem_mem hj)
    simpa using this
  · intro h x hx
    obtain ⟨j, hj, rfl⟩ := List.getElem_of_mem hx
    simp [h j hj]

theorem uniq_of (ns : List Nd) (S : Sound ns) : Uniq ns := fun i h => S.find i _ (List.getElem?_eq_getElem h)

theorem lastP_at {l : List Ns} {m : Nat} (h : l.length = m + 1) : lastP l = (l[m]'(by omega)).text := by
  unfold lastP
  rw [List.getLast?_eq_getElem?, show l.length - 1 = m by omega, List.getElem?_eq_getElem (show m < l.length by omega)]
  rfl

end Go.Proofs.YtfjekjbkifmpfaaDoor.Rf

/-
  The run's methods that look for a node: find, busy, busyWait.
-/
namespace Go.Proofs.YtfjekjbkifmpfaaDoor
open Go.RowKit

def inpV (q : Inp) : Value := .agg #[.int .i64 q.kind, .string q.node, .string q.name, .string q.text, .int .i64 q.tr, .int .i64 q.status, .int .i64 q.now, .string q.par, .string q.pnode]

theorem findS_some {ns : List Nd} {m : Nat} {x : ByteArray} (h : findS ns m x = true) : ∃ i, findP ns x = some i ∧ i < m := by
  unfold findS at h
  split at h
  · rename_i i hi
    exact ⟨i, hi, of_decide_eq_true h⟩
  · cases h

set_option maxRecDepth 100000 in
set_option maxHeartbeats 4000000 in
theorem rfind_any {w0 w : World} {H : Nat → Prop} {rb : Nat} {nm : ByteArray} {a : Option Addr} {c : Nat} {ns : List Nd} {r : Rn} {m : Nat} (E : Env w0 w H a ns) (R : RAt w H rb nm a ns.length c r) (F : Fit r m) (hm : m ≤ 1000000) (x : ByteArray) (ka : Option Addr) (kc : Nat) (ks : List Int) (hks : ks.length ≤ 1000000) (hC : CellsAt w ka (ks.map (Value.int .i64))) :
    Calls Tryd.prog 77 #[.pointer (some ⟨rb, 0, none⟩), .string x, .slice ka ks.length kc] w fun e w' => e = .returned (.tuple #[.int .i64 ((findP ns x).getD 0 : Nat), .bool (findK ns r.st x ks).isSome]) ∧ Kept (fun _ => False) w w' := by
  obtain ⟨v6, v7, v12, v13, hb, hn6, hn7, _, _, htop⟩ := R.opened
  obtain ⟨x0, x1, x2, x3, x4, x5, x6, x7, x8, x9, x10, _⟩ := runCells hb
  have hF := hfind_any w.drew nm a c ns (keptNew (Kept.drew _ _) E.here.1) E.few r.st v6 v7 ⟨flat_of_owns (ownsRow_keep hn6 (fun _ _ => rfl)), flat_of_owns (ownsRow_keep hn7 (fun _ _ => rfl)), F.nodes, by have := F.sigs; omega⟩ x
  have HE := hid E
  have HCC := hid hC
  unfold stA at hF
  clear E R F hn6 hn7 hb htop hC
  go_enter Tryd.func77, Tryd.ntmps77
  go_upto_region 1 with fail
  refine wp_onlyN (fd1 _ x0 x1 x2 x3 x4 x5 x6 x7 x8 x9 x10 hF ?_)
  intro _ _ _ _ _ _ _ _ _ _ _ _ _ w5 K5
  have y1 := keepC K5 x1 (fun _ _ h => h)
  clear x0 x1 x2 x3 x4 x5 x6 x7 x8 x9 x10 hF
  cases hs : findS ns r.st.nodes.length x with
  | false =>
    have hk : findK ns r.st x ks = none := by
      unfold findK
      unfold findS at hs
      split
      · rfl
      · rename_i i hi
        rw [hi] at hs
        split
        · rfl
        · rw [if_neg (fun h => by simp at hs; omega)]
    have HK := hid (show (findK ns r.st x ks).isSome = false by rw [hk]; rfl)
    clear hk
    go_wp2_with fail
    go_ret2
    exact ⟨by rw [HK.out]; rfl, K5⟩
  | true =>
    obtain ⟨i, hi, h6⟩ := findS_some hs
    have hin := findP_lt hi
    have hC5 := contains_any w5 ka kc ks hks (HCC.out.kept K5 (fun _ _ h => h)) (ns[i]).kind
    obtain ⟨b, o, av, cv, hae, hT, c0, c1, c2, c3, c4, c5, c6⟩ := (keptNew K5 HE.out.here.1).at hin
    have hk : (findK ns r.st x ks).isSome = ks.contains (ns[i]).kind := by
      unfold findK
      rw [hi]
      dsimp only
      rw [List.getElem?_eq_getElem hin]
      dsimp only
      cases ks.contains (ns[i]).kind with
      | true => rw [if_pos ⟨h6, rfl⟩]; rfl
      | false => rw [if_neg (fun h => by cases h.2)]; rfl
    have HK := hid hk
    have e1 : (i : Int) < (ns.length : Int) := by omega
    have hg : ((findP ns x).getD 0) = i := by rw [hi]; rfl
    have HG := hid hg
    rw [hg]
    subst hae
    clear hk hg hi hs hT
    generalize ks.contains (ns[i]).kind = bb at *
    generalize (ns[i]).kind = kd at *
    go_wp2_with (first
      | (go_at_call 97; refine hC5.mono ?_; rintro e w6 ⟨rfl, hw6⟩; subst w6; clear hC5)
      | fail)
    go_ret2
    exact ⟨by rw [HK.out, HG.out]; rfl, K5⟩

set_option maxRecDepth 100000 in
set_option maxHeartbeats 8000000 in
theorem busy_any {w0 w : World} {H : Nat → Prop} {rb : Nat} {nm : ByteArray} {a : Option Addr} {c : Nat} {ns : List Nd} {r : Rn} {m : Nat} (E : Env w0 w H a ns) (R : RAt w H rb nm a ns.length c r) (F : Fit r m) (hm : m ≤ 1000000) (q : Inp) (ka : Option Addr) (kc : Nat) (ks : List Int) (hks : ks.length ≤ 1000000) (hC : CellsAt w ka (ks.map (Value.int .i64))) :
    Calls Tryd.prog 78 #[.pointer (some ⟨rb, 0, none⟩), inpV q, .slice ka ks.length kc] w fun e w' => e = .returned (.tuple #[.int .i64 ((busyP ns r.st q ks).1 : Nat), .int .i64 (busyP ns r.st q ks).2]) ∧ Kept (fun _ => False) w w' := by
  unfold inpV
  have KA := Kept.alloc (fun _ => False) w (.cells #[.int .i64 q.kind, .string q.node, .string q.name, .string q.text, .int .i64 q.tr, .int .i64 q.status, .int .i64 q.now, .string q.par, .string q.pnode] 39)
  have hF := rfind_any (E.new KA) (R.new KA) F hm q.node ka kc ks hks (hC.kept KA (fun _ _ h => h))
  have qb := heap_alloc_new w (.cells #[.int .i64 q.kind, .string q.node, .string q.name, .string q.text, .int .i64 q.tr, .int .i64 q.status, .int .i64 q.now, .string q.par, .string q.pnode] 39)
  have HQ := hid qb
  have HE := hid E
  have HR := hid R
  have HKA := hid KA
  clear E R F hC KA qb
  cases hk : findK ns r.st q.node ks with
  | none =>
    have HB := hid (show busyP ns r.st q ks = (0, 6) by unfold busyP; rw [hk])
    rw [hk] at hF
    simp only [Option.isSome_none] at hF
    clear hk
    generalize (findP ns q.node).getD 0 = j at *
    go_enter Tryd.func78, Tryd.ntmps78
    go_wp2_with (first
      | (go_at_call 77; refine hF.mono ?_; rintro e w5 ⟨rfl, K5⟩; clear hF)
      | fail)
    go_ret2
    exact ⟨by rw [HB.out]; rfl, HKA.out.and K5⟩
  | some i =>
    obtain ⟨h1, h6, hfp, hkd⟩ := findK_some hk
    have hbp : busyP ns r.st q ks = if busyB ns r.st i q.tr = true then (i, 0) else (0, 12) := by unfold busyP; rw [hk]
    have hbb : busyB ns r.st i q.tr = (((r.st.nodes[i]).status == 2) && (!((ns[i]).kind == 1) || ((r.st.nodes[i]).tr == q.tr))) := by unfold busyB; rw [List.getElem?_eq_getElem h1, List.getElem?_eq_getElem h6]
    rw [hk, hfp] at hF
    simp only [Option.isSome_some, Option.getD_some] at hF
    rw [hbb] at hbp
    have HB := hid hbp
    have e1 : (i : Int) < (ns.length : Int) := by omega
    have e6 : (i : Int) < (r.st.nodes.length : Int) := by omega
    clear hk hfp hkd hbp hbb
    obtain ⟨s2, hs2⟩ : ∃ s2, ((r.st.nodes[i]).status == 2) = s2 := ⟨_, rfl⟩
    obtain ⟨k1, hk1⟩ : ∃ k1, ((ns[i]).kind == 1) = k1 := ⟨_, rfl⟩
    obtain ⟨t1, ht1⟩ : ∃ t1, ((r.st.nodes[i]).tr == q.tr) = t1 := ⟨_, rfl⟩
    rw [hs2, hk1, ht1] at HB
    have hs2' : ((r.st.nodes[i]).status != 2) = !s2 := by rw [← hs2]; rfl
    have ht1' : ((r.st.nodes[i]).tr != q.tr) = !t1 := by rw [← ht1]; rfl
    have cells : ∀ w5, Kept (fun _ => False) (w.alloc (.cells #[.int .i64 q.kind, .string q.node, .string q.name, .string q.text, .int .i64 q.tr, .int .i64 q.status, .int .i64 q.now, .string q.par, .string q.pnode] 39)) w5 → ∃ b o g n6 c6, a = some ⟨b, o, none⟩ ∧ w5.cell? ⟨rb, 1, none⟩ = some (.slice (some ⟨b, o, none⟩) ns.length c) ∧ w5.cell? ⟨b, o + i * 7 + 1, none⟩ = some (.int .i64 (ns[i]).kind) ∧ w5.cell? ⟨rb, 8, none⟩ = some (.slice (some ⟨g, 0, none⟩) n6 c6) ∧ n6 = r.st.nodes.length ∧ w5.cell? ⟨g, i * 3, none⟩ = some (.int .i64 (r.st.nodes[i]).status) ∧ w5.cell? ⟨g, i * 3 + 1, none⟩ = some (.int .i64 (r.st.nodes[i]).tr) ∧ w5.cell? ⟨g, i * 3 + 2, none⟩ = some (.string (r.st.nodes[i]).text) ∧ w5.cell? ⟨w.heap.size, 4, none⟩ = some (.int .i64 q.tr) := fun w5 K5 => by
      have KK := HKA.out.and K5
      obtain ⟨v6, v7, v12, v13, hb, hn6, _, _, _, _⟩ := (HR.out.new KK).opened
      obtain ⟨_, x1, _, _, _, _, _, _, x8, _⟩ := runCells hb
      obtain ⟨b, o, av, cv, hae, hT, c0, c1, _⟩ := (keptNew KK HE.out.here.1).at h1
      subst hae
      obtain ⟨g, cg, hv, _, _, hrow⟩ := row_at hn6 (by omega)
      subst hv
      refine ⟨b, o, g, _, cg, rfl, x1, c1, x8, rfl, (hrow _ _ (nsF_get h6).1).1, (hrow _ _ (nsF_get h6).2.1).1, (hrow _ _ (nsF_get h6).2.2).1, ?_⟩
      have h9 := (K5.block w.heap.size (by rw [World.size_alloc]; omega) (fun h => h)).trans HQ.out
      simp [World.cell?, h9]
    have HC := hid cells
    clear cells hs2 ht1
    generalize (r.st.nodes[i]).status = zs at *
    generalize (r.st.nodes[i]).tr = zt at *
    generalize (r.st.nodes[i]).text = zx at *
    generalize (ns[i]).kind = zk at *
    go_enter Tryd.func78, Tryd.ntmps78
    cases s2 with
    | false =>
      simp only [Bool.not_false, Bool.false_and] at hs2' HB
      go_wp2_with (first
        | (go_at_call 77; refine hF.mono ?_; rintro e w5 ⟨rfl, K5⟩; clear hF; obtain ⟨b, o, g, n6, c6, hae, y1, yk, y8, hn6, ys, yt, yx, yq⟩ := HC.out w5 K5; subst hn6; clear hae)
        | fail)
      go_ret2
      exact ⟨by rw [HB.out]; rfl, (HKA.out.and K5).and (Kept.alloc _ _ _)⟩
    | true =>
      cases k1 with
      | false =>
        simp only [Bool.not_true, Bool.true_and, Bool.not_false, Bool.true_or] at hs2' HB
        go_wp2_with (first
          | (go_at_call 77; refine hF.mono ?_; rintro e w5 ⟨rfl, K5⟩; clear hF; obtain ⟨b, o, g, n6, c6, hae, y1, yk, y8, hn6, ys, yt, yx, yq⟩ := HC.out w5 K5; subst hn6; clear hae; have KB := Kept.alloc (fun _ => False) w5 (.cells #[.int .i64 zs, .int .i64 zt, .string zx] 61); have yq' := keepC KB yq (fun _ _ h => h); have y1' := keepC KB y1 (fun _ _ h => h); have yk' := keepC KB yk (fun _ _ h => h); clear KB)
          | fail)
        go_ret2
        exact ⟨by rw [HB.out]; rfl, (HKA.out.and K5).and (Kept.alloc _ _ _)⟩
      | true =>
        cases t1 with
        | false =>
          simp only [Bool.not_true, Bool.true_and, Bool.not_false, Bool.false_or] at hs2' HB ht1'
          go_wp2_with (first
            | (go_at_call 77; refine hF.mono ?_; rintro e w5 ⟨rfl, K5⟩; clear hF; obtain ⟨b, o, g, n6, c6, hae, y1, yk, y8, hn6, ys, yt, yx, yq⟩ := HC.out w5 K5; subst hn6; clear hae; have KB := Kept.alloc (fun _ => False) w5 (.cells #[.int .i64 zs, .int .i64 zt, .string zx] 61); have yq' := keepC KB yq (fun _ _ h => h); have y1' := keepC KB y1 (fun _ _ h => h); have yk' := keepC KB yk (fun _ _ h => h); clear KB)
            | fail)
          go_ret2
          exact ⟨by rw [HB.out]; rfl, (HKA.out.and K5).and (Kept.alloc _ _ _)⟩
        | true =>
          simp only [Bool.not_true, Bool.true_and, Bool.or_true] at hs2' HB ht1'
          go_wp2_with (first
            | (go_at_call 77; refine hF.mono ?_; rintro e w5 ⟨rfl, K5⟩; clear hF; obtain ⟨b, o, g, n6, c6, hae, y1, yk, y8, hn6, ys, yt, yx, yq⟩ := HC.out w5 K5; subst hn6; clear hae; have KB := Kept.alloc (fun _ => False) w5 (.cells #[.int .i64 zs, .int .i64 zt, .string zx] 61); have yq' := keepC KB yq (fun _ _ h => h); have y1' := keepC KB y1 (fun _ _ h => h); have yk' := keepC KB yk (fun _ _ h => h); clear KB)
            | fail)
          go_ret2
          exact ⟨by rw [HB.out]; rfl, (HKA.out.and K5).and (Kept.alloc _ _ _)⟩

end Go.Proofs.YtfjekjbkifmpfaaDoor

/-
  failTry: a try of an activity ends.
-/
namespace Go.Proofs.YtfjekjbkifmpfaaDoor
open Go.RowKit

set_option maxRecDepth 100000 in
set_option maxHeartbeats 8000000 in
theorem failTry_any {w0 w : World} {H : Nat → Prop} {rb : Nat} {nm : ByteArray} {a : Option Addr} {c : Nat} {ns : List Nd} {r : Rn} {m : Nat} (E : Env w0 w H a ns) (R : RAt w H rb nm a ns.length c r) (F : Fit r m) (hm : m ≤ 999999) (hn : ns.length ≤ 999999) (i : Nat) (h1 : i < ns.length) (h6 : i < r.st.nodes.length) (tx : ByteArray) :
    Calls Tryd.prog 79 #[.pointer (some ⟨rb, 0, none⟩), .int .i64 (i : Nat), .string tx] w fun e w' => e = .returned (.tuple #[]) ∧ RGoes w H rb nm a ns.length c (failTryP nm ns r i tx) w' := by
  have hfp : failTryP nm ns r i tx = if (ns[i]).tries ≤ (r.st.nodes[i]).tr then breakP nm ns r (ns[i]).name tx else tellP nm ns r ⟨5, (ns[i]).name, tx, (r.st.nodes[i]).tr⟩ [⟨1, ⟨#[]⟩, (ns[i]).name, IntKind.i64.wrap ((r.st.nodes[i]).tr + 1), 0, zeroMl⟩] := by
    unfold failTryP
    rw [List.getElem?_eq_getElem h1, List.getElem?_eq_getElem h6]
  obtain ⟨v6, v7, v12, v13, hb, hn6, _, _, _, _⟩ := R.opened
  obtain ⟨_, x1, _, _, _, _, _, _, x8, _⟩ := runCells hb
  obtain ⟨b, o, av, cv, hae, hT, c0, c1, c2, c3, c4, c5, c6⟩ := E.here.1.at h1
  obtain ⟨g, cg, hv, _, _, hrow⟩ := row_at hn6 (by omega)
  subst hv
  have q1 := (hrow _ _ (nsF_get h6).2.1).1
  have hB := fun V (KV : Kept (fun _ => False) w V) => breakAt_any (E.new KV) (R.new KV) F hm hn (ns[i]).name tx
  obtain ⟨z, hz⟩ : ∃ z, IntKind.i64.wrap ((r.st.nodes[i]).tr + 1) = z := ⟨_, rfl⟩
  have hT1 := fun V (KV : Kept (fun _ => False) w V) => tell1 (E.new KV) (R.new KV) F (by omega) ⟨5, (ns[i]).name, tx, (r.st.nodes[i]).tr⟩ ⟨1, ⟨#[]⟩, (ns[i]).name, z, 0, zeroMl⟩
  rw [hz] at hfp
  have HW := hid hfp
  have hst := fun (W : World) (a : Addr) (x y : Nat) (m : Mode) => run_store Tryd.prog W a (.complex .f64 x y) m rfl
  unfold zeroMl at hT1
  dsimp only at hT1
  subst hae
  clear hfp hb hn6 hrow hT E R F
  generalize (r.st.nodes[i]).tr = tr at *
  go_enter Tryd.func79, Tryd.ntmps79
  go_upto_region 0 with fail
  refine wp_onlyN (ft0 _ x1 x8 c0 c1 c2 c3 c4 c5 c6 q1 h1 h6 ?_)
  intro _ _ _ _ _ _ _ _ _ _ _ _ _ _ _ _ _ mb W hmb hM KW
  obtain ⟨⟨n0, n1, n2, n3, n4, n5, n6⟩, _⟩ := cells7F hM
  have hB1 := hB W KW
  have hT2 := hT1 (W.alloc (.cells #[.int .i64 1, .complex .f64 0 0, .string ⟨#[]⟩, .string (ns[i]).name, .int .i64 z, .int .i64 0, .int .i64 0, .string ⟨#[]⟩, .string ⟨#[]⟩, .string ⟨#[]⟩, .string ⟨#[]⟩, .string ⟨#[]⟩, .int .i64 0] 78)) (KW.and (Kept.alloc _ _ _))
  rw [World.size_alloc] at hT2
  have n0' := fun o => keepC (Kept.alloc (fun _ => False) W o) n0 (fun _ _ h => h)
  have HKW := hid KW
  clear x1 x8 c0 c1 c2 c3 c4 c5 c6 q1 hB hT1 hM KW
  by_cases hle : (ns[i]).tries ≤ tr
  · rw [if_pos hle] at HW
    clear hT2
    go_wp2_with (first
      | (go_at_call 80; refine hB1.mono ?_; rintro e w9 ⟨rfl, X9⟩; clear hB1)
      | fail)
    (try simp only [Exit.inBlock, Exit.then]); refine bodyPost_ret (results_none rfl _ _ _) rfl ?_
    refine ⟨rfl, ?_⟩
    rw [HW.out]
    exact X9.first HKW.out
  · rw [if_neg hle] at HW
    clear hB1
    go_wp2_with (first
      | (go_at_call 73; refine hT2.mono ?_; rintro e w9 ⟨rfl, X9⟩; clear hT2)
      | fail)
    go_end0
    refine ⟨rfl, ?_⟩
    rw [HW.out]
    exact X9.first (HKW.out.and (Kept.alloc _ _ _))

end Go.Proofs.YtfjekjbkifmpfaaDoor
