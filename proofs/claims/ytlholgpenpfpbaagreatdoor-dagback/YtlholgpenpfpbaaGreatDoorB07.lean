/-
  Order: the nodes, each behind those ahead of it.
-/
import Derived.Test.YtlholgpenpfpbaaGreatDoorB06
import Derived.Test.YtlholgpenpfpbaaGreatDoorB01
import Derived.ScopeJumps
import Derived.RangeFuncNested
import Derived.RangeFuncBound
import Derived.RangeFuncCalls
import Derived.RangeFuncLeaves
import Derived.RangeFuncWrites
import Derived.Shelf.Abstract
import Derived.Shelf.RegionOpen
import Derived.WalkKit
import Derived.OwnWalkIn
import Derived.TacticsInMore
import Derived.LoopNIn
import Derived.LoopIn
import Derived.Deep.RegionHeld
namespace Go.Proofs.YtlholgpenpfpbaaGreatDoor
open Go.RowKit

theorem jump_weaken {l : Nat} {J J' : Act → World → Prop} {Q : Exit → Act → World → Prop} (h : ∀ a w, J a w → J' a w) : ∀ e a w, Exit.jump l J Q e a w → Exit.jump l J' Q e a w := by
  intro e a w hj
  cases e <;> simp only [Exit.jump] at hj ⊢ <;> first | exact hj | exact ⟨hj.1, h _ _ hj.2⟩

/-- A scope whose code jumps back to one label: one walk of what lies behind the label serves both the first coming and each jump. -/
theorem wp_scope_loop {P : Program} {a : Act} {w : World} {Q : Exit → Act → World → Prop} {c y : Code} (l : Nat) (J : Act → World → Prop) (μ : Act → World → Nat) (hf : findLabel c l = some (Code.skip.seq y))
    (pass : ∀ a w, J a w → y.wp P (Exit.jump l (fun a' w' => J a' w' ∧ μ a' w' < μ a w) Q) a w)
    (first : (∀ a w, J a w → y.wp P (Exit.jump l J Q) a w) → c.wp P (Exit.jump l J Q) a w) : (Code.scope c).wp P Q a w :=
  wp_scope_jumps l J μ hf (first fun a w h => Code.wp_mono (jump_weaken fun _ _ h => h.1) (pass a w h)) (fun a w h => wp_seq (wp_skip (pass a w h)))

theorem getD_set {fo : List Int} {x : Nat} (hx : x < fo.length) (z : Int) (j : Nat) : (fo.set x z).getD j 0 = if j = x then z else fo.getD j 0 := by
  rw [List.getD_eq_getElem?_getD, List.getD_eq_getElem?_getD, List.getElem?_set]
  by_cases e : x = j
  · subst e; simp [hx]
  · have : ¬ j = x := fun h => e h.symm
    simp [e, this]

theorem getD_at {fo : List Int} {x : Nat} (hx : x < fo.length) : fo.getD x 0 = fo[x] := by
  rw [List.getD_eq_getElem?_getD, List.getElem?_eq_getElem hx]; rfl

theorem open_may {ns : List Nd} {T : List Nat} {fo : List Int} (O : OpenIs ns T fo) {i : Nat} (hi : i < ns.length) : (fo.getD i 0 = 0) ↔ mayB ns T i = true := by
  rw [getD_at (by rw [O.1]; exact hi)]
  exact openIs_may O hi

theorem open_step {ns : List Nd} {T : List Nat} {i p : Nat} {fo : List Int} (hs : ∀ n ∈ ns, n.after.length ≤ 1000000) (R : Runs ns T) (hm : mayB ns T i = true) (O : OpenAt ns T i p fo) (hp : p < (bhL ns i ns.length).length) :
    (bhL ns i ns.length)[p] < ns.length ∧ 1 ≤ fo.getD (bhL ns i ns.length)[p] 0 ∧ fo.getD (bhL ns i ns.length)[p] 0 ≤ 1000000 ∧ OpenAt ns T i (p + 1) (fo.set (bhL ns i ns.length)[p] (fo.getD (bhL ns i ns.length)[p] 0 - 1)) := by
  obtain ⟨h, h1, h2⟩ := openAt_step R hm O hp
  have hx : (bhL ns i ns.length)[p] ∈ bhL ns i ns.length := List.getElem_mem hp
  obtain ⟨hT, n, hn, hc⟩ := bh_free R hm hx
  have hv := O.2 _ n hn
  rw [if_neg hT, List.getElem?_eq_getElem h] at hv
  have hv2 := Option.some.inj hv
  have hle := need_le ns T n
  have hfew := hs n (List.mem_of_getElem? hn)
  rw [getD_at h]
  exact ⟨bh_lt hx, h1, by rw [hv2]; omega, h2⟩

theorem ownsRow_low {w : World} {B B' e size : Nat} {v : Value} {n : Nat} {xs : List Value} (h : w.ownsRow B e size v n xs) (hB : B' ≤ B) : w.ownsRow B' e size v n xs := by
  refine ⟨h.1, ?_⟩
  rcases h.2 with h0 | ⟨g, cap, cur, hv, hb, r⟩
  · exact .inl h0
  · exact .inr ⟨g, cap, cur, hv, Nat.le_trans hB hb, r⟩

/-- Where the order stands between two rounds. -/
structure OrdSt (w1 : World) (ns : List Nd) (ob : Nat) (wr : World) (T : List Nat) (fo : List Int) (v6 : Value) : Prop where
  row : wr.rowIs ob 3 ns.length (fun x => .int .i64 (fo.getD x 0))
  ord : wr.ownsRow w1.heap.size 3 1 v6 T.length (natsV T)
  kept : Kept (fun j => j = ob ∨ w1.heap.size ≤ j) w1 wr
  run : Runs ns T
  opn : OpenIs ns T fo

/-- What waits has laid. -/
structure OrdFix (w w1 : World) (name : ByteArray) (a : Option Addr) (c : Nat) (ns : List Nd) (ob : Nat) (vs : Nat → Value) : Prop where
  lo : w.heap.size + 1 ≤ ob
  hi : ob + 1 < w1.heap.size
  beh : BehAt w1 (ob + 2) (fun g => ob + 2 ≤ g ∧ g < w1.heap.size) (ob + 1) ns.length (fun j => bhL ns j ns.length) vs
  kept : Kept (fun _ => False) (w.alloc (.cells #[.string name, .slice a ns.length c] 24)) w1

def ordJ (w w1 : World) (name : ByteArray) (a : Option Addr) (c : Nat) (ns : List Nd) (ob : Nat) (a' : Act) (w' : World) : Prop :=
  ∃ (T : List Nat) (fo : List Int) (a6 : Option Addr) (c6 fr : Nat) (u : Nat → Value),
    a' = { tmps := #[.agg #[.string name, .slice a ns.length c], .pointer (some ⟨w.heap.size, 0, none⟩), .slice none 0 0, .bool false, .slice (some ⟨ob, 0, none⟩) ns.length ns.length, .slice (some ⟨ob + 1, 0, none⟩) ns.length ns.length, .slice a6 T.length c6, .int .i64 (fr : Nat), u 8, u 9, u 10, u 11, u 12, u 13, u 14, u 15, u 16, u 17, u 18, u 19, u 20, u 21, u 22, u 23, u 24, u 25, u 26, u 27, u 28, u 29, u 30, u 31, u 32, u 33, u 34, u 35, u 36, u 37, u 38, u 39, u 40, u 41, u 42, u 43, u 44, u 45, u 46, u 47, u 48, u 49, u 50, u 51, u 52, u 53, u 54, u 55, u 56, u 57, u 58, u 59, u 60, u 61, u 62, u 63, u 64, u 65, u 66, u 67, u 68, u 69], defers := [] } ∧
      OrdSt w1 ns ob w' T fo (.slice a6 T.length c6) ∧ fr ≤ ns.length ∧ ∀ y, y < fr → mayB ns T y = false

theorem ordJ_of {w w1 w' : World} {name : ByteArray} {a a6 : Option Addr} {c ob c6 fr : Nat} {ns : List Nd} {a' : Act} {T : List Nat} {fo : List Int}
    (h : a' = { tmps := #[.agg #[.string name, .slice a ns.length c], .pointer (some ⟨w.heap.size, 0, none⟩), .slice none 0 0, .bool false, .slice (some ⟨ob, 0, none⟩) ns.length ns.length, .slice (some ⟨ob + 1, 0, none⟩) ns.length ns.length, .slice a6 T.length c6, .int .i64 (fr : Nat), a'.tmps.getD 8 undef, a'.tmps.getD 9 undef, a'.tmps.getD 10 undef, a'.tmps.getD 11 undef, a'.tmps.getD 12 undef, a'.tmps.getD 13 undef, a'.tmps.getD 14 undef, a'.tmps.getD 15 undef, a'.tmps.getD 16 undef, a'.tmps.getD 17 undef, a'.tmps.getD 18 undef, a'.tmps.getD 19 undef, a'.tmps.getD 20 undef, a'.tmps.getD 21 undef, a'.tmps.getD 22 undef, a'.tmps.getD 23 undef, a'.tmps.getD 24 undef, a'.tmps.getD 25 undef, a'.tmps.getD 26 undef, a'.tmps.getD 27 undef, a'.tmps.getD 28 undef, a'.tmps.getD 29 undef, a'.tmps.getD 30 undef, a'.tmps.getD 31 undef, a'.tmps.getD 32 undef, a'.tmps.getD 33 undef, a'.tmps.getD 34 undef, a'.tmps.getD 35 undef, a'.tmps.getD 36 undef, a'.tmps.getD 37 undef, a'.tmps.getD 38 undef, a'.tmps.getD 39 undef, a'.tmps.getD 40 undef, a'.tmps.getD 41 undef, a'.tmps.getD 42 undef, a'.tmps.getD 43 undef, a'.tmps.getD 44 undef, a'.tmps.getD 45 undef, a'.tmps.getD 46 undef, a'.tmps.getD 47 undef, a'.tmps.getD 48 undef, a'.tmps.getD 49 undef, a'.tmps.getD 50 undef, a'.tmps.getD 51 undef, a'.tmps.getD 52 undef, a'.tmps.getD 53 undef, a'.tmps.getD 54 undef, a'.tmps.getD 55 undef, a'.tmps.getD 56 undef, a'.tmps.getD 57 undef, a'.tmps.getD 58 undef, a'.tmps.getD 59 undef, a'.tmps.getD 60 undef, a'.tmps.getD 61 undef, a'.tmps.getD 62 undef, a'.tmps.getD 63 undef, a'.tmps.getD 64 undef, a'.tmps.getD 65 undef, a'.tmps.getD 66 undef, a'.tmps.getD 67 undef, a'.tmps.getD 68 undef, a'.tmps.getD 69 undef], defers := [] })
    (O : OrdSt w1 ns ob w' T fo (.slice a6 T.length c6)) (hfr : fr ≤ ns.length) (hl : ∀ y, y < fr → mayB ns T y = false) : ordJ w w1 name a c ns ob a' w' :=
  ⟨T, fo, a6, c6, fr, fun i => a'.tmps.getD i undef, h, O, hfr, hl⟩

def sliceLen : Value → Nat
  | .slice _ m _ => m
  | _ => 0

theorem ordSt_start {w1 : World} {ns : List Nd} {ob : Nat} (R : w1.rowIs ob 3 ns.length (openF ns ns.length)) : OrdSt w1 ns ob w1 [] (ns.map (fun n => (n.after.length : Int))) (.slice none 0 0) := by
  refine ⟨R.congr (fun i hi => ?_), World.ownsRow_nil _ _ _ _, Kept.refl _ _, Runs.zero ns, by simp, fun x n hn => ?_⟩
  · unfold openF
    rw [if_pos hi, List.getElem?_eq_getElem hi, List.getD_eq_getElem?_getD, List.getElem?_map, List.getElem?_eq_getElem hi]
    rfl
  · rw [List.getElem?_map, hn, need_nil]
    simp

set_option maxRecDepth 100000 in
set_option maxHeartbeats 4000000 in
theorem order_any (w : World) (name : ByteArray) (a : Option Addr) (n c : Nat) (ns : List Nd) (hN : NodesAt w a ns) (hl : ns.length = n) (hn : n ≤ 1000000) :
    Calls Tryz.prog 17 #[.agg #[.string name, .slice a n c]] w fun e w' => ∃ av cv, e = .returned (.tuple #[.slice av (ordP ns).length cv, .bool (decide ((ordP ns).length = n))]) ∧ w'.ownsRow w.heap.size 3 1 (.slice av (ordP ns).length cv) (ordP ns).length (natsV (ordP ns)) ∧ Kept (fun _ => False) w w' := by
  subst hl
  obtain ⟨i0, hi0, hz0, hz1, hz2⟩ := info_parts Tryz.info3
  have hW := waits_any (w.alloc (.cells #[.string name, .slice a ns.length c] 24)) name a ns.length c ns (keptNew (Kept.alloc _ _ _) hN) rfl hn
  rw [World.size_alloc] at hW
  have HL : Hid (∀ n ∈ ns, n.after.length ≤ 1000000) := fun n h => (hN.1 n h).few
  clear hN
  go_enter Tryz.func17, Tryz.ntmps17
  go_wp2_with fail
  refine wp_scope_loop 0 (fun a' w' => ∃ w1 ob vs, OrdFix w w1 name a c ns ob vs ∧ ordJ w w1 name a c ns ob a' w') (fun a' _ => ns.length - sliceLen (a'.tmps.getD 6 undef)) rfl ?_ ?_
  rotate_left
  · intro pass
    go_wp2_with (first
      | (go_at_call 32; refine hW.mono ?_; rintro e w1 ⟨ob, vs, rfl, hob, R1, H1, K1⟩; clear hW)
      | fail)
    go_step3
    refine (‹∀ (a : Act) (w : World), Code.wp _ _ _ a w → _›) _ _ ?_
    refine pass _ _ ⟨w1, ob, vs, ⟨hob, H1.row.lt, H1.widen (fun j hj g hg => ⟨H1.inS j hj g hg, ownsRow_blk (H1.own j hj) hg⟩) (fun g h => by omega), K1⟩, ?_⟩
    exact ordJ_of rfl (ordSt_start R1) (Nat.zero_le _) (fun y h => absurd h (Nat.not_lt_zero _))
  · clear hW
    rintro a' w' ⟨w1, ob, vs, X, T0, fo0, a60, c60, fr0, u, rfl, O0, hfr0, hl0⟩
    have HX : Hid (OrdFix w w1 name a c ns ob vs) := X
    have HO0 : Hid (OrdSt w1 ns ob w' T0 fo0 (.slice a60 T0.length c60)) := O0
    have HL0 : Hid (∀ y, y < fr0 → mayB ns T0 y = false) := hl0
    have hx1 := X.lo
    have hx2 := X.hi
    clear X O0 hl0
    go_wp2_with fail
    go_loopw [6, 7, 8] (fun v6 v7 v8 wr => ∃ (T : List Nat) (fo : List Int) (a6 : Option Addr) (c6 i : Nat), v6 = .slice a6 T.length c6 ∧ v8 = .int .i64 (i : Nat) ∧ OrdSt w1 ns ob wr T fo (.slice a6 T.length c6) ∧ i ≤ ns.length ∧ (∀ y, y < i → mayB ns T y = false) ∧ T0.length ≤ T.length) (fun _ _ v8 _ => ns.length - (intOf v8).toNat)
    case atStart => exact ⟨T0, fo0, a60, c60, fr0, rfl, rfl, HO0.out, hfr0, HL0.out, Nat.le_refl _⟩
    case round =>
      obtain ⟨wo, hwo⟩ : ∃ wo, wo = wr := ⟨_, rfl⟩
      subst hwo
      obtain ⟨T, fo, a6, c6, i, rfl, rfl, O, hi, hlow, hT0⟩ := hrel
      have Kb : Kept (fun j => j = ob ∨ w1.heap.size ≤ j) w1 wo := O.kept
      have hwz := Kb.size
      by_cases hlt : i < ns.length
      · have r1 := O.row.cell hlt
        have e0 : (i : Int) < (ns.length : Int) := by omega
        have hom := open_may O.opn hlt
        have HO : Hid (OrdSt w1 ns ob wo T fo (.slice a6 T.length c6)) := O
        have HLo : Hid (∀ y, y < i → mayB ns T y = false) := hlow
        clear O hlow
        by_cases hz : fo.getD i 0 = 0
        · have hm := hom.1 hz
          rw [hz] at r1
          clear hom hz
          have HC : Hid (∀ u ∈ [Value.int .i64 (i : Nat)], u.oneCell' = true) := natsV_one [i]
          have htl : T.length ≤ 1000000 := Nat.le_trans HO.out.run.2.2.2.1 hn
          obtain ⟨ai, ci, hvi⟩ := ownsRow_shape (HX.out.beh.own i hlt)
          have hrow := HX.out.beh.own i hlt
          rw [hvi] at hrow
          have hblk : ∀ g, (Value.slice ai (bhL ns i ns.length).length ci).ownBlock = some g → g < w1.heap.size ∧ g ≠ ob ∧ g ≠ ob + 1 := fun g hg => by
            have := HX.out.beh.inS i hlt g (by rw [hvi]; exact hg)
            omega
          have HROW : Hid (w1.ownsRow (ob + 2) 3 1 (.slice ai (bhL ns i ns.length).length ci) (bhL ns i ns.length).length (natsV (bhL ns i ns.length))) := hrow
          have hLn := bhL_len2 HL.out hn i
          clear hrow
          go_wp2_with (first
            | (at_builtin; refine wpList_append_src _ rfl _ _ 50 rfl w1.heap.size 3 i0 _ 1 8 Tryz.underlying50 hi0 hz0 hz1 hz2 rfl (by decide) (.slice a6 T.length c6) T.length _ rfl (HO.out.ord.alloc _) _ rfl 1 _ (.inl ⟨_, 1, rfl, rfl, World.news_of_block (heap_alloc_new _ _)⟩) HC.out (by unfold maxLen; omega) (by omega) (by simp; omega) ?_; intro a3 cap3 w6 ho3 hg3 _ hl3;
                have KG : Kept (fun g => w1.heap.size ≤ g) wo w6 := (Kept.alloc _ _ _).and (Kept.grown hg3 (fun g e => (HO.out.ord.lt g e).1)); have hsz6 := KG.size;
                have r6 := HO.out.row.of_block (KG.block ob HO.out.row.lt (by omega)); have b6 := r6.cell hlt; have z6 := r6.frozen i;
                have HR6 : Hid ((w6.setCell ⟨ob, i, none⟩ (.int .i64 (-1))).rowIs ob 3 ns.length (fun x => .int .i64 ((fo.set i (-1)).getD x 0))) := ((r6.set i (.int .i64 (-1))).congr (fun q hq => by rw [getD_set (by rw [HO.out.opn.1]; exact hlt)]; split <;> rfl));
                have HO6 : Hid ((w6.setCell ⟨ob, i, none⟩ (.int .i64 (-1))).ownsRow w1.heap.size 3 1 (.slice a3 (T.length + 1) cap3) (T.length + 1) (natsV (T ++ [i]))) := (ownsRow_keep (by rw [show natsV (T ++ [i]) = natsV T ++ natsV [i] by simp [natsV]]; exact ho3) (fun g hg => Below.heap_setCell _ _ _ _ (fun e => by have := (ho3.lt g hg).1; have e' : g = ob := e; omega)));
                have K6 : Hid (Kept (fun j => j = ob ∨ w1.heap.size ≤ j) w1 (w6.setCell ⟨ob, i, none⟩ (.int .i64 (-1)))) := ((Kb.and (KG.mono (fun g h => .inr h))).and (Kept.setCell _ _ _ (.inl rfl)));
                have hbc := (HX.out.beh.row.of_block (K6.out.block (ob + 1) HX.out.beh.row.lt (by omega))).cell hlt; rw [hvi] at hbc;
                clear ho3 r6 hg3 hl3 KG)
            | fail)
          go_loopw [7, 41] (fun v7 q wq => ∃ (p fr : Nat) (fo2 : List Int), p ≤ (bhL ns i ns.length).length ∧ q = .int .i64 (p : Nat) ∧ v7 = .int .i64 (fr : Nat) ∧ fr ≤ i ∧ OpenAt ns T i p fo2 ∧ wq.rowIs ob 3 ns.length (fun x => .int .i64 (fo2.getD x 0)) ∧ (∀ x ∈ (bhL ns i ns.length).take p, fo2[x]? = some 0 → fr ≤ x) ∧ Kept (fun j => j = ob) (w6.setCell ⟨ob, i, none⟩ (.int .i64 (-1))) wq) (fun _ q _ => (bhL ns i ns.length).length - (intOf q).toNat)
          case atStart => exact ⟨0, i, fo.set i (-1), Nat.zero_le _, rfl, rfl, Nat.le_refl _, openAt_start HO.out.opn i, HR6.out, fun x hx => (by simp at hx), Kept.refl _ _⟩
          case round =>
            obtain ⟨p, fr, fo2, hp, rfl, rfl, hfr, OA, RQ, hzz, KQ⟩ := hrel
            by_cases hpl : p < (bhL ns i ns.length).length
            · obtain ⟨hxl, hx1', hx2', OA2⟩ := open_step HL.out HO.out.run hm OA hpl
              have hfl : fo2.length = ns.length := OA.1
              have KQ1 := K6.out.and (KQ.mono (fun j h => .inl h))
              have hro := ownsRow_keep (w' := wr) HROW.out (fun g hg => KQ1.block g (hblk g hg).1 (by have := hblk g hg; omega))
              have ht := take_snoc hpl
              have rx := RQ.cell hxl
              have zx := RQ.frozen (bhL ns i ns.length)[p]
              have rs := (RQ.set (bhL ns i ns.length)[p] (.int .i64 (fo2.getD (bhL ns i ns.length)[p] 0 - 1))).congr (g := fun q => .int .i64 ((fo2.set (bhL ns i ns.length)[p] (fo2.getD (bhL ns i ns.length)[p] 0 - 1)).getD q 0)) (fun q hq => by rw [getD_set (by rw [hfl]; exact hxl)]; split <;> rfl)
              obtain ⟨g, rfl⟩ : ∃ g, ai = some ⟨g, 0, none⟩ := by
                rcases hro.2 with ⟨e, h0⟩ | ⟨g, _, _, e, _⟩
                · omega
                · simp only [Value.slice.injEq] at e
                  exact ⟨g, e.1⟩
              have hcl := hro.cellAt p (by omega)
              rw [show (natsV (bhL ns i ns.length))[p]? = some (.int .i64 ((bhL ns i ns.length)[p] : Nat)) by simp [natsV, hpl]] at hcl
              have e1 : (p : Int) < ((bhL ns i ns.length).length : Int) := by omega
              have e2 : ((bhL ns i ns.length)[p] : Int) < (ns.length : Int) := by omega
              have HOA : Hid (OpenAt ns T i (p + 1) (fo2.set (bhL ns i ns.length)[p] (fo2.getD (bhL ns i ns.length)[p] 0 - 1))) := OA2
              have HRS : Hid ((wr.setCell ⟨ob, (bhL ns i ns.length)[p], none⟩ (.int .i64 (fo2.getD (bhL ns i ns.length)[p] 0 - 1))).rowIs ob 3 ns.length (fun q => .int .i64 ((fo2.set (bhL ns i ns.length)[p] (fo2.getD (bhL ns i ns.length)[p] 0 - 1)).getD q 0))) := rs
              have HZ : Hid (∀ fr', fr' ≤ fr → (fo2.getD (bhL ns i ns.length)[p] 0 - 1 = 0 → fr' ≤ (bhL ns i ns.length)[p]) → ∀ x ∈ (bhL ns i ns.length).take (p + 1), (fo2.set (bhL ns i ns.length)[p] (fo2.getD (bhL ns i ns.length)[p] 0 - 1))[x]? = some 0 → fr' ≤ x) := fun fr' h1 h2 x hx h0 => by
                rw [List.getElem?_set] at h0
                by_cases ex : (bhL ns i ns.length)[p] = x
                · rw [if_pos ex, if_pos (by rw [hfl]; exact hxl)] at h0
                  rw [← ex]
                  exact h2 (Option.some.inj h0)
                · rw [if_neg ex] at h0
                  rw [ht, List.mem_append] at hx
                  rcases hx with hx | hx
                  · exact Nat.le_trans h1 (hzz x hx h0)
                  · simp at hx; exact absurd hx.symm ex
              clear OA OA2 rs ht hzz hro RQ KQ1
              generalize (bhL ns i ns.length)[p] = x at *
              generalize fo2.getD x 0 = z at *
              by_cases hz0' : z = 1
              · subst hz0'
                go_wp2_with fail
                go_roundw
                case rel => exact ⟨p + 1, min fr x, _, by omega, by go_num, by rw [show ((min fr x : Nat) : Int) = min (fr : Int) (x : Int) by omega], by omega, HOA.out, HRS.out, HZ.out (min fr x) (by omega) (fun _ => by omega), KQ.and (Kept.setCell _ _ _ rfl)⟩
                case measure => simp [intOf]; omega
              · have hz1' : ¬ z - 1 = 0 := by omega
                go_wp2_with fail
                go_roundw
                case rel => exact ⟨p + 1, fr, _, by omega, by go_num, rfl, hfr, HOA.out, HRS.out, HZ.out fr (Nat.le_refl _) (fun h => absurd h hz1'), KQ.and (Kept.setCell _ _ _ rfl)⟩
                case measure => simp [intOf]; omega
            · obtain rfl : p = (bhL ns i ns.length).length := by omega
              have OI := openAt_end hm rfl OA
              rw [List.take_length] at hzz
              have hma := may_after hm HLo.out OI hfr hzz
              have O2 : OrdSt w1 ns ob wr (T ++ [i]) fo2 (.slice a3 (T ++ [i]).length cap3) := by
                refine ⟨RQ, ?_, K6.out.and (KQ.mono (fun j h => .inl h)), HO.out.run.step hm HLo.out, OI⟩
                rw [List.length_append, List.length_singleton]
                exact ownsRow_keep HO6.out (fun g hg => KQ.block g (ownsRow_blk HO6.out hg) (by have := (HO6.out.lt g hg).1; omega))
              have HO2 : Hid (OrdSt w1 ns ob wr (T ++ [i]) fo2 (.slice a3 (T ++ [i]).length cap3)) := O2
              have HMA : Hid (∀ y, y < fr → mayB ns (T ++ [i]) y = false) := hma
              have htn : T.length + 1 ≤ ns.length := by have := O2.run.2.2.2.1; rw [List.length_append] at this; exact this
              clear OI hma O2 OA RQ hzz
              by_cases hgo : fr < i
              · have e3 : (fr : Int) < (i : Int) := by omega
                go_wp2_with fail
                go_step3
                refine ⟨rfl, ⟨w1, ob, vs, HX.out, ordJ_of (T := T ++ [i]) (c6 := cap3) ?_ HO2.out (by omega) HMA.out⟩, ?_⟩
                · simp
                · simp [sliceLen]; omega
              · obtain rfl : fr = i := by omega
                go_wp2_with fail
                go_roundw
                case rel =>
                  refine ⟨T ++ [fr], fo2, a3, cap3, fr + 1, by simp, by go_num, HO2.out, by omega, fun y hy => ?_, by simp; omega⟩
                  rcases Nat.lt_succ_iff_lt_or_eq.1 hy with h | h
                  · exact HMA.out y h
                  · subst h; unfold mayB; simp
                case measure => simp [intOf]; omega
        · have HM : Hid (mayB ns T i = false) := by
            cases hb : mayB ns T i with
            | false => rfl
            | true => exact absurd (hom.2 hb) hz
          clear hom
          generalize fo.getD i 0 = z at *
          go_wp2_with fail
          go_roundw
          case rel => exact ⟨T, fo, a6, c6, i + 1, rfl, by go_num, HO.out, by omega, fun y hy => by rcases Nat.lt_succ_iff_lt_or_eq.1 hy with h | h; exact HLo.out y h; rw [h]; exact HM.out, hT0⟩
          case measure => simp [intOf]; omega
      · obtain rfl : i = ns.length := by omega
        have hst := O.run.stop hlow
        have hd1 := boxC (HX.out.kept.trans (S' := fun j => j = ob ∨ w1.heap.size ≤ j) Kb (fun g h => .inr (by have := HX.out.kept.size; rw [World.size_alloc] at this ⊢; omega))) (fun h => h) 1 _ rfl
        have HO : Hid (OrdSt w1 ns ob wo T fo (.slice a6 T.length c6)) := O
        have HK : Hid (Kept (fun _ => False) w wo) := ((Kept.alloc (fun _ => False) w _).and HX.out.kept).trans Kb (fun g h => .inr (by omega))
        have HST : Hid (ordP ns = T) := hst
        clear O hlow hst
        go_wp2_with (first | go_quiet (fail) | fail)
        simp only [Exit.jump]
        have hbq : ((T.length : Int) == (ns.length : Int)) = decide (T.length = ns.length) := by
          rw [Bool.eq_iff_iff]; simp; omega
        go_ret2
        refine ⟨a6, c6, ?_, ?_, HK.out.and (Kept.drewN _ _ _)⟩
        · rw [HST.out, ← hbq]; rfl
        · rw [HST.out]; exact ownsRow_low (own_drewN HO.out.ord _) (by have := HX.out.kept.size; rw [World.size_alloc] at this; omega)

end Go.Proofs.YtlholgpenpfpbaaGreatDoor

/-
  Check: what is wrong with a definition.
-/
namespace Go.Proofs.YtlholgpenpfpbaaGreatDoor
open Go.RowKit

theorem firstE_mono {f : Nat → Int} {k : Nat} {x : Nat × Int} (h : firstE f k = some x) : ∀ {n}, k ≤ n → firstE f n = some x := by
  intro n hn
  induction n with
  | zero => obtain rfl : k = 0 := by omega
            exact h
  | succ n ih =>
    by_cases e : k = n + 1
    · subst e; exact h
    · rw [firstE, ih (by omega)]

theorem firstE_hit {f : Nat → Int} {k n : Nat} (h : firstE f k = none) (hk : k < n) (hf : f k ≠ 0) : firstE f n = some (k, f k) :=
  firstE_mono (k := k + 1) (by rw [firstE, h]; simp [hf]) (by omega)

theorem firstE_next {f : Nat → Int} {k : Nat} (h : firstE f k = none) (hf : f k = 0) : firstE f (k + 1) = none := by
  rw [firstE, h]; simp [hf]

/-- What is wrong with node i by itself; with its After. -/
def nodeAt (ns : List Nd) (i : Nat) : Int := match ns[i]? with | some n => nodeE ns i n | none => 0
def aftAt (ns : List Nd) (i : Nat) : Int := match ns[i]? with | some n => afterE ns n | none => 0

theorem checkP_eq (name : ByteArray) (ns : List Nd) : checkP name ns =
    if nameP name = false then ((-1 : Int), (17 : Int))
    else if ns.length < 1 ∨ 32 < ns.length then ((-1 : Int), (10 : Int))
    else match firstE (nodeAt ns) ns.length with
      | some (i, e) => ((i : Int), e)
      | none => match firstE (aftAt ns) ns.length with
        | some (i, e) => ((i : Int), e)
        | none => if (ordP ns).length = ns.length then ((-1 : Int), (0 : Int)) else ((-1 : Int), (15 : Int)) := rfl

set_option maxRecDepth 100000 in
set_option maxHeartbeats 4000000 in
theorem check_any (w : World) (name : ByteArray) (a : Option Addr) (n c : Nat) (ns : List Nd) (hN : NodesAt w a ns) (hl : ns.length = n) :
    Calls Tryz.prog 10 #[.agg #[.string name, .slice a n c]] w fun e w' => e = .returned (.tuple #[.int .i64 (checkP name ns).1, .int .i64 (checkP name ns).2]) ∧ Kept (fun _ => False) w w' := by
  subst hl
  generalize hr : checkP name ns = r
  have HR : Hid (checkP name ns = r) := hr
  clear hr
  have hnm := name_any (w.alloc (.cells #[.string name, .slice a ns.length c] 24)) name
  cases g0 : nameP name with
  | false =>
    rw [g0] at hnm
    go_enter Tryz.func10, Tryz.ntmps10
    go_wp2_with (first
      | (go_at_call 22; refine hnm.mono ?_; rintro e w1 ⟨rfl, rfl⟩; clear hnm)
      | fail)
    go_ret2
    refine ⟨?_, Kept.alloc _ _ _⟩
    rw [← HR.out, checkP_eq, if_pos g0]
    rfl
  | true =>
    rw [g0] at hnm
    by_cases hc1 : ns.length < 1
    · have e1 : (ns.length : Int) < 1 := by omega
      go_enter Tryz.func10, Tryz.ntmps10
      go_wp2_with (first
        | (go_at_call 22; refine hnm.mono ?_; rintro e w1 ⟨rfl, rfl⟩; clear hnm)
        | fail)
      go_ret2
      refine ⟨?_, Kept.alloc _ _ _⟩
      rw [← HR.out, checkP_eq, if_neg (by rw [g0]; simp), if_pos (.inl hc1)]
      rfl
    · by_cases hc2 : 32 < ns.length
      · have e1 : ¬ (ns.length : Int) < 1 := by omega
        have e2 : (32 : Int) < (ns.length : Int) := by omega
        go_enter Tryz.func10, Tryz.ntmps10
        go_wp2_with (first
          | (go_at_call 22; refine hnm.mono ?_; rintro e w1 ⟨rfl, rfl⟩; clear hnm)
          | fail)
        go_ret2
        refine ⟨?_, Kept.alloc _ _ _⟩
        rw [← HR.out, checkP_eq, if_neg (by rw [g0]; simp), if_pos (.inr hc2)]
        rfl
      · have e1 : ¬ (ns.length : Int) < 1 := by omega
        have e2 : ¬ (32 : Int) < (ns.length : Int) := by omega
        have HN : Hid (NodesAt w a ns) := hN
        have HP : Hid (checkP name ns = match firstE (nodeAt ns) ns.length with
            | some (i, e) => ((i : Int), e)
            | none => match firstE (aftAt ns) ns.length with
              | some (i, e) => ((i : Int), e)
              | none => if (ordP ns).length = ns.length then ((-1 : Int), (0 : Int)) else ((-1 : Int), (15 : Int))) := by
          show _ = _
          rw [checkP_eq, if_neg (by rw [g0]; simp), if_neg (by omega)]
        have hcn := fun W (h : Kept (fun _ => False) w W) (i : Nat) (hi : i < ns.length) => checkNode_any W name a ns.length c ns (keptNew h hN) rfl (by omega) i hi
        have hca := fun W (h : Kept (fun _ => False) w W) (i : Nat) (hi : i < ns.length) => checkAfter_any W name a ns.length c ns (keptNew h hN) rfl (by omega) i hi
        have hor := fun W (h : Kept (fun _ => False) w W) => order_any W name a ns.length c ns (keptNew h hN) rfl (by omega)
        have hlen : ns.length ≤ 32 := by omega
        clear hN
        go_enter Tryz.func10, Tryz.ntmps10
        go_wp2_with (first
          | (go_at_call 22; refine hnm.mono ?_; rintro e w1 ⟨rfl, rfl⟩; clear hnm)
          | fail)
        go_loopw [27] (fun q wr => ∃ (i : Nat), i ≤ ns.length ∧ q = .int .i64 (i : Nat) ∧ firstE (nodeAt ns) i = none ∧ Kept (fun _ => False) (w.alloc (.cells #[.string name, .slice a ns.length c] 24)) wr) (fun q _ => ns.length - (intOf q).toNat)
        case atStart => exact ⟨0, Nat.zero_le _, rfl, rfl, Kept.refl _ _⟩
        case round =>
          obtain ⟨i, hi, rfl, hfe, K⟩ := hrel
          have Kw := (Kept.alloc (fun _ => False) w _).and K
          obtain ⟨d0, d1⟩ := boxD K
          by_cases hlt : i < ns.length
          · have h1 := hcn wr Kw i hlt
            have e3 : (i : Int) < (ns.length : Int) := by omega
            have hat : nodeAt ns i = nodeE ns i ns[i] := by unfold nodeAt; rw [List.getElem?_eq_getElem hlt]
            rw [← hat] at h1
            by_cases hz : nodeAt ns i = 0
            · have HF : Hid (firstE (nodeAt ns) (i + 1) = none) := firstE_next hfe hz
              rw [hz] at h1
              clear hat hz hfe hcn hca hor
              go_wp2_with (first
                | (go_at_call 23; refine h1.mono ?_; rintro e w2 ⟨rfl, K2⟩; clear h1)
                | fail)
              go_roundw
              case rel => exact ⟨i + 1, by omega, by go_num, HF.out, K.and K2⟩
              case measure => simp [intOf]; omega
            · have HF : Hid (firstE (nodeAt ns) ns.length = some (i, nodeAt ns i)) := firstE_hit hfe hlt hz
              have hz2 : (nodeAt ns i == 0) = false := by simpa using hz
              clear hat hfe hcn hca hor
              generalize nodeAt ns i = z at *
              go_wp2_with (first
                | (go_at_call 23; refine h1.mono ?_; rintro e w2 ⟨rfl, K2⟩; clear h1)
                | fail)
              go_ret2
              refine ⟨?_, Kw.and K2⟩
              rw [← HR.out, HP.out, HF.out]
              rfl
          · obtain rfl : i = ns.length := by omega
            have HF0 : Hid (firstE (nodeAt ns) ns.length = none) := hfe
            obtain ⟨wo, hwo⟩ : ∃ wo, wo = wr := ⟨_, rfl⟩
            subst hwo
            clear hfe hcn
            go_wp2_with fail
            go_loopw [41] (fun q wr => ∃ (i : Nat), i ≤ ns.length ∧ q = .int .i64 (i : Nat) ∧ firstE (aftAt ns) i = none ∧ Kept (fun _ => False) (w.alloc (.cells #[.string name, .slice a ns.length c] 24)) wr) (fun q _ => ns.length - (intOf q).toNat)
            case atStart => exact ⟨0, Nat.zero_le _, rfl, rfl, K⟩
            case round =>
              obtain ⟨i, hi, rfl, hfe, K'⟩ := hrel
              have Kw' := (Kept.alloc (fun _ => False) w _).and K'
              obtain ⟨d0', d1'⟩ := boxD K'
              by_cases hlt : i < ns.length
              · have h1 := hca wr Kw' i hlt
                have e3 : (i : Int) < (ns.length : Int) := by omega
                have hat : aftAt ns i = afterE ns ns[i] := by unfold aftAt; rw [List.getElem?_eq_getElem hlt]
                rw [← hat] at h1
                by_cases hz : aftAt ns i = 0
                · have HF : Hid (firstE (aftAt ns) (i + 1) = none) := firstE_next hfe hz
                  rw [hz] at h1
                  clear hat hz hfe hca hor
                  go_wp2_with (first
                    | (go_at_call 24; refine h1.mono ?_; rintro e w2 ⟨rfl, K2⟩; clear h1)
                    | fail)
                  go_roundw
                  case rel => exact ⟨i + 1, by omega, by go_num, HF.out, K'.and K2⟩
                  case measure => simp [intOf]; omega
                · have HF : Hid (firstE (aftAt ns) ns.length = some (i, aftAt ns i)) := firstE_hit hfe hlt hz
                  have hz2 : (aftAt ns i == 0) = false := by simpa using hz
                  clear hat hfe hca hor
                  generalize aftAt ns i = z at *
                  go_wp2_with (first
                    | (go_at_call 24; refine h1.mono ?_; rintro e w2 ⟨rfl, K2⟩; clear h1)
                    | fail)
                  go_ret2
                  refine ⟨?_, Kw'.and K2⟩
                  rw [← HR.out, HP.out, HF0.out, HF.out]
                  rfl
              · obtain rfl : i = ns.length := by omega
                have HF1 : Hid (firstE (aftAt ns) ns.length = none) := hfe
                have h1 := hor wr Kw'
                clear hfe hca hor
                by_cases hok : (ordP ns).length = ns.length
                · rw [show decide ((ordP ns).length = ns.length) = true by simpa using hok] at h1
                  go_wp2_with (first
                    | (go_at_call 17; refine h1.mono ?_; rintro e w2 ⟨av, cv, rfl, _, K2⟩; clear h1)
                    | fail)
                  go_ret2
                  refine ⟨?_, Kw'.and K2⟩
                  rw [← HR.out, HP.out, HF0.out, HF1.out]
                  simp only [hok, if_true]
                  rfl
                · rw [show decide ((ordP ns).length = ns.length) = false by simpa using hok] at h1
                  go_wp2_with (first
                    | (go_at_call 17; refine h1.mono ?_; rintro e w2 ⟨av, cv, rfl, _, K2⟩; clear h1)
                    | fail)
                  go_ret2
                  refine ⟨?_, Kw'.and K2⟩
                  rw [← HR.out, HP.out, HF0.out, HF1.out]
                  simp only [hok, if_false]
                  rfl

end Go.Proofs.YtlholgpenpfpbaaGreatDoor

/-
  Parse: a text is a definition, or it is refused at a line.
-/
namespace Go.Proofs.YtlholgpenpfpbaaGreatDoor
open Go.RowKit

/-- What Parse answers: the definition, if it is one; the line; the error. -/
def parseP (t : ByteArray) : Option (ByteArray × List Nd) × Nat × Int :=
  if 16384 < t.size then (none, 0, 9)
  else match rlP t with
    | (none, line) => (none, line, 2)
    | (some (nm, ns, ls), _) => if (checkP nm ns).2 = 0 then (some (nm, ns), 0, 0) else (none, if 0 ≤ (checkP nm ns).1 then ls.getD (checkP nm ns).1.toNat 0 else 0, (checkP nm ns).2)

theorem rl_pos : ∀ (f : Nat) (s : ByteArray) (line : Nat) (b : Bool) (nm : ByteArray) (ns : List Nd) (ls : List Nat) (l : Nat), rlK f s line b nm ns ls = (none, l) → line ≤ l
  | 0, s, line, b, nm, ns, ls, l, h => by simp [rlK] at h; omega
  | f + 1, s, line, b, nm, ns, ls, l, h => by
    rw [rlK] at h
    split at h
    · split at h
      · cases h
      · simp at h; omega
    · split at h
      · have := rl_pos f _ _ _ _ _ _ _ h; omega
      · split at h
        · split at h
          · simp at h; omega
          · have := rl_pos f _ _ _ _ _ _ _ h; omega
        · split at h
          · simp at h; omega
          · have := rl_pos f _ _ _ _ _ _ _ h; omega

/-- Words that are small. -/
def SmallW (l : List ByteArray) : Prop := l.length ≤ 1000000 ∧ ∀ s ∈ l, s.size ≤ 1000000

theorem SmallW.tail {x : ByteArray} {l : List ByteArray} (h : SmallW (x :: l)) : SmallW l := ⟨by have := h.1; simp at this; omega, fun s hs => h.2 s (List.mem_cons_of_mem _ hs)⟩

theorem word_small {r : RS} (h : SmallW r.1) : (rWord r).1.size ≤ 1000000 ∧ SmallW (rWord r).2.1 := by
  obtain ⟨ws, b⟩ := r
  cases ws with
  | nil => exact ⟨by simp [rWord], by simp [rWord], fun s hs => by simp [rWord] at hs⟩
  | cons x t => exact ⟨h.2 x (by simp), h.tail⟩
theorem name_small {r : RS} (h : SmallW r.1) : (rName r).1.size ≤ 1000000 ∧ SmallW (rName r).2.1 := word_small h
theorem flow_small {r : RS} (h : SmallW r.1) : (rFlow r).1.size ≤ 1000000 ∧ SmallW (rFlow r).2.1 := word_small h
theorem take_small {s : ByteArray} {r : RS} (h : SmallW r.1) : SmallW (rTake s r).2.1 := by
  obtain ⟨ws, b⟩ := r
  cases ws with
  | nil => exact h
  | cons x t =>
    unfold rTake
    simp only []
    split
    · exact h.tail
    · exact h
theorem num_small {r : RS} (h : SmallW r.1) : isI64 (rNum r).1 ∧ SmallW (rNum r).2.1 := by
  have z0 : isI64 0 := isI64_of (by decide) (by decide)
  unfold rNum
  split
  · rename_i hn
    have hm : madeP (rWord r).1 digitsB 15 = true := by
      unfold numP at hn
      rw [Bool.and_eq_true] at hn
      exact hn.1
    have := num_atoi hm
    exact ⟨isI64_of (by omega) (by omega), (word_small h).2⟩
  · exact ⟨z0, (word_small h).2⟩

theorem names_small {r : RS} (h : SmallW r.1) : SmallW (rNames r).1 := by
  obtain ⟨ws, b⟩ := r
  unfold rNames
  have h1 := name_small h
  cases ws with
  | nil => refine ⟨by simp [rName, rWord], fun s hs => ?_⟩
           simp [rName, rWord] at hs
           subst hs
           exact h1.1
  | cons x t =>
    refine ⟨by have := h.1; simpa [rName, rWord] using this, fun s hs => ?_⟩
    simp only [List.mem_cons] at hs
    rcases hs with rfl | hs
    · exact h1.1
    · exact h1.2.2 s hs

theorem i64_small {z : Int} (h : 0 ≤ z ∧ z ≤ 10) : isI64 z := isI64_of (by omega) (by omega)

theorem kind_small {x : ByteArray} {r : RS} (h : SmallW r.1) : isI64 (rKind x r).1.1 ∧ (rKind x r).1.2.1.size ≤ 1000000 ∧ (rKind x r).1.2.2.1.size ≤ 1000000 ∧ isI64 (rKind x r).1.2.2.2.1 ∧ isI64 (rKind x r).1.2.2.2.2 ∧ SmallW (rKind x r).2.1 := by
  have z0 : isI64 0 := i64_small (by decide)
  have z1 : isI64 1 := i64_small (by decide)
  have z2 : isI64 2 := i64_small (by decide)
  have z3 : isI64 3 := i64_small (by decide)
  have z4 : isI64 4 := i64_small (by decide)
  have z5 : isI64 5 := i64_small (by decide)
  have e0 : (⟨#[]⟩ : ByteArray).size ≤ 1000000 := by decide
  unfold rKind
  split
  · have hn := name_small h
    have ht := take_small (s := triB) hn.2
    have hm : isI64 (if (rTake triB (rName r).2).1 then rNum (rTake triB (rName r).2).2 else (1, (rTake triB (rName r).2).2)).1 ∧ SmallW (if (rTake triB (rName r).2).1 then rNum (rTake triB (rName r).2).2 else (1, (rTake triB (rName r).2).2)).2.1 := by
      split
      · exact num_small ht
      · exact ⟨z1, ht⟩
    have hu := take_small (s := tmoB) hm.2
    simp only []
    generalize (if (rTake triB (rName r).2).1 then rNum (rTake triB (rName r).2).2 else (1, (rTake triB (rName r).2).2)) = n at *
    refine ⟨z1, hn.1, e0, ?_, hm.1, ?_⟩
    · split
      · exact (num_small hu).1
      · exact z0
    · split
      · exact (num_small hu).2
      · exact hu
  · split
    · exact ⟨z2, e0, e0, (num_small h).1, z0, (num_small h).2⟩
    · split
      · exact ⟨z3, (name_small h).1, e0, z0, z0, (name_small h).2⟩
      · split
        · exact ⟨z4, (name_small h).1, e0, z0, z0, (name_small h).2⟩
        · split
          · exact ⟨z5, (name_small (flow_small h).2).1, (flow_small h).1, z0, z0, (name_small (flow_small h).2).2⟩
          · exact ⟨z0, e0, e0, z0, z0, h⟩

theorem tail_small {r : RS} (h : SmallW r.1) : SmallW (rTail r).1 := by
  unfold rTail
  split
  · exact names_small (take_small h)
  · exact ⟨by simp, fun s hs => by simp at hs⟩

/-- A node that was read is one of memory. -/
def NdFine (n : Nd) : Prop := NdOk n ∧ ∀ s ∈ n.after, s.size ≤ maxLen

theorem node_small {r : RS} (h : SmallW r.1) : NdFine (rNode r).1 := by
  have h1 := name_small h
  have h2 := word_small h1.2
  have h3 := kind_small (x := (rWord (rName r).2).1) h2.2
  have h4 := tail_small h3.2.2.2.2.2
  have hm : 1000000 ≤ maxLen := by unfold maxLen; omega
  exact ⟨⟨Nat.le_trans h1.1 hm, Nat.le_trans h3.2.1 hm, Nat.le_trans h3.2.2.1 hm, h3.1, h3.2.2.2.1, h3.2.2.2.2.1, h4.1⟩, fun s hs => Nat.le_trans (h4.2 s hs) hm⟩

theorem rl_fine : ∀ (f : Nat) (s : ByteArray) (line : Nat) (b : Bool) (nm : ByteArray) (ns : List Nd) (ls : List Nat), s.size ≤ 1000000 → (∀ n ∈ ns, NdFine n) → ns.length = ls.length → ∀ nm' ns' ls' k, rlK f s line b nm ns ls = (some (nm', ns', ls'), k) → (∀ n ∈ ns', NdFine n) ∧ ns'.length = ls'.length ∧ ns'.length ≤ ns.length + f
  | 0, s, line, b, nm, ns, ls, _, _, _, nm', ns', ls', k, h => by simp [rlK] at h
  | f + 1, s, line, b, nm, ns, ls, hs, hn, hl, nm', ns', ls', k, h => by
    rw [rlK] at h
    split at h
    · split at h
      · simp only [Prod.mk.injEq, Option.some.injEq] at h
        obtain ⟨⟨_, rfl, rfl⟩, _⟩ := h
        exact ⟨hn, hl, by omega⟩
      · cases h
    · rename_i h0
      have hcb := cutB_size (t := s) (by omega)
      have hca := cutA_size s
      have hw := words_ok (cutA s)
      split at h
      · have := rl_fine f _ _ _ _ _ _ (by omega) hn hl _ _ _ _ h
        exact ⟨this.1, this.2.1, by omega⟩
      · split at h
        · split at h
          · cases h
          · have := rl_fine f _ _ _ _ _ _ (by omega) hn hl _ _ _ _ h
            exact ⟨this.1, this.2.1, by omega⟩
        · split at h
          · cases h
          · have := rl_fine f _ _ _ _ _ _ (by omega) (fun n hh => by
              rcases List.mem_append.1 hh with hh | hh
              · exact hn n hh
              · simp at hh; subst hh
                exact node_small ⟨by show (wordsP (cutA s)).length ≤ _; omega, fun x hx => by have := (hw.2 x hx).2; omega⟩) (by simp [hl]) _ _ _ _ h
            simp only [List.length_append, List.length_singleton] at this
            exact ⟨this.1, this.2.1, by omega⟩

theorem firstE_lt {f : Nat → Int} : ∀ {n : Nat} {x : Nat × Int}, firstE f n = some x → x.1 < n
  | 0, x, h => by simp [firstE] at h
  | n + 1, x, h => by
    rw [firstE] at h
    split at h
    · rename_i y hy
      cases h
      have := firstE_lt hy
      omega
    · split at h
      · cases h
      · cases h; simp

theorem checkP_lt (nm : ByteArray) (ns : List Nd) : 0 ≤ (checkP nm ns).1 → (checkP nm ns).1.toNat < ns.length := by
  rw [checkP_eq]
  intro h
  split at h
  · simp at h
  · split at h
    · simp at h
    · rename_i h1 h2
      rw [if_neg h1, if_neg h2]
      cases g1 : firstE (nodeAt ns) ns.length with
      | some x =>
        have := firstE_lt g1
        simpa using this
      | none =>
        rw [g1] at h
        simp only [] at h
        cases g2 : firstE (aftAt ns) ns.length with
        | some x =>
          have := firstE_lt g2
          simpa using this
        | none =>
          rw [g2] at h
          simp only [] at h
          split at h <;> simp at h

def ParsePost (w : World) (p : Option (ByteArray × List Nd) × Nat × Int) (e : Ending) (w' : World) : Prop :=
  (∀ l z, p = (none, l, z) → e = .returned (.tuple #[.agg #[.string ⟨#[]⟩, .slice none 0 0], .int .i64 (l : Nat), .int .i64 z])) ∧
  (∀ nm ns l z, p = (some (nm, ns), l, z) → ∃ a c, e = .returned (.tuple #[.agg #[.string nm, .slice a ns.length c], .int .i64 (l : Nat), .int .i64 z]) ∧ NodesAt w' a ns ∧ ns.length ≤ c) ∧ Kept (fun _ => False) w w'

/-- A node's line, read out of the row of lines. -/
theorem lines_at {w1 w3 : World} {b : Nat} {base : Nat} {v0 v1 : Value} {a3 : Option Addr} {c3 m z : Nat} {ls : List Nat} (K3 : Kept (fun _ => False) ((w1.setCell ⟨b, 0, none⟩ v0).setCell ⟨b, 1, none⟩ v1) w3) (O : w1.ownsRow (base + 1) 3 1 (.slice a3 ls.length c3) ls.length (natsV ls)) (hb : b ≤ base) (h : (natsV ls)[m]? = some (.int .i64 ((z : Nat) : Int))) :
    ∃ g, a3 = some ⟨g, 0, none⟩ ∧ w3.cell? ⟨g, m, none⟩ = some (.int .i64 ((z : Nat) : Int)) := by
  have KS : Kept (fun j => j = b) w1 ((w1.setCell ⟨b, 0, none⟩ v0).setCell ⟨b, 1, none⟩ v1) := (Kept.setCell (S := fun j => j = b) w1 ⟨b, 0, none⟩ v0 rfl).and (Kept.setCell (S := fun j => j = b) _ ⟨b, 1, none⟩ v1 rfl)
  have O2 := ownsRow_keep O (fun g hg => KS.block g (ownsRow_blk O hg) (by have := (O.lt g hg).1; omega))
  have O3 := ownsRow_keep O2 (fun g hg => K3.block g (ownsRow_blk O2 hg) (fun h => h))
  have hm : m < (natsV ls).length := (List.getElem?_eq_some_iff.1 h).1
  rw [natsV_len] at hm
  rcases O3.2 with ⟨e, h0⟩ | ⟨g, cap, cur, e, _⟩
  · omega
  · simp only [Value.slice.injEq] at e
    obtain ⟨rfl, _, rfl⟩ := e
    refine ⟨g, rfl, ?_⟩
    rw [O3.cellAt m (by omega)]
    exact h

set_option maxRecDepth 100000 in
set_option maxHeartbeats 1500000 in
theorem parse_any (w : World) (t : ByteArray) (hsz : t.size ≤ 1000000) :
    Calls Tryz.prog 8 #[.string t] w fun e w' => ParsePost w (parseP t) e w' := by
  generalize hP : parseP t = P
  have HP : Hid (parseP t = P) := hP
  clear hP
  by_cases hbig : 16384 < t.size
  · have e1 : (16384 : Int) < (t.size : Int) := by omega
    go_enter Tryz.func8, Tryz.ntmps8
    go_wp2
    refine bodyPost_ret (by simp [results, Tryz.results8, go_sem]; try rfl) rfl ?_
    have hq : P = (none, 0, 9) := by rw [← HP.out]; unfold parseP; rw [if_pos hbig]
    subst hq
    exact ⟨fun l z h => (by cases h; rfl), fun _ _ _ _ h => (by cases h), Kept.alloc _ _ _⟩
  · have e1 : ¬ (16384 : Int) < (t.size : Int) := by omega
    have hrl := readLines_any (w.alloc (.cells #[.string ⟨#[]⟩, .slice none 0 0] 24)) t (by omega)
    have hD0 : ∀ w1, Kept (fun _ => False) (w.alloc (.cells #[.string ⟨#[]⟩, .slice none 0 0] 24)) w1 → w1.heap[w.heap.size]? = some (.cells #[.string ⟨#[]⟩, .slice none 0 0] 24 (0, 0)) := fun w1 K => (K.block _ (by simp) (fun h => h)).trans (heap_alloc_new _ _)
    have HPP : Hid (P = match rlP t with
      | (none, line) => (none, line, 2)
      | (some (nm, ns, ls), _) => if (checkP nm ns).2 = 0 then (some (nm, ns), 0, 0) else (none, if 0 ≤ (checkP nm ns).1 then ls.getD (checkP nm ns).1.toNat 0 else 0, (checkP nm ns).2)) := by
      show _ = _
      rw [← HP.out]; unfold parseP; rw [if_neg hbig]
    cases hr : rlP t with
    | mk o k =>
    rw [hr] at hrl
    cases o with
    | none =>
      have hpos : 1 ≤ k := rl_pos _ _ _ _ _ _ _ _ hr
      have e2 : (0 : Int) < (k : Int) := by omega
      have HQ : Hid (P = (none, k, 2)) := by show _ = _; rw [HPP.out, hr]
      clear hr HPP HP
      go_enter Tryz.func8, Tryz.ntmps8
      go_wp2_with (first
        | (go_at_call 20; refine hrl.mono ?_; rintro e w1 ⟨hn, _, K1⟩; obtain rfl := hn k rfl; clear hrl hn; have b1 := hD0 w1 K1; obtain ⟨⟨c0, c1⟩, f0, f1⟩ := twoC b1)
        | fail)
      generalize hV : ((((w1.setCell ⟨w.heap.size, 0, none⟩ (.string ⟨#[]⟩)).setCell ⟨w.heap.size, 1, none⟩ (.slice none 0 0)).setCell ⟨w.heap.size, 0, none⟩ (.string ⟨#[]⟩)).setCell ⟨w.heap.size, 1, none⟩ (.slice none 0 0)) = V
      have K0 := (Kept.alloc (fun _ => False) w _).and K1
      have hp := put2 (put2 b1 (.string ⟨#[]⟩) (.slice none 0 0)) (.string ⟨#[]⟩) (.slice none 0 0)
      have hk := kept2 (kept2 K0 (.string ⟨#[]⟩) (.slice none 0 0)) (.string ⟨#[]⟩) (.slice none 0 0)
      rw [hV] at hp hk
      obtain ⟨⟨g0, g1⟩, _, _⟩ := twoC hp
      refine bodyPost_ret (by simp [results, Tryz.results8, go_sem, g0, g1]; try rfl) rfl ?_
      rw [HQ.out]
      exact ⟨fun l z h => (by cases h; rfl), fun _ _ _ _ h => (by cases h), hk⟩
    | some x =>
      obtain ⟨nm, ns, ls⟩ := x
      have hfine := rl_fine _ _ _ _ _ _ _ (by omega) (fun n h => by simp at h) rfl _ _ _ _ hr
      have hCk := fun (W : World) (a : Option Addr) (c : Nat) (h : NodesAt W a ns) => check_any W nm a ns.length c ns h rfl
      have HFi : Hid (∀ n ∈ ns, NdFine n) := hfine.1
      have HLen : Hid (ns.length = ls.length) := hfine.2.1
      have hln2 : ns.length ≤ 16386 := by have := hfine.2.2; simp at this; omega
      have HQ : Hid (P = if (checkP nm ns).2 = 0 then (some (nm, ns), 0, 0) else (none, if 0 ≤ (checkP nm ns).1 then ls.getD (checkP nm ns).1.toNat 0 else 0, (checkP nm ns).2)) := by show _ = _; rw [HPP.out, hr]
      have hidx := checkP_lt nm ns
      clear hr HPP HP hfine
      generalize (checkP nm ns).1 = kk at *
      generalize (checkP nm ns).2 = ee at *
      have setup : ∀ w1 (K1 : Kept (fun _ => False) (w.alloc (.cells #[.string ⟨#[]⟩, .slice none 0 0] 24)) w1) (a : Option Addr) (c : Nat), NodesRow w1 ((w.alloc (.cells #[.string ⟨#[]⟩, .slice none 0 0] 24)).heap.size + 1) (.slice a ns.length c) ns →
          NodesAt ((w1.setCell ⟨w.heap.size, 0, none⟩ (.string nm)).setCell ⟨w.heap.size, 1, none⟩ (.slice a ns.length c)) a ns ∧ ns.length ≤ c := fun w1 K1 a c N => by
        have KS : Kept (fun j => j = w.heap.size) w1 ((w1.setCell ⟨w.heap.size, 0, none⟩ (.string nm)).setCell ⟨w.heap.size, 1, none⟩ (.slice a ns.length c)) := (Kept.setCell (S := fun j => j = w.heap.size) w1 ⟨w.heap.size, 0, none⟩ (.string nm) rfl).and (Kept.setCell (S := fun j => j = w.heap.size) _ ⟨w.heap.size, 1, none⟩ (.slice a ns.length c) rfl)
        refine ⟨(N.kept KS (fun k hk _ => by rw [World.size_alloc] at hk; omega)).at HFi.out, ?_⟩
        obtain ⟨vs, _, h2, _⟩ := N
        rcases h2.2 with ⟨e, h0⟩ | ⟨g, cap, cur, e, _, _, h1, _⟩
        · omega
        · simp only [Value.slice.injEq] at e; omega
      by_cases hee : ee = 0
      · subst hee
        have HQ2 : Hid (P = (some (nm, ns), 0, 0)) := by show _ = _; rw [HQ.out, if_pos rfl]
        clear HQ
        go_enter Tryz.func8, Tryz.ntmps8
        go_wp2_with (first
          | (go_at_call 20; refine hrl.mono ?_; rintro e w1 ⟨_, hn, K1⟩; obtain ⟨a, c, v3, rfl, N1, O1⟩ := hn nm ns ls k rfl; clear hrl hn; obtain ⟨a3, c3, rfl⟩ := ownsRow_shape O1; have b1 := hD0 w1 K1; obtain ⟨⟨c0, c1⟩, f0, f1⟩ := twoC b1; obtain ⟨NA, hcap⟩ := setup w1 K1 a c N1; have b2 := put2 b1 (.string nm) (.slice a ns.length c); obtain ⟨⟨p0, p1⟩, r0, r1⟩ := twoC b2; have K2 : Hid (Kept (fun _ => False) w ((w1.setCell ⟨w.heap.size, 0, none⟩ (.string nm)).setCell ⟨w.heap.size, 1, none⟩ (.slice a ns.length c))) := kept2 ((Kept.alloc (fun _ => False) w _).and K1) (.string nm) (.slice a ns.length c); have HNA : Hid (NodesAt ((w1.setCell ⟨w.heap.size, 0, none⟩ (.string nm)).setCell ⟨w.heap.size, 1, none⟩ (.slice a ns.length c)) a ns) := NA; have HO1 : Hid (w1.ownsRow ((w.alloc (.cells #[.string ⟨#[]⟩, .slice none 0 0] 24)).heap.size + 1) 3 1 (.slice a3 ls.length c3) ls.length (natsV ls)) := O1; have HB2 : Hid _ := b2; have HN1 : Hid (NodesRow w1 ((w.alloc (.cells #[.string ⟨#[]⟩, .slice none 0 0] 24)).heap.size + 1) (.slice a ns.length c) ns) := N1; clear N1 O1 NA b2 setup)
          | (go_at_call 10; refine (hCk _ a c HNA.out).mono ?_; rintro e w3 ⟨rfl, K3⟩; clear hCk; have b3 := (K3.block w.heap.size (Array.getElem?_eq_some_iff.1 HB2.out).1 (fun h => h)).trans HB2.out; obtain ⟨⟨q0, q1⟩, s0, s1⟩ := twoC b3; have HB3 : Hid _ := b3; clear b3)
          | fail)
        generalize hV : ((w3.setCell ⟨w.heap.size, 0, none⟩ (.string nm)).setCell ⟨w.heap.size, 1, none⟩ (.slice a ns.length c)) = V
        have hp := put2 HB3.out (.string nm) (.slice a ns.length c)
        have hk := kept2 (K2.out.and K3) (.string nm) (.slice a ns.length c)
        have KS : Kept (fun j => j = w.heap.size) w3 V := by rw [← hV]; exact (Kept.setCell (S := fun j => j = w.heap.size) w3 ⟨w.heap.size, 0, none⟩ (.string nm) rfl).and (Kept.setCell (S := fun j => j = w.heap.size) _ ⟨w.heap.size, 1, none⟩ (.slice a ns.length c) rfl)
        rw [hV] at hp hk
        obtain ⟨⟨g0, g1⟩, _, _⟩ := twoC hp
        refine bodyPost_ret (by simp [results, Tryz.results8, go_sem, g0, g1]; try rfl) rfl ?_
        rw [HQ2.out]
        refine ⟨fun _ _ h => (by cases h), fun nm' ns' l z h => ?_, hk⟩
        cases h
        refine ⟨a, c, rfl, ?_, hcap⟩
        have hrow : NodesRow V ((w.alloc (.cells #[.string ⟨#[]⟩, .slice none 0 0] 24)).heap.size + 1) (.slice a ns.length c) ns := by
          have k1 : Kept (fun j => j = w.heap.size) w1 ((w1.setCell ⟨w.heap.size, 0, none⟩ (.string nm)).setCell ⟨w.heap.size, 1, none⟩ (.slice a ns.length c)) := (Kept.setCell (S := fun j => j = w.heap.size) w1 ⟨w.heap.size, 0, none⟩ (.string nm) rfl).and (Kept.setCell (S := fun j => j = w.heap.size) _ ⟨w.heap.size, 1, none⟩ (.slice a ns.length c) rfl)
          exact HN1.out.kept ((k1.and (K3.mono (fun _ h => h.elim))).and KS) (fun k hk _ => by rw [World.size_alloc] at hk; omega)
        exact hrow.at HFi.out
      · have hee2 : (ee == 0) = false := by simpa using hee
        by_cases hkk : 0 ≤ kk
        · have hi := hidx hkk
          obtain ⟨m, rfl⟩ : ∃ m : Nat, kk = (m : Int) := ⟨kk.toNat, by omega⟩
          rw [Int.toNat_natCast] at hi
          have HQ2 : Hid (P = (none, ls.getD m 0, ee)) := by show _ = _; rw [HQ.out, if_neg hee, if_pos hkk, Int.toNat_natCast]
          have e4 : (m : Int) < (ls.length : Int) := by have := HLen.out; omega
          have hgd : (natsV ls)[m]? = some (.int .i64 ((ls.getD m 0 : Nat) : Int)) := by
            have hm : m < ls.length := by omega
            simp [natsV, List.getD_eq_getElem?_getD, hm]
          generalize ls.getD m 0 = lm at *
          clear HQ hee
          go_enter Tryz.func8, Tryz.ntmps8
          go_wp2_with (first
            | (go_at_call 20; refine hrl.mono ?_; rintro e w1 ⟨_, hn, K1⟩; obtain ⟨a, c, v3, rfl, N1, O1⟩ := hn nm ns ls k rfl; clear hrl hn; obtain ⟨a3, c3, rfl⟩ := ownsRow_shape O1; have b1 := hD0 w1 K1; obtain ⟨⟨c0, c1⟩, f0, f1⟩ := twoC b1; obtain ⟨NA, hcap⟩ := setup w1 K1 a c N1; have b2 := put2 b1 (.string nm) (.slice a ns.length c); obtain ⟨⟨p0, p1⟩, r0, r1⟩ := twoC b2; have K2 : Hid (Kept (fun _ => False) w ((w1.setCell ⟨w.heap.size, 0, none⟩ (.string nm)).setCell ⟨w.heap.size, 1, none⟩ (.slice a ns.length c))) := kept2 ((Kept.alloc (fun _ => False) w _).and K1) (.string nm) (.slice a ns.length c); have HNA : Hid (NodesAt ((w1.setCell ⟨w.heap.size, 0, none⟩ (.string nm)).setCell ⟨w.heap.size, 1, none⟩ (.slice a ns.length c)) a ns) := NA; have HO1 : Hid (w1.ownsRow ((w.alloc (.cells #[.string ⟨#[]⟩, .slice none 0 0] 24)).heap.size + 1) 3 1 (.slice a3 ls.length c3) ls.length (natsV ls)) := O1; have HB2 : Hid _ := b2; have HN1 : Hid (NodesRow w1 ((w.alloc (.cells #[.string ⟨#[]⟩, .slice none 0 0] 24)).heap.size + 1) (.slice a ns.length c) ns) := N1; clear N1 O1 NA b2 setup)
            | (go_at_call 10; refine (hCk _ a c HNA.out).mono ?_; rintro e w3 ⟨rfl, K3⟩; clear hCk; have b3 := (K3.block w.heap.size (Array.getElem?_eq_some_iff.1 HB2.out).1 (fun h => h)).trans HB2.out; obtain ⟨⟨q0, q1⟩, s0, s1⟩ := twoC b3; have HB3 : Hid _ := b3; clear b3; have lrow := lines_at K3 HO1.out (by rw [World.size_alloc]; omega) hgd; obtain ⟨g3, rfl, lcell⟩ := lrow)
            | fail)
          generalize hV : ((w3.setCell ⟨w.heap.size, 0, none⟩ (.string ⟨#[]⟩)).setCell ⟨w.heap.size, 1, none⟩ (.slice none 0 0)) = V
          have hp := put2 HB3.out (.string ⟨#[]⟩) (.slice none 0 0)
          have hk := kept2 (K2.out.and K3) (.string ⟨#[]⟩) (.slice none 0 0)
          rw [hV] at hp hk
          obtain ⟨⟨g0, g1⟩, _, _⟩ := twoC hp
          refine bodyPost_ret (by simp [results, Tryz.results8, go_sem, g0, g1]; try rfl) rfl ?_
          rw [HQ2.out]
          exact ⟨fun l z h => (by cases h; rfl), fun _ _ _ _ h => (by cases h), hk⟩
        · have HQ2 : Hid (P = (none, 0, ee)) := by show _ = _; rw [HQ.out, if_neg hee, if_neg hkk]
          clear HQ hee
          go_enter Tryz.func8, Tryz.ntmps8
          go_wp2_with (first
            | (go_at_call 20; refine hrl.mono ?_; rintro e w1 ⟨_, hn, K1⟩; obtain ⟨a, c, v3, rfl, N1, O1⟩ := hn nm ns ls k rfl; clear hrl hn; obtain ⟨a3, c3, rfl⟩ := ownsRow_shape O1; have b1 := hD0 w1 K1; obtain ⟨⟨c0, c1⟩, f0, f1⟩ := twoC b1; obtain ⟨NA, hcap⟩ := setup w1 K1 a c N1; have b2 := put2 b1 (.string nm) (.slice a ns.length c); obtain ⟨⟨p0, p1⟩, r0, r1⟩ := twoC b2; have K2 : Hid (Kept (fun _ => False) w ((w1.setCell ⟨w.heap.size, 0, none⟩ (.string nm)).setCell ⟨w.heap.size, 1, none⟩ (.slice a ns.length c))) := kept2 ((Kept.alloc (fun _ => False) w _).and K1) (.string nm) (.slice a ns.length c); have HNA : Hid (NodesAt ((w1.setCell ⟨w.heap.size, 0, none⟩ (.string nm)).setCell ⟨w.heap.size, 1, none⟩ (.slice a ns.length c)) a ns) := NA; have HO1 : Hid (w1.ownsRow ((w.alloc (.cells #[.string ⟨#[]⟩, .slice none 0 0] 24)).heap.size + 1) 3 1 (.slice a3 ls.length c3) ls.length (natsV ls)) := O1; have HB2 : Hid _ := b2; have HN1 : Hid (NodesRow w1 ((w.alloc (.cells #[.string ⟨#[]⟩, .slice none 0 0] 24)).heap.size + 1) (.slice a ns.length c) ns) := N1; clear N1 O1 NA b2 setup)
            | (go_at_call 10; refine (hCk _ a c HNA.out).mono ?_; rintro e w3 ⟨rfl, K3⟩; clear hCk; have b3 := (K3.block w.heap.size (Array.getElem?_eq_some_iff.1 HB2.out).1 (fun h => h)).trans HB2.out; obtain ⟨⟨q0, q1⟩, s0, s1⟩ := twoC b3; have HB3 : Hid _ := b3; clear b3)
            | fail)
          generalize hV : ((w3.setCell ⟨w.heap.size, 0, none⟩ (.string ⟨#[]⟩)).setCell ⟨w.heap.size, 1, none⟩ (.slice none 0 0)) = V
          have hp := put2 HB3.out (.string ⟨#[]⟩) (.slice none 0 0)
          have hk := kept2 (K2.out.and K3) (.string ⟨#[]⟩) (.slice none 0 0)
          rw [hV] at hp hk
          obtain ⟨⟨g0, g1⟩, _, _⟩ := twoC hp
          refine bodyPost_ret (by simp [results, Tryz.results8, go_sem, g0, g1]; try rfl) rfl ?_
          rw [HQ2.out]
          exact ⟨fun l z h => (by cases h; rfl), fun _ _ _ _ h => (by cases h), hk⟩

end Go.Proofs.YtlholgpenpfpbaaGreatDoor

/-
  Walk: a node is copied and put behind the others, as a region that draws its order.
-/
namespace Go.Proofs.YtlholgpenpfpbaaGreatDoor
open Go.RowKit

set_option maxRecDepth 100000 in
set_option maxHeartbeats 1500000 in
theorem walk6 {W : World} {qb nb base n c cv : Nat} {a av : Option Addr} {xs : List Value} {nd : Nd} {R : World → Option Addr → Nat → Prop} {ds : List Deferred} {u0 u1 u2 u3 u4 u6 u8 u9 u10 u11 u12 u13 u14 u15 u16 u17 u18 u19 u20 u21 u22 u23 u24 u25 u26 : Value} (K : Act → World → Prop) (x1 : W.drew.cell? ⟨qb, 0, none⟩ = some (.slice a n c)) (y0 : W.drew.cell? ⟨nb, 0, none⟩ = some (.string nd.name)) (y1 : W.drew.cell? ⟨nb, 1, none⟩ = some (.int .i64 nd.kind)) (y2 : W.drew.cell? ⟨nb, 2, none⟩ = some (.string nd.arg)) (y3 : W.drew.cell? ⟨nb, 3, none⟩ = some (.string nd.to)) (y4 : W.drew.cell? ⟨nb, 4, none⟩ = some (.int .i64 nd.delay)) (y5 : W.drew.cell? ⟨nb, 5, none⟩ = some (.int .i64 nd.tries)) (y6 : W.drew.cell? ⟨nb, 6, none⟩ = some (.slice av nd.after.length cv))
    (hC : Calls Tryz.prog 52 #[.agg #[.string nd.name, .int .i64 nd.kind, .string nd.arg, .string nd.to, .int .i64 nd.delay, .int .i64 nd.tries, .slice av nd.after.length cv]] W.drew fun e w' => ∃ aa ca, e = .returned (.agg #[.string nd.name, .int .i64 nd.kind, .string nd.arg, .string nd.to, .int .i64 nd.delay, .int .i64 nd.tries, .slice aa nd.after.length ca]) ∧ R w' aa ca)
    (hR : ∀ w5 aa ca, R w5 aa ca → w5.cell? ⟨qb, 0, none⟩ = some (.slice a n c) ∧ (w5.alloc (.cells #[.string nd.name, .int .i64 nd.kind, .string nd.arg, .string nd.to, .int .i64 nd.delay, .int .i64 nd.tries, .slice aa nd.after.length ca] 35)).cell? ⟨qb, 0, none⟩ = some (.slice a n c) ∧ (w5.alloc (.cells #[.string nd.name, .int .i64 nd.kind, .string nd.arg, .string nd.to, .int .i64 nd.delay, .int .i64 nd.tries, .slice aa nd.after.length ca] 35)).ownsRow base 35 7 (.slice a n c) n xs ∧ base ≤ w5.heap.size + 1)
    (hG : ∀ w5 w6 aa ca, R w5 aa ca → (w5.alloc (.cells #[.string nd.name, .int .i64 nd.kind, .string nd.arg, .string nd.to, .int .i64 nd.delay, .int .i64 nd.tries, .slice aa nd.after.length ca] 35)).grownBy w6 (Value.slice a n c).ownBlock → w6.cell? ⟨qb, 0, none⟩ = some (.slice a n c) ∧ w6.frozen? ⟨qb, 0, none⟩ = false)
    (hn : n ≤ 1000000)
    (h : ∀ (v20 v21 v22 v23 v24 : Value) (w5 w6 : World) (aa a6 : Option Addr) (ca c6 : Nat), R w5 aa ca → w6.ownsRow base 35 7 (.slice a6 (n + 1) c6) (n + 1) (xs ++ ndC nd (.slice aa nd.after.length ca)) → (w5.alloc (.cells #[.string nd.name, .int .i64 nd.kind, .string nd.arg, .string nd.to, .int .i64 nd.delay, .int .i64 nd.tries, .slice aa nd.after.length ca] 35)).grownBy w6 (Value.slice a n c).ownBlock → K { tmps := #[u0, u1, u2, u3, u4, .pointer (some ⟨qb, 0, none⟩), u6, .pointer (some ⟨nb, 0, none⟩), u8, u9, u10, u11, u12, u13, u14, u15, u16, u17, u18, u19, v20, v21, v22, v23, v24, u25, u26], defers := ds } (w6.setCell ⟨qb, 0, none⟩ (.slice a6 (n + 1) c6))) :
    (Code.region 6 #[{ dst := some 20, op := Op.load 22 (Operand.tmp 5), type := 22, pos := "order.go:118", after := #[], guard := none }, { dst := some 21, op := Op.load 35 (Operand.tmp 7), type := 35, pos := "order.go:118", after := #[], guard := none }, { dst := some 22, op := Op.call { callee := Callee.value (Operand.func 52), args := #[Operand.tmp 21], argTypes := #[35] }, type := 35, pos := "order.go:118", after := #[{ on := 1, ground := Ground.data }], guard := none }, { dst := some 23, op := Op.buildSlice 22 1 #[(0, Operand.tmp 22)], type := 22, pos := "order.go:118", after := #[{ on := 2, ground := Ground.data }], guard := none }, { dst := some 24, op := Op.call { callee := Callee.builtin Builtin.append, args := #[Operand.tmp 20, Operand.tmp 23], argTypes := #[22, 22] }, type := 22, pos := "order.go:118", after := #[{ on := 0, ground := Ground.data }, { on := 3, ground := Ground.data }, { on := 2, ground := Ground.chain }], guard := none }, { dst := none, op := Op.store 22 (Operand.tmp 5) (Operand.tmp 24), type := 0, pos := "order.go:118", after := #[{ on := 4, ground := Ground.data }, { on := 4, ground := Ground.chain }, { on := 0, ground := Ground.phase }, { on := 1, ground := Ground.phase }, { on := 2, ground := Ground.phase }, { on := 3, ground := Ground.phase }, { on := 4, ground := Ground.phase }], guard := none }] true).wp Tryz.prog (onlyN K) { tmps := #[u0, u1, u2, u3, u4, .pointer (some ⟨qb, 0, none⟩), u6, .pointer (some ⟨nb, 0, none⟩), u8, u9, u10, u11, u12, u13, u14, u15, u16, u17, u18, u19, u20, u21, u22, u23, u24, u25, u26], defers := ds } W := by
  obtain ⟨j0, hj0, hy0, hy1, hy2⟩ := info_parts Tryz.info35
  have HR : Hid _ := hR
  have HG : Hid _ := hG
  have HH : Hid _ := h
  clear hR hG h
  go_region_law
    (first
      | (refine step_append_sr _ (by rfl) _ _ _ (by rfl) base 35 j0 _ 7 96 Tryz.underlying22 hj0 hy0 hy1 hy2 rfl (by decide) (.slice a n c) n _ (by rfl) z2 _ (by rfl) 1 _ (.inl ⟨_, 1, rfl, rfl, World.news_of_block (heap_alloc_new _ _)⟩) (ndC_one nd aa _ ca) (by unfold maxLen; omega) (by omega) (by simp; omega) ?_; intro a6 cap6 w6 ho6 hg6 _ hl6; obtain ⟨v1, u1⟩ := HG.out w5 w6 aa ca R5 hg6)
      | (refine step_call1 _ rfl 52 _ _ rfl (enters_of Tryz.func52 (by kernel_rfl) rfl) _ (by rfl) hC ?_; rintro e w5 ⟨aa, ca, rfl, R5⟩; refine ⟨_, rfl, ?_⟩; obtain ⟨z0, z1, z2, z3⟩ := HR.out w5 aa ca R5))
  all_goals exact HH.out _ _ _ _ _ w5 w6 aa a6 ca cap6 R5 ho6 hg6

end Go.Proofs.YtlholgpenpfpbaaGreatDoor

/-
  Walk: the order and a copy of the nodes, kept for the function that tells them.
-/
namespace Go.Proofs.YtlholgpenpfpbaaGreatDoor
open Go.RowKit

/-- What the function keeps: the order's box pb, the nodes' box qb; all of it lies behind B. -/
structure WalkAt (B : Nat) (w : World) (pb qb : Nat) (ord : List Nat) (ns : List Nd) : Prop where
  po : ∃ a c, w.heap[pb]? = some (.cells #[.slice a ord.length c] 50 (0, 0)) ∧ w.ownsRow B 3 1 (.slice a ord.length c) ord.length (natsV ord)
  qo : ∃ a c, w.heap[qb]? = some (.cells #[.slice a ns.length c] 22 (0, 0)) ∧ NodesRow w B (.slice a ns.length c) ns
  pB : B ≤ pb
  qB : B ≤ qb

theorem WalkAt.keep {B : Nat} {w w' : World} {pb qb : Nat} {ord : List Nat} {ns : List Nd} (T : WalkAt B w pb qb ord ns) (h : ∀ g, B ≤ g → g < w.heap.size → w'.heap[g]? = w.heap[g]?) : WalkAt B w' pb qb ord ns := by
  obtain ⟨a, c, h1, h2⟩ := T.po
  obtain ⟨a', c', h3, vs, h4, h5, h6⟩ := T.qo
  refine ⟨⟨a, c, (h pb T.pB (Array.getElem?_eq_some_iff.1 h1).1).trans h1, ownsRow_keep h2 (fun g hg => h g (h2.lt g hg).1 (h2.lt g hg).2)⟩, ⟨a', c', (h qb T.qB (Array.getElem?_eq_some_iff.1 h3).1).trans h3, vs, h4, ownsRow_keep h5 (fun g hg => h g (h5.lt g hg).1 (h5.lt g hg).2), fun i hi hj => ?_⟩, T.pB, T.qB⟩
  obtain ⟨aq, cq, e, o⟩ := h6 i hi hj
  exact ⟨aq, cq, e, ownsRow_keep o (fun g hg => h g (o.lt g hg).1 (o.lt g hg).2)⟩

theorem oneC {w : World} {b : Nat} {T : TypeId} {u : Value} (h : w.heap[b]? = some (.cells #[u] T (0, 0))) : w.cell? ⟨b, 0, none⟩ = some u ∧ w.frozen? ⟨b, 0, none⟩ = false := by
  simp [World.cell?, World.frozen?, h]

theorem nodesRow_low {w : World} {B B' : Nat} {v : Value} {ns : List Nd} (N : NodesRow w B v ns) (h : B' ≤ B) : NodesRow w B' v ns := by
  obtain ⟨vs, h1, h2, h3⟩ := N
  refine ⟨vs, h1, ownsRow_low h2 h, fun i hi hj => ?_⟩
  obtain ⟨a, c, e, o⟩ := h3 i hi hj
  exact ⟨a, c, e, ownsRow_low o h⟩

set_option maxRecDepth 100000 in
set_option maxHeartbeats 2000000 in
theorem walk_any (w : World) (name : ByteArray) (a : Option Addr) (n c : Nat) (ns : List Nd) (hN : NodesAt w a ns) (hl : ns.length = n) (hn : n ≤ 1000000) :
    Calls Tryz.prog 34 #[.agg #[.string name, .slice a n c]] w fun e w' => ∃ pb qb, e = .returned (.func (.func 53) #[] #[.pointer (some ⟨pb, 0, none⟩), .pointer (some ⟨qb, 0, none⟩)]) ∧ WalkAt w.heap.size w' pb qb (ordP ns) ns ∧ Kept (fun _ => False) w w' := by
  subst hl
  have hO := order_any (w.alloc (.cells #[.string name, .slice a ns.length c] 24)) name a ns.length c ns (keptNew (Kept.alloc _ _ _) hN) rfl hn
  rw [World.size_alloc] at hO
  have HN : Hid (NodesAt w a ns) := hN
  have HL : Hid (∀ n ∈ ns, n.after.length ≤ 1000000) := fun n h => (hN.1 n h).few
  clear hN
  generalize hod : ordP ns = od at *
  clear hod
  go_enter Tryz.func34, Tryz.ntmps34
  go_wp2_with (first
    | (go_at_call 17; refine hO.mono ?_; rintro e w1 ⟨ao, co, rfl, O1, K1⟩; clear hO; have hd := boxD K1; obtain ⟨d0, d1⟩ := hd; have HS1 := K1.size; rw [World.size_alloc] at HS1;
        have d1b : ((w1.alloc (.cells #[.slice ao od.length co] 50)).alloc (.cells #[.slice none 0 0] 22)).cell? ⟨w.heap.size, 1, none⟩ = some (.slice a ns.length c) := keepC ((Kept.alloc (fun _ => False) _ _).and (Kept.alloc _ _ _)) d1 (fun _ _ h => h);
        have HO1 : Hid (w1.ownsRow (w.heap.size + 1) 3 1 (.slice ao od.length co) od.length (natsV od)) := O1; clear O1; have K0 : Hid (Kept (fun _ => False) w w1) := (Kept.alloc (fun _ => False) _ _).and K1)
    | fail)
  go_loopw [16] (fun q wr => ∃ (k : Nat) (a2 : Option Addr) (c2 : Nat), k ≤ ns.length ∧ q = .int .i64 (k : Nat) ∧ Kept (fun j => w1.heap.size + 1 ≤ j) ((w1.alloc (.cells #[.slice ao od.length co] 50)).alloc (.cells #[.slice none 0 0] 22)) wr ∧ wr.heap[w1.heap.size + 1]? = some (.cells #[.slice a2 k c2] 22 (0, 0)) ∧ NodesRow wr (w1.heap.size + 2) (.slice a2 k c2) (ns.take k)) (fun q _ => ns.length - (intOf q).toNat)
  case atStart =>
    refine ⟨0, none, 0, Nat.zero_le _, rfl, Kept.refl _ _, ?_, ⟨[], rfl, World.ownsRow_nil _ _ _ _, fun i h => by simp at h⟩⟩
    have := heap_alloc_new (w1.alloc (.cells #[.slice ao od.length co] 50)) (.cells #[.slice none 0 0] 22)
    rw [World.size_alloc] at this
    exact this
  case round =>
    obtain ⟨k, a2, c2, hk, rfl, K, hq, N⟩ := hrel
    have Kw : Kept (fun _ => False) w wr := (((K0.out.and (Kept.alloc _ _ _)).and (Kept.alloc _ _ _)).trans K (fun g h => .inr (by omega)))
    have hsz2 : w1.heap.size + 2 ≤ wr.heap.size := by have := K.size; simp at this; omega
    by_cases hlt : k < ns.length
    · obtain ⟨b, o, av, cv, hae, hT, c0, c1, c2', c3, c4, c5, c6⟩ := HN.out.at hlt
      replace c0 := keepC Kw c0 (fun _ _ h => h)
      replace c1 := keepC Kw c1 (fun _ _ h => h)
      replace c2' := keepC Kw c2' (fun _ _ h => h)
      replace c3 := keepC Kw c3 (fun _ _ h => h)
      replace c4 := keepC Kw c4 (fun _ _ h => h)
      replace c5 := keepC Kw c5 (fun _ _ h => h)
      replace c6 := keepC Kw c6 (fun _ _ h => h)
      have hfew := HL.out _ (List.getElem_mem hlt)
      have HT0 : Hid (TextsAt w (.slice av (ns[k]).after.length cv) (ns[k]).after) := hT
      have HTk : Hid (ns.take (k + 1) = ns.take k ++ [ns[k]]) := take_snoc hlt
      have hlen : (ns.take k).length = k := by rw [List.length_take]; omega
      have e0 : (k : Int) < (ns.length : Int) := by omega
      clear hT d1 d1b
      obtain ⟨vs, hv1, hv2, hv3⟩ := N
      rw [hlen] at hv1 hv2
      have HV3 : Hid _ := hv3
      have HV2 : Hid (wr.ownsRow (w1.heap.size + 2) 35 7 (.slice a2 k c2) k (flatN (ns.take k) vs)) := hv2
      have HV1 : Hid (k = vs.length) := hv1
      have HLE : Hid ((ns.take k).length = k) := hlen
      clear hv3 hv2 hv1 hlen
      generalize hx : ns[k] = x at *
      clear hx
      subst hae
      go_wp2_with fail
      have KB : Kept (fun _ => False) wr (wr.alloc (.cells #[.string x.name, .int .i64 x.kind, .string x.arg, .string x.to, .int .i64 x.delay, .int .i64 x.tries, .slice av x.after.length cv] 35)) := Kept.alloc _ _ _
      have hnb := heap_alloc_new wr (.cells #[.string x.name, .int .i64 x.kind, .string x.arg, .string x.to, .int .i64 x.delay, .int .i64 x.tries, .slice av x.after.length cv] 35)
      have hszW : (wr.alloc (.cells #[.string x.name, .int .i64 x.kind, .string x.arg, .string x.to, .int .i64 x.delay, .int .i64 x.tries, .slice av x.after.length cv] 35)).heap.size = wr.heap.size + 1 := by simp
      generalize wr.alloc (.cells #[.string x.name, .int .i64 x.kind, .string x.arg, .string x.to, .int .i64 x.delay, .int .i64 x.tries, .slice av x.after.length cv] 35) = W at *
      have KW : Kept (fun _ => False) W W.drew := Kept.drew _ W
      have KBW : Kept (fun _ => False) wr W.drew := KB.and KW
      obtain ⟨⟨y0, y1, y2, y3, y4, y5, y6⟩, _⟩ := seven ((KW.block _ (by omega) (fun h => h)).trans hnb)
      have hq1 : W.drew.heap[w1.heap.size + 1]? = _ := (KBW.block _ (by omega) (fun h => h)).trans hq
      have o1 := ownsRow_keep HV2.out (fun g hg => KBW.block g (ownsRow_blk HV2.out hg) (fun h => h))
      have hC := copied_any W.drew x.name x.kind x.arg x.to x.delay x.tries x.after av cv (HT0.out.kept (Kw.and KBW) (fun _ _ h => h)) hfew
      have hk2 := fun (w5 : World) (o : Obj) (K5 : Kept (fun _ => False) W.drew w5) => show w5.cell? ⟨w1.heap.size + 1, 0, none⟩ = some (.slice a2 k c2) ∧ (w5.alloc o).cell? ⟨w1.heap.size + 1, 0, none⟩ = some (.slice a2 k c2) ∧ (w5.alloc o).ownsRow (w1.heap.size + 2) 35 7 (.slice a2 k c2) k (flatN (ns.take k) vs) ∧ w1.heap.size + 2 ≤ w5.heap.size + 1 by
        have b5 := (K5.block _ (Array.getElem?_eq_some_iff.1 hq1).1 (fun h => h)).trans hq1
        have o5 := ownsRow_keep o1 (fun g hg => K5.block g (ownsRow_blk o1 hg) (fun h => h))
        refine ⟨(oneC b5).1, ?_, o5.alloc _, by have := K5.size; have := KBW.size; omega⟩
        exact (oneC (((Kept.alloc (fun _ => False) w5 o).block _ (Array.getElem?_eq_some_iff.1 b5).1 (fun h => h)).trans b5)).1
      have hb6 := fun (w5 w6 : World) (o : Obj) (K5 : Kept (fun _ => False) W.drew w5) (hg6 : (w5.alloc o).grownBy w6 (Value.slice a2 k c2).ownBlock) => show w6.heap[w1.heap.size + 1]? = some (.cells #[.slice a2 k c2] 22 (0, 0)) by
        have b5 := (K5.block _ (Array.getElem?_eq_some_iff.1 hq1).1 (fun h => h)).trans hq1
        have hl5 := (Array.getElem?_eq_some_iff.1 b5).1
        rw [hg6.block _ (by simp; omega) (fun e => by have := (o1.lt _ e.symm).1; omega), Below.heap_alloc _ _ _ hl5]
        exact b5
      refine wp_onlyN (walk6 (nd := x) (base := w1.heap.size + 2) (xs := flatN (ns.take k) vs) (R := fun w5 aa ca => w5.ownsRow W.drew.heap.size 9 1 (.slice aa x.after.length ca) x.after.length (strsV x.after) ∧ Kept (fun _ => False) W.drew w5) _ (oneC hq1).1 y0 y1 y2 y3 y4 y5 y6 hC ?_ ?_ (by omega) ?_)
      · rintro w5 aa ca ⟨O5, K5⟩
        exact hk2 w5 _ K5
      · rintro w5 w6 aa ca ⟨O5, K5⟩ hg6
        exact oneC (hb6 w5 w6 _ K5 hg6)
      · rintro v20 v21 v22 v23 v24 w5 w6 aa a6 ca c6' ⟨O5, K5⟩ ho6 hg6
        have b6 := hb6 w5 w6 _ K5 hg6
        have KS : Kept (fun j => j = w1.heap.size + 1) w6 (w6.setCell ⟨w1.heap.size + 1, 0, none⟩ (.slice a6 (k + 1) c6')) := Kept.setCell _ _ _ rfl
        have N6 : NodesRow w6 (w1.heap.size + 2) (.slice a6 (k + 1) c6') (ns.take k ++ [x]) := by
          refine NodesRow.push (by rw [HLE.out]; exact HV1.out) ?_ (fun i hi hj => ?_) (ownsRow_low O5 (by have := KBW.size; omega)) (by rw [HLE.out]; exact ho6) hg6
          · rw [HLE.out]; exact ownsRow_keep o1 (fun g hg => K5.block g (ownsRow_blk o1 hg) (fun h => h))
          · obtain ⟨aq, cq, e1, oo⟩ := HV3.out i hi hj
            exact ⟨aq, cq, e1, ownsRow_keep oo (fun g hg => (KBW.and K5).block g (ownsRow_blk oo hg) (fun h => h))⟩
        have hset : (w6.setCell ⟨w1.heap.size + 1, 0, none⟩ (.slice a6 (k + 1) c6')).heap[w1.heap.size + 1]? = some (.cells #[.slice a6 (k + 1) c6'] 22 (0, 0)) := by simp [World.setCell, Array.getElem?_modify, b6]
        have HFin : Hid (Kept (fun j => w1.heap.size + 1 ≤ j) wr (w6.setCell ⟨w1.heap.size + 1, 0, none⟩ (.slice a6 (k + 1) c6')) ∧ NodesRow (w6.setCell ⟨w1.heap.size + 1, 0, none⟩ (.slice a6 (k + 1) c6')) (w1.heap.size + 2) (.slice a6 (k + 1) c6') (ns.take (k + 1)) ∧ (w6.setCell ⟨w1.heap.size + 1, 0, none⟩ (.slice a6 (k + 1) c6')).heap[w1.heap.size + 1]? = some (.cells #[.slice a6 (k + 1) c6'] 22 (0, 0))) := by
          refine ⟨(((((KBW.and K5).and (Kept.alloc _ _ _)).mono (fun _ h => h.elim)).and (Kept.grown hg6 (fun g e => by have := (o1.lt g e).1; omega))).and (KS.mono (fun j h => by omega))), ?_, hset⟩
          rw [HTk.out]
          exact N6.kept KS (fun g hg _ => by omega)
        clear N6 hset KS b6 hb6 hk2 hC o1 hq1 ho6 hg6 O5 K5 y0 y1 y2 y3 y4 y5 y6 hq hnb KB KBW KW HV3 HV2 HTk HT0 c0 c1 c2' c3 c4 c5 c6 HLE HV1
        generalize w6.setCell ⟨w1.heap.size + 1, 0, none⟩ (.slice a6 (k + 1) c6') = W7 at *
        go_wp2_with fail
        go_roundw
        case rel => exact ⟨k + 1, a6, c6', by omega, by go_num, K.and HFin.out.1, HFin.out.2.2, HFin.out.2.1⟩
        case measure => simp [intOf]; omega
    · obtain rfl : k = ns.length := by omega
      rw [List.take_length] at N
      have hp : wr.heap[w1.heap.size]? = some (.cells #[.slice ao od.length co] 50 (0, 0)) := by
        rw [K.block _ (by simp; omega) (by omega), Below.heap_alloc _ _ _ (by simp)]
        exact heap_alloc_new _ _
      go_wp2_with fail
      go_ret
      refine ⟨w1.heap.size, w1.heap.size + 1, rfl, ⟨⟨ao, co, hp, ?_⟩, ⟨a2, c2, hq, nodesRow_low N (by omega)⟩, by omega, by omega⟩, Kw⟩
      refine ownsRow_low (ownsRow_keep HO1.out (fun g hg => ?_)) (by omega)
      have hg1 := ownsRow_blk HO1.out hg
      rw [K.block g (by simp; omega) (by omega), Below.heap_alloc _ _ _ (by simp; omega), Below.heap_alloc _ _ _ hg1]

end Go.Proofs.YtlholgpenpfpbaaGreatDoor

/-
  A range over a function whose rounds are told what they are handed; the loop's variables may lie in blocks of their own.
-/
namespace Go.Proofs.YtlholgpenpfpbaaGreatDoor
open Go.RowKit Go.Shelf

/-- No operation is a defer statement. -/
def plainOp (o : Oper) : Bool := match o.op with
  | .defer _ => false
  | _ => true

theorem plainOp_ne {o : Oper} (h : plainOp o = true) (c : Call) : o.op ≠ .defer c := by
  intro e
  simp [plainOp, e] at h

theorem operIn_round {F : Fence} {n : Nat} {P : Program} {o : Oper} {a : Act} {w : World} {K : Act → World → Prop} {Q : Exit → Act → World → Prop} (l : Nat) (h : plainOp o = true) (hh : o.wpIn F n P a w K Q) : o.wpIn (F.inRound l) n P a w K Q := by
  unfold Oper.wpIn at *
  rw [Oper.semAt_plain F _ _ (plainOp_ne h)] at hh
  rw [Oper.semAt_plain (F.inRound l) _ _ (plainOp_ne h)]
  exact hh

theorem wpAnyIn_round {F : Fence} {n : Nat} {P : Program} {md : Region.Mode} {ops : Array Oper} {Q : Exit → Act → World → Prop} (l : Nat) (hp : ∀ (i : Nat) o, ops[i]? = some o → plainOp o = true) : ∀ (fuel : Nat) (listed : Array Bool) (a : Act) (w : World), wpAnyIn F n P md ops Q fuel listed a w → wpAnyIn (F.inRound l) n P md ops Q fuel listed a w
  | 0, _, _, _, h => h
  | fuel + 1, listed, a, w, h => by
    refine ⟨h.1, fun i hi => ?_⟩
    have h2 := wpOpIn_mono (fun a w hh => wpAnyIn_round l hp fuel (listed.setIfInBounds i true) a w hh) (h.2 i hi)
    unfold wpOpIn at h2 ⊢
    split
    · rename_i ho
      simpa [ho] using h2
    · rename_i o ho
      simp only [ho] at h2
      split
      · rename_i hw
        simp only [hw, if_true] at h2
        exact operIn_round l (hp i o ho) h2
      · rename_i hw
        simp only [hw] at h2
        exact h2

/-- A region that draws its order, within a round: one walk of the lexical order serves every order. -/
theorem region_round {F : Fence} {n : Nat} {P : Program} {id r : Nat} {Q : Exit → Act → World → Prop} {a : Act} {w : World} {l : List Oper} (hro : F.round = none) (hm : P.follows .mixedOrders = true) (hB : Region.lexB .any l.toArray = true) (hp : l.all plainOp = true)
    (h : wpQuietIn F n P l.toArray (fun w' => ∃ n, w' = w.drewN n) (fun a' => ∀ w', (∃ n, w' = w.drewN n) → Q .normal a' w') l a) : (Code.region id l.toArray true).wpIn (F.inRound r) n P Q a w := by
  simp only [Region.lexB, Bool.and_eq_true] at hB
  refine wpIn_region_any hm (wpAnyIn_round r ?_ _ _ _ _ (wpAnyIn_of_quiet (Q := fun a' => ∀ w', (∃ n, w' = w.drewN n) → Q .normal a' w') hro (fun _ w' hw' h => h w' hw') _ _ _ _ ⟨1, rfl⟩ ?_))
  · intro i o ho
    rw [List.all_eq_true] at hp
    exact hp o (List.mem_of_getElem? (by simpa using ho))
  · have := wpAnyQIn_lex (F := F) (n := n) (C := fun w' => ∃ n, w' = w.drewN n) (md := .any) hB.1 l 0 (Array.replicate l.toArray.size false) a (by simp) (by simpa using hB.2) h
    simpa using this

/-- One round: where the loop's record is ready ahead of it and behind the assignment, and the body keeps it. -/
theorem yield_gen {F : Fence} {m : Nat} {P : Program} {l : Nat} {r : Loop} {args tmps : Array Value} {ps : Array Tmp} {assign body : Code} {a1 : Act} {W W2 : World} {R : Ending → World → Prop} (hl : W.heap[l]? = some (.loop r)) (hst : r.state = .ready) (ht : r.tmps = tmps) (hp : r.params = ps) (ha : r.assign = assign) (hb : r.body = body) (hsz : args.size = ps.size) (hfn : F.fn r.fn) (hl2 : W2.heap[l]? = some (.loop r))
    (hA : ∀ K : Act → World → Prop, K a1 W2 → assign.wpIn (F.inRound l) m P (Exit.then K (fun _ _ _ => False)) { tmps := (ps.zip args).foldl (fun t (p, v) => t.setIfInBounds p v) tmps, defers := [] } W)
    (hB : body.wpIn (F.inRound l) m P (fun e _ V => V.heap[l]? = some (.loop { r with state := .busy }) ∧ ((e = .normal ∧ R (.returned (.bool true)) (V.putObj l (.loop { r with state := .ready, pending := none }))) ∨ (e = .ret ∧ R (.returned (.bool false)) (V.putObj l (.loop { r with state := .done, pending := some .ret }))))) a1 (W2.putObj l (.loop { r with state := .busy }))) :
    YieldAt F m P l args W R := by
  subst ht hp ha hb
  refine ⟨_, _, _, _, run_yield hl hsz, roundIn_of_wpIn hfn (hA _ ⟨_, run_beginRound hl2 hst, wpIn_mono hB ?_⟩)⟩
  rintro e a3 V ⟨hb, ⟨rfl, h⟩ | ⟨rfl, h⟩⟩
  · exact ⟨_, _, run_endRound none hb, h⟩
  · exact ⟨_, _, run_endRound (some .ret) hb, h⟩

/-- At the wide fence the depth is nothing. -/
theorem YieldAt.wide {m m' : Nat} {P : Program} {l : Nat} {args : Array Value} {W : World} {R : Ending → World → Prop} (h : YieldAt Fence.wide m P l args W R) : YieldAt Fence.wide m' P l args W R := by
  obtain ⟨fn, tmps, assign, body, hy, hR⟩ := h
  exact ⟨fn, tmps, assign, body, hy, hR.1, fun c cs _ => hR.2 c cs (room_wide _)⟩

theorem YieldAt.inRound {F : Fence} {m : Nat} {P : Program} {l : Nat} {args : Array Value} {W : World} {R : Ending → World → Prop} (k : Nat) (h : YieldAt F m P l args W R) : YieldAt (F.inRound k) m P l args W R := h

theorem Kept.putObj {S : Nat → Prop} (W : World) (l : Nat) (o : Obj) (h : S l) : Kept S W (W.putObj l o) :=
  ⟨rfl, rfl, rfl, by simp [World.putObj], fun b _ hs => World.putObj_heap_other (fun e => hs (e ▸ h))⟩

/-- The loop: the function that is ranged over is called with the loop's own yield. -/
theorem range_of {F : Fence} {n : Nat} {P : Program} {g : Operand} {ps : Array Tmp} {assign body : Code} {Q : Exit → Act → World → Prop} {a : Act} {w : World} (hro : F.round = none) (h1 : 1 ≤ n) {gf : Nat} {lb : Array Value} (hg : a.eval g = .func (.func gf) #[] lb) (hF : F.fn gf) (he : ∀ args w, (callFunc gf args).run P w = .ok (.enter gf args) w)
    (h : ∀ r : Loop, F.fn r.fn → r.state = .ready → r.pending = none → r.tmps = a.tmps → r.params = ps → r.assign = assign → r.body = body → CallsIn F (n - 1) P gf (#[.func (.yield (w.heap.size + 1)) #[] #[]] ++ lb) ((w.alloc (.deferred (some []))).alloc (.loop r)) fun e W => (∃ v, e = .returned v) ∧ ∃ r : Loop, W.heap[w.heap.size + 1]? = some (.loop r) ∧ r.state ≠ .busy ∧
      ((r.pending = none ∧ Q .normal { a with defers := { target := .collected w.heap.size, args := #[] } :: a.defers } (W.putObj (w.heap.size + 1) (.loop { r with state := .exhausted }))) ∨ (∃ c, r.pending = some c ∧ c.wpIn F n P Q { a with defers := { target := .collected w.heap.size, args := #[] } :: a.defers } (W.putObj (w.heap.size + 1) (.loop { r with state := .exhausted }))))) :
    (Code.rangeFunc g ps assign body).wpIn F n P Q a w := by
  refine wpIn_rangeFunc (fun fn hfn => ?_)
  refine ⟨w.heap.size + 1, [{ target := .collected w.heap.size, args := #[] }], _, { target := .fn (.func gf) lb, args := #[.func (.yield (w.heap.size + 1)) #[] #[]] }, ((w.alloc (.deferred (some []))).alloc (.loop { state := .ready, pending := none, fn, tmps := a.tmps, params := ps, assign, body, defers := w.heap.size })), gf, _, _, by rw [hro]; exact run_enterLoop_outer _ _ _ _ _, ?_, ?_, ?_, fun _ => h1, (h { state := .ready, pending := none, fn, tmps := a.tmps, params := ps, assign, body, defers := w.heap.size } hfn rfl rfl rfl rfl rfl rfl).mono ?_⟩
  · simp only [resolve, hg]
    simp [go_sem]
  · intro f hf
    simp [Target.leads] at hf
    exact hf ▸ hF
  · simp [invoke, go_sem, he]
  · rintro e W ⟨⟨v, rfl⟩, r, hr, hb, hq⟩
    have hend := run_endLoop (P := P) hr hb
    rcases hq with ⟨hp, q⟩ | ⟨c, hp, q⟩
    · rw [hp] at hend q
      exact ⟨none, _, hend, q⟩
    · rw [hp] at hend q
      exact ⟨some c, _, hend, q⟩

/-! A region that draws its order, within a round, by the laws of a region whose worlds meet a condition. -/

theorem operIn_wide {n : Nat} {P : Program} {o : Oper} {a : Act} {w : World} {K : Act → World → Prop} {Q : Exit → Act → World → Prop} (h : o.wp P a w K Q) : o.wpIn Fence.wide n P a w K Q := by
  refine ⟨fun _ _ => trivial, ?_⟩
  unfold Oper.wp at h
  show o.uponIn Fence.wide n P a K Q ((o.semAt none a.eval).run P w)
  rw [Oper.semAt_none]
  generalize (execOp a.eval o).run P w = res at *
  cases res with
  | ok nx w' =>
    cases nx with
    | enter f args => exact ⟨fun h => by simp [Fence.wide] at h, callsIn_wide.2 h⟩
    | row row args =>
      refine ⟨fun h => by simp [Fence.wide] at h, fun c cs _ => ?_⟩
      obtain ⟨v, w'', r, s⟩ := h c cs
      exact ⟨v, w'', r, stepsIn_wide.2 s⟩
    | _ => first | exact h | exact h.elim
  | halt hh w' =>
    cases hh <;> first | exact h | exact h.elim

theorem anyIn_wide {n : Nat} {P : Program} {md : Region.Mode} {ops : Array Oper} {Q : Exit → Act → World → Prop} (hQ : ¬ LetsOut Q) : ∀ (fuel : Nat) (listed : Array Bool) (a : Act) (w : World), wpAny P md ops Q fuel listed a w → wpAnyIn Fence.wide n P md ops Q fuel listed a w
  | 0, _, _, _, h => h
  | fuel + 1, listed, a, w, h => by
    refine ⟨h.1, fun i hi => ?_⟩
    have h2 := h.2 i hi
    unfold wpOp at h2
    unfold wpOpIn
    split
    · rename_i ho
      simp only [ho] at h2
      exact anyIn_wide hQ fuel _ a w h2
    · rename_i o ho
      simp only [ho] at h2
      split
      · rename_i hw
        simp only [hw, if_true] at h2
        rcases h2 with h2 | h2
        · exact operIn_wide (Oper.wp_mono (fun a w hh => anyIn_wide hQ fuel _ a w hh) h2)
        · exact absurd h2.2 hQ
      · rename_i hw
        simp only [hw] at h2
        exact ⟨fun _ _ => trivial, anyIn_wide hQ fuel _ _ w h2⟩

theorem region_round_held {n : Nat} {P : Program} {id r : Nat} {Q : Exit → Act → World → Prop} {a : Act} {w : World} {l : List Oper} (S : World → Prop) (hm : P.follows .mixedOrders = true) (hp : l.all plainOp = true) (hQ : ¬ LetsOut Q)
    (h : wpAnyH P .any l.toArray Q S l.toArray.size (Array.replicate l.toArray.size false) a w.drew) : (Code.region id l.toArray true).wpIn (Fence.wide.inRound r) n P Q a w := by
  refine wpIn_region_any hm (wpAnyIn_round r ?_ _ _ _ _ (anyIn_wide hQ _ _ _ _ (wpAny_of_held _ _ _ _ h)))
  intro i o ho
  rw [List.all_eq_true] at hp
  exact hp o (List.mem_of_getElem? (by simpa using ho))

/-- A post that no way out but the normal one meets. -/
def nrm (K : Act → World → Prop) : Exit → Act → World → Prop
  | .normal, a, w => K a w
  | _, _, _ => False

theorem wp_nrm {P : Program} {c : Code} {Q : Exit → Act → World → Prop} {a : Act} {w : World} (h : c.wp P (nrm (fun a w => Q .normal a w)) a w) : c.wp P Q a w :=
  Code.wp_mono (fun e a w h => by cases e <;> first | exact h | exact (h : False).elim) h

theorem wpIn_nrm {F : Fence} {n : Nat} {P : Program} {c : Code} {Q : Exit → Act → World → Prop} {a : Act} {w : World} (h : c.wpIn F n P (nrm (fun a w => Q .normal a w)) a w) : c.wpIn F n P Q a w :=
  wpIn_mono h (fun e a w h => by cases e <;> first | exact h | exact (h : False).elim)

theorem nrm_out (K : Act → World → Prop) : ¬ LetsOut (nrm K) := fun ⟨_, _, h⟩ => h

end Go.Proofs.YtlholgpenpfpbaaGreatDoor
