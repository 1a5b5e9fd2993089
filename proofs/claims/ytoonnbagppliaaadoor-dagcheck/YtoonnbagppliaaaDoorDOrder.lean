/-
  Order: the nodes, each behind those ahead of it.
-/
import Derived.Test.YtoonnbagppliaaaDoorDWaits
import Derived.Test.YtoonnbagppliaaaDoorDAft
import Derived.ScopeJumps
namespace Go.Proofs.YtoonnbagppliaaaDoor
open Go.RowKit

theorem jump_weaken {l : Nat} {J J' : Act → World → Prop} {Q : Exit → Act → World → Prop} (h : ∀ a w, J a w → J' a w) : ∀ e a w, Exit.jump l J Q e a w → Exit.jump l J' Q e a w := by
  intro e a w hj
  cases e <;> simp only [Exit.jump] at hj ⊢ <;> first | exact hj | exact ⟨hj.1, h _ _ hj.2⟩

/-- A scope whose code jumps back to one label: one walk of what lies behind the label serves both the first coming and each jump. -/
theorem wp_scope_loop {P : Program} {a : Act} {w : World} {Q : Exit → Act → World → Prop} {c y : Code} (l : Nat) (J : Act → World → Prop) (μ : Act → World → Nat) (hf : findLabel c l = some (Code.skip.seq y))
    (pass : ∀ a w, J a w → y.wp P (Exit.jump l (fun a' w' => J a' w' ∧ μ a' w' < μ a w) Q) a w)
    (first : (∀ a w, J a w → y.wp P (Exit.jump l J Q) a w) → c.wp P (Exit.jump l J Q) a w) : (Code.scope c).wp P Q a w :=
  wp_scope_jumps l J μ hf (first fun a w h => Code.wp_mono (jump_weaken fun _ _ h => h.1) (pass a w h)) (fun a w h => wp_seq (wp_skip (pass a w h)))

theorem getD_set {fo : List Int} {x : Nat} (hx : x < fo.length) (z : Int) (j : Nat) : (fo.set x z).getD j 0 = if j = x then z else fo.getD j 0 := by
  rw [List.getD_eq_getElem?_getD, List.getD_eq_getElem?_getD, List.getElem?_set]
  by_cases e : x = j
  · subst e; simp [hx]
  · have : ¬ j = x := fun h => e h.symm
    simp [e, this]

theorem getD_at {fo : List Int} {x : Nat} (hx : x < fo.length) : fo.getD x 0 = fo[x] := by
  rw [List.getD_eq_getElem?_getD, List.getElem?_eq_getElem hx]; rfl

theorem open_may {ns : List Nd} {T : List Nat} {fo : List Int} (O : OpenIs ns T fo) {i : Nat} (hi : i < ns.length) : (fo.getD i 0 = 0) ↔ mayB ns T i = true := by
  rw [getD_at (by rw [O.1]; exact hi)]
  exact openIs_may O hi

theorem open_step {ns : List Nd} {T : List Nat} {i p : Nat} {fo : List Int} (hs : ∀ n ∈ ns, n.after.length ≤ 1000000) (R : Runs ns T) (hm : mayB ns T i = true) (O : OpenAt ns T i p fo) (hp : p < (bhL ns i ns.length).length) :
    (bhL ns i ns.length)[p] < ns.length ∧ 1 ≤ fo.getD (bhL ns i ns.length)[p] 0 ∧ fo.getD (bhL ns i ns.length)[p] 0 ≤ 1000000 ∧ OpenAt ns T i (p + 1) (fo.set (bhL ns i ns.length)[p] (fo.getD (bhL ns i ns.length)[p] 0 - 1)) := by
  obtain ⟨h, h1, h2⟩ := openAt_step R hm O hp
  have hx : (bhL ns i ns.length)[p] ∈ bhL ns i ns.length := List.getElem_mem hp
  obtain ⟨hT, n, hn, hc⟩ := bh_free R hm hx
  have hv := O.2 _ n hn
  rw [if_neg hT, List.getElem?_eq_getElem h] at hv
  have hv2 := Option.some.inj hv
  have hle := need_le ns T n
  have hfew := hs n (List.mem_of_getElem? hn)
  rw [getD_at h]
  exact ⟨bh_lt hx, h1, by rw [hv2]; omega, h2⟩

theorem ownsRow_low {w : World} {B B' e size : Nat} {v : Value} {n : Nat} {xs : List Value} (h : w.ownsRow B e size v n xs) (hB : B' ≤ B) : w.ownsRow B' e size v n xs := by
  refine ⟨h.1, ?_⟩
  rcases h.2 with h0 | ⟨g, cap, cur, hv, hb, r⟩
  · exact .inl h0
  · exact .inr ⟨g, cap, cur, hv, Nat.le_trans hB hb, r⟩

/-- Where the order stands between two rounds. -/
structure OrdSt (w1 : World) (ns : List Nd) (ob : Nat) (wr : World) (T : List Nat) (fo : List Int) (v6 : Value) : Prop where
  row : wr.rowIs ob 3 ns.length (fun x => .int .i64 (fo.getD x 0))
  ord : wr.ownsRow w1.heap.size 3 1 v6 T.length (natsV T)
  kept : Kept (fun j => j = ob ∨ w1.heap.size ≤ j) w1 wr
  run : Runs ns T
  opn : OpenIs ns T fo

/-- What waits has laid. -/
structure OrdFix (w w1 : World) (name : ByteArray) (a : Option Addr) (c : Nat) (ns : List Nd) (ob : Nat) (vs : Nat → Value) : Prop where
  lo : w.heap.size + 1 ≤ ob
  hi : ob + 1 < w1.heap.size
  beh : BehAt w1 (ob + 2) (fun g => ob + 2 ≤ g ∧ g < w1.heap.size) (ob + 1) ns.length (fun j => bhL ns j ns.length) vs
  kept : Kept (fun _ => False) (w.alloc (.cells #[.string name, .slice a ns.length c] 25)) w1

def ordJ (w w1 : World) (name : ByteArray) (a : Option Addr) (c : Nat) (ns : List Nd) (ob : Nat) (a' : Act) (w' : World) : Prop :=
  ∃ (T : List Nat) (fo : List Int) (a6 : Option Addr) (c6 fr : Nat) (u : Nat → Value),
    a' = { tmps := #[.agg #[.string name, .slice a ns.length c], .pointer (some ⟨w.heap.size, 0, none⟩), .slice none 0 0, .bool false, .slice (some ⟨ob, 0, none⟩) ns.length ns.length, .slice (some ⟨ob + 1, 0, none⟩) ns.length ns.length, .slice a6 T.length c6, .int .i64 (fr : Nat), u 8, u 9, u 10, u 11, u 12, u 13, u 14, u 15, u 16, u 17, u 18, u 19, u 20, u 21, u 22, u 23, u 24, u 25, u 26, u 27, u 28, u 29, u 30, u 31, u 32, u 33, u 34, u 35, u 36, u 37, u 38, u 39, u 40, u 41, u 42, u 43, u 44, u 45, u 46, u 47, u 48, u 49, u 50, u 51, u 52, u 53, u 54, u 55, u 56, u 57, u 58, u 59, u 60, u 61, u 62, u 63, u 64, u 65, u 66, u 67, u 68, u 69], defers := [] } ∧
      OrdSt w1 ns ob w' T fo (.slice a6 T.length c6) ∧ fr ≤ ns.length ∧ ∀ y, y < fr → mayB ns T y = false

theorem ordJ_of {w w1 w' : World} {name : ByteArray} {a a6 : Option Addr} {c ob c6 fr : Nat} {ns : List Nd} {a' : Act} {T : List Nat} {fo : List Int}
    (h : a' = { tmps := #[.agg #[.string name, .slice a ns.length c], .pointer (some ⟨w.heap.size, 0, none⟩), .slice none 0 0, .bool false, .slice (some ⟨ob, 0, none⟩) ns.length ns.length, .slice (some ⟨ob + 1, 0, none⟩) ns.length ns.length, .slice a6 T.length c6, .int .i64 (fr : Nat), a'.tmps.getD 8 undef, a'.tmps.getD 9 undef, a'.tmps.getD 10 undef, a'.tmps.getD 11 undef, a'.tmps.getD 12 undef, a'.tmps.getD 13 undef, a'.tmps.getD 14 undef, a'.tmps.getD 15 undef, a'.tmps.getD 16 undef, a'.tmps.getD 17 undef, a'.tmps.getD 18 undef, a'.tmps.getD 19 undef, a'.tmps.getD 20 undef, a'.tmps.getD 21 undef, a'.tmps.getD 22 undef, a'.tmps.getD 23 undef, a'.tmps.getD 24 undef, a'.tmps.getD 25 undef, a'.tmps.getD 26 undef, a'.tmps.getD 27 undef, a'.tmps.getD 28 undef, a'.tmps.getD 29 undef, a'.tmps.getD 30 undef, a'.tmps.getD 31 undef, a'.tmps.getD 32 undef, a'.tmps.getD 33 undef, a'.tmps.getD 34 undef, a'.tmps.getD 35 undef, a'.tmps.getD 36 undef, a'.tmps.getD 37 undef, a'.tmps.getD 38 undef, a'.tmps.getD 39 undef, a'.tmps.getD 40 undef, a'.tmps.getD 41 undef, a'.tmps.getD 42 undef, a'.tmps.getD 43 undef, a'.tmps.getD 44 undef, a'.tmps.getD 45 undef, a'.tmps.getD 46 undef, a'.tmps.getD 47 undef, a'.tmps.getD 48 undef, a'.tmps.getD 49 undef, a'.tmps.getD 50 undef, a'.tmps.getD 51 undef, a'.tmps.getD 52 undef, a'.tmps.getD 53 undef, a'.tmps.getD 54 undef, a'.tmps.getD 55 undef, a'.tmps.getD 56 undef, a'.tmps.getD 57 undef, a'.tmps.getD 58 undef, a'.tmps.getD 59 undef, a'.tmps.getD 60 undef, a'.tmps.getD 61 undef, a'.tmps.getD 62 undef, a'.tmps.getD 63 undef, a'.tmps.getD 64 undef, a'.tmps.getD 65 undef, a'.tmps.getD 66 undef, a'.tmps.getD 67 undef, a'.tmps.getD 68 undef, a'.tmps.getD 69 undef], defers := [] })
    (O : OrdSt w1 ns ob w' T fo (.slice a6 T.length c6)) (hfr : fr ≤ ns.length) (hl : ∀ y, y < fr → mayB ns T y = false) : ordJ w w1 name a c ns ob a' w' :=
  ⟨T, fo, a6, c6, fr, fun i => a'.tmps.getD i undef, h, O, hfr, hl⟩

def sliceLen : Value → Nat
  | .slice _ m _ => m
  | _ => 0

theorem ordSt_start {w1 : World} {ns : List Nd} {ob : Nat} (R : w1.rowIs ob 3 ns.length (openF ns ns.length)) : OrdSt w1 ns ob w1 [] (ns.map (fun n => (n.after.length : Int))) (.slice none 0 0) := by
  refine ⟨R.congr (fun i hi => ?_), World.ownsRow_nil _ _ _ _, Kept.refl _ _, Runs.zero ns, by simp, fun x n hn => ?_⟩
  · unfold openF
    rw [if_pos hi, List.getElem?_eq_getElem hi, List.getD_eq_getElem?_getD, List.getElem?_map, List.getElem?_eq_getElem hi]
    rfl
  · rw [List.getElem?_map, hn, need_nil]
    simp

set_option maxRecDepth 100000 in
set_option maxHeartbeats 4000000 in
theorem order_any (w : World) (name : ByteArray) (a : Option Addr) (n c : Nat) (ns : List Nd) (hN : NodesAt w a ns) (hl : ns.length = n) (hn : n ≤ 1000000) :
    Calls Tryd.prog 11 #[.agg #[.string name, .slice a n c]] w fun e w' => ∃ av cv, e = .returned (.tuple #[.slice av (ordP ns).length cv, .bool (decide ((ordP ns).length = n))]) ∧ w'.ownsRow w.heap.size 3 1 (.slice av (ordP ns).length cv) (ordP ns).length (natsV (ordP ns)) ∧ Kept (fun _ => False) w w' := by
  subst hl
  obtain ⟨i0, hi0, hz0, hz1, hz2⟩ := info_parts Tryd.info3
  have hW := waits_any (w.alloc (.cells #[.string name, .slice a ns.length c] 25)) name a ns.length c ns (keptNew (Kept.alloc _ _ _) hN) rfl hn
  rw [World.size_alloc] at hW
  have HL : Hid (∀ n ∈ ns, n.after.length ≤ 1000000) := fun n h => (hN.1 n h).few
  clear hN
  go_enter Tryd.func11, Tryd.ntmps11
  go_wp2_with fail
  refine wp_scope_loop 0 (fun a' w' => ∃ w1 ob vs, OrdFix w w1 name a c ns ob vs ∧ ordJ w w1 name a c ns ob a' w') (fun a' _ => ns.length - sliceLen (a'.tmps.getD 6 undef)) rfl ?_ ?_
  rotate_left
  · intro pass
    go_wp2_with (first
      | (go_at_call 23; refine hW.mono ?_; rintro e w1 ⟨ob, vs, rfl, hob, R1, H1, K1⟩; clear hW)
      | fail)
    go_step3
    refine (‹∀ (a : Act) (w : World), Code.wp _ _ _ a w → _›) _ _ ?_
    refine pass _ _ ⟨w1, ob, vs, ⟨hob, H1.row.lt, H1.widen (fun j hj g hg => ⟨H1.inS j hj g hg, ownsRow_blk (H1.own j hj) hg⟩) (fun g h => by omega), K1⟩, ?_⟩
    exact ordJ_of rfl (ordSt_start R1) (Nat.zero_le _) (fun y h => absurd h (Nat.not_lt_zero _))
  · clear hW
    rintro a' w' ⟨w1, ob, vs, X, T0, fo0, a60, c60, fr0, u, rfl, O0, hfr0, hl0⟩
    have HX : Hid (OrdFix w w1 name a c ns ob vs) := X
    have HO0 : Hid (OrdSt w1 ns ob w' T0 fo0 (.slice a60 T0.length c60)) := O0
    have HL0 : Hid (∀ y, y < fr0 → mayB ns T0 y = false) := hl0
    have hx1 := X.lo
    have hx2 := X.hi
    clear X O0 hl0
    go_wp2_with fail
    go_loopw [6, 7, 8] (fun v6 v7 v8 wr => ∃ (T : List Nat) (fo : List Int) (a6 : Option Addr) (c6 i : Nat), v6 = .slice a6 T.length c6 ∧ v8 = .int .i64 (i : Nat) ∧ OrdSt w1 ns ob wr T fo (.slice a6 T.length c6) ∧ i ≤ ns.length ∧ (∀ y, y < i → mayB ns T y = false) ∧ T0.length ≤ T.length) (fun _ _ v8 _ => ns.length - (intOf v8).toNat)
    case atStart => exact ⟨T0, fo0, a60, c60, fr0, rfl, rfl, HO0.out, hfr0, HL0.out, Nat.le_refl _⟩
    case round =>
      obtain ⟨wo, hwo⟩ : ∃ wo, wo = wr := ⟨_, rfl⟩
      subst hwo
      obtain ⟨T, fo, a6, c6, i, rfl, rfl, O, hi, hlow, hT0⟩ := hrel
      have Kb : Kept (fun j => j = ob ∨ w1.heap.size ≤ j) w1 wo := O.kept
      have hwz := Kb.size
      by_cases hlt : i < ns.length
      · have r1 := O.row.cell hlt
        have e0 : (i : Int) < (ns.length : Int) := by omega
        have hom := open_may O.opn hlt
        have HO : Hid (OrdSt w1 ns ob wo T fo (.slice a6 T.length c6)) := O
        have HLo : Hid (∀ y, y < i → mayB ns T y = false) := hlow
        clear O hlow
        by_cases hz : fo.getD i 0 = 0
        · have hm := hom.1 hz
          rw [hz] at r1
          clear hom hz
          have HC : Hid (∀ u ∈ [Value.int .i64 (i : Nat)], u.oneCell' = true) := natsV_one [i]
          have htl : T.length ≤ 1000000 := Nat.le_trans HO.out.run.2.2.2.1 hn
          obtain ⟨ai, ci, hvi⟩ := ownsRow_shape (HX.out.beh.own i hlt)
          have hrow := HX.out.beh.own i hlt
          rw [hvi] at hrow
          have hblk : ∀ g, (Value.slice ai (bhL ns i ns.length).length ci).ownBlock = some g → g < w1.heap.size ∧ g ≠ ob ∧ g ≠ ob + 1 := fun g hg => by
            have := HX.out.beh.inS i hlt g (by rw [hvi]; exact hg)
            omega
          have HROW : Hid (w1.ownsRow (ob + 2) 3 1 (.slice ai (bhL ns i ns.length).length ci) (bhL ns i ns.length).length (natsV (bhL ns i ns.length))) := hrow
          have hLn := bhL_len2 HL.out hn i
          clear hrow
          go_wp2_with (first
            | (at_builtin; refine wpList_append_src _ rfl _ _ 37 rfl w1.heap.size 3 i0 _ 1 8 Tryd.underlying37 hi0 hz0 hz1 hz2 rfl (by decide) (.slice a6 T.length c6) T.length _ rfl (HO.out.ord.alloc _) _ rfl 1 _ (.inl ⟨_, 1, rfl, rfl, World.news_of_block (heap_alloc_new _ _)⟩) HC.out (by unfold maxLen; omega) (by omega) (by simp; omega) ?_; intro a3 cap3 w6 ho3 hg3 _ hl3;
                have KG : Kept (fun g => w1.heap.size ≤ g) wo w6 := (Kept.alloc _ _ _).and (Kept.grown hg3 (fun g e => (HO.out.ord.lt g e).1)); have hsz6 := KG.size;
                have r6 := HO.out.row.of_block (KG.block ob HO.out.row.lt (by omega)); have b6 := r6.cell hlt; have z6 := r6.frozen i;
                have HR6 : Hid ((w6.setCell ⟨ob, i, none⟩ (.int .i64 (-1))).rowIs ob 3 ns.length (fun x => .int .i64 ((fo.set i (-1)).getD x 0))) := ((r6.set i (.int .i64 (-1))).congr (fun q hq => by rw [getD_set (by rw [HO.out.opn.1]; exact hlt)]; split <;> rfl));
                have HO6 : Hid ((w6.setCell ⟨ob, i, none⟩ (.int .i64 (-1))).ownsRow w1.heap.size 3 1 (.slice a3 (T.length + 1) cap3) (T.length + 1) (natsV (T ++ [i]))) := (ownsRow_keep (by rw [show natsV (T ++ [i]) = natsV T ++ natsV [i] by simp [natsV]]; exact ho3) (fun g hg => Below.heap_setCell _ _ _ _ (fun e => by have := (ho3.lt g hg).1; have e' : g = ob := e; omega)));
                have K6 : Hid (Kept (fun j => j = ob ∨ w1.heap.size ≤ j) w1 (w6.setCell ⟨ob, i, none⟩ (.int .i64 (-1)))) := ((Kb.and (KG.mono (fun g h => .inr h))).and (Kept.setCell _ _ _ (.inl rfl)));
                have hbc := (HX.out.beh.row.of_block (K6.out.block (ob + 1) HX.out.beh.row.lt (by omega))).cell hlt; rw [hvi] at hbc;
                clear ho3 r6 hg3 hl3 KG)
            | fail)
          go_loopw [7, 41] (fun v7 q wq => ∃ (p fr : Nat) (fo2 : List Int), p ≤ (bhL ns i ns.length).length ∧ q = .int .i64 (p : Nat) ∧ v7 = .int .i64 (fr : Nat) ∧ fr ≤ i ∧ OpenAt ns T i p fo2 ∧ wq.rowIs ob 3 ns.length (fun x => .int .i64 (fo2.getD x 0)) ∧ (∀ x ∈ (bhL ns i ns.length).take p, fo2[x]? = some 0 → fr ≤ x) ∧ Kept (fun j => j = ob) (w6.setCell ⟨ob, i, none⟩ (.int .i64 (-1))) wq) (fun _ q _ => (bhL ns i ns.length).length - (intOf q).toNat)
          case atStart => exact ⟨0, i, fo.set i (-1), Nat.zero_le _, rfl, rfl, Nat.le_refl _, openAt_start HO.out.opn i, HR6.out, fun x hx => (by simp at hx), Kept.refl _ _⟩
          case round =>
            obtain ⟨p, fr, fo2, hp, rfl, rfl, hfr, OA, RQ, hzz, KQ⟩ := hrel
            by_cases hpl : p < (bhL ns i ns.length).length
            · obtain ⟨hxl, hx1', hx2', OA2⟩ := open_step HL.out HO.out.run hm OA hpl
              have hfl : fo2.length = ns.length := OA.1
              have KQ1 := K6.out.and (KQ.mono (fun j h => .inl h))
              have hro := ownsRow_keep (w' := wr) HROW.out (fun g hg => KQ1.block g (hblk g hg).1 (by have := hblk g hg; omega))
              have ht := take_snoc hpl
              have rx := RQ.cell hxl
              have zx := RQ.frozen (bhL ns i ns.length)[p]
              have rs := (RQ.set (bhL ns i ns.length)[p] (.int .i64 (fo2.getD (bhL ns i ns.length)[p] 0 - 1))).congr (g := fun q => .int .i64 ((fo2.set (bhL ns i ns.length)[p] (fo2.getD (bhL ns i ns.length)[p] 0 - 1)).getD q 0)) (fun q hq => by rw [getD_set (by rw [hfl]; exact hxl)]; split <;> rfl)
              obtain ⟨g, rfl⟩ : ∃ g, ai = some ⟨g, 0, none⟩ := by
                rcases hro.2 with ⟨e, h0⟩ | ⟨g, _, _, e, _⟩
                · omega
                · simp only [Value.slice.injEq] at e
                  exact ⟨g, e.1⟩
              have hcl := hro.cellAt p (by omega)
              rw [show (natsV (bhL ns i ns.length))[p]? = some (.int .i64 ((bhL ns i ns.length)[p] : Nat)) by simp [natsV, hpl]] at hcl
              have e1 : (p : Int) < ((bhL ns i ns.length).length : Int) := by omega
              have e2 : ((bhL ns i ns.length)[p] : Int) < (ns.length : Int) := by omega
              have HOA : Hid (OpenAt ns T i (p + 1) (fo2.set (bhL ns i ns.length)[p] (fo2.getD (bhL ns i ns.length)[p] 0 - 1))) := OA2
              have HRS : Hid ((wr.setCell ⟨ob, (bhL ns i ns.length)[p], none⟩ (.int .i64 (fo2.getD (bhL ns i ns.length)[p] 0 - 1))).rowIs ob 3 ns.length (fun q => .int .i64 ((fo2.set (bhL ns i ns.length)[p] (fo2.getD (bhL ns i ns.length)[p] 0 - 1)).getD q 0))) := rs
              have HZ : Hid (∀ fr', fr' ≤ fr → (fo2.getD (bhL ns i ns.length)[p] 0 - 1 = 0 → fr' ≤ (bhL ns i ns.length)[p]) → ∀ x ∈ (bhL ns i ns.length).take (p + 1), (fo2.set (bhL ns i ns.length)[p] (fo2.getD (bhL ns i ns.length)[p] 0 - 1))[x]? = some 0 → fr' ≤ x) := fun fr' h1 h2 x hx h0 => by
                rw [List.getElem?_set] at h0
                by_cases ex : (bhL ns i ns.length)[p] = x
                · rw [if_pos ex, if_pos (by rw [hfl]; exact hxl)] at h0
                  rw [← ex]
                  exact h2 (Option.some.inj h0)
                · rw [if_neg ex] at h0
                  rw [ht, List.mem_append] at hx
                  rcases hx with hx | hx
                  · exact Nat.le_trans h1 (hzz x hx h0)
                  · simp at hx; exact absurd hx.symm ex
              clear OA OA2 rs ht hzz hro RQ KQ1
              generalize (bhL ns i ns.length)[p] = x at *
              generalize fo2.getD x 0 = z at *
              by_cases hz0' : z = 1
              · subst hz0'
                go_wp2_with fail
                go_roundw
                case rel => exact ⟨p + 1, min fr x, _, by omega, by go_num, by rw [show ((min fr x : Nat) : Int) = min (fr : Int) (x : Int) by omega], by omega, HOA.out, HRS.out, HZ.out (min fr x) (by omega) (fun _ => by omega), KQ.and (Kept.setCell _ _ _ rfl)⟩
                case measure => simp [intOf]; omega
              · have hz1' : ¬ z - 1 = 0 := by omega
                go_wp2_with fail
                go_roundw
                case rel => exact ⟨p + 1, fr, _, by omega, by go_num, rfl, hfr, HOA.out, HRS.out, HZ.out fr (Nat.le_refl _) (fun h => absurd h hz1'), KQ.and (Kept.setCell _ _ _ rfl)⟩
                case measure => simp [intOf]; omega
            · obtain rfl : p = (bhL ns i ns.length).length := by omega
              have OI := openAt_end hm rfl OA
              rw [List.take_length] at hzz
              have hma := may_after hm HLo.out OI hfr hzz
              have O2 : OrdSt w1 ns ob wr (T ++ [i]) fo2 (.slice a3 (T ++ [i]).length cap3) := by
                refine ⟨RQ, ?_, K6.out.and (KQ.mono (fun j h => .inl h)), HO.out.run.step hm HLo.out, OI⟩
                rw [List.length_append, List.length_singleton]
                exact ownsRow_keep HO6.out (fun g hg => KQ.block g (ownsRow_blk HO6.out hg) (by have := (HO6.out.lt g hg).1; omega))
              have HO2 : Hid (OrdSt w1 ns ob wr (T ++ [i]) fo2 (.slice a3 (T ++ [i]).length cap3)) := O2
              have HMA : Hid (∀ y, y < fr → mayB ns (T ++ [i]) y = false) := hma
              have htn : T.length + 1 ≤ ns.length := by have := O2.run.2.2.2.1; rw [List.length_append] at this; exact this
              clear OI hma O2 OA RQ hzz
              by_cases hgo : fr < i
              · have e3 : (fr : Int) < (i : Int) := by omega
                go_wp2_with fail
                go_step3
                refine ⟨rfl, ⟨w1, ob, vs, HX.out, ordJ_of (T := T ++ [i]) (c6 := cap3) ?_ HO2.out (by omega) HMA.out⟩, ?_⟩
                · simp
                · simp [sliceLen]; omega
              · obtain rfl : fr = i := by omega
                go_wp2_with fail
                go_roundw
                case rel =>
                  refine ⟨T ++ [fr], fo2, a3, cap3, fr + 1, by simp, by go_num, HO2.out, by omega, fun y hy => ?_, by simp; omega⟩
                  rcases Nat.lt_succ_iff_lt_or_eq.1 hy with h | h
                  · exact HMA.out y h
                  · subst h; unfold mayB; simp
                case measure => simp [intOf]; omega
        · have HM : Hid (mayB ns T i = false) := by
            cases hb : mayB ns T i with
            | false => rfl
            | true => exact absurd (hom.2 hb) hz
          clear hom
          generalize fo.getD i 0 = z at *
          go_wp2_with fail
          go_roundw
          case rel => exact ⟨T, fo, a6, c6, i + 1, rfl, by go_num, HO.out, by omega, fun y hy => by rcases Nat.lt_succ_iff_lt_or_eq.1 hy with h | h; exact HLo.out y h; rw [h]; exact HM.out, hT0⟩
          case measure => simp [intOf]; omega
      · obtain rfl : i = ns.length := by omega
        have hst := O.run.stop hlow
        have hd1 := boxC (HX.out.kept.trans (S' := fun j => j = ob ∨ w1.heap.size ≤ j) Kb (fun g h => .inr (by have := HX.out.kept.size; rw [World.size_alloc] at this ⊢; omega))) (fun h => h) 1 _ rfl
        have HO : Hid (OrdSt w1 ns ob wo T fo (.slice a6 T.length c6)) := O
        have HK : Hid (Kept (fun _ => False) w wo) := ((Kept.alloc (fun _ => False) w _).and HX.out.kept).trans Kb (fun g h => .inr (by omega))
        have HST : Hid (ordP ns = T) := hst
        clear O hlow hst
        go_wp2_with (first | go_quiet (fail) | fail)
        simp only [Exit.jump]
        have hbq : ((T.length : Int) == (ns.length : Int)) = decide (T.length = ns.length) := by
          rw [Bool.eq_iff_iff]; simp; omega
        go_ret2
        refine ⟨a6, c6, ?_, ?_, HK.out.and (Kept.drewN _ _ _)⟩
        · rw [HST.out, ← hbq]; rfl
        · rw [HST.out]; exact ownsRow_low (own_drewN HO.out.ord _) (by have := HX.out.kept.size; rw [World.size_alloc] at this; omega)

end Go.Proofs.YtoonnbagppliaaaDoor
