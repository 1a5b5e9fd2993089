/-
  waits: for how many each node waits, and who waits for it.
-/
import Derived.Test.YtoonnbagppliaaaDoorDBeh
namespace Go.Proofs.YtoonnbagppliaaaDoor
open Go.RowKit

/-- What waits counts, when the first i nodes were gone through. -/
def openF (ns : List Nd) (i x : Nat) : Value := .int .i64 (if x < i then (match ns[x]? with | some n => (n.after.length : Int) | none => 0) else 0)

theorem openF_next {ns : List Nd} {i : Nat} (hi : i < ns.length) (q : Nat) : (if q = i then Value.int .i64 ((ns[i]).after.length : Int) else openF ns i q) = openF ns (i + 1) q := by
  unfold openF
  by_cases e : q = i
  · subst e
    rw [if_pos rfl, if_pos (Nat.lt_succ_self _), List.getElem?_eq_getElem hi]
  · rw [if_neg e]
    by_cases h : q < i
    · rw [if_pos h, if_pos (by omega)]
    · rw [if_neg h, if_neg (by omega)]

set_option maxRecDepth 100000 in
set_option maxHeartbeats 4000000 in
theorem waits_any (w : World) (name : ByteArray) (a : Option Addr) (n c : Nat) (ns : List Nd) (hN : NodesAt w a ns) (hl : ns.length = n) (hn : n ≤ 1000000) :
    Calls Tryd.prog 23 #[.agg #[.string name, .slice a n c]] w fun e w' => ∃ ob vs, e = .returned (.tuple #[.slice (some ⟨ob, 0, none⟩) n n, .slice (some ⟨ob + 1, 0, none⟩) n n]) ∧ w.heap.size ≤ ob ∧
      w'.rowIs ob 3 n (openF ns n) ∧ BehAt w' (ob + 2) (fun g => ob + 2 ≤ g) (ob + 1) n (fun j => bhL ns j n) vs ∧ Kept (fun _ => False) w w' := by
  subst hl
  obtain ⟨i0, hi0, hz0, hz1, hz2⟩ := info_parts Tryd.info3
  have hF := firsts_any (w.alloc (.cells #[.string name, .slice a ns.length c] 25)) name a ns.length c ns (keptNew (Kept.alloc _ _ _) hN) rfl (by omega)
  rw [World.size_alloc] at hF
  have hm1 := fun W => run_make_row' (P := Tryd.prog) 37 3 (.int .i64 0) 8 Tryd.underlying37 Tryd.info3 rfl .i64 .i64 ns.length (by omega) (by omega) W
  have hm2 := fun W => run_make_row' (P := Tryd.prog) 49 37 (.slice none 0 0) 24 Tryd.underlying49 Tryd.info37 rfl .i64 .i64 ns.length (by omega) (by omega) W
  have HN : Hid (NodesAt w a ns) := hN
  have HL : Hid (∀ n ∈ ns, n.after.length ≤ 1000000) := fun n h => (hN.1 n h).few
  clear hN
  go_enter Tryd.func23, Tryd.ntmps23
  go_wp2_with (first
    | (go_at_call 28; refine hF.mono ?_; rintro e w1 ⟨rfl, F1, K1⟩; clear hF; have hd := boxD K1; obtain ⟨d0, d1⟩ := hd; have HF1 : Hid (FirstAt w1 (w.heap.size + 1 + 1) ns) := F1; have hmb : w.heap.size + 1 + 1 < w1.heap.size := (by obtain ⟨_, t⟩ := F1; exact t.lt); clear F1; have HS1 := K1.size; rw [World.size_alloc] at HS1; have d1a : (w1.alloc (.cells (madeCells #[.int .i64 0] ns.length) 3)).cell? ⟨w.heap.size, 1, none⟩ = some (.slice a ns.length c) := keepC (Kept.alloc (fun _ => False) _ _) d1 (fun _ _ h => h);
        have d1b : ((w1.alloc (.cells (madeCells #[.int .i64 0] ns.length) 3)).alloc (.cells (madeCells #[.slice none 0 0] ns.length) 37)).cell? ⟨w.heap.size, 1, none⟩ = some (.slice a ns.length c) := keepC (Kept.alloc (fun _ => False) _ _) d1a (fun _ _ h => h);
        have HR : Hid (((w1.alloc (.cells (madeCells #[.int .i64 0] ns.length) 3)).alloc (.cells (madeCells #[.slice none 0 0] ns.length) 37)).rowIs w1.heap.size 3 ns.length (openF ns 0)) := ((World.rowIs_made w1 (.int .i64 0) ns.length 3).alloc _).congr (fun i hi => by unfold openF; rfl);
        have HB : Hid (BehAt ((w1.alloc (.cells (madeCells #[.int .i64 0] ns.length) 3)).alloc (.cells (madeCells #[.slice none 0 0] ns.length) 37)) (w1.heap.size + 2) (fun g => w1.heap.size + 2 ≤ g) (w1.heap.size + 1) ns.length (fun j => bhL ns j 0) (fun _ => .slice none 0 0)) := (by have hb := behNew (w1.alloc (.cells (madeCells #[.int .i64 0] ns.length) 3)) (w1.heap.size + 2) ns.length (fun g => w1.heap.size + 2 ≤ g) (fun g h => by rw [World.size_alloc]; omega); rw [World.size_alloc] at hb; exact hb);
        have K0 : Hid (Kept (fun _ => False) w w1) := (Kept.alloc (fun _ => False) _ _).and K1)
    | fail)
  go_loopw [24] (fun q wr => ∃ (i : Nat) (vs : Nat → Value), i ≤ ns.length ∧ q = .int .i64 i ∧ Kept (fun j => w1.heap.size ≤ j) ((w1.alloc (.cells (madeCells #[.int .i64 0] ns.length) 3)).alloc (.cells (madeCells #[.slice none 0 0] ns.length) 37)) wr ∧ wr.rowIs w1.heap.size 3 ns.length (openF ns i) ∧ BehAt wr (w1.heap.size + 2) (fun g => w1.heap.size + 2 ≤ g) (w1.heap.size + 1) ns.length (fun j => bhL ns j i) vs) (fun q _ => ns.length - (intOf q).toNat)
  case atStart => exact ⟨0, _, Nat.zero_le _, rfl, Kept.refl _ _, HR.out, HB.out⟩
  case round =>
    obtain ⟨wo, hwo⟩ : ∃ wo, wo = wr := ⟨_, rfl⟩
    subst hwo
    obtain ⟨i, vs, hi, rfl, K, R, H⟩ := hrel
    have Kw : Kept (fun _ => False) w wo := (((K0.out.and (Kept.alloc _ _ _)).and (Kept.alloc _ _ _)).trans K (fun g h => .inr (by omega)))
    have Kw1 : Kept (fun j => w1.heap.size ≤ j) w1 wo := ((Kept.alloc _ _ _).and (Kept.alloc _ _ _)).and K
    have hsz := Kw1.size
    have hsz2 : w1.heap.size + 2 ≤ wo.heap.size := by have := K.size; simp at this; omega
    by_cases hlt : i < ns.length
    · obtain ⟨b, o, av, cv, hae, hT, c0, c1, c2, c3, c4, c5, c6⟩ := HN.out.at hlt
      replace c0 := keepC Kw c0 (fun _ _ h => h)
      replace c1 := keepC Kw c1 (fun _ _ h => h)
      replace c2 := keepC Kw c2 (fun _ _ h => h)
      replace c3 := keepC Kw c3 (fun _ _ h => h)
      replace c4 := keepC Kw c4 (fun _ _ h => h)
      replace c5 := keepC Kw c5 (fun _ _ h => h)
      replace c6 := keepC Kw c6 (fun _ _ h => h)
      have hget := List.getElem?_eq_getElem hlt
      have hnx := openF_next hlt
      have hall := fun j => bhK_all j hget
      have hfew := HL.out _ (List.getElem_mem hlt)
      have e0 : (i : Int) < (ns.length : Int) := by omega
      have HX : Hid (∀ q, (if q = i then Value.int .i64 ((ns[i]).after.length : Int) else openF ns i q) = openF ns (i + 1) q) := hnx
      have HA : Hid (∀ j, bhK ns i (ns[i]).after.length j ns[i] = bhL ns j (i + 1)) := hall
      have HT0 : Hid (TextsAt w (.slice av (ns[i]).after.length cv) (ns[i]).after) := hT
      clear hT hnx hall hget d1 d1a d1b
      generalize ns[i] = x at *
      have r1 := (R.alloc (.cells #[.string x.name, .int .i64 x.kind, .string x.arg, .string x.to, .int .i64 x.delay, .int .i64 x.tries, .slice av x.after.length cv] 34)).cell hlt
      have r2 := (R.alloc (.cells #[.string x.name, .int .i64 x.kind, .string x.arg, .string x.to, .int .i64 x.delay, .int .i64 x.tries, .slice av x.after.length cv] 34)).frozen i
      have rS := ((R.alloc (.cells #[.string x.name, .int .i64 x.kind, .string x.arg, .string x.to, .int .i64 x.delay, .int .i64 x.tries, .slice av x.after.length cv] 34)).set i (.int .i64 (x.after.length : Int))).congr (fun q _ => HX.out q)
      have HRS : Hid (((wo.alloc (.cells #[.string x.name, .int .i64 x.kind, .string x.arg, .string x.to, .int .i64 x.delay, .int .i64 x.tries, .slice av x.after.length cv] 34)).setCell ⟨w1.heap.size, i, none⟩ (.int .i64 (x.after.length : Int))).rowIs w1.heap.size 3 ns.length (openF ns (i + 1))) := rS
      clear rS
      have KN : Hid (Kept (fun j => w1.heap.size ≤ j ∧ j ≠ wo.heap.size) wo ((wo.alloc (.cells #[.string x.name, .int .i64 x.kind, .string x.arg, .string x.to, .int .i64 x.delay, .int .i64 x.tries, .slice av x.after.length cv] 34)).setCell ⟨w1.heap.size, i, none⟩ (.int .i64 (x.after.length : Int)))) := (Kept.alloc _ _ _).and (Kept.setCell _ _ _ ⟨Nat.le_refl _, by show w1.heap.size ≠ _; omega⟩)
      have HH : Hid (BehAt ((wo.alloc (.cells #[.string x.name, .int .i64 x.kind, .string x.arg, .string x.to, .int .i64 x.delay, .int .i64 x.tries, .slice av x.after.length cv] 34)).setCell ⟨w1.heap.size, i, none⟩ (.int .i64 (x.after.length : Int))) (w1.heap.size + 2) (fun g => w1.heap.size + 2 ≤ g ∧ g ≠ wo.heap.size) (w1.heap.size + 1) ns.length (fun j => bhK ns i 0 j x) vs) :=
        (((H.widen (S' := fun g => w1.heap.size + 2 ≤ g ∧ g ≠ wo.heap.size) (fun j hj g hg => ⟨H.inS j hj g hg, by have := ownsRow_blk (H.own j hj) hg; omega⟩) (fun g h => by omega)).kept ((Kept.alloc (fun j => j = w1.heap.size) _ (.cells #[.string x.name, .int .i64 x.kind, .string x.arg, .string x.to, .int .i64 x.delay, .int .i64 x.tries, .slice av x.after.length cv] 34)).and (Kept.setCell _ ⟨w1.heap.size, i, none⟩ _ rfl)) (by omega) (fun g h => by omega))).is (fun j _ => (bhK_zero ns i j x).symm)
      have HB7 : Hid (∀ W, Kept (fun j => w1.heap.size ≤ j ∧ j ≠ wo.heap.size) ((wo.alloc (.cells #[.string x.name, .int .i64 x.kind, .string x.arg, .string x.to, .int .i64 x.delay, .int .i64 x.tries, .slice av x.after.length cv] 34)).setCell ⟨w1.heap.size, i, none⟩ (.int .i64 (x.after.length : Int))) W → W.cell? ⟨wo.heap.size, 0, none⟩ = some (.string x.name) ∧ W.cell? ⟨wo.heap.size, 1, none⟩ = some (.int .i64 x.kind) ∧ W.cell? ⟨wo.heap.size, 2, none⟩ = some (.string x.arg) ∧
          W.cell? ⟨wo.heap.size, 3, none⟩ = some (.string x.to) ∧ W.cell? ⟨wo.heap.size, 4, none⟩ = some (.int .i64 x.delay) ∧ W.cell? ⟨wo.heap.size, 5, none⟩ = some (.int .i64 x.tries) ∧ W.cell? ⟨wo.heap.size, 6, none⟩ = some (.slice av x.after.length cv)) := fun W KK => by
        have k2 : Kept (fun j => w1.heap.size ≤ j ∧ j ≠ wo.heap.size) (wo.alloc (.cells #[.string x.name, .int .i64 x.kind, .string x.arg, .string x.to, .int .i64 x.delay, .int .i64 x.tries, .slice av x.after.length cv] 34)) W := (Kept.setCell _ _ _ ⟨Nat.le_refl _, by show w1.heap.size ≠ _; omega⟩).and KK
        exact ⟨boxC k2 (fun h => h.2 rfl) 0 _ rfl, boxC k2 (fun h => h.2 rfl) 1 _ rfl, boxC k2 (fun h => h.2 rfl) 2 _ rfl, boxC k2 (fun h => h.2 rfl) 3 _ rfl, boxC k2 (fun h => h.2 rfl) 4 _ rfl, boxC k2 (fun h => h.2 rfl) 5 _ rfl, boxC k2 (fun h => h.2 rfl) 6 _ rfl⟩
      have hb7 := HB7.out _ (Kept.refl _ _)
      obtain ⟨_, _, _, _, _, _, n6⟩ := hb7
      subst hae
      clear H
      go_wp2
      go_loopw [38] (fun q wq => ∃ (k : Nat) (vs : Nat → Value), k ≤ x.after.length ∧ q = .int .i64 k ∧ Kept (fun j => w1.heap.size ≤ j ∧ j ≠ wo.heap.size) ((wo.alloc (.cells #[.string x.name, .int .i64 x.kind, .string x.arg, .string x.to, .int .i64 x.delay, .int .i64 x.tries, .slice av x.after.length cv] 34)).setCell ⟨w1.heap.size, i, none⟩ (.int .i64 (x.after.length : Int))) wq ∧ wq.rowIs w1.heap.size 3 ns.length (openF ns (i + 1)) ∧
          BehAt wq (w1.heap.size + 2) (fun g => w1.heap.size + 2 ≤ g ∧ g ≠ wo.heap.size) (w1.heap.size + 1) ns.length (fun j => bhK ns i k j x) vs) (fun q _ => x.after.length - (intOf q).toNat)
      case atStart => exact ⟨0, vs, Nat.zero_le _, rfl, Kept.refl _ _, HRS.out, HH.out⟩
      case round =>
        obtain ⟨k, vs, hk, rfl, KQ, RQ, HQ⟩ := hrel
        obtain ⟨n0, n1, n2, n3, n4, n5, n6⟩ := HB7.out _ KQ
        have KQo : Kept (fun j => w1.heap.size ≤ j ∧ j ≠ wo.heap.size) wo wr := KN.out.and KQ
        have KQ1 : Kept (fun j => w1.heap.size ≤ j) w1 wr := Kw1.and (KQo.mono (fun j h => h.1))
        have KQw : Kept (fun _ => False) w wr := K0.out.trans KQ1 (fun g h => .inr (by have := K0.out.size; omega))
        have hsz3 := KQo.size
        by_cases hlk : k < x.after.length
        · have htx := HT0.out.kept KQw (fun _ _ h => h)
          obtain ⟨a2, c2, hsl, hc2, hne⟩ := htx.at
          obtain ⟨rfl, rfl⟩ : av = a2 ∧ cv = c2 := by simpa using hsl
          obtain ⟨xb, xo, rfl, hcell⟩ := hne (fun e => by rw [e] at hlk; simp at hlk)
          have hck := hcell k hlk
          have hsm : (x.after[k]).size ≤ maxLen := by
            obtain ⟨_, _, _, _, _, _, h5⟩ := htx
            exact h5 _ (List.getElem_mem hlk)
          have e1 : (k : Int) < (x.after.length : Int) := by omega
          have hah := ahead_any wr (w.heap.size + 1 + 1) ns (HF1.out.kept KQ1 (by omega)) x.name x.kind x.arg x.to x.delay x.tries x.after (some ⟨xb, xo, none⟩) x.after.length cv (x.after[k]) hsm
          clear hsl hcell hne htx
          change Calls Tryd.prog _ _ _ (fun e w' => e = .returned (.tuple #[_, .bool (aheadP ns x (x.after[k])).isSome]) ∧ _) at hah
          cases hap : aheadP ns x (x.after[k]) with
          | none =>
            rw [hap] at hah
            simp only [Option.isSome_none] at hah
            have HMs : Hid (∀ q, bhK ns i k q x = bhK ns i (k + 1) q x) := fun q => bhK_miss hlk hap q
            have HQh : Hid (BehAt wr (w1.heap.size + 2) (fun g => w1.heap.size + 2 ≤ g ∧ g ≠ wo.heap.size) (w1.heap.size + 1) ns.length (fun j => bhK ns i k j x) vs) := HQ
            generalize (findP ns (x.after[k])).getD 0 = fj at *
            clear HQ hap
            generalize x.after[k] = s at *
            go_wp2_with (first
              | (go_at_call 32; refine hah.mono ?_; rintro e w5 ⟨rfl, K5⟩; clear hah)
              | fail)
            go_roundw
            case rel => exact ⟨k + 1, vs, by omega, by go_num, KQ.and (K5.mono (fun _ h => h.elim)), RQ.of_block (K5.block _ RQ.lt (fun h => h)), ((HQh.out.kept K5 (fun h => h) (fun _ _ h => h)).is (fun q _ => HMs.out q))⟩
            case measure => simp [intOf]; omega
          | some j =>
            rw [hap] at hah
            simp only [Option.isSome_some] at hah
            have hfj : findP ns (x.after[k]) = some j := by
              unfold aheadP at hap
              split at hap
              · cases hap
              · exact hap
            rw [hfj, Option.getD_some] at hah
            have hjl := aheadP_lt hap
            have HMs : Hid (∀ q, (if q = j then bhK ns i k j x ++ [i] else bhK ns i k q x) = bhK ns i (k + 1) q x) := fun q => bhK_hit hlk hap q
            have hlen := bhK_len HL.out i k j hfew
            have hlen2 : (bhK ns i k j x).length + 1 ≤ 1000001000001 := by omega
            obtain ⟨aj, cj, hvj⟩ := ownsRow_shape (HQ.own j hjl)
            have e2 : (j : Int) < (ns.length : Int) := by omega
            have HQh : Hid (BehAt wr (w1.heap.size + 2) (fun g => w1.heap.size + 2 ≤ g ∧ g ≠ wo.heap.size) (w1.heap.size + 1) ns.length (fun j => bhK ns i k j x) vs) := HQ
            clear HQ hap hfj hlen
            generalize x.after[k] = s at *
            generalize hLj : (bhK ns i k j x).length = lj at *
            have HC : Hid (∀ u ∈ [Value.int .i64 (i : Nat)], u.oneCell' = true) := natsV_one [i]
            go_wp2_with (first
              | (go_at_call 32; refine hah.mono ?_; rintro e w5 ⟨rfl, K5⟩; clear hah; have HB5 : Hid (BehAt w5 (w1.heap.size + 2) (fun g => w1.heap.size + 2 ≤ g ∧ g ≠ wo.heap.size) (w1.heap.size + 1) ns.length (fun j => bhK ns i k j x) vs) := HQh.out.kept K5 (fun h => h) (fun _ _ h => h); have b5 := HB5.out.row.cell hjl; rw [hvj] at b5;
                  have HO5 : Hid (w5.ownsRow (w1.heap.size + 2) 3 1 (.slice aj lj cj) lj (natsV (bhK ns i k j x))) := (by have h := HB5.out.own j hjl; rw [hvj] at h; simp only [hLj] at h; exact h); have hsz5 := K5.size;
                  have HB6 : Hid (BehAt (w5.alloc (.cells #[.int .i64 (i : Nat)] 3)) (w1.heap.size + 2) (fun g => w1.heap.size + 2 ≤ g ∧ g ≠ wo.heap.size) (w1.heap.size + 1) ns.length (fun j => bhK ns i k j x) vs) := HB5.out.kept (Kept.alloc (fun _ => False) _ _) (fun h => h) (fun _ _ h => h))
              | (at_builtin; refine wpList_append_src _ rfl _ _ 37 rfl (w1.heap.size + 2) 3 i0 _ 1 8 Tryd.underlying37 hi0 hz0 hz1 hz2 rfl (by decide) (.slice aj lj cj) lj _ rfl (HO5.out.alloc _) _ rfl 1 _ (.inl ⟨_, 1, rfl, rfl, World.news_of_block (heap_alloc_new _ _)⟩) HC.out (by unfold maxLen; omega) (by omega) (by simp; omega) ?_; intro a3 cap3 w6 ho3 hg3 _ hl3;
                  have KG : Kept (fun g => (vs j).ownBlock = some g) (w5.alloc (.cells #[.int .i64 (i : Nat)] 3)) w6 := Kept.grown hg3 (fun g e => by rw [hvj]; exact e);
                  have r6 := HB6.out.row.of_block (KG.block _ HB6.out.row.lt (fun e => HB6.out.noB _ (HB6.out.inS j hjl _ e) rfl)); have b6 := r6.cell hjl; have z6 := r6.frozen j; have HO6 : Hid (w6.ownsRow (w1.heap.size + 2) 3 1 (.slice a3 (lj + 1) cap3) (lj + 1) (natsV (bhK ns i k j x) ++ natsV [i])) := ho3; clear ho3 r6)
              | fail)
            have hP := HB6.out.push (x := i) hjl HO6.out (by rw [hvj]; exact hg3) (by rw [hvj]; exact hl3) ⟨by simp; omega, by simp; omega⟩
            obtain ⟨HP, KP⟩ := hP
            go_roundw
            case rel =>
              refine ⟨k + 1, _, by omega, by go_num, ((KQ.and (K5.mono (fun _ h => h.elim))).and (Kept.alloc _ _ _)).and (KP.mono (fun g h => ?_)), ?_, HP.is (fun q _ => HMs.out q)⟩
              · rcases h with h | h
                · exact ⟨by omega, h.2⟩
                · exact ⟨by omega, by omega⟩
              · refine RQ.of_block ?_
                rw [KP.block w1.heap.size (by simp; omega) (by intro h; rcases h with h | h <;> omega)]
                exact ((Kept.alloc (fun _ => False) w5 _).block _ (by omega) (fun h => h)).trans (K5.block _ (by omega) (fun h => h))
            case measure => simp [intOf]; omega
        · obtain rfl : k = x.after.length := by omega
          go_wp2
          go_roundw
          case rel => exact ⟨i + 1, vs, by omega, by go_num, (K.and (KQo.mono (fun j h => h.1))), RQ, (HQ.widen (fun j hj g hg => (HQ.inS j hj g hg).1) (fun g h => by omega)).is (fun q _ => HA.out q)⟩
          case measure => simp [intOf]; omega
    · obtain rfl : i = ns.length := by omega
      go_wp2
      go_ret2
      exact ⟨w1.heap.size, vs, rfl, K0.out.size, R, H, Kw⟩

end Go.Proofs.YtoonnbagppliaaaDoor
