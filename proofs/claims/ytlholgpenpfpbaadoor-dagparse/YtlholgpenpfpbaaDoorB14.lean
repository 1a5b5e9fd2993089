/-
  The document's Parse.
-/
import Derived.Test.YtlholgpenpfpbaaDoorB12
import Derived.Test.YtlholgpenpfpbaaDoorB13
import Derived.Test.YtlholgpenpfpbaaDoorB09
import Derived.Test.YtlholgpenpfpbaaDoorB06
import Derived.Test.YtlholgpenpfpbaaDoorB08
import Derived.Deep.RegionHeld3
import Derived.Deep.QuietTactic
import Derived.BigQuiet
namespace Go.Proofs.YtlholgpenpfpbaaDoor
open Go.RowKit

/-- A node more. -/
theorem RLSt.pushN {w W w6 : World} {nm : ByteArray} {ns : List Nd} {ls : List Nat} {a aa a6 : Option Addr} {c ca c6 : Nat} {v3 : Value} {nd : Nd} {vs : List Value} {o : Obj} (T : RLSt w W nm ns ls a c v3) (h1 : ns.length = vs.length)
    (h2 : W.ownsRow (w.heap.size + 1) 44 7 (.slice a ns.length c) ns.length (flatN ns vs)) (h3 : ∀ i (h : i < ns.length) (h2 : i < vs.length), ∃ a c, vs[i] = .slice a (ns[i]).after.length c ∧ W.ownsRow (w.heap.size + 1) 9 1 (vs[i]) (ns[i]).after.length (strsV (ns[i]).after))
    (ha : W.ownsRow (w.heap.size + 1) 9 1 (.slice aa nd.after.length ca) nd.after.length (strsV nd.after)) (ho : w6.ownsRow (w.heap.size + 1) 44 7 (.slice a6 (ns.length + 1) c6) (ns.length + 1) (flatN ns vs ++ ndC nd (.slice aa nd.after.length ca))) (hg : (W.alloc o).grownBy w6 (Value.slice a ns.length c).ownBlock) :
    RLSt w (w6.setCell ⟨w.heap.size, 1, none⟩ (.slice a6 (ns.length + 1) c6)) nm (ns ++ [nd]) ls a6 c6 v3 := by
  have N6 := NodesRow.push h1 h2 h3 ha ho hg
  have hl := T.lt
  have b6 : w6.heap[w.heap.size]? = some (.cells #[.string nm, .slice a ns.length c] 26 (0, 0)) := by
    rw [hg.block w.heap.size (by simp; omega) (fun e => by have := (h2.lt _ e.symm).1; omega), Below.heap_alloc _ _ _ hl]
    exact T.d
  have KS : Kept (fun j => j = w.heap.size) w6 (w6.setCell ⟨w.heap.size, 1, none⟩ (.slice a6 (ns.length + 1) c6)) := Kept.setCell _ _ _ rfl
  have Kg : Kept (fun g => (Value.slice a ns.length c).ownBlock = some g) (W.alloc o) w6 := Kept.grown hg (fun g e => e)
  have l3 := ownsRow_keep (w' := w6) T.lines (fun g hg => by
    have hg5 := ownsRow_blk T.lines hg
    rw [Kg.block g (by simp; omega) (fun e => typ_ne T.lines h2 (by decide) hg e)]
    exact Below.heap_alloc _ _ _ hg5)
  have l4 := ownsRow_keep l3 (fun g hg => KS.block g (ownsRow_blk l3 hg) (by have := (l3.lt g hg).1; omega))
  refine ⟨?_, ?_, l4, ?_⟩
  · rw [List.length_append, List.length_singleton]
    simp [World.setCell, Array.getElem?_modify, b6]
  · rw [List.length_append, List.length_singleton]
    exact N6.kept KS (fun k hk _ => by omega)
  · exact ((T.kept.and (Kept.alloc _ _ _)).trans Kg (fun i h => .inr (by have := (h2.lt i h).1; omega))).trans KS (fun i h => .inr (by omega))

/-- A line more. -/
theorem RLSt.line {w W w9 : World} {nm : ByteArray} {ns : List Nd} {ls : List Nat} {a a3 a9 : Option Addr} {c c3 c9 line : Nat} {o : Obj} (T : RLSt w W nm ns ls a c (.slice a3 ls.length c3))
    (ho : w9.ownsRow (w.heap.size + 1) 3 1 (.slice a9 (ls.length + 1) c9) (ls.length + 1) (natsV ls ++ [.int .i64 (line : Nat)])) (hg : (W.alloc o).grownBy w9 (Value.slice a3 ls.length c3).ownBlock) :
    RLSt w w9 nm ns (ls ++ [line]) a c (.slice a9 (ls ++ [line]).length c9) := by
  have Kg : Kept (fun g => (Value.slice a3 ls.length c3).ownBlock = some g) W w9 := (Kept.alloc _ _ _).and (Kept.grown hg (fun g e => e))
  have hne : ∀ g, (Value.slice a3 ls.length c3).ownBlock = some g → w.heap.size + 1 ≤ g := fun g hg => (T.lines.lt g hg).1
  refine ⟨(Kg.block _ T.lt (fun e => by have := hne _ e; omega)).trans T.d, ?_, ?_, T.kept.trans Kg (fun i h => .inr (by have := hne i h; omega))⟩
  · obtain ⟨vs2, q1, q2, q3⟩ := T.rows
    refine ⟨vs2, q1, ownsRow_keep q2 (fun g hg => Kg.block g (ownsRow_blk q2 hg) (fun e => typ_ne q2 T.lines (by decide) hg e)), fun i hi hj => ?_⟩
    obtain ⟨aq, cq, e1, o⟩ := q3 i hi hj
    exact ⟨aq, cq, e1, ownsRow_keep o (fun g hg => Kg.block g (ownsRow_blk o hg) (fun e => typ_ne o T.lines (by decide) hg e))⟩
  · rw [List.length_append, List.length_singleton, show natsV (ls ++ [line]) = natsV ls ++ [.int .i64 (line : Nat)] by simp [natsV]]
    exact ho

theorem RLSt.pushB {w W w6 : World} {nm : ByteArray} {ns : List Nd} {ls : List Nat} {a : Option Addr} {c : Nat} {v3 : Value} {xs : List Value} {o : Obj} (T : RLSt w W nm ns ls a c v3)
    (h2 : W.ownsRow (w.heap.size + 1) 44 7 (.slice a ns.length c) ns.length xs) (hg : (W.alloc o).grownBy w6 (Value.slice a ns.length c).ownBlock) : w6.heap[w.heap.size]? = some (.cells #[.string nm, .slice a ns.length c] 26 (0, 0)) := by
  have hl := T.lt
  rw [hg.block w.heap.size (by simp; omega) (fun e => by have := (h2.lt _ e.symm).1; omega), Below.heap_alloc _ _ _ hl]
  exact T.d

theorem heap_alloc_set (w : World) (ad : Addr) (v : Value) (o : Obj) : ((w.setCell ad v).alloc o).heap[w.heap.size]? = some o := by
  have h := heap_alloc_new (w.setCell ad v) o
  simpa [World.setCell] using h

theorem sil_byte {x : ByteArray} (ws : List ByteArray) (h0 : 0 < x.size) : ((((x[0]'h0).toNat : Nat) : Int) == 35) = rSilent (x :: ws, false) := by
  have h := byte_is h0 35
  rw [get_at h0] at h
  show _ = (x.data.toList.headD 0 == 35)
  rw [first_byte h0]
  refine Eq.trans h ?_
  by_cases e : x[0] = 35 <;> simp [e]

theorem node_no8 {ws : List ByteArray} (h : nodeR ws = none) : (rNode (ws, false)).2.2 = true := by
  rw [node_same8] at h
  split at h
  · assumption
  · cases h

theorem node_yes8 {ws : List ByteArray} {nd : Nd} (h : nodeR ws = some nd) : (rNode (ws, false)).2.2 = false ∧ (rNode (ws, false)).1 = nd := by
  rw [node_same8] at h
  split at h
  · cases h
  · rename_i hb
    exact ⟨by simpa using hb, by simpa using h⟩

theorem head_no {ws : List ByteArray} (h : headR ws = none) : (rHead (ws, false)).2.2 = true := by
  rw [head_same] at h
  split at h
  · assumption
  · cases h

theorem head_yes {ws : List ByteArray} {y : ByteArray} (h : headR ws = some y) : (rHead (ws, false)).2.2 = false ∧ (rHead (ws, false)).1 = y := by
  rw [head_same] at h
  split at h
  · cases h
  · rename_i hb
    exact ⟨by simpa using hb, by simpa using h⟩

theorem line_at {w : World} {base : Nat} {a3 : Option Addr} {c3 m z : Nat} {ls : List Nat} (O : w.ownsRow base 3 1 (.slice a3 ls.length c3) ls.length (natsV ls)) (h : (natsV ls)[m]? = some (.int .i64 ((z : Nat) : Int))) :
    ∃ g, a3 = some ⟨g, 0, none⟩ ∧ base ≤ g ∧ w.cell? ⟨g, m, none⟩ = some (.int .i64 ((z : Nat) : Int)) := by
  have hm : m < (natsV ls).length := (List.getElem?_eq_some_iff.1 h).1
  rw [natsV_len] at hm
  have hlt := O.lt
  rcases O.2 with ⟨e, h0⟩ | ⟨g, cap, cur, e, _⟩
  · omega
  · simp only [Value.slice.injEq] at e
    obtain ⟨rfl, _, rfl⟩ := e
    refine ⟨g, rfl, (hlt g rfl).1, ?_⟩
    rw [O.cellAt m (by omega)]
    exact h

/-- The end: the result lies in its own block. -/
theorem retD {W V : World} {b : Nat} {u0 u1 v0 v1 : Value} {l z : Int} {tmps : Array Value} {R : Ending → World → Prop} (hr : W.heap[b]? = some (.cells #[u0, u1] 26 (0, 0)))
    (h2 : tmps.getD 2 undef = .pointer (some ⟨b, 0, none⟩)) (h3 : tmps.getD 3 undef = .int .i64 l) (h4 : tmps.getD 4 undef = .int .i64 z)
    (hV : V = (W.setCell ⟨b, 0, none⟩ v0).setCell ⟨b, 1, none⟩ v1)
    (hR : Kept (fun j => j = b) W V → R (.returned (.tuple #[.agg #[v0, v1], .int .i64 l, .int .i64 z])) V) : bodyPost Tryd.prog Tryd.f7 R .ret { tmps := tmps, defers := [] } V := by
  have g := put2 hr v0 v1
  have k : Kept (fun j => j = b) W ((W.setCell ⟨b, 0, none⟩ v0).setCell ⟨b, 1, none⟩ v1) := (Kept.setCell (S := fun j => j = b) W ⟨b, 0, none⟩ v0 rfl).and (Kept.setCell (S := fun j => j = b) _ ⟨b, 1, none⟩ v1 rfl)
  rw [← hV] at g k
  obtain ⟨⟨g0, g1⟩, _⟩ := twoC g
  refine bodyPost_ret ?_ rfl (hR k)
  rw [Array.getD_eq_getD_getElem?] at h2 h3 h4
  simp [results, go_sem, g0, g1, h2, h3, h4]
  try rfl

theorem parse_none {w V : World} {t : ByteArray} {l : Nat} {z : Int} {v : Value} (h : parseP t = (none, l, z)) (K : Kept (fun _ => False) w V) (hv : v = .tuple #[.agg #[.string ⟨#[]⟩, .slice none 0 0], .int .i64 (l : Nat), .int .i64 z]) : ParsePost w (parseP t) (.returned v) V := by
  subst hv
  rw [h]
  exact ⟨fun l z h => (by cases h; rfl), fun _ _ _ _ h => (by cases h), K⟩

theorem parse_bad {t : ByteArray} {l : Nat} (ht : t.size ≤ 16384) (h : rlP t = (none, l)) : parseP t = (none, l, 2) := by
  unfold parseP
  rw [if_neg (by omega), h]

set_option maxRecDepth 100000 in
set_option maxHeartbeats 8000000 in
theorem refParse_any (w : World) (t : ByteArray) (hsz : t.size ≤ 3000) :
    Calls Tryd.prog 7 #[.string t] w fun e w' => ParsePost w (parseP t) e w' := by
  obtain ⟨i0, hi0, hz0, hz1, hz2⟩ := info_parts Tryd.info3
  obtain ⟨j0, hj0, hy0, hy1, hy2⟩ := info_parts Tryd.info44
  obtain ⟨hf1, hf2⟩ := lines_few t
  have hLn := refLines_any (w.alloc (.cells #[.string ⟨#[]⟩, .slice none 0 0] 26)) t (by omega)
  have HP : Hid (rfK (linesP t) 1 false ⟨#[]⟩ [] [] = rlP t) := (rlP_fold t).symm
  have HB : Hid (∀ l, rlP t = (none, l) → parseP t = (none, l, 2)) := fun l h => parse_bad (by omega) h
  have HL : Hid (∀ l ∈ linesP t, l.size ≤ 3000) := fun l h => Nat.le_trans (hf2 l h) hsz
  have e1 : ¬ (16384 : Int) < (t.size : Int) := by omega
  have hLl : (linesP t).length ≤ 3000 := by omega
  clear hf1 hf2
  generalize hL : linesP t = L at *
  clear hL
  go_enter Tryd.func7, Tryd.ntmps7
  go_wp2_with (first
    | (go_at_call 15; refine hLn.mono ?_; rintro e w1 ⟨al, cl, rfl, O1, K1⟩; clear hLn; have hz1w := K1.size; rw [World.size_alloc] at hz1w; have HO1 : Hid (w1.ownsRow (w.alloc (.cells #[.string ⟨#[]⟩, .slice none 0 0] 26)).heap.size 9 1 (.slice al L.length cl) L.length (strsV L)) := O1; have HK1 : Hid (Kept (fun _ => False) w w1) := (Kept.alloc _ _ _).and K1; have HR1 : Hid (w1.heap[w.heap.size]? = some (.cells #[.string ⟨#[]⟩, .slice none 0 0] 26 (0, 0))) := (K1.block _ (by simp) (fun h => h)).trans (heap_alloc_new _ _); clear O1 K1)
    | fail)
  have HS : Hid (RLSt w1 (w1.alloc (.cells #[.string ⟨#[]⟩, .slice none 0 0] 26)) ⟨#[]⟩ [] [] none 0 (.slice none 0 0)) := rlstart w1
  have HTL : Hid (TextsAt w1 (.slice al L.length cl) L) := texts_of_row HO1.out (fun s h => Nat.le_trans (HL.out s h) (by decide))
  go_loopw [7, 8, 9] (fun v7 v8 v9 wr => ∃ (nm : ByteArray) (ns : List Nd) (ls : List Nat) (a a3 : Option Addr) (c c3 i : Nat) (b : Bool), v7 = .slice a3 ls.length c3 ∧ v8 = .bool b ∧ v9 = .int .i64 (i : Nat) ∧ i ≤ L.length ∧ RLSt w1 wr nm ns ls a c (.slice a3 ls.length c3) ∧ ns.length ≤ i ∧ ls.length ≤ i ∧ nm.size ≤ 3000 ∧ rfK (L.drop i) (i + 1) b nm ns ls = rlP t) (fun _ _ v9 _ => L.length - (intOf v9).toNat)
  case atStart => exact ⟨⟨#[]⟩, [], [], none, none, 0, 0, 0, false, rfl, rfl, rfl, Nat.zero_le _, HS.out, by simp, by simp, Nat.zero_le _, HP.out⟩
  case round =>
    obtain ⟨nm, ns, ls, a, a3, c, c3, i, b, rfl, rfl, rfl, hi, T, hn1, hn2, hnm, hK⟩ := hrel
    have HT : Hid (RLSt w1 wr nm ns ls a c (.slice a3 ls.length c3)) := T
    have hTl := T.lt
    obtain ⟨⟨d0, d1⟩, f0, f1⟩ := twoC T.d
    have HR : Hid (wr.heap[w.heap.size]? = some (.cells #[.string ⟨#[]⟩, .slice none 0 0] 26 (0, 0))) := (T.kept.block _ (by omega) (fun h => h)).trans HR1.out
    have HKr : Hid (Kept (fun _ => False) w wr) := HK1.out.and T.kept
    obtain ⟨⟨r0, r1⟩, z0, z1⟩ := twoC HR.out
    have hne : ¬ w.heap.size = w1.heap.size := by omega
    clear T HP HS
    by_cases hlt : i < L.length
    · have e2 : (i : Int) < (L.length : Int) := by omega
      have hsL := HL.out _ (List.getElem_mem hlt)
      rw [List.drop_eq_getElem_cons hlt, rfK] at hK
      obtain ⟨al', cl', ee, _, hcel⟩ := HTL.out.at
      obtain ⟨rfl, rfl⟩ : al = al' ∧ cl = cl' := by simpa using ee
      obtain ⟨bL, oL, rfl, hxL⟩ := hcel (by intro h; rw [h] at hlt; simp at hlt)
      have xl := keepC HT.out.kept (hxL i hlt) (fun _ _ h => h)
      have hwo := refWords_any wr L[i] (by omega)
      obtain ⟨hw1, hw2⟩ := words_ok L[i]
      have HWS : Hid (∀ x ∈ wordsP L[i], 0 < x.size ∧ x.size ≤ 3000) := fun x h => ⟨(hw2 x h).1, Nat.le_trans (hw2 x h).2 hsL⟩
      have hwl : (wordsP L[i]).length ≤ 3000 := Nat.le_trans hw1 hsL
      clear hw1 hw2 hsL hxL hcel ee
      generalize wordsP L[i] = ws at *
      generalize L[i] = sx at *
      cases ws with
      | nil =>
        have HKP : Hid (rfK (L.drop (i + 1)) (i + 1 + 1) b nm ns ls = rlP t) := by show _ = _; simpa [rSilent] using hK
        clear hK
        go_wp2_with (first
          | (go_at_call 16; (refine hwo.mono ?_; rintro e w2 ⟨a2, c2, rfl, O2, K2⟩; clear hwo; have HT2 : Hid (RLSt w1 w2 nm ns ls a c (.slice a3 ls.length c3)) := HT.out.later K2 (fun _ _ h => h); have hz2w := K2.size; have HK2 : Hid (Kept (fun _ => False) w w2) := HKr.out.and K2; have HR2 : Hid (w2.heap[w.heap.size]? = some (.cells #[.string ⟨#[]⟩, .slice none 0 0] 26 (0, 0))) := (K2.block _ (by omega) (fun h => h)).trans HR.out; obtain ⟨⟨s0, s1⟩, t0, t1⟩ := twoC HR2.out; obtain ⟨⟨m0, m1⟩, l0, l1⟩ := twoC HT2.out.d; clear r0 r1 z0 z1 d0 d1 f0 f1 K2))
          | fail)
        go_roundw
        case rel => exact ⟨nm, ns, ls, a, a3, c, c3, i + 1, b, rfl, rfl, by go_num, by omega, HT2.out, by omega, by omega, hnm, HKP.out⟩
        case measure => simp [intOf]; omega
      | cons x wt =>
        have h0 : 0 < x.size := (HWS.out x (by simp)).1
        have hix : ∀ W, (Instr.index 9 (.string x) (.int .i64 0)).run Tryd.prog W = .ok (.int .u8 (((x[0]'h0).toNat : Nat) : Int)) W := fun W => by
          rw [run_index_string W _ _ _ _ Tryd.underlying9]
          rw [dif_pos ⟨by omega, by omega⟩]
          simp
        have hsb := sil_byte wt h0
        have hl1 : (((x :: wt).length : Int) == 0) = false := by simp <;> omega
        have hl2 : (0 : Int) < (((x :: wt).length : Nat) : Int) := by simp only [List.length_cons]; omega
        cases hsl : rSilent (x :: wt, false) with
        | true =>
          rw [hsl] at hsb hK
          have HKP : Hid (rfK (L.drop (i + 1)) (i + 1 + 1) b nm ns ls = rlP t) := by show _ = _; rw [if_pos rfl] at hK; exact hK
          clear hK hsl
          generalize (((x[0]'h0).toNat : Nat) : Int) = xb at *
          go_wp2_with (first
            | (go_at_call 16; (refine hwo.mono ?_; rintro e w2 ⟨a2, c2, rfl, O2, K2⟩; clear hwo; have HT2 : Hid (RLSt w1 w2 nm ns ls a c (.slice a3 ls.length c3)) := HT.out.later K2 (fun _ _ h => h); have hz2w := K2.size; have HK2 : Hid (Kept (fun _ => False) w w2) := HKr.out.and K2; have HR2 : Hid (w2.heap[w.heap.size]? = some (.cells #[.string ⟨#[]⟩, .slice none 0 0] 26 (0, 0))) := (K2.block _ (by omega) (fun h => h)).trans HR.out; obtain ⟨⟨s0, s1⟩, t0, t1⟩ := twoC HR2.out; obtain ⟨⟨m0, m1⟩, l0, l1⟩ := twoC HT2.out.d; clear r0 r1 z0 z1 d0 d1 f0 f1 K2; have HX : Hid (TextsAt w2 (.slice a2 (x :: wt).length c2) (x :: wt)) := texts_of_row O2 (fun s h => Nat.le_trans (HWS.out s h).2 (by decide)); obtain ⟨b2, o2, rfl, hcc, hx2⟩ := HX.out.one; have x0 := hx2 0 (by simp); simp only [List.getElem_cons_zero, Nat.add_zero] at x0; skip; clear hx2 O2))
            | fail)
          go_roundw
          case rel => exact ⟨nm, ns, ls, a, a3, c, c3, i + 1, b, rfl, rfl, by go_num, by omega, HT2.out, by omega, by omega, hnm, HKP.out⟩
          case measure => simp [intOf]; omega
        | false =>
          rw [hsl] at hsb hK
          simp only [Bool.false_eq_true, if_false] at hK
          clear hsl
          generalize (((x[0]'h0).toNat : Nat) : Int) = xb at *
          cases b with
          | false =>
            rw [if_pos rfl] at hK
            have bad : headR (x :: wt) = none → (none, i + 1) = rlP t := fun h => by rw [if_pos (head_no h)] at hK; exact hK
            match wt, hK, bad, hwo, HWS, hwl, hl1, hl2 with
            | [], hK, bad, hwo, HWS, hwl, hl1, hl2 =>
              have HKP : Hid ((none, i + 1) = rlP t) := bad rfl
              have hl3 : ((([x] : List ByteArray).length : Int) != 2) = true := rfl
              clear hK bad
              go_wp2_with (first
                | (go_at_call 16; (refine hwo.mono ?_; rintro e w2 ⟨a2, c2, rfl, O2, K2⟩; clear hwo; have HT2 : Hid (RLSt w1 w2 nm ns ls a c (.slice a3 ls.length c3)) := HT.out.later K2 (fun _ _ h => h); have hz2w := K2.size; have HK2 : Hid (Kept (fun _ => False) w w2) := HKr.out.and K2; have HR2 : Hid (w2.heap[w.heap.size]? = some (.cells #[.string ⟨#[]⟩, .slice none 0 0] 26 (0, 0))) := (K2.block _ (by omega) (fun h => h)).trans HR.out; obtain ⟨⟨s0, s1⟩, t0, t1⟩ := twoC HR2.out; obtain ⟨⟨m0, m1⟩, l0, l1⟩ := twoC HT2.out.d; clear r0 r1 z0 z1 d0 d1 f0 f1 K2; have HX : Hid (TextsAt w2 (.slice a2 ([x]).length c2) ([x])) := texts_of_row O2 (fun s h => Nat.le_trans (HWS.out s h).2 (by decide)); obtain ⟨b2, o2, rfl, hcc, hx2⟩ := HX.out.one; have x0 := hx2 0 (by simp); simp only [List.getElem_cons_zero, Nat.add_zero] at x0; skip; clear hx2 O2))
                | fail)
              exact retD HR2.out rfl rfl rfl rfl (fun k => parse_none (HB.out _ HKP.out.symm) (HK2.out.trans k (fun j h => .inr (by omega))) (by first | rfl | simp))
            | y :: z :: r, hK, bad, hwo, HWS, hwl, hl1, hl2 =>
              have HKP : Hid ((none, i + 1) = rlP t) := bad rfl
              have hl3 : (((x :: y :: z :: r).length : Int) != 2) = true := by simp <;> omega
              have hl4 : (((x :: y :: z :: r).length : Int) == 2) = false := by simp <;> omega
              clear hK bad
              go_wp2_with (first
                | (go_at_call 16; (refine hwo.mono ?_; rintro e w2 ⟨a2, c2, rfl, O2, K2⟩; clear hwo; have HT2 : Hid (RLSt w1 w2 nm ns ls a c (.slice a3 ls.length c3)) := HT.out.later K2 (fun _ _ h => h); have hz2w := K2.size; have HK2 : Hid (Kept (fun _ => False) w w2) := HKr.out.and K2; have HR2 : Hid (w2.heap[w.heap.size]? = some (.cells #[.string ⟨#[]⟩, .slice none 0 0] 26 (0, 0))) := (K2.block _ (by omega) (fun h => h)).trans HR.out; obtain ⟨⟨s0, s1⟩, t0, t1⟩ := twoC HR2.out; obtain ⟨⟨m0, m1⟩, l0, l1⟩ := twoC HT2.out.d; clear r0 r1 z0 z1 d0 d1 f0 f1 K2; have HX : Hid (TextsAt w2 (.slice a2 (x :: y :: z :: r).length c2) (x :: y :: z :: r)) := texts_of_row O2 (fun s h => Nat.le_trans (HWS.out s h).2 (by decide)); obtain ⟨b2, o2, rfl, hcc, hx2⟩ := HX.out.one; have x0 := hx2 0 (by simp); simp only [List.getElem_cons_zero, Nat.add_zero] at x0; skip; clear hx2 O2))
                | fail)
              exact retD HR2.out rfl rfl rfl rfl (fun k => parse_none (HB.out _ HKP.out.symm) (HK2.out.trans k (fun j h => .inr (by omega))) (by first | rfl | simp))
            | [y], hK, bad, hwo, HWS, hwl, hl1, hl2 =>
              have hN := fun V => refName_any V y (Nat.le_trans (HWS.out y (by simp)).2 (by decide))
              have hl3 : ((([x, y] : List ByteArray).length : Int) == 2) = true := rfl
              have hl5 : (1 : Int) < ((([x, y] : List ByteArray).length : Nat) : Int) := by simp
              have hy3 := (HWS.out y (by simp)).2
              by_cases hx : x = wfB
              · have hse : (x.toList == [119, 111, 114, 107, 102, 108, 111, 119]) = true := by rw [str_lit]; exact decide_eq_true hx
                cases hny : nameP y with
                | false =>
                  have HKP : Hid ((none, i + 1) = rlP t) := bad (by simp [headR, hny])
                  rw [hny] at hN
                  clear hK bad hx hny
                  go_wp2_with (first
                    | (go_at_call 16; (refine hwo.mono ?_; rintro e w2 ⟨a2, c2, rfl, O2, K2⟩; clear hwo; have HT2 : Hid (RLSt w1 w2 nm ns ls a c (.slice a3 ls.length c3)) := HT.out.later K2 (fun _ _ h => h); have hz2w := K2.size; have HK2 : Hid (Kept (fun _ => False) w w2) := HKr.out.and K2; have HR2 : Hid (w2.heap[w.heap.size]? = some (.cells #[.string ⟨#[]⟩, .slice none 0 0] 26 (0, 0))) := (K2.block _ (by omega) (fun h => h)).trans HR.out; obtain ⟨⟨s0, s1⟩, t0, t1⟩ := twoC HR2.out; obtain ⟨⟨m0, m1⟩, l0, l1⟩ := twoC HT2.out.d; clear r0 r1 z0 z1 d0 d1 f0 f1 K2; have HX : Hid (TextsAt w2 (.slice a2 ([x, y]).length c2) ([x, y])) := texts_of_row O2 (fun s h => Nat.le_trans (HWS.out s h).2 (by decide)); obtain ⟨b2, o2, rfl, hcc, hx2⟩ := HX.out.one; have x0 := hx2 0 (by simp); simp only [List.getElem_cons_zero, Nat.add_zero] at x0; have y0 := hx2 1 (by simp); simp only [List.getElem_cons_succ, List.getElem_cons_zero] at y0; clear hx2 O2))
                    | (go_at_call 17; refine (hN _).mono ?_; rintro e w4 ⟨rfl, hw⟩; subst w4; clear hN)
                    | fail)
                  exact retD HR2.out rfl rfl rfl rfl (fun k => parse_none (HB.out _ HKP.out.symm) (HK2.out.trans k (fun j h => .inr (by omega))) (by first | rfl | simp))
                | true =>
                  have hh : headR [x, y] = some y := by simp [headR, hx, hny]
                  have HKP : Hid (rfK (L.drop (i + 1)) (i + 1 + 1) true y ns ls = rlP t) := by
                    show _ = _
                    rw [if_neg (by rw [(head_yes hh).1]; simp), (head_yes hh).2] at hK
                    exact hK
                  rw [hny] at hN
                  clear hK bad hx hny hh
                  go_wp2_with (first
                    | (go_at_call 16; (refine hwo.mono ?_; rintro e w2 ⟨a2, c2, rfl, O2, K2⟩; clear hwo; have HT2 : Hid (RLSt w1 w2 nm ns ls a c (.slice a3 ls.length c3)) := HT.out.later K2 (fun _ _ h => h); have hz2w := K2.size; have HK2 : Hid (Kept (fun _ => False) w w2) := HKr.out.and K2; have HR2 : Hid (w2.heap[w.heap.size]? = some (.cells #[.string ⟨#[]⟩, .slice none 0 0] 26 (0, 0))) := (K2.block _ (by omega) (fun h => h)).trans HR.out; obtain ⟨⟨s0, s1⟩, t0, t1⟩ := twoC HR2.out; obtain ⟨⟨m0, m1⟩, l0, l1⟩ := twoC HT2.out.d; clear r0 r1 z0 z1 d0 d1 f0 f1 K2; have HX : Hid (TextsAt w2 (.slice a2 ([x, y]).length c2) ([x, y])) := texts_of_row O2 (fun s h => Nat.le_trans (HWS.out s h).2 (by decide)); obtain ⟨b2, o2, rfl, hcc, hx2⟩ := HX.out.one; have x0 := hx2 0 (by simp); simp only [List.getElem_cons_zero, Nat.add_zero] at x0; have y0 := hx2 1 (by simp); simp only [List.getElem_cons_succ, List.getElem_cons_zero] at y0; clear hx2 O2))
                    | (go_at_call 17; refine (hN _).mono ?_; rintro e w4 ⟨rfl, hw⟩; subst w4; clear hN)
                    | fail)
                  go_roundw
                  case rel => exact ⟨y, ns, ls, a, a3, c, c3, i + 1, true, rfl, rfl, by go_num, by omega, HT2.out.name y, by omega, by omega, hy3, HKP.out⟩
                  case measure => simp [intOf]; omega
              · have hse : (x.toList == [119, 111, 114, 107, 102, 108, 111, 119]) = false := by rw [str_lit]; exact decide_eq_false hx
                have HKP : Hid ((none, i + 1) = rlP t) := bad (by simp [headR, hx])
                clear hK bad hx
                go_wp2_with (first
                  | (go_at_call 16; (refine hwo.mono ?_; rintro e w2 ⟨a2, c2, rfl, O2, K2⟩; clear hwo; have HT2 : Hid (RLSt w1 w2 nm ns ls a c (.slice a3 ls.length c3)) := HT.out.later K2 (fun _ _ h => h); have hz2w := K2.size; have HK2 : Hid (Kept (fun _ => False) w w2) := HKr.out.and K2; have HR2 : Hid (w2.heap[w.heap.size]? = some (.cells #[.string ⟨#[]⟩, .slice none 0 0] 26 (0, 0))) := (K2.block _ (by omega) (fun h => h)).trans HR.out; obtain ⟨⟨s0, s1⟩, t0, t1⟩ := twoC HR2.out; obtain ⟨⟨m0, m1⟩, l0, l1⟩ := twoC HT2.out.d; clear r0 r1 z0 z1 d0 d1 f0 f1 K2; have HX : Hid (TextsAt w2 (.slice a2 ([x, y]).length c2) ([x, y])) := texts_of_row O2 (fun s h => Nat.le_trans (HWS.out s h).2 (by decide)); obtain ⟨b2, o2, rfl, hcc, hx2⟩ := HX.out.one; have x0 := hx2 0 (by simp); simp only [List.getElem_cons_zero, Nat.add_zero] at x0; have y0 := hx2 1 (by simp); simp only [List.getElem_cons_succ, List.getElem_cons_zero] at y0; clear hx2 O2))
                  | fail)
                exact retD HR2.out rfl rfl rfl rfl (fun k => parse_none (HB.out _ HKP.out.symm) (HK2.out.trans k (fun j h => .inr (by omega))) (by first | rfl | simp))
          | true =>
            rw [if_neg (by simp)] at hK
            cases hno : nodeR (x :: wt) with
            | none =>
              have HKP : Hid ((none, i + 1) = rlP t) := by show _ = _; rw [if_pos (node_no8 hno)] at hK; exact hK
              have HNO : Hid (nodeR (x :: wt) = none) := hno
              clear hK hno
              go_wp2_with (first
                | (go_at_call 16; (refine hwo.mono ?_; rintro e w2 ⟨a2, c2, rfl, O2, K2⟩; clear hwo; have HT2 : Hid (RLSt w1 w2 nm ns ls a c (.slice a3 ls.length c3)) := HT.out.later K2 (fun _ _ h => h); have hz2w := K2.size; have HK2 : Hid (Kept (fun _ => False) w w2) := HKr.out.and K2; have HR2 : Hid (w2.heap[w.heap.size]? = some (.cells #[.string ⟨#[]⟩, .slice none 0 0] 26 (0, 0))) := (K2.block _ (by omega) (fun h => h)).trans HR.out; obtain ⟨⟨s0, s1⟩, t0, t1⟩ := twoC HR2.out; obtain ⟨⟨m0, m1⟩, l0, l1⟩ := twoC HT2.out.d; clear r0 r1 z0 z1 d0 d1 f0 f1 K2; have HX : Hid (TextsAt w2 (.slice a2 (x :: wt).length c2) (x :: wt)) := texts_of_row O2 (fun s h => Nat.le_trans (HWS.out s h).2 (by decide)); obtain ⟨b2, o2, rfl, hcc, hx2⟩ := HX.out.one; have x0 := hx2 0 (by simp); simp only [List.getElem_cons_zero, Nat.add_zero] at x0; skip; clear hx2 O2))
                | (go_at_call 18; (refine (refNode8_any w2 _ _ (x :: wt) HX.out (fun s h => by have := (HWS.out s h).2; omega) (by omega)).mono ?_; rw [HNO.out]; rintro e w5 ⟨K5, rfl⟩; have hz5w := K5.size; have b5 : (w5.alloc (.cells #[.string ⟨#[]⟩, .int .i64 0, .string ⟨#[]⟩, .string ⟨#[]⟩, .int .i64 0, .int .i64 0, .slice none 0 0] 44)).heap[w.heap.size]? = some (.cells #[.string ⟨#[]⟩, .slice none 0 0] 26 (0, 0)) := (by rw [Below.heap_alloc _ _ _ (by omega)]; exact (K5.block _ (by omega) (fun h => h)).trans HR2.out); have HR5 : Hid ((w5.alloc (.cells #[.string ⟨#[]⟩, .int .i64 0, .string ⟨#[]⟩, .string ⟨#[]⟩, .int .i64 0, .int .i64 0, .slice none 0 0] 44)).heap[w.heap.size]? = some (.cells #[.string ⟨#[]⟩, .slice none 0 0] 26 (0, 0))) := b5; obtain ⟨⟨p0, p1⟩, q0, q1⟩ := twoC b5; have HK5 : Hid (Kept (fun _ => False) w (w5.alloc (.cells #[.string ⟨#[]⟩, .int .i64 0, .string ⟨#[]⟩, .string ⟨#[]⟩, .int .i64 0, .int .i64 0, .slice none 0 0] 44))) := (HK2.out.and K5).and (Kept.alloc _ _ _); clear K5 b5))
                | fail)
              exact retD HR5.out rfl rfl rfl rfl (fun k => parse_none (HB.out _ HKP.out.symm) (HK5.out.trans k (fun j h => .inr (by omega))) (by first | rfl | simp))
            | some nd =>
              have HKP : Hid (rfK (L.drop (i + 1)) (i + 1 + 1) true nm (ns ++ [nd]) (ls ++ [i + 1]) = rlP t) := by
                show _ = _
                rw [if_neg (by rw [(node_yes8 hno).1]; simp), (node_yes8 hno).2] at hK
                exact hK
              have HNO : Hid (nodeR (x :: wt) = some nd) := hno
              have HC : Hid (∀ u ∈ [Value.int .i64 ((i : Int) + 1)], u.oneCell' = true) := fun u h => by simp at h; subst h; rfl
              clear hK hno
              go_wp2_with (first
                | (go_at_call 16; (refine hwo.mono ?_; rintro e w2 ⟨a2, c2, rfl, O2, K2⟩; clear hwo; have HT2 : Hid (RLSt w1 w2 nm ns ls a c (.slice a3 ls.length c3)) := HT.out.later K2 (fun _ _ h => h); have hz2w := K2.size; have HK2 : Hid (Kept (fun _ => False) w w2) := HKr.out.and K2; have HR2 : Hid (w2.heap[w.heap.size]? = some (.cells #[.string ⟨#[]⟩, .slice none 0 0] 26 (0, 0))) := (K2.block _ (by omega) (fun h => h)).trans HR.out; obtain ⟨⟨s0, s1⟩, t0, t1⟩ := twoC HR2.out; obtain ⟨⟨m0, m1⟩, l0, l1⟩ := twoC HT2.out.d; clear r0 r1 z0 z1 d0 d1 f0 f1 K2; have HX : Hid (TextsAt w2 (.slice a2 (x :: wt).length c2) (x :: wt)) := texts_of_row O2 (fun s h => Nat.le_trans (HWS.out s h).2 (by decide)); obtain ⟨b2, o2, rfl, hcc, hx2⟩ := HX.out.one; have x0 := hx2 0 (by simp); simp only [List.getElem_cons_zero, Nat.add_zero] at x0; skip; clear hx2 O2))
                | (go_at_call 18; (refine (refNode8_any w2 _ _ (x :: wt) HX.out (fun s h => by have := (HWS.out s h).2; omega) (by omega)).mono ?_; rw [HNO.out]; rintro e w5 ⟨K5, aa, ca, rfl, O5⟩; have hz5w := K5.size; have HT5 : Hid (RLSt w1 (w5.alloc (.cells #[.string nd.name, .int .i64 nd.kind, .string nd.arg, .string nd.to, .int .i64 nd.delay, .int .i64 nd.tries, .slice aa nd.after.length ca] 44)) nm ns ls a c (.slice a3 ls.length c3)) := (HT2.out.later K5 (fun _ _ h => h)).later (Kept.alloc (fun _ => False) _ _) (fun _ _ h => h); obtain ⟨⟨p0, p1⟩, q0, q1⟩ := twoC HT5.out.d; obtain ⟨vs, hv1, hv2, hv3⟩ := HT5.out.rows; have HV1 : Hid (ns.length = vs.length) := hv1; have HV2 : Hid ((w5.alloc (.cells #[.string nd.name, .int .i64 nd.kind, .string nd.arg, .string nd.to, .int .i64 nd.delay, .int .i64 nd.tries, .slice aa nd.after.length ca] 44)).ownsRow (w1.heap.size + 1) 44 7 (.slice a ns.length c) ns.length (flatN ns vs)) := hv2; have HV3 : Hid _ := hv3; have HO5 : Hid ((w5.alloc (.cells #[.string nd.name, .int .i64 nd.kind, .string nd.arg, .string nd.to, .int .i64 nd.delay, .int .i64 nd.tries, .slice aa nd.after.length ca] 44)).ownsRow (w1.heap.size + 1) 9 1 (.slice aa nd.after.length ca) nd.after.length (strsV nd.after)) := (ownsRow_lowS O5 (by omega)).alloc _; clear hv1 hv2 hv3 K5 O5))
                | (at_builtin; (refine wpList_append_src _ rfl _ _ 24 rfl (w1.heap.size + 1) 44 j0 _ 7 96 Tryd.underlying24 hj0 hy0 hy1 hy2 rfl (by decide) (.slice a ns.length c) ns.length _ rfl (HV2.out.alloc _) _ rfl 1 _ (.inl ⟨_, 1, rfl, rfl, World.news_of_block (heap_alloc_new2 _ _ _)⟩) (ndC_one nd aa _ ca) (by unfold maxLen; omega) (by omega) (by simp; omega) ?_; intro a6 c6 w6 ho6 hg6 _ hl6; have b6 := HT5.out.pushB HV2.out hg6; obtain ⟨⟨g0, g1⟩, v0, v1⟩ := twoC b6; have HT6 : Hid (RLSt w1 (w6.setCell ⟨w1.heap.size, 1, none⟩ (.slice a6 (ns.length + 1) c6)) nm (ns ++ [nd]) ls a6 c6 (.slice a3 ls.length c3)) := HT5.out.pushN HV1.out HV2.out HV3.out HO5.out ho6 hg6; have hz6w := HT6.out.lt; clear ho6 hg6 b6 hl6))
                | (at_builtin; (refine wpList_append_src _ rfl _ _ 38 rfl (w1.heap.size + 1) 3 i0 _ 1 8 Tryd.underlying38 hi0 hz0 hz1 hz2 rfl (by decide) (.slice a3 ls.length c3) ls.length _ rfl (HT6.out.lines.alloc _) _ rfl 1 _ (.inl ⟨_, 1, rfl, rfl, World.news_of_block (heap_alloc_set _ _ _ _)⟩) HC.out (by unfold maxLen; omega) (by omega) (by simp at hz6w ⊢; omega) ?_; intro a9 c9 w9 ho9 hg9 _ hl9; have HT9 : Hid (RLSt w1 w9 nm (ns ++ [nd]) (ls ++ [i + 1]) a6 c6 (.slice a9 (ls ++ [i + 1]).length c9)) := HT6.out.line (by rw [show (((i + 1 : Nat)) : Int) = (i : Int) + 1 by omega]; exact ho9) hg9; clear ho9 hg9 hl9))
                | fail)
              go_roundw
              case rel => exact ⟨nm, ns ++ [nd], ls ++ [i + 1], a6, a9, c6, c9, i + 1, true, by simp, rfl, by go_num, by omega, HT9.out, by simp; omega, by simp; omega, hnm, HKP.out⟩
              case measure => simp [intOf]; omega
    · obtain rfl : i = L.length := by omega
      have e2 : ¬ (L.length : Int) < (L.length : Int) := by omega
      rw [List.drop_length, rfK] at hK
      cases b with
      | false =>
        have HKP : Hid ((none, L.length + 1) = rlP t) := by show _ = _; simpa using hK
        clear hK
        go_wp2_with fail
        exact retD HR.out rfl rfl rfl rfl (fun k => parse_none (HB.out _ HKP.out.symm) (HKr.out.trans k (fun j h => .inr (by omega))) (by first | rfl | simp))
      | true =>
        have hr : rlP t = (some (nm, ns, ls), 0) := by simpa using hK.symm
        have hfine := rl_fine _ _ _ _ _ _ _ (by omega) (fun n h => by simp at h) rfl _ _ _ _ hr
        have HFi : Hid (∀ n ∈ ns, NdFine n) := hfine.1
        have hLen : ns.length = ls.length := hfine.2.1
        have hC := refCheck_any wr nm a c ns (HT.out.rows.at hfine.1) (by omega) (fun n h => (hfine.1 n h).1.few) (Nat.le_trans hnm (by decide))
        have HPQ : Hid (parseP t = if (checkP nm ns).2 = 0 then (some (nm, ns), 0, 0) else (none, if 0 ≤ (checkP nm ns).1 then ls.getD (checkP nm ns).1.toNat 0 else 0, (checkP nm ns).2)) := by
          show _ = _
          unfold parseP
          rw [if_neg (by omega), hr]
        have hidx := checkP_lt nm ns
        have HCap : Hid (ns.length ≤ c) := by
          obtain ⟨vs, _, h2, _⟩ := HT.out.rows
          rcases h2.2 with ⟨e, h0⟩ | ⟨g, cap, cur, e, _, _, h1, _⟩
          · rw [h0]; exact Nat.zero_le _
          · simp only [Value.slice.injEq] at e; exact (by omega : ns.length ≤ c)
        have HLn : Hid (ns.length = ls.length) := hLen
        have hll : ls.length ≤ 3000 := by omega
        clear hK hfine hr hLen
        generalize (checkP nm ns).1 = kk at *
        generalize (checkP nm ns).2 = ee at *
        by_cases hee : ee = 0
        · subst hee
          have HPR : Hid (parseP t = (some (nm, ns), 0, 0)) := by show _ = _; rw [HPQ.out, if_pos rfl]
          clear HPQ hidx
          go_wp2_with (first
            | (go_at_call 19; (refine hC.mono ?_; rintro e w3 ⟨rfl, K3⟩; clear hC; have HT3 : Hid (RLSt w1 w3 nm ns ls a c (.slice a3 ls.length c3)) := HT.out.later K3 (fun _ _ h => h); have HK3 : Hid (Kept (fun _ => False) w w3) := HKr.out.and K3; have HR3 : Hid (w3.heap[w.heap.size]? = some (.cells #[.string ⟨#[]⟩, .slice none 0 0] 26 (0, 0))) := (K3.block _ (by omega) (fun h => h)).trans HR.out; obtain ⟨⟨s0, s1⟩, t0, t1⟩ := twoC HR3.out; obtain ⟨⟨m0, m1⟩, l0, l1⟩ := twoC HT3.out.d; clear K3 r0 r1 z0 z1 d0 d1 f0 f1))
            | fail)
          refine retD HR3.out rfl rfl rfl rfl (fun k => ?_)
          rw [HPR.out]
          refine ⟨fun _ _ h => (by cases h), fun nm' ns' l z h => ?_, HK3.out.trans k (fun j h => .inr (by omega))⟩
          cases h
          exact ⟨a, c, rfl, (HT3.out.rows.kept k (fun j hj _ => by omega)).at HFi.out, HCap.out⟩
        · have hee2 : (ee == 0) = false := by simpa using hee
          by_cases hkk : kk < 0
          · have HPR : Hid (parseP t = (none, 0, ee)) := by show _ = _; rw [HPQ.out, if_neg hee, if_neg (by omega)]
            clear HPQ hidx hee
            go_wp2_with (first
              | (go_at_call 19; (refine hC.mono ?_; rintro e w3 ⟨rfl, K3⟩; clear hC; have HT3 : Hid (RLSt w1 w3 nm ns ls a c (.slice a3 ls.length c3)) := HT.out.later K3 (fun _ _ h => h); have HK3 : Hid (Kept (fun _ => False) w w3) := HKr.out.and K3; have HR3 : Hid (w3.heap[w.heap.size]? = some (.cells #[.string ⟨#[]⟩, .slice none 0 0] 26 (0, 0))) := (K3.block _ (by omega) (fun h => h)).trans HR.out; obtain ⟨⟨s0, s1⟩, t0, t1⟩ := twoC HR3.out; obtain ⟨⟨m0, m1⟩, l0, l1⟩ := twoC HT3.out.d; clear K3 r0 r1 z0 z1 d0 d1 f0 f1))
              | fail)
            exact retD HR3.out rfl rfl rfl rfl (fun k => parse_none HPR.out (HK3.out.trans k (fun j h => .inr (by omega))) (by first | rfl | simp))
          · have hi2 := hidx (by omega)
            obtain ⟨m, rfl⟩ : ∃ m : Nat, kk = (m : Int) := ⟨kk.toNat, by omega⟩
            rw [Int.toNat_natCast] at hi2
            have HPR : Hid (parseP t = (none, ls.getD m 0, ee)) := by show _ = _; rw [HPQ.out, if_neg hee, if_pos (by omega), Int.toNat_natCast]
            have hmm : m < ls.length := by have := HLn.out; omega
            have HGD : Hid ((natsV ls)[m]? = some (.int .i64 ((ls.getD m 0 : Nat) : Int))) := by
              show _ = _
              simp [natsV, List.getD_eq_getElem?_getD, hmm]
            generalize ls.getD m 0 = lm at *
            clear HPQ hidx hee
            go_wp2_with (first
              | (go_at_call 19; (refine hC.mono ?_; rintro e w3 ⟨rfl, K3⟩; clear hC; have HT3 : Hid (RLSt w1 w3 nm ns ls a c (.slice a3 ls.length c3)) := HT.out.later K3 (fun _ _ h => h); have HK3 : Hid (Kept (fun _ => False) w w3) := HKr.out.and K3; have HR3 : Hid (w3.heap[w.heap.size]? = some (.cells #[.string ⟨#[]⟩, .slice none 0 0] 26 (0, 0))) := (K3.block _ (by omega) (fun h => h)).trans HR.out; obtain ⟨⟨s0, s1⟩, t0, t1⟩ := twoC HR3.out; obtain ⟨⟨m0, m1⟩, l0, l1⟩ := twoC HT3.out.d; clear K3 r0 r1 z0 z1 d0 d1 f0 f1))
              | fail)
            obtain ⟨g, rfl, hg, xg⟩ := line_at HT3.out.lines HGD.out
            refine wp_onlyN (rp28 _ HR3.out xg (by omega) hmm (by omega) ?_)
            intro k105 k106 k107 k108 k109 k110 W' hb' K'
            have HBP : Hid _ := hb'
            have HKP : Hid (Kept (fun _ => False) w3 W') := K'
            obtain ⟨⟨y0, y1⟩, y2, y3⟩ := twoC hb'
            clear hb' K' s0 s1 t0 t1 m0 m1 l0 l1 xg
            dsimp only
            go_wp2_with fail
            exact retD HBP.out rfl rfl rfl rfl (fun k => parse_none HPR.out ((HK3.out.and HKP.out).trans k (fun j h => .inr (by omega))) (by first | rfl | simp))

end Go.Proofs.YtlholgpenpfpbaaDoor

/-
  The law's own comparing: texts, nodes, definitions that are the same.
-/
namespace Go.Proofs.YtlholgpenpfpbaaDoor
open Go.RowKit

set_option maxRecDepth 100000 in
set_option maxHeartbeats 2000000 in
theorem texts_same (w : World) (a1 a2 : Option Addr) (c1 c2 : Nat) (l : List ByteArray) (h1 : TextsAt w (.slice a1 l.length c1) l) (h2 : TextsAt w (.slice a2 l.length c2) l) (hl : l.length ≤ 1000000) :
    Calls Tryd.prog 43 #[.slice a1 l.length c1, .slice a2 l.length c2] w fun e w' => e = .returned (.bool true) ∧ Kept (fun _ => False) w w' := by
  have H1 : Hid (TextsAt w (.slice a1 l.length c1) l) := h1
  have H2 : Hid (TextsAt w (.slice a2 l.length c2) l) := h2
  clear h1 h2
  have e0 : ((l.length : Int) != (l.length : Int)) = false := by simp
  go_enter Tryd.func43, Tryd.ntmps43
  go_wp2_with fail
  go_loopw [5] (fun q wr => ∃ (k : Nat), k ≤ l.length ∧ q = .int .i64 k ∧ Kept (fun _ => False) w wr) (fun q _ => l.length - (intOf q).toNat)
  case atStart => exact ⟨0, Nat.zero_le _, rfl, Kept.refl _ _⟩
  case round =>
    obtain ⟨k, hk, rfl, K⟩ := hrel
    by_cases hlk : k < l.length
    · have e1 : (k : Int) < (l.length : Int) := by omega
      obtain ⟨b1, d1, s1, _, n1⟩ := (H1.out.kept K (fun _ _ h => h)).at
      obtain ⟨rfl, rfl⟩ : a1 = b1 ∧ c1 = d1 := by simpa using s1
      obtain ⟨b2, d2, s2, _, n2⟩ := (H2.out.kept K (fun _ _ h => h)).at
      obtain ⟨rfl, rfl⟩ : a2 = b2 ∧ c2 = d2 := by simpa using s2
      obtain ⟨xb, xo, rfl, hx⟩ := n1 (fun e => by rw [e] at hlk; simp at hlk)
      obtain ⟨yb, yo, rfl, hy⟩ := n2 (fun e => by rw [e] at hlk; simp at hlk)
      have x0 := hx k hlk
      have y0 := hy k hlk
      have w1 : IntKind.i64.wrap (k : Int) = (k : Int) := by rw [IntKind.wrap_i64]; omega
      have q0 : ((l[k]).toList != (l[k]).toList) = false := by simp
      clear s1 s2 n1 n2 hx hy
      generalize l[k] = s at *
      go_wp2_with (first | go_quiet (fail) | fail)
      go_roundw
      case rel => exact ⟨k + 1, by omega, by go_num, K.and (Kept.drewN _ _ _)⟩
      case measure => simp [intOf]; omega
    · obtain rfl : k = l.length := by omega
      have e1 : ¬ (l.length : Int) < (l.length : Int) := by omega
      go_wp2_with fail
      go_ret
      exact ⟨rfl, K⟩

set_option maxRecDepth 100000 in
set_option maxHeartbeats 2000000 in
theorem node_same (w : World) (n : Nd) (a1 a2 : Option Addr) (c1 c2 : Nat) (h1 : TextsAt w (.slice a1 n.after.length c1) n.after) (h2 : TextsAt w (.slice a2 n.after.length c2) n.after) (hl : n.after.length ≤ 1000000) :
    Calls Tryd.prog 20 #[.agg #[.string n.name, .int .i64 n.kind, .string n.arg, .string n.to, .int .i64 n.delay, .int .i64 n.tries, .slice a1 n.after.length c1], .agg #[.string n.name, .int .i64 n.kind, .string n.arg, .string n.to, .int .i64 n.delay, .int .i64 n.tries, .slice a2 n.after.length c2]] w fun e w' => e = .returned (.bool true) ∧ Kept (fun _ => False) w w' := by
  have K2 : Kept (fun _ => False) w ((w.alloc (.cells #[.string n.name, .int .i64 n.kind, .string n.arg, .string n.to, .int .i64 n.delay, .int .i64 n.tries, .slice a1 n.after.length c1] 44)).alloc (.cells #[.string n.name, .int .i64 n.kind, .string n.arg, .string n.to, .int .i64 n.delay, .int .i64 n.tries, .slice a2 n.after.length c2] 44)) := (Kept.alloc _ _ _).and (Kept.alloc _ _ _)
  have hT := texts_same _ a1 a2 c1 c2 n.after (h1.kept K2 (fun _ _ h => h)) (h2.kept K2 (fun _ _ h => h)) hl
  have HK2 : Hid _ := K2
  have q0 : (n.name.toList == n.name.toList) = true := by simp
  have q1 : (n.kind == n.kind) = true := by simp
  have q2 : (n.arg.toList == n.arg.toList) = true := by simp
  have q3 : (n.to.toList == n.to.toList) = true := by simp
  have q4 : (n.delay == n.delay) = true := by simp
  have q5 : (n.tries == n.tries) = true := by simp
  clear h1 h2 K2
  go_enter Tryd.func20, Tryd.ntmps20
  go_wp2_with (first
    | (go_at_call 43; refine hT.mono ?_; rintro e w5 ⟨rfl, K5⟩; clear hT)
    | fail)
  go_ret
  exact ⟨rfl, HK2.out.and K5⟩

set_option maxRecDepth 100000 in
set_option maxHeartbeats 4000000 in
theorem def_same (w : World) (name : ByteArray) (a1 a2 : Option Addr) (c1 c2 : Nat) (ns : List Nd) (h1 : NodesAt w a1 ns) (h2 : NodesAt w a2 ns) (hn : ns.length ≤ 1000000) :
    Calls Tryd.prog 8 #[.agg #[.string name, .slice a1 ns.length c1], .agg #[.string name, .slice a2 ns.length c2]] w fun e w' => e = .returned (.bool true) ∧ Kept (fun _ => False) w w' := by
  have H1 : Hid (NodesAt w a1 ns) := h1
  have H2 : Hid (NodesAt w a2 ns) := h2
  have q0 : (name.toList != name.toList) = false := by simp
  have q1 : ((ns.length : Int) != (ns.length : Int)) = false := by simp
  clear h1 h2
  go_enter Tryd.func8, Tryd.ntmps8
  go_wp2_with fail
  go_loopw [5] (fun q wr => ∃ (k : Nat), k ≤ ns.length ∧ q = .int .i64 k ∧ Kept (fun _ => False) ((w.alloc (.cells #[.string name, .slice a1 ns.length c1] 26)).alloc (.cells #[.string name, .slice a2 ns.length c2] 26)) wr) (fun q _ => ns.length - (intOf q).toNat)
  case atStart => exact ⟨0, Nat.zero_le _, rfl, Kept.refl _ _⟩
  case round =>
    obtain ⟨k, hk, rfl, K⟩ := hrel
    have Kw : Kept (fun _ => False) w wr := ((Kept.alloc (fun _ => False) _ _).and (Kept.alloc _ _ _)).and K
    have z1 : wr.cell? ⟨w.heap.size, 1, none⟩ = some (.slice a1 ns.length c1) := boxC ((Kept.alloc (fun _ => False) _ _).and K) (fun h => h) 1 _ rfl
    have z2 : wr.cell? ⟨w.heap.size + 1, 1, none⟩ = some (.slice a2 ns.length c2) := by
      have h := boxC K (fun h => h) 1 _ rfl
      rw [World.size_alloc] at h
      exact h
    by_cases hlk : k < ns.length
    · have e1 : (k : Int) < (ns.length : Int) := by omega
      obtain ⟨b1, o1, v1, d1, rfl, t1, x0, x1, x2, x3, x4, x5, x6⟩ := (keptNew Kw H1.out).at hlk
      obtain ⟨b2, o2, v2, d2, rfl, t2, y0, y1, y2, y3, y4, y5, y6⟩ := (keptNew Kw H2.out).at hlk
      have hfew := (H1.out.1 _ (List.getElem_mem hlk)).few
      have KD := Kept.drew (fun _ => False) wr
      have hN := node_same wr.drew ns[k] v1 v2 d1 d2 (t1.kept KD (fun _ _ h => h)) (t2.kept KD (fun _ _ h => h)) hfew
      have w1 : IntKind.i64.wrap (k : Int) = (k : Int) := by rw [IntKind.wrap_i64]; omega
      have HS : Hid (∀ V, Kept (fun _ => False) wr.drew V → Kept (fun _ => False) wr.drew V ∧ V.cell? ⟨w.heap.size, 1, none⟩ = some (.slice (some ⟨b1, o1, none⟩) ns.length c1) ∧ V.cell? ⟨w.heap.size + 1, 1, none⟩ = some (.slice (some ⟨b2, o2, none⟩) ns.length c2) ∧
          (V.cell? ⟨b1, o1 + k * 7, none⟩ = some (.string (ns[k]).name) ∧ V.cell? ⟨b1, o1 + k * 7 + 1, none⟩ = some (.int .i64 (ns[k]).kind) ∧ V.cell? ⟨b1, o1 + k * 7 + 2, none⟩ = some (.string (ns[k]).arg) ∧ V.cell? ⟨b1, o1 + k * 7 + 3, none⟩ = some (.string (ns[k]).to) ∧ V.cell? ⟨b1, o1 + k * 7 + 4, none⟩ = some (.int .i64 (ns[k]).delay) ∧ V.cell? ⟨b1, o1 + k * 7 + 5, none⟩ = some (.int .i64 (ns[k]).tries) ∧ V.cell? ⟨b1, o1 + k * 7 + 6, none⟩ = some (.slice v1 (ns[k]).after.length d1)) ∧
          (V.cell? ⟨b2, o2 + k * 7, none⟩ = some (.string (ns[k]).name) ∧ V.cell? ⟨b2, o2 + k * 7 + 1, none⟩ = some (.int .i64 (ns[k]).kind) ∧ V.cell? ⟨b2, o2 + k * 7 + 2, none⟩ = some (.string (ns[k]).arg) ∧ V.cell? ⟨b2, o2 + k * 7 + 3, none⟩ = some (.string (ns[k]).to) ∧ V.cell? ⟨b2, o2 + k * 7 + 4, none⟩ = some (.int .i64 (ns[k]).delay) ∧ V.cell? ⟨b2, o2 + k * 7 + 5, none⟩ = some (.int .i64 (ns[k]).tries) ∧ V.cell? ⟨b2, o2 + k * 7 + 6, none⟩ = some (.slice v2 (ns[k]).after.length d2))) := fun V KV =>
        have g : ∀ {ad : Addr} {u : Value}, wr.cell? ad = some u → V.cell? ad = some u := fun h => keepC (KD.and KV) h (fun _ _ h => h)
        ⟨KV, g z1, g z2, ⟨g x0, g x1, g x2, g x3, g x4, g x5, g x6⟩, ⟨g y0, g y1, g y2, g y3, g y4, g y5, g y6⟩⟩
      have HKD : Hid (Kept (fun _ => False) wr wr.drew) := KD
      clear t1 t2 KD x0 x1 x2 x3 x4 x5 x6 y0 y1 y2 y3 y4 y5 y6
      generalize ns[k] = n at *
      go_wp2_with fail
      refine wp_onlyN ?_
      (go_region_held (fun V => Kept (fun _ => False) wr.drew V ∧ V.cell? ⟨w.heap.size, 1, none⟩ = some (.slice (some ⟨b1, o1, none⟩) ns.length c1) ∧ V.cell? ⟨w.heap.size + 1, 1, none⟩ = some (.slice (some ⟨b2, o2, none⟩) ns.length c2) ∧
          (V.cell? ⟨b1, o1 + k * 7, none⟩ = some (.string n.name) ∧ V.cell? ⟨b1, o1 + k * 7 + 1, none⟩ = some (.int .i64 n.kind) ∧ V.cell? ⟨b1, o1 + k * 7 + 2, none⟩ = some (.string n.arg) ∧ V.cell? ⟨b1, o1 + k * 7 + 3, none⟩ = some (.string n.to) ∧ V.cell? ⟨b1, o1 + k * 7 + 4, none⟩ = some (.int .i64 n.delay) ∧ V.cell? ⟨b1, o1 + k * 7 + 5, none⟩ = some (.int .i64 n.tries) ∧ V.cell? ⟨b1, o1 + k * 7 + 6, none⟩ = some (.slice v1 n.after.length d1)) ∧
          (V.cell? ⟨b2, o2 + k * 7, none⟩ = some (.string n.name) ∧ V.cell? ⟨b2, o2 + k * 7 + 1, none⟩ = some (.int .i64 n.kind) ∧ V.cell? ⟨b2, o2 + k * 7 + 2, none⟩ = some (.string n.arg) ∧ V.cell? ⟨b2, o2 + k * 7 + 3, none⟩ = some (.string n.to) ∧ V.cell? ⟨b2, o2 + k * 7 + 4, none⟩ = some (.int .i64 n.delay) ∧ V.cell? ⟨b2, o2 + k * 7 + 5, none⟩ = some (.int .i64 n.tries) ∧ V.cell? ⟨b2, o2 + k * 7 + 6, none⟩ = some (.slice v2 n.after.length d2))) (first | exact HS.out _ (Kept.refl _ _) | exact HS.out _ (by assumption)) (first
        | (go_at_call 20; refine hN.mono ?_; rintro e w5 ⟨rfl, K5⟩)
        | fail))
      simp only [onlyN]
      rename_i hHeld
      clear hHeld HS hN z1 z2
      have K5' : Kept (fun _ => False) wr w5 := HKD.out.and K5
      clear K5
      go_wp2_with fail
      go_roundw
      case rel => exact ⟨k + 1, by omega, by go_num, K.and K5'⟩
      case measure => simp [intOf]; omega
    · obtain rfl : k = ns.length := by omega
      have e1 : ¬ (ns.length : Int) < (ns.length : Int) := by omega
      go_wp2_with fail
      go_ret
      exact ⟨rfl, Kw⟩

end Go.Proofs.YtlholgpenpfpbaaDoor

/-
  DagParse holds for all texts: the law's call returns true and leaves its argument as it was. No condition; the listed variables are tied to the program's text.
-/
namespace Go.Proofs.YtlholgpenpfpbaaDoor
open Go.ChangeShapes Go.WideShapes Go.ChangeAt Go.RowKit

theorem checkP_ok {nm : ByteArray} {ns : List Nd} (h : (checkP nm ns).2 = 0) : (checkP nm ns).1 = -1 := by
  unfold checkP at h ⊢
  split
  · rfl
  · rename_i h1
    rw [if_neg h1] at h
    split
    · rfl
    · rename_i h2
      rw [if_neg h2] at h
      split
      · rename_i i e hf
        rw [hf] at h
        exact absurd h (firstE_some hf)
      · rename_i hf
        rw [hf] at h
        simp only [] at h
        split
        · rename_i i e hf2
          rw [hf2] at h
          exact absurd h (firstE_some hf2)
        · split <;> rfl

theorem parse_yes {t nm : ByteArray} {ns : List Nd} {l : Nat} {z : Int} (h : parseP t = (some (nm, ns), l, z)) : l = 0 ∧ z = 0 ∧ (checkP nm ns).2 = 0 := by
  unfold parseP at h
  split at h
  · cases h
  · split at h
    · cases h
    · split at h
      · rename_i hc
        cases h
        exact ⟨rfl, rfl, hc⟩
      · cases h

theorem parse_not {t : ByteArray} {l : Nat} {z : Int} (h : parseP t = (none, l, z)) : z ≠ 0 := by
  unfold parseP at h
  split at h
  · cases h; decide
  · split at h
    · cases h; decide
    · split at h
      · cases h
      · rename_i hc
        cases h
        exact hc

def clipP (s : ByteArray) : ByteArray := if 3000 < s.size then s.extract 0 3000 else s

theorem clipP_size (s : ByteArray) : (clipP s).size ≤ 3000 := by
  unfold clipP
  split
  · rw [ByteArray.size_extract]; omega
  · omega

set_option maxRecDepth 100000 in
theorem lawClip_any (w : World) (s : ByteArray) (hs : s.size ≤ maxLen) :
    Calls Tryd.prog 5 #[.string s] w fun e w' => e = .returned (.string (clipP s)) ∧ w' = w := by
  have hM : s.size ≤ 9223372036854775807 := Nat.le_trans hs (by decide)
  by_cases h : 3000 < s.size
  · have e1 : (3000 : Int) < (s.size : Int) := by omega
    have HE : Hid (clipP s = s.extract 0 3000) := by show _ = _; unfold clipP; rw [if_pos h]
    clear hs
    go_enter Tryd.func5, Tryd.ntmps5
    go_wp2
    go_ret
    rw [HE.out]
    exact ⟨rfl, rfl⟩
  · have e1 : ¬ (3000 : Int) < (s.size : Int) := by omega
    have HE : Hid (clipP s = s) := by show _ = _; unfold clipP; rw [if_neg h]
    clear hs
    go_enter Tryd.func5, Tryd.ntmps5
    go_wp2
    go_ret
    rw [HE.out]
    exact ⟨rfl, rfl⟩

set_option maxRecDepth 100000 in
set_option maxHeartbeats 4000000 in
theorem dagParse_walk (a : Option Addr) (len cap : Nat) (S : Nat → ByteArray) (w : World) (hS : StrsAt w a len S) :
    Calls Tryd.prog 3 #[.slice a len cap] w fun e w' => e = .returned (.bool true) ∧ Below w.heap.size w w' := by
  have hW := fun V => wakes_any V
  go_enter Tryd.func3, Tryd.ntmps3
  go_wp2
  go_loopw [3] (fun i wr => ∃ (k : Nat), k ≤ len ∧ k ≤ 10 ∧ i = .int .i64 k ∧ Kept (fun _ => False) w wr) (fun i _ => len - (intOf i).toNat)
  case atStart => exact ⟨0, Nat.zero_le _, by decide, rfl, Kept.refl _ _⟩
  case round =>
    obtain ⟨k, hk, hk10, rfl, K⟩ := hrel
    have HK : Hid (Kept (fun _ => False) w wr) := K
    by_cases hlt : k < len
    · have e0 : (k : Int) < (len : Int) := by omega
      by_cases h10 : k < 10
      · have e2 : (k : Int) < 10 := by omega
        obtain ⟨b, o, rfl, hcell⟩ := hS.at hlt
        obtain ⟨x00, hs⟩ := hcell k hlt
        have x0 := keepC K x00 (fun _ _ h => h)
        have hC := lawClip_any wr (S k) hs
        have hz := clipP_size (S k)
        generalize clipP (S k) = t at *
        generalize S k = s at *
        have hP := parse_any wr t (by omega)
        have hR := fun V => refParse_any V t hz
        clear hcell hs hS K x00
        rcases hp : parseP t with ⟨od, l, z⟩
        cases od with
        | none =>
          have hz0 := parse_not hp
          have hz1 : (z == 0) = false := by simpa using hz0
          have q1 : (z != z) = false := by simp
          have q2 : ((l : Int) != (l : Int)) = false := by simp
          rw [hp] at hP hR
          clear hp hz0
          have hD := fun (V : World) => def_same V ⟨#[]⟩ none none 0 0 [] ⟨fun n h => by simp at h, .inl rfl⟩ ⟨fun n h => by simp at h, .inl rfl⟩ (by simp)
          simp only [List.length_nil] at hD
          go_wp2_with (first
            | (go_at_call 5; refine hC.mono ?_; rintro e w1 ⟨rfl, hw⟩; subst w1; clear hC)
            | (go_at_call 6; refine hP.mono ?_; rintro e w2 ⟨hn, _, K2⟩; obtain rfl := hn l z rfl; clear hP hn; have HK2 : Hid (Kept (fun _ => False) w (w2.alloc (.cells #[.string ⟨#[]⟩, .slice none 0 0] 26))) := (HK.out.and K2).and (Kept.alloc _ _ _); have HB2 : Hid ((w2.alloc (.cells #[.string ⟨#[]⟩, .slice none 0 0] 26)).heap[w2.heap.size]? = some (.cells #[.string ⟨#[]⟩, .slice none 0 0] 26 (0, 0))) := heap_alloc_new _ _; clear K2)
            | (go_at_call 7; refine (hR _).mono ?_; rintro e w3 ⟨hn, _, K3⟩; obtain rfl := hn l z rfl; clear hR hn; have HK3 : Hid (Kept (fun _ => False) w w3) := HK2.out.and K3; have b3 : (w3.alloc (.cells #[.string ⟨#[]⟩, .slice none 0 0] 26)).heap[w2.heap.size]? = some (.cells #[.string ⟨#[]⟩, .slice none 0 0] 26 (0, 0)) := (by have h1 := (K3.block w2.heap.size (by simp) (fun h => h)).trans HB2.out; rw [Below.heap_alloc _ _ _ (Array.getElem?_eq_some_iff.1 h1).1]; exact h1); obtain ⟨⟨p0, p1⟩, _, _⟩ := twoC b3; clear b3 K3)
            | (go_at_call 8; refine (hD _).mono ?_; rintro e w4 ⟨rfl, K4⟩; clear hD)
            | fail)
          go_roundw
          case rel => exact ⟨k + 1, by omega, by omega, by go_num, (HK3.out.and (Kept.alloc _ _ _)).and K4⟩
          case measure => simp [intOf]; omega
        | some d =>
          obtain ⟨nm, ns⟩ := d
          obtain ⟨rfl, rfl, hck⟩ := parse_yes hp
          have hck2 := checkP_ok hck
          have HNL : Hid (ns.length ≤ 1000000) := by
            have h1 : (checkP nm ns).2 = 0 := hck
            show _ ≤ _
            unfold checkP at h1
            split at h1
            · simp at h1
            · split at h1
              · simp at h1
              · omega
          have hCk := fun V (aa : Option Addr) (cc : Nat) (h : NodesAt V aa ns) => check_any V nm aa ns.length cc ns h rfl
          rw [hck, hck2] at hCk
          rw [hp] at hP hR
          clear hp hck hck2
          go_wp2_with (first
            | (go_at_call 5; refine hC.mono ?_; rintro e w1 ⟨rfl, hw⟩; subst w1; clear hC)
            | (go_at_call 6; refine hP.mono ?_; rintro e w2 ⟨_, hn, K2⟩; obtain ⟨a2, c2, rfl, N2, _⟩ := hn nm ns 0 0 rfl; clear hP hn; have HN2 : Hid (NodesAt (w2.alloc (.cells #[.string nm, .slice a2 ns.length c2] 26)) a2 ns) := keptNew (Kept.alloc _ _ _) N2; have HK2 : Hid (Kept (fun _ => False) w (w2.alloc (.cells #[.string nm, .slice a2 ns.length c2] 26))) := (HK.out.and K2).and (Kept.alloc _ _ _); have HB2 : Hid ((w2.alloc (.cells #[.string nm, .slice a2 ns.length c2] 26)).heap[w2.heap.size]? = some (.cells #[.string nm, .slice a2 ns.length c2] 26 (0, 0))) := heap_alloc_new _ _; clear K2 N2)
            | (go_at_call 7; refine (hR _).mono ?_; rintro e w3 ⟨_, hn, K3⟩; obtain ⟨a3, c3, rfl, N3, _⟩ := hn nm ns 0 0 rfl; clear hR hn; have HK3 : Hid (Kept (fun _ => False) w w3) := HK2.out.and K3; have HN3 : Hid (NodesAt (w3.alloc (.cells #[.string nm, .slice a3 ns.length c3] 26)) a3 ns) := keptNew (Kept.alloc _ _ _) N3; have HN4 : Hid (NodesAt (w3.alloc (.cells #[.string nm, .slice a3 ns.length c3] 26)) a2 ns) := keptNew (Kept.alloc _ _ _) (keptNew K3 HN2.out); have HB3 : Hid ((w3.alloc (.cells #[.string nm, .slice a3 ns.length c3] 26)).heap[w2.heap.size]? = some (.cells #[.string nm, .slice a2 ns.length c2] 26 (0, 0))) := (by have h1 := (K3.block w2.heap.size (by simp) (fun h => h)).trans HB2.out; show _ = _; rw [Below.heap_alloc _ _ _ (Array.getElem?_eq_some_iff.1 h1).1]; exact h1); obtain ⟨⟨p0, p1⟩, _, _⟩ := twoC HB3.out; clear K3 N3)
            | (go_at_call 8; refine (def_same _ nm a2 a3 c2 c3 ns HN4.out HN3.out HNL.out).mono ?_; rintro e w4 ⟨rfl, K4⟩; have HK4 : Hid (Kept (fun _ => False) w w4) := (HK3.out.and (Kept.alloc _ _ _)).and K4; have b4 := (K4.block w2.heap.size (Array.getElem?_eq_some_iff.1 HB3.out).1 (fun h => h)).trans HB3.out; obtain ⟨⟨y0, y1⟩, _, _⟩ := twoC b4; have HN5 : Hid (NodesAt w4 a2 ns) := keptNew K4 HN4.out; clear b4 K4)
            | (go_at_call 9; refine (hCk _ a2 c2 HN5.out).mono ?_; rintro e w5 ⟨rfl, K5⟩; clear hCk)
            | fail)
          go_roundw
          case rel => exact ⟨k + 1, by omega, by omega, by go_num, HK4.out.and K5⟩
          case measure => simp [intOf]; omega
      · have e2 : ¬ (k : Int) < 10 := by omega
        clear hS
        go_wp2_with (first
          | (go_at_call 10; refine (hW _).mono ?_; rintro e w1 ⟨rfl, K1⟩; clear hW)
          | fail)
        go_ret
        exact ⟨rfl, (K.and K1).none⟩
    · have e0 : ¬ (k : Int) < (len : Int) := by omega
      clear hS
      go_wp2_with (first
        | (go_at_call 10; refine (hW _).mono ?_; rintro e w1 ⟨rfl, K1⟩; clear hW)
        | fail)
      go_ret
      exact ⟨rfl, (K.and K1).none⟩

set_option maxRecDepth 100000 in
theorem dagParse_lifted (os : Os) (started : os.Started) (H : Type) (enc : TypeId × Value → H) :
    ReturnsInHanded {} Tryd.checked os 3 .any (fun w args => (Rows.dagParseSpec.pre enc Tryd.prog Tryd.f3 [] false w args ∧ laidMetH Tryd.prog laidL w) ∧ sizedMet enc Tryd.prog Tryd.f3 (OpenSpec.ofChange Rows.dagParseSpec) false w args)
      (Rows.dagParseSpec.post enc Tryd.prog Tryd.f3 false true false false) := by
  refine returnsInHanded_of_change_and (C := Tryd.checked) (X := fun w _ => laidMetH Tryd.prog laidL w) (fun _ _ _ hh h => h.of_heap hh) Tryd.own started (by kernel_rfl) Tryd.func3
    (ChangeSpec.witness_shaped (enc := enc) (C := Tryd.checked) (os := os) (X := fun w _ => laidMetH Tryd.prog laidL w) false (World.doorLaid Tryd.prog 62 os) #[.slice none 0 0] 8 rfl (World.shaped_of_RefB (by kernel_rfl) (by kernel_rfl)) (by kernel_rfl) (by kernel_rfl) (by kernel_rfl) (door_met os _)) ?_
  intro W base args ds gs before hval0 hW _ _ hL _
  have hval : ∀ (j : Nat) t v, Tryd.f3.params[j]? = some t → args[j]? = some v → Value.okWide Tryd.prog W .any base t v := hval0
  have hW' := hW
  obtain ⟨p, q, hA0, hV, rfl, _, _⟩ := hW
  have hA : DataW.TrodAll enc Tryd.prog W 0 (fun _ => true) true Tryd.f3.params.toList args.toList ds p := hA0
  rw [Tryd.params3] at hA hval
  obtain ⟨v0, vs0, d0, ds0, p0, q0, hargs, rfl, rfl, h0, r0⟩ := trodAll_cons hA
  obtain ⟨rfl, rfl, rfl⟩ := trodAll_nil r0
  obtain rfl : args = #[v0] := by cases args; simp_all
  obtain ⟨rfl, rfl⟩ := trodVars_none hV
  have k0 := h0
  have lt0 : ∀ x ∈ p0, x.block < W.heap.size := by obtain ⟨m, hm⟩ := k0; exact DataW.trod_lt m _ _ _ hm
  obtain ⟨a0', len0', cap0', rfl⟩ := okWide_slice Tryd.underlying22 (hval 0 22 v0 rfl rfl)
  obtain ⟨a0, len0, cap0, S0, e0, _, _, w0⟩ : ∃ a len cap S, Value.slice a0' len0' cap0' = .slice a len cap ∧ len ≤ cap ∧ cap ≤ maxLen ∧ StrsAt W a len S := by
    obtain ⟨fuel, hf⟩ := h0
    exact strs_open Tryd.underlying22 Tryd.underlying9 (by kernel_rfl) hf
  simp only [Value.slice.injEq] at e0
  obtain ⟨rfl, rfl, rfl⟩ := e0
  clear hA0 hval0
  refine (dagParse_walk _ _ _ _ W w0).mono fun e W' ⟨he, bel⟩ => ?_
  subst he
  exact ⟨_, rfl, _, _, _, [], _, [], hW', trodAll_mk1 (shut_bool Tryd.underlying4 _), (trodAll_cons_mk (Below.trod Tryd.laidOut (by kernel_rfl) (of_decide_eq_true (by kernel_rfl)) k0 bel lt0) trodAll_mk0), rfl, bel.frame _, fun h => by cases h⟩

theorem dagParse_row : Rows.DagParseSaid :=
  OpenClaim.holds_of_wide 3 Tryd.f3 rfl rfl rfl rfl rfl rfl rfl ⟨rfl, rfl, rfl, rfl, rfl⟩ rfl rfl rfl rfl rfl (by kernel_rfl) Tryd.func3 (by kernel_rfl)
    (of_decide_eq_true (by kernel_rfl)) (by unfold Func.isWrapper; first | (rw [if_pos (by decide +kernel)]; kernel_rfl) | (rw [if_neg (by decide +kernel)]; exact ⟨rfl, rfl⟩))
    (fun os started H enc _ => dagParse_lifted os started H enc)

theorem dagParse_holds : Rows.DagParseCardSaid :=
  Claim7.holds_tied_plain_at .later [] [.data, .data, .data, .sentinel, .sentinel] true Rows.dagParseCard.stood.harness true
    dagParse_row (fun _ h => by cases h) (by kernel_rfl) (fun _ h => by cases h) dagParse_row_tie rfl ⟨rfl, rfl⟩ (by kernel_rfl) rfl
    (fun f fn hf hfn => by
      obtain rfl : f = 3 := Option.some.inj ((show Tryd.prog.funcNamed "tiller/tillerlaw08.DagParse" = some 3 by kernel_rfl).symm.trans hf) |>.symm
      obtain rfl : fn = Tryd.f3 := (Option.some.inj (Tryd.func3.symm.trans hfn)).symm
      exact ⟨by kernel_rfl, fun j t ht => by
        rw [Tryd.params3] at ht
        have hm : t ∈ [22] := by simpa using Array.mem_of_getElem? ht
        have hall : ([22].all fun u => !Tryd.prog.wantsStandIn u) = true := by kernel_rfl
        exact (show Tryd.prog.wantsStandIn t = false by simpa using List.all_eq_true.1 hall t hm)⟩)
    (by kernel_rfl)

end Go.Proofs.YtlholgpenpfpbaaDoor
