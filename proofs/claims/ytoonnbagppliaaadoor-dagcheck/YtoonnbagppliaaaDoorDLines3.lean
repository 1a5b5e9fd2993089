/-
  readLines: the walk.
-/
import Derived.Test.YtoonnbagppliaaaDoorDLin8
import Derived.Deep.RegionHeld3
namespace Go.Proofs.YtoonnbagppliaaaDoor
open Go.RowKit

def LinesPost (w : World) (P : Option (ByteArray × List Nd × List Nat) × Nat) (e : Ending) (w' : World) : Prop :=
  (∀ line, P = (none, line) → e = .returned (.tuple #[.agg #[.string ⟨#[]⟩, .slice none 0 0], .slice none 0 0, .int .i64 (line : Nat)])) ∧
  (∀ nm ns ls k, P = (some (nm, ns, ls), k) → ∃ a c v3, e = .returned (.tuple #[.agg #[.string nm, .slice a ns.length c], v3, .int .i64 0]) ∧ NodesRow w' (w.heap.size + 1) (.slice a ns.length c) ns ∧ w'.ownsRow (w.heap.size + 1) 3 1 v3 ls.length (natsV ls)) ∧ Kept (fun _ => False) w w'

theorem lines_none {w w' : World} {P : Option (ByteArray × List Nd × List Nat) × Nat} {line : Nat} (h : (none, line) = P) (K : Kept (fun _ => False) w w') : LinesPost w P (.returned (.tuple #[.agg #[.string ⟨#[]⟩, .slice none 0 0], .slice none 0 0, .int .i64 (line : Nat)])) w' := by
  subst h
  exact ⟨fun l h => (by cases h; rfl), fun _ _ _ _ h => (by cases h), K⟩

theorem put2 {w : World} {b : Nat} {T : TypeId} {u0 u1 : Value} (h : w.heap[b]? = some (.cells #[u0, u1] T (0, 0))) (v0 v1 : Value) : ((w.setCell ⟨b, 0, none⟩ v0).setCell ⟨b, 1, none⟩ v1).heap[b]? = some (.cells #[v0, v1] T (0, 0)) := by
  simp [World.setCell, Array.getElem?_modify, h]

theorem kept2 {w wr : World} (K : Kept (fun _ => False) w wr) (v0 v1 : Value) : Kept (fun _ => False) w ((wr.setCell ⟨w.heap.size, 0, none⟩ v0).setCell ⟨w.heap.size, 1, none⟩ v1) :=
  K.trans (S' := fun j => j = w.heap.size) ((Kept.setCell (S := fun j => j = w.heap.size) wr ⟨w.heap.size, 0, none⟩ v0 rfl).and (Kept.setCell (S := fun j => j = w.heap.size) _ ⟨w.heap.size, 1, none⟩ v1 rfl)) (fun i h => .inr (by omega))

/-- The reader, made of a line's words. -/
theorem rdNew {w2 : World} {base A : Nat} {ws : List ByteArray} (O : w2.ownsRow base 9 1 (.slice (some ⟨A, 0, none⟩) ws.length ws.length) ws.length (strsV ws)) (hs : ∀ s ∈ ws, s.size ≤ 1000000) :
    RdAt (w2.alloc (.cells #[.slice (some ⟨A, 0, none⟩) ws.length ws.length, .bool false] 69)) (w2.heap.size + 1) w2.heap.size (ws, false) := by
  have hA : A < w2.heap.size := ownsRow_blk O rfl
  have hm : ws.length ≤ maxLen := by
    rcases O.2 with ⟨e, _⟩ | ⟨g, cap, cur, e, _, _, h1, h2, _⟩
    · cases e
    · simp only [Value.slice.injEq] at e; omega
  refine ⟨⟨_, _, heap_alloc_new _ _, Nat.le_refl _, hm, .inr ⟨A, 0, rfl, by omega, by omega, fun i hi => ?_⟩⟩, by omega, by simp, hs⟩
  have := (O.alloc (.cells #[.slice (some ⟨A, 0, none⟩) ws.length ws.length, .bool false] 69)).cells (g := A) rfl i (.string ws[i]) (by simp [strsV, hi])
  rw [Addr.add_lit] at this
  exact this

theorem lineKept {wr w2 w3 : World} {o : Obj} (K : Kept (fun _ => False) wr w2) (K3 : Kept (fun j => j = w2.heap.size) (w2.alloc o) w3) : Kept (fun j => wr.heap.size ≤ j) wr w3 :=
  ((K.mono (fun _ h => h.elim)).and (Kept.alloc _ _ _)).and (K3.mono (fun j h => by have h' : j = w2.heap.size := h; have := K.size; omega))

set_option maxRecDepth 100000 in
set_option maxHeartbeats 3000000 in
theorem readLines_any (w : World) (t : ByteArray) (ht : t.size ≤ 16384) :
    Calls Tryd.prog 27 #[.string t] w fun e w' => LinesPost w (rlP t) e w' := by
  obtain ⟨i0, hi0, hz0, hz1, hz2⟩ := info_parts Tryd.info3
  obtain ⟨j0, hj0, hy0, hy1, hy2⟩ := info_parts Tryd.info34
  have HS : Hid (RLSt w (w.alloc (.cells #[.string ⟨#[]⟩, .slice none 0 0] 25)) ⟨#[]⟩ [] [] none 0 (.slice none 0 0)) := rlstart w
  generalize hP : rlP t = P
  have HP : Hid (rlK (t.size + 1) t 1 false ⟨#[]⟩ [] [] = P) := hP
  clear hP
  go_enter Tryd.func27, Tryd.ntmps27
  go_wp2
  go_loopw [0, 3, 5, 6] (fun v0 v3 v5 v6 wr => ∃ (s nm : ByteArray) (ns : List Nd) (ls : List Nat) (a a3 : Option Addr) (c c3 line : Nat) (b : Bool), v0 = .string s ∧ v5 = .bool b ∧ v6 = .int .i64 (line : Nat) ∧ v3 = .slice a3 ls.length c3 ∧ RLSt w wr nm ns ls a c (.slice a3 ls.length c3) ∧ s.size ≤ t.size ∧ line + s.size ≤ t.size + 1 ∧ ns.length ≤ line ∧ ls.length ≤ line ∧
      rlK (s.size + 1) s line b nm ns ls = P) (fun v0 _ _ _ _ => strLen v0)
  case atStart => exact ⟨t, ⟨#[]⟩, [], [], none, none, 0, 0, 1, false, rfl, rfl, rfl, rfl, HS.out, Nat.le_refl _, by omega, by simp, by simp, HP.out⟩
  case round =>
    obtain ⟨s, nm, ns, ls, a, a3, c, c3, line, b, rfl, rfl, rfl, rfl, T, hs1, hs2, hs3, hs4, hK⟩ := hrel
    have he := str_empty s
    have HT : Hid (RLSt w wr nm ns ls a c (.slice a3 ls.length c3)) := T
    obtain ⟨⟨d0, d1⟩, f0, f1⟩ := twoC T.d
    clear T HP HS
    by_cases h0 : s.size = 0
    · simp only [h0, decide_true] at he
      cases b with
      | false =>
        have HK : Hid ((none, line) = P) := by show _ = _; rw [← hK, rlK, if_pos h0]; rfl
        clear hK
        go_wp2
        generalize hV : ((wr.setCell ⟨w.heap.size, 0, none⟩ (.string ⟨#[]⟩)).setCell ⟨w.heap.size, 1, none⟩ (.slice none 0 0)) = V
        have hp := put2 HT.out.d (.string ⟨#[]⟩) (.slice none 0 0)
        have hk := kept2 HT.out.kept (.string ⟨#[]⟩) (.slice none 0 0)
        rw [hV] at hp hk
        obtain ⟨⟨g0, g1⟩, _, _⟩ := twoC hp
        refine bodyPost_ret (by simp [results, Tryd.results27, go_sem, g0, g1]; try rfl) rfl ?_
        exact lines_none HK.out hk
      | true =>
        have HK : Hid ((some (nm, ns, ls), 0) = P) := by show _ = _; rw [← hK, rlK, if_pos h0]; rfl
        clear hK
        go_wp2
        generalize hV : ((wr.setCell ⟨w.heap.size, 0, none⟩ (.string nm)).setCell ⟨w.heap.size, 1, none⟩ (.slice a ns.length c)) = V
        have hp := put2 HT.out.d (.string nm) (.slice a ns.length c)
        have hk := kept2 HT.out.kept (.string nm) (.slice a ns.length c)
        have hkk : Kept (fun j => j = w.heap.size) wr V := by rw [← hV]; exact (Kept.setCell (S := fun j => j = w.heap.size) wr ⟨w.heap.size, 0, none⟩ (.string nm) rfl).and (Kept.setCell (S := fun j => j = w.heap.size) _ ⟨w.heap.size, 1, none⟩ (.slice a ns.length c) rfl)
        rw [hV] at hp hk
        obtain ⟨⟨g0, g1⟩, _, _⟩ := twoC hp
        refine bodyPost_ret (by simp [results, Tryd.results27, go_sem, g0, g1]; try rfl) rfl ?_
        refine ⟨fun l h => ?_, fun nm' ns' ls' k h => ?_, hk⟩
        · rw [← HK.out] at h; cases h
        · rw [← HK.out] at h; cases h
          exact ⟨a, c, _, rfl, HT.out.rows.kept hkk (fun k h _ => by omega), ownsRow_keep HT.out.lines (fun g hg => hkk.block g (ownsRow_blk HT.out.lines hg) (by have := (HT.out.lines.lt g hg).1; omega))⟩
    · simp only [h0, decide_false] at he
      have hst := rl_step (s := s) (by omega) line b nm ns ls
      rw [hK] at hst
      have hcb := cutB_size (t := s) (by omega)
      have hca := cutA_size s
      have hcut := cut_any wr s (by omega)
      have hwo := fun W => wordsOf_any W (cutA s) (by omega)
      obtain ⟨hw1, hw2⟩ := words_ok (cutA s)
      have HWS : Hid (∀ x ∈ wordsP (cutA s), 0 < x.size ∧ x.size ≤ (cutA s).size) := hw2
      clear hK hw2
      generalize cutA s = sa at *
      generalize cutB s = sb at *
      generalize wordsP sa = ws at *
      generalize decide (0 ≤ nlAt s) = fd at *
      have HST : Hid (P = if rSilent (ws, false) then rlK (sb.size + 1) sb (line + 1) b nm ns ls
        else if b = false then
          (if (rHead (ws, false)).2.2 then (none, line) else rlK (sb.size + 1) sb (line + 1) true (rHead (ws, false)).1 ns ls)
        else
          (if (rNode (ws, false)).2.2 then (none, line) else rlK (sb.size + 1) sb (line + 1) true nm (ns ++ [(rNode (ws, false)).1]) (ls ++ [line]))) := hst
      clear hst
      have hsil := fun W B rb R => silent_any W B rb (ws, false) R (fun x hx => (HWS.out x hx).1)
      have hhd := fun W B rb R => heading_any W B rb (ws, false) R
      have hnd := fun W B rb R => node_any W B rb (ws, false) R (by show ws.length ≤ _; omega)
      have hRN := fun (w2 : World) (base A : Nat) (O : w2.ownsRow base 9 1 (.slice (some ⟨A, 0, none⟩) ws.length ws.length) ws.length (strsV ws)) => rdNew O (fun x hx => by have := (HWS.out x hx).2; omega)
      cases hsl : rSilent (ws, false) with
      | true =>
        rw [hsl] at hsil
        have HR : Hid (rlK (sb.size + 1) sb (line + 1) b nm ns ls = P) := by show _ = _; rw [HST.out, hsl]; rfl
        clear hhd hnd hsl
        go_wp2_with (first
          | (go_at_call 34; refine hcut.mono ?_; rintro e w1 ⟨rfl, K1⟩; clear hcut)
          | (go_at_call 35; refine (hwo _).mono ?_; rintro e w2 ⟨A, rfl, hA, O2, K2⟩; clear hwo; have HRD := hRN w2 _ A O2; have HRD2 : Hid _ := HRD; clear HRD O2)
          | (go_at_call 36; refine (hsil _ _ _ HRD2.out).mono ?_; rintro e w3 ⟨rfl, rfl⟩; clear hsil)
          | fail)
        go_roundw
        case rel => exact ⟨sb, nm, ns, ls, a, a3, c, c3, line + 1, b, rfl, rfl, by go_num, rfl, (((HT.out.later K1 (fun _ _ h => h)).later K2 (fun _ _ h => h)).later (Kept.alloc (fun _ => False) _ _) (fun _ _ h => h)), by omega, by omega, by omega, by omega, HR.out⟩
        case measure => simp [strLen]; omega
      | false =>
        rw [hsl] at hsil
        cases b with
        | false =>
          clear hnd
          generalize hx : (rHead (ws, false)).1 = x at *
          generalize hq : (rHead (ws, false)).2 = q at *
          obtain ⟨wq, bq⟩ := q
          have HQ : Hid (P = if bq then (none, line) else rlK (sb.size + 1) sb (line + 1) true x ns ls) := by show _ = _; rw [HST.out, hsl]; rfl
          clear hsl HST
          have HTL := HT.out.lt
          cases bq with
          | true =>
            have HK : Hid ((none, line) = P) := by show _ = _; rw [HQ.out]; rfl
            clear HQ
            go_wp2_with (first
              | (go_at_call 34; refine hcut.mono ?_; rintro e w1 ⟨rfl, K1⟩; clear hcut)
              | (go_at_call 35; refine (hwo _).mono ?_; rintro e w2 ⟨A, rfl, hA, O2, K2⟩; clear hwo; have HRD := hRN w2 _ A O2; have HRD2 : Hid _ := HRD; clear HRD O2)
              | (go_at_call 36; refine (hsil _ _ _ HRD2.out).mono ?_; rintro e w3 ⟨rfl, rfl⟩; clear hsil)
              | (go_at_call 37; refine (hhd _ _ _ HRD2.out).mono ?_; rintro e w4 ⟨rfl, R4, K4⟩; clear hhd; have KL := lineKept (K1.and K2) K4; have T4 := HT.out.later KL (fun j hj => by omega); have T5 := T4.name x; obtain ⟨⟨t0, t1⟩, u0, u1⟩ := twoC T4.d; obtain ⟨⟨p0, p1⟩, r0, r1⟩ := twoC T5.d; have HT5 : Hid _ := T5; have hz := (K1.and K2).size; have m1 := R4.cells; obtain ⟨_, _, _, m1, _, _, _⟩ := m1; have m2 : (w4.setCell ⟨w.heap.size, 0, none⟩ (.string x)).cell? ⟨w2.heap.size, 1, none⟩ = some (.bool true) := (by rw [World.cell?_setCell_other _ _ _ _ (fun h => by have := congrArg Addr.block h; simp only [] at this; omega)]; exact m1); clear R4 T4 T5)
              | fail)
            generalize hV : (((w4.setCell ⟨w.heap.size, 0, none⟩ (.string x)).setCell ⟨w.heap.size, 0, none⟩ (.string ⟨#[]⟩)).setCell ⟨w.heap.size, 1, none⟩ (.slice none 0 0)) = V
            have hp := put2 HT5.out.d (.string ⟨#[]⟩) (.slice none 0 0)
            have hk := kept2 HT5.out.kept (.string ⟨#[]⟩) (.slice none 0 0)
            rw [hV] at hp hk
            obtain ⟨⟨g0, g1⟩, _, _⟩ := twoC hp
            refine bodyPost_ret (by simp [results, Tryd.results27, go_sem, g0, g1]; try rfl) rfl ?_
            exact lines_none HK.out hk
          | false =>
            have HK : Hid (rlK (sb.size + 1) sb (line + 1) true x ns ls = P) := by show _ = _; rw [HQ.out]; rfl
            clear HQ
            go_wp2_with (first
              | (go_at_call 34; refine hcut.mono ?_; rintro e w1 ⟨rfl, K1⟩; clear hcut)
              | (go_at_call 35; refine (hwo _).mono ?_; rintro e w2 ⟨A, rfl, hA, O2, K2⟩; clear hwo; have HRD := hRN w2 _ A O2; have HRD2 : Hid _ := HRD; clear HRD O2)
              | (go_at_call 36; refine (hsil _ _ _ HRD2.out).mono ?_; rintro e w3 ⟨rfl, rfl⟩; clear hsil)
              | (go_at_call 37; refine (hhd _ _ _ HRD2.out).mono ?_; rintro e w4 ⟨rfl, R4, K4⟩; clear hhd; have KL := lineKept (K1.and K2) K4; have T4 := HT.out.later KL (fun j hj => by omega); have T5 := T4.name x; obtain ⟨⟨t0, t1⟩, u0, u1⟩ := twoC T4.d; obtain ⟨⟨p0, p1⟩, r0, r1⟩ := twoC T5.d; have HT5 : Hid _ := T5; have hz := (K1.and K2).size; have m1 := R4.cells; obtain ⟨_, _, _, m1, _, _, _⟩ := m1; have m2 : (w4.setCell ⟨w.heap.size, 0, none⟩ (.string x)).cell? ⟨w2.heap.size, 1, none⟩ = some (.bool false) := (by rw [World.cell?_setCell_other _ _ _ _ (fun h => by have := congrArg Addr.block h; simp only [] at this; omega)]; exact m1); clear R4 T4 T5)
              | fail)
            go_roundw
            case rel => exact ⟨sb, x, ns, ls, a, a3, c, c3, line + 1, true, rfl, rfl, by go_num, rfl, HT5.out, by omega, by omega, by omega, by omega, HK.out⟩
            case measure => simp [strLen]; omega
        | true =>
          clear hhd
          have HQ : Hid (P = if (rNode (ws, false)).2.2 then (none, line) else rlK (sb.size + 1) sb (line + 1) true nm (ns ++ [(rNode (ws, false)).1]) (ls ++ [line])) := by show _ = _; rw [HST.out, hsl]; rfl
          clear hsl HST
          generalize hx : rNode (ws, false) = pr at *
          obtain ⟨nd, wq, bq⟩ := pr
          have HTL := HT.out.lt
          have HC : Hid (∀ u ∈ [Value.int .i64 (line : Nat)], u.oneCell' = true) := natsV_one [line]
          go_wp2_with (first
            | (go_at_call 34; refine hcut.mono ?_; rintro e w1 ⟨rfl, K1⟩; clear hcut)
            | (go_at_call 35; refine (hwo _).mono ?_; rintro e w2 ⟨A, rfl, hA, O2, K2⟩; clear hwo; have HRD := hRN w2 _ A O2; have HRD2 : Hid _ := HRD; clear HRD O2)
            | (go_at_call 36; refine (hsil _ _ _ HRD2.out).mono ?_; rintro e w3 ⟨rfl, rfl⟩; clear hsil)
            | fail)
          have K12 := K1.and K2
          have hz12 := K12.size
          have KL0 : Kept (fun j => wr.heap.size ≤ j) wr (w2.alloc (.cells #[.slice (some ⟨A, 0, none⟩) ws.length ws.length, .bool false] 69)) := (K12.mono (fun _ h => h.elim)).and (Kept.alloc _ _ _)
          have T2 := HT.out.later KL0 (fun j hj => by omega)
          have hszW : (w2.alloc (.cells #[.slice (some ⟨A, 0, none⟩) ws.length ws.length, .bool false] 69)).heap.size = w2.heap.size + 1 := by simp
          generalize hW : w2.alloc (.cells #[.slice (some ⟨A, 0, none⟩) ws.length ws.length, .bool false] 69) = W at *
          have KW : Kept (fun _ => False) W W.drew := Kept.drew _ W
          have T3 := T2.later KW (fun _ _ h => h)
          obtain ⟨⟨e0, x1⟩, _, _⟩ := twoC T3.d
          have hC := hnd W.drew _ _ (HRD2.out.kept KW (fun _ _ h => h))
          have hvs := HT.out.rows
          obtain ⟨vs, hv1, hv2r, hv3r⟩ := hvs
          have hrb : ∀ g, (Value.slice a ns.length c).ownBlock = some g → g < wr.heap.size := fun g hg => ownsRow_blk hv2r hg
          have KLd : Kept (fun j => wr.heap.size ≤ j) wr W.drew := KL0.and (KW.mono (fun _ h => h.elim))
          have hv2 := ownsRow_keep hv2r (fun g hg => KLd.block g (ownsRow_blk hv2r hg) (by have := hrb g hg; omega))
          have hlb : ∀ g, (Value.slice a3 ls.length c3).ownBlock = some g → g < wr.heap.size := fun g hg => ownsRow_blk HT.out.lines hg
          have HLB : Hid (∀ g, (Value.slice a3 ls.length c3).ownBlock = some g → g < wr.heap.size) := hlb
          have hk2 := fun (w5 : World) (aa : Option Addr) (ca : Nat) (K5 : Kept (fun j => j = w2.heap.size) W.drew w5) => show w5.cell? ⟨w.heap.size, 1, none⟩ = some (.slice a ns.length c) ∧ (w5.alloc (.cells #[.string nd.name, .int .i64 nd.kind, .string nd.arg, .string nd.to, .int .i64 nd.delay, .int .i64 nd.tries, .slice aa nd.after.length ca] 34)).cell? ⟨w.heap.size, 1, none⟩ = some (.slice a ns.length c) ∧ (w5.alloc (.cells #[.string nd.name, .int .i64 nd.kind, .string nd.arg, .string nd.to, .int .i64 nd.delay, .int .i64 nd.tries, .slice aa nd.after.length ca] 34)).ownsRow (w.heap.size + 1) 34 7 (.slice a ns.length c) ns.length (flatN ns vs) by
            have hlt : w.heap.size < W.drew.heap.size := T3.lt
            have b1 : w5.heap[w.heap.size]? = _ := (K5.block _ hlt (by omega)).trans T3.d
            have o1 := ownsRow_keep hv2 (fun g hg => K5.block g (ownsRow_blk hv2 hg) (by have := hrb g hg; omega))
            refine ⟨(twoC b1).1.2, ?_, o1.alloc _⟩
            rw [World.cell?_of_block (w := w5) (Below.heap_alloc _ _ _ (Array.getElem?_eq_some_iff.1 b1).1)]
            exact (twoC b1).1.2
          have hk3 := fun (w5 w6 : World) (aa : Option Addr) (ca : Nat) (K5 : Kept (fun j => j = w2.heap.size) W.drew w5) (hg6 : (w5.alloc (.cells #[.string nd.name, .int .i64 nd.kind, .string nd.arg, .string nd.to, .int .i64 nd.delay, .int .i64 nd.tries, .slice aa nd.after.length ca] 34)).grownBy w6 (Value.slice a ns.length c).ownBlock) => show w6.heap[w.heap.size]? = some (.cells #[.string nm, .slice a ns.length c] 25 (0, 0)) by
            have hlt : w.heap.size < W.drew.heap.size := T3.lt
            have b1 : w5.heap[w.heap.size]? = _ := (K5.block _ hlt (by omega)).trans T3.d
            have hl5 := (Array.getElem?_eq_some_iff.1 b1).1
            rw [hg6.block w.heap.size (by simp; omega) (fun e => by have := (hv2.lt _ e.symm).1; omega), Below.heap_alloc _ _ _ hl5]
            exact b1
          have fin := fun (w5 w6 : World) (aa a6 : Option Addr) (ca c6 : Nat) (K5 : Kept (fun j => j = w2.heap.size) W.drew w5) (O5 : w5.ownsRow W.drew.heap.size 9 1 (.slice aa nd.after.length ca) nd.after.length (strsV nd.after)) (R5 : RdAt w5 (w2.heap.size + 1) w2.heap.size (wq, bq))
              (ho6 : w6.ownsRow (w.heap.size + 1) 34 7 (.slice a6 (ns.length + 1) c6) (ns.length + 1) (flatN ns vs ++ ndC nd (.slice aa nd.after.length ca))) (hg6 : (w5.alloc (.cells #[.string nd.name, .int .i64 nd.kind, .string nd.arg, .string nd.to, .int .i64 nd.delay, .int .i64 nd.tries, .slice aa nd.after.length ca] 34)).grownBy w6 (Value.slice a ns.length c).ownBlock) =>
              show RLSt w (w6.setCell ⟨w.heap.size, 1, none⟩ (.slice a6 (ns.length + 1) c6)) nm (ns ++ [nd]) ls a6 c6 (.slice a3 ls.length c3) ∧ (w6.setCell ⟨w.heap.size, 1, none⟩ (.slice a6 (ns.length + 1) c6)).cell? ⟨w2.heap.size, 1, none⟩ = some (.bool bq) ∧ w2.heap.size < w6.heap.size by
            have o1 := ownsRow_keep hv2 (fun g hg => K5.block g (ownsRow_blk hv2 hg) (by have := hrb g hg; omega))
            have hzd : W.drew.heap.size = w2.heap.size + 1 := hszW
            have N6 := NodesRow.push hv1 o1 (fun i hi hj => by
              obtain ⟨aq, cq, e1, o⟩ := hv3r i hi hj
              have o2 := ownsRow_keep o (fun g hg => KLd.block g (ownsRow_blk o hg) (by have := ownsRow_blk o hg; omega))
              exact ⟨aq, cq, e1, ownsRow_keep o2 (fun g hg => K5.block g (ownsRow_blk o2 hg) (by have := ownsRow_blk o hg; omega))⟩) (ownsRow_lowS O5 (by omega)) ho6 hg6
            have b6 := hk3 w5 w6 aa ca K5 hg6
            have hz5 := K5.size
            have hz6 := hg6.size
            rw [World.size_alloc] at hz6
            have KS : Kept (fun j => j = w.heap.size) w6 (w6.setCell ⟨w.heap.size, 1, none⟩ (.slice a6 (ns.length + 1) c6)) := Kept.setCell _ _ _ rfl
            have Kg : Kept (fun g => (Value.slice a ns.length c).ownBlock = some g) (w5.alloc (.cells #[.string nd.name, .int .i64 nd.kind, .string nd.arg, .string nd.to, .int .i64 nd.delay, .int .i64 nd.tries, .slice aa nd.after.length ca] 34)) w6 := Kept.grown hg6 (fun g e => e)
            have l1 := ownsRow_keep HT.out.lines (fun g hg => KLd.block g (ownsRow_blk HT.out.lines hg) (by have := hlb g hg; omega))
            have l2 := ownsRow_keep l1 (fun g hg => K5.block g (ownsRow_blk l1 hg) (by have := hlb g hg; omega))
            have l3 := ownsRow_keep (w' := w6) l2 (fun g hg => by
              have hg5 := ownsRow_blk l2 hg
              rw [Kg.block g (by simp; omega) (fun e => typ_ne l2 o1 (by decide) hg e)]
              exact Below.heap_alloc _ _ _ hg5)
            have l4 := ownsRow_keep l3 (fun g hg => KS.block g (ownsRow_blk l3 hg) (by have := (l3.lt g hg).1; omega))
            obtain ⟨_, _, _, m1, _, _, _⟩ := R5.cells
            refine ⟨⟨?_, ?_, l4, ?_⟩, ?_, by omega⟩
            · rw [List.length_append, List.length_singleton]
              simp [World.setCell, Array.getElem?_modify, b6]
            · rw [List.length_append, List.length_singleton]
              exact N6.kept KS (fun k hk _ => by omega)
            · refine (((T3.kept.trans (S' := fun j => j = w2.heap.size) K5 (fun i h => .inr (by have h' : i = w2.heap.size := h; omega))).and (Kept.alloc _ _ _)).trans Kg (fun i h => .inr (by have := (hv2.lt i h).1; omega))).trans KS (fun i h => .inr (by omega))
            · rw [World.cell?_setCell_other _ _ _ _ (fun h => by have := congrArg Addr.block h; simp only [] at this; omega), World.cell?_of_block (w := w5.alloc (.cells #[.string nd.name, .int .i64 nd.kind, .string nd.arg, .string nd.to, .int .i64 nd.delay, .int .i64 nd.tries, .slice aa nd.after.length ca] 34)) (Kg.block _ (by simp; omega) (fun e => by have := hrb _ e; simp only [] at this; omega)), World.cell?_of_block (w := w5) (Below.heap_alloc _ _ _ (by show w2.heap.size < _; omega))]
              exact m1
          have HF : Hid _ := fin
          clear fin T2 T3
          refine wp_onlyN (lines8 (nd := nd) (base := w.heap.size + 1) (xs := flatN ns vs) (R := fun w5 aa ca => w5.ownsRow W.drew.heap.size 9 1 (.slice aa nd.after.length ca) nd.after.length (strsV nd.after) ∧ RdAt w5 (w2.heap.size + 1) w2.heap.size (wq, bq) ∧ Kept (fun j => j = w2.heap.size) W.drew w5) _ x1 hC ?_ ?_ (by omega) ?_)
          · rintro w5 aa ca ⟨O5, R5, K5⟩
            obtain ⟨z0, z1, z2⟩ := hk2 w5 aa ca K5
            exact ⟨z0, z1, z2, by have h9 := K5.size; have h8 : W.drew.heap.size = w2.heap.size + 1 := hszW; omega⟩
          · rintro w5 w6 aa ca ⟨O5, R5, K5⟩ hg6
            obtain ⟨⟨v0, v1⟩, u0, u1⟩ := twoC (hk3 w5 w6 aa ca K5 hg6)
            exact ⟨v1, u1⟩
          · rintro v22 v23 v24 v25 v26 v27 w5 w6 aa a6 ca c6 ⟨O5, R5, K5⟩ ho6 hg6
            obtain ⟨T7, m7, hz7⟩ := HF.out w5 w6 aa a6 ca c6 K5 O5 R5 ho6 hg6
            have HT7 : Hid (RLSt w (w6.setCell ⟨w.heap.size, 1, none⟩ (.slice a6 (ns.length + 1) c6)) nm (ns ++ [nd]) ls a6 c6 (.slice a3 ls.length c3)) := T7
            have HLN : Hid ((w6.setCell ⟨w.heap.size, 1, none⟩ (.slice a6 (ns.length + 1) c6)).ownsRow (w.heap.size + 1) 3 1 (.slice a3 ls.length c3) ls.length (natsV ls)) := T7.lines
            have hz8 : w2.heap.size < (w6.setCell ⟨w.heap.size, 1, none⟩ (.slice a6 (ns.length + 1) c6)).heap.size := by simpa [World.setCell] using hz7
            have hTL7 := T7.lt
            clear T7 HF hk2 hk3 O5 R5 K5 ho6 hg6 hC hv1 hv2 hv2r hv3r hrb hlb hnd KLd KL0 hRN hx x1 e0 KW d0 d1 f0 f1 HRD2
            generalize w6.setCell ⟨w.heap.size, 1, none⟩ (.slice a6 (ns.length + 1) c6) = W7 at *
            have hl9 : ls.length + 1 ≤ 100000 := by omega
            have HL9 : Hid (∀ a9 c9 w9, w9.ownsRow (w.heap.size + 1) 3 1 (.slice a9 (ls.length + 1) c9) (ls.length + 1) (natsV ls ++ [.int .i64 (line : Nat)]) → (W7.alloc (.cells #[.int .i64 (line : Nat)] 3)).grownBy w9 (Value.slice a3 ls.length c3).ownBlock →
                RLSt w w9 nm (ns ++ [nd]) (ls ++ [line]) a6 c6 (.slice a9 (ls ++ [line]).length c9) ∧ w9.cell? ⟨w2.heap.size, 1, none⟩ = some (.bool bq)) := fun a9 c9 w9 ho9 hg9 => by
              have Kg : Kept (fun g => (Value.slice a3 ls.length c3).ownBlock = some g) W7 w9 := (Kept.alloc _ _ _).and (Kept.grown hg9 (fun g e => e))
              have hne : ∀ g, (Value.slice a3 ls.length c3).ownBlock = some g → w.heap.size + 1 ≤ g ∧ g < wr.heap.size := fun g hg => ⟨(HT.out.lines.lt g hg).1, ownsRow_blk HT.out.lines hg⟩
              refine ⟨⟨(Kg.block _ hTL7 (fun e => by have := (hne _ e).1; omega)).trans HT7.out.d, ?_, ?_, HT7.out.kept.trans Kg (fun i h => .inr (by have := (hne i h).1; omega))⟩, ?_⟩
              · obtain ⟨vs2, q1, q2, q3⟩ := HT7.out.rows
                refine ⟨vs2, q1, ownsRow_keep q2 (fun g hg => Kg.block g (ownsRow_blk q2 hg) (fun e => typ_ne q2 HLN.out (by decide) hg e)), fun i hi hj => ?_⟩
                obtain ⟨aq, cq, e1, o⟩ := q3 i hi hj
                exact ⟨aq, cq, e1, ownsRow_keep o (fun g hg => Kg.block g (ownsRow_blk o hg) (fun e => typ_ne o HLN.out (by decide) hg e))⟩
              · rw [List.length_append, List.length_singleton, show natsV (ls ++ [line]) = natsV ls ++ [.int .i64 (line : Nat)] by simp [natsV]]
                exact ho9
              · rw [World.cell?_of_block (w := W7) (Kg.block _ hz8 (fun e => by have := (hne _ e).2; simp only [] at this; omega))]
                exact m7
            cases bq with
            | true =>
              have HK : Hid ((none, line) = P) := by show _ = _; rw [HQ.out]; rfl
              clear HQ
              go_wp2_with (first
                | (at_builtin; refine wpList_append_src _ rfl _ _ 37 rfl (w.heap.size + 1) 3 i0 _ 1 8 Tryd.underlying37 hi0 hz0 hz1 hz2 rfl (by decide) (.slice a3 ls.length c3) ls.length _ rfl (HLN.out.alloc _) _ rfl 1 _ (.inl ⟨_, 1, rfl, rfl, World.news_of_block (heap_alloc_new _ _)⟩) HC.out (by unfold maxLen; omega) (by omega) (by simp; omega) ?_; intro a9 c9 w9 ho9 hg9 _ hl9'; obtain ⟨T9, m9⟩ := HL9.out a9 c9 w9 ho9 hg9; have HT9 : Hid _ := T9; obtain ⟨⟨p0, p1⟩, r0, r1⟩ := twoC T9.d; clear T9 ho9 hg9 HL9)
                | fail)
              generalize hV : ((w9.setCell ⟨w.heap.size, 0, none⟩ (.string ⟨#[]⟩)).setCell ⟨w.heap.size, 1, none⟩ (.slice none 0 0)) = V
              have hp := put2 HT9.out.d (.string ⟨#[]⟩) (.slice none 0 0)
              have hk := kept2 HT9.out.kept (.string ⟨#[]⟩) (.slice none 0 0)
              rw [hV] at hp hk
              obtain ⟨⟨g0, g1⟩, _, _⟩ := twoC hp
              refine bodyPost_ret (by simp [results, Tryd.results27, go_sem, g0, g1]; try rfl) rfl ?_
              exact lines_none HK.out hk
            | false =>
              have HK : Hid (rlK (sb.size + 1) sb (line + 1) true nm (ns ++ [nd]) (ls ++ [line]) = P) := by show _ = _; rw [HQ.out]; rfl
              clear HQ
              go_wp2_with (first
                | (at_builtin; refine wpList_append_src _ rfl _ _ 37 rfl (w.heap.size + 1) 3 i0 _ 1 8 Tryd.underlying37 hi0 hz0 hz1 hz2 rfl (by decide) (.slice a3 ls.length c3) ls.length _ rfl (HLN.out.alloc _) _ rfl 1 _ (.inl ⟨_, 1, rfl, rfl, World.news_of_block (heap_alloc_new _ _)⟩) HC.out (by unfold maxLen; omega) (by omega) (by simp; omega) ?_; intro a9 c9 w9 ho9 hg9 _ hl9'; obtain ⟨T9, m9⟩ := HL9.out a9 c9 w9 ho9 hg9; have HT9 : Hid (RLSt w w9 nm (ns ++ [nd]) (ls ++ [line]) a6 c6 (.slice a9 (ls ++ [line]).length c9)) := T9; obtain ⟨⟨p0, p1⟩, r0, r1⟩ := twoC T9.d; clear T9 ho9 hg9 HL9)
                | fail)
              go_roundw
              case rel => exact ⟨sb, nm, ns ++ [nd], ls ++ [line], a6, a9, c6, c9, line + 1, true, rfl, rfl, by go_num, by simp, HT9.out, by omega, by omega, by simp; omega, by simp; omega, HK.out⟩
              case measure => simp [strLen]; omega

end Go.Proofs.YtoonnbagppliaaaDoor
