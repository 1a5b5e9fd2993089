/-
  Changes: the document's ReadOps, walked.
-/
import Derived.Test.YtceocmhgbcimoaaCXRdOps
namespace Go.Proofs.Ytceocmhgbcimoaa
open Go.RowKit

set_option maxRecDepth 100000 in
set_option maxHeartbeats 2000000 in
theorem xreadOps_any (w : World) (a : Option Addr) (m c : Nat) (raw : List Int) (B : BytesAt w a m c raw) (hm : m ≤ 1000000) :
    Calls Try.prog 50 #[.slice a m c] w fun e w' => OpsOut w' w.heap.size e (rdWhole rdOps raw) ∧ Kept (fun _ => False) w w' := by
  have A0 := XAt.new B (by omega)
  have hlen := B.len
  have hold : raw ≠ [] → ∀ ad, a = some ad → ad.block < w.heap.size := fun hne ad e => B.lt e hne
  have K0 := Kept.alloc (fun _ => False) w (.cells #[.slice a m c, .int .i64 0, .bool false, .int .i64 0] 153)
  have hN := xrd_any A0 0 4503599627370496
  simp only [xnext] at hN
  obtain ⟨n, hn, hfull⟩ := rdOps_full raw
  rw [hn] at hN
  have HN : Hid _ := hfull
  obtain ⟨s0, hs0⟩ : ∃ s, s = xst (rdNum 0 4503599627370496 raw 0) := ⟨_, rfl⟩
  rw [← hs0] at hN
  have Hs : Hid _ := hs0
  clear B A0 hfull hs0 hn
  go_enter Try.func50, Try.ntmps50
  go_wp2_with (first
    | (go_at_call 99; refine hN.mono ?_; rintro e w1 ⟨rfl, A1, K1⟩; clear hN)
    | fail)
  have S1 : XL w w1 a m c raw s0 [] (.slice none 0 0) := ⟨A1, World.ownsRow_nil _ _ _ _, K0.trans K1 (fun k h => .inr (Nat.le_of_eq (Eq.symm h))), hold⟩
  have R1 : LRel (fullOf n raw s0) raw n [] s0 := by
    cases s0 with
    | error pl => exact rfl
    | ok i => exact ⟨Nat.zero_le _, rfl⟩
  clear A1 K1 K0
  obtain ⟨t0, ht0, hz0, hz1, hz2⟩ := opInfo
  go_loopw [6, 8] (fun l i wr => ∃ (a4 : Option Addr) (c4 k : Nat) (st : Except Nat Nat) (xs : List RdD), l = .slice a4 k c4 ∧ i = .int .i64 k ∧ k ≤ n ∧ xs.length = k ∧ k ≤ 1000001 ∧ XL w wr a m c raw st xs (.slice a4 k c4) ∧ LRel (fullOf n raw s0) raw (n - k) xs st) (fun _ i _ => n - (intOf i).toNat)
  case atStart => exact ⟨none, 0, 0, s0, [], rfl, rfl, Nat.zero_le _, rfl, by omega, S1, R1⟩
  case round =>
    clear S1 R1
    obtain ⟨a4, c4, k, st, xs, rfl, rfl, hk, hxl, hkm, S, R⟩ := hrel
    by_cases hgo : k < n ∧ ∃ j, st = .ok j
    · obtain ⟨hkn, j, rfl⟩ := hgo
      have hc : (k : Int) < (n : Int) := by omega
      obtain ⟨q, hq⟩ : ∃ q, n - k = q + 1 := ⟨n - k - 1, by omega⟩
      rw [hq] at R
      have hkj : k ≤ j := by have := R.1; omega
      obtain ⟨on, hh, hjm⟩ := S.rd.open
      obtain ⟨c2, _⟩ := cellOf' hh (o := 2) rfl
      have hrl := S.rd.lt
      have E0 := XEl.new (T := 166) (zs := #[.string ⟨#[]⟩, .string ⟨#[]⟩, .bool false]) S.rd hrl (fun h ad e => by have := S.old h ad e; omega)
      have hT : ∀ w' cs, XEl (wr.alloc (.cells #[.string ⟨#[]⟩, .string ⟨#[]⟩, .bool false] 166)) w' 166 wr.heap.size w.heap.size a m c raw (.ok j) cs → _ := fun w' cs E => xel_text E
      have hG : ∀ w' cs, XEl (wr.alloc (.cells #[.string ⟨#[]⟩, .string ⟨#[]⟩, .bool false] 166)) w' 166 wr.heap.size w.heap.size a m c raw (xst (xnext rdText raw (.ok j))) cs → _ := fun w' cs E => xel_flag E
      have hU : ∀ w' cs, XEl (wr.alloc (.cells #[.string ⟨#[]⟩, .string ⟨#[]⟩, .bool false] 166)) w' 166 wr.heap.size w.heap.size a m c raw (xst (xnext rdFlag raw (xst (xnext rdText raw (.ok j))))) cs → _ := fun w' cs E => xel_text E
      have hx1 := xop_gone (raw := raw) (j := j)
      have hx2 := xop_set (raw := raw) (j := j)
      have HS : Hid (XL w wr a m c raw (.ok j) xs (.slice a4 k c4)) := S
      have HR : Hid (LRel (fullOf n raw s0) raw (q + 1) xs (.ok j)) := R
      generalize xval ⟨#[]⟩ (xnext rdText raw (xst (xnext rdFlag raw (xst (xnext rdText raw (.ok j)))))) = xv at *
      generalize xst (xnext rdText raw (xst (xnext rdFlag raw (xst (xnext rdText raw (.ok j)))))) = s3 at *
      generalize xval false (xnext rdFlag raw (xst (xnext rdText raw (.ok j)))) = xg at *
      generalize xst (xnext rdFlag raw (xst (xnext rdText raw (.ok j)))) = s2 at *
      generalize xval ⟨#[]⟩ (xnext rdText raw (.ok j)) = xk at *
      generalize xst (xnext rdText raw (.ok j)) = s1 at *
      clear S R hh
      cases xg with
      | true =>
        have HX : Hid _ := hx1 rfl
        clear hx1 hx2 hU
        go_wp2_with (first
          | (go_at_call 98; have _t := E0; refine (hT _ _ E0).mono ?_; rintro e w1 ⟨rfl, E1⟩; obtain ⟨p0, f0⟩ := E1.cell (o := 0) rfl; have E2 : XEl (wr.alloc (.cells #[.string ⟨#[]⟩, .string ⟨#[]⟩, .bool false] 166)) (w1.setCell ⟨wr.heap.size, 0, none⟩ (.string xk)) 166 wr.heap.size w.heap.size a m c raw s1 #[.string xk, .string ⟨#[]⟩, .bool false] := E1.store 0 (.string xk); clear E0 E1 _t hT)
          | (go_at_call 110; refine (hG _ _ E2).mono ?_; rintro e w2 ⟨rfl, E3⟩; obtain ⟨p2, f2⟩ := E3.cell (o := 2) rfl; have E4 : XEl (wr.alloc (.cells #[.string ⟨#[]⟩, .string ⟨#[]⟩, .bool false] 166)) (w2.setCell ⟨wr.heap.size, 2, none⟩ (.bool true)) 166 wr.heap.size w.heap.size a m c raw s2 #[.string xk, .string ⟨#[]⟩, .bool true] := E3.store 2 (.bool true); have y0 := (E4.cell (o := 0) rfl).1; have y1 := (E4.cell (o := 1) rfl).1; have y2 := (E4.cell (o := 2) rfl).1; have S4 := HS.out.read E4; have r4 := S4.row; rw [hxl] at r4; have ra := r4.alloc (.cells #[.string xk, .string ⟨#[]⟩, .bool true] 166); have hb : w.heap.size + 1 ≤ ((w2.setCell ⟨wr.heap.size, 2, none⟩ (.bool true)).alloc (.cells #[.string xk, .string ⟨#[]⟩, .bool true] 166)).heap.size := (by have := S4.rd.lt; simp at this ⊢; omega); have sN : Src ((w2.setCell ⟨wr.heap.size, 2, none⟩ (.bool true)).alloc (.cells #[.string xk, .string ⟨#[]⟩, .bool true] 166)) 3 (.slice (some ⟨w2.heap.size, 0, none⟩) 1 1) 1 [.string xk, .string ⟨#[]⟩, .bool true] := (by have h := srcOp (w := (w2.setCell ⟨wr.heap.size, 2, none⟩ (.bool true))) (x := xk) (y := ⟨#[]⟩) (g := true) (t := 166); have e : (w2.setCell ⟨wr.heap.size, 2, none⟩ (.bool true)).heap.size = w2.heap.size := (by simp [World.setCell]); rw [e] at h; exact h); have HS4 : Hid _ := S4; clear E2 E3 hG S4 r4)
          | (at_builtin; refine wpList_append_src _ rfl _ _ 80 rfl (w.heap.size + 1) 166 t0 _ 3 40 Try.underlying80 ht0 hz0 hz1 hz2 rfl (by decide) (.slice a4 k c4) k _ rfl ra _ rfl 1 _ sN (by simp [Value.oneCell']) (by unfold maxLen; omega) (by omega) hb ?_; intro a5 c5 w5 ho5 hg5 _ hl5; have S5 := HS4.out.push (x := (xk, true, ⟨#[]⟩)) ((Kept.alloc _ _ _).and (Kept.grown hg5 (fun k e => e))) (by rw [hxl]; exact ho5); clear ra hb sN ho5 hg5 hl5)
          | fail)
        go_roundw
        case rel => exact ⟨_, _, k + 1, s2, xs ++ [(xk, true, ⟨#[]⟩)], rfl, by simp, by omega, by simp; omega, by omega, S5, by rw [show n - (k + 1) = q by omega]; exact HR.out.next HX.out⟩
        case measure => simp [intOf]; omega
      | false =>
        have HX : Hid _ := hx2 rfl
        clear hx1 hx2
        go_wp2_with (first
          | (go_at_call 98; have _t := E0; refine (hT _ _ E0).mono ?_; rintro e w1 ⟨rfl, E1⟩; obtain ⟨p0, f0⟩ := E1.cell (o := 0) rfl; have E2 : XEl (wr.alloc (.cells #[.string ⟨#[]⟩, .string ⟨#[]⟩, .bool false] 166)) (w1.setCell ⟨wr.heap.size, 0, none⟩ (.string xk)) 166 wr.heap.size w.heap.size a m c raw s1 #[.string xk, .string ⟨#[]⟩, .bool false] := E1.store 0 (.string xk); clear E0 E1 _t hT)
          | (go_at_call 110; refine (hG _ _ E2).mono ?_; rintro e w2 ⟨rfl, E3⟩; obtain ⟨p2, f2⟩ := E3.cell (o := 2) rfl; have E4 : XEl (wr.alloc (.cells #[.string ⟨#[]⟩, .string ⟨#[]⟩, .bool false] 166)) (w2.setCell ⟨wr.heap.size, 2, none⟩ (.bool false)) 166 wr.heap.size w.heap.size a m c raw s2 #[.string xk, .string ⟨#[]⟩, .bool false] := E3.store 2 (.bool false); have z2 := (E4.cell (o := 2) rfl).1; clear E2 E3 hG)
          | (go_at_call 98; refine (hU _ _ E4).mono ?_; rintro e w3 ⟨rfl, E5⟩; obtain ⟨p1, f1⟩ := E5.cell (o := 1) rfl; have E6 : XEl (wr.alloc (.cells #[.string ⟨#[]⟩, .string ⟨#[]⟩, .bool false] 166)) (w3.setCell ⟨wr.heap.size, 1, none⟩ (.string xv)) 166 wr.heap.size w.heap.size a m c raw s3 #[.string xk, .string xv, .bool false] := E5.store 1 (.string xv); have y0 := (E6.cell (o := 0) rfl).1; have y1 := (E6.cell (o := 1) rfl).1; have y2 := (E6.cell (o := 2) rfl).1; have S4 := HS.out.read E6; have r4 := S4.row; rw [hxl] at r4; have ra := r4.alloc (.cells #[.string xk, .string xv, .bool false] 166); have hb : w.heap.size + 1 ≤ ((w3.setCell ⟨wr.heap.size, 1, none⟩ (.string xv)).alloc (.cells #[.string xk, .string xv, .bool false] 166)).heap.size := (by have := S4.rd.lt; simp at this ⊢; omega); have sN : Src ((w3.setCell ⟨wr.heap.size, 1, none⟩ (.string xv)).alloc (.cells #[.string xk, .string xv, .bool false] 166)) 3 (.slice (some ⟨w3.heap.size, 0, none⟩) 1 1) 1 [.string xk, .string xv, .bool false] := (by have h := srcOp (w := (w3.setCell ⟨wr.heap.size, 1, none⟩ (.string xv))) (x := xk) (y := xv) (g := false) (t := 166); have e : (w3.setCell ⟨wr.heap.size, 1, none⟩ (.string xv)).heap.size = w3.heap.size := (by simp [World.setCell]); rw [e] at h; exact h); have HS4 : Hid _ := S4; clear E4 E5 hU S4 r4)
          | (at_builtin; refine wpList_append_src _ rfl _ _ 80 rfl (w.heap.size + 1) 166 t0 _ 3 40 Try.underlying80 ht0 hz0 hz1 hz2 rfl (by decide) (.slice a4 k c4) k _ rfl ra _ rfl 1 _ sN (by simp [Value.oneCell']) (by unfold maxLen; omega) (by omega) hb ?_; intro a5 c5 w5 ho5 hg5 _ hl5; have S5 := HS4.out.push (x := (xk, false, xv)) ((Kept.alloc _ _ _).and (Kept.grown hg5 (fun k e => e))) (by rw [hxl]; exact ho5); clear ra hb sN ho5 hg5 hl5)
          | fail)
        go_roundw
        case rel => exact ⟨_, _, k + 1, s3, xs ++ [(xk, false, xv)], rfl, by simp, by omega, by simp; omega, by omega, S5, by rw [show n - (k + 1) = q by omega]; exact HR.out.next HX.out⟩
        case measure => simp [intOf]; omega
    · have hE := xend_any S.rd
      have hq0 : (∃ j, st = .ok j) → n - k = 0 := fun h => by
        by_cases hkn : k < n
        · exact absurd ⟨hkn, h⟩ hgo
        · omega
      have hfin : ∀ w5, Kept (fun k => k = w.heap.size) wr w5 → _ := fun w5 K5 => S.told K5 (by rw [← Hs.out]; exact R) HN.out hq0
      have HF : Hid _ := hfin
      by_cases hkn : k < n
      · have hc : (k : Int) < (n : Int) := by omega
        cases st with
        | ok j => exact absurd ⟨hkn, j, rfl⟩ hgo
        | error pl =>
          obtain ⟨at', hh⟩ := S.rd.shut
          obtain ⟨c2, _⟩ := cellOf' hh (o := 2) rfl
          simp only [xend, endTup] at hE
          clear S R hh hfin
          go_wp2_with (first
            | (go_at_call 100; refine hE.mono ?_; rintro e w5 ⟨rfl, K5⟩; clear hE)
            | fail)
          go_ret3
          obtain ⟨f1, f2, f3⟩ := HF.out w5 K5
          exact ⟨f2 pl rfl, f1⟩
      · obtain rfl : k = n := by omega
        have hc : ¬ ((k : Int) < (k : Int)) := by omega
        cases hx : xend raw st with
        | error pl =>
          rw [hx] at hE
          simp only [endTup] at hE
          clear S R hfin
          go_wp2_with (first
            | (go_at_call 100; refine hE.mono ?_; rintro e w5 ⟨rfl, K5⟩; clear hE)
            | fail)
          go_ret3
          obtain ⟨f1, f2, f3⟩ := HF.out w5 K5
          exact ⟨f2 pl hx, f1⟩
        | ok u =>
          rw [hx] at hE
          simp only [endTup] at hE
          clear S R hfin
          go_wp2_with (first
            | (go_at_call 100; refine hE.mono ?_; rintro e w5 ⟨rfl, K5⟩; clear hE)
            | fail)
          go_ret3
          obtain ⟨f1, f2, f3⟩ := HF.out w5 K5
          exact ⟨f3 u hx, f1⟩

end Go.Proofs.Ytceocmhgbcimoaa
