/-
  A state: the document's ReadState, walked.
-/
import Derived.Test.YtceocmhgbcimoaaCXState
namespace Go.Proofs.Ytceocmhgbcimoaa
open Go.RowKit

theorem xst_end {w0 w : World} {T : TypeId} {R r E : Nat} {a : Option Addr} {m c : Nat} {raw : List Int} {st : Except Nat Nat} {zs cs : Array Value} (S : XRec w0 w T R r E a m c raw st zs cs) :
    Calls Try.prog 100 #[.pointer (some ⟨r, 0, none⟩)] w fun e w' => e = .returned (endTup (xend raw st)) ∧ (w'.heap[E]? = some (.cells cs T (0, 0)) ∧ w'.heap[R]? = some (.cells zs T (0, 0))) ∧ Kept (fun _ => False) w0 w' ∧ Kept (fun k => k = r) w w' := by
  refine (xend_any S.rd).mono (fun _ _ ⟨h, K⟩ => ⟨h, ?_, ?_, K⟩)
  · have h1 := S.r1
    have h2 := S.r2
    have h3 := S.r3
    have hE := S.ltE
    exact ⟨(K.block E hE (by show ¬ E = r; omega)).trans S.rcd, (K.block R (by omega) (by show ¬ R = r; omega)).trans S.res⟩
  · have h1 := S.r1
    have h2 := S.r2
    exact S.kept.trans K (fun k h => .inr (by omega))

set_option maxRecDepth 100000 in
set_option maxHeartbeats 4000000 in
theorem xstate_gen {w : World} {a : Option Addr} {m c : Nat} {raw : List Int} {t0 t1 t2 t3 t4 t5 t6 : Except Nat Nat} {y0 y1 y2 y3 : ByteArray} {y4 : Int} {y5 : ByteArray} (hm : m ≤ 1000000) (S0 : XRec w (((w.alloc (.cells #[.string ⟨#[]⟩, .string ⟨#[]⟩, .string ⟨#[]⟩, .string ⟨#[]⟩, .int .i64 0, .string ⟨#[]⟩, .slice none 0 0, .slice none 0 0, .int .i64 0] 72)).alloc (.cells #[.slice a m c, .int .i64 0, .bool false, .int .i64 0] 153)).alloc (.cells #[.string ⟨#[]⟩, .string ⟨#[]⟩, .string ⟨#[]⟩, .string ⟨#[]⟩, .int .i64 0, .string ⟨#[]⟩, .slice none 0 0, .slice none 0 0, .int .i64 0] 72)) 72 w.heap.size (w.heap.size + 1) (w.heap.size + 1 + 1) a m c raw t0 #[.string ⟨#[]⟩, .string ⟨#[]⟩, .string ⟨#[]⟩, .string ⟨#[]⟩, .int .i64 0, .string ⟨#[]⟩, .slice none 0 0, .slice none 0 0, .int .i64 0] #[.string ⟨#[]⟩, .string ⟨#[]⟩, .string ⟨#[]⟩, .string ⟨#[]⟩, .int .i64 0, .string ⟨#[]⟩, .slice none 0 0, .slice none 0 0, .int .i64 0])
    (f0 : Hid (∀ (w0 w : World) (T : TypeId) (R r E : Nat) (zs cs : Array Value), XRec w0 w T R r E a m c raw t0 zs cs → Calls Try.prog 98 #[.pointer (some ⟨r, 0, none⟩)] w fun e w' => e = .returned (.string y0) ∧ XRec w0 w' T R r E a m c raw t1 zs cs))
    (f1 : Hid (∀ (w0 w : World) (T : TypeId) (R r E : Nat) (zs cs : Array Value), XRec w0 w T R r E a m c raw t1 zs cs → Calls Try.prog 98 #[.pointer (some ⟨r, 0, none⟩)] w fun e w' => e = .returned (.string y1) ∧ XRec w0 w' T R r E a m c raw t2 zs cs))
    (f2 : Hid (∀ (w0 w : World) (T : TypeId) (R r E : Nat) (zs cs : Array Value), XRec w0 w T R r E a m c raw t2 zs cs → Calls Try.prog 98 #[.pointer (some ⟨r, 0, none⟩)] w fun e w' => e = .returned (.string y2) ∧ XRec w0 w' T R r E a m c raw t3 zs cs))
    (f3 : Hid (∀ (w0 w : World) (T : TypeId) (R r E : Nat) (zs cs : Array Value), XRec w0 w T R r E a m c raw t3 zs cs → Calls Try.prog 98 #[.pointer (some ⟨r, 0, none⟩)] w fun e w' => e = .returned (.string y3) ∧ XRec w0 w' T R r E a m c raw t4 zs cs))
    (f4 : Hid (∀ (w0 w : World) (T : TypeId) (R r E : Nat) (zs cs : Array Value), XRec w0 w T R r E a m c raw t4 zs cs → Calls Try.prog 99 #[.pointer (some ⟨r, 0, none⟩), .int .i64 0, .int .i64 4] w fun e w' => e = .returned (.int .i64 y4) ∧ XRec w0 w' T R r E a m c raw t5 zs cs))
    (f5 : Hid (∀ (w0 w : World) (T : TypeId) (R r E : Nat) (zs cs : Array Value), XRec w0 w T R r E a m c raw t5 zs cs → Calls Try.prog 98 #[.pointer (some ⟨r, 0, none⟩)] w fun e w' => e = .returned (.string y5) ∧ XRec w0 w' T R r E a m c raw t6 zs cs))
    (ht6 : Hid (t6 = xst (sP5 raw))) (hv : Hid (y0 = xval ⟨#[]⟩ (sP0 raw) ∧ y1 = xval ⟨#[]⟩ (sP1 raw) ∧ y2 = xval ⟨#[]⟩ (sP2 raw) ∧ y3 = xval ⟨#[]⟩ (sP3 raw) ∧ y4 = xval 0 (sP4 raw) ∧ y5 = xval ⟨#[]⟩ (sP5 raw))) :
    Calls Try.prog 44 #[.slice a m c] w fun e w' => StateOut w' w.heap.size e (rdWhole rdState raw) ∧ Kept (fun _ => False) w w' := by
  obtain ⟨n1, hn1, hf1⟩ := lst_full rdNode raw t6
  have Hf1 : Hid _ := hf1
  clear hf1
  obtain ⟨t0N, ht0N, hz0N, hz1N, hz2N⟩ := nodeInfo
  obtain ⟨t0G, ht0G, hz0G, hz1G, hz2G⟩ := signalInfo
  go_enter Try.func44, Try.ntmps44
  go_wp2_with (first
    | (go_at_call 98; have _t := S0; refine (f0.out _ _ _ _ _ _ _ _ S0).mono ?_; rintro e w1 ⟨rfl, T1⟩; obtain ⟨p0, q0⟩ := T1.cell (o := 0) rfl; have S1 : XRec w (w1.setCell ⟨w.heap.size + 1 + 1, 0, none⟩ (.string y0)) 72 w.heap.size (w.heap.size + 1) (w.heap.size + 1 + 1) a m c raw t1 #[.string ⟨#[]⟩, .string ⟨#[]⟩, .string ⟨#[]⟩, .string ⟨#[]⟩, .int .i64 0, .string ⟨#[]⟩, .slice none 0 0, .slice none 0 0, .int .i64 0] #[.string y0, .string ⟨#[]⟩, .string ⟨#[]⟩, .string ⟨#[]⟩, .int .i64 0, .string ⟨#[]⟩, .slice none 0 0, .slice none 0 0, .int .i64 0] := T1.store 0 (.string y0); clear S0 _t T1 f0)
    | (go_at_call 98; have _t := S1; refine (f1.out _ _ _ _ _ _ _ _ S1).mono ?_; rintro e w2 ⟨rfl, T2⟩; obtain ⟨p1, q1⟩ := T2.cell (o := 1) rfl; have S2 : XRec w (w2.setCell ⟨w.heap.size + 1 + 1, 1, none⟩ (.string y1)) 72 w.heap.size (w.heap.size + 1) (w.heap.size + 1 + 1) a m c raw t2 #[.string ⟨#[]⟩, .string ⟨#[]⟩, .string ⟨#[]⟩, .string ⟨#[]⟩, .int .i64 0, .string ⟨#[]⟩, .slice none 0 0, .slice none 0 0, .int .i64 0] #[.string y0, .string y1, .string ⟨#[]⟩, .string ⟨#[]⟩, .int .i64 0, .string ⟨#[]⟩, .slice none 0 0, .slice none 0 0, .int .i64 0] := T2.store 1 (.string y1); clear S1 _t T2 f1)
    | (go_at_call 98; have _t := S2; refine (f2.out _ _ _ _ _ _ _ _ S2).mono ?_; rintro e w3 ⟨rfl, T3⟩; obtain ⟨p2, q2⟩ := T3.cell (o := 2) rfl; have S3 : XRec w (w3.setCell ⟨w.heap.size + 1 + 1, 2, none⟩ (.string y2)) 72 w.heap.size (w.heap.size + 1) (w.heap.size + 1 + 1) a m c raw t3 #[.string ⟨#[]⟩, .string ⟨#[]⟩, .string ⟨#[]⟩, .string ⟨#[]⟩, .int .i64 0, .string ⟨#[]⟩, .slice none 0 0, .slice none 0 0, .int .i64 0] #[.string y0, .string y1, .string y2, .string ⟨#[]⟩, .int .i64 0, .string ⟨#[]⟩, .slice none 0 0, .slice none 0 0, .int .i64 0] := T3.store 2 (.string y2); clear S2 _t T3 f2)
    | (go_at_call 98; have _t := S3; refine (f3.out _ _ _ _ _ _ _ _ S3).mono ?_; rintro e w4 ⟨rfl, T4⟩; obtain ⟨p3, q3⟩ := T4.cell (o := 3) rfl; have S4 : XRec w (w4.setCell ⟨w.heap.size + 1 + 1, 3, none⟩ (.string y3)) 72 w.heap.size (w.heap.size + 1) (w.heap.size + 1 + 1) a m c raw t4 #[.string ⟨#[]⟩, .string ⟨#[]⟩, .string ⟨#[]⟩, .string ⟨#[]⟩, .int .i64 0, .string ⟨#[]⟩, .slice none 0 0, .slice none 0 0, .int .i64 0] #[.string y0, .string y1, .string y2, .string y3, .int .i64 0, .string ⟨#[]⟩, .slice none 0 0, .slice none 0 0, .int .i64 0] := T4.store 3 (.string y3); clear S3 _t T4 f3)
    | (go_at_call 99; have _t := S4; refine (f4.out _ _ _ _ _ _ _ _ S4).mono ?_; rintro e w5 ⟨rfl, T5⟩; obtain ⟨p4, q4⟩ := T5.cell (o := 4) rfl; have S5 : XRec w (w5.setCell ⟨w.heap.size + 1 + 1, 4, none⟩ (.int .i64 y4)) 72 w.heap.size (w.heap.size + 1) (w.heap.size + 1 + 1) a m c raw t5 #[.string ⟨#[]⟩, .string ⟨#[]⟩, .string ⟨#[]⟩, .string ⟨#[]⟩, .int .i64 0, .string ⟨#[]⟩, .slice none 0 0, .slice none 0 0, .int .i64 0] #[.string y0, .string y1, .string y2, .string y3, .int .i64 y4, .string ⟨#[]⟩, .slice none 0 0, .slice none 0 0, .int .i64 0] := T5.store 4 (.int .i64 y4); clear S4 _t T5 f4)
    | (go_at_call 98; have _t := S5; refine (f5.out _ _ _ _ _ _ _ _ S5).mono ?_; rintro e w6 ⟨rfl, T6⟩; obtain ⟨p5, q5⟩ := T6.cell (o := 5) rfl; have S6 : XRec w (w6.setCell ⟨w.heap.size + 1 + 1, 5, none⟩ (.string y5)) 72 w.heap.size (w.heap.size + 1) (w.heap.size + 1 + 1) a m c raw t6 #[.string ⟨#[]⟩, .string ⟨#[]⟩, .string ⟨#[]⟩, .string ⟨#[]⟩, .int .i64 0, .string ⟨#[]⟩, .slice none 0 0, .slice none 0 0, .int .i64 0] #[.string y0, .string y1, .string y2, .string y3, .int .i64 y4, .string y5, .slice none 0 0, .slice none 0 0, .int .i64 0] := T6.store 5 (.string y5); clear S5 _t T6 f5)
    | (go_at_call 99; have _t := S6; refine (xrec_num S6 0 4503599627370496).mono ?_; rintro e w7 ⟨rfl, S7⟩; rw [hn1]; clear S6 _t)
    | fail)
  obtain ⟨t7, ht7⟩ : ∃ t, t = xst (xnext (rdNum 0 4503599627370496) raw t6) := ⟨_, rfl⟩
  rw [← ht7] at S7
  have Ht7 : Hid _ := ht7
  have hB1 := S7.ltE
  clear ht7 hn1
  go_loopw [8] (fun i wr => ∃ (a6 : Option Addr) (c6 k : Nat) (st : Except Nat Nat) (xs : List NodeD), i = .int .i64 k ∧ k ≤ n1 ∧ xs.length = k ∧ k ≤ 1000001 ∧ XRec w wr 72 w.heap.size (w.heap.size + 1) (w.heap.size + 1 + 1) a m c raw st #[.string ⟨#[]⟩, .string ⟨#[]⟩, .string ⟨#[]⟩, .string ⟨#[]⟩, .int .i64 0, .string ⟨#[]⟩, .slice none 0 0, .slice none 0 0, .int .i64 0] #[.string y0, .string y1, .string y2, .string y3, .int .i64 y4, .string y5, .slice a6 k c6, .slice none 0 0, .int .i64 0] ∧ wr.ownsRow w7.heap.size 122 3 (.slice a6 k c6) k (xs.flatMap nodeC) ∧ Kept (fun k => k = w.heap.size + 1 ∨ k = w.heap.size + 1 + 1) w7 wr ∧ LRelG rdNode (fullG rdNode n1 raw t7) raw (n1 - k) xs st) (fun i _ => n1 - (intOf i).toNat)
  case atStart => exact ⟨none, 0, 0, t7, [], rfl, Nat.zero_le _, rfl, by omega, S7, World.ownsRow_nil _ _ _ _, Kept.refl _ _, LRelG.start⟩
  case round =>
    clear S7
    obtain ⟨a6, c6, k, st, xs, rfl, hk, hxl, hkm, S, row, KW, Rl⟩ := hrel
    by_cases hgo : k < n1 ∧ ∃ j, st = .ok j
    · obtain ⟨hkn, j, rfl⟩ := hgo
      have hc : (k : Int) < (n1 : Int) := by omega
      obtain ⟨q, hq⟩ : ∃ q, n1 - k = q + 1 := ⟨n1 - k - 1, by omega⟩
      rw [hq] at Rl
      have hkj : k ≤ j := by have := Rl.1; omega
      obtain ⟨on, hh, hjm⟩ := S.rd.open
      obtain ⟨c2, _⟩ := cellOf' hh (o := 2) rfl
      have hEl := S.ltE
      have hBw := KW.size
      have E0 := XEl.new (T := 122) (zs := #[.int .i64 0, .int .i64 0, .string ⟨#[]⟩]) S.rd (by omega) (fun h ad e => by have := S.old h ad e; omega)
      have h0 : ∀ w' cs, XEl (wr.alloc (.cells #[.int .i64 0, .int .i64 0, .string ⟨#[]⟩] 122)) w' 122 wr.heap.size (w.heap.size + 1) a m c raw (.ok j) cs → _ := fun w' cs E => xel_num E 0 4
      have h1 : ∀ w' cs, XEl (wr.alloc (.cells #[.int .i64 0, .int .i64 0, .string ⟨#[]⟩] 122)) w' 122 wr.heap.size (w.heap.size + 1) a m c raw (xst (xnext (rdNum 0 4) raw (.ok j))) cs → _ := fun w' cs E => xel_num E 0 4503599627370496
      have h2 : ∀ w' cs, XEl (wr.alloc (.cells #[.int .i64 0, .int .i64 0, .string ⟨#[]⟩] 122)) w' 122 wr.heap.size (w.heap.size + 1) a m c raw (xst (xnext (rdNum 0 4503599627370496) raw (xst (xnext (rdNum 0 4) raw (.ok j))))) cs → _ := fun w' cs E => xel_text E
      have hx := xnode_one (raw := raw) (j := j)
      have HS : Hid _ := S
      have HR : Hid (LRelG rdNode (fullG rdNode n1 raw t7) raw (q + 1) xs (.ok j)) := Rl
      have Hrow : Hid (wr.ownsRow w7.heap.size 122 3 (.slice a6 k c6) k (xs.flatMap nodeC)) := row
      have HKW : Hid _ := KW
      generalize xval ⟨#[]⟩ (xnext rdText raw (xst (xnext (rdNum 0 4503599627370496) raw (xst (xnext (rdNum 0 4) raw (.ok j)))))) = u2 at *
      generalize xst (xnext rdText raw (xst (xnext (rdNum 0 4503599627370496) raw (xst (xnext (rdNum 0 4) raw (.ok j)))))) = s3 at *
      generalize xval 0 (xnext (rdNum 0 4503599627370496) raw (xst (xnext (rdNum 0 4) raw (.ok j)))) = u1 at *
      generalize xst (xnext (rdNum 0 4503599627370496) raw (xst (xnext (rdNum 0 4) raw (.ok j)))) = s2 at *
      generalize xval 0 (xnext (rdNum 0 4) raw (.ok j)) = u0 at *
      generalize xst (xnext (rdNum 0 4) raw (.ok j)) = s1 at *
      have HX : Hid _ := hx
      clear S Rl hh row KW hx
      go_wp2_with (first
        | (go_at_call 99; have _t := E0; refine (h0 _ _ E0).mono ?_; rintro e w20 ⟨rfl, Q0⟩; obtain ⟨m0, g0⟩ := Q0.cell (o := 0) rfl; have E1 : XEl (wr.alloc (.cells #[.int .i64 0, .int .i64 0, .string ⟨#[]⟩] 122)) (w20.setCell ⟨wr.heap.size, 0, none⟩ (.int .i64 u0)) 122 wr.heap.size (w.heap.size + 1) a m c raw s1 #[.int .i64 u0, .int .i64 0, .string ⟨#[]⟩] := Q0.store 0 (.int .i64 u0); clear E0 Q0 _t h0)
        | (go_at_call 99; have _t := E1; refine (h1 _ _ E1).mono ?_; rintro e w21 ⟨rfl, Q1⟩; obtain ⟨m1, g1⟩ := Q1.cell (o := 1) rfl; have E2 : XEl (wr.alloc (.cells #[.int .i64 0, .int .i64 0, .string ⟨#[]⟩] 122)) (w21.setCell ⟨wr.heap.size, 1, none⟩ (.int .i64 u1)) 122 wr.heap.size (w.heap.size + 1) a m c raw s2 #[.int .i64 u0, .int .i64 u1, .string ⟨#[]⟩] := Q1.store 1 (.int .i64 u1); clear E1 Q1 _t h1)
        | (go_at_call 98; have _t := E2; refine (h2 _ _ E2).mono ?_; rintro e w22 ⟨rfl, Q2⟩; obtain ⟨m2, g2⟩ := Q2.cell (o := 2) rfl; have E3 : XEl (wr.alloc (.cells #[.int .i64 0, .int .i64 0, .string ⟨#[]⟩] 122)) (w22.setCell ⟨wr.heap.size, 2, none⟩ (.string u2)) 122 wr.heap.size (w.heap.size + 1) a m c raw s3 #[.int .i64 u0, .int .i64 u1, .string u2] := Q2.store 2 (.string u2); clear E2 Q2 _t h2; have l0 := (E3.cell (o := 0) rfl).1; have l1 := (E3.cell (o := 1) rfl).1; have l2 := (E3.cell (o := 2) rfl).1; have KE : Kept (fun k => k = w.heap.size + 1) wr (w22.setCell ⟨wr.heap.size, 2, none⟩ (.string u2)) := (Kept.alloc (fun k => k = w.heap.size + 1) wr _).trans E3.kept (fun k hk => by rcases hk with hk | hk; exact .inl hk; exact .inr (Nat.le_of_eq hk.symm)); have SX := HS.out.to KE E3.rd; have rowX := xrow_keep KE Hrow.out (fun k h => by have h' : k = w.heap.size + 1 := h; omega); obtain ⟨d6, _⟩ := SX.cell (o := 6) rfl; have dB := (cell_keep (Kept.alloc (fun _ => False) _ (.cells #[.int .i64 u0, .int .i64 u1, .string u2] 122)) d6 (fun h => h)).1; have ra := rowX.alloc (.cells #[.int .i64 u0, .int .i64 u1, .string u2] 122); have sN : Src ((w22.setCell ⟨wr.heap.size, 2, none⟩ (.string u2)).alloc (.cells #[.int .i64 u0, .int .i64 u1, .string u2] 122)) 3 (.slice (some ⟨w22.heap.size, 0, none⟩) 1 1) 1 [.int .i64 u0, .int .i64 u1, .string u2] := (by have h := srcNode (w := (w22.setCell ⟨wr.heap.size, 2, none⟩ (.string u2))) (x0 := u0) (x1 := u1) (x2 := u2) (t := 122); have e : (w22.setCell ⟨wr.heap.size, 2, none⟩ (.string u2)).heap.size = w22.heap.size := (by simp [World.setCell]); rw [e] at h; exact h); have hszX := KE.size; have hb : w7.heap.size ≤ ((w22.setCell ⟨wr.heap.size, 2, none⟩ (.string u2)).alloc (.cells #[.int .i64 u0, .int .i64 u1, .string u2] 122)).heap.size := (by simp only [World.alloc, Array.size_push]; omega); have HSX : Hid _ := SX; have HrX : Hid (World.ownsRow (w22.setCell ⟨wr.heap.size, 2, none⟩ (.string u2)) w7.heap.size 122 3 (.slice a6 k c6) k (xs.flatMap nodeC)) := rowX; have HKE : Hid _ := KE; clear SX rowX KE E3; have kp : ∀ w5, ((w22.setCell ⟨wr.heap.size, 2, none⟩ (.string u2)).alloc (.cells #[.int .i64 u0, .int .i64 u1, .string u2] 122)).grownBy w5 (Value.slice a6 k c6).ownBlock → XRec w w5 72 w.heap.size (w.heap.size + 1) (w.heap.size + 1 + 1) a m c raw s3 #[.string ⟨#[]⟩, .string ⟨#[]⟩, .string ⟨#[]⟩, .string ⟨#[]⟩, .int .i64 0, .string ⟨#[]⟩, .slice none 0 0, .slice none 0 0, .int .i64 0] #[.string y0, .string y1, .string y2, .string y3, .int .i64 y4, .string y5, .slice a6 k c6, .slice none 0 0, .int .i64 0] ∧ Kept (fun k => k = w.heap.size + 1 ∨ k = w.heap.size + 1 + 1) w7 w5 := (fun w5 hg => by have K5 : Kept (fun kk => (Value.slice a6 k c6).ownBlock = some kk) (w22.setCell ⟨wr.heap.size, 2, none⟩ (.string u2)) w5 := (Kept.alloc _ _ _).and (Kept.grown hg (fun k e => e)); exact ⟨HSX.out.keep K5 (fun kk h => by have := (HrX.out.lt kk h).1; omega), (HKW.out.and (HKE.out.mono (fun _ h => .inl h))).trans K5 (fun kk h => .inr (Nat.le_trans (Nat.le_refl _) (by have := (HrX.out.lt kk h).1; omega)))⟩))
        | (at_builtin; refine wpList_append_src _ rfl _ _ 69 rfl w7.heap.size 122 t0N _ 3 32 Try.underlying69 ht0N hz0N hz1N hz2N rfl (by decide) (.slice a6 k c6) k _ rfl ra _ rfl 1 _ sN (by simp [Value.oneCell']) (by unfold maxLen; omega) (by omega) hb ?_; intro a5 c5 w5 ho5 hg5 _ hl5; obtain ⟨X5, KW5⟩ := kp w5 hg5; obtain ⟨d5, g5⟩ := X5.cell (o := 6) rfl; have Ho5 : Hid _ := ho5; clear ra hb sN ho5 hg5 hl5 kp dB d6)
        | fail)
      have X6 : XRec w (w5.setCell ⟨w.heap.size + 1 + 1, 6, none⟩ (.slice a5 (k + 1) c5)) 72 w.heap.size (w.heap.size + 1) (w.heap.size + 1 + 1) a m c raw s3 #[.string ⟨#[]⟩, .string ⟨#[]⟩, .string ⟨#[]⟩, .string ⟨#[]⟩, .int .i64 0, .string ⟨#[]⟩, .slice none 0 0, .slice none 0 0, .int .i64 0] #[.string y0, .string y1, .string y2, .string y3, .int .i64 y4, .string y5, .slice a5 (k + 1) c5, .slice none 0 0, .int .i64 0] := X5.store 6 (.slice a5 (k + 1) c5)
      go_roundw
      case rel =>
        refine ⟨a5, c5, k + 1, s3, xs ++ [(u0, u1, u2)], by simp, by omega, by simp; omega, by omega, X6, ?_, KW5.and (Kept.setCell (S := fun k => k = w.heap.size + 1 ∨ k = w.heap.size + 1 + 1) _ _ _ (.inr rfl)), by rw [show n1 - (k + 1) = q by omega]; exact LRelG.next (fun h => rdNode_pos h) HR.out HX.out⟩
        rw [List.flatMap_append, show [(u0, u1, u2)].flatMap nodeC = nodeC (u0, u1, u2) from by simp]
        exact xrow_keep (Kept.setCell (S := fun k => k = w.heap.size + 1 + 1) _ _ _ rfl) Ho5.out (fun kk h => by have h' : kk = w.heap.size + 1 + 1 := h; omega)
      case measure => simp [intOf]; omega
    · have hq0 : (∃ j, st = .ok j) → n1 - k = 0 := fun h => by
        by_cases hkn : k < n1
        · exact absurd ⟨hkn, h⟩ hgo
        · omega
      by_cases hkn : k < n1
      · cases st with
        | ok j => exact absurd ⟨hkn, j, rfl⟩ hgo
        | error pl0 =>
          have hc : (k : Int) < (n1 : Int) := by omega
          obtain ⟨at', hh⟩ := S.rd.shut
          obtain ⟨c2, _⟩ := cellOf' hh (o := 2) rfl
          clear hh
          have L1 : Hid (xst (xnext (rdLst rdNode) raw (xst (sP5 raw))) = (.error pl0) ∧ ∀ u i, xnext (rdLst rdNode) raw (xst (sP5 raw)) = .ok (u, i) → u = ((n1 : Int), xs)) := by rw [← ht6.out]; exact lst_end (by rw [← Ht7.out]; exact Rl) hq0 Hf1.out
          have HW : Hid (rdWhole rdState raw = .error pl0) := (state_rel (n2 := 0) (gs := []) L1.out ⟨rfl, fun u i e => by cases e⟩).1 pl0 rfl
          have hNN : Calls _ _ _ _ _ := ((xrd_any S.rd 0 4503599627370496)).mono (fun _ _ ⟨h, A, K⟩ => (⟨h, S.to K A, K⟩ : _ ∧ _ ∧ _))
          simp only [xnext, xval, xst] at hNN
          clear Rl row KW hq0 hgo S L1
          go_wp2_with (first
            | (go_at_call 99; refine hNN.mono ?_; rintro e w31 ⟨rfl, S9, K9⟩; clear hNN K9)
            | fail)
          go_loopw [10] (fun i wr => i = .int .i64 0 ∧ XRec w wr 72 w.heap.size (w.heap.size + 1) (w.heap.size + 1 + 1) a m c raw (.error pl0) #[.string ⟨#[]⟩, .string ⟨#[]⟩, .string ⟨#[]⟩, .string ⟨#[]⟩, .int .i64 0, .string ⟨#[]⟩, .slice none 0 0, .slice none 0 0, .int .i64 0] #[.string y0, .string y1, .string y2, .string y3, .int .i64 y4, .string y5, .slice a6 k c6, .slice none 0 0, .int .i64 0]) (fun i _ => 0)
          case atStart => exact ⟨rfl, S9⟩
          case round =>
            clear S9
            obtain ⟨rfl, S⟩ := hrel
            have hN8 : Calls _ _ _ _ _ := ((xrd_any S.rd 0 4503599627370496)).mono (fun _ _ ⟨h, A, K⟩ => (⟨h, S.to K A, K⟩ : _ ∧ _ ∧ _))
            simp only [xnext, xval, xst] at hN8
            clear S
            go_wp2_with (first
              | (go_at_call 99; refine hN8.mono ?_; rintro e w41 ⟨rfl, T8, K8⟩; obtain ⟨p8, q8⟩ := T8.cell (o := 8) rfl; have S10 : XRec w (w41.setCell ⟨w.heap.size + 1 + 1, 8, none⟩ (.int .i64 0)) 72 w.heap.size (w.heap.size + 1) (w.heap.size + 1 + 1) a m c raw (.error pl0) #[.string ⟨#[]⟩, .string ⟨#[]⟩, .string ⟨#[]⟩, .string ⟨#[]⟩, .int .i64 0, .string ⟨#[]⟩, .slice none 0 0, .slice none 0 0, .int .i64 0] #[.string y0, .string y1, .string y2, .string y3, .int .i64 y4, .string y5, .slice a6 k c6, .slice none 0 0, .int .i64 0] := T8.store 8 (.int .i64 0); have HK8 : Hid _ := K8; clear hN8 T8 K8)
              | (go_at_call 100; refine (xst_end S10).mono ?_; rintro e wE ⟨rfl, ⟨hE, hR⟩, K, KE⟩; simp only [xend]; simp only [endTup]; obtain ⟨e0, _⟩ := cellOf' hE (o := 0) rfl; obtain ⟨e1, _⟩ := cellOf' hE (o := 1) rfl; obtain ⟨e2, _⟩ := cellOf' hE (o := 2) rfl; obtain ⟨e3, _⟩ := cellOf' hE (o := 3) rfl; obtain ⟨e4, _⟩ := cellOf' hE (o := 4) rfl; obtain ⟨e5, _⟩ := cellOf' hE (o := 5) rfl; obtain ⟨e6, _⟩ := cellOf' hE (o := 6) rfl; obtain ⟨e7, _⟩ := cellOf' hE (o := 7) rfl; obtain ⟨e8, _⟩ := cellOf' hE (o := 8) rfl; obtain ⟨r0, g0⟩ := cellOf' hR (o := 0) rfl; obtain ⟨r1, g1⟩ := cellOf' hR (o := 1) rfl; obtain ⟨r2, g2⟩ := cellOf' hR (o := 2) rfl; obtain ⟨r3, g3⟩ := cellOf' hR (o := 3) rfl; obtain ⟨r4, g4⟩ := cellOf' hR (o := 4) rfl; obtain ⟨r5, g5⟩ := cellOf' hR (o := 5) rfl; obtain ⟨r6, g6⟩ := cellOf' hR (o := 6) rfl; obtain ⟨r7, g7⟩ := cellOf' hR (o := 7) rfl; obtain ⟨r8, g8⟩ := cellOf' hR (o := 8) rfl; have HRR : Hid _ := hR; have HKE : Hid _ := KE; clear hE hR KE)
              | fail)
            have hR : ((((((((((wE.setCell ⟨w.heap.size, 0, none⟩ (.string ⟨#[]⟩)).setCell ⟨w.heap.size, 1, none⟩ (.string ⟨#[]⟩)).setCell ⟨w.heap.size, 2, none⟩ (.string ⟨#[]⟩)).setCell ⟨w.heap.size, 3, none⟩ (.string ⟨#[]⟩)).setCell ⟨w.heap.size, 4, none⟩ (.int .i64 0)).setCell ⟨w.heap.size, 5, none⟩ (.string ⟨#[]⟩)).setCell ⟨w.heap.size, 6, none⟩ (.slice none 0 0)).setCell ⟨w.heap.size, 7, none⟩ (.slice none 0 0)).setCell ⟨w.heap.size, 8, none⟩ (.int .i64 0))).heap[w.heap.size]? = some (.cells #[.string ⟨#[]⟩, .string ⟨#[]⟩, .string ⟨#[]⟩, .string ⟨#[]⟩, .int .i64 0, .string ⟨#[]⟩, .slice none 0 0, .slice none 0 0, .int .i64 0] 72 (0, 0)) := by simp [World.setCell, Array.getElem?_modify, HRR.out]
            have z0 := cellOf hR (o := 0) rfl
            have z1 := cellOf hR (o := 1) rfl
            have z2 := cellOf hR (o := 2) rfl
            have z3 := cellOf hR (o := 3) rfl
            have z4 := cellOf hR (o := 4) rfl
            have z5 := cellOf hR (o := 5) rfl
            have z6 := cellOf hR (o := 6) rfl
            have z7 := cellOf hR (o := 7) rfl
            have z8 := cellOf hR (o := 8) rfl
            refine bodyPost_ret (by simp [results, Try.results44, go_sem, z0, z1, z2, z3, z4, z5, z6, z7, z8]; try rfl) rfl ?_
            rw [HW.out]
            exact ⟨rfl, (((((((((K.trans (Kept.setCell (S := fun k => k = w.heap.size) _ _ _ rfl) (fun k h => .inr (by omega))).trans (Kept.setCell (S := fun k => k = w.heap.size) _ _ _ rfl) (fun k h => .inr (by omega))).trans (Kept.setCell (S := fun k => k = w.heap.size) _ _ _ rfl) (fun k h => .inr (by omega))).trans (Kept.setCell (S := fun k => k = w.heap.size) _ _ _ rfl) (fun k h => .inr (by omega))).trans (Kept.setCell (S := fun k => k = w.heap.size) _ _ _ rfl) (fun k h => .inr (by omega))).trans (Kept.setCell (S := fun k => k = w.heap.size) _ _ _ rfl) (fun k h => .inr (by omega))).trans (Kept.setCell (S := fun k => k = w.heap.size) _ _ _ rfl) (fun k h => .inr (by omega))).trans (Kept.setCell (S := fun k => k = w.heap.size) _ _ _ rfl) (fun k h => .inr (by omega))).trans (Kept.setCell (S := fun k => k = w.heap.size) _ _ _ rfl) (fun k h => .inr (by omega)))⟩
      · obtain rfl : n1 = k := by omega
        have hc : ¬ ((n1 : Int) < (n1 : Int)) := by omega
        have L1 : Hid (xst (xnext (rdLst rdNode) raw (xst (sP5 raw))) = st ∧ ∀ u i, xnext (rdLst rdNode) raw (xst (sP5 raw)) = .ok (u, i) → u = ((n1 : Int), xs)) := by rw [← ht6.out]; exact lst_end (by rw [← Ht7.out]; exact Rl) hq0 Hf1.out
        obtain ⟨n2, hn2, hf2⟩ := lst_full rdSignal raw st
        have Hf2 : Hid _ := hf2
        have HrowN : Hid (wr.ownsRow w7.heap.size 122 3 (.slice a6 n1 c6) n1 (xs.flatMap nodeC)) := row
        have hNN : Calls _ _ _ _ _ := ((xrd_any S.rd 0 4503599627370496)).mono (fun _ _ ⟨h, A, K⟩ => (⟨h, S.to K A, K⟩ : _ ∧ _ ∧ _))
        rw [hn2] at hNN
        clear Rl hf2 row KW hq0 hgo S hn2
        go_wp2_with (first
          | (go_at_call 99; refine hNN.mono ?_; rintro e w31 ⟨rfl, S9, K9⟩; clear hNN)
          | fail)
        obtain ⟨t9, ht9⟩ : ∃ t, t = xst (xnext (rdNum 0 4503599627370496) raw st) := ⟨_, rfl⟩
        rw [← ht9] at S9
        have Ht9 : Hid _ := ht9
        have hB2 := S9.ltE
        have HN9 : Hid (w31.ownsRow w7.heap.size 122 3 (.slice a6 n1 c6) n1 (xs.flatMap nodeC)) := xrow_keep K9 HrowN.out (fun k h => by have h' : k = w.heap.size + 1 := h; omega)
        clear ht9 K9 HrowN
        obtain ⟨an, han⟩ : ∃ x, x = a6 := ⟨_, rfl⟩
        obtain ⟨cn, hcn⟩ : ∃ x, x = c6 := ⟨_, rfl⟩
        obtain ⟨ns, hns⟩ : ∃ x, x = xs := ⟨_, rfl⟩
        obtain ⟨st1, hst1⟩ : ∃ x, x = st := ⟨_, rfl⟩
        rw [← han, ← hcn] at S9
        rw [← han, ← hcn, ← hns] at HN9
        rw [← hns, ← hst1] at L1
        rw [← hst1] at Hf2 Ht9
        have hnsl : ns.length = n1 := by rw [hns]; exact hxl
        clear han hcn hns hst1
        go_loopw [10] (fun i wr => ∃ (a6 : Option Addr) (c6 k : Nat) (st : Except Nat Nat) (xs : List SignalD), i = .int .i64 k ∧ k ≤ n2 ∧ xs.length = k ∧ k ≤ 1000001 ∧ XRec w wr 72 w.heap.size (w.heap.size + 1) (w.heap.size + 1 + 1) a m c raw st #[.string ⟨#[]⟩, .string ⟨#[]⟩, .string ⟨#[]⟩, .string ⟨#[]⟩, .int .i64 0, .string ⟨#[]⟩, .slice none 0 0, .slice none 0 0, .int .i64 0] #[.string y0, .string y1, .string y2, .string y3, .int .i64 y4, .string y5, .slice an n1 cn, .slice a6 k c6, .int .i64 0] ∧ wr.ownsRow w31.heap.size 128 2 (.slice a6 k c6) k (xs.flatMap signalC) ∧ Kept (fun k => k = w.heap.size + 1 ∨ k = w.heap.size + 1 + 1) w31 wr ∧ LRelG rdSignal (fullG rdSignal n2 raw t9) raw (n2 - k) xs st) (fun i _ => n2 - (intOf i).toNat)
        case atStart => exact ⟨none, 0, 0, t9, [], rfl, Nat.zero_le _, rfl, by omega, S9, World.ownsRow_nil _ _ _ _, Kept.refl _ _, LRelG.start⟩
        case round =>
          clear S9
          obtain ⟨a6, c6, k, st, xs, rfl, hk, hxl, hkm, S, row, KW, Rl⟩ := hrel
          by_cases hgo : k < n2 ∧ ∃ j, st = .ok j
          · obtain ⟨hkn, j, rfl⟩ := hgo
            have hc : (k : Int) < (n2 : Int) := by omega
            obtain ⟨q, hq⟩ : ∃ q, n2 - k = q + 1 := ⟨n2 - k - 1, by omega⟩
            rw [hq] at Rl
            have hkj : k ≤ j := by have := Rl.1; omega
            obtain ⟨on, hh, hjm⟩ := S.rd.open
            obtain ⟨c2, _⟩ := cellOf' hh (o := 2) rfl
            have hEl := S.ltE
            have hBw := KW.size
            have E0 := XEl.new (T := 128) (zs := #[.string ⟨#[]⟩, .string ⟨#[]⟩]) S.rd (by omega) (fun h ad e => by have := S.old h ad e; omega)
            have h0 : ∀ w' cs, XEl (wr.alloc (.cells #[.string ⟨#[]⟩, .string ⟨#[]⟩] 128)) w' 128 wr.heap.size (w.heap.size + 1) a m c raw (.ok j) cs → _ := fun w' cs E => xel_text E
            have h1 : ∀ w' cs, XEl (wr.alloc (.cells #[.string ⟨#[]⟩, .string ⟨#[]⟩] 128)) w' 128 wr.heap.size (w.heap.size + 1) a m c raw (xst (xnext rdText raw (.ok j))) cs → _ := fun w' cs E => xel_text E
            have hx := xsignal_one (raw := raw) (j := j)
            have HS : Hid _ := S
            have HR : Hid (LRelG rdSignal (fullG rdSignal n2 raw t9) raw (q + 1) xs (.ok j)) := Rl
            have Hrow : Hid (wr.ownsRow w31.heap.size 128 2 (.slice a6 k c6) k (xs.flatMap signalC)) := row
            have HKW : Hid _ := KW
            generalize xval ⟨#[]⟩ (xnext rdText raw (xst (xnext rdText raw (.ok j)))) = u1 at *
            generalize xst (xnext rdText raw (xst (xnext rdText raw (.ok j)))) = s2 at *
            generalize xval ⟨#[]⟩ (xnext rdText raw (.ok j)) = u0 at *
            generalize xst (xnext rdText raw (.ok j)) = s1 at *
            have HX : Hid _ := hx
            clear S Rl hh row KW hx
            go_wp2_with (first
              | (go_at_call 98; have _t := E0; refine (h0 _ _ E0).mono ?_; rintro e w20 ⟨rfl, Q0⟩; obtain ⟨m0, g0⟩ := Q0.cell (o := 0) rfl; have E1 : XEl (wr.alloc (.cells #[.string ⟨#[]⟩, .string ⟨#[]⟩] 128)) (w20.setCell ⟨wr.heap.size, 0, none⟩ (.string u0)) 128 wr.heap.size (w.heap.size + 1) a m c raw s1 #[.string u0, .string ⟨#[]⟩] := Q0.store 0 (.string u0); clear E0 Q0 _t h0)
              | (go_at_call 98; have _t := E1; refine (h1 _ _ E1).mono ?_; rintro e w21 ⟨rfl, Q1⟩; obtain ⟨m1, g1⟩ := Q1.cell (o := 1) rfl; have E2 : XEl (wr.alloc (.cells #[.string ⟨#[]⟩, .string ⟨#[]⟩] 128)) (w21.setCell ⟨wr.heap.size, 1, none⟩ (.string u1)) 128 wr.heap.size (w.heap.size + 1) a m c raw s2 #[.string u0, .string u1] := Q1.store 1 (.string u1); clear E1 Q1 _t h1; have l0 := (E2.cell (o := 0) rfl).1; have l1 := (E2.cell (o := 1) rfl).1; have KE : Kept (fun k => k = w.heap.size + 1) wr (w21.setCell ⟨wr.heap.size, 1, none⟩ (.string u1)) := (Kept.alloc (fun k => k = w.heap.size + 1) wr _).trans E2.kept (fun k hk => by rcases hk with hk | hk; exact .inl hk; exact .inr (Nat.le_of_eq hk.symm)); have SX := HS.out.to KE E2.rd; have rowX := xrow_keep KE Hrow.out (fun k h => by have h' : k = w.heap.size + 1 := h; omega); obtain ⟨d6, _⟩ := SX.cell (o := 7) rfl; have dB := (cell_keep (Kept.alloc (fun _ => False) _ (.cells #[.string u0, .string u1] 128)) d6 (fun h => h)).1; have ra := rowX.alloc (.cells #[.string u0, .string u1] 128); have sN : Src ((w21.setCell ⟨wr.heap.size, 1, none⟩ (.string u1)).alloc (.cells #[.string u0, .string u1] 128)) 2 (.slice (some ⟨w21.heap.size, 0, none⟩) 1 1) 1 [.string u0, .string u1] := (by have h := srcSignal (w := (w21.setCell ⟨wr.heap.size, 1, none⟩ (.string u1))) (x0 := u0) (x1 := u1) (t := 128); have e : (w21.setCell ⟨wr.heap.size, 1, none⟩ (.string u1)).heap.size = w21.heap.size := (by simp [World.setCell]); rw [e] at h; exact h); have hszX := KE.size; have hb : w31.heap.size ≤ ((w21.setCell ⟨wr.heap.size, 1, none⟩ (.string u1)).alloc (.cells #[.string u0, .string u1] 128)).heap.size := (by simp only [World.alloc, Array.size_push]; omega); have HSX : Hid _ := SX; have HrX : Hid (World.ownsRow (w21.setCell ⟨wr.heap.size, 1, none⟩ (.string u1)) w31.heap.size 128 2 (.slice a6 k c6) k (xs.flatMap signalC)) := rowX; have HKE : Hid _ := KE; clear SX rowX KE E2; have kp : ∀ w5, ((w21.setCell ⟨wr.heap.size, 1, none⟩ (.string u1)).alloc (.cells #[.string u0, .string u1] 128)).grownBy w5 (Value.slice a6 k c6).ownBlock → XRec w w5 72 w.heap.size (w.heap.size + 1) (w.heap.size + 1 + 1) a m c raw s2 #[.string ⟨#[]⟩, .string ⟨#[]⟩, .string ⟨#[]⟩, .string ⟨#[]⟩, .int .i64 0, .string ⟨#[]⟩, .slice none 0 0, .slice none 0 0, .int .i64 0] #[.string y0, .string y1, .string y2, .string y3, .int .i64 y4, .string y5, .slice an n1 cn, .slice a6 k c6, .int .i64 0] ∧ Kept (fun k => k = w.heap.size + 1 ∨ k = w.heap.size + 1 + 1) w31 w5 := (fun w5 hg => by have K5 : Kept (fun kk => (Value.slice a6 k c6).ownBlock = some kk) (w21.setCell ⟨wr.heap.size, 1, none⟩ (.string u1)) w5 := (Kept.alloc _ _ _).and (Kept.grown hg (fun k e => e)); exact ⟨HSX.out.keep K5 (fun kk h => by have := (HrX.out.lt kk h).1; omega), (HKW.out.and (HKE.out.mono (fun _ h => .inl h))).trans K5 (fun kk h => .inr (Nat.le_trans (Nat.le_refl _) (by have := (HrX.out.lt kk h).1; omega)))⟩))
              | (at_builtin; refine wpList_append_src _ rfl _ _ 70 rfl w31.heap.size 128 t0G _ 2 32 Try.underlying70 ht0G hz0G hz1G hz2G rfl (by decide) (.slice a6 k c6) k _ rfl ra _ rfl 1 _ sN (by simp [Value.oneCell']) (by unfold maxLen; omega) (by omega) hb ?_; intro a5 c5 w5 ho5 hg5 _ hl5; obtain ⟨X5, KW5⟩ := kp w5 hg5; obtain ⟨d5, g5⟩ := X5.cell (o := 7) rfl; have Ho5 : Hid _ := ho5; clear ra hb sN ho5 hg5 hl5 kp dB d6)
              | fail)
            have X6 : XRec w (w5.setCell ⟨w.heap.size + 1 + 1, 7, none⟩ (.slice a5 (k + 1) c5)) 72 w.heap.size (w.heap.size + 1) (w.heap.size + 1 + 1) a m c raw s2 #[.string ⟨#[]⟩, .string ⟨#[]⟩, .string ⟨#[]⟩, .string ⟨#[]⟩, .int .i64 0, .string ⟨#[]⟩, .slice none 0 0, .slice none 0 0, .int .i64 0] #[.string y0, .string y1, .string y2, .string y3, .int .i64 y4, .string y5, .slice an n1 cn, .slice a5 (k + 1) c5, .int .i64 0] := X5.store 7 (.slice a5 (k + 1) c5)
            go_roundw
            case rel =>
              refine ⟨a5, c5, k + 1, s2, xs ++ [(u0, u1)], by simp, by omega, by simp; omega, by omega, X6, ?_, KW5.and (Kept.setCell (S := fun k => k = w.heap.size + 1 ∨ k = w.heap.size + 1 + 1) _ _ _ (.inr rfl)), by rw [show n2 - (k + 1) = q by omega]; exact LRelG.next (fun h => rdSignal_pos h) HR.out HX.out⟩
              rw [List.flatMap_append, show [(u0, u1)].flatMap signalC = signalC (u0, u1) from by simp]
              exact xrow_keep (Kept.setCell (S := fun k => k = w.heap.size + 1 + 1) _ _ _ rfl) Ho5.out (fun kk h => by have h' : kk = w.heap.size + 1 + 1 := h; omega)
            case measure => simp [intOf]; omega
          · have hq0 : (∃ j, st = .ok j) → n2 - k = 0 := fun h => by
              by_cases hkn : k < n2
              · exact absurd ⟨hkn, h⟩ hgo
              · omega
            by_cases hkn : k < n2
            · cases st with
              | ok j => exact absurd ⟨hkn, j, rfl⟩ hgo
              | error pl1 =>
                have hc : (k : Int) < (n2 : Int) := by omega
                obtain ⟨at', hh⟩ := S.rd.shut
                obtain ⟨c2, _⟩ := cellOf' hh (o := 2) rfl
                clear hh
                have L2 := lst_end (show LRelG rdSignal (fullG rdSignal n2 raw (xst (xnext (rdNum 0 4503599627370496) raw st1))) raw _ xs (.error pl1) from by rw [← Ht9.out]; exact Rl) hq0 Hf2.out
                have hrel := state_rel L1.out L2
                have HW : Hid (rdWhole rdState raw = .error pl1) := hrel.1 pl1 rfl
                have hN8 : Calls _ _ _ _ _ := ((xrd_any S.rd 0 4503599627370496)).mono (fun _ _ ⟨h, A, K⟩ => (⟨h, S.to K A, K⟩ : _ ∧ _ ∧ _))
                simp only [xnext, xval, xst] at hN8
                clear S row KW Rl hrel L2
                go_wp2_with (first
                  | (go_at_call 99; refine hN8.mono ?_; rintro e w41 ⟨rfl, T8, K8⟩; obtain ⟨p8, q8⟩ := T8.cell (o := 8) rfl; have S10 : XRec w (w41.setCell ⟨w.heap.size + 1 + 1, 8, none⟩ (.int .i64 0)) 72 w.heap.size (w.heap.size + 1) (w.heap.size + 1 + 1) a m c raw (.error pl1) #[.string ⟨#[]⟩, .string ⟨#[]⟩, .string ⟨#[]⟩, .string ⟨#[]⟩, .int .i64 0, .string ⟨#[]⟩, .slice none 0 0, .slice none 0 0, .int .i64 0] #[.string y0, .string y1, .string y2, .string y3, .int .i64 y4, .string y5, .slice an n1 cn, .slice a6 k c6, .int .i64 0] := T8.store 8 (.int .i64 0); have HK8 : Hid _ := K8; clear hN8 T8 K8)
                  | (go_at_call 100; refine (xst_end S10).mono ?_; rintro e wE ⟨rfl, ⟨hE, hR⟩, K, KE⟩; simp only [xend]; simp only [endTup]; obtain ⟨e0, _⟩ := cellOf' hE (o := 0) rfl; obtain ⟨e1, _⟩ := cellOf' hE (o := 1) rfl; obtain ⟨e2, _⟩ := cellOf' hE (o := 2) rfl; obtain ⟨e3, _⟩ := cellOf' hE (o := 3) rfl; obtain ⟨e4, _⟩ := cellOf' hE (o := 4) rfl; obtain ⟨e5, _⟩ := cellOf' hE (o := 5) rfl; obtain ⟨e6, _⟩ := cellOf' hE (o := 6) rfl; obtain ⟨e7, _⟩ := cellOf' hE (o := 7) rfl; obtain ⟨e8, _⟩ := cellOf' hE (o := 8) rfl; obtain ⟨r0, g0⟩ := cellOf' hR (o := 0) rfl; obtain ⟨r1, g1⟩ := cellOf' hR (o := 1) rfl; obtain ⟨r2, g2⟩ := cellOf' hR (o := 2) rfl; obtain ⟨r3, g3⟩ := cellOf' hR (o := 3) rfl; obtain ⟨r4, g4⟩ := cellOf' hR (o := 4) rfl; obtain ⟨r5, g5⟩ := cellOf' hR (o := 5) rfl; obtain ⟨r6, g6⟩ := cellOf' hR (o := 6) rfl; obtain ⟨r7, g7⟩ := cellOf' hR (o := 7) rfl; obtain ⟨r8, g8⟩ := cellOf' hR (o := 8) rfl; have HRR : Hid _ := hR; have HKE : Hid _ := KE; clear hE hR KE)
                  | fail)
                have hR : ((((((((((wE.setCell ⟨w.heap.size, 0, none⟩ (.string ⟨#[]⟩)).setCell ⟨w.heap.size, 1, none⟩ (.string ⟨#[]⟩)).setCell ⟨w.heap.size, 2, none⟩ (.string ⟨#[]⟩)).setCell ⟨w.heap.size, 3, none⟩ (.string ⟨#[]⟩)).setCell ⟨w.heap.size, 4, none⟩ (.int .i64 0)).setCell ⟨w.heap.size, 5, none⟩ (.string ⟨#[]⟩)).setCell ⟨w.heap.size, 6, none⟩ (.slice none 0 0)).setCell ⟨w.heap.size, 7, none⟩ (.slice none 0 0)).setCell ⟨w.heap.size, 8, none⟩ (.int .i64 0))).heap[w.heap.size]? = some (.cells #[.string ⟨#[]⟩, .string ⟨#[]⟩, .string ⟨#[]⟩, .string ⟨#[]⟩, .int .i64 0, .string ⟨#[]⟩, .slice none 0 0, .slice none 0 0, .int .i64 0] 72 (0, 0)) := by simp [World.setCell, Array.getElem?_modify, HRR.out]
                have z0 := cellOf hR (o := 0) rfl
                have z1 := cellOf hR (o := 1) rfl
                have z2 := cellOf hR (o := 2) rfl
                have z3 := cellOf hR (o := 3) rfl
                have z4 := cellOf hR (o := 4) rfl
                have z5 := cellOf hR (o := 5) rfl
                have z6 := cellOf hR (o := 6) rfl
                have z7 := cellOf hR (o := 7) rfl
                have z8 := cellOf hR (o := 8) rfl
                refine bodyPost_ret (by simp [results, Try.results44, go_sem, z0, z1, z2, z3, z4, z5, z6, z7, z8]; try rfl) rfl ?_
                rw [HW.out]
                exact ⟨rfl, (((((((((K.trans (Kept.setCell (S := fun k => k = w.heap.size) _ _ _ rfl) (fun k h => .inr (by omega))).trans (Kept.setCell (S := fun k => k = w.heap.size) _ _ _ rfl) (fun k h => .inr (by omega))).trans (Kept.setCell (S := fun k => k = w.heap.size) _ _ _ rfl) (fun k h => .inr (by omega))).trans (Kept.setCell (S := fun k => k = w.heap.size) _ _ _ rfl) (fun k h => .inr (by omega))).trans (Kept.setCell (S := fun k => k = w.heap.size) _ _ _ rfl) (fun k h => .inr (by omega))).trans (Kept.setCell (S := fun k => k = w.heap.size) _ _ _ rfl) (fun k h => .inr (by omega))).trans (Kept.setCell (S := fun k => k = w.heap.size) _ _ _ rfl) (fun k h => .inr (by omega))).trans (Kept.setCell (S := fun k => k = w.heap.size) _ _ _ rfl) (fun k h => .inr (by omega))).trans (Kept.setCell (S := fun k => k = w.heap.size) _ _ _ rfl) (fun k h => .inr (by omega)))⟩
            · obtain rfl : n2 = k := by omega
              have hc : ¬ ((n2 : Int) < (n2 : Int)) := by omega
              have L2 := lst_end (show LRelG rdSignal (fullG rdSignal n2 raw (xst (xnext (rdNum 0 4503599627370496) raw st1))) raw _ xs st from by rw [← Ht9.out]; exact Rl) hq0 Hf2.out
              have hrel := state_rel L1.out L2
              obtain ⟨v0, v1, v2, v3, v4, v5⟩ := hv.out
              rw [← v0, ← v1, ← v2, ← v3, ← v4, ← v5] at hrel
              have hN8 : Calls _ _ _ _ _ := ((xrd_any S.rd 0 4503599627370496)).mono (fun _ _ ⟨h, A, K⟩ => (⟨h, S.to K A, K⟩ : _ ∧ _ ∧ _))
              generalize xval 0 (xnext (rdNum 0 4503599627370496) raw st) = y8 at *
              generalize xst (xnext (rdNum 0 4503599627370496) raw st) = st8 at *
              have Hgrow : Hid (wr.ownsRow w31.heap.size 128 2 (.slice a6 n2 c6) n2 (xs.flatMap signalC)) := row
              have HKW : Hid _ := KW
              have HL : Hid _ := hrel
              have hEE := S.ltE
              clear S row KW Rl hrel L2 v0 v1 v2 v3 v4 v5
              cases hx : xend raw st8 with
              | error pl =>
                go_wp2_with (first
                  | (go_at_call 99; refine hN8.mono ?_; rintro e w41 ⟨rfl, T8, K8⟩; obtain ⟨p8, q8⟩ := T8.cell (o := 8) rfl; have S10 : XRec w (w41.setCell ⟨w.heap.size + 1 + 1, 8, none⟩ (.int .i64 y8)) 72 w.heap.size (w.heap.size + 1) (w.heap.size + 1 + 1) a m c raw st8 #[.string ⟨#[]⟩, .string ⟨#[]⟩, .string ⟨#[]⟩, .string ⟨#[]⟩, .int .i64 0, .string ⟨#[]⟩, .slice none 0 0, .slice none 0 0, .int .i64 0] #[.string y0, .string y1, .string y2, .string y3, .int .i64 y4, .string y5, .slice an n1 cn, .slice a6 n2 c6, .int .i64 y8] := T8.store 8 (.int .i64 y8); have HK8 : Hid _ := K8; clear hN8 T8 K8)
                  | (go_at_call 100; refine (xst_end S10).mono ?_; rintro e wE ⟨rfl, ⟨hE, hR⟩, K, KE⟩; rw [hx]; simp only [endTup]; obtain ⟨e0, _⟩ := cellOf' hE (o := 0) rfl; obtain ⟨e1, _⟩ := cellOf' hE (o := 1) rfl; obtain ⟨e2, _⟩ := cellOf' hE (o := 2) rfl; obtain ⟨e3, _⟩ := cellOf' hE (o := 3) rfl; obtain ⟨e4, _⟩ := cellOf' hE (o := 4) rfl; obtain ⟨e5, _⟩ := cellOf' hE (o := 5) rfl; obtain ⟨e6, _⟩ := cellOf' hE (o := 6) rfl; obtain ⟨e7, _⟩ := cellOf' hE (o := 7) rfl; obtain ⟨e8, _⟩ := cellOf' hE (o := 8) rfl; obtain ⟨r0, g0⟩ := cellOf' hR (o := 0) rfl; obtain ⟨r1, g1⟩ := cellOf' hR (o := 1) rfl; obtain ⟨r2, g2⟩ := cellOf' hR (o := 2) rfl; obtain ⟨r3, g3⟩ := cellOf' hR (o := 3) rfl; obtain ⟨r4, g4⟩ := cellOf' hR (o := 4) rfl; obtain ⟨r5, g5⟩ := cellOf' hR (o := 5) rfl; obtain ⟨r6, g6⟩ := cellOf' hR (o := 6) rfl; obtain ⟨r7, g7⟩ := cellOf' hR (o := 7) rfl; obtain ⟨r8, g8⟩ := cellOf' hR (o := 8) rfl; have HRR : Hid _ := hR; have HKE : Hid _ := KE; clear hE hR KE)
                  | fail)
                have hR : ((((((((((wE.setCell ⟨w.heap.size, 0, none⟩ (.string ⟨#[]⟩)).setCell ⟨w.heap.size, 1, none⟩ (.string ⟨#[]⟩)).setCell ⟨w.heap.size, 2, none⟩ (.string ⟨#[]⟩)).setCell ⟨w.heap.size, 3, none⟩ (.string ⟨#[]⟩)).setCell ⟨w.heap.size, 4, none⟩ (.int .i64 0)).setCell ⟨w.heap.size, 5, none⟩ (.string ⟨#[]⟩)).setCell ⟨w.heap.size, 6, none⟩ (.slice none 0 0)).setCell ⟨w.heap.size, 7, none⟩ (.slice none 0 0)).setCell ⟨w.heap.size, 8, none⟩ (.int .i64 0))).heap[w.heap.size]? = some (.cells #[.string ⟨#[]⟩, .string ⟨#[]⟩, .string ⟨#[]⟩, .string ⟨#[]⟩, .int .i64 0, .string ⟨#[]⟩, .slice none 0 0, .slice none 0 0, .int .i64 0] 72 (0, 0)) := by simp [World.setCell, Array.getElem?_modify, HRR.out]
                have z0 := cellOf hR (o := 0) rfl
                have z1 := cellOf hR (o := 1) rfl
                have z2 := cellOf hR (o := 2) rfl
                have z3 := cellOf hR (o := 3) rfl
                have z4 := cellOf hR (o := 4) rfl
                have z5 := cellOf hR (o := 5) rfl
                have z6 := cellOf hR (o := 6) rfl
                have z7 := cellOf hR (o := 7) rfl
                have z8 := cellOf hR (o := 8) rfl
                refine bodyPost_ret (by simp [results, Try.results44, go_sem, z0, z1, z2, z3, z4, z5, z6, z7, z8]; try rfl) rfl ?_
                rw [HL.out.1 pl hx]
                exact ⟨rfl, (((((((((K.trans (Kept.setCell (S := fun k => k = w.heap.size) _ _ _ rfl) (fun k h => .inr (by omega))).trans (Kept.setCell (S := fun k => k = w.heap.size) _ _ _ rfl) (fun k h => .inr (by omega))).trans (Kept.setCell (S := fun k => k = w.heap.size) _ _ _ rfl) (fun k h => .inr (by omega))).trans (Kept.setCell (S := fun k => k = w.heap.size) _ _ _ rfl) (fun k h => .inr (by omega))).trans (Kept.setCell (S := fun k => k = w.heap.size) _ _ _ rfl) (fun k h => .inr (by omega))).trans (Kept.setCell (S := fun k => k = w.heap.size) _ _ _ rfl) (fun k h => .inr (by omega))).trans (Kept.setCell (S := fun k => k = w.heap.size) _ _ _ rfl) (fun k h => .inr (by omega))).trans (Kept.setCell (S := fun k => k = w.heap.size) _ _ _ rfl) (fun k h => .inr (by omega))).trans (Kept.setCell (S := fun k => k = w.heap.size) _ _ _ rfl) (fun k h => .inr (by omega)))⟩
              | ok u =>
                go_wp2_with (first
                  | (go_at_call 99; refine hN8.mono ?_; rintro e w41 ⟨rfl, T8, K8⟩; obtain ⟨p8, q8⟩ := T8.cell (o := 8) rfl; have S10 : XRec w (w41.setCell ⟨w.heap.size + 1 + 1, 8, none⟩ (.int .i64 y8)) 72 w.heap.size (w.heap.size + 1) (w.heap.size + 1 + 1) a m c raw st8 #[.string ⟨#[]⟩, .string ⟨#[]⟩, .string ⟨#[]⟩, .string ⟨#[]⟩, .int .i64 0, .string ⟨#[]⟩, .slice none 0 0, .slice none 0 0, .int .i64 0] #[.string y0, .string y1, .string y2, .string y3, .int .i64 y4, .string y5, .slice an n1 cn, .slice a6 n2 c6, .int .i64 y8] := T8.store 8 (.int .i64 y8); have HK8 : Hid _ := K8; clear hN8 T8 K8)
                  | (go_at_call 100; refine (xst_end S10).mono ?_; rintro e wE ⟨rfl, ⟨hE, hR⟩, K, KE⟩; rw [hx]; simp only [endTup]; obtain ⟨e0, _⟩ := cellOf' hE (o := 0) rfl; obtain ⟨e1, _⟩ := cellOf' hE (o := 1) rfl; obtain ⟨e2, _⟩ := cellOf' hE (o := 2) rfl; obtain ⟨e3, _⟩ := cellOf' hE (o := 3) rfl; obtain ⟨e4, _⟩ := cellOf' hE (o := 4) rfl; obtain ⟨e5, _⟩ := cellOf' hE (o := 5) rfl; obtain ⟨e6, _⟩ := cellOf' hE (o := 6) rfl; obtain ⟨e7, _⟩ := cellOf' hE (o := 7) rfl; obtain ⟨e8, _⟩ := cellOf' hE (o := 8) rfl; obtain ⟨r0, g0⟩ := cellOf' hR (o := 0) rfl; obtain ⟨r1, g1⟩ := cellOf' hR (o := 1) rfl; obtain ⟨r2, g2⟩ := cellOf' hR (o := 2) rfl; obtain ⟨r3, g3⟩ := cellOf' hR (o := 3) rfl; obtain ⟨r4, g4⟩ := cellOf' hR (o := 4) rfl; obtain ⟨r5, g5⟩ := cellOf' hR (o := 5) rfl; obtain ⟨r6, g6⟩ := cellOf' hR (o := 6) rfl; obtain ⟨r7, g7⟩ := cellOf' hR (o := 7) rfl; obtain ⟨r8, g8⟩ := cellOf' hR (o := 8) rfl; have HRR : Hid _ := hR; have HKE : Hid _ := KE; clear hE hR KE)
                  | fail)
                have hR : ((((((((((wE.setCell ⟨w.heap.size, 0, none⟩ (.string y0)).setCell ⟨w.heap.size, 1, none⟩ (.string y1)).setCell ⟨w.heap.size, 2, none⟩ (.string y2)).setCell ⟨w.heap.size, 3, none⟩ (.string y3)).setCell ⟨w.heap.size, 4, none⟩ (.int .i64 y4)).setCell ⟨w.heap.size, 5, none⟩ (.string y5)).setCell ⟨w.heap.size, 6, none⟩ (.slice an n1 cn)).setCell ⟨w.heap.size, 7, none⟩ (.slice a6 n2 c6)).setCell ⟨w.heap.size, 8, none⟩ (.int .i64 y8))).heap[w.heap.size]? = some (.cells #[.string y0, .string y1, .string y2, .string y3, .int .i64 y4, .string y5, .slice an n1 cn, .slice a6 n2 c6, .int .i64 y8] 72 (0, 0)) := by simp [World.setCell, Array.getElem?_modify, HRR.out]
                have z0 := cellOf hR (o := 0) rfl
                have z1 := cellOf hR (o := 1) rfl
                have z2 := cellOf hR (o := 2) rfl
                have z3 := cellOf hR (o := 3) rfl
                have z4 := cellOf hR (o := 4) rfl
                have z5 := cellOf hR (o := 5) rfl
                have z6 := cellOf hR (o := 6) rfl
                have z7 := cellOf hR (o := 7) rfl
                have z8 := cellOf hR (o := 8) rfl
                refine bodyPost_ret (by simp [results, Try.results44, go_sem, z0, z1, z2, z3, z4, z5, z6, z7, z8]; try rfl) rfl ?_
                rw [HL.out.2 u hx]
                have KF : Kept (fun k => k ≤ w.heap.size + 1 + 1) wr (((((((((wE.setCell ⟨w.heap.size, 0, none⟩ (.string y0)).setCell ⟨w.heap.size, 1, none⟩ (.string y1)).setCell ⟨w.heap.size, 2, none⟩ (.string y2)).setCell ⟨w.heap.size, 3, none⟩ (.string y3)).setCell ⟨w.heap.size, 4, none⟩ (.int .i64 y4)).setCell ⟨w.heap.size, 5, none⟩ (.string y5)).setCell ⟨w.heap.size, 6, none⟩ (.slice an n1 cn)).setCell ⟨w.heap.size, 7, none⟩ (.slice a6 n2 c6)).setCell ⟨w.heap.size, 8, none⟩ (.int .i64 y8)) := ((((((((((((HK8.out.mono (fun k h => by have h' : k = w.heap.size + 1 := h; show k ≤ w.heap.size + 1 + 1; omega)).and (Kept.setCell (S := fun k => k ≤ w.heap.size + 1 + 1) _ _ _ (Nat.le_refl _))).and (HKE.out.mono (fun k h => by have h' : k = w.heap.size + 1 := h; show k ≤ w.heap.size + 1 + 1; omega))).and (Kept.setCell (S := fun k => k ≤ w.heap.size + 1 + 1) _ _ _ (by show w.heap.size ≤ w.heap.size + 1 + 1; omega))).and (Kept.setCell (S := fun k => k ≤ w.heap.size + 1 + 1) _ _ _ (by show w.heap.size ≤ w.heap.size + 1 + 1; omega))).and (Kept.setCell (S := fun k => k ≤ w.heap.size + 1 + 1) _ _ _ (by show w.heap.size ≤ w.heap.size + 1 + 1; omega))).and (Kept.setCell (S := fun k => k ≤ w.heap.size + 1 + 1) _ _ _ (by show w.heap.size ≤ w.heap.size + 1 + 1; omega))).and (Kept.setCell (S := fun k => k ≤ w.heap.size + 1 + 1) _ _ _ (by show w.heap.size ≤ w.heap.size + 1 + 1; omega))).and (Kept.setCell (S := fun k => k ≤ w.heap.size + 1 + 1) _ _ _ (by show w.heap.size ≤ w.heap.size + 1 + 1; omega))).and (Kept.setCell (S := fun k => k ≤ w.heap.size + 1 + 1) _ _ _ (by show w.heap.size ≤ w.heap.size + 1 + 1; omega))).and (Kept.setCell (S := fun k => k ≤ w.heap.size + 1 + 1) _ _ _ (by show w.heap.size ≤ w.heap.size + 1 + 1; omega))).and (Kept.setCell (S := fun k => k ≤ w.heap.size + 1 + 1) _ _ _ (by show w.heap.size ≤ w.heap.size + 1 + 1; omega)))
                have KN : Kept (fun k => k ≤ w.heap.size + 1 + 1) w31 (((((((((wE.setCell ⟨w.heap.size, 0, none⟩ (.string y0)).setCell ⟨w.heap.size, 1, none⟩ (.string y1)).setCell ⟨w.heap.size, 2, none⟩ (.string y2)).setCell ⟨w.heap.size, 3, none⟩ (.string y3)).setCell ⟨w.heap.size, 4, none⟩ (.int .i64 y4)).setCell ⟨w.heap.size, 5, none⟩ (.string y5)).setCell ⟨w.heap.size, 6, none⟩ (.slice an n1 cn)).setCell ⟨w.heap.size, 7, none⟩ (.slice a6 n2 c6)).setCell ⟨w.heap.size, 8, none⟩ (.int .i64 y8)) := (HKW.out.mono (fun k h => by show k ≤ w.heap.size + 1 + 1; rcases h with h | h <;> omega)).and KF
                have rN := xrow_keep KN HN9.out (fun k h => by have h' : k ≤ w.heap.size + 1 + 1 := h; omega)
                have rG := xrow_keep KF Hgrow.out (fun k h => by have h' : k ≤ w.heap.size + 1 + 1 := h; omega)
                exact ⟨⟨.slice an n1 cn, .slice a6 n2 c6, rfl, by rw [hnsl]; exact ownsRow_mono rN (by omega), by rw [hxl]; exact ownsRow_mono rG (by omega)⟩, (((((((((K.trans (Kept.setCell (S := fun k => k = w.heap.size) _ _ _ rfl) (fun k h => .inr (by omega))).trans (Kept.setCell (S := fun k => k = w.heap.size) _ _ _ rfl) (fun k h => .inr (by omega))).trans (Kept.setCell (S := fun k => k = w.heap.size) _ _ _ rfl) (fun k h => .inr (by omega))).trans (Kept.setCell (S := fun k => k = w.heap.size) _ _ _ rfl) (fun k h => .inr (by omega))).trans (Kept.setCell (S := fun k => k = w.heap.size) _ _ _ rfl) (fun k h => .inr (by omega))).trans (Kept.setCell (S := fun k => k = w.heap.size) _ _ _ rfl) (fun k h => .inr (by omega))).trans (Kept.setCell (S := fun k => k = w.heap.size) _ _ _ rfl) (fun k h => .inr (by omega))).trans (Kept.setCell (S := fun k => k = w.heap.size) _ _ _ rfl) (fun k h => .inr (by omega))).trans (Kept.setCell (S := fun k => k = w.heap.size) _ _ _ rfl) (fun k h => .inr (by omega)))⟩

theorem xreadState_any (w : World) (a : Option Addr) (m c : Nat) (raw : List Int) (B : BytesAt w a m c raw) (hm : m ≤ 1000000) :
    Calls Try.prog 44 #[.slice a m c] w fun e w' => StateOut w' w.heap.size e (rdWhole rdState raw) ∧ Kept (fun _ => False) w w' := by
  have S0 := XRec.new B (by omega) 72 #[.string ⟨#[]⟩, .string ⟨#[]⟩, .string ⟨#[]⟩, .string ⟨#[]⟩, .int .i64 0, .string ⟨#[]⟩, .slice none 0 0, .slice none 0 0, .int .i64 0]
  exact xstate_gen (t0 := .ok 0) (t1 := xst (sP0 raw)) (t2 := xst (sP1 raw)) (t3 := xst (sP2 raw)) (t4 := xst (sP3 raw)) (t5 := xst (sP4 raw)) (t6 := xst (sP5 raw)) (y0 := xval ⟨#[]⟩ (sP0 raw)) (y1 := xval ⟨#[]⟩ (sP1 raw)) (y2 := xval ⟨#[]⟩ (sP2 raw)) (y3 := xval ⟨#[]⟩ (sP3 raw)) (y4 := xval 0 (sP4 raw)) (y5 := xval ⟨#[]⟩ (sP5 raw)) hm S0 (fun _ _ _ _ _ _ _ _ S => xrec_text (st := .ok 0) S) (fun _ _ _ _ _ _ _ _ S => xrec_text (st := xst (sP0 raw)) S) (fun _ _ _ _ _ _ _ _ S => xrec_text (st := xst (sP1 raw)) S) (fun _ _ _ _ _ _ _ _ S => xrec_text (st := xst (sP2 raw)) S) (fun _ _ _ _ _ _ _ _ S => xrec_num (st := xst (sP3 raw)) S 0 4) (fun _ _ _ _ _ _ _ _ S => xrec_text (st := xst (sP4 raw)) S) rfl ⟨rfl, rfl, rfl, rfl, rfl, rfl⟩

end Go.Proofs.Ytceocmhgbcimoaa
