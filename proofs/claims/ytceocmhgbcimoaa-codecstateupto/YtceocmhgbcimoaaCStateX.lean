/-
  A state: written by the document.
-/
import Derived.Test.YtceocmhgbcimoaaCStateW
namespace Go.Proofs.Ytceocmhgbcimoaa
open Go.RowKit

set_option maxRecDepth 100000 in
set_option maxHeartbeats 2000000 in
theorem refState_any (w : World) (s0 s1 s2 s3 : ByteArray) (s4 : Int) (s5 : ByteArray) (an : Option Addr) (nn cn : Nat) (ns : List NodeD) (ag : Option Addr) (ng cg : Nat) (gs : List SignalD) (s8 : Int) (ON : RowAt 3 nodeC w an nn cn ns) (OG : RowAt 2 signalC w ag ng cg gs) (h0 : s0.size ≤ 1048576) (h1 : s1.size ≤ 1048576) (h2 : s2.size ≤ 1048576) (h3 : s3.size ≤ 1048576) (h5 : s5.size ≤ 1048576) (hnn : nn ≤ 262144) (hng : ng ≤ 349526) (hsN : ∀ x ∈ ns, x.2.2.size ≤ 1048576) (hsG : ∀ x ∈ gs, x.1.size ≤ 1048576 ∧ x.2.size ≤ 1048576) :
    Calls Try.prog 41 #[.agg #[.string s0, .string s1, .string s2, .string s3, .int .i64 s4, .string s5, .slice an nn cn, .slice ag ng cg, .int .i64 s8]] w fun e w' => ∃ a l c er, e = .returned (.tuple #[.slice a l c, .int .i64 er]) ∧ Ans w' w.heap.size (wrState s0 s1 s2 s3 s4 s5 ((nn : Int), ns) ((ng : Int), gs) s8) a l c er ∧ Kept (fun _ => False) w w' := by
  have hC : ∀ w', Kept (fun k => w.heap.size + 1 ≤ k) (w.alloc (.cells #[.string s0, .string s1, .string s2, .string s3, .int .i64 s4, .string s5, .slice an nn cn, .slice ag ng cg, .int .i64 s8] 72)) w' → w'.cell? ⟨w.heap.size, 0, none⟩ = some (.string s0) ∧ w'.cell? ⟨w.heap.size, 1, none⟩ = some (.string s1) ∧ w'.cell? ⟨w.heap.size, 2, none⟩ = some (.string s2) ∧ w'.cell? ⟨w.heap.size, 3, none⟩ = some (.string s3) ∧ w'.cell? ⟨w.heap.size, 4, none⟩ = some (.int .i64 s4) ∧ w'.cell? ⟨w.heap.size, 5, none⟩ = some (.string s5) ∧ w'.cell? ⟨w.heap.size, 6, none⟩ = some (.slice an nn cn) ∧ w'.cell? ⟨w.heap.size, 7, none⟩ = some (.slice ag ng cg) ∧ w'.cell? ⟨w.heap.size, 8, none⟩ = some (.int .i64 s8) := fun w' K =>
    ⟨box_cells K (by omega) 0 _ rfl, box_cells K (by omega) 1 _ rfl, box_cells K (by omega) 2 _ rfl, box_cells K (by omega) 3 _ rfl, box_cells K (by omega) 4 _ rfl, box_cells K (by omega) 5 _ rfl, box_cells K (by omega) 6 _ rfl, box_cells K (by omega) 7 _ rfl, box_cells K (by omega) 8 _ rfl⟩
  have hW := WIn.new (w.alloc (.cells #[.string s0, .string s1, .string s2, .string s3, .int .i64 s4, .string s5, .slice an nn cn, .slice ag ng cg, .int .i64 s8] 72)) 134
  have hsz : (w.alloc (.cells #[.string s0, .string s1, .string s2, .string s3, .int .i64 s4, .string s5, .slice an nn cn, .slice ag ng cg, .int .i64 s8] 72)).heap.size = w.heap.size + 1 := by simp
  rw [hsz] at hW
  have K0 : Kept (fun k => w.heap.size + 1 ≤ k) (w.alloc (.cells #[.string s0, .string s1, .string s2, .string s3, .int .i64 s4, .string s5, .slice an nn cn, .slice ag ng cg, .int .i64 s8] 72)) ((w.alloc (.cells #[.string s0, .string s1, .string s2, .string s3, .int .i64 s4, .string s5, .slice an nn cn, .slice ag ng cg, .int .i64 s8] 72)).alloc (.cells #[.slice none 0 0, .bool false] 134)) := Kept.alloc _ _ _
  have ltN := rowNode_lt ON
  have ltG := rowSignal_lt OG
  have hlN := ON.len
  have hlG := OG.len
  have RN : Hid (∀ w', Kept (fun k => w.heap.size + 1 ≤ k) (w.alloc (.cells #[.string s0, .string s1, .string s2, .string s3, .int .i64 s4, .string s5, .slice an nn cn, .slice ag ng cg, .int .i64 s8] 72)) w' → RowAt 3 nodeC w' an nn cn ns) := fun w' K => (ON.kept (Kept.alloc (fun _ => False) w _) (fun _ _ _ h => h)).kept K (fun h ad e => by have := ltN h ad e; show ¬ w.heap.size + 1 ≤ ad.block; omega)
  have RG : Hid (∀ w', Kept (fun k => w.heap.size + 1 ≤ k) (w.alloc (.cells #[.string s0, .string s1, .string s2, .string s3, .int .i64 s4, .string s5, .slice an nn cn, .slice ag ng cg, .int .i64 s8] 72)) w' → RowAt 2 signalC w' ag ng cg gs) := fun w' K => (OG.kept (Kept.alloc (fun _ => False) w _) (fun _ _ _ h => h)).kept K (fun h ad e => by have := ltG h ad e; show ¬ w.heap.size + 1 ≤ ad.block; omega)
  have HE00 : wrState s0 s1 s2 s3 s4 s5 ((nn : Int), ns) ((ng : Int), gs) s8 = put (put (wrL wrNode (put (put (put (put (put (put (put (some []) (wrText s0)) (wrText s1)) (wrText s2)) (wrText s3)) (wrNum 0 4 s4)) (wrText s5)) (wrNum 0 4503599627370496 nn)) ns) (wrLst wrSignal ((ng : Int), gs))) (wrNum 0 4503599627370496 s8) := by rw [wrL_eq hlN, some_put]; rfl
  have I0 := hW
  have KK0 := K0
  obtain ⟨c0_0, c0_1, c0_2, c0_3, c0_4, c0_5, c0_6, c0_7, c0_8⟩ := hC _ K0
  clear hW K0 ON OG ltN ltG
  go_enter Try.func41, Try.ntmps41
  go_wp2_with (first
    | (go_at_call 87; have _t := I0; refine (xtext_any I0 s0 h0 (by omega)).mono ?_; rintro e w1 ⟨rfl, I1, K1⟩; have KK1 := KK0.and K1.k; obtain ⟨c1_0, c1_1, c1_2, c1_3, c1_4, c1_5, c1_6, c1_7, c1_8⟩ := hC _ KK1; clear I0 _t KK0 K1 c0_0 c0_1 c0_2 c0_3 c0_4 c0_5 c0_6 c0_7 c0_8)
    | (go_at_call 87; have _t := I1; refine (xtext_any I1 s1 h1 (by omega)).mono ?_; rintro e w2 ⟨rfl, I2, K2⟩; have KK2 := KK1.and K2.k; obtain ⟨c2_0, c2_1, c2_2, c2_3, c2_4, c2_5, c2_6, c2_7, c2_8⟩ := hC _ KK2; clear I1 _t KK1 K2 c1_0 c1_1 c1_2 c1_3 c1_4 c1_5 c1_6 c1_7 c1_8)
    | (go_at_call 87; have _t := I2; refine (xtext_any I2 s2 h2 (by omega)).mono ?_; rintro e w3 ⟨rfl, I3, K3⟩; have KK3 := KK2.and K3.k; obtain ⟨c3_0, c3_1, c3_2, c3_3, c3_4, c3_5, c3_6, c3_7, c3_8⟩ := hC _ KK3; clear I2 _t KK2 K3 c2_0 c2_1 c2_2 c2_3 c2_4 c2_5 c2_6 c2_7 c2_8)
    | (go_at_call 87; have _t := I3; refine (xtext_any I3 s3 h3 (by omega)).mono ?_; rintro e w4 ⟨rfl, I4, K4⟩; have KK4 := KK3.and K4.k; obtain ⟨c4_0, c4_1, c4_2, c4_3, c4_4, c4_5, c4_6, c4_7, c4_8⟩ := hC _ KK4; clear I3 _t KK3 K4 c3_0 c3_1 c3_2 c3_3 c3_4 c3_5 c3_6 c3_7 c3_8)
    | (go_at_call 88; have _t := I4; refine (xnum_any I4 s4 0 4 (by decide) (by decide) (by omega)).mono ?_; rintro e w5 ⟨rfl, I5, K5⟩; have KK5 := KK4.and K5.k; obtain ⟨c5_0, c5_1, c5_2, c5_3, c5_4, c5_5, c5_6, c5_7, c5_8⟩ := hC _ KK5; clear I4 _t KK4 K5 c4_0 c4_1 c4_2 c4_3 c4_4 c4_5 c4_6 c4_7 c4_8)
    | (go_at_call 87; have _t := I5; refine (xtext_any I5 s5 h5 (by omega)).mono ?_; rintro e w6 ⟨rfl, I6, K6⟩; have KK6 := KK5.and K6.k; obtain ⟨c6_0, c6_1, c6_2, c6_3, c6_4, c6_5, c6_6, c6_7, c6_8⟩ := hC _ KK6; clear I5 _t KK5 K6 c5_0 c5_1 c5_2 c5_3 c5_4 c5_5 c5_6 c5_7 c5_8)
    | (go_at_call 88; have _t := I6; refine (xnum_any I6 nn 0 4503599627370496 (by decide) (by decide) (by omega)).mono ?_; rintro e w7 ⟨rfl, I7, K7⟩; have KK7 := KK6.and K7.k; obtain ⟨c7_0, c7_1, c7_2, c7_3, c7_4, c7_5, c7_6, c7_7, c7_8⟩ := hC _ KK7; clear I6 _t KK6 K7 c6_0 c6_1 c6_2 c6_3 c6_4 c6_5 c6_6 c6_7 c6_8)
    | fail)
  generalize put (put (put (put (put (put (put (some []) (wrText s0)) (wrText s1)) (wrText s2)) (wrText s3)) (wrNum 0 4 s4)) (wrText s5)) (wrNum 0 4503599627370496 nn) = s1' at *
  have HE0 : Hid _ := HE00
  have I8 := I7.wide (show _ ≤ 6000000 by omega)
  have tk7 : Hid True := trivial
  clear HE00 I7
  go_loopw [5] (fun i wr => ∃ (k : Nat), i = .int .i64 k ∧ k ≤ nn ∧ WIn wr 134 (w.heap.size + 1) (w.heap.size + 1) (wrL wrNode s1' (ns.take k)) (6000000 + 1048650 * k) ∧ Kept (fun k => w.heap.size + 1 ≤ k) (w.alloc (.cells #[.string s0, .string s1, .string s2, .string s3, .int .i64 s4, .string s5, .slice an nn cn, .slice ag ng cg, .int .i64 s8] 72)) wr) (fun i _ => nn - (intOf i).toNat)
  case atStart => exact ⟨0, rfl, Nat.zero_le _, I8, KK7⟩
  case round =>
    clear I8 KK7 tk7 c7_0 c7_1 c7_2 c7_3 c7_4 c7_5 c7_6 c7_7 c7_8
    obtain ⟨k, rfl, hk, I, KK⟩ := hrel
    by_cases hkn : k = nn
    · obtain rfl : nn = k := hkn.symm
      have hc : ¬ ((nn : Int) < (nn : Int)) := by omega
      rw [List.take_of_length_le (by omega)] at I
      obtain ⟨f0_0, f0_1, f0_2, f0_3, f0_4, f0_5, f0_6, f0_7, f0_8⟩ := hC _ KK
      have I0 := I
      clear I
      go_wp2_with (first
        | (go_at_call 88; refine (xnum_any I0 ng 0 4503599627370496 (by decide) (by decide) (by omega)).mono ?_; rintro e w9 ⟨rfl, I9, K9⟩; have KK9 := KK.and K9.k; have tk9 : Hid True := trivial; clear I0 KK K9 f0_0 f0_1 f0_2 f0_3 f0_4 f0_5 f0_6 f0_7 f0_8)
        | fail)
      have HE : Hid (wrState s0 s1 s2 s3 s4 s5 ((nn : Int), ns) ((ng : Int), gs) s8 = put (wrL wrSignal (put (wrL wrNode s1' ns) (wrNum 0 4503599627370496 ng)) gs) (wrNum 0 4503599627370496 s8)) := by
        show wrState s0 s1 s2 s3 s4 s5 ((nn : Int), ns) ((ng : Int), gs) s8 = _
        rw [wrL_eq hlG]
        exact HE0.out
      generalize put (wrL wrNode s1' ns) (wrNum 0 4503599627370496 ng) = t2 at *
      go_loopw [6] (fun i wr => ∃ (k : Nat), i = .int .i64 k ∧ k ≤ ng ∧ WIn wr 134 (w.heap.size + 1) (w.heap.size + 1) (wrL wrSignal t2 (gs.take k)) ((6000000 + 1048650 * nn + 8) + 2097210 * k) ∧ Kept (fun k => w.heap.size + 1 ≤ k) (w.alloc (.cells #[.string s0, .string s1, .string s2, .string s3, .int .i64 s4, .string s5, .slice an nn cn, .slice ag ng cg, .int .i64 s8] 72)) wr) (fun i _ => ng - (intOf i).toNat)
      case atStart => exact ⟨0, rfl, Nat.zero_le _, I9, KK9⟩
      case round =>
        clear I9 KK9 tk9
        obtain ⟨k, rfl, hk, I, KK⟩ := hrel
        by_cases hkn : k = ng
        · obtain rfl : ng = k := hkn.symm
          have hc : ¬ ((ng : Int) < (ng : Int)) := by omega
          rw [List.take_of_length_le (by omega)] at I
          obtain ⟨f0_0, f0_1, f0_2, f0_3, f0_4, f0_5, f0_6, f0_7, f0_8⟩ := hC _ KK
          have I0 := I
          clear I
          go_wp2_with (first
            | (go_at_call 88; refine (xnum_any I0 s8 0 4503599627370496 (by decide) (by decide) (by omega)).mono ?_; rintro e w31 ⟨rfl, I1, K1⟩; have KKe := KK.and K1.k; clear I0 KK K1 f0_0 f0_1 f0_2 f0_3 f0_4 f0_5 f0_6 f0_7 f0_8)
            | (go_at_call 89; refine (xdone_any I1).mono ?_; rintro e w32 ⟨a, l, c, er, rfl, hA, hw⟩; subst hw)
            | fail)
          go_ret2
          rw [HE.out]
          exact ⟨a, l, c, er, rfl, hA.mono (by omega), (Kept.alloc _ w _).trans KKe (fun k h => .inr (by omega))⟩
        · have hkl : k < gs.length := by omega
          obtain ⟨o, ho⟩ : ∃ o, gs[k]? = some o := ⟨gs[k], List.getElem?_eq_getElem hkl⟩
          obtain ⟨u0, u1⟩ := o
          have hzz := hsG _ (List.mem_of_getElem? ho)
          simp only [] at hzz
          have hnx := wrL_next (W := wrSignal) t2 gs k _ ho
          have hel : ∃ b off, ag = some ⟨b, off, none⟩ ∧ ∀ w', Kept (fun k => w.heap.size + 1 ≤ k) (w.alloc (.cells #[.string s0, .string s1, .string s2, .string s3, .int .i64 s4, .string s5, .slice an nn cn, .slice ag ng cg, .int .i64 s8] 72)) w' → w'.cell? ⟨b, off + k * 2, none⟩ = some (.string u0) ∧ w'.cell? ⟨b, off + k * 2 + 1, none⟩ = some (.string u1) := by
            cases hag : ag with
            | none => have := (RG.out _ KK).nil hag; omega
            | some ad =>
              have hsp := ((RG.out _ KK).cells ad hag (by omega)).1
              obtain ⟨b, off, sp⟩ := ad
              obtain rfl : sp = none := hsp
              refine ⟨b, off, rfl, fun w' K => ?_⟩
              rw [← hag] at K
              have h := ((RG.out w' K).cells _ hag (by omega)).2 k _ ho
              exact ⟨h 0 _ rfl, h 1 _ rfl⟩
          obtain ⟨b, off, rfl, hel⟩ := hel
          have hc : (k : Int) < (ng : Int) := by omega
          generalize wrL wrSignal t2 (gs.take k) = st at *
          have HX : Hid (wrL wrSignal t2 (gs.take (k + 1)) = put st (wrSignal (u0, u1))) := hnx
          clear hnx
          obtain ⟨d0_0, d0_1, d0_2, d0_3, d0_4, d0_5, d0_6, d0_7, d0_8⟩ := hC _ KK
          obtain ⟨e0_0, e0_1⟩ := hel _ KK
          have I0 := I
          have KL0 := KK
          clear I KK
          go_wp2_with (first
            | (go_at_call 87; have _t := I0; refine (xtext_any I0 u0 (hzz.1) (by omega)).mono ?_; rintro e w21 ⟨rfl, I1, K1⟩; have KL1 := KL0.and K1.k; obtain ⟨d1_0, d1_1, d1_2, d1_3, d1_4, d1_5, d1_6, d1_7, d1_8⟩ := hC _ KL1; obtain ⟨e1_0, e1_1⟩ := hel _ KL1; clear I0 _t KL0 K1 d0_0 d0_1 d0_2 d0_3 d0_4 d0_5 d0_6 d0_7 d0_8 e0_0 e0_1)
            | (go_at_call 87; have _t := I1; refine (xtext_any I1 u1 (hzz.2) (by omega)).mono ?_; rintro e w22 ⟨rfl, I2, K2⟩; have KL2 := KL1.and K2.k; clear I1 _t KL1 K2 d1_0 d1_1 d1_2 d1_3 d1_4 d1_5 d1_6 d1_7 d1_8 e1_0 e1_1)
            | fail)
          go_roundw
          case rel =>
            refine ⟨k + 1, by simp, by omega, ?_, KL2⟩
            rw [HX.out, show put st (wrSignal (u0, u1)) = put (put st (wrText u0)) (wrText u1) from by unfold wrSignal; simp only [← put_assoc]]
            exact I2.wide (by omega)
          case measure => simp [intOf]; omega
    · have hkl : k < ns.length := by omega
      obtain ⟨o, ho⟩ : ∃ o, ns[k]? = some o := ⟨ns[k], List.getElem?_eq_getElem hkl⟩
      obtain ⟨u0, u1, u2⟩ := o
      have hzz := hsN _ (List.mem_of_getElem? ho)
      simp only [] at hzz
      have hnx := wrL_next (W := wrNode) s1' ns k _ ho
      have hel : ∃ b off, an = some ⟨b, off, none⟩ ∧ ∀ w', Kept (fun k => w.heap.size + 1 ≤ k) (w.alloc (.cells #[.string s0, .string s1, .string s2, .string s3, .int .i64 s4, .string s5, .slice an nn cn, .slice ag ng cg, .int .i64 s8] 72)) w' → w'.cell? ⟨b, off + k * 3, none⟩ = some (.int .i64 u0) ∧ w'.cell? ⟨b, off + k * 3 + 1, none⟩ = some (.int .i64 u1) ∧ w'.cell? ⟨b, off + k * 3 + 2, none⟩ = some (.string u2) := by
        cases han : an with
        | none => have := (RN.out _ KK).nil han; omega
        | some ad =>
          have hsp := ((RN.out _ KK).cells ad han (by omega)).1
          obtain ⟨b, off, sp⟩ := ad
          obtain rfl : sp = none := hsp
          refine ⟨b, off, rfl, fun w' K => ?_⟩
          rw [← han] at K
          have h := ((RN.out w' K).cells _ han (by omega)).2 k _ ho
          exact ⟨h 0 _ rfl, h 1 _ rfl, h 2 _ rfl⟩
      obtain ⟨b, off, rfl, hel⟩ := hel
      have hc : (k : Int) < (nn : Int) := by omega
      generalize wrL wrNode s1' (ns.take k) = st at *
      have HX : Hid (wrL wrNode s1' (ns.take (k + 1)) = put st (wrNode (u0, u1, u2))) := hnx
      clear hnx
      obtain ⟨d0_0, d0_1, d0_2, d0_3, d0_4, d0_5, d0_6, d0_7, d0_8⟩ := hC _ KK
      obtain ⟨e0_0, e0_1, e0_2⟩ := hel _ KK
      have I0 := I
      have KL0 := KK
      clear I KK
      go_wp2_with (first
        | (go_at_call 88; have _t := I0; refine (xnum_any I0 u0 0 4 (by decide) (by decide) (by omega)).mono ?_; rintro e w21 ⟨rfl, I1, K1⟩; have KL1 := KL0.and K1.k; obtain ⟨d1_0, d1_1, d1_2, d1_3, d1_4, d1_5, d1_6, d1_7, d1_8⟩ := hC _ KL1; obtain ⟨e1_0, e1_1, e1_2⟩ := hel _ KL1; clear I0 _t KL0 K1 d0_0 d0_1 d0_2 d0_3 d0_4 d0_5 d0_6 d0_7 d0_8 e0_0 e0_1 e0_2)
        | (go_at_call 88; have _t := I1; refine (xnum_any I1 u1 0 4503599627370496 (by decide) (by decide) (by omega)).mono ?_; rintro e w22 ⟨rfl, I2, K2⟩; have KL2 := KL1.and K2.k; obtain ⟨d2_0, d2_1, d2_2, d2_3, d2_4, d2_5, d2_6, d2_7, d2_8⟩ := hC _ KL2; obtain ⟨e2_0, e2_1, e2_2⟩ := hel _ KL2; clear I1 _t KL1 K2 d1_0 d1_1 d1_2 d1_3 d1_4 d1_5 d1_6 d1_7 d1_8 e1_0 e1_1 e1_2)
        | (go_at_call 87; have _t := I2; refine (xtext_any I2 u2 (hzz) (by omega)).mono ?_; rintro e w23 ⟨rfl, I3, K3⟩; have KL3 := KL2.and K3.k; clear I2 _t KL2 K3 d2_0 d2_1 d2_2 d2_3 d2_4 d2_5 d2_6 d2_7 d2_8 e2_0 e2_1 e2_2)
        | fail)
      go_roundw
      case rel =>
        refine ⟨k + 1, by simp, by omega, ?_, KL3⟩
        rw [HX.out, show put st (wrNode (u0, u1, u2)) = put (put (put st (wrNum 0 4 u0)) (wrNum 0 4503599627370496 u1)) (wrText u2) from by unfold wrNode; simp only [← put_assoc]]
        exact I3.wide (by omega)
      case measure => simp [intOf]; omega

end Go.Proofs.Ytceocmhgbcimoaa
