/-
  A flag and changes: written by the document.
-/
import Derived.Test.YtceocmhgbcimoaaCOps
import Derived.Test.YtceocmhgbcimoaaCRefText
namespace Go.Proofs.Ytceocmhgbcimoaa
open Go.RowKit

set_option maxRecDepth 100000 in
set_option maxHeartbeats 400000 in
theorem xflag_at {w : World} {base p : Nat} {v : Value} {raw : List Int} {bad : Bool} (A : WAt w 134 base p v raw bad) (b : Bool) (hL : raw.length ≤ 2199023255552) :
    Calls Try.prog 106 #[.pointer (some ⟨p, 0, none⟩), .bool b] w fun e w' => e = .returned (.tuple #[]) ∧ (∃ v', WAt w' 134 base p v' (raw ++ [flagB b]) bad) ∧ Keep2 base p w w' := by
  obtain ⟨i0, hi0, hz0, hz1, hz2⟩ := info_parts Try.info5
  obtain ⟨a, c, rfl⟩ := ownsRow_shape A.row
  have y0 := A.c0
  have f0 := A.fz 0
  have hbp := A.bp
  have HA : Hid (WAt w 134 base p (.slice a raw.length c) raw bad) := A
  cases b with
  | true =>
    have ra := A.row.alloc (.cells #[.int .u8 1] 5)
    have hb : base ≤ (w.alloc (.cells #[.int .u8 1] 5)).heap.size := by have := A.hb; simp; omega
    have k2 := fun w3 => A.after (w3 := w3) (o := .cells #[.int .u8 1] 5)
    clear A
    go_enter Try.func106, Try.ntmps106
    go_wp2_with (first
      | (at_builtin; refine wpList_append_src _ rfl _ _ 28 rfl base 5 i0 (.int .u8 0) 1 1 Try.underlying28 hi0 hz0 hz1 hz2 rfl (by decide) (.slice a raw.length c) raw.length _ rfl ra _ rfl 1 _ srcNew (by simp [Value.oneCell']) (by unfold maxLen; omega) (by omega) hb ?_; intro a3 cap3 w3 ho3 hg3 _ hl3; obtain ⟨y3, f3, K3⟩ := k2 w3 hg3; clear k2 ra)
      | fail)
    go_end0
    exact ⟨rfl, ⟨_, HA.out.lay K3 (by rw [show (raw ++ [flagB true]).length = raw.length + 1 by simp, List.map_append]; exact ho3) (hl3.imp id (fun h => ⟨_, h, by simp⟩)) (HA.out.bs.append (fun y hy => by simp [flagB] at hy; subst hy; omega))⟩, (Keep2.own HA.out.row K3).and (Keep2.setP _ _ _ hbp)⟩
  | false =>
    have ra := A.row.alloc (.cells #[.int .u8 0] 5)
    have hb : base ≤ (w.alloc (.cells #[.int .u8 0] 5)).heap.size := by have := A.hb; simp; omega
    have k2 := fun w3 => A.after (w3 := w3) (o := .cells #[.int .u8 0] 5)
    clear A
    go_enter Try.func106, Try.ntmps106
    go_wp2_with (first
      | (at_builtin; refine wpList_append_src _ rfl _ _ 28 rfl base 5 i0 (.int .u8 0) 1 1 Try.underlying28 hi0 hz0 hz1 hz2 rfl (by decide) (.slice a raw.length c) raw.length _ rfl ra _ rfl 1 _ srcNew (by simp [Value.oneCell']) (by unfold maxLen; omega) (by omega) hb ?_; intro a3 cap3 w3 ho3 hg3 _ hl3; obtain ⟨y3, f3, K3⟩ := k2 w3 hg3; clear k2 ra)
      | fail)
    go_end0
    exact ⟨rfl, ⟨_, HA.out.lay K3 (by rw [show (raw ++ [flagB false]).length = raw.length + 1 by simp, List.map_append]; exact ho3) (hl3.imp id (fun h => ⟨_, h, by simp⟩)) (HA.out.bs.append (fun y hy => by simp [flagB] at hy; subst hy; omega))⟩, (Keep2.own HA.out.row K3).and (Keep2.setP _ _ _ hbp)⟩

theorem xflag_any {w : World} {base p : Nat} {st : Option (List Int)} {L : Nat} (I : WIn w 134 base p st L) (b : Bool) (hL : L ≤ 2199023255552) :
    Calls Try.prog 106 #[.pointer (some ⟨p, 0, none⟩), .bool b] w fun e w' => e = .returned (.tuple #[]) ∧ WIn w' 134 base p (put st (wrFlag b)) (L + 8) ∧ Keep2 base p w w' := by
  obtain ⟨v, raw, bad, A, hr, rfl⟩ := I
  refine (xflag_at A b (by omega)).mono ?_
  rintro e w' ⟨rfl, ⟨v', A'⟩, K⟩
  refine ⟨rfl, ⟨v', _, bad, A', by simp; omega, ?_⟩, K⟩
  cases bad <;> rfl

set_option maxRecDepth 100000 in
set_option maxHeartbeats 400000 in
theorem refOps_any (w : World) (a : Option Addr) (n c : Nat) (ops : List OpD) (O : OpsAt w a n c ops) (hlow : 0 < n → ∀ ad, a = some ad → ad.block < w.heap.size) (hn : n ≤ 400000) (hs : ∀ o ∈ ops, o.1.size ≤ 1048576 ∧ o.2.1.size ≤ 1048576) :
    Calls Try.prog 47 #[.slice a n c] w fun e w' => ∃ a l c er, e = .returned (.tuple #[.slice a l c, .int .i64 er]) ∧ Ans w' w.heap.size (wrOps (wrNum 0 4503599627370496 n) ops) a l c er ∧ Kept (fun _ => False) w w' := by
  have hN := xnum_any (WIn.new w 134) n 0 4503599627370496 (by decide) (by decide) (by decide)
  rw [some_put] at hN
  generalize wrNum 0 4503599627370496 n = s1 at *
  go_enter Try.func47, Try.ntmps47
  go_wp2_with (first
    | (go_at_call 88; refine hN.mono ?_; rintro e w1 ⟨rfl, I1, K1⟩; clear hN)
    | fail)
  have hlen := O.len
  have HO : Hid (OpsAt w a n c ops) := O
  have K0 : Kept (fun k => w.heap.size ≤ k) w (w.alloc (.cells #[.slice none 0 0, .bool false] 134)) := Kept.alloc _ _ _
  clear O
  go_loopw [5] (fun i wr => ∃ (k : Nat), i = .int .i64 k ∧ k ≤ n ∧ WIn wr 134 w.heap.size w.heap.size (wrOps s1 (ops.take k)) (8 + 2097300 * k) ∧ Keep2 w.heap.size w.heap.size (w.alloc (.cells #[.slice none 0 0, .bool false] 134)) wr) (fun i _ => n - (intOf i).toNat)
  case atStart => exact ⟨0, rfl, Nat.zero_le _, I1, K1⟩
  case round =>
    clear I1 K1
    obtain ⟨k, rfl, hk, I2, K2⟩ := hrel
    by_cases hkn : k = n
    · subst hkn
      have hc : ¬ ((k : Int) < (k : Int)) := by omega
      rw [List.take_of_length_le (by omega)] at I2
      go_wp2_with (first
        | (go_at_call 89; refine (xdone_any I2).mono ?_; rintro e w5 ⟨a, l, c, er, rfl, hA, hw⟩; subst hw)
        | fail)
      go_ret2
      exact ⟨a, l, c, er, rfl, hA, kept_new K2.k⟩
    · have hkl : k < ops.length := by omega
      obtain ⟨o, ho⟩ : ∃ o, ops[k]? = some o := ⟨ops[k], List.getElem?_eq_getElem hkl⟩
      obtain ⟨ok, ov, og⟩ := o
      have hsz := hs _ (List.mem_of_getElem? ho)
      simp only [] at hsz
      cases a with
      | none => have := HO.out.nil rfl; omega
      | some ad =>
        obtain ⟨hsp, hcs⟩ := HO.out.cells ad rfl (by omega)
        obtain ⟨b, off, sp⟩ := ad
        obtain rfl : sp = none := hsp
        have hbl : b < w.heap.size := hlow (by omega) _ rfl
        obtain ⟨d0, d1, d2⟩ := hcs k _ ho
        simp only [] at d0 d1 d2
        have hcell : ∀ w', Keep2 w.heap.size w.heap.size (w.alloc (.cells #[.slice none 0 0, .bool false] 134)) w' → w'.cell? ⟨b, off + k * 3, none⟩ = some (.string ok) ∧ w'.cell? ⟨b, off + k * 3 + 1, none⟩ = some (.string ov) ∧ w'.cell? ⟨b, off + k * 3 + 2, none⟩ = some (.bool og) := fun w' K =>
          ⟨(cell_keep (K0.and K.k) d0 (by show ¬ w.heap.size ≤ b; omega)).1, (cell_keep (K0.and K.k) d1 (by show ¬ w.heap.size ≤ b; omega)).1, (cell_keep (K0.and K.k) d2 (by show ¬ w.heap.size ≤ b; omega)).1⟩
        obtain ⟨e0, e1, e2⟩ := hcell _ K2
        have hc : (k : Int) < (n : Int) := by omega
        have hnx := wrOps_next s1 ops k _ ho
        simp only [] at hnx
        clear d0 d1 d2 hcs
        generalize wrOps s1 (ops.take k) = st at *
        have HX : Hid (wrOps s1 (ops.take (k + 1)) = put st (wrOp ok ov og)) := hnx
        clear hnx
        cases og with
        | false =>
          go_wp2_with (first
            | (go_at_call 87; have _t := I2; refine (xtext_any I2 ok (hsz.1) (by omega)).mono ?_; rintro e w2 ⟨rfl, I3, K3⟩; have KK3 := K2.and K3; obtain ⟨x0, x1, x2⟩ := hcell _ KK3; clear I2 _t K2 K3 e0 e1 e2)
            | (go_at_call 106; have _t := I3; refine (xflag_any I3 false (by omega)).mono ?_; rintro e w3 ⟨rfl, I4, K4⟩; have KK4 := KK3.and K4; obtain ⟨y0, y1, y2⟩ := hcell _ KK4; clear I3 _t KK3 K4 x0 x1 x2)
            | (go_at_call 87; refine (xtext_any I4 ov (hsz.2) (by omega)).mono ?_; rintro e w4 ⟨rfl, I5, K5⟩; have KK5 := KK4.and K5; clear I4 K5)
            | fail)
          go_roundw
          case rel =>
            refine ⟨k + 1, by simp, by omega, ?_, KK5⟩
            rw [HX.out, show put st (wrOp ok ov false) = put (put (put st (wrText ok)) (wrFlag false)) (wrText ov) from by unfold wrOp; rw [if_neg (by decide), ← put_assoc', ← put_assoc']]
            exact I5.wide (by omega)
          case measure => simp [intOf]; omega
        | true =>
          by_cases hv : ov.toList = []
          · obtain rfl := toList_nil hv
            go_wp2_with (first
              | (go_at_call 87; have _t := I2; refine (xtext_any I2 ok (hsz.1) (by omega)).mono ?_; rintro e w2 ⟨rfl, I3, K3⟩; have KK3 := K2.and K3; obtain ⟨x0, x1, x2⟩ := hcell _ KK3; clear I2 _t K2 K3 e0 e1 e2)
              | (go_at_call 106; have _t := I3; refine (xflag_any I3 true (by omega)).mono ?_; rintro e w3 ⟨rfl, I4, K4⟩; have KK4 := KK3.and K4; obtain ⟨y0, y1, y2⟩ := hcell _ KK4; clear I3 _t KK3 K4 x0 x1 x2)
              | fail)
            go_roundw
            case rel =>
              refine ⟨k + 1, by simp, by omega, ?_, KK4⟩
              rw [HX.out, show put st (wrOp ok ⟨#[]⟩ true) = put (put st (wrText ok)) (wrFlag true) from by unfold wrOp; rw [if_pos rfl, if_pos hv, put_nil, ← put_assoc']]
              exact I4.wide (by omega)
            case measure => simp [intOf]; omega
          · have hd : ov.toList.isEmpty = false := by rw [Bool.eq_false_iff]; intro e; exact hv (List.isEmpty_iff.1 e)
            go_wp2_with (first
              | (go_at_call 87; have _t := I2; refine (xtext_any I2 ok (hsz.1) (by omega)).mono ?_; rintro e w2 ⟨rfl, I3, K3⟩; have KK3 := K2.and K3; obtain ⟨x0, x1, x2⟩ := hcell _ KK3; clear I2 _t K2 K3 e0 e1 e2)
              | (go_at_call 106; have _t := I3; refine (xflag_any I3 true (by omega)).mono ?_; rintro e w3 ⟨rfl, I4, K4⟩; have KK4 := KK3.and K4; obtain ⟨y0, y1, y2⟩ := hcell _ KK4; obtain ⟨v, raw, bad, A, hr, hbb⟩ := I4; have f1 := A.fz 1; have cc1 := A.c1; have HA : Hid _ := A; clear A; clear I3 _t KK3 K4 x0 x1 x2)
              | fail)
            go_roundw
            case rel =>
              refine ⟨k + 1, by simp, by omega, ?_, KK4.and (Keep2.setP _ _ _ (Nat.le_refl _))⟩
              rw [HX.out, show put st (wrOp ok ov true) = none from by unfold wrOp; rw [if_pos rfl, if_neg hv, put_none, put_none]]
              have W : WIn (w3.setCell ⟨w.heap.size, 1, none⟩ (.bool true)) 134 w.heap.size w.heap.size none (8 + 2097300 * k + 1048600 + 8) := ⟨v, raw, true, HA.out.mark true, hr, rfl⟩
              exact W.wide (by omega)
            case measure => simp [intOf]; omega

end Go.Proofs.Ytceocmhgbcimoaa
