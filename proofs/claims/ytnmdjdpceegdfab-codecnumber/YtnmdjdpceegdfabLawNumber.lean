/-
  CodecNumber holds for every number and all bytes: the law's call returns true and leaves its arguments as they were. No condition.
-/
import Derived.Test.YtnmdjdpceegdfabCWakes
import Derived.Test.YtnmdjdpceegdfabCRefWr
import Derived.Test.YtnmdjdpceegdfabCRefRd
namespace Go.Proofs.Ytnmdjdpceegdfab
open Go.ChangeShapes Go.WideShapes Go.ChangeAt Go.RowKit

/-- What ReadNumber answers. -/
def NumAns (x : Except Nat (Int × Nat)) (n p er : Int) : Prop := match x with
  | .error pl => n = 0 ∧ p = pl ∧ er = 2
  | .ok (v, i) => n = v ∧ p = i ∧ er = 0

theorem NumAns.same {x : Except Nat (Int × Nat)} {n p er n' p' er' : Int} (h : NumAns x n p er) (h' : NumAns x n' p' er') : n' = n ∧ p' = p ∧ er' = er := by
  cases x with
  | error pl => obtain ⟨rfl, rfl, rfl⟩ := h; obtain ⟨rfl, rfl, rfl⟩ := h'; exact ⟨rfl, rfl, rfl⟩
  | ok y => obtain ⟨rfl, rfl, rfl⟩ := h; obtain ⟨rfl, rfl, rfl⟩ := h'; exact ⟨rfl, rfl, rfl⟩

theorem Ans.kept {S : Nat → Prop} {w w' : World} {base : Nat} {st : Option (List Int)} {a : Option Addr} {l c : Nat} {e : Int} (h : Ans w base st a l c e) (K : Kept S w w') (hS : ∀ k, S k → k < base ∨ w.heap.size ≤ k) : Ans w' base st a l c e :=
  ⟨ownsRow_block' h.row (fun k hk => K.block k (h.row.lt k hk).2 (fun hs => by have := hS k hs; have := h.row.lt k hk; omega)), h.len, h.err, h.bs⟩

/-- Read anew, what is written is as it was. -/
theorem num_back {n : Int} {enc raw : List Int} (h : wrNum 0 4503599627370496 n = some enc) : rdNum 0 4503599627370496 (enc ++ raw) 0 = .ok (n, enc.length) := by
  have := (numForm (lo := 0) (hi := 4503599627370496) (by decide) (by decide)).fore [] enc raw n h
  simpa using this

/-- An append onto an empty slice of one's own. -/
theorem kept_app {w w2 w3 : World} {t : TypeId} (K : Kept (fun _ => False) w w2) (h : (w2.alloc (.cells #[] t)).grownBy w3 (Value.slice (some ⟨w2.heap.size, 0, none⟩) 0 0).ownBlock) : Kept (fun _ => False) w w3 :=
  (K.and (Kept.alloc _ w2 _)).trans (Kept.grown (S := fun k => w2.heap.size ≤ k) h (fun _ e => Nat.le_of_eq (Option.some.inj e))) (fun _ h => .inr (Nat.le_trans K.size h))

set_option maxRecDepth 100000 in
set_option maxHeartbeats 2000000 in
theorem number_walk (n : Int) (a : Option Addr) (len cap : Nat) (zs : List Int) (w : World) (_ : isI64 n) (hr : IsRow .u8 w a len cap zs) :
    Calls Try.prog 3 #[.int .i64 n, .slice a len cap] w fun e w' => e = .returned (.bool true) ∧ Below w.heap.size w w' := by
  obtain ⟨i0, hi0, hz0, hz1, hz2⟩ := info_parts Try.info5
  have B := (hr.bytes).take (h := min len 3000) (by omega)
  have hcap := hr.bytes.cap
  have hm : min len 3000 ≤ 3000 := Nat.min_le_right _ _
  generalize (zs.take len).take (min len 3000) = raw at *
  have hclip := clip_any w a len cap hcap
  generalize min len 3000 = m at *
  clear hr
  have h1 := number_any w n
  have hR1 : ∀ w', Kept (fun _ => False) w w' → Calls Try.prog 10 #[.slice a m cap] w' fun e w'' => ∃ n p er : Int, e = .returned (.tuple #[.int .i64 n, .int .i64 p, .int .i64 er]) ∧ NumAns (rdNum 0 4503599627370496 raw 0) n p er ∧ Kept (fun _ => False) w' w'' := fun w' K =>
    readNumber_any w' a m cap raw (B.kept K (fun _ _ _ h => h)) (by omega)
  have hR2 : ∀ w', Kept (fun _ => False) w w' → Calls Try.prog 11 #[.slice a m cap] w' fun e w'' => ∃ n p er : Int, e = .returned (.tuple #[.int .i64 n, .int .i64 p, .int .i64 er]) ∧ NumAns (rdNum 0 4503599627370496 raw 0) n p er ∧ Kept (fun _ => False) w' w'' := fun w' K =>
    refReadNumber_any w' a m cap raw (B.kept K (fun _ _ _ h => h)) (by omega)
  cases hst : wrNum 0 4503599627370496 n with
  | none =>
    rw [hst] at h1
    have h2 : ∀ w1, _ := fun w1 => refNumber_any w1 n
    rw [hst] at h2
    clear B
    go_enter Try.func3, Try.ntmps3
    go_wp2_with (first
      | (go_at_call 7; refine hclip.mono ?_; rintro e w0 ⟨rfl, hw0⟩; subst w0)
      | (go_at_call 8; refine h1.mono ?_; rintro e w1 ⟨a1, l1, c1, er1, rfl, A1, K1⟩; obtain rfl : er1 = 2 := A1.err; obtain rfl : 0 = l1 := A1.len; clear h1)
      | (go_at_call 9; refine (h2 w1).mono ?_; rintro e w2 ⟨a2, l2, c2, er2, rfl, A2, K2⟩; obtain rfl : er2 = 2 := A2.err; obtain rfl : 0 = l2 := A2.len; have s1 := (A1.kept K2 (fun _ h => h.elim)).bytes.str; have s2 := A2.bytes.str; have K12 := K1.and K2; simp only [Option.getD_none] at s1 s2; clear h2 A1 A2 K1 K2)
      | (go_at_call 10; refine (hR1 _ K12).mono ?_; rintro e w3 ⟨x, p, er, rfl, m3, K3⟩; have K13 := K12.and K3; clear hR1 K12 K3 s1 s2)
      | (go_at_call 11; refine (hR2 _ K13).mono ?_; rintro e w4 ⟨x', p', er', rfl, m4, K4⟩; obtain ⟨hx1, hx2, hx3⟩ := m3.same m4; subst hx1 hx2 hx3; have K14 := K13.and K4; clear hR2 K13 K4 m3 m4)
      | (go_at_call 12; refine (wakes_any _).mono ?_; rintro e w5 ⟨rfl, K5⟩)
      | fail)
    go_ret
    exact ⟨rfl, (K14.and K5).none⟩
  | some enc =>
    rw [hst] at h1
    have h2 : ∀ w1, _ := fun w1 => refNumber_any w1 n
    rw [hst] at h2
    have hback := num_back (raw := raw) hst
    have hel : enc.length ≤ 8 := by
      unfold wrNum at hst
      split at hst
      · simp only [Option.some.injEq] at hst
        have := sz_le n.toNat
        rw [← hst, numB_length]; omega
      · cases hst
    have hbB := B.byte
    have hlB := B.len
    have HB : Hid _ := B
    have R0 : ∀ w4 a4 c4, w4.ownsRow w.heap.size 5 1 (.slice a4 (enc.length + m) c4) (enc.length + m) (enc.map (Value.int .u8) ++ raw.map (Value.int .u8)) → Bs enc → Calls Try.prog 10 #[.slice a4 (enc.length + m) c4] w4 fun e w'' => e = .returned (.tuple #[.int .i64 n, .int .i64 enc.length, .int .i64 0]) ∧ Kept (fun _ => False) w4 w'' := fun w4 a4 c4 ho hbe => by
      have hle : (enc ++ raw).length = enc.length + m := by rw [List.length_append, hlB]
      have ho2 : w4.ownsRow w.heap.size 5 1 (.slice a4 (enc ++ raw).length c4) (enc ++ raw).length ((enc ++ raw).map (Value.int .u8)) := by rw [hle, List.map_append]; exact ho
      have B4 := BytesAt.ofRow ho2 (fun y hy => (List.mem_append.1 hy).elim (hbe y) (hbB y))
      rw [hle] at B4
      refine (readNumber_any w4 a4 _ c4 _ B4 (by omega)).mono ?_
      rintro e w' ⟨x, p, er, rfl, h, K⟩
      rw [hback] at h
      obtain ⟨rfl, rfl, rfl⟩ := h
      exact ⟨rfl, K⟩
    clear B
    go_enter Try.func3, Try.ntmps3
    go_wp2_with (first
      | (go_at_call 7; refine hclip.mono ?_; rintro e w0 ⟨rfl, hw0⟩; subst w0)
      | (go_at_call 8; refine h1.mono ?_; rintro e w1 ⟨a1, l1, c1, er1, rfl, A1, K1⟩; obtain rfl : er1 = 0 := A1.err; obtain rfl : enc.length = l1 := A1.len; clear h1)
      | (go_at_call 9; refine (h2 w1).mono ?_; rintro e w2 ⟨a2, l2, c2, er2, rfl, A2, K2⟩; obtain rfl : er2 = 0 := A2.err; obtain rfl : enc.length = l2 := A2.len; have B1 := (A1.kept K2 (fun _ h => h.elim)).bytes; have s1 := B1.str; have s2 := A2.bytes.str; have K12 := K1.and K2; have hbe : Bs enc := A1.bs; have hz2' := K12.size; have hown := ownsRow_empty w2 w.heap.size 5 1 hz2'; have SA := (B1.kept (Kept.alloc (fun _ => False) w2 (.cells #[] 5)) (fun _ _ _ h => h)).src; simp only [Option.getD_some] at s1 s2 SA; clear h2 A1 A2 K1 K2 B1)
      | (at_builtin; have _t := hown; refine wpList_append_src _ rfl _ _ 22 rfl w.heap.size 5 i0 (.int .u8 0) 1 1 Try.underlying22 hi0 hz0 hz1 hz2 rfl (by decide) (.slice (some ⟨w2.heap.size, 0, none⟩) 0 0) 0 [] rfl hown _ rfl enc.length _ SA (oneCells _) (by unfold maxLen; omega) (by omega) (by simp; omega) ?_; intro a3 c3 w3 ho3 hg3 _ _; simp only [Nat.zero_add, List.nil_append] at ho3 ⊢; have K3 := kept_app K12 hg3; have SB := (HB.out.kept K3 (fun _ _ _ h => h)).src; have hz3 := K3.size; clear hown SA hg3)
      | (at_builtin; refine wpList_append_src _ rfl _ _ 22 rfl w.heap.size 5 i0 (.int .u8 0) 1 1 Try.underlying22 hi0 hz0 hz1 hz2 rfl (by decide) (.slice a3 enc.length c3) enc.length _ rfl ho3 _ rfl m _ SB (oneCells _) (by unfold maxLen; omega) (by omega) hz3 ?_; intro a4 c4 w4 ho4 hg4 _ _; have K4 := K3.trans (Kept.grown (S := fun k => w.heap.size ≤ k) hg4 (fun k e => (ho3.lt k e).1)) (fun _ h => .inr h); have R1 := R0 w4 a4 c4 ho4 hbe; clear SB K3 ho3 hg4 ho4 R0)
      | (go_at_call 10; have _t := R1; refine R1.mono ?_; rintro e w5 ⟨rfl, K5⟩; have K15 := K4.and K5; clear R1 K4 K5)
      | (go_at_call 10; refine (hR1 _ K15).mono ?_; rintro e w6 ⟨x, p, er, rfl, m3, K6⟩; have K16 := K15.and K6; clear hR1 K15 K6)
      | (go_at_call 11; refine (hR2 _ K16).mono ?_; rintro e w7 ⟨x', p', er', rfl, m4, K7⟩; obtain ⟨hx1, hx2, hx3⟩ := m3.same m4; subst hx1 hx2 hx3; have K17 := K16.and K7; clear hR2 K16 K7 m3 m4)
      | (go_at_call 12; refine (wakes_any _).mono ?_; rintro e w8 ⟨rfl, K8⟩)
      | fail)
    go_ret
    exact ⟨rfl, (K17.and K8).none⟩

end Go.Proofs.Ytnmdjdpceegdfab
