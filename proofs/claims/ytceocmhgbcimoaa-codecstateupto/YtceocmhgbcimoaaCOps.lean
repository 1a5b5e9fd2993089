/-
  Changes: written by the codec.
-/
import Derived.Test.YtceocmhgbcimoaaCOp
namespace Go.Proofs.Ytceocmhgbcimoaa
open Go.RowKit

abbrev OpD := ByteArray × ByteArray × Bool

/-- A row of changes in memory. -/
structure OpsAt (w : World) (a : Option Addr) (n c : Nat) (ops : List OpD) : Prop where
  len : ops.length = n
  cap : n ≤ c
  cells : ∀ ad, a = some ad → 0 < n → ad.spot = none ∧ ∀ i (o : OpD), ops[i]? = some o → w.cell? ⟨ad.block, ad.off + i * 3, none⟩ = some (.string o.1) ∧ w.cell? ⟨ad.block, ad.off + i * 3 + 1, none⟩ = some (.string o.2.1) ∧ w.cell? ⟨ad.block, ad.off + i * 3 + 2, none⟩ = some (.bool o.2.2)
  nil : a = none → n = 0

def wrOps (st : Option (List Int)) (l : List OpD) : Option (List Int) := l.foldl (fun s o => put s (wrOp o.1 o.2.1 o.2.2)) st

theorem wrOps_none (l : List OpD) : wrOps none l = none := by
  induction l with
  | nil => rfl
  | cons o l ih => exact ih

/-- How many bytes changes may take. -/
def opsB : List OpD → Nat
  | [] => 0
  | o :: l => o.1.size + o.2.1.size + 24 + opsB l

theorem keep2_fresh {base p : Nat} {w : World} (o : Obj) (q : Nat) (v : Value) : Keep2 base p w ((w.alloc o).setCell ⟨w.heap.size, q, none⟩ v) := by
  refine ⟨(Kept.alloc _ w o).trans (Kept.setCell (S := fun k => k = w.heap.size) _ _ _ rfl) (fun k h => .inr (by omega)), fun i cs T fz _ _ h3 => ?_⟩
  have hi := (Array.getElem?_eq_some_iff.1 h3).1
  rw [Below.heap_setCell _ _ _ _ (by show ¬ i = w.heap.size; omega), (Kept.alloc (fun _ => False) w o).block i hi (fun h => h)]
  exact h3

theorem wrOps_split (s : Option (List Int)) (l : List OpD) (k : Nat) : wrOps s l = wrOps (wrOps s (l.take k)) (l.drop k) := by
  unfold wrOps
  rw [← List.foldl_append, List.take_append_drop]

theorem wrOps_next (s : Option (List Int)) (l : List OpD) (k : Nat) (o : OpD) (h : l[k]? = some o) : wrOps s (l.take (k + 1)) = put (wrOps s (l.take k)) (wrOp o.1 o.2.1 o.2.2) := by
  unfold wrOps
  rw [List.take_add_one, h, List.foldl_append]
  rfl

theorem opsB_next (l : List OpD) (k : Nat) (o : OpD) (h : l[k]? = some o) : opsB (l.drop k) = o.1.size + o.2.1.size + 24 + opsB (l.drop (k + 1)) := by
  obtain ⟨hk, rfl⟩ := List.getElem?_eq_some_iff.1 h
  rw [List.drop_eq_getElem_cons hk]
  rfl

theorem opsB_len (l : List OpD) : l.length * 24 ≤ opsB l := by
  induction l with
  | nil => exact Nat.le_refl _
  | cons o l ih => simp only [List.length_cons, opsB]; omega

theorem text_len2 {s : ByteArray} {q : List Int} (h : wrText s = some q) : q.length ≤ s.size + 8 := by
  unfold wrText at h
  cases hw : wrNum 0 1048576 (s.size : Int) with
  | none => rw [hw] at h; cases h
  | some p =>
    rw [hw] at h
    simp only [Option.map_some, Option.some.injEq] at h
    subst h
    have : p.length ≤ 8 := by
      unfold wrNum at hw
      split at hw
      · cases hw
        have := sz_le (Int.toNat (s.size : Int))
        rw [numB_length]; omega
      · cases hw
    rw [List.length_append, bts_length]
    omega

theorem put_len {a b : Option (List Int)} {q : List Int} (h : put a b = some q) : ∃ x y, a = some x ∧ b = some y ∧ q.length = x.length + y.length := by
  cases a with
  | none => cases h
  | some x =>
    cases b with
    | none => cases h
    | some y => cases h; exact ⟨x, y, rfl, rfl, List.length_append⟩

theorem op_len {k v : ByteArray} {g : Bool} {q : List Int} (h : wrOp k v g = some q) : q.length ≤ k.size + v.size + 24 := by
  obtain ⟨x, y, hx, hy, hq⟩ := put_len h
  obtain ⟨x1, x2, h1, h2, hx2⟩ := put_len hx
  have e1 := text_len2 h1
  have e2 : x2.length = 1 := by cases h2; rfl
  have e3 : y.length ≤ v.size + 8 := by
    cases g with
    | false => rw [if_neg (by decide)] at hy; exact text_len2 hy
    | true =>
      rw [if_pos rfl] at hy
      split at hy
      · cases hy; simp
      · cases hy
  omega

/-- A right writer holds just what it has gathered. -/
theorem WIn.tight {w : World} {ty : TypeId} {base p : Nat} {q : List Int} {L : Nat} (I : WIn w ty base p (some q) L) : WIn w ty base p (some q) q.length := by
  obtain ⟨v, raw, bad, A, hl, hs⟩ := I
  obtain ⟨rfl, rfl⟩ := bad_some hs
  exact ⟨v, q, false, A, Nat.le_refl _, rfl⟩

set_option maxRecDepth 100000 in
set_option maxHeartbeats 400000 in
theorem wlist_any {w : World} {base p : Nat} {st : Option (List Int)} {L : Nat} (I : WIn w 117 base p st L) (hL : L ≤ 1000) (a : Option Addr) (n c : Nat) (ops : List OpD) (O : OpsAt w a n c ops) (hlow : 0 < n → ∀ ad, a = some ad → ad.block < base) (hB : opsB ops ≤ 100000000) :
    Calls Try.prog 104 #[.pointer (some ⟨p, 0, none⟩), .slice a n c, .func (.func 105) #[] #[]] w fun e w' => e = .returned (.tuple #[]) ∧ WIn w' 117 base p (wrOps (put st (wrNum 0 4503599627370496 n)) ops) 200000000 ∧ Keep2 base p w w' := by
  have hN := wnum_any I n 0 4503599627370496 (by decide) (by decide) (by omega)
  generalize put st (wrNum 0 4503599627370496 n) = s1 at *
  clear I
  go_enter Try.func104, Try.ntmps104
  go_wp2_with (first
    | (go_at_call 81; refine hN.mono ?_; rintro e w1 ⟨rfl, I1, K1⟩; clear hN)
    | fail)
  have HO : Hid (OpsAt w a n c ops) := O
  have hlen := O.len
  have hn : n ≤ 100000000 := by have := opsB_len ops; omega
  clear O
  go_loopw [14] (fun i wr => ∃ (k : Nat) (M : Nat), i = .int .i64 k ∧ k ≤ n ∧ M ≤ 150000000 ∧ (wrOps s1 (ops.take k) ≠ none → M + opsB (ops.drop k) ≤ 110000000) ∧ WIn wr 117 base p (wrOps s1 (ops.take k)) M ∧ Keep2 base p w wr) (fun i _ => n - (intOf i).toNat)
  case atStart => exact ⟨0, L + 8, rfl, Nat.zero_le _, by omega, fun _ => by rw [List.drop_zero]; omega, I1, K1⟩
  case round =>
    obtain ⟨k, M, rfl, hk, hM0, hM, I2, K2⟩ := hrel
    by_cases hkn : k = n
    · subst hkn
      have hc : ¬ ((k : Int) < (k : Int)) := by omega
      rw [List.take_of_length_le (by omega)] at I2
      have HI : Hid (WIn wr 117 base p (wrOps s1 ops) M) := I2
      clear I2 I1
      go_wp2
      go_end0
      exact ⟨rfl, HI.out.wide (by omega), K2⟩
    · have hkl : k < ops.length := by omega
      obtain ⟨o, ho⟩ : ∃ o, ops[k]? = some o := ⟨ops[k], List.getElem?_eq_getElem hkl⟩
      obtain ⟨ok, ov, og⟩ := o
      cases a with
      | none => have := HO.out.nil rfl; omega
      | some ad =>
        obtain ⟨hsp, hcs⟩ := HO.out.cells ad rfl (by omega)
        obtain ⟨b, off, sp⟩ := ad
        obtain rfl : sp = none := hsp
        have hbl : b < base := hlow (by omega) _ rfl
        obtain ⟨d0, d1, d2⟩ := hcs k _ ho
        simp only [] at d0 d1 d2
        have hbw : ∀ q u, w.cell? ⟨b, q, none⟩ = some u → wr.cell? ⟨b, q, none⟩ = some u := fun q u h => (cell_keep K2.k h (by show ¬ base ≤ b; omega)).1
        have e0 := hbw _ _ d0
        have e1 := hbw _ _ d1
        have e2 := hbw _ _ d2
        have hc : (k : Int) < (n : Int) := by omega
        clear d0 d1 d2 hcs hbw I1 K1
        have hnx := wrOps_next s1 ops k _ ho
        have hbn := opsB_next ops k _ ho
        simp only [] at hnx hbn
        have IB := I2.alloc (.cells #[.string ok, .string ov, .bool og] 166)
        have KB : Keep2 base p w (wr.alloc (.cells #[.string ok, .string ov, .bool og] 166)) := K2.and (Keep2.none (Kept.alloc _ _ _))
        have hbx := heap_alloc_new wr (.cells #[.string ok, .string ov, .bool og] 166)
        have q0 := cellOf hbx (o := 0) rfl
        have q1 := cellOf hbx (o := 1) rfl
        have q2 := cellOf hbx (o := 2) rfl
        clear I2 K2 hbx
        cases hst : wrOps s1 (ops.take k) with
        | none =>
          rw [hst] at IB
          obtain ⟨v, raw, bad, A, hr, hb⟩ := IB
          obtain rfl : bad = true := bad_none hb
          have c1 := A.c1
          have HA : Hid (WAt (wr.alloc (.cells #[.string ok, .string ov, .bool og] 166)) 117 base p v raw true) := A
          have HE : Hid (wrOps s1 ops = none) := by show wrOps s1 ops = none; rw [wrOps_split s1 ops k, hst, wrOps_none]
          clear A hnx hbn hb hst
          go_wp2
          refine bodyPost_ret (results_none rfl _ _ _) rfl ?_
          rw [HE.out]
          exact ⟨rfl, ⟨v, raw, true, HA.out, by omega, rfl⟩, KB⟩
        | some q =>
          have hM1 := hM (by rw [hst]; intro e; cases e)
          rw [hst] at IB
          have hOp := wop_any IB ok ov og (by omega) (by omega) (by omega)
          obtain ⟨v, raw, bad, A, hr, hb⟩ := IB
          obtain ⟨rfl, rfl⟩ := bad_some hb
          have c1 := A.c1
          rw [hst] at hnx
          rw [← hnx] at hOp
          have HX : Hid (wrOps s1 (ops.take (k + 1)) = put (some q) (wrOp ok ov og)) := hnx
          clear A hnx hb hst hM
          go_wp2_with (first
            | (go_at_call 105; refine hOp.mono ?_; rintro e w2 ⟨rfl, I3, K3⟩; clear hOp)
            | fail)
          go_roundw
          case rel =>
            cases hz : wrOps s1 (ops.take (k + 1)) with
            | none =>
              rw [hz] at I3
              exact ⟨k + 1, M + 2097300, by simp, by omega, by omega, fun h => absurd hz h, by rw [hz]; exact I3, KB.and K3⟩
            | some q2 =>
              rw [hz] at I3
              have hl := HX.out
              rw [hz] at hl
              obtain ⟨x, y, hx, hy, hq⟩ := put_len hl.symm
              cases hx
              have := op_len hy
              exact ⟨k + 1, q2.length, by simp, by omega, by omega, fun _ => by omega, by rw [hz]; exact I3.tight, KB.and K3⟩
          case measure => simp [intOf]; omega

set_option maxRecDepth 100000 in
set_option maxHeartbeats 400000 in
theorem ops_any (w : World) (a : Option Addr) (n c : Nat) (ops : List OpD) (O : OpsAt w a n c ops) (hlow : 0 < n → ∀ ad, a = some ad → ad.block < w.heap.size) (hB : opsB ops ≤ 100000000) :
    Calls Try.prog 46 #[.slice a n c] w fun e w' => ∃ a l c er, e = .returned (.tuple #[.slice a l c, .int .i64 er]) ∧ Ans w' w.heap.size (wrOps (wrNum 0 4503599627370496 n) ops) a l c er ∧ Kept (fun _ => False) w w' := by
  have hO : OpsAt (w.alloc (.cells #[.slice none 0 0, .bool false] 117)) a n c ops := by
    refine ⟨O.len, O.cap, fun ad e hn0 => ?_, O.nil⟩
    obtain ⟨h1, h2⟩ := O.cells ad e hn0
    refine ⟨h1, fun i o ho => ?_⟩
    obtain ⟨c0, c1, c2⟩ := h2 i o ho
    have K := Kept.alloc (fun _ => False) w (.cells #[.slice none 0 0, .bool false] 117)
    exact ⟨(cell_keep K c0 (fun h => h)).1, (cell_keep K c1 (fun h => h)).1, (cell_keep K c2 (fun h => h)).1⟩
  have hN := wlist_any (WIn.new w 117) (by decide) a n c ops hO hlow hB
  rw [some_put] at hN
  generalize wrOps (wrNum 0 4503599627370496 n) ops = st at *
  clear O hO hlow hB
  go_enter Try.func46, Try.ntmps46
  go_wp2_with (first
    | (go_at_call 104; refine hN.mono ?_; rintro e w1 ⟨rfl, I1, K1⟩; clear hN)
    | (go_at_call 86; refine (wanswer_any I1).mono ?_; rintro e w2 ⟨a, l, c, er, rfl, hA, hw⟩; subst hw)
    | fail)
  go_ret2
  exact ⟨a, l, c, er, rfl, hA, kept_new K1.k⟩

end Go.Proofs.Ytceocmhgbcimoaa
