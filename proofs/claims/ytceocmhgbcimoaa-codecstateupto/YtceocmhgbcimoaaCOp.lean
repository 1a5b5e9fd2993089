/-
  A change: written by the codec.
-/
import Derived.Test.YtceocmhgbcimoaaCFlag
namespace Go.Proofs.Ytceocmhgbcimoaa
open Go.RowKit

def wrOp (k v : ByteArray) (g : Bool) : Option (List Int) := put (put (wrText k) (wrFlag g)) (if g = true then (if v.toList = [] then some [] else none) else wrText v)

theorem put_nil (st : Option (List Int)) : put st (some []) = st := by cases st <;> simp [put]

set_option maxRecDepth 100000 in
set_option maxHeartbeats 400000 in
theorem wop_some {w : World} {base p : Nat} {st : Option (List Int)} {L : Nat} (I : WIn w 117 base p st L) (k v : ByteArray) (hk : k.size ≤ 140737488355328) (hv : v.size ≤ 140737488355328) (hL : L ≤ 1000000000000) :
    Calls Try.prog 105 #[.pointer (some ⟨p, 0, none⟩), .agg #[.string k, .string v, .bool false]] w fun e w' => e = .returned (.tuple #[]) ∧ WIn w' 117 base p (put (put (put st (wrText k)) (wrFlag false)) (wrText v)) (L + 2097300) ∧ Keep2 base p w w' := by
  have hb := I.bnd
  have I0 := I.alloc (.cells #[.string k, .string v, .bool false] 166)
  have hC : ∀ w', Keep2 base p (w.alloc (.cells #[.string k, .string v, .bool false] 166)) w' → w'.cell? ⟨w.heap.size, 0, none⟩ = some (.string k) ∧ w'.cell? ⟨w.heap.size, 1, none⟩ = some (.string v) ∧ w'.cell? ⟨w.heap.size, 2, none⟩ = some (.bool false) := fun w' K => by
    have hb := K.o w.heap.size _ _ _ (by decide) (by omega) (heap_alloc_new w _)
    exact ⟨cellOf hb (o := 0) rfl, cellOf hb (o := 1) rfl, cellOf hb (o := 2) rfl⟩
  obtain ⟨a0, a1, a2⟩ := hC _ (Keep2.refl _ _ _)
  have KA : Hid (Keep2 base p w (w.alloc (.cells #[.string k, .string v, .bool false] 166))) := Keep2.none (Kept.alloc _ _ _)
  clear I
  go_enter Try.func105, Try.ntmps105
  go_wp2_with (first
    | (go_at_call 80; have _t := I0; refine (wtext_any I0 k hk (by omega)).mono ?_; rintro e w1 ⟨rfl, I1, K1⟩; obtain ⟨b0, b1, b2⟩ := hC _ K1; clear I0 _t a0 a1 a2)
    | (go_at_call 129; have _t := I1; refine (wflag_any I1 false (by omega)).mono ?_; rintro e w2 ⟨rfl, I2, K2⟩; have KK2 := K1.and K2; obtain ⟨c0, c1, c2⟩ := hC _ KK2; clear I1 _t K1 K2 b0 b1 b2)
    | (go_at_call 80; refine (wtext_any I2 v hv (by omega)).mono ?_; rintro e w3 ⟨rfl, I3, K3⟩; clear I2)
    | fail)
  go_end0
  exact ⟨rfl, I3.wide (by omega), KA.out.and (KK2.and K3)⟩

set_option maxRecDepth 100000 in
set_option maxHeartbeats 400000 in
theorem wop_gone {w : World} {base p : Nat} {st : Option (List Int)} {L : Nat} (I : WIn w 117 base p st L) (k : ByteArray) (hk : k.size ≤ 140737488355328)  (hL : L ≤ 1000000000000) :
    Calls Try.prog 105 #[.pointer (some ⟨p, 0, none⟩), .agg #[.string k, .string ⟨#[]⟩, .bool true]] w fun e w' => e = .returned (.tuple #[]) ∧ WIn w' 117 base p (put (put st (wrText k)) (wrFlag true)) (L + 2097300) ∧ Keep2 base p w w' := by
  have hb := I.bnd
  have I0 := I.alloc (.cells #[.string k, .string ⟨#[]⟩, .bool true] 166)
  have hC : ∀ w', Keep2 base p (w.alloc (.cells #[.string k, .string ⟨#[]⟩, .bool true] 166)) w' → w'.cell? ⟨w.heap.size, 0, none⟩ = some (.string k) ∧ w'.cell? ⟨w.heap.size, 1, none⟩ = some (.string ⟨#[]⟩) ∧ w'.cell? ⟨w.heap.size, 2, none⟩ = some (.bool true) := fun w' K => by
    have hb := K.o w.heap.size _ _ _ (by decide) (by omega) (heap_alloc_new w _)
    exact ⟨cellOf hb (o := 0) rfl, cellOf hb (o := 1) rfl, cellOf hb (o := 2) rfl⟩
  obtain ⟨a0, a1, a2⟩ := hC _ (Keep2.refl _ _ _)
  have KA : Hid (Keep2 base p w (w.alloc (.cells #[.string k, .string ⟨#[]⟩, .bool true] 166))) := Keep2.none (Kept.alloc _ _ _)
  clear I
  go_enter Try.func105, Try.ntmps105
  go_wp2_with (first
    | (go_at_call 80; have _t := I0; refine (wtext_any I0 k hk (by omega)).mono ?_; rintro e w1 ⟨rfl, I1, K1⟩; obtain ⟨b0, b1, b2⟩ := hC _ K1; clear I0 _t a0 a1 a2)
    | (go_at_call 129; have _t := I1; refine (wflag_any I1 true (by omega)).mono ?_; rintro e w2 ⟨rfl, I2, K2⟩; have KK2 := K1.and K2; obtain ⟨c0, c1, c2⟩ := hC _ KK2; clear I1 _t K1 K2 b0 b1 b2)
    | (go_at_call 121; refine (I2.refuse false).mono ?_; rintro e w3 ⟨⟨v, rfl⟩, I3, K3⟩; clear I2)
    | fail)
  refine bodyPost_ret (results_none rfl _ _ _) rfl ?_
  exact ⟨rfl, I3.wide (by omega), KA.out.and (KK2.and K3)⟩

set_option maxRecDepth 100000 in
set_option maxHeartbeats 400000 in
theorem wop_bad {w : World} {base p : Nat} {st : Option (List Int)} {L : Nat} (I : WIn w 117 base p st L) (k v : ByteArray) (hk : k.size ≤ 140737488355328) (hd : v.toList.isEmpty = false) (hL : L ≤ 1000000000000) :
    Calls Try.prog 105 #[.pointer (some ⟨p, 0, none⟩), .agg #[.string k, .string v, .bool true]] w fun e w' => e = .returned (.tuple #[]) ∧ WIn w' 117 base p (none) (L + 2097300) ∧ Keep2 base p w w' := by
  have hb := I.bnd
  have I0 := I.alloc (.cells #[.string k, .string v, .bool true] 166)
  have hC : ∀ w', Keep2 base p (w.alloc (.cells #[.string k, .string v, .bool true] 166)) w' → w'.cell? ⟨w.heap.size, 0, none⟩ = some (.string k) ∧ w'.cell? ⟨w.heap.size, 1, none⟩ = some (.string v) ∧ w'.cell? ⟨w.heap.size, 2, none⟩ = some (.bool true) := fun w' K => by
    have hb := K.o w.heap.size _ _ _ (by decide) (by omega) (heap_alloc_new w _)
    exact ⟨cellOf hb (o := 0) rfl, cellOf hb (o := 1) rfl, cellOf hb (o := 2) rfl⟩
  obtain ⟨a0, a1, a2⟩ := hC _ (Keep2.refl _ _ _)
  have KA : Hid (Keep2 base p w (w.alloc (.cells #[.string k, .string v, .bool true] 166))) := Keep2.none (Kept.alloc _ _ _)
  clear I
  go_enter Try.func105, Try.ntmps105
  go_wp2_with (first
    | (go_at_call 80; have _t := I0; refine (wtext_any I0 k hk (by omega)).mono ?_; rintro e w1 ⟨rfl, I1, K1⟩; obtain ⟨b0, b1, b2⟩ := hC _ K1; clear I0 _t a0 a1 a2)
    | (go_at_call 129; have _t := I1; refine (wflag_any I1 true (by omega)).mono ?_; rintro e w2 ⟨rfl, I2, K2⟩; have KK2 := K1.and K2; obtain ⟨c0, c1, c2⟩ := hC _ KK2; clear I1 _t K1 K2 b0 b1 b2)
    | (go_at_call 121; refine (I2.refuse true).mono ?_; rintro e w3 ⟨⟨v, rfl⟩, I3, K3⟩; clear I2)
    | fail)
  refine bodyPost_ret (results_none rfl _ _ _) rfl ?_
  exact ⟨rfl, I3.wide (by omega), KA.out.and (KK2.and K3)⟩

theorem wop_any {w : World} {base p : Nat} {st : Option (List Int)} {L : Nat} (I : WIn w 117 base p st L) (k v : ByteArray) (g : Bool) (hk : k.size ≤ 140737488355328) (hv : v.size ≤ 140737488355328) (hL : L ≤ 1000000000000) :
    Calls Try.prog 105 #[.pointer (some ⟨p, 0, none⟩), .agg #[.string k, .string v, .bool g]] w fun e w' => e = .returned (.tuple #[]) ∧ WIn w' 117 base p (put st (wrOp k v g)) (L + 2097300) ∧ Keep2 base p w w' := by
  unfold wrOp
  cases g with
  | false =>
    rw [if_neg (by decide), ← put_assoc', ← put_assoc']
    exact wop_some I k v hk hv hL
  | true =>
    rw [if_pos rfl]
    by_cases h : v.toList = []
    · obtain rfl := toList_nil h
      rw [if_pos h, put_nil, ← put_assoc']
      exact wop_gone I k hk hL
    · rw [if_neg h, put_none, put_none]
      exact wop_bad I k v hk (by rw [Bool.eq_false_iff]; intro e; exact h (List.isEmpty_iff.1 e)) hL

end Go.Proofs.Ytceocmhgbcimoaa
