/-
  A mail, or none: written by the codec and by the document.
-/
import Derived.Test.YtnmdjdpceegdfaaCRefText
import Derived.Test.YtnmdjdpceegdfaaCEvent
namespace Go.Proofs.Ytnmdjdpceegdfaa
open Go.RowKit

/-- Is it none? -/
def isNone (k : Int) (to fr nd nm tx : ByteArray) (s : Int) : Prop := k = 0 ∧ to.toList = [] ∧ fr.toList = [] ∧ nd.toList = [] ∧ nm.toList = [] ∧ tx.toList = [] ∧ s = 0

open Classical in
noncomputable def wrMail (k : Int) (to fr nd nm tx : ByteArray) (s : Int) : Option (List Int) :=
  if k = 0 then (if isNone k to fr nd nm tx s then some [0] else none)
  else put (put (put (put (put (put (wrNum 1 4 k) (wrText to)) (wrText fr)) (wrText nd)) (wrText nm)) (wrText tx)) (wrNum 0 4 s)

theorem put_assoc' (a b c : Option (List Int)) : put (put a b) c = put a (put b c) := by
  cases a <;> cases b <;> cases c <;> simp [put]

theorem wrNum_14 {k : Int} (h : k ≠ 0) : wrNum 1 4 k = wrNum 0 4 k := by
  unfold wrNum
  by_cases h2 : 0 ≤ k ∧ k ≤ 4
  · rw [if_pos h2, if_pos (by omega)]
  · rw [if_neg h2, if_neg (by omega)]

theorem WIn.bnd {w : World} {ty : TypeId} {base p : Nat} {st : Option (List Int)} {L : Nat} (I : WIn w ty base p st L) : p < w.heap.size ∧ base ≤ p := by
  obtain ⟨v, raw, bad, A, _⟩ := I
  exact ⟨A.lt, A.bp⟩

theorem WIn.alloc {w : World} {ty : TypeId} {base p : Nat} {st : Option (List Int)} {L : Nat} (I : WIn w ty base p st L) (o : Obj) : WIn (w.alloc o) ty base p st L := by
  obtain ⟨v, raw, bad, A, h⟩ := I
  exact ⟨v, raw, bad, A.kept (Kept.alloc (fun _ => False) w o) (fun _ h => h.elim), h⟩

theorem WIn.wide {w : World} {ty : TypeId} {base p : Nat} {st : Option (List Int)} {L L' : Nat} (I : WIn w ty base p st L) (h : L ≤ L') : WIn w ty base p st L' := by
  obtain ⟨v, raw, bad, A, hl, hs⟩ := I
  exact ⟨v, raw, bad, A, Nat.le_trans hl h, hs⟩

theorem WIn.refuse {w : World} {base p : Nat} {st : Option (List Int)} {L : Nat} (I : WIn w 65 base p st L) (b : Bool) :
    Calls Try.prog 75 #[.pointer (some ⟨p, 0, none⟩), .bool b] w fun e w' => (∃ v, e = .returned (.bool v)) ∧ WIn w' 65 base p (if b then none else st) L ∧ Keep2 base p w w' := by
  obtain ⟨v, raw, bad, A, hl, rfl⟩ := I
  refine (wrefuse_any A b).mono ?_
  rintro e w' ⟨rfl, rfl⟩
  refine ⟨⟨_, rfl⟩, ⟨v, raw, bad || b, A.mark _, hl, ?_⟩, Keep2.setP _ _ _ A.bp⟩
  cases b <;> cases bad <;> rfl

theorem toList_nil {x : ByteArray} (h : x.toList = []) : x = ⟨#[]⟩ := by
  rw [ByteArray.toList_eq] at h
  obtain ⟨⟨l⟩⟩ := x
  cases l with
  | nil => rfl
  | cons a b => cases h

theorem numB_zero : wrNum 0 4 0 = some [0] := rfl

set_option maxRecDepth 100000 in
set_option maxHeartbeats 1000000 in
theorem wmail_some {w : World} {base p : Nat} {st : Option (List Int)} {L : Nat} (I : WIn w 65 base p st L) (k : Int) (to fr nd nm tx : ByteArray) (s : Int) (hk : k ≠ 0)
    (h1 : to.size ≤ 140737488355328) (h2 : fr.size ≤ 140737488355328) (h3 : nd.size ≤ 140737488355328) (h4 : nm.size ≤ 140737488355328) (h5 : tx.size ≤ 140737488355328) (hL : L ≤ 1000000) :
    Calls Try.prog 53 #[.pointer (some ⟨p, 0, none⟩), .agg #[.int .i64 k, .string to, .string fr, .string nd, .string nm, .string tx, .int .i64 s]] w fun e w' => e = .returned (.tuple #[]) ∧ WIn w' 65 base p (put (put (put (put (put (put (put st (wrNum 0 4 k)) (wrText to)) (wrText fr)) (wrText nd)) (wrText nm)) (wrText tx)) (wrNum 0 4 s)) (L + 5243016) ∧ Keep2 base p w w' := by
  have hb := I.bnd
  have I0 := I.alloc (.cells #[.int .i64 k, .string to, .string fr, .string nd, .string nm, .string tx, .int .i64 s] 36)
  have hC : ∀ w', Keep2 base p (w.alloc (.cells #[.int .i64 k, .string to, .string fr, .string nd, .string nm, .string tx, .int .i64 s] 36)) w' → w'.cell? ⟨w.heap.size, 0, none⟩ = some (.int .i64 k) ∧ w'.cell? ⟨w.heap.size, 1, none⟩ = some (.string to) ∧ w'.cell? ⟨w.heap.size, 2, none⟩ = some (.string fr) ∧ w'.cell? ⟨w.heap.size, 3, none⟩ = some (.string nd) ∧ w'.cell? ⟨w.heap.size, 4, none⟩ = some (.string nm) ∧ w'.cell? ⟨w.heap.size, 5, none⟩ = some (.string tx) ∧ w'.cell? ⟨w.heap.size, 6, none⟩ = some (.int .i64 s) := fun w' K => by
    have hb := K.o w.heap.size _ _ _ (by decide) (by omega) (heap_alloc_new w _)
    exact ⟨cellOf hb (o := 0) rfl, cellOf hb (o := 1) rfl, cellOf hb (o := 2) rfl, cellOf hb (o := 3) rfl, cellOf hb (o := 4) rfl, cellOf hb (o := 5) rfl, cellOf hb (o := 6) rfl⟩
  have hN := wnum_any I0 k 0 4 (by decide) (by decide) (by omega)
  generalize put st (wrNum 0 4 k) = s1 at *
  obtain ⟨a0, a1, a2, a3, a4, a5, a6⟩ := hC _ (Keep2.refl _ _ _)
  have KA : Hid (Keep2 base p w (w.alloc (.cells #[.int .i64 k, .string to, .string fr, .string nd, .string nm, .string tx, .int .i64 s] 36))) := Keep2.none (Kept.alloc _ _ _)

  clear I I0
  go_enter Try.func53, Try.ntmps53
  go_wp2_with (first
    | (go_at_call 35; have _t := hN; refine hN.mono ?_; rintro e w1 ⟨rfl, I1, K1⟩; obtain ⟨b0, b1, b2, b3, b4, b5, b6⟩ := hC _ K1; clear hN)
    | (go_at_call 36; have _t := I1; refine (wtext_any I1 to h1 (by omega)).mono ?_; rintro e w2 ⟨rfl, I2, K2⟩; have KK2 := K1.and K2; obtain ⟨c0, c1, c2, c3, c4, c5, c6⟩ := hC _ KK2; clear I1 _t K1 K2 b0 b1 b2 b3 b4 b5 b6)
    | (go_at_call 36; have _t := I2; refine (wtext_any I2 fr h2 (by omega)).mono ?_; rintro e w3 ⟨rfl, I3, K3⟩; have KK3 := KK2.and K3; obtain ⟨d0, d1, d2, d3, d4, d5, d6⟩ := hC _ KK3; clear I2 _t KK2 K3 c0 c1 c2 c3 c4 c5 c6)
    | (go_at_call 36; have _t := I3; refine (wtext_any I3 nd h3 (by omega)).mono ?_; rintro e w4 ⟨rfl, I4, K4⟩; have KK4 := KK3.and K4; obtain ⟨e0, e1, e2, e3, e4, e5, e6⟩ := hC _ KK4; clear I3 _t KK3 K4 d0 d1 d2 d3 d4 d5 d6)
    | (go_at_call 36; have _t := I4; refine (wtext_any I4 nm h4 (by omega)).mono ?_; rintro e w5 ⟨rfl, I5, K5⟩; have KK5 := KK4.and K5; obtain ⟨f0, f1, f2, f3, f4, f5, f6⟩ := hC _ KK5; clear I4 _t KK4 K5 e0 e1 e2 e3 e4 e5 e6)
    | (go_at_call 36; have _t := I5; refine (wtext_any I5 tx h5 (by omega)).mono ?_; rintro e w6 ⟨rfl, I6, K6⟩; have KK6 := KK5.and K6; obtain ⟨g0, g1, g2, g3, g4, g5, g6⟩ := hC _ KK6; clear I5 _t KK5 K6 f0 f1 f2 f3 f4 f5 f6)
    | (go_at_call 35; refine (wnum_any I6 s 0 4 (by decide) (by decide) (by omega)).mono ?_; rintro e w7 ⟨rfl, I7, K7⟩; have KK7 := KK6.and K7; clear I6 KK6 K7)
    | fail)
  go_end0
  exact ⟨rfl, I7.wide (by omega), KA.out.and KK7⟩

set_option maxRecDepth 100000 in
set_option maxHeartbeats 1000000 in
theorem wmail_none {w : World} {base p : Nat} {st : Option (List Int)} {L : Nat} (I : WIn w 65 base p st L) (hL : L ≤ 1000000) :
    Calls Try.prog 53 #[.pointer (some ⟨p, 0, none⟩), .agg #[.int .i64 0, .string ⟨#[]⟩, .string ⟨#[]⟩, .string ⟨#[]⟩, .string ⟨#[]⟩, .string ⟨#[]⟩, .int .i64 0]] w fun e w' => e = .returned (.tuple #[]) ∧ WIn w' 65 base p (put st (some [0])) (L + 5243016) ∧ Keep2 base p w w' := by
  have hb := I.bnd
  have I0 := I.alloc (.cells #[.int .i64 0, .string ⟨#[]⟩, .string ⟨#[]⟩, .string ⟨#[]⟩, .string ⟨#[]⟩, .string ⟨#[]⟩, .int .i64 0] 36)
  have hC : ∀ w', Keep2 base p (w.alloc (.cells #[.int .i64 0, .string ⟨#[]⟩, .string ⟨#[]⟩, .string ⟨#[]⟩, .string ⟨#[]⟩, .string ⟨#[]⟩, .int .i64 0] 36)) w' → w'.cell? ⟨w.heap.size, 0, none⟩ = some (.int .i64 0) ∧ w'.cell? ⟨w.heap.size, 1, none⟩ = some (.string ⟨#[]⟩) ∧ w'.cell? ⟨w.heap.size, 2, none⟩ = some (.string ⟨#[]⟩) ∧ w'.cell? ⟨w.heap.size, 3, none⟩ = some (.string ⟨#[]⟩) ∧ w'.cell? ⟨w.heap.size, 4, none⟩ = some (.string ⟨#[]⟩) ∧ w'.cell? ⟨w.heap.size, 5, none⟩ = some (.string ⟨#[]⟩) ∧ w'.cell? ⟨w.heap.size, 6, none⟩ = some (.int .i64 0) := fun w' K => by
    have hb := K.o w.heap.size _ _ _ (by decide) (by omega) (heap_alloc_new w _)
    exact ⟨cellOf hb (o := 0) rfl, cellOf hb (o := 1) rfl, cellOf hb (o := 2) rfl, cellOf hb (o := 3) rfl, cellOf hb (o := 4) rfl, cellOf hb (o := 5) rfl, cellOf hb (o := 6) rfl⟩
  have KA : Hid (Keep2 base p w (w.alloc (.cells #[.int .i64 0, .string ⟨#[]⟩, .string ⟨#[]⟩, .string ⟨#[]⟩, .string ⟨#[]⟩, .string ⟨#[]⟩, .int .i64 0] 36))) := Keep2.none (Kept.alloc _ _ _)
  have hN := wnum_any I0 0 0 4 (by decide) (by decide) (by omega)
  rw [numB_zero] at hN
  clear I I0
  go_enter Try.func53, Try.ntmps53
  go_wp2_with (first
    | (go_at_call 35; have _t := hN; refine hN.mono ?_; rintro e w1 ⟨rfl, I1, K1⟩; obtain ⟨b0, b1, b2, b3, b4, b5, b6⟩ := hC _ K1; have hR := I1.refuse false; clear hN)
    | (go_at_call 75; refine hR.mono ?_; rintro e w2 ⟨⟨v, rfl⟩, I2, K2⟩; clear hR)
    | fail)
  refine bodyPost_ret (results_none rfl _ _ _) rfl ?_
  exact ⟨rfl, I2.wide (by omega), (KA.out.and K1).and K2⟩

set_option maxRecDepth 100000 in
set_option maxHeartbeats 1000000 in
theorem wmail_bad0 {w : World} {base p : Nat} {st : Option (List Int)} {L : Nat} (I : WIn w 65 base p st L) (to : ByteArray) (fr : ByteArray) (nd : ByteArray) (nm : ByteArray) (tx : ByteArray) (s : Int) (hd : ¬ to.toList = []) (hL : L ≤ 1000000) :
    Calls Try.prog 53 #[.pointer (some ⟨p, 0, none⟩), .agg #[.int .i64 0, .string to, .string fr, .string nd, .string nm, .string tx, .int .i64 s]] w fun e w' => e = .returned (.tuple #[]) ∧ WIn w' 65 base p none (L + 5243016) ∧ Keep2 base p w w' := by
  have hb := I.bnd
  have I0 := I.alloc (.cells #[.int .i64 0, .string to, .string fr, .string nd, .string nm, .string tx, .int .i64 s] 36)
  have hC : ∀ w', Keep2 base p (w.alloc (.cells #[.int .i64 0, .string to, .string fr, .string nd, .string nm, .string tx, .int .i64 s] 36)) w' → w'.cell? ⟨w.heap.size, 0, none⟩ = some (.int .i64 0) ∧ w'.cell? ⟨w.heap.size, 1, none⟩ = some (.string to) ∧ w'.cell? ⟨w.heap.size, 2, none⟩ = some (.string fr) ∧ w'.cell? ⟨w.heap.size, 3, none⟩ = some (.string nd) ∧ w'.cell? ⟨w.heap.size, 4, none⟩ = some (.string nm) ∧ w'.cell? ⟨w.heap.size, 5, none⟩ = some (.string tx) ∧ w'.cell? ⟨w.heap.size, 6, none⟩ = some (.int .i64 s) := fun w' K => by
    have hb := K.o w.heap.size _ _ _ (by decide) (by omega) (heap_alloc_new w _)
    exact ⟨cellOf hb (o := 0) rfl, cellOf hb (o := 1) rfl, cellOf hb (o := 2) rfl, cellOf hb (o := 3) rfl, cellOf hb (o := 4) rfl, cellOf hb (o := 5) rfl, cellOf hb (o := 6) rfl⟩
  have KA : Hid (Keep2 base p w (w.alloc (.cells #[.int .i64 0, .string to, .string fr, .string nd, .string nm, .string tx, .int .i64 s] 36))) := Keep2.none (Kept.alloc _ _ _)
  have hN := wnum_any I0 0 0 4 (by decide) (by decide) (by omega)
  rw [numB_zero] at hN
  clear I I0
  go_enter Try.func53, Try.ntmps53
  go_wp2_with (first
    | (go_at_call 35; have _t := hN; refine hN.mono ?_; rintro e w1 ⟨rfl, I1, K1⟩; obtain ⟨b0, b1, b2, b3, b4, b5, b6⟩ := hC _ K1; have hR := I1.refuse true; clear hN)
    | (go_at_call 75; refine hR.mono ?_; rintro e w2 ⟨⟨v, rfl⟩, I2, K2⟩; clear hR)
    | fail)
  refine bodyPost_ret (results_none rfl _ _ _) rfl ?_
  exact ⟨rfl, I2.wide (by omega), (KA.out.and K1).and K2⟩

set_option maxRecDepth 100000 in
set_option maxHeartbeats 1000000 in
theorem wmail_bad1 {w : World} {base p : Nat} {st : Option (List Int)} {L : Nat} (I : WIn w 65 base p st L) (fr : ByteArray) (nd : ByteArray) (nm : ByteArray) (tx : ByteArray) (s : Int) (hd : ¬ fr.toList = []) (hL : L ≤ 1000000) :
    Calls Try.prog 53 #[.pointer (some ⟨p, 0, none⟩), .agg #[.int .i64 0, .string ⟨#[]⟩, .string fr, .string nd, .string nm, .string tx, .int .i64 s]] w fun e w' => e = .returned (.tuple #[]) ∧ WIn w' 65 base p none (L + 5243016) ∧ Keep2 base p w w' := by
  have hb := I.bnd
  have I0 := I.alloc (.cells #[.int .i64 0, .string ⟨#[]⟩, .string fr, .string nd, .string nm, .string tx, .int .i64 s] 36)
  have hC : ∀ w', Keep2 base p (w.alloc (.cells #[.int .i64 0, .string ⟨#[]⟩, .string fr, .string nd, .string nm, .string tx, .int .i64 s] 36)) w' → w'.cell? ⟨w.heap.size, 0, none⟩ = some (.int .i64 0) ∧ w'.cell? ⟨w.heap.size, 1, none⟩ = some (.string ⟨#[]⟩) ∧ w'.cell? ⟨w.heap.size, 2, none⟩ = some (.string fr) ∧ w'.cell? ⟨w.heap.size, 3, none⟩ = some (.string nd) ∧ w'.cell? ⟨w.heap.size, 4, none⟩ = some (.string nm) ∧ w'.cell? ⟨w.heap.size, 5, none⟩ = some (.string tx) ∧ w'.cell? ⟨w.heap.size, 6, none⟩ = some (.int .i64 s) := fun w' K => by
    have hb := K.o w.heap.size _ _ _ (by decide) (by omega) (heap_alloc_new w _)
    exact ⟨cellOf hb (o := 0) rfl, cellOf hb (o := 1) rfl, cellOf hb (o := 2) rfl, cellOf hb (o := 3) rfl, cellOf hb (o := 4) rfl, cellOf hb (o := 5) rfl, cellOf hb (o := 6) rfl⟩
  have KA : Hid (Keep2 base p w (w.alloc (.cells #[.int .i64 0, .string ⟨#[]⟩, .string fr, .string nd, .string nm, .string tx, .int .i64 s] 36))) := Keep2.none (Kept.alloc _ _ _)
  have hN := wnum_any I0 0 0 4 (by decide) (by decide) (by omega)
  rw [numB_zero] at hN
  clear I I0
  go_enter Try.func53, Try.ntmps53
  go_wp2_with (first
    | (go_at_call 35; have _t := hN; refine hN.mono ?_; rintro e w1 ⟨rfl, I1, K1⟩; obtain ⟨b0, b1, b2, b3, b4, b5, b6⟩ := hC _ K1; have hR := I1.refuse true; clear hN)
    | (go_at_call 75; refine hR.mono ?_; rintro e w2 ⟨⟨v, rfl⟩, I2, K2⟩; clear hR)
    | fail)
  refine bodyPost_ret (results_none rfl _ _ _) rfl ?_
  exact ⟨rfl, I2.wide (by omega), (KA.out.and K1).and K2⟩

set_option maxRecDepth 100000 in
set_option maxHeartbeats 1000000 in
theorem wmail_bad2 {w : World} {base p : Nat} {st : Option (List Int)} {L : Nat} (I : WIn w 65 base p st L) (nd : ByteArray) (nm : ByteArray) (tx : ByteArray) (s : Int) (hd : ¬ nd.toList = []) (hL : L ≤ 1000000) :
    Calls Try.prog 53 #[.pointer (some ⟨p, 0, none⟩), .agg #[.int .i64 0, .string ⟨#[]⟩, .string ⟨#[]⟩, .string nd, .string nm, .string tx, .int .i64 s]] w fun e w' => e = .returned (.tuple #[]) ∧ WIn w' 65 base p none (L + 5243016) ∧ Keep2 base p w w' := by
  have hb := I.bnd
  have I0 := I.alloc (.cells #[.int .i64 0, .string ⟨#[]⟩, .string ⟨#[]⟩, .string nd, .string nm, .string tx, .int .i64 s] 36)
  have hC : ∀ w', Keep2 base p (w.alloc (.cells #[.int .i64 0, .string ⟨#[]⟩, .string ⟨#[]⟩, .string nd, .string nm, .string tx, .int .i64 s] 36)) w' → w'.cell? ⟨w.heap.size, 0, none⟩ = some (.int .i64 0) ∧ w'.cell? ⟨w.heap.size, 1, none⟩ = some (.string ⟨#[]⟩) ∧ w'.cell? ⟨w.heap.size, 2, none⟩ = some (.string ⟨#[]⟩) ∧ w'.cell? ⟨w.heap.size, 3, none⟩ = some (.string nd) ∧ w'.cell? ⟨w.heap.size, 4, none⟩ = some (.string nm) ∧ w'.cell? ⟨w.heap.size, 5, none⟩ = some (.string tx) ∧ w'.cell? ⟨w.heap.size, 6, none⟩ = some (.int .i64 s) := fun w' K => by
    have hb := K.o w.heap.size _ _ _ (by decide) (by omega) (heap_alloc_new w _)
    exact ⟨cellOf hb (o := 0) rfl, cellOf hb (o := 1) rfl, cellOf hb (o := 2) rfl, cellOf hb (o := 3) rfl, cellOf hb (o := 4) rfl, cellOf hb (o := 5) rfl, cellOf hb (o := 6) rfl⟩
  have KA : Hid (Keep2 base p w (w.alloc (.cells #[.int .i64 0, .string ⟨#[]⟩, .string ⟨#[]⟩, .string nd, .string nm, .string tx, .int .i64 s] 36))) := Keep2.none (Kept.alloc _ _ _)
  have hN := wnum_any I0 0 0 4 (by decide) (by decide) (by omega)
  rw [numB_zero] at hN
  clear I I0
  go_enter Try.func53, Try.ntmps53
  go_wp2_with (first
    | (go_at_call 35; have _t := hN; refine hN.mono ?_; rintro e w1 ⟨rfl, I1, K1⟩; obtain ⟨b0, b1, b2, b3, b4, b5, b6⟩ := hC _ K1; have hR := I1.refuse true; clear hN)
    | (go_at_call 75; refine hR.mono ?_; rintro e w2 ⟨⟨v, rfl⟩, I2, K2⟩; clear hR)
    | fail)
  refine bodyPost_ret (results_none rfl _ _ _) rfl ?_
  exact ⟨rfl, I2.wide (by omega), (KA.out.and K1).and K2⟩

set_option maxRecDepth 100000 in
set_option maxHeartbeats 1000000 in
theorem wmail_bad3 {w : World} {base p : Nat} {st : Option (List Int)} {L : Nat} (I : WIn w 65 base p st L) (nm : ByteArray) (tx : ByteArray) (s : Int) (hd : ¬ nm.toList = []) (hL : L ≤ 1000000) :
    Calls Try.prog 53 #[.pointer (some ⟨p, 0, none⟩), .agg #[.int .i64 0, .string ⟨#[]⟩, .string ⟨#[]⟩, .string ⟨#[]⟩, .string nm, .string tx, .int .i64 s]] w fun e w' => e = .returned (.tuple #[]) ∧ WIn w' 65 base p none (L + 5243016) ∧ Keep2 base p w w' := by
  have hb := I.bnd
  have I0 := I.alloc (.cells #[.int .i64 0, .string ⟨#[]⟩, .string ⟨#[]⟩, .string ⟨#[]⟩, .string nm, .string tx, .int .i64 s] 36)
  have hC : ∀ w', Keep2 base p (w.alloc (.cells #[.int .i64 0, .string ⟨#[]⟩, .string ⟨#[]⟩, .string ⟨#[]⟩, .string nm, .string tx, .int .i64 s] 36)) w' → w'.cell? ⟨w.heap.size, 0, none⟩ = some (.int .i64 0) ∧ w'.cell? ⟨w.heap.size, 1, none⟩ = some (.string ⟨#[]⟩) ∧ w'.cell? ⟨w.heap.size, 2, none⟩ = some (.string ⟨#[]⟩) ∧ w'.cell? ⟨w.heap.size, 3, none⟩ = some (.string ⟨#[]⟩) ∧ w'.cell? ⟨w.heap.size, 4, none⟩ = some (.string nm) ∧ w'.cell? ⟨w.heap.size, 5, none⟩ = some (.string tx) ∧ w'.cell? ⟨w.heap.size, 6, none⟩ = some (.int .i64 s) := fun w' K => by
    have hb := K.o w.heap.size _ _ _ (by decide) (by omega) (heap_alloc_new w _)
    exact ⟨cellOf hb (o := 0) rfl, cellOf hb (o := 1) rfl, cellOf hb (o := 2) rfl, cellOf hb (o := 3) rfl, cellOf hb (o := 4) rfl, cellOf hb (o := 5) rfl, cellOf hb (o := 6) rfl⟩
  have KA : Hid (Keep2 base p w (w.alloc (.cells #[.int .i64 0, .string ⟨#[]⟩, .string ⟨#[]⟩, .string ⟨#[]⟩, .string nm, .string tx, .int .i64 s] 36))) := Keep2.none (Kept.alloc _ _ _)
  have hN := wnum_any I0 0 0 4 (by decide) (by decide) (by omega)
  rw [numB_zero] at hN
  clear I I0
  go_enter Try.func53, Try.ntmps53
  go_wp2_with (first
    | (go_at_call 35; have _t := hN; refine hN.mono ?_; rintro e w1 ⟨rfl, I1, K1⟩; obtain ⟨b0, b1, b2, b3, b4, b5, b6⟩ := hC _ K1; have hR := I1.refuse true; clear hN)
    | (go_at_call 75; refine hR.mono ?_; rintro e w2 ⟨⟨v, rfl⟩, I2, K2⟩; clear hR)
    | fail)
  refine bodyPost_ret (results_none rfl _ _ _) rfl ?_
  exact ⟨rfl, I2.wide (by omega), (KA.out.and K1).and K2⟩

set_option maxRecDepth 100000 in
set_option maxHeartbeats 1000000 in
theorem wmail_bad4 {w : World} {base p : Nat} {st : Option (List Int)} {L : Nat} (I : WIn w 65 base p st L) (tx : ByteArray) (s : Int) (hd : ¬ tx.toList = []) (hL : L ≤ 1000000) :
    Calls Try.prog 53 #[.pointer (some ⟨p, 0, none⟩), .agg #[.int .i64 0, .string ⟨#[]⟩, .string ⟨#[]⟩, .string ⟨#[]⟩, .string ⟨#[]⟩, .string tx, .int .i64 s]] w fun e w' => e = .returned (.tuple #[]) ∧ WIn w' 65 base p none (L + 5243016) ∧ Keep2 base p w w' := by
  have hb := I.bnd
  have I0 := I.alloc (.cells #[.int .i64 0, .string ⟨#[]⟩, .string ⟨#[]⟩, .string ⟨#[]⟩, .string ⟨#[]⟩, .string tx, .int .i64 s] 36)
  have hC : ∀ w', Keep2 base p (w.alloc (.cells #[.int .i64 0, .string ⟨#[]⟩, .string ⟨#[]⟩, .string ⟨#[]⟩, .string ⟨#[]⟩, .string tx, .int .i64 s] 36)) w' → w'.cell? ⟨w.heap.size, 0, none⟩ = some (.int .i64 0) ∧ w'.cell? ⟨w.heap.size, 1, none⟩ = some (.string ⟨#[]⟩) ∧ w'.cell? ⟨w.heap.size, 2, none⟩ = some (.string ⟨#[]⟩) ∧ w'.cell? ⟨w.heap.size, 3, none⟩ = some (.string ⟨#[]⟩) ∧ w'.cell? ⟨w.heap.size, 4, none⟩ = some (.string ⟨#[]⟩) ∧ w'.cell? ⟨w.heap.size, 5, none⟩ = some (.string tx) ∧ w'.cell? ⟨w.heap.size, 6, none⟩ = some (.int .i64 s) := fun w' K => by
    have hb := K.o w.heap.size _ _ _ (by decide) (by omega) (heap_alloc_new w _)
    exact ⟨cellOf hb (o := 0) rfl, cellOf hb (o := 1) rfl, cellOf hb (o := 2) rfl, cellOf hb (o := 3) rfl, cellOf hb (o := 4) rfl, cellOf hb (o := 5) rfl, cellOf hb (o := 6) rfl⟩
  have KA : Hid (Keep2 base p w (w.alloc (.cells #[.int .i64 0, .string ⟨#[]⟩, .string ⟨#[]⟩, .string ⟨#[]⟩, .string ⟨#[]⟩, .string tx, .int .i64 s] 36))) := Keep2.none (Kept.alloc _ _ _)
  have hN := wnum_any I0 0 0 4 (by decide) (by decide) (by omega)
  rw [numB_zero] at hN
  clear I I0
  go_enter Try.func53, Try.ntmps53
  go_wp2_with (first
    | (go_at_call 35; have _t := hN; refine hN.mono ?_; rintro e w1 ⟨rfl, I1, K1⟩; obtain ⟨b0, b1, b2, b3, b4, b5, b6⟩ := hC _ K1; have hR := I1.refuse true; clear hN)
    | (go_at_call 75; refine hR.mono ?_; rintro e w2 ⟨⟨v, rfl⟩, I2, K2⟩; clear hR)
    | fail)
  refine bodyPost_ret (results_none rfl _ _ _) rfl ?_
  exact ⟨rfl, I2.wide (by omega), (KA.out.and K1).and K2⟩

set_option maxRecDepth 100000 in
set_option maxHeartbeats 1000000 in
theorem wmail_bad5 {w : World} {base p : Nat} {st : Option (List Int)} {L : Nat} (I : WIn w 65 base p st L) (s : Int) (hd : ¬ s = 0) (hL : L ≤ 1000000) :
    Calls Try.prog 53 #[.pointer (some ⟨p, 0, none⟩), .agg #[.int .i64 0, .string ⟨#[]⟩, .string ⟨#[]⟩, .string ⟨#[]⟩, .string ⟨#[]⟩, .string ⟨#[]⟩, .int .i64 s]] w fun e w' => e = .returned (.tuple #[]) ∧ WIn w' 65 base p none (L + 5243016) ∧ Keep2 base p w w' := by
  have hb := I.bnd
  have I0 := I.alloc (.cells #[.int .i64 0, .string ⟨#[]⟩, .string ⟨#[]⟩, .string ⟨#[]⟩, .string ⟨#[]⟩, .string ⟨#[]⟩, .int .i64 s] 36)
  have hC : ∀ w', Keep2 base p (w.alloc (.cells #[.int .i64 0, .string ⟨#[]⟩, .string ⟨#[]⟩, .string ⟨#[]⟩, .string ⟨#[]⟩, .string ⟨#[]⟩, .int .i64 s] 36)) w' → w'.cell? ⟨w.heap.size, 0, none⟩ = some (.int .i64 0) ∧ w'.cell? ⟨w.heap.size, 1, none⟩ = some (.string ⟨#[]⟩) ∧ w'.cell? ⟨w.heap.size, 2, none⟩ = some (.string ⟨#[]⟩) ∧ w'.cell? ⟨w.heap.size, 3, none⟩ = some (.string ⟨#[]⟩) ∧ w'.cell? ⟨w.heap.size, 4, none⟩ = some (.string ⟨#[]⟩) ∧ w'.cell? ⟨w.heap.size, 5, none⟩ = some (.string ⟨#[]⟩) ∧ w'.cell? ⟨w.heap.size, 6, none⟩ = some (.int .i64 s) := fun w' K => by
    have hb := K.o w.heap.size _ _ _ (by decide) (by omega) (heap_alloc_new w _)
    exact ⟨cellOf hb (o := 0) rfl, cellOf hb (o := 1) rfl, cellOf hb (o := 2) rfl, cellOf hb (o := 3) rfl, cellOf hb (o := 4) rfl, cellOf hb (o := 5) rfl, cellOf hb (o := 6) rfl⟩
  have KA : Hid (Keep2 base p w (w.alloc (.cells #[.int .i64 0, .string ⟨#[]⟩, .string ⟨#[]⟩, .string ⟨#[]⟩, .string ⟨#[]⟩, .string ⟨#[]⟩, .int .i64 s] 36))) := Keep2.none (Kept.alloc _ _ _)
  have hN := wnum_any I0 0 0 4 (by decide) (by decide) (by omega)
  rw [numB_zero] at hN
  clear I I0
  go_enter Try.func53, Try.ntmps53
  go_wp2_with (first
    | (go_at_call 35; have _t := hN; refine hN.mono ?_; rintro e w1 ⟨rfl, I1, K1⟩; obtain ⟨b0, b1, b2, b3, b4, b5, b6⟩ := hC _ K1; have hR := I1.refuse true; clear hN)
    | (go_at_call 75; refine hR.mono ?_; rintro e w2 ⟨⟨v, rfl⟩, I2, K2⟩; clear hR)
    | fail)
  refine bodyPost_ret (results_none rfl _ _ _) rfl ?_
  exact ⟨rfl, I2.wide (by omega), (KA.out.and K1).and K2⟩

end Go.Proofs.Ytnmdjdpceegdfaa
