/-
  A mail, or none: written by the document.
-/
import Derived.Test.YtnmdjdpceegdfaaCMail
namespace Go.Proofs.Ytnmdjdpceegdfaa
open Go.RowKit

set_option maxRecDepth 100000 in
set_option maxHeartbeats 1000000 in
theorem xmail_none {w : World} {base p : Nat} {st : Option (List Int)} {L : Nat} (I : WIn w 72 base p st L) (hL : L ≤ 1000000) :
    Calls Try.prog 54 #[.pointer (some ⟨p, 0, none⟩), .agg #[.int .i64 0, .string ⟨#[]⟩, .string ⟨#[]⟩, .string ⟨#[]⟩, .string ⟨#[]⟩, .string ⟨#[]⟩, .int .i64 0]] w fun e w' => e = .returned (.tuple #[]) ∧ WIn w' 72 base p (put st (some [0])) (L + 5243016) ∧ Keep2 base p w w' := by
  have hb := I.bnd
  have I0 := I.alloc (.cells #[.int .i64 0, .string ⟨#[]⟩, .string ⟨#[]⟩, .string ⟨#[]⟩, .string ⟨#[]⟩, .string ⟨#[]⟩, .int .i64 0] 36)
  have hC : ∀ w', Keep2 base p (w.alloc (.cells #[.int .i64 0, .string ⟨#[]⟩, .string ⟨#[]⟩, .string ⟨#[]⟩, .string ⟨#[]⟩, .string ⟨#[]⟩, .int .i64 0] 36)) w' → w'.cell? ⟨w.heap.size, 0, none⟩ = some (.int .i64 0) ∧ w'.cell? ⟨w.heap.size, 1, none⟩ = some (.string ⟨#[]⟩) ∧ w'.cell? ⟨w.heap.size, 2, none⟩ = some (.string ⟨#[]⟩) ∧ w'.cell? ⟨w.heap.size, 3, none⟩ = some (.string ⟨#[]⟩) ∧ w'.cell? ⟨w.heap.size, 4, none⟩ = some (.string ⟨#[]⟩) ∧ w'.cell? ⟨w.heap.size, 5, none⟩ = some (.string ⟨#[]⟩) ∧ w'.cell? ⟨w.heap.size, 6, none⟩ = some (.int .i64 0) := fun w' K => by
    have hb := K.o w.heap.size _ _ _ (by decide) (by omega) (heap_alloc_new w _)
    exact ⟨cellOf hb (o := 0) rfl, cellOf hb (o := 1) rfl, cellOf hb (o := 2) rfl, cellOf hb (o := 3) rfl, cellOf hb (o := 4) rfl, cellOf hb (o := 5) rfl, cellOf hb (o := 6) rfl⟩
  have KA : Hid (Keep2 base p w (w.alloc (.cells #[.int .i64 0, .string ⟨#[]⟩, .string ⟨#[]⟩, .string ⟨#[]⟩, .string ⟨#[]⟩, .string ⟨#[]⟩, .int .i64 0] 36))) := Keep2.none (Kept.alloc _ _ _)
  have hN := xnum_any I0 0 0 0 (by decide) (by decide) (by omega)
  rw [show wrNum 0 0 0 = some [0] from rfl] at hN
  obtain ⟨a0, a1, a2, a3, a4, a5, a6⟩ := hC _ (Keep2.refl _ _ _)
  clear I I0
  go_enter Try.func54, Try.ntmps54
  go_wp2_with (first
    | (go_at_call 39; refine hN.mono ?_; rintro e w1 ⟨rfl, I1, K1⟩; clear hN)
    | fail)
  refine bodyPost_ret (results_none rfl _ _ _) rfl ?_
  exact ⟨rfl, I1.wide (by omega), KA.out.and K1⟩

set_option maxRecDepth 100000 in
set_option maxHeartbeats 1000000 in
theorem xmail_some {w : World} {base p : Nat} {st : Option (List Int)} {L : Nat} (I : WIn w 72 base p st L) (k : Int) (to fr nd nm tx : ByteArray) (s : Int) (hd : ¬ k = 0) (h1 : to.size ≤ 1048576) (h2 : fr.size ≤ 1048576) (h3 : nd.size ≤ 1048576) (h4 : nm.size ≤ 1048576) (h5 : tx.size ≤ 1048576) (hL : L ≤ 1000000) :
    Calls Try.prog 54 #[.pointer (some ⟨p, 0, none⟩), .agg #[.int .i64 k, .string to, .string fr, .string nd, .string nm, .string tx, .int .i64 s]] w fun e w' => e = .returned (.tuple #[]) ∧ WIn w' 72 base p (put (put (put (put (put (put (put st (wrNum 1 4 k)) (wrText to)) (wrText fr)) (wrText nd)) (wrText nm)) (wrText tx)) (wrNum 0 4 s)) (L + 5243016) ∧ Keep2 base p w w' := by
  have hb := I.bnd
  have I0 := I.alloc (.cells #[.int .i64 k, .string to, .string fr, .string nd, .string nm, .string tx, .int .i64 s] 36)
  have hC : ∀ w', Keep2 base p (w.alloc (.cells #[.int .i64 k, .string to, .string fr, .string nd, .string nm, .string tx, .int .i64 s] 36)) w' → w'.cell? ⟨w.heap.size, 0, none⟩ = some (.int .i64 k) ∧ w'.cell? ⟨w.heap.size, 1, none⟩ = some (.string to) ∧ w'.cell? ⟨w.heap.size, 2, none⟩ = some (.string fr) ∧ w'.cell? ⟨w.heap.size, 3, none⟩ = some (.string nd) ∧ w'.cell? ⟨w.heap.size, 4, none⟩ = some (.string nm) ∧ w'.cell? ⟨w.heap.size, 5, none⟩ = some (.string tx) ∧ w'.cell? ⟨w.heap.size, 6, none⟩ = some (.int .i64 s) := fun w' K => by
    have hb := K.o w.heap.size _ _ _ (by decide) (by omega) (heap_alloc_new w _)
    exact ⟨cellOf hb (o := 0) rfl, cellOf hb (o := 1) rfl, cellOf hb (o := 2) rfl, cellOf hb (o := 3) rfl, cellOf hb (o := 4) rfl, cellOf hb (o := 5) rfl, cellOf hb (o := 6) rfl⟩
  have KA : Hid (Keep2 base p w (w.alloc (.cells #[.int .i64 k, .string to, .string fr, .string nd, .string nm, .string tx, .int .i64 s] 36))) := Keep2.none (Kept.alloc _ _ _)
  have hN := xnum_any I0 k 1 4 (by decide) (by decide) (by omega)
  generalize put st (wrNum 1 4 k) = s1 at *
  obtain ⟨a0, a1, a2, a3, a4, a5, a6⟩ := hC _ (Keep2.refl _ _ _)
  clear I I0
  go_enter Try.func54, Try.ntmps54
  go_wp2_with (first
    | (go_at_call 39; have _t := hN; refine hN.mono ?_; rintro e w1 ⟨rfl, I1, K1⟩; obtain ⟨b0, b1, b2, b3, b4, b5, b6⟩ := hC _ K1; clear hN)
    | (go_at_call 40; have _t := I1; refine (xtext_any I1 to h1 (by omega)).mono ?_; rintro e w2 ⟨rfl, I2, K2⟩; have KK2 := K1.and K2; obtain ⟨c0, c1, c2, c3, c4, c5, c6⟩ := hC _ KK2; clear I1 _t K1 K2 b0 b1 b2 b3 b4 b5 b6)
    | (go_at_call 40; have _t := I2; refine (xtext_any I2 fr h2 (by omega)).mono ?_; rintro e w3 ⟨rfl, I3, K3⟩; have KK3 := KK2.and K3; obtain ⟨d0, d1, d2, d3, d4, d5, d6⟩ := hC _ KK3; clear I2 _t KK2 K3 c0 c1 c2 c3 c4 c5 c6)
    | (go_at_call 40; have _t := I3; refine (xtext_any I3 nd h3 (by omega)).mono ?_; rintro e w4 ⟨rfl, I4, K4⟩; have KK4 := KK3.and K4; obtain ⟨e0, e1, e2, e3, e4, e5, e6⟩ := hC _ KK4; clear I3 _t KK3 K4 d0 d1 d2 d3 d4 d5 d6)
    | (go_at_call 40; have _t := I4; refine (xtext_any I4 nm h4 (by omega)).mono ?_; rintro e w5 ⟨rfl, I5, K5⟩; have KK5 := KK4.and K5; obtain ⟨f0, f1, f2, f3, f4, f5, f6⟩ := hC _ KK5; clear I4 _t KK4 K5 e0 e1 e2 e3 e4 e5 e6)
    | (go_at_call 40; have _t := I5; refine (xtext_any I5 tx h5 (by omega)).mono ?_; rintro e w6 ⟨rfl, I6, K6⟩; have KK6 := KK5.and K6; obtain ⟨g0, g1, g2, g3, g4, g5, g6⟩ := hC _ KK6; clear I5 _t KK5 K6 f0 f1 f2 f3 f4 f5 f6)
    | (go_at_call 39; refine (xnum_any I6 s 0 4 (by decide) (by decide) (by omega)).mono ?_; rintro e w7 ⟨rfl, I7, K7⟩; have KK7 := KK6.and K7; clear I6 KK6 K7)
    | fail)
  go_end0
  exact ⟨rfl, I7.wide (by omega), KA.out.and KK7⟩

set_option maxRecDepth 100000 in
set_option maxHeartbeats 1000000 in
theorem xmail_bad0 {w : World} {base p : Nat} {st : Option (List Int)} {L : Nat} (I : WIn w 72 base p st L) (to : ByteArray) (fr : ByteArray) (nd : ByteArray) (nm : ByteArray) (tx : ByteArray) (s : Int) (hd : ¬ to.toList = []) (h1 : to.size ≤ 1048576) (h2 : fr.size ≤ 1048576) (h3 : nd.size ≤ 1048576) (h4 : nm.size ≤ 1048576) (h5 : tx.size ≤ 1048576) (hL : L ≤ 1000000) :
    Calls Try.prog 54 #[.pointer (some ⟨p, 0, none⟩), .agg #[.int .i64 0, .string to, .string fr, .string nd, .string nm, .string tx, .int .i64 s]] w fun e w' => e = .returned (.tuple #[]) ∧ WIn w' 72 base p (none) (L + 5243016) ∧ Keep2 base p w w' := by
  have hb := I.bnd
  have I0 := I.alloc (.cells #[.int .i64 0, .string to, .string fr, .string nd, .string nm, .string tx, .int .i64 s] 36)
  have hC : ∀ w', Keep2 base p (w.alloc (.cells #[.int .i64 0, .string to, .string fr, .string nd, .string nm, .string tx, .int .i64 s] 36)) w' → w'.cell? ⟨w.heap.size, 0, none⟩ = some (.int .i64 0) ∧ w'.cell? ⟨w.heap.size, 1, none⟩ = some (.string to) ∧ w'.cell? ⟨w.heap.size, 2, none⟩ = some (.string fr) ∧ w'.cell? ⟨w.heap.size, 3, none⟩ = some (.string nd) ∧ w'.cell? ⟨w.heap.size, 4, none⟩ = some (.string nm) ∧ w'.cell? ⟨w.heap.size, 5, none⟩ = some (.string tx) ∧ w'.cell? ⟨w.heap.size, 6, none⟩ = some (.int .i64 s) := fun w' K => by
    have hb := K.o w.heap.size _ _ _ (by decide) (by omega) (heap_alloc_new w _)
    exact ⟨cellOf hb (o := 0) rfl, cellOf hb (o := 1) rfl, cellOf hb (o := 2) rfl, cellOf hb (o := 3) rfl, cellOf hb (o := 4) rfl, cellOf hb (o := 5) rfl, cellOf hb (o := 6) rfl⟩
  have KA : Hid (Keep2 base p w (w.alloc (.cells #[.int .i64 0, .string to, .string fr, .string nd, .string nm, .string tx, .int .i64 s] 36))) := Keep2.none (Kept.alloc _ _ _)
  have hN := xnum_any I0 0 1 4 (by decide) (by decide) (by omega)
  rw [show wrNum 1 4 0 = none from rfl, put_none] at hN
  obtain ⟨a0, a1, a2, a3, a4, a5, a6⟩ := hC _ (Keep2.refl _ _ _)
  clear I I0
  go_enter Try.func54, Try.ntmps54
  go_wp2_with (first
    | (go_at_call 39; have _t := hN; refine hN.mono ?_; rintro e w1 ⟨rfl, I1, K1⟩; obtain ⟨b0, b1, b2, b3, b4, b5, b6⟩ := hC _ K1; clear hN)
    | (go_at_call 40; have _t := I1; refine (xtext_any I1 to h1 (by omega)).mono ?_; rintro e w2 ⟨rfl, I2, K2⟩; have KK2 := K1.and K2; obtain ⟨c0, c1, c2, c3, c4, c5, c6⟩ := hC _ KK2; rw [none_put] at I2; clear I1 _t K1 K2 b0 b1 b2 b3 b4 b5 b6)
    | (go_at_call 40; have _t := I2; refine (xtext_any I2 fr h2 (by omega)).mono ?_; rintro e w3 ⟨rfl, I3, K3⟩; have KK3 := KK2.and K3; obtain ⟨d0, d1, d2, d3, d4, d5, d6⟩ := hC _ KK3; rw [none_put] at I3; clear I2 _t KK2 K3 c0 c1 c2 c3 c4 c5 c6)
    | (go_at_call 40; have _t := I3; refine (xtext_any I3 nd h3 (by omega)).mono ?_; rintro e w4 ⟨rfl, I4, K4⟩; have KK4 := KK3.and K4; obtain ⟨e0, e1, e2, e3, e4, e5, e6⟩ := hC _ KK4; rw [none_put] at I4; clear I3 _t KK3 K4 d0 d1 d2 d3 d4 d5 d6)
    | (go_at_call 40; have _t := I4; refine (xtext_any I4 nm h4 (by omega)).mono ?_; rintro e w5 ⟨rfl, I5, K5⟩; have KK5 := KK4.and K5; obtain ⟨f0, f1, f2, f3, f4, f5, f6⟩ := hC _ KK5; rw [none_put] at I5; clear I4 _t KK4 K5 e0 e1 e2 e3 e4 e5 e6)
    | (go_at_call 40; have _t := I5; refine (xtext_any I5 tx h5 (by omega)).mono ?_; rintro e w6 ⟨rfl, I6, K6⟩; have KK6 := KK5.and K6; obtain ⟨g0, g1, g2, g3, g4, g5, g6⟩ := hC _ KK6; rw [none_put] at I6; clear I5 _t KK5 K6 f0 f1 f2 f3 f4 f5 f6)
    | (go_at_call 39; refine (xnum_any I6 s 0 4 (by decide) (by decide) (by omega)).mono ?_; rintro e w7 ⟨rfl, I7, K7⟩; have KK7 := KK6.and K7; clear I6 KK6 K7)
    | fail)
  go_end0
  exact ⟨rfl, I7.wide (by omega), KA.out.and KK7⟩

set_option maxRecDepth 100000 in
set_option maxHeartbeats 1000000 in
theorem xmail_bad1 {w : World} {base p : Nat} {st : Option (List Int)} {L : Nat} (I : WIn w 72 base p st L) (fr : ByteArray) (nd : ByteArray) (nm : ByteArray) (tx : ByteArray) (s : Int) (hd : ¬ fr.toList = []) (h2 : fr.size ≤ 1048576) (h3 : nd.size ≤ 1048576) (h4 : nm.size ≤ 1048576) (h5 : tx.size ≤ 1048576) (hL : L ≤ 1000000) :
    Calls Try.prog 54 #[.pointer (some ⟨p, 0, none⟩), .agg #[.int .i64 0, .string ⟨#[]⟩, .string fr, .string nd, .string nm, .string tx, .int .i64 s]] w fun e w' => e = .returned (.tuple #[]) ∧ WIn w' 72 base p (none) (L + 5243016) ∧ Keep2 base p w w' := by
  have hb := I.bnd
  have I0 := I.alloc (.cells #[.int .i64 0, .string ⟨#[]⟩, .string fr, .string nd, .string nm, .string tx, .int .i64 s] 36)
  have hC : ∀ w', Keep2 base p (w.alloc (.cells #[.int .i64 0, .string ⟨#[]⟩, .string fr, .string nd, .string nm, .string tx, .int .i64 s] 36)) w' → w'.cell? ⟨w.heap.size, 0, none⟩ = some (.int .i64 0) ∧ w'.cell? ⟨w.heap.size, 1, none⟩ = some (.string ⟨#[]⟩) ∧ w'.cell? ⟨w.heap.size, 2, none⟩ = some (.string fr) ∧ w'.cell? ⟨w.heap.size, 3, none⟩ = some (.string nd) ∧ w'.cell? ⟨w.heap.size, 4, none⟩ = some (.string nm) ∧ w'.cell? ⟨w.heap.size, 5, none⟩ = some (.string tx) ∧ w'.cell? ⟨w.heap.size, 6, none⟩ = some (.int .i64 s) := fun w' K => by
    have hb := K.o w.heap.size _ _ _ (by decide) (by omega) (heap_alloc_new w _)
    exact ⟨cellOf hb (o := 0) rfl, cellOf hb (o := 1) rfl, cellOf hb (o := 2) rfl, cellOf hb (o := 3) rfl, cellOf hb (o := 4) rfl, cellOf hb (o := 5) rfl, cellOf hb (o := 6) rfl⟩
  have KA : Hid (Keep2 base p w (w.alloc (.cells #[.int .i64 0, .string ⟨#[]⟩, .string fr, .string nd, .string nm, .string tx, .int .i64 s] 36))) := Keep2.none (Kept.alloc _ _ _)
  have hN := xnum_any I0 0 1 4 (by decide) (by decide) (by omega)
  rw [show wrNum 1 4 0 = none from rfl, put_none] at hN
  obtain ⟨a0, a1, a2, a3, a4, a5, a6⟩ := hC _ (Keep2.refl _ _ _)
  clear I I0
  go_enter Try.func54, Try.ntmps54
  go_wp2_with (first
    | (go_at_call 39; have _t := hN; refine hN.mono ?_; rintro e w1 ⟨rfl, I1, K1⟩; obtain ⟨b0, b1, b2, b3, b4, b5, b6⟩ := hC _ K1; clear hN)
    | (go_at_call 40; have _t := I1; refine (xtext_any I1 ⟨#[]⟩ (by decide) (by omega)).mono ?_; rintro e w2 ⟨rfl, I2, K2⟩; have KK2 := K1.and K2; obtain ⟨c0, c1, c2, c3, c4, c5, c6⟩ := hC _ KK2; rw [none_put] at I2; clear I1 _t K1 K2 b0 b1 b2 b3 b4 b5 b6)
    | (go_at_call 40; have _t := I2; refine (xtext_any I2 fr h2 (by omega)).mono ?_; rintro e w3 ⟨rfl, I3, K3⟩; have KK3 := KK2.and K3; obtain ⟨d0, d1, d2, d3, d4, d5, d6⟩ := hC _ KK3; rw [none_put] at I3; clear I2 _t KK2 K3 c0 c1 c2 c3 c4 c5 c6)
    | (go_at_call 40; have _t := I3; refine (xtext_any I3 nd h3 (by omega)).mono ?_; rintro e w4 ⟨rfl, I4, K4⟩; have KK4 := KK3.and K4; obtain ⟨e0, e1, e2, e3, e4, e5, e6⟩ := hC _ KK4; rw [none_put] at I4; clear I3 _t KK3 K4 d0 d1 d2 d3 d4 d5 d6)
    | (go_at_call 40; have _t := I4; refine (xtext_any I4 nm h4 (by omega)).mono ?_; rintro e w5 ⟨rfl, I5, K5⟩; have KK5 := KK4.and K5; obtain ⟨f0, f1, f2, f3, f4, f5, f6⟩ := hC _ KK5; rw [none_put] at I5; clear I4 _t KK4 K5 e0 e1 e2 e3 e4 e5 e6)
    | (go_at_call 40; have _t := I5; refine (xtext_any I5 tx h5 (by omega)).mono ?_; rintro e w6 ⟨rfl, I6, K6⟩; have KK6 := KK5.and K6; obtain ⟨g0, g1, g2, g3, g4, g5, g6⟩ := hC _ KK6; rw [none_put] at I6; clear I5 _t KK5 K6 f0 f1 f2 f3 f4 f5 f6)
    | (go_at_call 39; refine (xnum_any I6 s 0 4 (by decide) (by decide) (by omega)).mono ?_; rintro e w7 ⟨rfl, I7, K7⟩; have KK7 := KK6.and K7; clear I6 KK6 K7)
    | fail)
  go_end0
  exact ⟨rfl, I7.wide (by omega), KA.out.and KK7⟩

set_option maxRecDepth 100000 in
set_option maxHeartbeats 1000000 in
theorem xmail_bad2 {w : World} {base p : Nat} {st : Option (List Int)} {L : Nat} (I : WIn w 72 base p st L) (nd : ByteArray) (nm : ByteArray) (tx : ByteArray) (s : Int) (hd : ¬ nd.toList = []) (h3 : nd.size ≤ 1048576) (h4 : nm.size ≤ 1048576) (h5 : tx.size ≤ 1048576) (hL : L ≤ 1000000) :
    Calls Try.prog 54 #[.pointer (some ⟨p, 0, none⟩), .agg #[.int .i64 0, .string ⟨#[]⟩, .string ⟨#[]⟩, .string nd, .string nm, .string tx, .int .i64 s]] w fun e w' => e = .returned (.tuple #[]) ∧ WIn w' 72 base p (none) (L + 5243016) ∧ Keep2 base p w w' := by
  have hb := I.bnd
  have I0 := I.alloc (.cells #[.int .i64 0, .string ⟨#[]⟩, .string ⟨#[]⟩, .string nd, .string nm, .string tx, .int .i64 s] 36)
  have hC : ∀ w', Keep2 base p (w.alloc (.cells #[.int .i64 0, .string ⟨#[]⟩, .string ⟨#[]⟩, .string nd, .string nm, .string tx, .int .i64 s] 36)) w' → w'.cell? ⟨w.heap.size, 0, none⟩ = some (.int .i64 0) ∧ w'.cell? ⟨w.heap.size, 1, none⟩ = some (.string ⟨#[]⟩) ∧ w'.cell? ⟨w.heap.size, 2, none⟩ = some (.string ⟨#[]⟩) ∧ w'.cell? ⟨w.heap.size, 3, none⟩ = some (.string nd) ∧ w'.cell? ⟨w.heap.size, 4, none⟩ = some (.string nm) ∧ w'.cell? ⟨w.heap.size, 5, none⟩ = some (.string tx) ∧ w'.cell? ⟨w.heap.size, 6, none⟩ = some (.int .i64 s) := fun w' K => by
    have hb := K.o w.heap.size _ _ _ (by decide) (by omega) (heap_alloc_new w _)
    exact ⟨cellOf hb (o := 0) rfl, cellOf hb (o := 1) rfl, cellOf hb (o := 2) rfl, cellOf hb (o := 3) rfl, cellOf hb (o := 4) rfl, cellOf hb (o := 5) rfl, cellOf hb (o := 6) rfl⟩
  have KA : Hid (Keep2 base p w (w.alloc (.cells #[.int .i64 0, .string ⟨#[]⟩, .string ⟨#[]⟩, .string nd, .string nm, .string tx, .int .i64 s] 36))) := Keep2.none (Kept.alloc _ _ _)
  have hN := xnum_any I0 0 1 4 (by decide) (by decide) (by omega)
  rw [show wrNum 1 4 0 = none from rfl, put_none] at hN
  obtain ⟨a0, a1, a2, a3, a4, a5, a6⟩ := hC _ (Keep2.refl _ _ _)
  clear I I0
  go_enter Try.func54, Try.ntmps54
  go_wp2_with (first
    | (go_at_call 39; have _t := hN; refine hN.mono ?_; rintro e w1 ⟨rfl, I1, K1⟩; obtain ⟨b0, b1, b2, b3, b4, b5, b6⟩ := hC _ K1; clear hN)
    | (go_at_call 40; have _t := I1; refine (xtext_any I1 ⟨#[]⟩ (by decide) (by omega)).mono ?_; rintro e w2 ⟨rfl, I2, K2⟩; have KK2 := K1.and K2; obtain ⟨c0, c1, c2, c3, c4, c5, c6⟩ := hC _ KK2; rw [none_put] at I2; clear I1 _t K1 K2 b0 b1 b2 b3 b4 b5 b6)
    | (go_at_call 40; have _t := I2; refine (xtext_any I2 ⟨#[]⟩ (by decide) (by omega)).mono ?_; rintro e w3 ⟨rfl, I3, K3⟩; have KK3 := KK2.and K3; obtain ⟨d0, d1, d2, d3, d4, d5, d6⟩ := hC _ KK3; rw [none_put] at I3; clear I2 _t KK2 K3 c0 c1 c2 c3 c4 c5 c6)
    | (go_at_call 40; have _t := I3; refine (xtext_any I3 nd h3 (by omega)).mono ?_; rintro e w4 ⟨rfl, I4, K4⟩; have KK4 := KK3.and K4; obtain ⟨e0, e1, e2, e3, e4, e5, e6⟩ := hC _ KK4; rw [none_put] at I4; clear I3 _t KK3 K4 d0 d1 d2 d3 d4 d5 d6)
    | (go_at_call 40; have _t := I4; refine (xtext_any I4 nm h4 (by omega)).mono ?_; rintro e w5 ⟨rfl, I5, K5⟩; have KK5 := KK4.and K5; obtain ⟨f0, f1, f2, f3, f4, f5, f6⟩ := hC _ KK5; rw [none_put] at I5; clear I4 _t KK4 K5 e0 e1 e2 e3 e4 e5 e6)
    | (go_at_call 40; have _t := I5; refine (xtext_any I5 tx h5 (by omega)).mono ?_; rintro e w6 ⟨rfl, I6, K6⟩; have KK6 := KK5.and K6; obtain ⟨g0, g1, g2, g3, g4, g5, g6⟩ := hC _ KK6; rw [none_put] at I6; clear I5 _t KK5 K6 f0 f1 f2 f3 f4 f5 f6)
    | (go_at_call 39; refine (xnum_any I6 s 0 4 (by decide) (by decide) (by omega)).mono ?_; rintro e w7 ⟨rfl, I7, K7⟩; have KK7 := KK6.and K7; clear I6 KK6 K7)
    | fail)
  go_end0
  exact ⟨rfl, I7.wide (by omega), KA.out.and KK7⟩

set_option maxRecDepth 100000 in
set_option maxHeartbeats 1000000 in
theorem xmail_bad3 {w : World} {base p : Nat} {st : Option (List Int)} {L : Nat} (I : WIn w 72 base p st L) (nm : ByteArray) (tx : ByteArray) (s : Int) (hd : ¬ nm.toList = []) (h4 : nm.size ≤ 1048576) (h5 : tx.size ≤ 1048576) (hL : L ≤ 1000000) :
    Calls Try.prog 54 #[.pointer (some ⟨p, 0, none⟩), .agg #[.int .i64 0, .string ⟨#[]⟩, .string ⟨#[]⟩, .string ⟨#[]⟩, .string nm, .string tx, .int .i64 s]] w fun e w' => e = .returned (.tuple #[]) ∧ WIn w' 72 base p (none) (L + 5243016) ∧ Keep2 base p w w' := by
  have hb := I.bnd
  have I0 := I.alloc (.cells #[.int .i64 0, .string ⟨#[]⟩, .string ⟨#[]⟩, .string ⟨#[]⟩, .string nm, .string tx, .int .i64 s] 36)
  have hC : ∀ w', Keep2 base p (w.alloc (.cells #[.int .i64 0, .string ⟨#[]⟩, .string ⟨#[]⟩, .string ⟨#[]⟩, .string nm, .string tx, .int .i64 s] 36)) w' → w'.cell? ⟨w.heap.size, 0, none⟩ = some (.int .i64 0) ∧ w'.cell? ⟨w.heap.size, 1, none⟩ = some (.string ⟨#[]⟩) ∧ w'.cell? ⟨w.heap.size, 2, none⟩ = some (.string ⟨#[]⟩) ∧ w'.cell? ⟨w.heap.size, 3, none⟩ = some (.string ⟨#[]⟩) ∧ w'.cell? ⟨w.heap.size, 4, none⟩ = some (.string nm) ∧ w'.cell? ⟨w.heap.size, 5, none⟩ = some (.string tx) ∧ w'.cell? ⟨w.heap.size, 6, none⟩ = some (.int .i64 s) := fun w' K => by
    have hb := K.o w.heap.size _ _ _ (by decide) (by omega) (heap_alloc_new w _)
    exact ⟨cellOf hb (o := 0) rfl, cellOf hb (o := 1) rfl, cellOf hb (o := 2) rfl, cellOf hb (o := 3) rfl, cellOf hb (o := 4) rfl, cellOf hb (o := 5) rfl, cellOf hb (o := 6) rfl⟩
  have KA : Hid (Keep2 base p w (w.alloc (.cells #[.int .i64 0, .string ⟨#[]⟩, .string ⟨#[]⟩, .string ⟨#[]⟩, .string nm, .string tx, .int .i64 s] 36))) := Keep2.none (Kept.alloc _ _ _)
  have hN := xnum_any I0 0 1 4 (by decide) (by decide) (by omega)
  rw [show wrNum 1 4 0 = none from rfl, put_none] at hN
  obtain ⟨a0, a1, a2, a3, a4, a5, a6⟩ := hC _ (Keep2.refl _ _ _)
  clear I I0
  go_enter Try.func54, Try.ntmps54
  go_wp2_with (first
    | (go_at_call 39; have _t := hN; refine hN.mono ?_; rintro e w1 ⟨rfl, I1, K1⟩; obtain ⟨b0, b1, b2, b3, b4, b5, b6⟩ := hC _ K1; clear hN)
    | (go_at_call 40; have _t := I1; refine (xtext_any I1 ⟨#[]⟩ (by decide) (by omega)).mono ?_; rintro e w2 ⟨rfl, I2, K2⟩; have KK2 := K1.and K2; obtain ⟨c0, c1, c2, c3, c4, c5, c6⟩ := hC _ KK2; rw [none_put] at I2; clear I1 _t K1 K2 b0 b1 b2 b3 b4 b5 b6)
    | (go_at_call 40; have _t := I2; refine (xtext_any I2 ⟨#[]⟩ (by decide) (by omega)).mono ?_; rintro e w3 ⟨rfl, I3, K3⟩; have KK3 := KK2.and K3; obtain ⟨d0, d1, d2, d3, d4, d5, d6⟩ := hC _ KK3; rw [none_put] at I3; clear I2 _t KK2 K3 c0 c1 c2 c3 c4 c5 c6)
    | (go_at_call 40; have _t := I3; refine (xtext_any I3 ⟨#[]⟩ (by decide) (by omega)).mono ?_; rintro e w4 ⟨rfl, I4, K4⟩; have KK4 := KK3.and K4; obtain ⟨e0, e1, e2, e3, e4, e5, e6⟩ := hC _ KK4; rw [none_put] at I4; clear I3 _t KK3 K4 d0 d1 d2 d3 d4 d5 d6)
    | (go_at_call 40; have _t := I4; refine (xtext_any I4 nm h4 (by omega)).mono ?_; rintro e w5 ⟨rfl, I5, K5⟩; have KK5 := KK4.and K5; obtain ⟨f0, f1, f2, f3, f4, f5, f6⟩ := hC _ KK5; rw [none_put] at I5; clear I4 _t KK4 K5 e0 e1 e2 e3 e4 e5 e6)
    | (go_at_call 40; have _t := I5; refine (xtext_any I5 tx h5 (by omega)).mono ?_; rintro e w6 ⟨rfl, I6, K6⟩; have KK6 := KK5.and K6; obtain ⟨g0, g1, g2, g3, g4, g5, g6⟩ := hC _ KK6; rw [none_put] at I6; clear I5 _t KK5 K6 f0 f1 f2 f3 f4 f5 f6)
    | (go_at_call 39; refine (xnum_any I6 s 0 4 (by decide) (by decide) (by omega)).mono ?_; rintro e w7 ⟨rfl, I7, K7⟩; have KK7 := KK6.and K7; clear I6 KK6 K7)
    | fail)
  go_end0
  exact ⟨rfl, I7.wide (by omega), KA.out.and KK7⟩

set_option maxRecDepth 100000 in
set_option maxHeartbeats 1000000 in
theorem xmail_bad4 {w : World} {base p : Nat} {st : Option (List Int)} {L : Nat} (I : WIn w 72 base p st L) (tx : ByteArray) (s : Int) (hd : ¬ tx.toList = []) (h5 : tx.size ≤ 1048576) (hL : L ≤ 1000000) :
    Calls Try.prog 54 #[.pointer (some ⟨p, 0, none⟩), .agg #[.int .i64 0, .string ⟨#[]⟩, .string ⟨#[]⟩, .string ⟨#[]⟩, .string ⟨#[]⟩, .string tx, .int .i64 s]] w fun e w' => e = .returned (.tuple #[]) ∧ WIn w' 72 base p (none) (L + 5243016) ∧ Keep2 base p w w' := by
  have hb := I.bnd
  have I0 := I.alloc (.cells #[.int .i64 0, .string ⟨#[]⟩, .string ⟨#[]⟩, .string ⟨#[]⟩, .string ⟨#[]⟩, .string tx, .int .i64 s] 36)
  have hC : ∀ w', Keep2 base p (w.alloc (.cells #[.int .i64 0, .string ⟨#[]⟩, .string ⟨#[]⟩, .string ⟨#[]⟩, .string ⟨#[]⟩, .string tx, .int .i64 s] 36)) w' → w'.cell? ⟨w.heap.size, 0, none⟩ = some (.int .i64 0) ∧ w'.cell? ⟨w.heap.size, 1, none⟩ = some (.string ⟨#[]⟩) ∧ w'.cell? ⟨w.heap.size, 2, none⟩ = some (.string ⟨#[]⟩) ∧ w'.cell? ⟨w.heap.size, 3, none⟩ = some (.string ⟨#[]⟩) ∧ w'.cell? ⟨w.heap.size, 4, none⟩ = some (.string ⟨#[]⟩) ∧ w'.cell? ⟨w.heap.size, 5, none⟩ = some (.string tx) ∧ w'.cell? ⟨w.heap.size, 6, none⟩ = some (.int .i64 s) := fun w' K => by
    have hb := K.o w.heap.size _ _ _ (by decide) (by omega) (heap_alloc_new w _)
    exact ⟨cellOf hb (o := 0) rfl, cellOf hb (o := 1) rfl, cellOf hb (o := 2) rfl, cellOf hb (o := 3) rfl, cellOf hb (o := 4) rfl, cellOf hb (o := 5) rfl, cellOf hb (o := 6) rfl⟩
  have KA : Hid (Keep2 base p w (w.alloc (.cells #[.int .i64 0, .string ⟨#[]⟩, .string ⟨#[]⟩, .string ⟨#[]⟩, .string ⟨#[]⟩, .string tx, .int .i64 s] 36))) := Keep2.none (Kept.alloc _ _ _)
  have hN := xnum_any I0 0 1 4 (by decide) (by decide) (by omega)
  rw [show wrNum 1 4 0 = none from rfl, put_none] at hN
  obtain ⟨a0, a1, a2, a3, a4, a5, a6⟩ := hC _ (Keep2.refl _ _ _)
  clear I I0
  go_enter Try.func54, Try.ntmps54
  go_wp2_with (first
    | (go_at_call 39; have _t := hN; refine hN.mono ?_; rintro e w1 ⟨rfl, I1, K1⟩; obtain ⟨b0, b1, b2, b3, b4, b5, b6⟩ := hC _ K1; clear hN)
    | (go_at_call 40; have _t := I1; refine (xtext_any I1 ⟨#[]⟩ (by decide) (by omega)).mono ?_; rintro e w2 ⟨rfl, I2, K2⟩; have KK2 := K1.and K2; obtain ⟨c0, c1, c2, c3, c4, c5, c6⟩ := hC _ KK2; rw [none_put] at I2; clear I1 _t K1 K2 b0 b1 b2 b3 b4 b5 b6)
    | (go_at_call 40; have _t := I2; refine (xtext_any I2 ⟨#[]⟩ (by decide) (by omega)).mono ?_; rintro e w3 ⟨rfl, I3, K3⟩; have KK3 := KK2.and K3; obtain ⟨d0, d1, d2, d3, d4, d5, d6⟩ := hC _ KK3; rw [none_put] at I3; clear I2 _t KK2 K3 c0 c1 c2 c3 c4 c5 c6)
    | (go_at_call 40; have _t := I3; refine (xtext_any I3 ⟨#[]⟩ (by decide) (by omega)).mono ?_; rintro e w4 ⟨rfl, I4, K4⟩; have KK4 := KK3.and K4; obtain ⟨e0, e1, e2, e3, e4, e5, e6⟩ := hC _ KK4; rw [none_put] at I4; clear I3 _t KK3 K4 d0 d1 d2 d3 d4 d5 d6)
    | (go_at_call 40; have _t := I4; refine (xtext_any I4 ⟨#[]⟩ (by decide) (by omega)).mono ?_; rintro e w5 ⟨rfl, I5, K5⟩; have KK5 := KK4.and K5; obtain ⟨f0, f1, f2, f3, f4, f5, f6⟩ := hC _ KK5; rw [none_put] at I5; clear I4 _t KK4 K5 e0 e1 e2 e3 e4 e5 e6)
    | (go_at_call 40; have _t := I5; refine (xtext_any I5 tx h5 (by omega)).mono ?_; rintro e w6 ⟨rfl, I6, K6⟩; have KK6 := KK5.and K6; obtain ⟨g0, g1, g2, g3, g4, g5, g6⟩ := hC _ KK6; rw [none_put] at I6; clear I5 _t KK5 K6 f0 f1 f2 f3 f4 f5 f6)
    | (go_at_call 39; refine (xnum_any I6 s 0 4 (by decide) (by decide) (by omega)).mono ?_; rintro e w7 ⟨rfl, I7, K7⟩; have KK7 := KK6.and K7; clear I6 KK6 K7)
    | fail)
  go_end0
  exact ⟨rfl, I7.wide (by omega), KA.out.and KK7⟩

set_option maxRecDepth 100000 in
set_option maxHeartbeats 1000000 in
theorem xmail_bad5 {w : World} {base p : Nat} {st : Option (List Int)} {L : Nat} (I : WIn w 72 base p st L) (s : Int) (hd : ¬ s = 0)  (hL : L ≤ 1000000) :
    Calls Try.prog 54 #[.pointer (some ⟨p, 0, none⟩), .agg #[.int .i64 0, .string ⟨#[]⟩, .string ⟨#[]⟩, .string ⟨#[]⟩, .string ⟨#[]⟩, .string ⟨#[]⟩, .int .i64 s]] w fun e w' => e = .returned (.tuple #[]) ∧ WIn w' 72 base p (none) (L + 5243016) ∧ Keep2 base p w w' := by
  have hb := I.bnd
  have I0 := I.alloc (.cells #[.int .i64 0, .string ⟨#[]⟩, .string ⟨#[]⟩, .string ⟨#[]⟩, .string ⟨#[]⟩, .string ⟨#[]⟩, .int .i64 s] 36)
  have hC : ∀ w', Keep2 base p (w.alloc (.cells #[.int .i64 0, .string ⟨#[]⟩, .string ⟨#[]⟩, .string ⟨#[]⟩, .string ⟨#[]⟩, .string ⟨#[]⟩, .int .i64 s] 36)) w' → w'.cell? ⟨w.heap.size, 0, none⟩ = some (.int .i64 0) ∧ w'.cell? ⟨w.heap.size, 1, none⟩ = some (.string ⟨#[]⟩) ∧ w'.cell? ⟨w.heap.size, 2, none⟩ = some (.string ⟨#[]⟩) ∧ w'.cell? ⟨w.heap.size, 3, none⟩ = some (.string ⟨#[]⟩) ∧ w'.cell? ⟨w.heap.size, 4, none⟩ = some (.string ⟨#[]⟩) ∧ w'.cell? ⟨w.heap.size, 5, none⟩ = some (.string ⟨#[]⟩) ∧ w'.cell? ⟨w.heap.size, 6, none⟩ = some (.int .i64 s) := fun w' K => by
    have hb := K.o w.heap.size _ _ _ (by decide) (by omega) (heap_alloc_new w _)
    exact ⟨cellOf hb (o := 0) rfl, cellOf hb (o := 1) rfl, cellOf hb (o := 2) rfl, cellOf hb (o := 3) rfl, cellOf hb (o := 4) rfl, cellOf hb (o := 5) rfl, cellOf hb (o := 6) rfl⟩
  have KA : Hid (Keep2 base p w (w.alloc (.cells #[.int .i64 0, .string ⟨#[]⟩, .string ⟨#[]⟩, .string ⟨#[]⟩, .string ⟨#[]⟩, .string ⟨#[]⟩, .int .i64 s] 36))) := Keep2.none (Kept.alloc _ _ _)
  have hN := xnum_any I0 0 1 4 (by decide) (by decide) (by omega)
  rw [show wrNum 1 4 0 = none from rfl, put_none] at hN
  obtain ⟨a0, a1, a2, a3, a4, a5, a6⟩ := hC _ (Keep2.refl _ _ _)
  clear I I0
  go_enter Try.func54, Try.ntmps54
  go_wp2_with (first
    | (go_at_call 39; have _t := hN; refine hN.mono ?_; rintro e w1 ⟨rfl, I1, K1⟩; obtain ⟨b0, b1, b2, b3, b4, b5, b6⟩ := hC _ K1; clear hN)
    | (go_at_call 40; have _t := I1; refine (xtext_any I1 ⟨#[]⟩ (by decide) (by omega)).mono ?_; rintro e w2 ⟨rfl, I2, K2⟩; have KK2 := K1.and K2; obtain ⟨c0, c1, c2, c3, c4, c5, c6⟩ := hC _ KK2; rw [none_put] at I2; clear I1 _t K1 K2 b0 b1 b2 b3 b4 b5 b6)
    | (go_at_call 40; have _t := I2; refine (xtext_any I2 ⟨#[]⟩ (by decide) (by omega)).mono ?_; rintro e w3 ⟨rfl, I3, K3⟩; have KK3 := KK2.and K3; obtain ⟨d0, d1, d2, d3, d4, d5, d6⟩ := hC _ KK3; rw [none_put] at I3; clear I2 _t KK2 K3 c0 c1 c2 c3 c4 c5 c6)
    | (go_at_call 40; have _t := I3; refine (xtext_any I3 ⟨#[]⟩ (by decide) (by omega)).mono ?_; rintro e w4 ⟨rfl, I4, K4⟩; have KK4 := KK3.and K4; obtain ⟨e0, e1, e2, e3, e4, e5, e6⟩ := hC _ KK4; rw [none_put] at I4; clear I3 _t KK3 K4 d0 d1 d2 d3 d4 d5 d6)
    | (go_at_call 40; have _t := I4; refine (xtext_any I4 ⟨#[]⟩ (by decide) (by omega)).mono ?_; rintro e w5 ⟨rfl, I5, K5⟩; have KK5 := KK4.and K5; obtain ⟨f0, f1, f2, f3, f4, f5, f6⟩ := hC _ KK5; rw [none_put] at I5; clear I4 _t KK4 K5 e0 e1 e2 e3 e4 e5 e6)
    | (go_at_call 40; have _t := I5; refine (xtext_any I5 ⟨#[]⟩ (by decide) (by omega)).mono ?_; rintro e w6 ⟨rfl, I6, K6⟩; have KK6 := KK5.and K6; obtain ⟨g0, g1, g2, g3, g4, g5, g6⟩ := hC _ KK6; rw [none_put] at I6; clear I5 _t KK5 K6 f0 f1 f2 f3 f4 f5 f6)
    | (go_at_call 39; refine (xnum_any I6 s 0 4 (by decide) (by decide) (by omega)).mono ?_; rintro e w7 ⟨rfl, I7, K7⟩; have KK7 := KK6.and K7; clear I6 KK6 K7)
    | fail)
  go_end0
  exact ⟨rfl, I7.wide (by omega), KA.out.and KK7⟩

theorem wrMail_none {k : Int} {to fr nd nm tx : ByteArray} {s : Int} (h : isNone k to fr nd nm tx s) : wrMail k to fr nd nm tx s = some [0] := by
  unfold wrMail
  rw [if_pos h.1, if_pos h]

theorem wrMail_bad {to fr nd nm tx : ByteArray} {s : Int} (h : ¬ isNone 0 to fr nd nm tx s) : wrMail 0 to fr nd nm tx s = none := by
  unfold wrMail
  rw [if_pos rfl, if_neg h]

theorem wrMail_some {st : Option (List Int)} {k : Int} {to fr nd nm tx : ByteArray} {s : Int} (h : ¬ k = 0) : put st (wrMail k to fr nd nm tx s) = put (put (put (put (put (put (put st (wrNum 1 4 k)) (wrText to)) (wrText fr)) (wrText nd)) (wrText nm)) (wrText tx)) (wrNum 0 4 s) := by
  unfold wrMail
  rw [if_neg h]
  simp only [put_assoc']

theorem wmail_any {w : World} {base p : Nat} {st : Option (List Int)} {L : Nat} (I : WIn w 65 base p st L) (k : Int) (to fr nd nm tx : ByteArray) (s : Int) (h1 : to.size ≤ 140737488355328) (h2 : fr.size ≤ 140737488355328) (h3 : nd.size ≤ 140737488355328) (h4 : nm.size ≤ 140737488355328) (h5 : tx.size ≤ 140737488355328) (hL : L ≤ 1000000) :
    Calls Try.prog 53 #[.pointer (some ⟨p, 0, none⟩), .agg #[.int .i64 k, .string to, .string fr, .string nd, .string nm, .string tx, .int .i64 s]] w fun e w' => e = .returned (.tuple #[]) ∧ WIn w' 65 base p (put st (wrMail k to fr nd nm tx s)) (L + 5243016) ∧ Keep2 base p w w' := by
  by_cases hk : k = 0
  · subst hk
    by_cases n1 : to.toList = []
    · obtain rfl := toList_nil n1
      by_cases n2 : fr.toList = []
      · obtain rfl := toList_nil n2
        by_cases n3 : nd.toList = []
        · obtain rfl := toList_nil n3
          by_cases n4 : nm.toList = []
          · obtain rfl := toList_nil n4
            by_cases n5 : tx.toList = []
            · obtain rfl := toList_nil n5
              by_cases n6 : s = 0
              · subst n6
                rw [wrMail_none ⟨rfl, n1, n2, n3, n4, n5, rfl⟩]
                exact wmail_none I hL
              · rw [wrMail_bad (fun h => n6 h.2.2.2.2.2.2), put_none]
                exact wmail_bad5 I _ n6 hL
            · rw [wrMail_bad (fun h => n5 h.2.2.2.2.2.1), put_none]
              exact wmail_bad4 I _ _ n5 hL
          · rw [wrMail_bad (fun h => n4 h.2.2.2.2.1), put_none]
            exact wmail_bad3 I _ _ _ n4 hL
        · rw [wrMail_bad (fun h => n3 h.2.2.2.1), put_none]
          exact wmail_bad2 I _ _ _ _ n3 hL
      · rw [wrMail_bad (fun h => n2 h.2.2.1), put_none]
        exact wmail_bad1 I _ _ _ _ _ n2 hL
    · rw [wrMail_bad (fun h => n1 h.2.1), put_none]
      exact wmail_bad0 I _ _ _ _ _ _ n1 hL
  · have h := wmail_some I k to fr nd nm tx s hk h1 h2 h3 h4 h5 hL
    rw [wrMail_some hk, wrNum_14 hk]
    exact h

theorem xmail_any {w : World} {base p : Nat} {st : Option (List Int)} {L : Nat} (I : WIn w 72 base p st L) (k : Int) (to fr nd nm tx : ByteArray) (s : Int) (h1 : to.size ≤ 1048576) (h2 : fr.size ≤ 1048576) (h3 : nd.size ≤ 1048576) (h4 : nm.size ≤ 1048576) (h5 : tx.size ≤ 1048576) (hL : L ≤ 1000000) :
    Calls Try.prog 54 #[.pointer (some ⟨p, 0, none⟩), .agg #[.int .i64 k, .string to, .string fr, .string nd, .string nm, .string tx, .int .i64 s]] w fun e w' => e = .returned (.tuple #[]) ∧ WIn w' 72 base p (put st (wrMail k to fr nd nm tx s)) (L + 5243016) ∧ Keep2 base p w w' := by
  by_cases hk : k = 0
  · subst hk
    by_cases n1 : to.toList = []
    · obtain rfl := toList_nil n1
      by_cases n2 : fr.toList = []
      · obtain rfl := toList_nil n2
        by_cases n3 : nd.toList = []
        · obtain rfl := toList_nil n3
          by_cases n4 : nm.toList = []
          · obtain rfl := toList_nil n4
            by_cases n5 : tx.toList = []
            · obtain rfl := toList_nil n5
              by_cases n6 : s = 0
              · subst n6
                rw [wrMail_none ⟨rfl, n1, n2, n3, n4, n5, rfl⟩]
                exact xmail_none I hL
              · rw [wrMail_bad (fun h => n6 h.2.2.2.2.2.2), put_none]
                exact xmail_bad5 I _ n6 hL
            · rw [wrMail_bad (fun h => n5 h.2.2.2.2.2.1), put_none]
              exact xmail_bad4 I _ _ n5 h5 hL
          · rw [wrMail_bad (fun h => n4 h.2.2.2.2.1), put_none]
            exact xmail_bad3 I _ _ _ n4 h4 h5 hL
        · rw [wrMail_bad (fun h => n3 h.2.2.2.1), put_none]
          exact xmail_bad2 I _ _ _ _ n3 h3 h4 h5 hL
      · rw [wrMail_bad (fun h => n2 h.2.2.1), put_none]
        exact xmail_bad1 I _ _ _ _ _ n2 h2 h3 h4 h5 hL
    · rw [wrMail_bad (fun h => n1 h.2.1), put_none]
      exact xmail_bad0 I _ _ _ _ _ _ n1 h1 h2 h3 h4 h5 hL
  · have h := xmail_some I k to fr nd nm tx s hk h1 h2 h3 h4 h5 hL
    rw [wrMail_some hk]
    exact h

end Go.Proofs.Ytnmdjdpceegdfaa
