/-
  The document's Object: what it is about, and its calls once it has refused.
-/
import Derived.Test.YtfogkbdbncfleaaGreatDoorFRdrV
import Derived.Test.YtfogkbdbncfleaaGreatDoorFObj
namespace Go.Proofs.YtfogkbdbncfleaaGreatDoor
open Go.RowKit

theorem valR_next (s : ByteArray) {i : Nat} (h : i ≤ s.size) : (valR s i).2.1 ≤ s.size := by
  have h1 := (textP_next s h).2.1
  have h2 := (numP_next s h).2.1
  unfold valR numR
  split
  · split
    · exact h1
    · exact h1
  · split
    · exact h2
    · exact h2

theorem digAt_skip {s : ByteArray} {j : Nat} (h : digAt s j = true) : skipP s j = j ∧ standsP s j 44 = false ∧ standsP s j 125 = false := by
  unfold digAt at h
  rcases Nat.lt_or_ge j s.size with hl | hl
  · rw [get_lt s hl] at h
    simp only at h
    have hk : ∀ k : Fin 256, isDig (UInt8.ofNat k.1) = true → blankB (UInt8.ofNat k.1) = false ∧ (UInt8.ofNat k.1 == 44) = false ∧ (UInt8.ofNat k.1 == 125) = false := by decide +kernel
    have h2 := hk ⟨(s[j]'hl).toNat, (s[j]'hl).toNat_lt⟩
    simp only [UInt8.ofNat_toNat] at h2
    obtain ⟨h3, h4, h5⟩ := h2 h
    exact ⟨skipP_stop s hl h3, by rw [standsP_lt s hl, h4], by rw [standsP_lt s hl, h5]⟩
  · rw [get_ge s hl] at h
    cases h

/-- Behind a colon, by the document's values. -/
theorem colR_eq (s : ByteArray) (n : Nat) (ps : List Pr) (nm : List UInt8) (a2 : Nat) : colR s n ps nm a2 =
    if !(valR s (skipP s (a2 + 1))).2.2 then ([], (valR s (skipP s (a2 + 1))).2.1, 2)
    else if standsP s (skipP s (valR s (skipP s (a2 + 1))).2.1) 44 then objF s n (ps ++ [(nm, (valR s (skipP s (a2 + 1))).1)]) (skipP s (skipP s (valR s (skipP s (a2 + 1))).2.1 + 1))
    else if standsP s (skipP s (valR s (skipP s (a2 + 1))).2.1) 125 then closeP s (ps ++ [(nm, (valR s (skipP s (a2 + 1))).1)]) (skipP s (valR s (skipP s (a2 + 1))).2.1)
    else ([], skipP s (valR s (skipP s (a2 + 1))).2.1, 2) := by
  unfold colR
  generalize skipP s (a2 + 1) = i
  have hv : valR s i = if (numP s i).2.2 && digAt s (numP s i).2.1 && !standsP s i 34 then ([], (numP s i).2.1, false) else valP s i := by
    unfold valR valP numR
    cases standsP s i 34 with
    | true => simp
    | false =>
      cases hk : (numP s i).2.2 && digAt s (numP s i).2.1 <;> simp
  rw [hv]
  cases hk : (numP s i).2.2 && digAt s (numP s i).2.1 && !standsP s i 34 with
  | false => simp
  | true =>
    simp only [Bool.and_eq_true, Bool.not_eq_true'] at hk
    obtain ⟨⟨h1, h2⟩, h3⟩ := hk
    have hp : valP s i = numP s i := by unfold valP; rw [if_neg (by rw [h3]; decide)]
    rw [hp, h1]
    obtain ⟨g1, g2, g3⟩ := digAt_skip h2
    simp only [Bool.not_true, Bool.false_eq_true, if_false, g1, g2, g3, if_true, Bool.not_false]

/-- Ahead of a field. -/
def topR (s : ByteArray) (n : Nat) (ps : List Pr) (q : Nat) : List Pr × Nat × Int :=
  if ps = [] then (if standsP s (skipP s q) 125 then closeP s [] (skipP s q) else objF s n [] (skipP s q)) else objF s n ps (skipP s q)

theorem objP_top (s : ByteArray) : objP s = if standsP s (skipP s 0) 123 then topR s 17 [] (skipP s 0 + 1) else ([], skipP s 0, 2) := by
  rw [objP_eq]
  unfold topR opnR
  rw [if_pos rfl]
  cases standsP s (skipP s 0) 123 <;> rfl

/-- A list of fields on its way, while the reader's block changes. -/
structure PSt (w : World) (g : Nat) (W : World) (v : Value) (n : Nat) (xs : List Value) : Prop where
  own : W.ownsRow w.heap.size 37 2 v n xs
  kept : Kept (fun k => k = g) w W

theorem PSt.next {w W W' : World} {g n : Nat} {v : Value} {xs : List Value} (S : PSt w g W v n xs) (hg : g < w.heap.size) (K : Kept (fun k => k = g) W W') : PSt w g W' v n xs :=
  ⟨ownsRow_keep S.own (fun b hb => K.block b (ownsRow_blk S.own hb) (fun e => by have := (S.own.lt b hb).1; omega)), S.kept.and K⟩

theorem PSt.push {w W w3 : World} {g n m : Nat} {v v3 : Value} {xs ys : List Value} {o : Obj} (S : PSt w g W v n xs) (ho : w3.ownsRow w.heap.size 37 2 v3 m ys) (hg : (W.alloc o).grownBy w3 v.ownBlock) : PSt w g w3 v3 m ys :=
  ⟨ho, ((S.kept.and (Kept.alloc _ _ _))).trans (Kept.grown hg (fun k e => (S.own.lt k e).1)) (fun _ h => .inr h)⟩

theorem ownsRow_lower {w : World} {b b' n : Nat} {e : TypeId} {size : Nat} {v : Value} {xs : List Value} (h : w.ownsRow b e size v n xs) (hb : b' ≤ b) : w.ownsRow b' e size v n xs := by
  refine ⟨h.1, ?_⟩
  rcases h.2 with h0 | ⟨g, cap, cur, h1, h2, h3⟩
  · exact .inl h0
  · exact .inr ⟨g, cap, cur, h1, Nat.le_trans hb h2, h3⟩

/-- It has refused: where, and why. -/
def RefAt (w : World) (g : Nat) (s : ByteArray) (p y : Int) : Prop := ∃ k : Nat, k ≤ s.size ∧ RdrAt w g s (k : Int) p y

theorem RefAt.kept {S : Nat → Prop} {w w' : World} {g : Nat} {s : ByteArray} {p y : Int} (R : RefAt w g s p y) (K : Kept S w w') (hS : ¬ S g) : RefAt w' g s p y := by
  obtain ⟨k, hk, R⟩ := R
  exact ⟨k, hk, R.kept K hS⟩

theorem RefAt.cells {w : World} {g : Nat} {s : ByteArray} {p y : Int} (R : RefAt w g s p y) : w.cell? ⟨g, 2, none⟩ = some (.int .i64 p) ∧ w.cell? ⟨g, 3, none⟩ = some (.int .i64 y) := by
  obtain ⟨k, hk, R⟩ := R
  exact R.cells.2.2

set_option maxRecDepth 100000 in
set_option maxHeartbeats 4000000 in
theorem eatRef (w : World) (g : Nat) (s : ByteArray) (p y c : Int) (hs : s.size ≤ 1000000000000) (hb : 0 ≤ p) (R : RefAt w g s p y) :
    Calls Tryz.prog 30 #[.pointer (some ⟨g, 0, none⟩), .int .u8 c] w fun x w' => x = .returned (.tuple #[]) ∧ RefAt w' g s p y ∧ Kept (fun k => k = g) w w' := by
  obtain ⟨k, hk, R⟩ := R
  have hS := rskip_any w g s k p y (by omega) hk R
  have hj := skipP_le s hk
  clear R
  go_enter Tryz.func30, Tryz.ntmps30
  go_wp2_with (first
    | (go_at_call 32; refine hS.mono ?_; rintro e w1 ⟨rfl, R1, K1⟩; clear hS; obtain ⟨c0, c1, c2, c3⟩ := R1.cells; have HR := hid R1; have HK := hid K1; clear R1 K1)
    | fail)
  try simp only [Exit.inBlock, Exit.then]
  refine bodyPost_ret (results_none rfl _ _ _) rfl ?_
  exact ⟨rfl, ⟨_, hj, HR.out⟩, HK.out⟩

set_option maxRecDepth 100000 in
set_option maxHeartbeats 4000000 in
theorem isRef (w : World) (g : Nat) (s : ByteArray) (p y c : Int) (hs : s.size ≤ 1000000000000) (hb : 0 ≤ p) (R : RefAt w g s p y) :
    Calls Tryz.prog 31 #[.pointer (some ⟨g, 0, none⟩), .int .u8 c] w fun x w' => x = .returned (.bool false) ∧ RefAt w' g s p y ∧ Kept (fun k => k = g) w w' := by
  obtain ⟨k, hk, R⟩ := R
  have hS := rskip_any w g s k p y (by omega) hk R
  have hj := skipP_le s hk
  clear R
  have hbd : decide (p < 0) = false := by rw [decide_eq_false_iff_not]; omega
  go_enter Tryz.func31, Tryz.ntmps31
  go_wp2_with (first
    | (go_at_call 32; refine hS.mono ?_; rintro e w1 ⟨rfl, R1, K1⟩; clear hS; obtain ⟨c0, c1, c2, c3⟩ := R1.cells; have HR := hid R1; have HK := hid K1; clear R1 K1)
    | go_quiet (fail)
    | fail)
  go_ret
  exact ⟨rfl, ⟨_, hj, HR.out.kept (Kept.drewN (fun _ => False) _ _) (fun h => h)⟩, HK.out.and (Kept.drewN _ _ _)⟩

theorem skipRef (w : World) (g : Nat) (s : ByteArray) (p y : Int) (hs : s.size ≤ 1000000000000) (R : RefAt w g s p y) :
    Calls Tryz.prog 32 #[.pointer (some ⟨g, 0, none⟩)] w fun x w' => x = .returned (.tuple #[]) ∧ RefAt w' g s p y ∧ Kept (fun k => k = g) w w' := by
  obtain ⟨k, hk, R⟩ := R
  exact (rskip_any w g s k p y (by omega) hk R).mono fun e w' ⟨h1, h2, h3⟩ => ⟨h1, ⟨_, skipP_le s hk, h2⟩, h3⟩

theorem valRef (w : World) (g : Nat) (s : ByteArray) (p y : Int) (hs : s.size ≤ 1000000000000) (hb : 0 ≤ p) (R : RefAt w g s p y) :
    Calls Tryz.prog 35 #[.pointer (some ⟨g, 0, none⟩)] w fun x w' => (∃ z, x = .returned (.string z)) ∧ RefAt w' g s p y ∧ Kept (fun k => k = g) w w' := by
  obtain ⟨k, hk, R⟩ := R
  exact (rvalBad_any w g s k p y hs hk hb R).mono fun e w' ⟨h1, h2, h3⟩ => ⟨⟨_, h1⟩, ⟨_, skipP_le s hk, h2⟩, h3⟩

section
variable (w : World) (g : Nat) (s : ByteArray) (k : Nat)

theorem eatYes (c : UInt8) (hs : s.size ≤ 1000000000000) (hk : k ≤ s.size) (R : RdrAt w g s (k : Int) (-1) 0) (j : Nat) (hj : j = skipP s k) (hst : standsP s j c = true) :
    Calls Tryz.prog 30 #[.pointer (some ⟨g, 0, none⟩), .int .u8 ((c.toNat : Nat) : Int)] w fun x w' => x = .returned (.tuple #[]) ∧ RdrAt w' g s ((j + 1 : Nat) : Int) (-1) 0 ∧ Kept (fun k => k = g) w w' := by
  subst hj
  refine (eat_any w g s k (-1) 0 c (by omega) hk (by decide) R).mono fun e w' h => ?_
  rw [if_pos hst] at h
  exact h

theorem eatNo (c : UInt8) (hs : s.size ≤ 1000000000000) (hk : k ≤ s.size) (R : RdrAt w g s (k : Int) (-1) 0) (j : Nat) (hj : j = skipP s k) (hst : standsP s j c = false) :
    Calls Tryz.prog 30 #[.pointer (some ⟨g, 0, none⟩), .int .u8 ((c.toNat : Nat) : Int)] w fun x w' => x = .returned (.tuple #[]) ∧ RefAt w' g s (j : Int) 2 ∧ Kept (fun k => k = g) w w' := by
  subst hj
  refine (eat_any w g s k (-1) 0 c (by omega) hk (by decide) R).mono fun e w' h => ?_
  rw [if_neg (by rw [hst]; decide)] at h
  exact ⟨h.1, ⟨_, skipP_le s hk, h.2.1⟩, h.2.2⟩

theorem isIt (c : UInt8) (hs : s.size ≤ 1000000000000) (hk : k ≤ s.size) (R : RdrAt w g s (k : Int) (-1) 0) (j : Nat) (hj : j = skipP s k) (b : Bool) (hst : standsP s j c = b) :
    Calls Tryz.prog 31 #[.pointer (some ⟨g, 0, none⟩), .int .u8 ((c.toNat : Nat) : Int)] w fun x w' => x = .returned (.bool b) ∧ RdrAt w' g s (j : Int) (-1) 0 ∧ Kept (fun k => k = g) w w' := by
  subst hj
  have h := is_any w g s k (-1) 0 c (by omega) hk (by decide) R
  rw [hst] at h
  exact h

theorem skipTo (hs : s.size ≤ 1000000000000) (hk : k ≤ s.size) (R : RdrAt w g s (k : Int) (-1) 0) (j : Nat) (hj : j = skipP s k) :
    Calls Tryz.prog 32 #[.pointer (some ⟨g, 0, none⟩)] w fun x w' => x = .returned (.tuple #[]) ∧ RdrAt w' g s (j : Int) (-1) 0 ∧ Kept (fun k => k = g) w w' := by
  subst hj
  exact rskip_any w g s k (-1) 0 (by omega) hk R

theorem noRef (p y : Int) (hk : k ≤ s.size) (R : RdrAt w g s (k : Int) (-1) 0) :
    Calls Tryz.prog 34 #[.pointer (some ⟨g, 0, none⟩), .int .i64 p, .int .i64 y] w fun x w' => x = .returned (.tuple #[]) ∧ RdrAt w' g s (k : Int) p y ∧ RefAt w' g s p y ∧ Kept (fun k => k = g) w w' := by
  refine (no_any w g s k (-1) 0 p y R).mono fun e w' h => ?_
  rw [if_pos (by decide), if_pos (by decide)] at h
  exact ⟨h.1, h.2.1, ⟨_, hk, h.2.1⟩, h.2.2⟩

end

end Go.Proofs.YtfogkbdbncfleaaGreatDoor
