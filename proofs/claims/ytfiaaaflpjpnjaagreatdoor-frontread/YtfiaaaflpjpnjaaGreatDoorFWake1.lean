/-
  A head of two lines, read: what its calls answer is handed in.
-/
import Derived.Test.YtfiaaaflpjpnjaaGreatDoorFBytes
import Derived.Test.YtfiaaaflpjpnjaaGreatDoorFCard
namespace Go.Proofs.YtfiaaaflpjpnjaaGreatDoor
open Go.RowKit

theorem bytesKept (S : Nat → Prop) (w : World) (e : TypeId) (s : ByteArray) : Kept S w (Lib.bytesWorld w e s) :=
  let h := Go.Joins.below_bytesWorld w.heap.size w e s (Nat.le_refl _)
  ⟨h.os, h.tape, h.output, h.size, fun k hk _ => h.block k hk⟩

set_option maxRecDepth 100000 in
set_option maxHeartbeats 1000000 in
theorem length_of (w : World) (s : ByteArray) (n : Int) (hz : s.size = 1)
    (hA : ∀ W, Calls Tryz.prog 32 #[.string s, .func (.func 54) #[] #[]] W fun e w' => e = .returned (.bool true) ∧ w' = W)
    (hT : ∀ W, Calls Tryz.prog 57 #[.string s] W fun e w' => e = .returned (.tuple #[.int .i64 n, .nilIface]) ∧ Kept (fun _ => False) W w') :
    Calls Tryz.prog 39 #[.string s] w fun e w' => e = .returned (.tuple #[.int .i64 n, .bool true]) ∧ Kept (fun _ => False) w w' := by
  have f1 : ¬ (9 : Int) < (s.size : Int) := by omega
  have f2 : ¬ (1 : Int) < (s.size : Int) := by omega
  clear hz
  go_enter Tryz.func39, Tryz.ntmps39
  go_wp2_with (first
    | (go_at_call 32; refine (hA _).mono ?_; rintro e w1 ⟨rfl, hw1⟩; subst w1; clear hA)
    | (go_at_call 57; refine (hT _).mono ?_; rintro e w1 ⟨rfl, K1⟩; clear hT)
    | go_quiet (fail)
    | fail)
  go_ret2
  exact ⟨rfl, K1.and (Kept.drewN _ _ _)⟩

set_option maxRecDepth 100000 in
set_option maxHeartbeats 1000000 in
theorem path_of (w : World) (s r : ByteArray) (hr : (r.toList == ([] : List UInt8)) = false)
    (hC : ∀ W, Calls Tryz.prog 48 #[.string s, .string ⟨#[47]⟩] W fun e w' => e = .returned (.tuple #[.string r, .bool true]) ∧ w' = W)
    (hA : ∀ W, Calls Tryz.prog 32 #[.string r, .func (.func 52) #[] #[]] W fun e w' => e = .returned (.bool true) ∧ w' = W) :
    Calls Tryz.prog 34 #[.string s] w fun e w' => e = .returned (.bool true) ∧ w' = w := by
  go_enter Tryz.func34, Tryz.ntmps34
  go_wp2_with (first
    | (go_at_call 48; refine (hC _).mono ?_; rintro e w1 ⟨rfl, hw1⟩; subst w1; clear hC)
    | (go_at_call 32; refine (hA _).mono ?_; rintro e w1 ⟨rfl, hw1⟩; subst w1; clear hA)
    | fail)
  go_ret
  exact ⟨rfl, rfl⟩

/-- The blocks of a head that is read: the answer's, the head's, the lines', the words'. -/
structure HdSt (w W : World) (x y : ByteArray) (z : Int) (l0 l1 m p v : ByteArray) : Prop where
  b0 : W.heap[w.heap.size]? = some (.cells #[.string ⟨#[]⟩, .string ⟨#[]⟩, .int .i64 0] 35 (0, 0))
  b1 : W.heap[w.heap.size + 1]? = some (.cells #[.string x, .string y, .int .i64 z] 35 (0, 0))
  b2 : W.heap[w.heap.size + 1 + 1]? = some (.cells #[.string l0, .string l1] 9 (0, 0))
  b3 : W.heap[w.heap.size + 1 + 1 + 1]? = some (.cells #[.string m, .string p, .string v] 9 (0, 0))
  kept : Kept (fun _ => False) w W

section
variable {w W W' : World} {x y : ByteArray} {z : Int} {l0 l1 m p v : ByteArray}

theorem HdSt.call (S : HdSt w W x y z l0 l1 m p v) (K : Kept (fun _ => False) W W') : HdSt w W' x y z l0 l1 m p v := by
  have key : ∀ {k : Nat} {o : Obj}, W.heap[k]? = some o → W'.heap[k]? = some o := fun {k o} h => (K.block k (Array.getElem?_eq_some_iff.1 h).1 (fun h => h)).trans h
  exact ⟨key S.b0, key S.b1, key S.b2, key S.b3, S.kept.and K⟩

theorem three_cells {W : World} {b : Nat} {u0 u1 u2 : Value} {t : TypeId} (h : W.heap[b]? = some (.cells #[u0, u1, u2] t (0, 0))) : (W.cell? ⟨b, 0, none⟩ = some u0 ∧ W.cell? ⟨b, 1, none⟩ = some u1 ∧ W.cell? ⟨b, 2, none⟩ = some u2) ∧ W.frozen? ⟨b, 0, none⟩ = false ∧ W.frozen? ⟨b, 1, none⟩ = false ∧ W.frozen? ⟨b, 2, none⟩ = false := by
  refine ⟨⟨?_, ?_, ?_⟩, ?_, ?_, ?_⟩ <;> simp [World.cell?, World.frozen?, h]

theorem two_cells {W : World} {b : Nat} {u0 u1 : Value} {t : TypeId} (h : W.heap[b]? = some (.cells #[u0, u1] t (0, 0))) : W.cell? ⟨b, 0, none⟩ = some u0 ∧ W.cell? ⟨b, 1, none⟩ = some u1 := by
  constructor <;> simp [World.cell?, h]

theorem set_block {W : World} {b o : Nat} {cs : Array Value} {t : TypeId} (h : W.heap[b]? = some (.cells cs t (0, 0))) (u : Value) : (W.setCell ⟨b, o, none⟩ u).heap[b]? = some (.cells (cs.setIfInBounds o u) t (0, 0)) := by
  simp [World.setCell, Array.getElem?_modify, h]

theorem set_else {W : World} {b o k : Nat} (u : Value) (h : k ≠ b) : (W.setCell ⟨b, o, none⟩ u).heap[k]? = W.heap[k]? := Below.heap_setCell _ _ _ _ h

theorem HdSt.put (S : HdSt w W x y z l0 l1 m p v) (m' p' : ByteArray) : HdSt w ((W.setCell ⟨w.heap.size + 1, 0, none⟩ (.string m')).setCell ⟨w.heap.size + 1, 1, none⟩ (.string p')).drew m' p' z l0 l1 m p v := by
  have K : Kept (fun k => k = w.heap.size + 1) W ((W.setCell ⟨w.heap.size + 1, 0, none⟩ (.string m')).setCell ⟨w.heap.size + 1, 1, none⟩ (.string p')).drew := ((Kept.setCell (S := fun k => k = w.heap.size + 1) _ _ _ rfl).and (Kept.setCell _ _ _ rfl)).and (Kept.drew _ _)
  refine ⟨?_, ?_, ?_, ?_, S.kept.trans K (fun i h => .inr (by omega))⟩
  · exact (K.block _ (Array.getElem?_eq_some_iff.1 S.b0).1 (by omega)).trans S.b0
  · exact set_block (set_block S.b1 (.string m')) (.string p')
  · exact (K.block _ (Array.getElem?_eq_some_iff.1 S.b2).1 (by omega)).trans S.b2
  · exact (K.block _ (Array.getElem?_eq_some_iff.1 S.b3).1 (by omega)).trans S.b3

theorem HdSt.len (S : HdSt w W x y z l0 l1 m p v) (n : Int) : HdSt w (W.setCell ⟨w.heap.size + 1, 2, none⟩ (.int .i64 n)) x y n l0 l1 m p v := by
  have K : Kept (fun k => k = w.heap.size + 1) W (W.setCell ⟨w.heap.size + 1, 2, none⟩ (.int .i64 n)) := Kept.setCell _ _ _ rfl
  refine ⟨?_, ?_, ?_, ?_, S.kept.trans K (fun i h => .inr (by omega))⟩
  · exact (K.block _ (Array.getElem?_eq_some_iff.1 S.b0).1 (by omega)).trans S.b0
  · exact set_block S.b1 (.int .i64 n)
  · exact (K.block _ (Array.getElem?_eq_some_iff.1 S.b2).1 (by omega)).trans S.b2
  · exact (K.block _ (Array.getElem?_eq_some_iff.1 S.b3).1 (by omega)).trans S.b3

theorem HdSt.answer (S : HdSt w W x y z l0 l1 m p v) : (((W.setCell ⟨w.heap.size, 0, none⟩ (.string x)).setCell ⟨w.heap.size, 1, none⟩ (.string y)).setCell ⟨w.heap.size, 2, none⟩ (.int .i64 z)).heap[w.heap.size]? = some (.cells #[.string x, .string y, .int .i64 z] 35 (0, 0)) ∧ Kept (fun _ => False) w (((W.setCell ⟨w.heap.size, 0, none⟩ (.string x)).setCell ⟨w.heap.size, 1, none⟩ (.string y)).setCell ⟨w.heap.size, 2, none⟩ (.int .i64 z)) := by
  refine ⟨set_block (set_block (set_block S.b0 (.string x)) (.string y)) (.int .i64 z), ?_⟩
  have K : Kept (fun k => k = w.heap.size) W (((W.setCell ⟨w.heap.size, 0, none⟩ (.string x)).setCell ⟨w.heap.size, 1, none⟩ (.string y)).setCell ⟨w.heap.size, 2, none⟩ (.int .i64 z)) := ((Kept.setCell (S := fun k => k = w.heap.size) _ _ _ rfl).and (Kept.setCell _ _ _ rfl)).and (Kept.setCell _ _ _ rfl)
  exact S.kept.trans K (fun i h => .inr (by omega))

end

set_option maxRecDepth 100000 in
set_option maxHeartbeats 2000000 in
theorem head_of (w : World) (hd l0 l1 m p v nm val nine : ByteArray) (n : Int)
    (hv : (v.toList == [72, 84, 84, 80, 47, 49, 46, 49]) = true) (hval : val.toList.isEmpty = false)
    (hS1 : ∀ W, Kept (fun _ => False) w W → Calls Tryz.prog 31 #[.string hd, .string ⟨#[13, 10]⟩] W fun e w' => e = .returned (.slice (some ⟨W.heap.size, 0, none⟩) 2 2) ∧ w' = W.alloc (.cells #[.string l0, .string l1] 9))
    (hS2 : ∀ W, Kept (fun _ => False) w W → Calls Tryz.prog 31 #[.string l0, .string ⟨#[32]⟩] W fun e w' => e = .returned (.slice (some ⟨W.heap.size, 0, none⟩) 3 3) ∧ w' = W.alloc (.cells #[.string m, .string p, .string v] 9))
    (hA1 : ∀ W, Calls Tryz.prog 32 #[.string m, .func (.func 33) #[] #[]] W fun e w' => e = .returned (.bool true) ∧ w' = W)
    (hP : ∀ W, Calls Tryz.prog 34 #[.string p] W fun e w' => e = .returned (.bool true) ∧ w' = W)
    (hC : ∀ W, Kept (fun _ => False) w W → Calls Tryz.prog 35 #[.string l1, .string ⟨#[58]⟩] W fun e w' => e = .returned (.tuple #[.string nm, .string val, .bool true]) ∧ Kept (fun _ => False) W w')
    (hA2 : ∀ W, Calls Tryz.prog 32 #[.string nm, .func (.func 36) #[] #[]] W fun e w' => e = .returned (.bool true) ∧ w' = W)
    (hA3 : ∀ W, Calls Tryz.prog 32 #[.string val, .func (.func 37) #[] #[]] W fun e w' => e = .returned (.bool true) ∧ w' = W)
    (hE : ∀ W, Calls Tryz.prog 38 #[.string nm, .string ⟨#[99, 111, 110, 116, 101, 110, 116, 45, 108, 101, 110, 103, 116, 104]⟩] W fun e w' => e = .returned (.bool true) ∧ w' = W)
    (hT : ∀ W, Calls Tryz.prog 40 #[.string val, .string ⟨#[32]⟩] W fun e w' => e = .returned (.string nine) ∧ Kept (fun _ => False) W w')
    (hL : ∀ W, Calls Tryz.prog 39 #[.string nine] W fun e w' => e = .returned (.tuple #[.int .i64 n, .bool true]) ∧ Kept (fun _ => False) W w') :
    Calls Tryz.prog 14 #[.string hd] w fun e w' => e = .returned (.tuple #[.agg #[.string m, .string p, .int .i64 n], .bool true]) ∧ Kept (fun _ => False) w w' := by
  have HS4 : Hid (∀ w4, w4 = (((w.alloc (.cells #[.string ⟨#[]⟩, .string ⟨#[]⟩, .int .i64 0] 35)).alloc (.cells #[.string ⟨#[]⟩, .string ⟨#[]⟩, .int .i64 0] 35)).alloc (.cells #[.string l0, .string l1] 9)).alloc (.cells #[.string m, .string p, .string v] 9) → HdSt w w4 ⟨#[]⟩ ⟨#[]⟩ 0 l0 l1 m p v) := by
    rintro w4 rfl
    have e1 : ∀ (W : World) (o : Obj), (W.alloc o).heap[W.heap.size]? = some o := heap_alloc_new
    refine ⟨?_, ?_, ?_, ?_, (((Kept.alloc _ _ _).and (Kept.alloc _ _ _)).and (Kept.alloc _ _ _)).and (Kept.alloc _ _ _)⟩
    · rw [Below.heap_alloc _ _ _ (by simp only [World.size_alloc]; omega), Below.heap_alloc _ _ _ (by simp only [World.size_alloc]; omega), Below.heap_alloc _ _ _ (by simp only [World.size_alloc]; omega)]
      exact e1 _ _
    · rw [Below.heap_alloc _ _ _ (by simp only [World.size_alloc]; omega), Below.heap_alloc _ _ _ (by simp only [World.size_alloc]; omega)]
      have := e1 (w.alloc (.cells #[.string ⟨#[]⟩, .string ⟨#[]⟩, .int .i64 0] 35)) (.cells #[.string ⟨#[]⟩, .string ⟨#[]⟩, .int .i64 0] 35)
      rwa [World.size_alloc] at this
    · rw [Below.heap_alloc _ _ _ (by simp only [World.size_alloc]; omega)]
      have := e1 ((w.alloc (.cells #[.string ⟨#[]⟩, .string ⟨#[]⟩, .int .i64 0] 35)).alloc (.cells #[.string ⟨#[]⟩, .string ⟨#[]⟩, .int .i64 0] 35)) (.cells #[.string l0, .string l1] 9)
      rwa [World.size_alloc, World.size_alloc] at this
    · have := e1 (((w.alloc (.cells #[.string ⟨#[]⟩, .string ⟨#[]⟩, .int .i64 0] 35)).alloc (.cells #[.string ⟨#[]⟩, .string ⟨#[]⟩, .int .i64 0] 35)).alloc (.cells #[.string l0, .string l1] 9)) (.cells #[.string m, .string p, .string v] 9)
      rwa [World.size_alloc, World.size_alloc, World.size_alloc] at this
  have c3 : ∀ (W : World), ((W.alloc (.cells #[.string l0, .string l1] 9))).cell? ⟨W.heap.size, 0, none⟩ = some (.string l0) := fun W => (two_cells (heap_alloc_new W (.cells #[.string l0, .string l1] 9))).1
  have hq : ((2 : Nat) : Int) = 2 := rfl
  have hK2 : Kept (fun _ => False) w ((w.alloc (.cells #[.string ⟨#[]⟩, .string ⟨#[]⟩, .int .i64 0] 35)).alloc (.cells #[.string ⟨#[]⟩, .string ⟨#[]⟩, .int .i64 0] 35)) := (Kept.alloc _ _ _).and (Kept.alloc _ _ _)
  have HK2 := hid hK2
  have HK3 : Hid (Kept (fun _ => False) w (((w.alloc (.cells #[.string ⟨#[]⟩, .string ⟨#[]⟩, .int .i64 0] 35)).alloc (.cells #[.string ⟨#[]⟩, .string ⟨#[]⟩, .int .i64 0] 35)).alloc (.cells #[.string l0, .string l1] 9))) := hK2.and (Kept.alloc _ _ _)
  have c30 := c3 ((w.alloc (.cells #[.string ⟨#[]⟩, .string ⟨#[]⟩, .int .i64 0] 35)).alloc (.cells #[.string ⟨#[]⟩, .string ⟨#[]⟩, .int .i64 0] 35))
  rw [World.size_alloc, World.size_alloc] at c30
  clear hK2 c3
  go_enter Tryz.func14, Tryz.ntmps14
  go_wp2_with (first
    | (go_at_call 31; refine (hS1 _ HK2.out).mono ?_; rintro e w3 ⟨rfl, hw3⟩; subst w3; clear hS1)
    | (go_at_call 31; refine (hS2 _ HK3.out).mono ?_; rintro e w4 ⟨rfl, hw4⟩; clear hS2; have S4 := hid (HS4.out w4 hw4); clear hw4 HS4 c30; obtain ⟨⟨x0, x1, x2⟩, _⟩ := three_cells S4.out.b3; obtain ⟨⟨y0, y1, y2⟩, z0, z1, z2⟩ := three_cells S4.out.b1)
    | (go_at_call 32; refine (hA1 _).mono ?_; rintro e w5 ⟨rfl, hw5⟩; subst w5; clear hA1)
    | (go_at_call 34; refine (hP _).mono ?_; rintro e w5 ⟨rfl, hw5⟩; subst w5; clear hP)
    | fail)
  go_region
  have S6 := hid (S4.out.put m p)
  obtain ⟨⟨y0', y1', y2'⟩, z0', z1', z2'⟩ := three_cells S6.out.b1
  clear S4 x0 x1 x2 y0 y1 y2 z0 z1 z2
  generalize ((w4.setCell ⟨w.heap.size + 1, 0, none⟩ (.string m)).setCell ⟨w.heap.size + 1, 1, none⟩ (.string p)).drew = w6 at *
  go_wp2
  go_loopw [7, 55] (fun sd i wr => ∃ (k : Nat) (z : Int), k ≤ 1 ∧ i = .int .i64 (k : Int) ∧ sd = .bool (k == 1) ∧ (k = 1 → z = n) ∧ HdSt w wr m p z l0 l1 m p v) (fun _ i _ => 1 - (intOf i).toNat)
  case atStart => exact ⟨0, 0, by decide, rfl, rfl, (fun h => by omega), S6.out⟩
  case round =>
    clear S6 y0' y1' y2' z0' z1' z2'
    obtain ⟨k, z, hk, rfl, rfl, hz, S⟩ := hrel
    have HS := hid S
    obtain ⟨⟨y0, y1, y2⟩, z0, z1, z2⟩ := three_cells S.b1
    obtain ⟨t0, t1⟩ := two_cells S.b2
    have hC' := hC _ S.kept
    clear hC
    rcases Nat.lt_or_ge k 1 with h0 | h0
    · obtain rfl : k = 0 := by omega
      clear S hz
      go_wp2_with (first
        | (go_at_call 35; refine hC'.mono ?_; rintro e w7 ⟨rfl, K7⟩; clear hC'; have S7 := hid (HS.out.call K7); clear HS K7)
        | (go_at_call_of 32 (Value.string nm); refine (hA2 _).mono ?_; rintro e w8 ⟨rfl, hw8⟩; subst w8; clear hA2)
        | (go_at_call 32; refine (hA3 _).mono ?_; rintro e w8 ⟨rfl, hw8⟩; subst w8; clear hA3)
        | (go_at_call 38; refine (hE _).mono ?_; rintro e w8 ⟨rfl, hw8⟩; subst w8; clear hE)
        | (go_at_call 40; refine (hT _).mono ?_; rintro e w8 ⟨rfl, K8⟩; clear hT; have S8 := hid (S7.out.call K8); clear S7 K8)
        | (go_at_call 39; refine (hL _).mono ?_; rintro e w9 ⟨rfl, K9⟩; clear hL; have S9 := hid (S8.out.call K9); clear S8 K9 y0 y1 y2 z0 z1 z2; obtain ⟨⟨y0, y1, y2⟩, z0, z1, z2⟩ := three_cells S9.out.b1)
        | fail)
      go_roundw
      case rel => exact ⟨1, n, Nat.le_refl _, by go_num, rfl, fun _ => rfl, S9.out.len n⟩
      case measure => simp [intOf]
    · obtain rfl : k = 1 := by omega
      obtain rfl := hz rfl
      have hans := S.answer
      obtain ⟨hb, KK⟩ := hans
      obtain ⟨⟨a0, a1, a2⟩, _⟩ := three_cells hb
      obtain ⟨⟨o0, o1, o2⟩, q0, q1, q2⟩ := three_cells S.b0
      clear S hb
      have HKK := hid KK
      clear KK
      go_wp2
      refine bodyPost_ret (v := .tuple #[.agg #[.string m, .string p, .int .i64 z], .bool true]) (by simp [results, Tryz.results14, go_sem, a0, a1, a2]) rfl ?_
      exact ⟨rfl, HKK.out⟩

end Go.Proofs.YtfiaaaflpjpnjaaGreatDoor
