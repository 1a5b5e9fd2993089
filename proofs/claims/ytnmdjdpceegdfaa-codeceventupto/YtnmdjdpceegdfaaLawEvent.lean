/-
  The walk of CodecEvent.
-/
import Derived.Test.YtnmdjdpceegdfaaCEventX
import Derived.Test.YtnmdjdpceegdfaaCXRdEvent
import Derived.Test.YtnmdjdpceegdfaaCSpoil
import Derived.Test.YtnmdjdpceegdfaaCWakes
namespace Go.Proofs.Ytnmdjdpceegdfaa
open Go.ChangeShapes Go.WideShapes Go.ChangeAt Go.RowKit

theorem Ans.kept {S : Nat → Prop} {w w' : World} {base : Nat} {st : Option (List Int)} {a : Option Addr} {l c : Nat} {e : Int} (h : Ans w base st a l c e) (K : Kept S w w') (hS : ∀ k, S k → k < base ∨ w.heap.size ≤ k) : Ans w' base st a l c e :=
  ⟨ownsRow_block' h.row (fun k hk => K.block k (h.row.lt k hk).2 (fun hs => by have := hS k hs; have := h.row.lt k hk; omega)), h.len, h.err, h.bs⟩

theorem Ans.kept2 {S : Nat → Prop} {w w' : World} {base : Nat} {st : Option (List Int)} {a : Option Addr} {l c : Nat} {e : Int} (h : Ans w base st a l c e) (K : Kept S w w') (hS : ∀ k, S k → (Value.slice a l c).ownBlock ≠ some k) : Ans w' base st a l c e :=
  ⟨ownsRow_block' h.row (fun k hk => K.block k (h.row.lt k hk).2 (fun hs => hS k hs hk)), h.len, h.err, h.bs⟩

theorem blk {S : Nat → Prop} {w w' : World} {b : Nat} {o : Obj} (h : w.heap[b]? = some o) (K : Kept S w w') (hS : ¬ S b) : w'.heap[b]? = some o := (K.block b (Array.getElem?_eq_some_iff.1 h).1 hS).trans h

/-- What is lent reads as what it is a copy of. -/
theorem lent_bytes {w : World} {base g m cap : Nat} {raw : List Int} (ho : w.ownsRow base 5 1 (.slice (some ⟨g, 0, none⟩) (m + 4) cap) (m + 4) (lentOf raw)) (hl : raw.length = m) (hb : Bs raw) : BytesAt w (some ⟨g, 0, none⟩) m cap raw := by
  have hcap := lend_cap ho
  refine ⟨hl, by omega, fun h => (by cases h), ?_, hb⟩
  intro ad e j u hu
  cases e
  refine ho.cells rfl j u ?_
  unfold lentOf
  rw [List.getElem?_append_left]
  · exact hu
  · exact (List.getElem?_eq_some_iff.1 hu).1

theorem rowKept {w w' : World} {base n size : Nat} {e : TypeId} {v : Value} {xs : List Value} (h : w.ownsRow base e size v n xs) (K : Kept (fun _ => False) w w') : w'.ownsRow base e size v n xs :=
  ownsRow_block' h (fun k hk => K.block k (h.lt k hk).2 (fun h => h))

theorem lent_block {w : World} {base g m cap : Nat} {xs : List Value} (ho : w.ownsRow base 5 1 (.slice (some ⟨g, 0, none⟩) m cap) m xs) : base ≤ g ∧ g < w.heap.size := ho.lt g rfl

set_option maxRecDepth 100000 in
set_option maxHeartbeats 4000000 in
theorem event_walk (x0 : Int) (x1 : ByteArray) (x2 : ByteArray) (x3 : Int) (a : Option Addr) (len cap : Nat) (zs : List Int) (w : World) (_ : isI64 x0) (h1 : x1.size ≤ 1048576) (h2 : x2.size ≤ 1048576) (h3 : isI64 x3) (hr : IsRow .u8 w a len cap zs) :
    Calls Try.prog 3 #[.agg #[.int .i64 x0, .string x1, .string x2, .int .i64 x3], .slice a len cap] w fun e w' => e = .returned (.bool true) ∧ Below w.heap.size w w' := by
  have B := (hr.bytes).take (h := min len 3000) (by omega)
  have hcap := hr.bytes.cap
  have hm : min len 3000 ≤ 3000 := Nat.min_le_right _ _
  generalize (zs.take len).take (min len 3000) = raw at *
  have hclip := clip_any (w.alloc (.cells #[.int .i64 x0, .string x1, .string x2, .int .i64 x3] 23)) a len cap hcap
  generalize min len 3000 = m at *
  clear hr
  have hX : ∀ w', Kept (fun _ => False) (w.alloc (.cells #[.int .i64 x0, .string x1, .string x2, .int .i64 x3] 23)) w' → w'.cell? ⟨w.heap.size, 0, none⟩ = some (.int .i64 x0) ∧ w'.cell? ⟨w.heap.size, 1, none⟩ = some (.string x1) ∧ w'.cell? ⟨w.heap.size, 2, none⟩ = some (.string x2) ∧ w'.cell? ⟨w.heap.size, 3, none⟩ = some (.int .i64 x3) := fun w' K => ⟨box_cells K (fun h => h) 0 _ rfl, box_cells K (fun h => h) 1 _ rfl, box_cells K (fun h => h) 2 _ rfl, box_cells K (fun h => h) 3 _ rfl⟩
  have HB : Hid (∀ w', Kept (fun _ => False) (w.alloc (.cells #[.int .i64 x0, .string x1, .string x2, .int .i64 x3] 23)) w' → BytesAt w' a m cap raw) := fun w' K => (B.kept (Kept.alloc (fun _ => False) w _) (fun _ _ _ h => h)).kept K (fun _ _ _ h => h)
  have hBs : Bs raw := B.byte
  have hlB := B.len
  have hL : ∀ W, _ := fun W => event_any W x0 x1 x2 x3 (Nat.le_trans h1 (by decide)) (Nat.le_trans h2 (by decide)) h3
  have hF : ∀ W, _ := fun W => refEvent_any W x0 x1 x2 x3 h1 h2
  have hsz : (w.alloc (.cells #[.int .i64 x0, .string x1, .string x2, .int .i64 x3] 23)).heap.size = w.heap.size + 1 := by simp
  have KW : Kept (fun _ => False) w (w.alloc (.cells #[.int .i64 x0, .string x1, .string x2, .int .i64 x3] 23)) := Kept.alloc _ _ _
  have fin : ∀ w', Kept (fun _ => False) (w.alloc (.cells #[.int .i64 x0, .string x1, .string x2, .int .i64 x3] 23)) w' → Below w.heap.size w w' := fun w' K => (KW.and K).none
  have HF : Hid _ := fin
  clear B fin KW

  cases hst : wrEvent x0 x1 x2 x3 with
  | none =>
    rw [hst] at hL hF
    cases hres : rdWhole rdEvent raw with
    | error pl =>
      go_enter Try.func3, Try.ntmps3
      go_wp2_with (first
        | (go_at_call 8; refine hclip.mono ?_; rintro e wc ⟨rfl, hwc⟩; subst wc; obtain ⟨c0, c1, c2, c3⟩ := hX _ (Kept.refl _ _))
        | (go_at_call 9; have _t := hL; refine (hL _).mono ?_; rintro e w1 ⟨a1, l1, c1, er1, rfl, A1, K1⟩; obtain rfl : er1 = 2 := A1.err; obtain rfl : 0 = l1 := A1.len; obtain ⟨d0, d1, d2, d3⟩ := hX _ K1; clear hL _t)
        | (go_at_call 10; refine (hF w1).mono ?_; rintro e w2 ⟨a2, l2, c2, er2, rfl, A2, K2⟩; obtain rfl : er2 = 2 := A2.err; obtain rfl : 0 = l2 := A2.len; have s1 := (A1.kept K2 (fun _ h => h.elim)).bytes.str; have s2 := A2.bytes.str; have KK6 := K1.and K2; have hw6 := KK6.size; simp only [Option.getD_none] at s1 s2; clear hF A1 A2 K1 K2 hX)
        | (go_at_call 13; refine (lend_any _ a m cap raw (HB.out _ KK6) (by omega)).mono ?_; rintro e w7 ⟨gl, cl, rfl, ho7, K7⟩; have KK7 := KK6.and K7; have BL := lent_bytes ho7 hlB hBs; have hg7 := lent_block ho7; have HO7 : Hid _ := ho7; have hR8 := readEvent_any w7 _ m cl raw BL (by omega); rw [hres] at hR8; simp only [evOut] at hR8; clear ho7 K7 BL KK6)
        | (go_at_call 11; have _t := hR8; refine hR8.mono ?_; rintro e w8 ⟨rfl, K8⟩; have KK8 := (KK7.and K8).and (Kept.alloc (fun _ => False) w8 (.cells #[.int .i64 0, .string ⟨#[]⟩, .string ⟨#[]⟩, .int .i64 0] 23)); have hR9 := xreadEvent_any (w8.alloc (.cells #[.int .i64 0, .string ⟨#[]⟩, .string ⟨#[]⟩, .int .i64 0] 23)) a m cap raw (HB.out _ KK8) (by omega); rw [hres] at hR9; simp only [evOut] at hR9; have h8 := K8.size; have HK8 : Hid (Kept (fun _ => False) w7 (w8.alloc (.cells #[.int .i64 0, .string ⟨#[]⟩, .string ⟨#[]⟩, .int .i64 0] 23))) := K8.and (Kept.alloc _ _ _); have HN8 : Hid ((w8.alloc (.cells #[.int .i64 0, .string ⟨#[]⟩, .string ⟨#[]⟩, .int .i64 0] 23)).heap[w8.heap.size]? = some (.cells #[.int .i64 0, .string ⟨#[]⟩, .string ⟨#[]⟩, .int .i64 0] 23 (0, 0))) := heap_alloc_new w8 _; clear _t hR8 K8 KK7)
        | (go_at_call 14; refine hR9.mono ?_; rintro e w9 ⟨rfl, K9⟩; have h9 := K9.size; have HK9 : Hid (Kept (fun _ => False) w7 (w9.alloc (.cells #[.int .i64 0, .string ⟨#[]⟩, .string ⟨#[]⟩, .int .i64 0] 23))) := (HK8.out.and K9).and (Kept.alloc _ _ _); have KK9 := (KK8.and K9).and (Kept.alloc (fun _ => False) w9 (.cells #[.int .i64 0, .string ⟨#[]⟩, .string ⟨#[]⟩, .int .i64 0] 23)); have hI := intact_any (w9.alloc (.cells #[.int .i64 0, .string ⟨#[]⟩, .string ⟨#[]⟩, .int .i64 0] 23)) w2.heap.size gl m cl a cap raw (HB.out _ KK9) (rowKept HO7.out HK9.out) (by omega); have HY : Hid (∀ w', Kept (fun k => k = gl) (w9.alloc (.cells #[.int .i64 0, .string ⟨#[]⟩, .string ⟨#[]⟩, .int .i64 0] 23)) w' → w'.cell? ⟨w8.heap.size, 0, none⟩ = some (.int .i64 0) ∧ w'.cell? ⟨w8.heap.size, 1, none⟩ = some (.string ⟨#[]⟩) ∧ w'.cell? ⟨w8.heap.size, 2, none⟩ = some (.string ⟨#[]⟩) ∧ w'.cell? ⟨w8.heap.size, 3, none⟩ = some (.int .i64 0)) := (fun w' K => by have hb := blk (blk (blk HN8.out K9 (fun h => h)) (Kept.alloc (fun _ => False) w9 _) (fun h => h)) K (by simp at h8 h9; show ¬ w8.heap.size = gl; omega); exact ⟨cellOf hb (o := 0) rfl, cellOf hb (o := 1) rfl, cellOf hb (o := 2) rfl, cellOf hb (o := 3) rfl⟩); have HZ : Hid (∀ w', Kept (fun k => k = gl) (w9.alloc (.cells #[.int .i64 0, .string ⟨#[]⟩, .string ⟨#[]⟩, .int .i64 0] 23)) w' → w'.cell? ⟨w9.heap.size, 0, none⟩ = some (.int .i64 0) ∧ w'.cell? ⟨w9.heap.size, 1, none⟩ = some (.string ⟨#[]⟩) ∧ w'.cell? ⟨w9.heap.size, 2, none⟩ = some (.string ⟨#[]⟩) ∧ w'.cell? ⟨w9.heap.size, 3, none⟩ = some (.int .i64 0)) := (fun w' K => by have hb := blk (heap_alloc_new w9 (.cells #[.int .i64 0, .string ⟨#[]⟩, .string ⟨#[]⟩, .int .i64 0] 23)) K (by simp at h8 h9; show ¬ w9.heap.size = gl; omega); exact ⟨cellOf hb (o := 0) rfl, cellOf hb (o := 1) rfl, cellOf hb (o := 2) rfl, cellOf hb (o := 3) rfl⟩); clear hR9 K9 KK8)
        | (go_at_call 15; refine hI.mono ?_; rintro e w10 ⟨rfl, K10⟩; have hy10 := HY.out w10 K10; have hz10 := HZ.out w10 K10; have KK10 := KK9.trans K10 (fun k h => .inr (Nat.le_trans hw6 (by have h7 := hg7.1; have h8 : k = gl := h; omega))); clear hI K10 KK9)
        | (go_at_call 16; refine (wakes_any _).mono ?_; rintro e w12 ⟨rfl, K12⟩; have KKe := KK10.and K12)
        | fail)
      go_ret
      exact ⟨rfl, HF.out _ KKe⟩
    | ok y =>
      obtain ⟨y0, y1, y2, y3⟩ := y
      have hagain := eventForm.again hBs hres
      have hL4 : ∀ W, _ := fun W => event_any W y0 y1 y2 y3 (event_parts hagain).1 (event_parts hagain).2.1 (event_parts hagain).2.2
      simp only [] at hagain
      rw [hagain] at hL4
      clear hagain
      go_enter Try.func3, Try.ntmps3
      go_wp2_with (first
        | (go_at_call 8; refine hclip.mono ?_; rintro e wc ⟨rfl, hwc⟩; subst wc; obtain ⟨c0, c1, c2, c3⟩ := hX _ (Kept.refl _ _))
        | (go_at_call 9; have _t := hL; refine (hL _).mono ?_; rintro e w1 ⟨a1, l1, c1, er1, rfl, A1, K1⟩; obtain rfl : er1 = 2 := A1.err; obtain rfl : 0 = l1 := A1.len; obtain ⟨d0, d1, d2, d3⟩ := hX _ K1; clear hL _t)
        | (go_at_call 10; refine (hF w1).mono ?_; rintro e w2 ⟨a2, l2, c2, er2, rfl, A2, K2⟩; obtain rfl : er2 = 2 := A2.err; obtain rfl : 0 = l2 := A2.len; have s1 := (A1.kept K2 (fun _ h => h.elim)).bytes.str; have s2 := A2.bytes.str; have KK6 := K1.and K2; have hw6 := KK6.size; simp only [Option.getD_none] at s1 s2; clear hF A1 A2 K1 K2 hX)
        | (go_at_call 13; refine (lend_any _ a m cap raw (HB.out _ KK6) (by omega)).mono ?_; rintro e w7 ⟨gl, cl, rfl, ho7, K7⟩; have KK7 := KK6.and K7; have BL := lent_bytes ho7 hlB hBs; have hg7 := lent_block ho7; have HO7 : Hid _ := ho7; have hR8 := readEvent_any w7 _ m cl raw BL (by omega); rw [hres] at hR8; simp only [evOut] at hR8; clear ho7 K7 BL KK6)
        | (go_at_call 11; have _t := hR8; refine hR8.mono ?_; rintro e w8 ⟨rfl, K8⟩; have KK8 := (KK7.and K8).and (Kept.alloc (fun _ => False) w8 (.cells #[.int .i64 y0, .string y1, .string y2, .int .i64 y3] 23)); have hR9 := xreadEvent_any (w8.alloc (.cells #[.int .i64 y0, .string y1, .string y2, .int .i64 y3] 23)) a m cap raw (HB.out _ KK8) (by omega); rw [hres] at hR9; simp only [evOut] at hR9; have h8 := K8.size; have HK8 : Hid (Kept (fun _ => False) w7 (w8.alloc (.cells #[.int .i64 y0, .string y1, .string y2, .int .i64 y3] 23))) := K8.and (Kept.alloc _ _ _); have HN8 : Hid ((w8.alloc (.cells #[.int .i64 y0, .string y1, .string y2, .int .i64 y3] 23)).heap[w8.heap.size]? = some (.cells #[.int .i64 y0, .string y1, .string y2, .int .i64 y3] 23 (0, 0))) := heap_alloc_new w8 _; clear _t hR8 K8 KK7)
        | (go_at_call 14; refine hR9.mono ?_; rintro e w9 ⟨rfl, K9⟩; have h9 := K9.size; have HK9 : Hid (Kept (fun _ => False) w7 (w9.alloc (.cells #[.int .i64 y0, .string y1, .string y2, .int .i64 y3] 23))) := (HK8.out.and K9).and (Kept.alloc _ _ _); have KK9 := (KK8.and K9).and (Kept.alloc (fun _ => False) w9 (.cells #[.int .i64 y0, .string y1, .string y2, .int .i64 y3] 23)); have hI := intact_any (w9.alloc (.cells #[.int .i64 y0, .string y1, .string y2, .int .i64 y3] 23)) w2.heap.size gl m cl a cap raw (HB.out _ KK9) (rowKept HO7.out HK9.out) (by omega); have HY : Hid (∀ w', Kept (fun k => k = gl) (w9.alloc (.cells #[.int .i64 y0, .string y1, .string y2, .int .i64 y3] 23)) w' → w'.cell? ⟨w8.heap.size, 0, none⟩ = some (.int .i64 y0) ∧ w'.cell? ⟨w8.heap.size, 1, none⟩ = some (.string y1) ∧ w'.cell? ⟨w8.heap.size, 2, none⟩ = some (.string y2) ∧ w'.cell? ⟨w8.heap.size, 3, none⟩ = some (.int .i64 y3)) := (fun w' K => by have hb := blk (blk (blk HN8.out K9 (fun h => h)) (Kept.alloc (fun _ => False) w9 _) (fun h => h)) K (by simp at h8 h9; show ¬ w8.heap.size = gl; omega); exact ⟨cellOf hb (o := 0) rfl, cellOf hb (o := 1) rfl, cellOf hb (o := 2) rfl, cellOf hb (o := 3) rfl⟩); have HZ : Hid (∀ w', Kept (fun k => k = gl) (w9.alloc (.cells #[.int .i64 y0, .string y1, .string y2, .int .i64 y3] 23)) w' → w'.cell? ⟨w9.heap.size, 0, none⟩ = some (.int .i64 y0) ∧ w'.cell? ⟨w9.heap.size, 1, none⟩ = some (.string y1) ∧ w'.cell? ⟨w9.heap.size, 2, none⟩ = some (.string y2) ∧ w'.cell? ⟨w9.heap.size, 3, none⟩ = some (.int .i64 y3)) := (fun w' K => by have hb := blk (heap_alloc_new w9 (.cells #[.int .i64 y0, .string y1, .string y2, .int .i64 y3] 23)) K (by simp at h8 h9; show ¬ w9.heap.size = gl; omega); exact ⟨cellOf hb (o := 0) rfl, cellOf hb (o := 1) rfl, cellOf hb (o := 2) rfl, cellOf hb (o := 3) rfl⟩); clear hR9 K9 KK8)
        | (go_at_call 15; refine hI.mono ?_; rintro e w10 ⟨rfl, K10⟩; have hy10 := HY.out w10 K10; have hz10 := HZ.out w10 K10; have KK10 := KK9.trans K10 (fun k h => .inr (Nat.le_trans hw6 (by have h7 := hg7.1; have h8 : k = gl := h; omega))); clear hI K10 KK9)
        | (go_at_call 9; have _t := hL4; refine (hL4 w10).mono ?_; rintro e w11 ⟨a4, l4, c4, er4, rfl, A4, K11⟩; obtain rfl : er4 = 0 := A4.err; obtain rfl : raw.length = l4 := A4.len; have KK11 := KK10.and K11; have t1 := A4.bytes.str; have t2 := (HB.out w11 KK11).str; simp only [Option.getD_some] at t1; rw [hlB] at t1; clear hL4 _t A4 K11 KK10)
        | (go_at_call 16; refine (wakes_any _).mono ?_; rintro e w12 ⟨rfl, K12⟩; have KKe := KK11.and K12)
        | fail)
      go_ret
      exact ⟨rfl, HF.out _ KKe⟩
  | some enc =>
    have hback := eventForm.whole (v := (x0, x1, x2, x3)) hst
    have hel : enc.length ≤ 2097300 := event_len hst
    rw [hst] at hL hF
    cases hres : rdWhole rdEvent raw with
    | error pl =>
      have tok1 : Hid True := trivial
      have tok2 : Hid True := trivial
      go_enter Try.func3, Try.ntmps3
      go_wp2_with (first
        | (go_at_call 8; refine hclip.mono ?_; rintro e wc ⟨rfl, hwc⟩; subst wc; obtain ⟨c0, c1, c2, c3⟩ := hX _ (Kept.refl _ _))
        | (go_at_call 9; have _t := tok1; refine (hL _).mono ?_; rintro e w1 ⟨a1, l1, c1, er1, rfl, A1, K1⟩; obtain rfl : er1 = 0 := A1.err; obtain rfl : enc.length = l1 := A1.len; obtain ⟨d0, d1, d2, d3⟩ := hX _ K1; clear tok1 _t)
        | (go_at_call 10; refine (hF w1).mono ?_; rintro e w2 ⟨a2, l2, c2, er2, rfl, A2, K2⟩; obtain rfl : er2 = 0 := A2.err; obtain rfl : enc.length = l2 := A2.len; have A1' := A1.kept K2 (fun _ h => h.elim); have s1 := A1'.bytes.str; have s2 := A2.bytes.str; have KK2 := K1.and K2; have hR3 := readEvent_any w2 _ _ _ _ A1'.bytes (by omega); simp only [Option.getD_some] at s1 s2 hR3; rw [hback] at hR3; simp only [evOut] at hR3; have HA1 : Hid _ := A1; have HA1' : Hid _ := A1'; have HA2 : Hid _ := A2; clear hF A1 A1' A2 K1 K2)
        | (go_at_call 11; have _t := hR3; refine hR3.mono ?_; rintro e w3 ⟨rfl, K3⟩; have HK3 : Hid (Kept (fun _ => False) w2 (w3.alloc (.cells #[.int .i64 x0, .string x1, .string x2, .int .i64 x3] 23))) := K3.and (Kept.alloc _ _ _); have KK4 := (KK2.and K3).and (Kept.alloc (fun _ => False) w3 (.cells #[.int .i64 x0, .string x1, .string x2, .int .i64 x3] 23)); obtain ⟨f0, f1, f2, f3⟩ := hX _ KK4; have A14 := HA1'.out.kept HK3.out (fun _ h => h.elim); have A24 := HA2.out.kept HK3.out (fun _ h => h.elim); have hS5 := spoil_any (w3.alloc (.cells #[.int .i64 x0, .string x1, .string x2, .int .i64 x3] 23)) _ _ _ _ A14.row (by omega) KK4.size; have HA24 : Hid _ := A24; have HA14 : Hid _ := A14; clear hR3 _t K3 KK2 A14 A24 s1 s2)
        | (go_at_call 12; refine hS5.mono ?_; rintro e w5 ⟨rfl, K5⟩; have KK5 := KK4.trans K5 (fun k h => .inr (HA14.out.row.lt k h).1); have A25 := HA24.out.kept2 K5 (fun k h1 h2 => by have q1 := (HA1.out.row.lt k h1).2; have q2 := (HA24.out.row.lt k h2).1; omega); obtain ⟨k0, k1, k2, k3⟩ := hX _ KK5; have HA25 : Hid _ := A25; clear hS5 K5 KK4 A25)
        | (go_at_call 9; have _t := tok2; refine (hL _).mono ?_; rintro e w6 ⟨a6, l6, c6, er6, rfl, A6, K6⟩; obtain rfl : er6 = 0 := A6.err; obtain rfl : enc.length = l6 := A6.len; have s1 := A6.bytes.str; have s2 := (HA25.out.kept K6 (fun _ h => h.elim)).bytes.str; have KK6 := KK5.and K6; have hw6 := KK6.size; simp only [Option.getD_some] at s1 s2; clear hL tok2 _t A6 K6 KK5 hX)
        | (go_at_call 13; refine (lend_any _ a m cap raw (HB.out _ KK6) (by omega)).mono ?_; rintro e w7 ⟨gl, cl, rfl, ho7, K7⟩; have KK7 := KK6.and K7; have BL := lent_bytes ho7 hlB hBs; have hg7 := lent_block ho7; have HO7 : Hid _ := ho7; have hR8 := readEvent_any w7 _ m cl raw BL (by omega); rw [hres] at hR8; simp only [evOut] at hR8; clear ho7 K7 BL KK6)
        | (go_at_call 11; have _t := hR8; refine hR8.mono ?_; rintro e w8 ⟨rfl, K8⟩; have KK8 := (KK7.and K8).and (Kept.alloc (fun _ => False) w8 (.cells #[.int .i64 0, .string ⟨#[]⟩, .string ⟨#[]⟩, .int .i64 0] 23)); have hR9 := xreadEvent_any (w8.alloc (.cells #[.int .i64 0, .string ⟨#[]⟩, .string ⟨#[]⟩, .int .i64 0] 23)) a m cap raw (HB.out _ KK8) (by omega); rw [hres] at hR9; simp only [evOut] at hR9; have h8 := K8.size; have HK8 : Hid (Kept (fun _ => False) w7 (w8.alloc (.cells #[.int .i64 0, .string ⟨#[]⟩, .string ⟨#[]⟩, .int .i64 0] 23))) := K8.and (Kept.alloc _ _ _); have HN8 : Hid ((w8.alloc (.cells #[.int .i64 0, .string ⟨#[]⟩, .string ⟨#[]⟩, .int .i64 0] 23)).heap[w8.heap.size]? = some (.cells #[.int .i64 0, .string ⟨#[]⟩, .string ⟨#[]⟩, .int .i64 0] 23 (0, 0))) := heap_alloc_new w8 _; clear _t hR8 K8 KK7)
        | (go_at_call 14; refine hR9.mono ?_; rintro e w9 ⟨rfl, K9⟩; have h9 := K9.size; have HK9 : Hid (Kept (fun _ => False) w7 (w9.alloc (.cells #[.int .i64 0, .string ⟨#[]⟩, .string ⟨#[]⟩, .int .i64 0] 23))) := (HK8.out.and K9).and (Kept.alloc _ _ _); have KK9 := (KK8.and K9).and (Kept.alloc (fun _ => False) w9 (.cells #[.int .i64 0, .string ⟨#[]⟩, .string ⟨#[]⟩, .int .i64 0] 23)); have hI := intact_any (w9.alloc (.cells #[.int .i64 0, .string ⟨#[]⟩, .string ⟨#[]⟩, .int .i64 0] 23)) w6.heap.size gl m cl a cap raw (HB.out _ KK9) (rowKept HO7.out HK9.out) (by omega); have HY : Hid (∀ w', Kept (fun k => k = gl) (w9.alloc (.cells #[.int .i64 0, .string ⟨#[]⟩, .string ⟨#[]⟩, .int .i64 0] 23)) w' → w'.cell? ⟨w8.heap.size, 0, none⟩ = some (.int .i64 0) ∧ w'.cell? ⟨w8.heap.size, 1, none⟩ = some (.string ⟨#[]⟩) ∧ w'.cell? ⟨w8.heap.size, 2, none⟩ = some (.string ⟨#[]⟩) ∧ w'.cell? ⟨w8.heap.size, 3, none⟩ = some (.int .i64 0)) := (fun w' K => by have hb := blk (blk (blk HN8.out K9 (fun h => h)) (Kept.alloc (fun _ => False) w9 _) (fun h => h)) K (by simp at h8 h9; show ¬ w8.heap.size = gl; omega); exact ⟨cellOf hb (o := 0) rfl, cellOf hb (o := 1) rfl, cellOf hb (o := 2) rfl, cellOf hb (o := 3) rfl⟩); have HZ : Hid (∀ w', Kept (fun k => k = gl) (w9.alloc (.cells #[.int .i64 0, .string ⟨#[]⟩, .string ⟨#[]⟩, .int .i64 0] 23)) w' → w'.cell? ⟨w9.heap.size, 0, none⟩ = some (.int .i64 0) ∧ w'.cell? ⟨w9.heap.size, 1, none⟩ = some (.string ⟨#[]⟩) ∧ w'.cell? ⟨w9.heap.size, 2, none⟩ = some (.string ⟨#[]⟩) ∧ w'.cell? ⟨w9.heap.size, 3, none⟩ = some (.int .i64 0)) := (fun w' K => by have hb := blk (heap_alloc_new w9 (.cells #[.int .i64 0, .string ⟨#[]⟩, .string ⟨#[]⟩, .int .i64 0] 23)) K (by simp at h8 h9; show ¬ w9.heap.size = gl; omega); exact ⟨cellOf hb (o := 0) rfl, cellOf hb (o := 1) rfl, cellOf hb (o := 2) rfl, cellOf hb (o := 3) rfl⟩); clear hR9 K9 KK8)
        | (go_at_call 15; refine hI.mono ?_; rintro e w10 ⟨rfl, K10⟩; have hy10 := HY.out w10 K10; have hz10 := HZ.out w10 K10; have KK10 := KK9.trans K10 (fun k h => .inr (Nat.le_trans hw6 (by have h7 := hg7.1; have h8 : k = gl := h; omega))); clear hI K10 KK9)
        | (go_at_call 16; refine (wakes_any _).mono ?_; rintro e w12 ⟨rfl, K12⟩; have KKe := KK10.and K12)
        | fail)
      go_ret
      exact ⟨rfl, HF.out _ KKe⟩
    | ok y =>
      obtain ⟨y0, y1, y2, y3⟩ := y
      have hagain := eventForm.again hBs hres
      have hL4 : ∀ W, _ := fun W => event_any W y0 y1 y2 y3 (event_parts hagain).1 (event_parts hagain).2.1 (event_parts hagain).2.2
      simp only [] at hagain
      rw [hagain] at hL4
      clear hagain
      have tok1 : Hid True := trivial
      have tok2 : Hid True := trivial
      go_enter Try.func3, Try.ntmps3
      go_wp2_with (first
        | (go_at_call 8; refine hclip.mono ?_; rintro e wc ⟨rfl, hwc⟩; subst wc; obtain ⟨c0, c1, c2, c3⟩ := hX _ (Kept.refl _ _))
        | (go_at_call 9; have _t := tok1; refine (hL _).mono ?_; rintro e w1 ⟨a1, l1, c1, er1, rfl, A1, K1⟩; obtain rfl : er1 = 0 := A1.err; obtain rfl : enc.length = l1 := A1.len; obtain ⟨d0, d1, d2, d3⟩ := hX _ K1; clear tok1 _t)
        | (go_at_call 10; refine (hF w1).mono ?_; rintro e w2 ⟨a2, l2, c2, er2, rfl, A2, K2⟩; obtain rfl : er2 = 0 := A2.err; obtain rfl : enc.length = l2 := A2.len; have A1' := A1.kept K2 (fun _ h => h.elim); have s1 := A1'.bytes.str; have s2 := A2.bytes.str; have KK2 := K1.and K2; have hR3 := readEvent_any w2 _ _ _ _ A1'.bytes (by omega); simp only [Option.getD_some] at s1 s2 hR3; rw [hback] at hR3; simp only [evOut] at hR3; have HA1 : Hid _ := A1; have HA1' : Hid _ := A1'; have HA2 : Hid _ := A2; clear hF A1 A1' A2 K1 K2)
        | (go_at_call 11; have _t := hR3; refine hR3.mono ?_; rintro e w3 ⟨rfl, K3⟩; have HK3 : Hid (Kept (fun _ => False) w2 (w3.alloc (.cells #[.int .i64 x0, .string x1, .string x2, .int .i64 x3] 23))) := K3.and (Kept.alloc _ _ _); have KK4 := (KK2.and K3).and (Kept.alloc (fun _ => False) w3 (.cells #[.int .i64 x0, .string x1, .string x2, .int .i64 x3] 23)); obtain ⟨f0, f1, f2, f3⟩ := hX _ KK4; have A14 := HA1'.out.kept HK3.out (fun _ h => h.elim); have A24 := HA2.out.kept HK3.out (fun _ h => h.elim); have hS5 := spoil_any (w3.alloc (.cells #[.int .i64 x0, .string x1, .string x2, .int .i64 x3] 23)) _ _ _ _ A14.row (by omega) KK4.size; have HA24 : Hid _ := A24; have HA14 : Hid _ := A14; clear hR3 _t K3 KK2 A14 A24 s1 s2)
        | (go_at_call 12; refine hS5.mono ?_; rintro e w5 ⟨rfl, K5⟩; have KK5 := KK4.trans K5 (fun k h => .inr (HA14.out.row.lt k h).1); have A25 := HA24.out.kept2 K5 (fun k h1 h2 => by have q1 := (HA1.out.row.lt k h1).2; have q2 := (HA24.out.row.lt k h2).1; omega); obtain ⟨k0, k1, k2, k3⟩ := hX _ KK5; have HA25 : Hid _ := A25; clear hS5 K5 KK4 A25)
        | (go_at_call 9; have _t := tok2; refine (hL _).mono ?_; rintro e w6 ⟨a6, l6, c6, er6, rfl, A6, K6⟩; obtain rfl : er6 = 0 := A6.err; obtain rfl : enc.length = l6 := A6.len; have s1 := A6.bytes.str; have s2 := (HA25.out.kept K6 (fun _ h => h.elim)).bytes.str; have KK6 := KK5.and K6; have hw6 := KK6.size; simp only [Option.getD_some] at s1 s2; clear hL tok2 _t A6 K6 KK5 hX)
        | (go_at_call 13; refine (lend_any _ a m cap raw (HB.out _ KK6) (by omega)).mono ?_; rintro e w7 ⟨gl, cl, rfl, ho7, K7⟩; have KK7 := KK6.and K7; have BL := lent_bytes ho7 hlB hBs; have hg7 := lent_block ho7; have HO7 : Hid _ := ho7; have hR8 := readEvent_any w7 _ m cl raw BL (by omega); rw [hres] at hR8; simp only [evOut] at hR8; clear ho7 K7 BL KK6)
        | (go_at_call 11; have _t := hR8; refine hR8.mono ?_; rintro e w8 ⟨rfl, K8⟩; have KK8 := (KK7.and K8).and (Kept.alloc (fun _ => False) w8 (.cells #[.int .i64 y0, .string y1, .string y2, .int .i64 y3] 23)); have hR9 := xreadEvent_any (w8.alloc (.cells #[.int .i64 y0, .string y1, .string y2, .int .i64 y3] 23)) a m cap raw (HB.out _ KK8) (by omega); rw [hres] at hR9; simp only [evOut] at hR9; have h8 := K8.size; have HK8 : Hid (Kept (fun _ => False) w7 (w8.alloc (.cells #[.int .i64 y0, .string y1, .string y2, .int .i64 y3] 23))) := K8.and (Kept.alloc _ _ _); have HN8 : Hid ((w8.alloc (.cells #[.int .i64 y0, .string y1, .string y2, .int .i64 y3] 23)).heap[w8.heap.size]? = some (.cells #[.int .i64 y0, .string y1, .string y2, .int .i64 y3] 23 (0, 0))) := heap_alloc_new w8 _; clear _t hR8 K8 KK7)
        | (go_at_call 14; refine hR9.mono ?_; rintro e w9 ⟨rfl, K9⟩; have h9 := K9.size; have HK9 : Hid (Kept (fun _ => False) w7 (w9.alloc (.cells #[.int .i64 y0, .string y1, .string y2, .int .i64 y3] 23))) := (HK8.out.and K9).and (Kept.alloc _ _ _); have KK9 := (KK8.and K9).and (Kept.alloc (fun _ => False) w9 (.cells #[.int .i64 y0, .string y1, .string y2, .int .i64 y3] 23)); have hI := intact_any (w9.alloc (.cells #[.int .i64 y0, .string y1, .string y2, .int .i64 y3] 23)) w6.heap.size gl m cl a cap raw (HB.out _ KK9) (rowKept HO7.out HK9.out) (by omega); have HY : Hid (∀ w', Kept (fun k => k = gl) (w9.alloc (.cells #[.int .i64 y0, .string y1, .string y2, .int .i64 y3] 23)) w' → w'.cell? ⟨w8.heap.size, 0, none⟩ = some (.int .i64 y0) ∧ w'.cell? ⟨w8.heap.size, 1, none⟩ = some (.string y1) ∧ w'.cell? ⟨w8.heap.size, 2, none⟩ = some (.string y2) ∧ w'.cell? ⟨w8.heap.size, 3, none⟩ = some (.int .i64 y3)) := (fun w' K => by have hb := blk (blk (blk HN8.out K9 (fun h => h)) (Kept.alloc (fun _ => False) w9 _) (fun h => h)) K (by simp at h8 h9; show ¬ w8.heap.size = gl; omega); exact ⟨cellOf hb (o := 0) rfl, cellOf hb (o := 1) rfl, cellOf hb (o := 2) rfl, cellOf hb (o := 3) rfl⟩); have HZ : Hid (∀ w', Kept (fun k => k = gl) (w9.alloc (.cells #[.int .i64 y0, .string y1, .string y2, .int .i64 y3] 23)) w' → w'.cell? ⟨w9.heap.size, 0, none⟩ = some (.int .i64 y0) ∧ w'.cell? ⟨w9.heap.size, 1, none⟩ = some (.string y1) ∧ w'.cell? ⟨w9.heap.size, 2, none⟩ = some (.string y2) ∧ w'.cell? ⟨w9.heap.size, 3, none⟩ = some (.int .i64 y3)) := (fun w' K => by have hb := blk (heap_alloc_new w9 (.cells #[.int .i64 y0, .string y1, .string y2, .int .i64 y3] 23)) K (by simp at h8 h9; show ¬ w9.heap.size = gl; omega); exact ⟨cellOf hb (o := 0) rfl, cellOf hb (o := 1) rfl, cellOf hb (o := 2) rfl, cellOf hb (o := 3) rfl⟩); clear hR9 K9 KK8)
        | (go_at_call 15; refine hI.mono ?_; rintro e w10 ⟨rfl, K10⟩; have hy10 := HY.out w10 K10; have hz10 := HZ.out w10 K10; have KK10 := KK9.trans K10 (fun k h => .inr (Nat.le_trans hw6 (by have h7 := hg7.1; have h8 : k = gl := h; omega))); clear hI K10 KK9)
        | (go_at_call 9; have _t := hL4; refine (hL4 w10).mono ?_; rintro e w11 ⟨a4, l4, c4, er4, rfl, A4, K11⟩; obtain rfl : er4 = 0 := A4.err; obtain rfl : raw.length = l4 := A4.len; have KK11 := KK10.and K11; have t1 := A4.bytes.str; have t2 := (HB.out w11 KK11).str; simp only [Option.getD_some] at t1; rw [hlB] at t1; clear hL4 _t A4 K11 KK10)
        | (go_at_call 16; refine (wakes_any _).mono ?_; rintro e w12 ⟨rfl, K12⟩; have KKe := KK11.and K12)
        | fail)
      go_ret
      exact ⟨rfl, HF.out _ KKe⟩

end Go.Proofs.Ytnmdjdpceegdfaa
