/-
  'does', whatever the call; the calls as they come in.
-/
import Derived.Test.YtdbmefjagggnoaaDoes2
namespace Go.Proofs.Ytdbmefjagggnoaa
open Go.RowKit Go.Maps Go.ChangeMaps Go.MapKept

theorem does_any {w : World} {lo d r j : Nat} {x0 x1 x2 x3 : Int} {a : Option Addr} {m c : Nat} {b : List Int} {av : Option Addr} {cv : Nat} {cs : List Int} (Bo : Both w lo d r j) (hj : j ≤ 200) (h1 : isI64 x1) (h2 : isI64 x2) (h3 : isI64 x3) (B : BytesAt w a m c b) (hB : b ≠ [] → ∀ ad, a = some ad → ad.block < lo) (hI : IntsAt w (fun k => lo ≤ k) (.slice av cs.length cv) cs) (hcl : cs.length ≤ 4398046511104) :
    Calls Try.prog 9 #[.pointer (some ⟨d, 0, none⟩), .pointer (some ⟨r, 0, none⟩), .agg #[.int .i64 x0, .int .i64 x1, .int .i64 x2, .int .i64 x3, .slice a m c, .slice av cs.length cv]] w fun e w' => e = .returned (.bool true) ∧ Both w' lo d r (j + 1) ∧ Below lo w w' := by
  have l0 := Int.emod_nonneg x0 (show (7 : Int) ≠ 0 by decide)
  have l1 := Int.emod_lt_of_pos x0 (show (0 : Int) < 7 by decide)
  by_cases t1 : x0 % 7 = 0 ∨ x0 % 7 = 1
  · exact does_append Bo hj t1 h1 B hB
  · by_cases t2 : x0 % 7 = 2
    · exact does_sync Bo hj t2 h1
    · by_cases t3 : x0 % 7 = 3
      · exact does_delete Bo hj t3 h1
      · by_cases t4 : x0 % 7 = 4
        · exact does_fail Bo hj t4 h2 h3
        · by_cases t5 : x0 % 7 = 5
          · exact does_stop Bo hj t5 h2
          · exact does_crash Bo hj (by omega) hI hcl

/-- A call: its numbers, its bytes and where they lie, its cuts and where they lie. -/
structure OX where
  x0 : Int
  x1 : Int
  x2 : Int
  x3 : Int
  ba : Option Addr
  bm : Nat
  bc : Nat
  bs : List Int
  av : Option Addr
  cv : Nat
  cs : List Int

/-- A call lies from a place on. -/
structure OpCells (w : World) (b o : Nat) (x : OX) : Prop where
  c0 : w.cell? ⟨b, o, none⟩ = some (.int .i64 x.x0)
  c1 : w.cell? ⟨b, o + 1, none⟩ = some (.int .i64 x.x1)
  c2 : w.cell? ⟨b, o + 2, none⟩ = some (.int .i64 x.x2)
  c3 : w.cell? ⟨b, o + 3, none⟩ = some (.int .i64 x.x3)
  c4 : w.cell? ⟨b, o + 4, none⟩ = some (.slice x.ba x.bm x.bc)
  c5 : w.cell? ⟨b, o + 5, none⟩ = some (.slice x.av x.cs.length x.cv)

/-- A call that may come in. -/
structure OpOk (w : World) (lo : Nat) (x : OX) : Prop where
  i1 : isI64 x.x1
  i2 : isI64 x.x2
  i3 : isI64 x.x3
  by_ : BytesAt w x.ba x.bm x.bc x.bs
  lo_ : x.bs ≠ [] → ∀ ad, x.ba = some ad → ad.block < lo
  cu : IntsAt w (fun k => lo ≤ k) (.slice x.av x.cs.length x.cv) x.cs
  cl : x.cs.length ≤ 4398046511104

theorem OpOk.below {w w' : World} {lo : Nat} {x : OX} (h : OpOk w lo x) (K : Below lo w w') : OpOk w' lo x :=
  ⟨h.i1, h.i2, h.i3, h.by_.below K h.lo_, h.lo_, h.cu.below K, h.cl⟩

theorem OpCells.below {w w' : World} {lo b o : Nat} {x : OX} (h : OpCells w b o x) (hb : b < lo) (K : Below lo w w') : OpCells w' b o x :=
  ⟨(K.cell (p := ⟨b, o, none⟩) hb).trans h.c0, (K.cell (p := ⟨b, o + 1, none⟩) hb).trans h.c1, (K.cell (p := ⟨b, o + 2, none⟩) hb).trans h.c2, (K.cell (p := ⟨b, o + 3, none⟩) hb).trans h.c3, (K.cell (p := ⟨b, o + 4, none⟩) hb).trans h.c4, (K.cell (p := ⟨b, o + 5, none⟩) hb).trans h.c5⟩

/-- The calls that come in. -/
structure OpsAt (w : World) (a : Option Addr) (n c : Nat) (xs : List OX) : Prop where
  len : xs.length = n
  cap : n ≤ c
  cells : ∀ ad, a = some ad → 0 < n → ad.spot = none ∧ ∀ (i : Nat) (x : OX), xs[i]? = some x → OpCells w ad.block (ad.off + i * 6) x
  ok : ∀ x ∈ xs, OpOk w w.heap.size x
  nil : a = none → n = 0

/-- Both are new. -/
theorem Both.new {w w1 w2 : World} (D : DiskIn w1 (fun k => w.heap.size ≤ k ∧ k < w.heap.size + 3) (w.heap.size + 2) 0 0 DSt.new w.heap.size (w.heap.size + 1) (fun _ => 0) (fun _ => 0)) (hz : w1.heap.size = w.heap.size + 3) (R : RefIn w2 (fun k => k = w1.heap.size) w1.heap.size RSt.new (.slice none 0 0) (.slice none 0 0) []) (K2 : Kept (fun _ => False) w1 w2) : Both w2 w.heap.size (w.heap.size + 2) w1.heap.size 0 := by
  have hs := K2.size
  exact ⟨0, 0, _, _, _, _, _, _, _, _, _, _, _, D.kept K2 (fun _ _ h => h), R, fun k h1 h2 => by have h2' : k = w1.heap.size := h2; omega, fun k h => by rcases h with h | h; exact h.1; (have h' : k = w1.heap.size := h; omega), by omega, sim_new, RBd.new, ⟨Nat.le_refl _, Nat.le_refl _, Nat.le_refl _, Nat.le_refl _, Int.le_refl _⟩⟩

theorem both_read {w : World} {lo d r j : Nat} (Bo : Both w lo d r j) (hj : j ≤ 1000) (x : Int) (hx : isI64 x) : ∃ k, Calls Try.prog 10 #[.pointer (some ⟨d, 0, none⟩), .int .i64 x] w (fun e w' => ∃ a c, e = .returned (.slice a k c) ∧ Kept (fun _ => False) w w') ∧
    ∀ w1, Kept (fun _ => False) w w1 → Calls Try.prog 11 #[.pointer (some ⟨r, 0, none⟩), .int .i64 x] w1 fun e w' => ∃ a c, e = .returned (.slice a k c) ∧ Kept (fun _ => False) w1 w' := by
  obtain ⟨n, L, st, rs, S1, bf, bq, G, C, S2, vL, vF, M, D, R, hd, hlo, hw, hs, hb, hn⟩ := Bo
  have bl := hn.L
  have bf1 := hn.files
  have hb := (hs.bytes x).1
  have hl := sim_bytes_len D hs x
  refine ⟨(st.bytesOf x).length, (read_any D (by omega) x hx).mono fun e w' ⟨a, c, he, _, K⟩ => ⟨a, c, he, K⟩, fun w1 K1 => (refRead_any (R.kept K1 (fun _ _ h => h)) hs.rising x (by rw [R.len]; omega) (by omega)).mono fun e w' ⟨a, c, he, _, K⟩ => ⟨a, c, ?_, K⟩⟩
  rw [hb]
  exact he

end Go.Proofs.Ytdbmefjagggnoaa
