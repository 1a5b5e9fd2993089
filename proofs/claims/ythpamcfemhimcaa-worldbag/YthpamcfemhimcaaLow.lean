/-
  The disk's operations where the disk lies from block lo on, and all that is handed in below: what lies below lo stays as it is.
-/
import Derived.Test.YthpamcfemhimcaaLift
namespace Go.Proofs.Ythpamcfemhimcaa
open Go.RowKit Go.Maps Go.ChangeMaps Go.MapKept

/-- Block d is a disk that is st, all of it from lo on. -/
def DiskLow (w : World) (lo d n L : Nat) (st : DSt) : Prop := ∃ S bf bq G C, DiskIn w S d n L st bf bq G C ∧ (∀ k, S k → lo ≤ k) ∧ lo ≤ w.heap.size

section
variable {w w' : World} {lo d n L : Nat} {st : DSt}

theorem DiskLow.kept (D : DiskLow w lo d n L st) (K : Kept (fun _ => False) w w') : DiskLow w' lo d n L st := by
  obtain ⟨S, bf, bq, G, C, D, hS, hl⟩ := D
  exact ⟨S, bf, bq, G, C, D.kept K (fun _ _ h => h), hS, Nat.le_trans hl K.size⟩

theorem DiskLow.mono (D : DiskLow w lo d n L st) {n' L' : Nat} (hn : n ≤ n') (hL : L ≤ L') : DiskLow w lo d n' L' st := by
  obtain ⟨S, bf, bq, G, C, D, hS, hl⟩ := D
  exact ⟨S, bf, bq, G, C, D.mono hn hL, hS, hl⟩

theorem lowKept {S : Nat → Prop} (K : Kept S w w') (hS : ∀ k, S k → lo ≤ k) (hl : lo ≤ w.heap.size) : Below lo w w' := K.below hl hS

theorem newDisk_low (w : World) : Calls Try.prog 34 #[] w fun e w' => e = .returned (.pointer (some ⟨w.heap.size + 2, 0, none⟩)) ∧ DiskLow w' w.heap.size (w.heap.size + 2) 0 0 DSt.new ∧ Below w.heap.size w w' := by
  refine (newDisk_any w).mono ?_
  rintro e w' ⟨rfl, D, K, hz⟩
  exact ⟨rfl, ⟨_, _, _, _, _, D, fun k h => h.1, by omega⟩, K.none⟩

theorem append_low (D : DiskLow w lo d n L st) (x : Int) (hx : isI64 x) {a : Option Addr} {m c : Nat} {b : List Int} (B : BytesAt w a m c b) (hB : b ≠ [] → ∀ ad, a = some ad → ad.block < lo) (hM : L + m ≤ 70368744177664) (hn : n < 4611686018427387904) (hops : st.ops < 4611686018427387904) :
    Calls Try.prog 35 #[.pointer (some ⟨d, 0, none⟩), .int .i64 x, .slice a m c] w fun e w' =>
      e = .returned (.int .i64 (st.err x)) ∧ DiskLow w' lo d (n + 1) (L + m) (st.append x b) ∧ Below lo w w' := by
  obtain ⟨S, bf, bq, G, C, D, hS, hl⟩ := D
  refine (append_any D x hx B (fun hne ad e h => by have := hB hne ad e; have := hS _ h; omega) hM hn hops).mono ?_
  rintro e w' ⟨rfl, S', G', C', D', K', hS'⟩
  exact ⟨rfl, ⟨S', bf, bq, G', C', D', fun k h => (hS' k h).elim (hS k) (fun h => Nat.le_trans hl h), Nat.le_trans hl K'.size⟩, lowKept K' hS hl⟩

theorem sync_low (D : DiskLow w lo d n L st) (x : Int) (hx : isI64 x) (hn : n < 4611686018427387904) (hops : st.ops < 4611686018427387904) :
    Calls Try.prog 36 #[.pointer (some ⟨d, 0, none⟩), .int .i64 x] w fun e w' =>
      e = .returned (.int .i64 (st.err x)) ∧ DiskLow w' lo d (n + 1) L (st.sync x) ∧ Below lo w w' := by
  obtain ⟨S, bf, bq, G, C, D, hS, hl⟩ := D
  refine (sync_any D x hx hn hops).mono ?_
  rintro e w' ⟨rfl, S', G', C', D', K', hS'⟩
  exact ⟨rfl, ⟨S', bf, bq, G', C', D', fun k h => (hS' k h).elim (hS k) (fun h => Nat.le_trans hl h), Nat.le_trans hl K'.size⟩, lowKept K' hS hl⟩

theorem crash_low (D : DiskLow w lo d n L st) (hn : n ≤ 1099511627776) (hL : L ≤ 70368744177664) (v : Value) (cs : List Int) (hc : IntsAt w (fun k => lo ≤ k) v cs) :
    Calls Try.prog 37 #[.pointer (some ⟨d, 0, none⟩), v] w fun e w' =>
      e = .returned (.tuple #[]) ∧ (∃ l, IsKeys st l ∧ DiskLow w' lo d (2 * n) L (st.crash l cs)) ∧ Below lo w w' := by
  obtain ⟨S, bf, bq, G, C, D, hS, hl⟩ := D
  have hc' : IntsAt w S v cs := by
    obtain ⟨a, c, hv, h⟩ := hc
    refine ⟨a, c, hv, fun hne => ?_⟩
    obtain ⟨b, off, h1, h2, h3, h4⟩ := h hne
    exact ⟨b, off, h1, h2, fun hs => h3 (hS b hs), h4⟩
  refine (crash_any D hn hL v cs hc').mono ?_
  rintro e w' ⟨rfl, S', G', C', l, ⟨hk, hkl⟩, D', K', hS'⟩
  exact ⟨rfl, ⟨l, hk, S', bf, bq, G', C', D'.mono (by omega) (Nat.le_refl _), fun k h => (hS' k h).elim (hS k) (fun h => Nat.le_trans hl h), Nat.le_trans hl K'.size⟩, lowKept K' hS hl⟩

theorem read_low (D : DiskLow w lo d n L st) (hL : L ≤ 70368744177664) (x : Int) (hx : isI64 x) :
    Calls Try.prog 38 #[.pointer (some ⟨d, 0, none⟩), .int .i64 x] w fun e w' =>
      ∃ a c, e = .returned (.slice a (st.bytesOf x).length c) ∧ w'.ownsRow w.heap.size 5 1 (.slice a (st.bytesOf x).length c) (st.bytesOf x).length ((st.bytesOf x).map (Value.int .u8)) ∧ Kept (fun _ => False) w w' := by
  obtain ⟨S, bf, bq, G, C, D, hS, hl⟩ := D
  exact read_any D hL x hx

theorem kept_low (D : DiskLow w lo d n L st) (x : Int) (hx : isI64 x) :
    Calls Try.prog 39 #[.pointer (some ⟨d, 0, none⟩), .int .i64 x] w fun e w' => e = .returned (.int .i64 (st.keptOf x)) ∧ w' = w := by
  obtain ⟨S, bf, bq, G, C, D, hS, hl⟩ := D
  exact kept_any D x hx

theorem ops_low (D : DiskLow w lo d n L st) :
    Calls Try.prog 40 #[.pointer (some ⟨d, 0, none⟩)] w fun e w' => e = .returned (.int .i64 st.ops) ∧ w' = w := by
  obtain ⟨S, bf, bq, G, C, D, hS, hl⟩ := D
  exact ops_any D

theorem BytesAt.below {a : Option Addr} {m c : Nat} {b : List Int} (B : BytesAt w a m c b) (K : Below lo w w') (hB : b ≠ [] → ∀ ad, a = some ad → ad.block < lo) : BytesAt w' a m c b :=
  ⟨B.len, B.cap, B.nil, fun ad h j u hu => by
    have hc := B.cells ad h j u hu
    rw [K.cell (by rw [block_add]; exact hB (fun e => by rw [e] at hu; simp at hu) ad h)]
    exact hc, B.byte⟩

theorem IntsAt.below {v : Value} {l : List Int} (h : IntsAt w (fun k => lo ≤ k) v l) (K : Below lo w w') : IntsAt w' (fun k => lo ≤ k) v l := by
  obtain ⟨a, c, hv, h⟩ := h
  refine ⟨a, c, hv, fun hne => ?_⟩
  obtain ⟨b, off, h1, h2, h3, h4⟩ := h hne
  exact ⟨b, off, h1, h2, h3, fun j x hx => (K.cell (p := ⟨b, off + j, none⟩) (Nat.lt_of_not_le h3)).trans (h4 j x hx)⟩
end

end Go.Proofs.Ythpamcfemhimcaa
