/-
  put: bytes laid at a file's end.
-/
import Derived.Test.YthpamcfemhimcaaDiskSet
namespace Go.Proofs.Ythpamcfemhimcaa
open Go.RowKit Go.Maps Go.ChangeMaps Go.MapKept

/-- What put makes of a file. -/
def putF (o : Option DFile) (b : List Int) : DFile := match o with | some f => ⟨f.bytes ++ b, f.kept⟩ | none => ⟨b, 0⟩

section
variable {w : World} {S : Nat → Prop} {d n L : Nat} {st : DSt} {bf bq : Nat} {G C : Int → Nat}

set_option maxRecDepth 100000 in
set_option maxHeartbeats 400000 in
theorem put_none (a : Option Addr) (c : Nat) (x : Int) :
    Calls Try.prog 44 #[.pointer (some ⟨d, 0, none⟩), .int .i64 x, .slice a 0 c] w fun e w' => e = .returned (.tuple #[]) ∧ w' = w := by
  go_enter Try.func44, Try.ntmps44
  go_wp2
  refine bodyPost_ret (results_none rfl _ _ _) rfl ?_
  exact ⟨rfl, rfl⟩

set_option maxRecDepth 100000 in
set_option maxHeartbeats 1000000 in
theorem put_gen (x : Int) (hx : isI64 x) (M : Int → Option Value) (a0 : Option Addr) (n0 c0 : Nat) (q0 : Int) (xs0 : List Value) (hv : (M x).getD (.agg #[.slice none 0 0, .int .i64 0]) = .agg #[.slice a0 n0 c0, .int .i64 q0])
    (h0 : w.cell? ⟨d, 0, none⟩ = some (.map (some bf))) (T : Tab Try.prog 3 w bf n M) (hown : w.ownsRow 0 5 1 (.slice a0 n0 c0) n0 xs0) (hdn : (Value.slice a0 n0 c0).ownBlock ≠ some d) (hfn : (Value.slice a0 n0 c0).ownBlock ≠ some bf)
    (ad : Addr) (m c : Nat) (b : List Int) (hb : b.length = m) (hm : 0 < m) (hM : n0 + m ≤ 70368744177664) (hn : n < 4611686018427387904)
    (hnews : ∀ j u, (b.map (Value.int .u8))[j]? = some u → w.cell? (ad.add j) = some u) :
    Calls Try.prog 44 #[.pointer (some ⟨d, 0, none⟩), .int .i64 x, .slice (some ad) m c] w fun e w' =>
      e = .returned (.tuple #[]) ∧ ∃ g cap, w'.ownsRow 0 5 1 (.slice (some ⟨g, 0, none⟩) (n0 + m) cap) (n0 + m) (xs0 ++ b.map (Value.int .u8)) ∧ ((Value.slice a0 n0 c0).ownBlock = some g ∨ g = w.heap.size + 1) ∧
        Tab Try.prog 3 w' bf (n + 1) (upd M x (some (.agg #[.slice (some ⟨g, 0, none⟩) (n0 + m) cap, .int .i64 q0]))) ∧ w.heap.size ≤ w'.heap.size ∧ (w'.os = w.os ∧ w'.tape = w.tape ∧ w'.output = w.output) ∧
        ∀ k, k < w.heap.size → k ≠ bf → (Value.slice a0 n0 c0).ownBlock ≠ some k → w'.heap[k]? = w.heap[k]? := by
  obtain ⟨i0, hi, hz0, hz1, hz2⟩ := info_parts Try.info5
  have hdl : d < w.heap.size := World.block_lt_of_cell? w _ h0
  have hfl := T.lt
  have hmz : ((m : Int) == 0) = false := by simp; omega
  have hN : ∀ j u, (b.map (Value.int .u8))[j]? = some u → (w.alloc (.cells #[.slice a0 n0 c0, .int .i64 q0] 76)).cell? (ad.add j) = some u := by
    intro j u hj
    exact (World.grownBy_alloc w _ none).cell (hnews j u hj) (by simp)
  have hownA := hown.alloc (.cells #[.slice a0 n0 c0, .int .i64 q0] 76)
  have hsl : ∀ k, (Value.slice a0 n0 c0).ownBlock = some k → k < w.heap.size := fun k hk => (hown.lt k hk).2
  have key : ∀ (g cap : Nat) (w1 : World), (w.alloc (.cells #[.slice a0 n0 c0, .int .i64 q0] 76)).grownBy w1 (Value.slice a0 n0 c0).ownBlock →
      (w1.cell? ⟨w.heap.size, 0, none⟩ = some (.slice a0 n0 c0) ∧ w1.cell? ⟨w.heap.size, 1, none⟩ = some (.int .i64 q0) ∧ w1.frozen? ⟨w.heap.size, 0, none⟩ = false ∧ w1.cell? ⟨d, 0, none⟩ = some (.map (some bf))) ∧
      ∀ W : World, W.heap[bf]? = w1.heap[bf]? → Tab Try.prog 3 W bf n M := by
    intro g cap w1 hgrow
    have hB : w1.heap[w.heap.size]? = some (.cells #[.slice a0 n0 c0, .int .i64 q0] 76) := by
      rw [hgrow.block w.heap.size (by simp) (fun e => by have := hsl _ e.symm; omega)]
      exact heap_alloc_new w _
    refine ⟨⟨by simp [World.cell?, hB], by simp [World.cell?, hB], by simp [World.frozen?, hB], ?_⟩, ?_⟩
    · rw [hgrow.cell_far _ (by simp only [World.size_alloc]; omega) (fun e => hdn e.symm)]
      exact (World.grownBy_alloc w _ none).cell h0 (by simp)
    · intro W hW
      refine T.block (hW.trans ?_)
      rw [hgrow.block bf (by simp; omega) (fun e => hfn e.symm)]
      exact Below.heap_alloc _ _ _ hfl
  go_enter Try.func44, Try.ntmps44
  go_wp2_with (first
    | (at_lookup; refine wpList_tab_look _ rfl _ _ 68 rfl 3 76 Try.underlying3 Try.underlying68 (Try.zeroValue76 _) bf n _ T rfl x hx rfl _ hv ?_)
    | (at_builtin; refine wpList_append_lies _ rfl _ _ 27 rfl 0 5 i0 (.int .u8 0) 1 1 Try.underlying27 hi hz0 hz1 hz2 rfl (by decide) (.slice a0 n0 c0) n0 xs0 rfl hownA ad m c (b.map (Value.int .u8)) rfl (by simp [hb]) hN (oneCells _) hm (by unfold maxLen; omega) (by omega) (by omega) (w.heap.size + 1) (by simp) ?_; intro g cap w1 hown1 hgrow hat hlt; obtain ⟨⟨k0, k1, k2, k3⟩, kT⟩ := key g cap w1 hgrow; have Hat := (show Hid ((Value.slice a0 n0 c0).ownBlock = some g ∨ g = w.heap.size + 1) from hat); clear key hat T hv hN hownA hnews)
    | fail)
  have hgB : g ≠ w.heap.size := by
    rcases Hat.out with h | h
    · have := hsl g h; omega
    · omega
  have hdB : d ≠ w.heap.size := by omega
  have hfB : bf ≠ w.heap.size := by omega
  have r0 := World.cell?_setCell_same' w1 ⟨w.heap.size, 0, none⟩ (.slice (some ⟨g, 0, none⟩) (n0 + m) cap) (by rw [k0]; rfl)
  have r1 : (w1.setCell ⟨w.heap.size, 0, none⟩ (.slice (some ⟨g, 0, none⟩) (n0 + m) cap)).cell? ⟨w.heap.size, 1, none⟩ = some (.int .i64 q0) := by go_simp
  have r3 : (w1.setCell ⟨w.heap.size, 0, none⟩ (.slice (some ⟨g, 0, none⟩) (n0 + m) cap)).cell? ⟨d, 0, none⟩ = some (.map (some bf)) := by
    rw [World.cell?_of_block (w := w1) (Below.heap_setCell _ _ _ _ hdB)]; exact k3
  have rT := kT (w1.setCell ⟨w.heap.size, 0, none⟩ (.slice (some ⟨g, 0, none⟩) (n0 + m) cap)) (Below.heap_setCell _ _ _ _ hfB)
  have rb : ∀ k, k ≠ w.heap.size → (w1.setCell ⟨w.heap.size, 0, none⟩ (.slice (some ⟨g, 0, none⟩) (n0 + m) cap)).heap[k]? = w1.heap[k]? := fun k hk => Below.heap_setCell _ _ _ _ hk
  have rz : (w1.setCell ⟨w.heap.size, 0, none⟩ (.slice (some ⟨g, 0, none⟩) (n0 + m) cap)).heap.size = w1.heap.size := by simp [World.setCell]
  have ro : (w1.setCell ⟨w.heap.size, 0, none⟩ (.slice (some ⟨g, 0, none⟩) (n0 + m) cap)).os = w1.os ∧ (w1.setCell ⟨w.heap.size, 0, none⟩ (.slice (some ⟨g, 0, none⟩) (n0 + m) cap)).tape = w1.tape ∧ (w1.setCell ⟨w.heap.size, 0, none⟩ (.slice (some ⟨g, 0, none⟩) (n0 + m) cap)).output = w1.output := ⟨rfl, rfl, rfl⟩
  generalize (w1.setCell ⟨w.heap.size, 0, none⟩ (.slice (some ⟨g, 0, none⟩) (n0 + m) cap)) = W at r0 r1 r3 rT rb rz ro ⊢
  have fin : ∀ w2, W.drew.mapTurned w2 bf → (w2.ownsRow 0 5 1 (.slice (some ⟨g, 0, none⟩) (n0 + m) cap) (n0 + m) (xs0 ++ b.map (Value.int .u8)) ∧ w.heap.size ≤ w2.heap.size ∧ (w2.os = w.os ∧ w2.tape = w.tape ∧ w2.output = w.output) ∧
        ∀ k, k < w.heap.size → k ≠ bf → (Value.slice a0 n0 c0).ownBlock ≠ some k → w2.heap[k]? = w.heap[k]?) := by
    intro w2 ht
    have hg2 := ht.grown
    have hgf : g ≠ bf := by
      rcases Hat.out with h | h
      · intro e; rw [e] at h; exact hfn h
      · omega
    have hb2 : ∀ k, k ≠ bf → w2.heap[k]? = W.heap[k]? := by
      intro k hk
      obtain ⟨es, c', es', c'', h, rfl⟩ := ht
      exact heap_setBlock_other h _ hk
    refine ⟨?_, ?_, ⟨?_, ?_, ?_⟩, ?_⟩
    · refine ⟨hown1.1, ?_⟩
      rcases hown1.2 with ⟨h, _⟩ | ⟨g', cap', cur, hv, hbs, hh, r⟩
      · cases h
      · simp only [Value.slice.injEq, Option.some.injEq, Addr.mk.injEq] at hv
        obtain ⟨⟨rfl, _⟩, _, rfl⟩ := hv
        exact .inr ⟨g, cap, cur, rfl, hbs, by rw [hb2 g hgf, rb g hgB]; exact hh, r⟩
    · have h1 : W.heap.size ≤ w2.heap.size := hg2.size
      have h2 := hgrow.size
      simp at h2
      omega
    · exact hg2.os.trans (ro.1.trans hgrow.os)
    · exact hg2.tape.trans (ro.2.1.trans hgrow.tape)
    · exact hg2.output.trans (ro.2.2.trans hgrow.output)
    · intro k hk hkf hks
      rw [hb2 k hkf, rb k (by omega), hgrow.block k (by simp; omega) (fun e => hks e.symm)]
      exact Below.heap_alloc _ _ _ hk
  clear k0 k1 k2 k3 kT rb rz ro hown1 hgrow
  obtain ⟨w2, hrun, T2, ht2⟩ := (rT.block (w' := W.drew) rfl).store Try.underlying3 Try.underlying68 (by unfold maxLen; omega) hx (.agg #[.slice (some ⟨g, 0, none⟩) (n0 + m) cap, .int .i64 q0])
  have F2 := fin w2 ht2
  clear fin rT ht2
  go_region
  go_end0
  exact ⟨rfl, g, cap, F2.1, Hat.out, T2, F2.2.1, F2.2.2.1, F2.2.2.2⟩

end

end Go.Proofs.Ythpamcfemhimcaa
