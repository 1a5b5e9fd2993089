/-
  Host at every shard's number: strconv.Itoa's table is laid.
-/
import Derived.Test.YtjfgjmiedmpieaaDoorRShards
import Derived.Test.YtjfgjmiedmpieaaDoorRRefHost
import Derived.Test.YtjfgjmiedmpieaaDoorRCard
import Derived.Lib.LaidTab
namespace Go.Proofs.YtjfgjmiedmpieaaDoor
open Go.RowKit Go.Sort Go.ChangeShapes Go.WideShapes Go.ChangeAt

/-- The table of the powers of ten, as its initialiser lays it. -/
abbrev Pow10 (w : World) : Prop := Lib.TabIs Tryd.prog w "internal/strconv.uint64pow10" .u64 Lib.pow10Tab

theorem Pow10.kept {w w' : World} (T : Pow10 w) (K : Kept (fun _ => False) w w') : Pow10 w' := by
  unfold Pow10 Lib.TabIs World.var? at T ⊢
  cases hg : Tryd.prog.globalNamed "internal/strconv.uint64pow10" with
  | none => rw [hg] at T; cases T
  | some g =>
    rw [hg] at T
    simp only [Option.bind_some] at T ⊢
    have hlt : g < w.heap.size := by
      rcases Nat.lt_or_ge g w.heap.size with h' | h'
      · exact h'
      · rw [Array.getElem?_eq_none h'] at T; cases T
    rw [K.block g hlt (fun h => h)]
    exact T

theorem laid_tail {P : Program} {x : String × DataW Unit} {r : List (String × DataW Unit)} {w : World} (h : laidMet P (x :: r) w) : laidMet P r w := by
  obtain ⟨ps, ⟨g, t, cs, fuel, p, q, _, _, _, _, hr, rfl⟩, hn, hc⟩ := h
  exact ⟨q, hr, (List.nodup_append.1 hn).2.1, fun b off hb => hc b off (List.mem_append.2 (.inr hb))⟩

theorem pow10_laid {W : World} (h : laidMetH Tryd.prog laidL W) : Pow10 W := by
  have h1 : laidMet Tryd.prog [("math/bits.deBruijn32tab", Rows.laid_math_bits_deBruijn32tab), ("math/bits.deBruijn64tab", Rows.laid_math_bits_deBruijn64tab), ("internal/strconv.uint64pow10", Lib.tabData .u64 Lib.pow10Tab)] W := h
  exact Lib.tabIs_of_head (g := (Tryd.prog.globalNamed "internal/strconv.uint64pow10").getD 0) (t := 119) (e := 92) (n := 20) (by kernel_rfl) (by kernel_rfl) (by kernel_rfl) (by kernel_rfl) (by kernel_rfl) (by kernel_rfl) (laid_tail (laid_tail h1))

theorem itoa_len20 (n : Int) (hlo : -9223372036854775808 ≤ n) (hhi : n ≤ 9223372036854775807) : (Lib.itoa n).length ≤ 20 := by
  unfold Lib.itoa
  split
  · have := dec_lt (u := n.natAbs) (by omega)
    simp only [List.length_cons]
    omega
  · have := dec_lt (u := n.toNat) (by omega)
    omega

theorem itoaFull_any (w : World) (T : Pow10 w) (n : Int) (hlo : -9223372036854775808 ≤ n) (hhi : n ≤ 9223372036854775807) :
    Calls Tryd.prog 29 #[.int .i64 n] w fun e w' => e = .returned (.string (bs (Lib.itoa n))) ∧ Kept (fun _ => False) w w' :=
  (Any.strconv_Itoa Tryd.itoaM n hlo hhi w T).mono fun e w' ⟨he, k, os, hw⟩ => ⟨he, by rw [hw]; exact kept_grow w k os⟩

/-- Host at any number, told by hostAt. -/
theorem hostFull_any (w : World) (rb : Nat) (l : List Sp) (R : RingAt w rb l) (hs : l.Pairwise noLater) (T : Pow10 w) (n : Int) (hlo : -9223372036854775808 ≤ n) (hhi : n ≤ 9223372036854775807) :
    Calls Tryd.prog 10 #[.pointer (some ⟨rb, 0, none⟩), .int .i64 n] w fun e w' => e = .returned (.tuple #[.int .i64 ((hostAt l (shardPt n)).getD 0), .bool (hostAt l (shardPt n)).isSome]) ∧ Kept (fun _ => False) w w' :=
  (host_any w rb l R hs n (by have := itoa_len20 n hlo hhi; omega) (fun W K => itoaFull_any W (T.kept K) n hlo hhi)).mono fun e w' ⟨K, hc⟩ => by
    refine ⟨?_, K⟩
    rcases hc with ⟨hl, he⟩ | ⟨x, hx, he⟩
    · rw [he, hl, hostAt_nil]; rfl
    · rw [he, hostAt_next hs hx]; rfl

end Go.Proofs.YtjfgjmiedmpieaaDoor
