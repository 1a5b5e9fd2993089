/-
  strconv.Itoa at every int (its table is laid); strings.Join and strings.Builder at this program.
-/
import Derived.Test.YtlholgpenpfpbaaDoorDTextW
import Derived.Test.YtlholgpenpfpbaaDoorDLayT
import Derived.Test.YtlholgpenpfpbaaDoorDCard
import Derived.Lib.LaidTab
namespace Go.Proofs.YtlholgpenpfpbaaDoor
open Go.RowKit Go.Sort Go.ChangeShapes Go.WideShapes Go.ChangeAt

/-- The table of the powers of ten, as its initialiser lays it. -/
abbrev Pow10 (w : World) : Prop := Lib.TabIs Tryd.prog w "internal/strconv.uint64pow10" .u64 Lib.pow10Tab

theorem Pow10.kept {w w' : World} (T : Pow10 w) (K : Kept (fun _ => False) w w') : Pow10 w' := by
  unfold Pow10 Lib.TabIs World.var? at T ⊢
  cases hg : Tryd.prog.globalNamed "internal/strconv.uint64pow10" with
  | none => rw [hg] at T; cases T
  | some g =>
    rw [hg] at T
    simp only [Option.bind_some] at T ⊢
    have hlt : g < w.heap.size := by
      rcases Nat.lt_or_ge g w.heap.size with h' | h'
      · exact h'
      · rw [Array.getElem?_eq_none h'] at T; cases T
    rw [K.block g hlt (fun h => h)]
    exact T

theorem laid_tail {P : Program} {x : String × DataW Unit} {r : List (String × DataW Unit)} {w : World} (h : laidMet P (x :: r) w) : laidMet P r w := by
  obtain ⟨ps, ⟨g, t, cs, fuel, p, q, _, _, _, _, hr, rfl⟩, hn, hc⟩ := h
  exact ⟨q, hr, (List.nodup_append.1 hn).2.1, fun b off hb => hc b off (List.mem_append.2 (.inr hb))⟩

theorem pow10_laid {W : World} (h : laidMetH Tryd.prog laidL W) : Pow10 W := by
  have h1 : laidMet Tryd.prog [("math/bits.deBruijn32tab", Rows.laid_math_bits_deBruijn32tab), ("math/bits.deBruijn64tab", Rows.laid_math_bits_deBruijn64tab), ("internal/strconv.uint64pow10", Lib.tabData .u64 Lib.pow10Tab), ("strconv.ErrRange", Rows.laid_strconv_ErrRange), ("strconv.ErrSyntax", Rows.laid_strconv_ErrSyntax)] W := h
  exact Lib.tabIs_of_head (g := (Tryd.prog.globalNamed "internal/strconv.uint64pow10").getD 0) (t := 130) (e := 115) (n := 20) (by kernel_rfl) (by kernel_rfl) (by kernel_rfl) (by kernel_rfl) (by kernel_rfl) (by kernel_rfl) (laid_tail (laid_tail h1))

theorem kept_grow (w : World) (q : Nat) (os : Array Obj) : Kept (fun _ => False) w (grow (w.drewN q) os) :=
  ⟨rfl, rfl, rfl, by simp [grow], fun i hi _ => by
    show ((w.drewN q).heap ++ os)[i]? = _
    rw [Array.getElem?_append_left (by show i < w.heap.size; omega)]
    rfl⟩

theorem i64_bounds {x : Int} (h : isI64 x) : -9223372036854775808 ≤ x ∧ x ≤ 9223372036854775807 := by
  unfold isI64 at h
  simp [Lit.wf, IntKind.min, IntKind.max, IntKind.signed, IntKind.bits] at h
  omega

theorem itoa_any (w : World) (T : Pow10 w) (n : Int) (hlo : -9223372036854775808 ≤ n) (hhi : n ≤ 9223372036854775807) :
    Calls Tryd.prog 53 #[.int .i64 n] w fun e w' => e = .returned (.string (itB n)) ∧ Kept (fun _ => False) w w' :=
  (Any.strconv_Itoa Tryd.itoaM n hlo hhi w T).mono fun e w' ⟨he, k, os, hw⟩ => ⟨he, by rw [hw]; exact kept_grow w k os⟩

end Go.Proofs.YtlholgpenpfpbaaDoor
