/-
  An envelope by value, opened.
-/
import Derived.Test.YtnmdjdpceegdfaaCXRdEnvelope
import Derived.Lib.SmallJoins
import Derived.JoinedCond
namespace Go.Proofs.Ytnmdjdpceegdfaa
open Go.ChangeShapes Go.WideShapes Go.ChangeAt Go.RowKit

section
variable {H : Type} {enc : TypeId × Value → H} {P : Program} {w : World} {base : Nat} {spare : TypeId → Bool} {held : Bool}

theorem array11 {α : Type} {cs : Array α} (h : cs.size = 11) : ∃ c0 c1 c2 c3 c4 c5 c6 c7 c8 c9 c10, cs = #[c0, c1, c2, c3, c4, c5, c6, c7, c8, c9, c10] := by
  obtain ⟨l⟩ := cs
  match l, h with
  | [c0, c1, c2, c3, c4, c5, c6, c7, c8, c9, c10], _ => exact ⟨c0, c1, c2, c3, c4, c5, c6, c7, c8, c9, c10, rfl⟩

theorem trod_struct5 {t : TypeId} {f0 f1 f2 f3 f4 : Field} {fuel : Nat} {cs : List Value} {x : DataW H × List MemPlace} (ht : P.underlying t = some (.struct #[f0, f1, f2, f3, f4])) (h : DataW.trod enc P w base spare held fuel t cs = some x) :
    ∃ (y0 y1 y2 y3 y4 : DataW H × List MemPlace) (n : Nat), x = (.agg [y0.1, y1.1, y2.1, y3.1, y4.1], y0.2 ++ (y1.2 ++ (y2.2 ++ (y3.2 ++ (y4.2))))) ∧ DataW.trod enc P w base spare held n f0.type ((cs.drop f0.offset).take (P.cellsOf f0.type)) = some y0 ∧ DataW.trod enc P w base spare held n f1.type ((cs.drop f1.offset).take (P.cellsOf f1.type)) = some y1 ∧ DataW.trod enc P w base spare held n f2.type ((cs.drop f2.offset).take (P.cellsOf f2.type)) = some y2 ∧ DataW.trod enc P w base spare held n f3.type ((cs.drop f3.offset).take (P.cellsOf f3.type)) = some y3 ∧ DataW.trod enc P w base spare held n f4.type ((cs.drop f4.offset).take (P.cellsOf f4.type)) = some y4 := by
  obtain ⟨xs, n, _, rfl, hl, hlen, hf⟩ := DataW.trod_struct ht h
  match xs, hlen with
  | [y0, y1, y2, y3, y4], _ => exact ⟨y0, y1, y2, y3, y4, n, by simp, by simpa using hf 0 f0 rfl, by simpa using hf 1 f1 rfl, by simpa using hf 2 f2 rfl, by simpa using hf 3 f3 rfl, by simpa using hf 4 f4 rfl⟩

theorem trod_struct7 {t : TypeId} {f0 f1 f2 f3 f4 f5 f6 : Field} {fuel : Nat} {cs : List Value} {x : DataW H × List MemPlace} (ht : P.underlying t = some (.struct #[f0, f1, f2, f3, f4, f5, f6])) (h : DataW.trod enc P w base spare held fuel t cs = some x) :
    ∃ (y0 y1 y2 y3 y4 y5 y6 : DataW H × List MemPlace) (n : Nat), x = (.agg [y0.1, y1.1, y2.1, y3.1, y4.1, y5.1, y6.1], y0.2 ++ (y1.2 ++ (y2.2 ++ (y3.2 ++ (y4.2 ++ (y5.2 ++ (y6.2))))))) ∧ DataW.trod enc P w base spare held n f0.type ((cs.drop f0.offset).take (P.cellsOf f0.type)) = some y0 ∧ DataW.trod enc P w base spare held n f1.type ((cs.drop f1.offset).take (P.cellsOf f1.type)) = some y1 ∧ DataW.trod enc P w base spare held n f2.type ((cs.drop f2.offset).take (P.cellsOf f2.type)) = some y2 ∧ DataW.trod enc P w base spare held n f3.type ((cs.drop f3.offset).take (P.cellsOf f3.type)) = some y3 ∧ DataW.trod enc P w base spare held n f4.type ((cs.drop f4.offset).take (P.cellsOf f4.type)) = some y4 ∧ DataW.trod enc P w base spare held n f5.type ((cs.drop f5.offset).take (P.cellsOf f5.type)) = some y5 ∧ DataW.trod enc P w base spare held n f6.type ((cs.drop f6.offset).take (P.cellsOf f6.type)) = some y6 := by
  obtain ⟨xs, n, _, rfl, hl, hlen, hf⟩ := DataW.trod_struct ht h
  match xs, hlen with
  | [y0, y1, y2, y3, y4, y5, y6], _ => exact ⟨y0, y1, y2, y3, y4, y5, y6, n, by simp, by simpa using hf 0 f0 rfl, by simpa using hf 1 f1 rfl, by simpa using hf 2 f2 rfl, by simpa using hf 3 f3 rfl, by simpa using hf 4 f4 rfl, by simpa using hf 5 f5 rfl, by simpa using hf 6 f6 rfl⟩

end

set_option maxRecDepth 100000 in
theorem open_env {H : Type} {enc : TypeId × Value → H} {W : World} {base b0 : Nat} {r : Reach} {spare : TypeId → Bool} {held : Bool} {v : Value} {d : DataW H} {p : List MemPlace}
    (hv : Value.okWide Try.prog W r b0 38 v) (h : DataW.Trod enc Try.prog W base spare held 38 v d p) :
    ∃ (x0 x1 x2 x3 x4 : Int) (x5 x6 x7 x8 x9 : ByteArray) (x10 : Int), v = .agg #[.int .i64 x0, .int .i64 x1, .int .i64 x2, .int .i64 x3, .int .i64 x4, .string x5, .string x6, .string x7, .string x8, .string x9, .int .i64 x10] ∧ d = .agg [.lit (.int .i64 x0), .lit (.int .i64 x1), .lit (.int .i64 x2), .lit (.int .i64 x3), .agg [.lit (.int .i64 x4), .lit (.string x5.data.toList), .lit (.string x6.data.toList), .lit (.string x7.data.toList), .lit (.string x8.data.toList), .lit (.string x9.data.toList), .lit (.int .i64 x10)]] ∧ isI64 x0 ∧ isI64 x1 ∧ isI64 x2 ∧ isI64 x3 ∧ isI64 x4 ∧ isI64 x10 := by
  obtain ⟨cs, rfl, hsz⟩ := okWide_struct Try.underlying38 hv
  obtain ⟨c0, c1, c2, c3, c4, c5, c6, c7, c8, c9, c10, rfl⟩ := array11 (hsz.trans (by kernel_rfl))
  have kI : Try.prog.cellsOf 3 = 1 := by kernel_rfl
  have kS : Try.prog.cellsOf 9 = 1 := by kernel_rfl
  have kM : Try.prog.cellsOf 36 = 7 := by kernel_rfl
  obtain ⟨fuel, hf⟩ := h
  obtain ⟨y0, y1, y2, y3, y4, n, hx, h0, h1, h2, h3, h4⟩ := trod_struct5 Try.underlying38 hf
  have t0 : DataW.trod enc Try.prog W base spare held n 3 [c0] = some y0 := by simpa [Value.cells, kI] using h0
  have t1 : DataW.trod enc Try.prog W base spare held n 3 [c1] = some y1 := by simpa [Value.cells, kI] using h1
  have t2 : DataW.trod enc Try.prog W base spare held n 3 [c2] = some y2 := by simpa [Value.cells, kI] using h2
  have t3 : DataW.trod enc Try.prog W base spare held n 3 [c3] = some y3 := by simpa [Value.cells, kI] using h3
  have t4 : DataW.trod enc Try.prog W base spare held n 36 [c4, c5, c6, c7, c8, c9, c10] = some y4 := by simpa [Value.cells, kM] using h4
  obtain ⟨z0, z1, z2, z3, z4, z5, z6, m, hz, g0, g1, g2, g3, g4, g5, g6⟩ := trod_struct7 Try.underlying36 t4
  have s0 : DataW.trod enc Try.prog W base spare held m 3 [c4] = some z0 := by simpa [kI] using g0
  have s1 : DataW.trod enc Try.prog W base spare held m 9 [c5] = some z1 := by simpa [kS] using g1
  have s2 : DataW.trod enc Try.prog W base spare held m 9 [c6] = some z2 := by simpa [kS] using g2
  have s3 : DataW.trod enc Try.prog W base spare held m 9 [c7] = some z3 := by simpa [kS] using g3
  have s4 : DataW.trod enc Try.prog W base spare held m 9 [c8] = some z4 := by simpa [kS] using g4
  have s5 : DataW.trod enc Try.prog W base spare held m 9 [c9] = some z5 := by simpa [kS] using g5
  have s6 : DataW.trod enc Try.prog W base spare held m 3 [c10] = some z6 := by simpa [kI] using g6
  clear h0 h1 h2 h3 h4 t4 g0 g1 g2 g3 g4 g5 g6 hf
  obtain ⟨x0, e0, rfl, wf0⟩ := DataW.trod_int Try.underlying3 t0
  obtain ⟨x1, e1, rfl, wf1⟩ := DataW.trod_int Try.underlying3 t1
  obtain ⟨x2, e2, rfl, wf2⟩ := DataW.trod_int Try.underlying3 t2
  obtain ⟨x3, e3, rfl, wf3⟩ := DataW.trod_int Try.underlying3 t3
  obtain ⟨x4, e4, rfl, wf4⟩ := DataW.trod_int Try.underlying3 s0
  obtain ⟨x5, e5, rfl, _⟩ := DataW.trod_string Try.underlying9 s1
  obtain ⟨x6, e6, rfl, _⟩ := DataW.trod_string Try.underlying9 s2
  obtain ⟨x7, e7, rfl, _⟩ := DataW.trod_string Try.underlying9 s3
  obtain ⟨x8, e8, rfl, _⟩ := DataW.trod_string Try.underlying9 s4
  obtain ⟨x9, e9, rfl, _⟩ := DataW.trod_string Try.underlying9 s5
  obtain ⟨x10, e10, rfl, wf10⟩ := DataW.trod_int Try.underlying3 s6
  simp only [List.cons.injEq, and_true] at e0 e1 e2 e3 e4 e5 e6 e7 e8 e9 e10
  subst e0 e1 e2 e3 e4 e5 e6 e7 e8 e9 e10
  subst hz
  simp only [Prod.mk.injEq] at hx
  exact ⟨_, _, _, _, _, _, _, _, _, _, _, rfl, hx.1, wf0, wf1, wf2, wf3, wf4, wf10⟩

end Go.Proofs.Ytnmdjdpceegdfaa
