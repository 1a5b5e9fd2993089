/-
  RingViews holds for all views: the law's call returns true and leaves its arguments as they were. No condition; the listed tables are tied to the program's text.
-/
import Derived.Test.YtnhmdeglaoilcaaDoorRCard
import Derived.Test.YtnhmdeglaoilcaaDoorRViewsA
import Derived.Test.YtnhmdeglaoilcaaDoorRViewsB
import Derived.Test.YtnhmdeglaoilcaaDoorRViewsC
import Derived.Test.YtnhmdeglaoilcaaDoorRViewsD
import Derived.Lib.SmallJoins
import Derived.JoinedCond
namespace Go.Proofs.YtnhmdeglaoilcaaDoor
open Go.ChangeShapes Go.WideShapes Go.ChangeAt Go.RowKit Go.Deep

theorem ringViews_walk (v1 v2 : Int) (a1 a2 : Option Addr) (m1 c1 m2 c2 : Nat) (z1 z2 : List Int) (w : World) (B1 : IntsAt w a1 m1 c1 z1) (B2 : IntsAt w a2 m2 c2 z2) :
    Calls Tryd.prog 8 #[vw v1 a1 m1 c1, vw v2 a2 m2 c2] w fun e w' => e = .returned (.bool true) ∧ Below w.heap.size w w' := by
  by_cases hv : v1 < v2
  · rcases Nat.lt_or_ge 20 m1 with h1 | h1
    · rcases Nat.lt_or_ge 20 m2 with h2 | h2
      · exact views_d_new _ _ _ _ _ _ _ _ _ _ w B1 B2 h1 h2 hv
      · exact views_c_new _ _ _ _ _ _ _ _ _ _ w B1 B2 h1 h2 hv
    · rcases Nat.lt_or_ge 20 m2 with h2 | h2
      · exact views_b_new _ _ _ _ _ _ _ _ _ _ w B1 B2 h1 h2 hv
      · exact views_a_new _ _ _ _ _ _ _ _ _ _ w B1 B2 h1 h2 hv
  · rcases Nat.lt_or_ge 20 m1 with h1 | h1
    · rcases Nat.lt_or_ge 20 m2 with h2 | h2
      · exact views_d_old _ _ _ _ _ _ _ _ _ _ w B1 B2 h1 h2 hv
      · exact views_c_old _ _ _ _ _ _ _ _ _ _ w B1 B2 h1 h2 hv
    · rcases Nat.lt_or_ge 20 m2 with h2 | h2
      · exact views_b_old _ _ _ _ _ _ _ _ _ _ w B1 B2 h1 h2 hv
      · exact views_a_old _ _ _ _ _ _ _ _ _ _ w B1 B2 h1 h2 hv

theorem array2 {α : Type} {cs : Array α} (h : cs.size = 2) : ∃ c0 c1, cs = #[c0, c1] := by
  obtain ⟨l⟩ := cs
  match l, h with
  | [c0, c1], _ => exact ⟨c0, c1, rfl⟩

set_option maxRecDepth 100000 in
/-- A view by value, opened. -/
theorem view_open {H : Type} {enc : TypeId × Value → H} {W : World} {base b0 : Nat} {r : Reach} {held : Bool} {v : Value} {d : DataW H} {p : List MemPlace}
    (hv : Value.okWide Tryd.prog W r b0 68 v) (h : DataW.Trod enc Tryd.prog W base (fun _ => true) held 68 v d p) :
    ∃ (n : Int) (a : Option Addr) (len cap : Nat) (zs : List Int), v = vw n a len cap ∧ IntsAt W a len cap zs := by
  obtain ⟨cs, rfl, hsz⟩ := okWide_struct Tryd.underlying68 hv
  obtain ⟨c0, c1, rfl⟩ := array2 (hsz.trans (by kernel_rfl))
  have kI : Tryd.prog.cellsOf 3 = 1 := by kernel_rfl
  have kS : Tryd.prog.cellsOf 36 = 1 := by kernel_rfl
  obtain ⟨fuel, hf⟩ := h
  obtain ⟨y0, y1, n, hx, hl, h0, h1⟩ := trod_struct2 Tryd.underlying68 hf
  have t0 : DataW.trod enc Tryd.prog W base (fun _ => true) held n 3 [c0] = some y0 := by simpa [Value.cells, kI] using h0
  have t1 : DataW.trod enc Tryd.prog W base (fun _ => true) held n 36 [c1] = some y1 := by simpa [Value.cells, kS] using h1
  obtain ⟨x0, e0, rfl, _⟩ := DataW.trod_int Tryd.underlying3 t0
  obtain ⟨a, len, cap, zs, e1, I⟩ := ints_open Tryd.underlying36 Tryd.underlying3 (by kernel_rfl) t1
  simp only [List.cons.injEq, and_true] at e0
  subst e0 e1
  exact ⟨_, _, _, _, _, rfl, I⟩

set_option maxRecDepth 100000 in
theorem ringViews_lifted (os : Os) (started : os.Started) (H : Type) (enc : TypeId × Value → H) :
    ReturnsInHanded {} Tryd.checked os 8 .any (fun w args => (Rows.ringViewsSpec.pre enc Tryd.prog Tryd.f8 [] false w args ∧ laidMetH Tryd.prog laidL w) ∧ sizedMet enc Tryd.prog Tryd.f8 (OpenSpec.ofChange Rows.ringViewsSpec) false w args)
      (Rows.ringViewsSpec.post enc Tryd.prog Tryd.f8 false true false false) := by
  refine returnsInHanded_of_change_and (C := Tryd.checked) (X := fun w _ => laidMetH Tryd.prog laidL w) (fun _ _ _ hh h => h.of_heap hh) Tryd.own started (by kernel_rfl) Tryd.func8
    (ChangeSpec.witness_shaped (enc := enc) (C := Tryd.checked) (os := os) (X := fun w _ => laidMetH Tryd.prog laidL w) false (World.doorLaid Tryd.prog 24 os) #[.agg #[.int .i64 0, .slice none 0 0], .agg #[.int .i64 0, .slice none 0 0]] 8 rfl (World.shaped_of_RefB (by kernel_rfl) (by kernel_rfl)) (by kernel_rfl) (by kernel_rfl) (by kernel_rfl) (door_met os _)) ?_
  intro W base args ds gs before hval0 hW _ _ hL _
  have hval : ∀ (j : Nat) t v, Tryd.f8.params[j]? = some t → args[j]? = some v → Value.okWide Tryd.prog W .any base t v := hval0
  have hW' := hW
  obtain ⟨p, q, hA0, hV, rfl, _, _⟩ := hW
  have hA : DataW.TrodAll enc Tryd.prog W 0 (fun _ => true) true Tryd.f8.params.toList args.toList ds p := hA0
  rw [Tryd.params8] at hA hval
  obtain ⟨v0, vs0, d0, ds0, p0, q0, hargs, rfl, rfl, h0, r0⟩ := trodAll_cons hA
  obtain ⟨v1, vs1, d1, ds1, p1, q1, rfl, rfl, rfl, h1, r1⟩ := trodAll_cons r0
  obtain ⟨rfl, rfl, rfl⟩ := trodAll_nil r1
  obtain rfl : args = #[v0, v1] := by cases args; simp_all
  obtain ⟨rfl, rfl⟩ := trodVars_none hV
  have k0 := h0
  have k1 := h1
  have lt0 : ∀ x ∈ p0, x.block < W.heap.size := by obtain ⟨m, hm⟩ := k0; exact DataW.trod_lt m _ _ _ hm
  have lt1 : ∀ x ∈ p1, x.block < W.heap.size := by obtain ⟨m, hm⟩ := k1; exact DataW.trod_lt m _ _ _ hm
  obtain ⟨n0, a0, len0, cap0, z0, rfl, w0⟩ := view_open (hval 0 68 v0 rfl rfl) h0
  obtain ⟨n1, a1, len1, cap1, z1, rfl, w1⟩ := view_open (hval 1 68 v1 rfl rfl) h1
  clear hA0 hval0
  refine (ringViews_walk _ _ _ _ _ _ _ _ _ _ W w0 w1).mono fun e W' ⟨he, bel⟩ => ?_
  subst he
  exact ⟨_, rfl, _, _, _, [], _, [], hW', trodAll_mk1 (shut_bool Tryd.underlying4 _), (trodAll_cons_mk (Below.trod Tryd.laidOut (by kernel_rfl) (of_decide_eq_true (by kernel_rfl)) k0 bel lt0) (trodAll_cons_mk (Below.trod Tryd.laidOut (by kernel_rfl) (of_decide_eq_true (by kernel_rfl)) k1 bel lt1) trodAll_mk0)), rfl, bel.frame _, fun h => by cases h⟩

theorem ringViews_row : Rows.RingViewsSaid :=
  OpenClaim.holds_of_wide 8 Tryd.f8 rfl rfl rfl rfl rfl rfl rfl ⟨rfl, rfl, rfl, rfl, rfl⟩ rfl rfl rfl rfl rfl (by kernel_rfl) Tryd.func8 (by kernel_rfl)
    (of_decide_eq_true (by kernel_rfl)) (by unfold Func.isWrapper; first | (rw [if_pos (by decide +kernel)]; kernel_rfl) | (rw [if_neg (by decide +kernel)]; exact ⟨rfl, rfl⟩))
    (fun os started H enc _ => ringViews_lifted os started H enc)

theorem ringViews_holds : Rows.RingViewsCardSaid :=
  Claim7.holds_tied_plain_at .later [] [.data, .data, .data] true Rows.ringViewsCard.stood.harness false
    ringViews_row (fun _ h => by cases h) (by kernel_rfl) (fun _ h => by cases h) ringViews_row_tie rfl ⟨rfl, rfl⟩ (by kernel_rfl) rfl
    (fun f fn hf hfn => by
      obtain rfl : f = 8 := Option.some.inj ((show Tryd.prog.funcNamed "tiller/tillerlaw06.RingViews" = some 8 by kernel_rfl).symm.trans hf) |>.symm
      obtain rfl : fn = Tryd.f8 := (Option.some.inj (Tryd.func8.symm.trans hfn)).symm
      exact ⟨by kernel_rfl, fun j t ht => by
        rw [Tryd.params8] at ht
        have hm : t ∈ [68] := by simpa using Array.mem_of_getElem? ht
        have hall : ([68].all fun u => !Tryd.prog.wantsStandIn u) = true := by kernel_rfl
        exact (show Tryd.prog.wantsStandIn t = false by simpa using List.all_eq_true.1 hall t hm)⟩)
    (by kernel_rfl)

end Go.Proofs.YtnhmdeglaoilcaaDoor
