/-
  RingHosts holds for all hosts, points, shards and stops: the law's call returns true and leaves its argument as it was. No condition; the listed tables are tied to the program's text.
-/
import Derived.Test.YtjfgjmiedmpieaaDoorRCard
import Derived.Test.YtjfgjmiedmpieaaDoorRHoA
import Derived.Test.YtjfgjmiedmpieaaDoorRHoB
import Derived.Test.YtjfgjmiedmpieaaDoorRHoC
import Derived.Test.YtjfgjmiedmpieaaDoorRHoD
import Derived.Lib.SmallJoins
import Derived.JoinedCond
namespace Go.Proofs.YtjfgjmiedmpieaaDoor
open Go.ChangeShapes Go.WideShapes Go.ChangeAt Go.RowKit Go.Deep

theorem ringHosts_walk (aL : Option Addr) (mL cL : Nat) (zs : List Int) (p stop : Int) (aS : Option Addr) (mS cS : Nat) (ss : List Int) (w : World) (BL : IntsAt w aL mL cL zs) (BS : IntsAt w aS mS cS ss) (hss : ∀ z ∈ ss, -9223372036854775808 ≤ z ∧ z ≤ 9223372036854775807) (T : Pow10 w) :
    Calls Tryd.prog 3 #[.agg #[.slice aL mL cL, .int .i64 p, .int .i64 stop, .slice aS mS cS]] w fun e w' => e = .returned (.bool true) ∧ Below w.heap.size w w' := by
  rcases Nat.lt_or_ge 20 mL with h1 | h1
  · rcases Nat.lt_or_ge 12 mS with h2 | h2
    · exact ringHosts_d _ _ _ _ _ _ _ _ _ _ w BL BS hss T h1 h2
    · exact ringHosts_c _ _ _ _ _ _ _ _ _ _ w BL BS hss T h1 h2
  · rcases Nat.lt_or_ge 12 mS with h2 | h2
    · exact ringHosts_b _ _ _ _ _ _ _ _ _ _ w BL BS hss T h1 h2
    · exact ringHosts_a _ _ _ _ _ _ _ _ _ _ w BL BS hss T h1 h2

theorem array4 {α : Type} {cs : Array α} (h : cs.size = 4) : ∃ c0 c1 c2 c3, cs = #[c0, c1, c2, c3] := by
  obtain ⟨l⟩ := cs
  match l, h with
  | [c0, c1, c2, c3], _ => exact ⟨c0, c1, c2, c3, rfl⟩

/-- A row of ints, opened, with what its numbers can be. -/
theorem ints_open_b {H : Type} {enc : TypeId × Value → H} {P : Program} {w : World} {base : Nat} {held : Bool} {t e : TypeId} {fuel : Nat} {v : Value} {x : DataW H × List MemPlace} (ht : P.underlying t = some (.slice e)) (he : P.underlying e = some (.int .i64)) (hc : P.cellsOf e = 1)
    (h : DataW.trod enc P w base (fun _ => true) held fuel t [v] = some x) : ∃ a len cap zs, v = .slice a len cap ∧ IntsAt w a len cap zs ∧ ∀ z ∈ zs, -9223372036854775808 ≤ z ∧ z ≤ 9223372036854775807 := by
  obtain ⟨a, len, cap, zs, hv, hr⟩ := isRow_open ht he hc h
  refine ⟨a, len, cap, zs.take len, hv, ?_, ?_⟩
  · rcases hr with ⟨rfl, rfl, rfl, rfl⟩ | ⟨x, rfl, h1, h2, h3, hcell, _⟩
    · exact ⟨rfl, Nat.le_refl _, fun _ => rfl, fun ad h => (by cases h)⟩
    · refine ⟨by rw [List.length_take]; omega, h1, fun h => (by cases h), fun ad e j hj => ?_⟩
      cases e
      have hj2 : j < zs.length := by rw [List.length_take] at hj; omega
      rw [hcell j hj2, List.getElem_take, List.getD_eq_getElem?_getD, List.getElem?_eq_getElem hj2]
      rfl
  · intro z hz
    rcases hr with ⟨rfl, rfl, rfl, rfl⟩ | ⟨x, rfl, h1, h2, h3, hcell, hw⟩
    · simp at hz
    · have := hw z (List.mem_of_mem_take hz)
      simp [Lit.wf, IntKind.min, IntKind.max, IntKind.signed, IntKind.bits] at this
      omega

set_option maxRecDepth 100000 in
/-- The law's argument, opened. -/
theorem hosts_open {H : Type} {enc : TypeId × Value → H} {W : World} {base b0 : Nat} {r : Reach} {held : Bool} {v : Value} {d : DataW H} {p : List MemPlace}
    (hv : Value.okWide Tryd.prog W r b0 24 v) (h : DataW.Trod enc Tryd.prog W base (fun _ => true) held 24 v d p) :
    ∃ (aL : Option Addr) (mL cL : Nat) (zs : List Int) (n1 n2 : Int) (aS : Option Addr) (mS cS : Nat) (ss : List Int), v = .agg #[.slice aL mL cL, .int .i64 n1, .int .i64 n2, .slice aS mS cS] ∧ IntsAt W aL mL cL zs ∧ IntsAt W aS mS cS ss ∧ ∀ z ∈ ss, -9223372036854775808 ≤ z ∧ z ≤ 9223372036854775807 := by
  obtain ⟨cs, rfl, hsz⟩ := okWide_struct Tryd.underlying24 hv
  obtain ⟨c0, c1, c2, c3, rfl⟩ := array4 (hsz.trans (by kernel_rfl))
  have kI : Tryd.prog.cellsOf 3 = 1 := by kernel_rfl
  have kS : Tryd.prog.cellsOf 22 = 1 := by kernel_rfl
  obtain ⟨fuel, hf⟩ := h
  obtain ⟨y0, y1, y2, y3, n, hx, hl, h0, h1, h2, h3⟩ := Go.Joins.trod_struct4 Tryd.underlying24 hf
  have t0 : DataW.trod enc Tryd.prog W base (fun _ => true) held n 22 [c0] = some y0 := by simpa [Value.cells, kS] using h0
  have t1 : DataW.trod enc Tryd.prog W base (fun _ => true) held n 3 [c1] = some y1 := by simpa [Value.cells, kI, kS] using h1
  have t2 : DataW.trod enc Tryd.prog W base (fun _ => true) held n 3 [c2] = some y2 := by simpa [Value.cells, kI, kS] using h2
  have t3 : DataW.trod enc Tryd.prog W base (fun _ => true) held n 22 [c3] = some y3 := by simpa [Value.cells, kI, kS] using h3
  obtain ⟨x1, e1, rfl, _⟩ := DataW.trod_int Tryd.underlying3 t1
  obtain ⟨x2, e2, rfl, _⟩ := DataW.trod_int Tryd.underlying3 t2
  obtain ⟨a0, m0, k0, z0, e0, I0⟩ := ints_open Tryd.underlying22 Tryd.underlying3 (by kernel_rfl) t0
  obtain ⟨a3, m3, k3, z3, e3, I3, hb3⟩ := ints_open_b Tryd.underlying22 Tryd.underlying3 (by kernel_rfl) t3
  simp only [List.cons.injEq, and_true] at e1 e2
  subst e0 e1 e2 e3
  exact ⟨_, _, _, _, _, _, _, _, _, _, rfl, I0, I3, hb3⟩

set_option maxRecDepth 100000 in
theorem ringHosts_lifted (os : Os) (started : os.Started) (H : Type) (enc : TypeId × Value → H) :
    ReturnsInHanded {} Tryd.checked os 3 .any (fun w args => (Rows.ringHostsSpec.pre enc Tryd.prog Tryd.f3 [] false w args ∧ laidMetH Tryd.prog laidL w) ∧ sizedMet enc Tryd.prog Tryd.f3 (OpenSpec.ofChange Rows.ringHostsSpec) false w args)
      (Rows.ringHostsSpec.post enc Tryd.prog Tryd.f3 false true false false) := by
  refine returnsInHanded_of_change_and (C := Tryd.checked) (X := fun w _ => laidMetH Tryd.prog laidL w) (fun _ _ _ hh h => h.of_heap hh) Tryd.own started (by kernel_rfl) Tryd.func3
    (ChangeSpec.witness_shaped (enc := enc) (C := Tryd.checked) (os := os) (X := fun w _ => laidMetH Tryd.prog laidL w) false (World.doorLaid Tryd.prog 24 os) #[.agg #[.slice none 0 0, .int .i64 0, .int .i64 0, .slice none 0 0]] 8 rfl (World.shaped_of_RefB (by kernel_rfl) (by kernel_rfl)) (by kernel_rfl) (by kernel_rfl) (by kernel_rfl) (door_met os _)) ?_
  intro W base args ds gs before hval0 hW _ _ hL _
  have hval : ∀ (j : Nat) t v, Tryd.f3.params[j]? = some t → args[j]? = some v → Value.okWide Tryd.prog W .any base t v := hval0
  have hW' := hW
  obtain ⟨p, q, hA0, hV, rfl, _, _⟩ := hW
  have hA : DataW.TrodAll enc Tryd.prog W 0 (fun _ => true) true Tryd.f3.params.toList args.toList ds p := hA0
  rw [Tryd.params3] at hA hval
  obtain ⟨v0, vs0, d0, ds0, p0, q0, hargs, rfl, rfl, h0, r0⟩ := trodAll_cons hA
  obtain ⟨rfl, rfl, rfl⟩ := trodAll_nil r0
  obtain rfl : args = #[v0] := by cases args; simp_all
  obtain ⟨rfl, rfl⟩ := trodVars_none hV
  have k0 := h0
  have lt0 : ∀ x ∈ p0, x.block < W.heap.size := by obtain ⟨m, hm⟩ := k0; exact DataW.trod_lt m _ _ _ hm
  obtain ⟨aL0, mL0, cL0, zL0, p0', s0', aS0, mS0, cS0, zS0, rfl, wL0, wS0, wb0⟩ := hosts_open (hval 0 24 v0 rfl rfl) h0
  clear hA0 hval0
  refine (ringHosts_walk _ _ _ _ _ _ _ _ _ _ W wL0 wS0 wb0 (pow10_laid hL)).mono fun e W' ⟨he, bel⟩ => ?_
  subst he
  exact ⟨_, rfl, _, _, _, [], _, [], hW', trodAll_mk1 (shut_bool Tryd.underlying4 _), (trodAll_cons_mk (Below.trod Tryd.laidOut (by kernel_rfl) (of_decide_eq_true (by kernel_rfl)) k0 bel lt0) trodAll_mk0), rfl, bel.frame _, fun h => by cases h⟩

theorem ringHosts_row : Rows.RingHostsSaid :=
  OpenClaim.holds_of_wide 3 Tryd.f3 rfl rfl rfl rfl rfl rfl rfl ⟨rfl, rfl, rfl, rfl, rfl⟩ rfl rfl rfl rfl rfl (by kernel_rfl) Tryd.func3 (by kernel_rfl)
    (of_decide_eq_true (by kernel_rfl)) (by unfold Func.isWrapper; first | (rw [if_pos (by decide +kernel)]; kernel_rfl) | (rw [if_neg (by decide +kernel)]; exact ⟨rfl, rfl⟩))
    (fun os started H enc _ => ringHosts_lifted os started H enc)

theorem ringHosts_holds : Rows.RingHostsCardSaid :=
  Claim7.holds_tied_plain_at .later [] [.data, .data, .data] true Rows.ringHostsCard.stood.harness false
    ringHosts_row (fun _ h => by cases h) (by kernel_rfl) (fun _ h => by cases h) ringHosts_row_tie rfl ⟨rfl, rfl⟩ (by kernel_rfl) rfl
    (fun f fn hf hfn => by
      obtain rfl : f = 3 := Option.some.inj ((show Tryd.prog.funcNamed "tiller/tillerlaw06.RingHosts" = some 3 by kernel_rfl).symm.trans hf) |>.symm
      obtain rfl : fn = Tryd.f3 := (Option.some.inj (Tryd.func3.symm.trans hfn)).symm
      exact ⟨by kernel_rfl, fun j t ht => by
        rw [Tryd.params3] at ht
        have hm : t ∈ [24] := by simpa using Array.mem_of_getElem? ht
        have hall : ([24].all fun u => !Tryd.prog.wantsStandIn u) = true := by kernel_rfl
        exact (show Tryd.prog.wantsStandIn t = false by simpa using List.all_eq_true.1 hall t hm)⟩)
    (by kernel_rfl)

end Go.Proofs.YtjfgjmiedmpieaaDoor
