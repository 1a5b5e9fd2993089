/-
  DagCheck holds for all rows of definitions: the law's call returns true and leaves its argument as it was. No condition; the listed variables are tied to the program's text.
-/
import Derived.Test.YtoonnbagppliaaaDoorDBox
import Derived.Test.YtoonnbagppliaaaDoorDRefCheck
import Derived.Deep.QuietTactic
import Derived.BigQuiet
namespace Go.Proofs.YtoonnbagppliaaaDoor
open Go.ChangeShapes Go.WideShapes Go.ChangeAt Go.RowKit Go.Deep

/-- Definitions that lie in a row. -/
def DefsAt (w : World) (a : Option Addr) (len : Nat) : Prop := len = 0 ∨ ∃ b o, a = some ⟨b, o, none⟩ ∧ ∀ i, i < len → ∃ name a' c' ns, w.cell? ⟨b, o + i * 2, none⟩ = some (.string name) ∧ w.cell? ⟨b, o + i * 2 + 1, none⟩ = some (.slice a' (ns : List Nd).length c') ∧ name.size ≤ maxLen ∧ ns.length ≤ c' ∧ RawAt w a' ns

set_option maxRecDepth 100000 in
theorem defs_open {H : Type} {enc : TypeId × Value → H} {W : World} {base : Nat} {held : Bool} {fuel : Nat} {v : Value} {x : DataW H × List MemPlace} (h : DataW.trod enc Tryd.prog W base (fun _ => true) held fuel 22 [v] = some x) :
    ∃ a len c, v = .slice a len c ∧ len ≤ c ∧ DefsAt W a len := by
  have kO : Tryd.prog.cellsOf 25 = 2 := by kernel_rfl
  rcases Deep.open_slice Tryd.underlying22 h with ⟨hcs, hx⟩ | ⟨a, len, cap, m, n, D, Pl, hcs, hb, hl, hm, hmm, hx, hel⟩
  · simp only [List.cons.injEq, and_true] at hcs
    subst hcs
    exact ⟨none, 0, 0, rfl, Nat.le_refl _, .inl rfl⟩
  · simp only [List.cons.injEq, and_true] at hcs
    subst hcs
    have hlm : len ≤ m := by rw [hmm]; split <;> omega
    have each : ∀ i, i < len → ∃ name a' c' ns, W.cell? (a.add (i * 2)) = some (.string name) ∧ W.cell? (a.add (i * 2 + 1)) = some (.slice a' (ns : List Nd).length c') ∧ name.size ≤ maxLen ∧ ns.length ≤ c' ∧ RawAt W a' ns := by
      intro i hi
      obtain ⟨cs', h1, h2⟩ := hel i (by omega)
      rw [kO] at h1
      obtain ⟨_, hlen, hcell⟩ := World.cells?_some h1
      obtain ⟨c0, c1, name, ns, rfl, R⟩ := def_open h2 hlen
      obtain ⟨rfl, hn, a', c', rfl, g1, g2, g3⟩ := R
      have q0 := hcell 0 (by decide)
      have q1 := hcell 1 (by decide)
      rw [Deep.add_add] at q0 q1
      exact ⟨name, a', c', ns, by simpa using q0, by simpa using q1, hn, g1, g3⟩
    rcases Nat.eq_zero_or_pos len with h0 | h0
    · subst h0
      exact ⟨some a, 0, cap, rfl, Nat.zero_le _, .inl rfl⟩
    · obtain ⟨_, _, _, _, h00, _⟩ := each 0 h0
      obtain ⟨b, off, rfl⟩ := addr_form (by simpa using h00)
      refine ⟨_, len, cap, rfl, hl, .inr ⟨b, off, rfl, fun i hi => ?_⟩⟩
      obtain ⟨name, a', c', ns, q0, q1, q2⟩ := each i hi
      rw [Addr.add_lit] at q0 q1
      exact ⟨name, a', c', ns, q0, by rw [Nat.add_assoc]; exact q1, q2⟩

theorem cutNs_few (ns : List Nd) : (cutNs ns).length ≤ 40 ∧ ∀ n ∈ cutNs ns, n.after.length ≤ 10 := by
  refine ⟨by unfold cutNs; simp; omega, fun n hn => ?_⟩
  unfold cutNs at hn
  obtain ⟨m, _, rfl⟩ := List.mem_map.1 hn
  show (m.after.take 10).length ≤ 10
  rw [List.length_take]; omega

set_option maxRecDepth 100000 in
set_option maxHeartbeats 4000000 in
theorem dagCheck_walk (a : Option Addr) (len cap : Nat) (w : World) (D : DefsAt w a len) :
    Calls Tryd.prog 3 #[.slice a len cap] w fun e w' => e = .returned (.bool true) ∧ Below w.heap.size w w' := by
  have hW := fun V => wakes_any V
  have HD : Hid (DefsAt w a len) := D
  clear D
  go_enter Tryd.func3, Tryd.ntmps3
  go_wp2_with fail
  go_loopw [3] (fun q wr => ∃ (k : Nat), k ≤ len ∧ k ≤ 10 ∧ q = .int .i64 k ∧ Kept (fun _ => False) w wr) (fun q _ => len - (intOf q).toNat)
  case atStart => exact ⟨0, Nat.zero_le _, by decide, rfl, Kept.refl _ _⟩
  case round =>
    obtain ⟨k, hk, hk10, rfl, K⟩ := hrel
    by_cases hlt : k < len
    · have e0 : (k : Int) < (len : Int) := by omega
      by_cases h10 : k < 10
      · have e2 : (k : Int) < 10 := by omega
        obtain ⟨b, o, rfl, hd⟩ : ∃ b o, a = some ⟨b, o, none⟩ ∧ _ := by
          rcases HD.out with h | h
          · omega
          · exact h
        obtain ⟨name, a', c', ns, x0, x1, hnm, hcc, R⟩ := hd k hlt
        have y0 := keepC K x0 (fun _ _ h => h)
        have y1 := keepC K x1 (fun _ _ h => h)
        have hCut := lawCut_any wr name a' ns.length c' ns (R.kept K (fun _ _ h => h)) rfl hcc
        obtain ⟨hl40, hf10⟩ := cutNs_few ns
        generalize cutNs ns = ms at *
        have HC1 : Hid (∀ V a' c', NodesAt V a' ms → Calls Tryd.prog 5 #[.agg #[.string name, .slice a' ms.length c']] V fun e w' => e = .returned (.tuple #[.int .i64 (checkP name ms).1, .int .i64 (checkP name ms).2]) ∧ Kept (fun _ => False) V w') := fun V a' c' N => check_any V name a' ms.length c' ms N rfl
        have HC2 : Hid (∀ V a' c', NodesAt V a' ms → Calls Tryd.prog 6 #[.agg #[.string name, .slice a' ms.length c']] V fun e w' => e = .returned (.tuple #[.int .i64 (checkP name ms).1, .int .i64 (checkP name ms).2]) ∧ Kept (fun _ => False) V w') := fun V a' c' N => refCheck_any V name a' c' ms N (Nat.le_trans hl40 (by omega)) (fun n hn => Nat.le_trans (hf10 n hn) (by omega)) hnm
        have q1 : ((checkP name ms).1 != (checkP name ms).1) = false := by simp
        have q2 : ((checkP name ms).2 != (checkP name ms).2) = false := by simp
        generalize (checkP name ms).1 = z1 at *
        generalize (checkP name ms).2 = z2 at *
        clear hd x0 x1 R hf10 HD
        go_wp2_with (first
          | (go_at_call 4; refine hCut.mono ?_; rintro e w1 ⟨ac, cc, rfl, N1, hc1, K1⟩; clear hCut; have N2 := keptNew (Kept.alloc (fun _ => False) w1 (.cells #[.string name, .slice ac ms.length cc] 25)) N1; have hC1 := HC1.out _ _ cc N2; have HN2 : Hid (NodesAt (w1.alloc (.cells #[.string name, .slice ac ms.length cc] 25)) ac ms) := N2; clear N1 N2 HC1)
          | (go_at_call 5; refine hC1.mono ?_; rintro e w2 ⟨rfl, K2⟩; clear hC1; have hb2 := boxD K2; obtain ⟨d0, d1⟩ := hb2; have hC2 := HC2.out w2 _ cc (keptNew K2 HN2.out); clear HC2)
          | (go_at_call 6; refine hC2.mono ?_; rintro e w3 ⟨rfl, K3⟩; clear hC2)
          | fail)
        go_roundw
        case rel => exact ⟨k + 1, by omega, by omega, by go_num, (((K.and K1).and (Kept.alloc _ _ _)).and K2).and K3⟩
        case measure => simp [intOf]; omega
      · have e2 : ¬ (k : Int) < 10 := by omega
        go_wp2_with (first
          | (go_at_call 7; refine (hW _).mono ?_; rintro e w1 ⟨rfl, K1⟩; clear hW)
          | fail)
        go_ret
        exact ⟨rfl, (K.and K1).none⟩
    · have e0 : ¬ (k : Int) < (len : Int) := by omega
      go_wp2_with (first
        | (go_at_call 7; refine (hW _).mono ?_; rintro e w1 ⟨rfl, K1⟩; clear hW)
        | fail)
      go_ret
      exact ⟨rfl, (K.and K1).none⟩

set_option maxRecDepth 100000 in
theorem dagCheck_lifted (os : Os) (started : os.Started) (H : Type) (enc : TypeId × Value → H) :
    ReturnsInHanded {} Tryd.checked os 3 .any (fun w args => (Rows.dagCheckSpec.pre enc Tryd.prog Tryd.f3 [] false w args ∧ laidMetH Tryd.prog laidL w) ∧ sizedMet enc Tryd.prog Tryd.f3 (OpenSpec.ofChange Rows.dagCheckSpec) false w args)
      (Rows.dagCheckSpec.post enc Tryd.prog Tryd.f3 false true false false) := by
  refine returnsInHanded_of_change_and (C := Tryd.checked) (X := fun w _ => laidMetH Tryd.prog laidL w) (fun _ _ _ hh h => h.of_heap hh) Tryd.own started (by kernel_rfl) Tryd.func3
    (ChangeSpec.witness_shaped (enc := enc) (C := Tryd.checked) (os := os) (X := fun w _ => laidMetH Tryd.prog laidL w) false (World.doorLaid Tryd.prog 62 os) #[.slice none 0 0] 8 rfl (World.shaped_of_RefB (by kernel_rfl) (by kernel_rfl)) (by kernel_rfl) (by kernel_rfl) (by kernel_rfl) (door_met os _)) ?_
  intro W base args ds gs before hval0 hW _ _ hL _
  have hval : ∀ (j : Nat) t v, Tryd.f3.params[j]? = some t → args[j]? = some v → Value.okWide Tryd.prog W .any base t v := hval0
  have hW' := hW
  obtain ⟨p, q, hA0, hV, rfl, _, _⟩ := hW
  have hA : DataW.TrodAll enc Tryd.prog W 0 (fun _ => true) true Tryd.f3.params.toList args.toList ds p := hA0
  rw [Tryd.params3] at hA hval
  obtain ⟨v0, vs0, d0, ds0, p0, q0, hargs, rfl, rfl, h0, r0⟩ := trodAll_cons hA
  obtain ⟨rfl, rfl, rfl⟩ := trodAll_nil r0
  obtain rfl : args = #[v0] := by cases args; simp_all
  obtain ⟨rfl, rfl⟩ := trodVars_none hV
  have k0 := h0
  have lt0 : ∀ x ∈ p0, x.block < W.heap.size := by obtain ⟨m, hm⟩ := k0; exact DataW.trod_lt m _ _ _ hm
  obtain ⟨a0', len0', cap0', rfl⟩ := okWide_slice Tryd.underlying22 (hval 0 22 v0 rfl rfl)
  obtain ⟨a0, len0, cap0, e0, _, w0⟩ : ∃ a len cap, Value.slice a0' len0' cap0' = .slice a len cap ∧ len ≤ cap ∧ DefsAt W a len := by
    obtain ⟨fuel, hf⟩ := h0
    exact defs_open hf
  simp only [Value.slice.injEq] at e0
  obtain ⟨rfl, rfl, rfl⟩ := e0
  clear hA0 hval0
  refine (dagCheck_walk _ _ _ W w0).mono fun e W' ⟨he, bel⟩ => ?_
  subst he
  exact ⟨_, rfl, _, _, _, [], _, [], hW', trodAll_mk1 (shut_bool Tryd.underlying4 _), (trodAll_cons_mk (Below.trod Tryd.laidOut (by kernel_rfl) (of_decide_eq_true (by kernel_rfl)) k0 bel lt0) trodAll_mk0), rfl, bel.frame _, fun h => by cases h⟩

theorem dagCheck_row : Rows.DagCheckSaid :=
  OpenClaim.holds_of_wide 3 Tryd.f3 rfl rfl rfl rfl rfl rfl rfl ⟨rfl, rfl, rfl, rfl, rfl⟩ rfl rfl rfl rfl rfl (by kernel_rfl) Tryd.func3 (by kernel_rfl)
    (of_decide_eq_true (by kernel_rfl)) (by unfold Func.isWrapper; first | (rw [if_pos (by decide +kernel)]; kernel_rfl) | (rw [if_neg (by decide +kernel)]; exact ⟨rfl, rfl⟩))
    (fun os started H enc _ => dagCheck_lifted os started H enc)

theorem dagCheck_holds : Rows.DagCheckCardSaid :=
  Claim7.holds_tied_plain_at .later [] [.data, .data, .data, .sentinel, .sentinel] true Rows.dagCheckCard.stood.harness true
    dagCheck_row (fun _ h => by cases h) (by kernel_rfl) (fun _ h => by cases h) dagCheck_row_tie rfl ⟨rfl, rfl⟩ (by kernel_rfl) rfl
    (fun f fn hf hfn => by
      obtain rfl : f = 3 := Option.some.inj ((show Tryd.prog.funcNamed "tiller/tillerlaw08.DagCheck" = some 3 by kernel_rfl).symm.trans hf) |>.symm
      obtain rfl : fn = Tryd.f3 := (Option.some.inj (Tryd.func3.symm.trans hfn)).symm
      exact ⟨by kernel_rfl, fun j t ht => by
        rw [Tryd.params3] at ht
        have hm : t ∈ [22] := by simpa using Array.mem_of_getElem? ht
        have hall : ([22].all fun u => !Tryd.prog.wantsStandIn u) = true := by kernel_rfl
        exact (show Tryd.prog.wantsStandIn t = false by simpa using List.all_eq_true.1 hall t hm)⟩)
    (by kernel_rfl)

end Go.Proofs.YtoonnbagppliaaaDoor
