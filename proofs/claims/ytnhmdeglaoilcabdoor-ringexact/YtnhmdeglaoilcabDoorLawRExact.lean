/-
  RingExact holds for all texts and bytes: the law's call returns true and leaves its arguments as they were. No condition; the listed tables are tied to the program's text.
-/
import Derived.Test.YtnhmdeglaoilcabDoorRCard
import Derived.Test.YtnhmdeglaoilcabDoorRShard
namespace Go.Proofs.YtnhmdeglaoilcabDoor
open Go.ChangeShapes Go.WideShapes Go.ChangeAt Go.RowKit

theorem cat_run (W : World) (a b : ByteArray) (h : a.size + b.size ≤ 1000000) : (Op.stringOp .add a b).run Tryd.prog W = .ok (.string (a ++ b)) W := by
  unfold Op.stringOp
  dsimp only
  rw [if_neg (by simp [IntKind.max, IntKind.signed, IntKind.bits]; omega)]
  rfl

/-- One byte as a text. -/
theorem byte_str (w : World) (x : Int) (hx : 0 ≤ x ∧ x ≤ 255) : (convert 44 9 (.slice (some ⟨w.heap.size, 0, none⟩) 1 1)).run Tryd.prog (w.alloc (.cells #[.int .u8 x] 5)) = .ok (.string (strOfNums [x])) (w.alloc (.cells #[.int .u8 x] 5)) :=
  BytesAt.str (b := [x]) ⟨rfl, Nat.le_refl _, fun h => (by cases h), fun ad h => (by cases h; exact World.news_of_block (heap_alloc_new w _)), fun y hy => by simp at hy; omega⟩

set_option maxRecDepth 100000 in
set_option maxHeartbeats 2000000 in
theorem ringExact_walk (s : ByteArray) (x : Int) (hx : 0 ≤ x ∧ x ≤ 255) (w : World) :
    Calls Tryd.prog 5 #[.string s, .int .u8 x] w fun e w' => e = .returned (.bool true) ∧ Below w.heap.size w w' := by
  have hW := fun V => wakes_any V
  have C := fun V => clip_any V s
  have hsz := clipS_size s
  generalize clipS s = c at *
  have c1 : (strOfNums [x]).size = 1 := rfl
  have S1 := fun V => byte_str V x hx
  have S2 := byte_str (w.alloc (.cells #[.int .u8 x] 5)) x hx
  rw [show (w.alloc (.cells #[.int .u8 x] 5)).heap.size = w.heap.size + 1 by simp] at S2
  generalize strOfNums [x] = b at *
  have ct := fun V => cat_run V c b (by omega)
  have hcb : (c ++ b).size ≤ 501 := by rw [ByteArray.size_append]; omega
  generalize c ++ b = t at *
  have P := fun V => point_any V t (by omega)
  have R := fun V => refPoint_any V t (by omega)
  have hz := point_in t.data.toList
  generalize point t.data.toList = z at *
  have k1 : ∀ W, (convert 45 3 (.float .f64 (fl z.1))).run Tryd.prog W = .ok (.int .i64 z.1) W := fun W =>
    run_convert_float_int W 45 3 .f64 .i64 _ _ (by rw [Tryd.underlying45]; rfl) Tryd.underlying3 (isF_toInt hz.f1 (by have := hz.1; omega) (by have := hz.1; omega))
  have k2 : ∀ W, (convert 45 3 (.float .f64 (fl z.2))).run Tryd.prog W = .ok (.int .i64 z.2) W := fun W =>
    run_convert_float_int W 45 3 .f64 .i64 _ _ (by rw [Tryd.underlying45]; rfl) Tryd.underlying3 (isF_toInt hz.f2 (by have := hz.2; omega) (by have := hz.2; omega))
  have i1 : ∀ W, (convert 3 45 (.int .i64 z.1)).run Tryd.prog W = .ok (.float .f64 (fl z.1)) W := fun W =>
    run_convert_int_float W 3 45 .i64 .f64 z.1 (by rw [Tryd.underlying3]; rfl) Tryd.underlying45
  have i2 : ∀ W, (convert 3 45 (.int .i64 z.2)).run Tryd.prog W = .ok (.float .f64 (fl z.2)) W := fun W =>
    run_convert_int_float W 3 45 .i64 .f64 z.2 (by rw [Tryd.underlying3]; rfl) Tryd.underlying45
  have q1 := isF_eq hz.f1 hz.f1
  have q2 := isF_eq hz.f2 hz.f2
  simp only [decide_true] at q1 q2
  unfold cx at P
  unfold pv at R
  obtain ⟨⟨g1, g2⟩, g3, g4⟩ := hz
  generalize fl z.1 = p at *
  generalize fl z.2 = q at *
  generalize z.1 = m at *
  generalize z.2 = n at *
  clear hsz c1 hcb
  go_enter Tryd.func5, Tryd.ntmps5
  go_wp2_with (first
    | (go_at_call 17; refine (C _).mono ?_; rintro e w1 ⟨rfl, hw1⟩; subst w1)
    | (go_at_call 13; refine (P _).mono ?_; rintro e w1 ⟨rfl, hw1⟩; subst w1)
    | (go_at_call 18; refine (R _).mono ?_; rintro e w1 ⟨rfl, K1⟩)
    | (go_at_call 12; refine (hW _).mono ?_; rintro e w2 ⟨rfl, K2⟩)
    | fail)
  go_ret
  exact ⟨rfl, ((((Kept.alloc (fun _ => False) _ _).and (Kept.alloc _ _ _)).and K1).and ((Kept.alloc _ _ _).and K2)).none⟩

set_option maxRecDepth 100000 in
theorem ringExact_lifted (os : Os) (started : os.Started) (H : Type) (enc : TypeId × Value → H) :
    ReturnsInHanded {} Tryd.checked os 5 .any (fun w args => (Rows.ringExactSpec.pre enc Tryd.prog Tryd.f5 [] false w args ∧ laidMetH Tryd.prog laidL w) ∧ sizedMet enc Tryd.prog Tryd.f5 (OpenSpec.ofChange Rows.ringExactSpec) false w args)
      (Rows.ringExactSpec.post enc Tryd.prog Tryd.f5 false true false false) := by
  refine returnsInHanded_of_change_and (C := Tryd.checked) (X := fun w _ => laidMetH Tryd.prog laidL w) (fun _ _ _ hh h => h.of_heap hh) Tryd.own started (by kernel_rfl) Tryd.func5
    (ChangeSpec.witness_shaped (enc := enc) (C := Tryd.checked) (os := os) (X := fun w _ => laidMetH Tryd.prog laidL w) false (World.doorLaid Tryd.prog 24 os) #[.string ⟨#[]⟩, .int .u8 0] 8 rfl (World.shaped_of_RefB (by kernel_rfl) (by kernel_rfl)) (by kernel_rfl) (by kernel_rfl) (by kernel_rfl) (door_met os _)) ?_
  intro W base args ds gs before hval0 hW _ _ _ _
  have hval : ∀ (j : Nat) t v, Tryd.f5.params[j]? = some t → args[j]? = some v → Value.okWide Tryd.prog W .any base t v := hval0
  have hW' := hW
  obtain ⟨p, q, hA0, hV, rfl, _, _⟩ := hW
  have hA : DataW.TrodAll enc Tryd.prog W 0 (fun _ => true) true Tryd.f5.params.toList args.toList ds p := hA0
  rw [Tryd.params5] at hA hval
  obtain ⟨v0, vs0, d0, ds0, p0, q0, hargs, rfl, rfl, h0, r0⟩ := trodAll_cons hA
  obtain ⟨v1, vs1, d1, ds1, p1, q1, rfl, rfl, rfl, h1, r1⟩ := trodAll_cons r0
  obtain ⟨rfl, rfl, rfl⟩ := trodAll_nil r1
  obtain rfl : args = #[v0, v1] := by cases args; simp_all
  obtain ⟨rfl, rfl⟩ := trodVars_none hV
  have k0 := h0
  have k1 := h1
  have lt0 : ∀ x ∈ p0, x.block < W.heap.size := by obtain ⟨m, hm⟩ := k0; exact DataW.trod_lt m _ _ _ hm
  have lt1 : ∀ x ∈ p1, x.block < W.heap.size := by obtain ⟨m, hm⟩ := k1; exact DataW.trod_lt m _ _ _ hm
  obtain ⟨s, rfl, _⟩ := Go.ChangeMaps.open_string Tryd.underlying9 (hval 0 9 v0 rfl rfl) h0
  obtain ⟨x, rfl, _, _, hx⟩ := open_int Tryd.underlying5 (hval 1 5 v1 rfl rfl) h1
  clear hA0 hval0
  refine (ringExact_walk s x (u8_bd hx) W).mono fun e W' ⟨he, bel⟩ => ?_
  subst he
  exact ⟨_, rfl, _, _, _, [], _, [], hW', trodAll_mk1 (shut_bool Tryd.underlying4 _), (trodAll_cons_mk (Below.trod Tryd.laidOut (by kernel_rfl) (of_decide_eq_true (by kernel_rfl)) k0 bel lt0) (trodAll_cons_mk (Below.trod Tryd.laidOut (by kernel_rfl) (of_decide_eq_true (by kernel_rfl)) k1 bel lt1) trodAll_mk0)), rfl, bel.frame _, fun h => by cases h⟩

theorem ringExact_row : Rows.RingExactSaid :=
  OpenClaim.holds_of_wide 5 Tryd.f5 rfl rfl rfl rfl rfl rfl rfl ⟨rfl, rfl, rfl, rfl, rfl⟩ rfl rfl rfl rfl rfl (by kernel_rfl) Tryd.func5 (by kernel_rfl)
    (of_decide_eq_true (by kernel_rfl)) (by unfold Func.isWrapper; first | (rw [if_pos (by decide +kernel)]; kernel_rfl) | (rw [if_neg (by decide +kernel)]; exact ⟨rfl, rfl⟩))
    (fun os started H enc _ => ringExact_lifted os started H enc)

theorem ringExact_holds : Rows.RingExactCardSaid :=
  Claim7.holds_tied_plain_at .later [] [.data, .data, .data] true Rows.ringExactCard.stood.harness false
    ringExact_row (fun _ h => by cases h) (by kernel_rfl) (fun _ h => by cases h) ringExact_row_tie rfl ⟨rfl, rfl⟩ (by kernel_rfl) rfl
    (fun f fn hf hfn => by
      obtain rfl : f = 5 := Option.some.inj ((show Tryd.prog.funcNamed "tiller/tillerlaw06.RingExact" = some 5 by kernel_rfl).symm.trans hf) |>.symm
      obtain rfl : fn = Tryd.f5 := (Option.some.inj (Tryd.func5.symm.trans hfn)).symm
      exact ⟨by kernel_rfl, fun j t ht => by
        rw [Tryd.params5] at ht
        have hm : t ∈ [9, 5] := by simpa using Array.mem_of_getElem? ht
        have hall : ([9, 5].all fun u => !Tryd.prog.wantsStandIn u) = true := by kernel_rfl
        exact (show Tryd.prog.wantsStandIn t = false by simpa using List.all_eq_true.1 hall t hm)⟩)
    (by kernel_rfl)

end Go.Proofs.YtnhmdeglaoilcabDoor
