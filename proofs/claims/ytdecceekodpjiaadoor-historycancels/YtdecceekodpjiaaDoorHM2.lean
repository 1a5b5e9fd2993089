/-
  goOn: its region that draws its order.
-/
import Derived.Test.YtdecceekodpjiaaDoorHM1
import Derived.ScopeJumps
namespace Go.Proofs.YtdecceekodpjiaaDoor
open Go.RowKit

set_option maxRecDepth 100000 in
set_option maxHeartbeats 8000000 in
theorem go0 {W : World} {sb n c no nb nl : Nat} {nm : ByteArray} {a : Option Addr} {lo lb : List Bool} {P : World → Value → Prop} {ds : List Deferred} {u1 u2 u3 u4 u5 u6 u7 u8 u9 u10 u11 u12 u13 u14 u15 u16 u17 u18 u19 u20 u21 u22 u23 u24 u25 u26 u27 u28 u29 u30 u31 u32 u33 u34 u35 u36 u37 u38 u39 u40 u41 u42 u43 u44 u45 u46 u47 u48 u49 u50 u51 u52 u53 u54 u55 : Value} (K : Act → World → Prop)
    (x0 : W.cell? ⟨sb, 0, none⟩ = some (.string nm)) (x1 : W.cell? ⟨sb, 1, none⟩ = some (.slice a n c))
    (hO : ∀ V, Kept (fun _ => False) W.drew V → Calls Tryd.prog 48 #[.pointer (some ⟨sb, 0, none⟩)] V fun e w' => ∃ g, e = .returned (.slice (some ⟨g, 0, none⟩) no no) ∧ CellsAt w' (some ⟨g, 0, none⟩) (lo.map Value.bool) ∧ Kept (fun _ => False) V w')
    (hB : ∀ V, Kept (fun _ => False) W.drew V → Calls Tryd.prog 49 #[.pointer (some ⟨sb, 0, none⟩)] V fun e w' => ∃ g, e = .returned (.slice (some ⟨g, 0, none⟩) nb nb) ∧ CellsAt w' (some ⟨g, 0, none⟩) (lb.map Value.bool) ∧ Kept (fun _ => False) V w')
    (hR : ∀ V g1 g2, Kept (fun _ => False) W.drew V → CellsAt V (some ⟨g1, 0, none⟩) (lo.map Value.bool) → CellsAt V (some ⟨g2, 0, none⟩) (lb.map Value.bool) → Calls Tryd.prog 47 #[.agg #[.string nm, .slice a n c], .slice (some ⟨g1, 0, none⟩) no no, .slice (some ⟨g2, 0, none⟩) nb nb] V fun e w' => ∃ av cv, e = .returned (.slice av nl cv) ∧ P w' (.slice av nl cv) ∧ Kept (fun _ => False) V w')
    (h : ∀ (v4 v5 v6 v7 v8 v9 v10 v11 : Value) (av : Option Addr) (cv : Nat) (w9 : World), P w9 (.slice av nl cv) → Kept (fun _ => False) W w9 → K { tmps := #[.pointer (some ⟨sb, 0, none⟩), u1, u2, u3, v4, v5, v6, v7, v8, v9, v10, v11, .slice av nl cv, .int .i64 (nl : Nat), .int .i64 0, u15, u16, u17, u18, u19, u20, u21, u22, u23, u24, u25, u26, u27, u28, u29, u30, u31, u32, u33, u34, u35, u36, u37, u38, u39, u40, u41, u42, u43, u44, u45, u46, u47, u48, u49, u50, u51, u52, u53, u54, u55], defers := ds } w9) :
    (Code.region 0 #[{ dst := some 4, op := Op.move (Operand.tmp 0), type := 70, pos := "goon.go:11", after := #[], guard := none }, { dst := some 5, op := Op.nilCheck (Operand.tmp 4), type := 0, pos := "goon.go:11", after := #[{ on := 0, ground := Ground.data }], guard := none }, { dst := some 6, op := Op.fieldAddr 73 (Operand.tmp 5) 0, type := 0, pos := "goon.go:11", after := #[{ on := 1, ground := Ground.data }], guard := none }, { dst := some 7, op := Op.load 28 (Operand.tmp 6), type := 28, pos := "goon.go:11", after := #[{ on := 2, ground := Ground.data }], guard := none }, { dst := some 8, op := Op.move (Operand.tmp 0), type := 70, pos := "goon.go:11", after := #[], guard := none }, { dst := some 9, op := Op.call { callee := Callee.value (Operand.func 48), args := #[Operand.tmp 8], argTypes := #[70] }, type := 22, pos := "goon.go:11", after := #[{ on := 4, ground := Ground.data }], guard := none }, { dst := some 10, op := Op.move (Operand.tmp 0), type := 70, pos := "goon.go:11", after := #[], guard := none }, { dst := some 11, op := Op.call { callee := Callee.value (Operand.func 49), args := #[Operand.tmp 10], argTypes := #[70] }, type := 22, pos := "goon.go:11", after := #[{ on := 6, ground := Ground.data }, { on := 5, ground := Ground.chain }], guard := none }, { dst := some 12, op := Op.call { callee := Callee.value (Operand.func 47), args := #[Operand.tmp 7, Operand.tmp 9, Operand.tmp 11], argTypes := #[28, 22, 22] }, type := 85, pos := "goon.go:11", after := #[{ on := 3, ground := Ground.data }, { on := 5, ground := Ground.data }, { on := 7, ground := Ground.data }, { on := 7, ground := Ground.chain }], guard := none }, { dst := some 13, op := Op.call { callee := Callee.builtin Builtin.len, args := #[Operand.tmp 12], argTypes := #[85] }, type := 3, pos := "goon.go:11", after := #[{ on := 8, ground := Ground.data }], guard := none }, { dst := some 14, op := Op.move (Operand.const (Value.int IntKind.i64 0)), type := 3, pos := "goon.go:11", after := #[], guard := none }] true).wp Tryd.prog (onlyN K) { tmps := #[.pointer (some ⟨sb, 0, none⟩), u1, u2, u3, u4, u5, u6, u7, u8, u9, u10, u11, u12, u13, u14, u15, u16, u17, u18, u19, u20, u21, u22, u23, u24, u25, u26, u27, u28, u29, u30, u31, u32, u33, u34, u35, u36, u37, u38, u39, u40, u41, u42, u43, u44, u45, u46, u47, u48, u49, u50, u51, u52, u53, u54, u55], defers := ds } W := by
  have HH : Hid _ := h
  have KD := Kept.drew (fun _ => False) W
  have HS : Hid (∀ V, Kept (fun _ => False) W.drew V → V.cell? ⟨sb, 0, none⟩ = some (.string nm) ∧ V.cell? ⟨sb, 1, none⟩ = some (.slice a n c)) := fun V KV => ⟨keepC (KD.and KV) x0 (fun _ _ h => h), keepC (KD.and KV) x1 (fun _ _ h => h)⟩
  have HKD : Hid (Kept (fun _ => False) W W.drew) := KD
  have hS0 := HS.out W.drew (Kept.refl _ _)
  clear h KD x0 x1
  refine wp_region_held_drew (S := fun V => V.cell? ⟨sb, 0, none⟩ = some (.string nm) ∧ V.cell? ⟨sb, 1, none⟩ = some (.slice a n c)) (by kernel_rfl) hS0 (fun _ => ?_)
  refine wpAnyH_take (i := 0) (oi := { dst := some 4, op := Op.move (Operand.tmp 0), type := 70, pos := "goon.go:11", after := #[], guard := none }) (v := ?vv1) rfl (by kernel_rfl) (by kernel_rfl) (by kernel_rfl) (fun _ _ _ h => h) (Or.inl ⟨by rfl, ?hy1⟩) hS0 ?rest1
  case hy1 =>
    intro V hV
    obtain ⟨y0, y1⟩ := hV
    go_simp
    all_goals rfl
  simp only [Act.put, List.setIfInBounds_toArray, List.set_cons_zero, List.set_cons_succ]
  refine wpAnyH_take (i := 1) (oi := { dst := some 5, op := Op.nilCheck (Operand.tmp 4), type := 0, pos := "goon.go:11", after := #[{ on := 0, ground := Ground.data }], guard := none }) (v := ?vv2) rfl (by kernel_rfl) (by kernel_rfl) (by kernel_rfl) (fun _ _ _ h => h) (Or.inl ⟨by rfl, ?hy2⟩) hS0 ?rest2
  case hy2 =>
    intro V hV
    obtain ⟨y0, y1⟩ := hV
    go_simp
    all_goals rfl
  simp only [Act.put, List.setIfInBounds_toArray, List.set_cons_zero, List.set_cons_succ]
  refine wpAnyH_take (i := 2) (oi := { dst := some 6, op := Op.fieldAddr 73 (Operand.tmp 5) 0, type := 0, pos := "goon.go:11", after := #[{ on := 1, ground := Ground.data }], guard := none }) (v := ?vv3) rfl (by kernel_rfl) (by kernel_rfl) (by kernel_rfl) (fun _ _ _ h => h) (Or.inl ⟨by rfl, ?hy3⟩) hS0 ?rest3
  case hy3 =>
    intro V hV
    obtain ⟨y0, y1⟩ := hV
    go_simp
    all_goals rfl
  simp only [Act.put, List.setIfInBounds_toArray, List.set_cons_zero, List.set_cons_succ]
  refine wpAnyH_take (i := 3) (oi := { dst := some 7, op := Op.load 28 (Operand.tmp 6), type := 28, pos := "goon.go:11", after := #[{ on := 2, ground := Ground.data }], guard := none }) (v := ?vv4) rfl (by kernel_rfl) (by kernel_rfl) (by kernel_rfl) (fun _ _ _ h => h) (Or.inl ⟨by rfl, ?hy4⟩) hS0 ?rest4
  case hy4 =>
    intro V hV
    obtain ⟨y0, y1⟩ := hV
    go_simp
    all_goals rfl
  simp only [Act.put, List.setIfInBounds_toArray, List.set_cons_zero, List.set_cons_succ]
  refine wpAnyH_take (i := 4) (oi := { dst := some 8, op := Op.move (Operand.tmp 0), type := 70, pos := "goon.go:11", after := #[], guard := none }) (v := ?vv5) rfl (by kernel_rfl) (by kernel_rfl) (by kernel_rfl) (fun _ _ _ h => h) (Or.inl ⟨by rfl, ?hy5⟩) hS0 ?rest5
  case hy5 =>
    intro V hV
    obtain ⟨y0, y1⟩ := hV
    go_simp
    all_goals rfl
  simp only [Act.put, List.setIfInBounds_toArray, List.set_cons_zero, List.set_cons_succ]
  refine wpAnyH_take (i := 6) (oi := { dst := some 10, op := Op.move (Operand.tmp 0), type := 70, pos := "goon.go:11", after := #[], guard := none }) (v := ?vv6) rfl (by kernel_rfl) (by kernel_rfl) (by kernel_rfl) (fun _ _ _ h => h) (Or.inl ⟨by rfl, ?hy6⟩) hS0 ?rest6
  case hy6 =>
    intro V hV
    obtain ⟨y0, y1⟩ := hV
    go_simp
    all_goals rfl
  simp only [Act.put, List.setIfInBounds_toArray, List.set_cons_zero, List.set_cons_succ]
  refine wpAnyH_take (i := 10) (oi := { dst := some 14, op := Op.move (Operand.const (Value.int IntKind.i64 0)), type := 3, pos := "goon.go:11", after := #[], guard := none }) (v := ?vv7) rfl (by kernel_rfl) (by kernel_rfl) (by kernel_rfl) (fun _ _ _ h => h) (Or.inl ⟨by rfl, ?hy7⟩) hS0 ?rest7
  case hy7 =>
    intro V hV
    obtain ⟨y0, y1⟩ := hV
    go_simp
    all_goals rfl
  simp only [Act.put, List.setIfInBounds_toArray, List.set_cons_zero, List.set_cons_succ]
  refine wpAnyH_ready (rs := [5]) (by kernel_rfl) (by simp) (AllReadyH.cons (o := { dst := some 9, op := Op.call { callee := Callee.value (Operand.func 48), args := #[Operand.tmp 8], argTypes := #[70] }, type := 22, pos := "goon.go:11", after := #[{ on := 4, ground := Ground.data }], guard := none }) rfl (fun K' hK => ?_) AllReadyH.nil)
  refine step_call1 _ (by rfl) 48 _ _ (by rfl) (enters_of Tryd.func48 (by kernel_rfl) rfl) _ (by rfl) (hO _ (Kept.refl (fun _ => False) W.drew)) ?_
  rintro e wO1 ⟨gO1, rfl, CO1, KO1⟩
  have LO1 := ((Kept.refl (fun _ => False) W.drew)).and KO1
  refine ⟨_, rfl, ?_⟩
  refine hK.out _ _ (HS.out _ LO1) (fun _ => ?_)
  clear hK K'
  try (simp only [Act.put, List.setIfInBounds_toArray, List.set_cons_zero, List.set_cons_succ])
  refine wpAnyH_ready (rs := [7]) (by kernel_rfl) (by simp) (AllReadyH.cons (o := { dst := some 11, op := Op.call { callee := Callee.value (Operand.func 49), args := #[Operand.tmp 10], argTypes := #[70] }, type := 22, pos := "goon.go:11", after := #[{ on := 6, ground := Ground.data }, { on := 5, ground := Ground.chain }], guard := none }) rfl (fun K' hK => ?_) AllReadyH.nil)
  refine step_call1 _ (by rfl) 49 _ _ (by rfl) (enters_of Tryd.func49 (by kernel_rfl) rfl) _ (by rfl) (hB _ LO1) ?_
  rintro e wB2 ⟨gB2, rfl, CB2, KB2⟩
  have LB2 := (LO1).and KB2
  have DB2 := CO1.kept KB2 (fun _ _ h => h)
  refine ⟨_, rfl, ?_⟩
  refine hK.out _ _ (HS.out _ LB2) (fun _ => ?_)
  clear hK K'
  try (simp only [Act.put, List.setIfInBounds_toArray, List.set_cons_zero, List.set_cons_succ])
  refine wpAnyH_ready (rs := [8]) (by kernel_rfl) (by simp) (AllReadyH.cons (o := { dst := some 12, op := Op.call { callee := Callee.value (Operand.func 47), args := #[Operand.tmp 7, Operand.tmp 9, Operand.tmp 11], argTypes := #[28, 22, 22] }, type := 85, pos := "goon.go:11", after := #[{ on := 3, ground := Ground.data }, { on := 5, ground := Ground.data }, { on := 7, ground := Ground.data }, { on := 7, ground := Ground.chain }], guard := none }) rfl (fun K' hK => ?_) AllReadyH.nil)
  refine step_call3 _ (by rfl) 47 _ _ _ _ _ _ (by rfl) (enters_of Tryd.func47 (by kernel_rfl) rfl) _ _ _ (by rfl) (by rfl) (by rfl) (hR _ _ _ LB2 DB2 CB2) ?_
  rintro e w9 ⟨av, cv, rfl, P9, K9⟩
  have L9 := (LB2).and K9
  refine ⟨_, rfl, ?_⟩
  refine hK.out _ _ (HS.out _ L9) (fun _ => ?_)
  clear hK K'
  try (simp only [Act.put, List.setIfInBounds_toArray, List.set_cons_zero, List.set_cons_succ])
  refine wpAnyH_take (i := 9) (oi := { dst := some 13, op := Op.call { callee := Callee.builtin Builtin.len, args := #[Operand.tmp 12], argTypes := #[85] }, type := 3, pos := "goon.go:11", after := #[{ on := 8, ground := Ground.data }], guard := none }) (v := ?vv8) rfl (by kernel_rfl) (by kernel_rfl) (by kernel_rfl) (fun _ _ _ h => h) (Or.inl ⟨by rfl, ?hy8⟩) (HS.out _ L9) ?rest8
  case hy8 =>
    intro V hV
    obtain ⟨y0, y1⟩ := hV
    go_simp
    all_goals rfl
  simp only [Act.put, List.setIfInBounds_toArray, List.set_cons_zero, List.set_cons_succ]
  refine wpAnyH_done (by kernel_rfl) ?_ _
  exact HH.out _ _ _ _ _ _ _ _ av cv w9 P9 (HKD.out.and L9)

end Go.Proofs.YtdecceekodpjiaaDoor

/-
  goOn: nodes begin, as long as some may.
-/
namespace Go.Proofs.YtdecceekodpjiaaDoor
open Go.RowKit

theorem jump_weakN {l : Nat} {J J' : Act → World → Prop} {Q : Exit → Act → World → Prop} (h : ∀ a w, J a w → J' a w) : ∀ e a w, Exit.jump l J Q e a w → Exit.jump l J' Q e a w := by
  intro e a w hj
  cases e <;> simp only [Exit.jump] at hj ⊢ <;> first | exact hj | exact ⟨hj.1, h _ _ hj.2⟩

theorem least_of {p : Nat → Prop} (h : ∃ f, p f) : ∃ f, p f ∧ ∀ g, p g → f ≤ g := by
  obtain ⟨f, hf⟩ := h
  induction f using Nat.strongRecOn with
  | _ f ih =>
    by_cases hg : ∃ g, g < f ∧ p g
    · obtain ⟨g, h1, h2⟩ := hg
      exact ih g h1 h2
    · exact ⟨f, hf, fun g hp => Nat.le_of_not_lt fun hl => hg ⟨g, hl, hp⟩⟩

open Classical in
noncomputable def leastP (p : Nat → Prop) : Nat := if h : ∃ f, p f then Classical.choose (least_of h) else 0

theorem leastP_is {p : Nat → Prop} (h : ∃ f, p f) : p (leastP p) ∧ ∀ g, p g → leastP p ≤ g := by
  unfold leastP
  rw [dif_pos h]
  exact Classical.choose_spec (least_of h)

/-- A scope whose code jumps back to one label, each time with less. -/
theorem wp_scope_fuel {P : Program} {a : Act} {w : World} {Q : Exit → Act → World → Prop} {c y : Code} (l : Nat) (J : Nat → Act → World → Prop) (hf : findLabel c l = some (Code.skip.seq y))
    (pass : ∀ f a w, J f a w → y.wp P (Exit.jump l (fun a' w' => ∃ f', f' < f ∧ J f' a' w') Q) a w)
    (first : (∀ f a w, J f a w → y.wp P (Exit.jump l (fun a w => ∃ f, J f a w) Q) a w) → c.wp P (Exit.jump l (fun a w => ∃ f, J f a w) Q) a w) : (Code.scope c).wp P Q a w :=
  wp_scope_jumps l (fun a w => ∃ f, J f a w) (fun a w => leastP (fun f => J f a w)) hf
    (first fun f a w h => Code.wp_mono (jump_weakN fun _ _ h => ⟨h.choose, h.choose_spec.2⟩) (pass f a w h))
    (fun a w h => wp_seq (wp_skip (Code.wp_mono (jump_weakN fun _ _ h' => ⟨⟨h'.choose, h'.choose_spec.2⟩, Nat.lt_of_le_of_lt ((leastP_is ⟨h'.choose, h'.choose_spec.2⟩).2 _ h'.choose_spec.2) h'.choose_spec.1⟩) (pass _ a w (leastP_is h).1))))

/-- What stands at the label. -/
def goJ (w : World) (H : Nat → Prop) (rb : Nat) (nm : ByteArray) (a : Option Addr) (c : Nat) (ns : List Nd) (goal : Rn) (f : Nat) (a' : Act) (w' : World) : Prop :=
  ∃ (r : Rn) (m : Nat) (u : Nat → Value), a' = { tmps := #[.pointer (some ⟨rb, 0, none⟩), u 1, u 2, u 3, u 4, u 5, u 6, u 7, u 8, u 9, u 10, u 11, u 12, u 13, u 14, u 15, u 16, u 17, u 18, u 19, u 20, u 21, u 22, u 23, u 24, u 25, u 26, u 27, u 28, u 29, u 30, u 31, u 32, u 33, u 34, u 35, u 36, u 37, u 38, u 39, u 40, u 41, u 42, u 43, u 44, u 45, u 46, u 47, u 48, u 49, u 50, u 51, u 52, u 53, u 54, u 55], defers := [] } ∧
    RGoes w H rb nm a ns.length c r w' ∧ Fit r m ∧ restC r.st.nodes < f ∧ m + f * (ns.length * (ns.length + 3)) + ns.length + 3 ≤ 999999 ∧ goP nm ns f r = goal

theorem goJ_of {w w' : World} {H : Nat → Prop} {rb : Nat} {nm : ByteArray} {a : Option Addr} {c : Nat} {ns : List Nd} {goal : Rn} {f m : Nat} {a' : Act} {r : Rn}
    (h : a' = { tmps := #[.pointer (some ⟨rb, 0, none⟩), a'.tmps.getD 1 undef, a'.tmps.getD 2 undef, a'.tmps.getD 3 undef, a'.tmps.getD 4 undef, a'.tmps.getD 5 undef, a'.tmps.getD 6 undef, a'.tmps.getD 7 undef, a'.tmps.getD 8 undef, a'.tmps.getD 9 undef, a'.tmps.getD 10 undef, a'.tmps.getD 11 undef, a'.tmps.getD 12 undef, a'.tmps.getD 13 undef, a'.tmps.getD 14 undef, a'.tmps.getD 15 undef, a'.tmps.getD 16 undef, a'.tmps.getD 17 undef, a'.tmps.getD 18 undef, a'.tmps.getD 19 undef, a'.tmps.getD 20 undef, a'.tmps.getD 21 undef, a'.tmps.getD 22 undef, a'.tmps.getD 23 undef, a'.tmps.getD 24 undef, a'.tmps.getD 25 undef, a'.tmps.getD 26 undef, a'.tmps.getD 27 undef, a'.tmps.getD 28 undef, a'.tmps.getD 29 undef, a'.tmps.getD 30 undef, a'.tmps.getD 31 undef, a'.tmps.getD 32 undef, a'.tmps.getD 33 undef, a'.tmps.getD 34 undef, a'.tmps.getD 35 undef, a'.tmps.getD 36 undef, a'.tmps.getD 37 undef, a'.tmps.getD 38 undef, a'.tmps.getD 39 undef, a'.tmps.getD 40 undef, a'.tmps.getD 41 undef, a'.tmps.getD 42 undef, a'.tmps.getD 43 undef, a'.tmps.getD 44 undef, a'.tmps.getD 45 undef, a'.tmps.getD 46 undef, a'.tmps.getD 47 undef, a'.tmps.getD 48 undef, a'.tmps.getD 49 undef, a'.tmps.getD 50 undef, a'.tmps.getD 51 undef, a'.tmps.getD 52 undef, a'.tmps.getD 53 undef, a'.tmps.getD 54 undef, a'.tmps.getD 55 undef], defers := [] })
    (X : RGoes w H rb nm a ns.length c r w') (F : Fit r m) (hr : restC r.st.nodes < f) (hm : m + f * (ns.length * (ns.length + 3)) + ns.length + 3 ≤ 999999) (hg : goP nm ns f r = goal) : goJ w H rb nm a c ns goal f a' w' :=
  ⟨r, m, fun i => a'.tmps.getD i undef, h, X, F, hr, hm, hg⟩

theorem nats_at {w : World} {B n : Nat} {a : Option Addr} {c : Nat} {L : List Nat} (h : w.ownsRow B 3 1 (.slice a n c) n (natsV L)) (hl : L.length = n) {k : Nat} (hk : k < n) : ∃ g, a = some ⟨g, 0, none⟩ ∧ w.cell? ⟨g, k, none⟩ = some (.int .i64 ((L[k]'(by omega) : Nat) : Int)) := by
  obtain ⟨g, cg, hv, _, _, hrow⟩ := row_at h (by omega)
  obtain ⟨rfl, rfl⟩ : a = some ⟨g, 0, none⟩ ∧ c = cg := by simpa using hv
  exact ⟨g, rfl, (hrow k _ (by simp [natsV, hl, hk])).1⟩

set_option maxRecDepth 100000 in
set_option maxHeartbeats 8000000 in
theorem goOn_any {w0 w : World} {H : Nat → Prop} {rb : Nat} {nm : ByteArray} {a : Option Addr} {c : Nat} {ns : List Nd} {r : Rn} {m : Nat} (E : Env w0 w H a ns) (R : RAt w H rb nm a ns.length c r) (F : Fit r m) (hn : ns.length ≤ 999999) (f : Nat) (hf : restC r.st.nodes < f) (hm : m + f * (ns.length * (ns.length + 3)) + ns.length + 3 ≤ 999999) :
    Calls Tryd.prog 35 #[.pointer (some ⟨rb, 0, none⟩)] w fun e w' => e = .returned (.tuple #[]) ∧ RGoes w H rb nm a ns.length c (goP nm ns f r) w' := by
  have X0 := hid (RGoes.keep R (Kept.refl (fun _ => False) w))
  have HE := hid E
  have HF := hid F
  obtain ⟨goal, hgoal⟩ : ∃ goal, goP nm ns f r = goal := ⟨_, rfl⟩
  rw [hgoal]
  have Hg := hid hgoal
  clear E R F hgoal
  go_enter Tryd.func35, Tryd.ntmps35
  refine wp_scope_fuel 0 (goJ w H rb nm a c ns goal) rfl ?_ ?_
  rotate_left
  · intro pass
    go_wp2_with fail
    go_step3
    refine (‹∀ (a : Act) (w : World), Code.wp _ _ _ a w → _›) _ _ ?_
    exact pass f _ _ (goJ_of rfl X0.out HF.out hf hm Hg.out)
  · clear X0 HF Hg hf hm
    rintro f1 a' w1 ⟨r1, m1, u, rfl, X1, F1, hr1, hm1, hg1⟩
    obtain ⟨H1, E1, R1, hH1, K1⟩ := HE.out.goes X1
    obtain ⟨f2, rfl⟩ : ∃ f2, f1 = f2 + 1 := ⟨f1 - 1, by omega⟩
    obtain ⟨v6, v7, v12, v13, hb, hn6, hn7, hHr, _, htop⟩ := R1.opened
    obtain ⟨x0, x1, _⟩ := runCells hb
    have hnl := E1.here.1
    have hlen := F1.nodes
    have hO := fun V (KV : Kept (fun _ => False) w1.drew V) => (over_any V H1 rb nm a ns.length c r1 (R1.new ((Kept.drew (fun _ => False) w1).and KV)) hlen).mono (fun e w' h => (by obtain ⟨g, h1, h2, _, h4⟩ := h; exact ⟨g, h1, h2, h4⟩ : ∃ g, e = .returned (.slice (some ⟨g, 0, none⟩) r1.st.nodes.length r1.st.nodes.length) ∧ CellsAt w' (some ⟨g, 0, none⟩) ((overL r1.st.nodes).map Value.bool) ∧ Kept (fun _ => False) V w'))
    have hB := fun V (KV : Kept (fun _ => False) w1.drew V) => (begun_any V H1 rb nm a ns.length c r1 (R1.new ((Kept.drew (fun _ => False) w1).and KV)) (by omega) (by omega)).mono (fun e w' h => (by obtain ⟨g, h1, h2, _, h4⟩ := h; exact ⟨g, h1, h2, h4⟩ : ∃ g, e = .returned (.slice (some ⟨g, 0, none⟩) ns.length ns.length) ∧ CellsAt w' (some ⟨g, 0, none⟩) ((begunL r1.st.nodes ns.length).map Value.bool) ∧ Kept (fun _ => False) V w'))
    have hR := fun V g1 g2 (KV : Kept (fun _ => False) w1.drew V) (C1 : CellsAt V (some ⟨g1, 0, none⟩) ((overL r1.st.nodes).map Value.bool)) (C2 : CellsAt V (some ⟨g2, 0, none⟩) ((begunL r1.st.nodes ns.length).map Value.bool)) => (ready_any V nm a ns.length c ns (keptNew ((Kept.drew (fun _ => False) w1).and KV) hnl) rfl (by omega) (some ⟨g1, 0, none⟩) (some ⟨g2, 0, none⟩) r1.st.nodes.length ns.length (overL r1.st.nodes) (begunL r1.st.nodes ns.length) (by simp [overL]; omega) (by simp [begunL]; omega) C1 C2).mono (fun e w' h => (by
        obtain ⟨av, cv, h1, h2, h3⟩ := h
        exact ⟨av, cv, h1, ownsRow_low h2 ((Kept.drew (fun _ => False) w1).and KV).size, h3⟩ : ∃ av cv, e = .returned (.slice av (goReady ns r1).length cv) ∧ (w'.ownsRow w1.heap.size 3 1 (.slice av (goReady ns r1).length cv) (goReady ns r1).length (natsV (goReady ns r1))) ∧ Kept (fun _ => False) V w'))
    rw [show (overL r1.st.nodes).length = r1.st.nodes.length by simp [overL], show (begunL r1.st.nodes ns.length).length = ns.length by simp [begunL]] at hR
    have HE1 := hid E1
    have HR1 := hid R1
    have HF1 := hid F1
    have HN := hid hnl
    have Ht := hid htop
    have HX : Hid ((∀ g, H1 g → H g ∨ w.heap.size ≤ g) ∧ Kept H w w1) := ⟨hH1, K1⟩
    have Hg1 := hid hg1
    have hrl : (goReady ns r1).length ≤ ns.length := rdyL_len _ _ _ _
    have HRi : Hid (∀ i ∈ goReady ns r1, i < ns.length ∧ ∃ y, r1.st.nodes[i]? = some y ∧ y.status = 0) := fun i hi => goReady_idle hi
    clear hb hn6 hn7 htop X1 E1 R1 F1 hnl hH1 K1 hg1
    go_upto_region 0 with fail
    refine wp_onlyN (go0 (P := fun V v => V.ownsRow w1.heap.size 3 1 v (goReady ns r1).length (natsV (goReady ns r1))) _ x0 x1 hO hB hR ?_)
    intro _ _ _ _ _ _ _ _ av cv w9 P9 K9
    have HP := hid P9
    have HK9 := hid K9
    have HE9 := hid (HE1.out.new K9)
    have HR9 := hid (HR1.out.new K9)
    obtain ⟨L, hL⟩ : ∃ L, goReady ns r1 = L := ⟨_, rfl⟩
    rw [hL] at HP hrl HRi
    have Hgr : Hid (goP nm ns (f2 + 1) r1 = match goRow nm ns r1 L with
        | (r1, .stop) => r1
        | (r1, .again) => goP nm ns f2 r1
        | (r1, .through) => if restC r1.st.nodes = 0 then endP nm ns r1 2 (lastP r1.st.nodes) else r1) := by rw [← hL]; rfl
    have HL := hid hL
    clear x0 x1 hO hB hR P9 K9
    rw [hL]
    clear hL
    go_wp2_with fail
    go_loopw [14] (fun v wr => ∃ (k : Nat) (r2 : Rn), k ≤ L.length ∧ v = .int .i64 k ∧ RGoes w9 H1 rb nm a ns.length c r2 wr ∧ Fit r2 (m1 + k * (ns.length + 3)) ∧ Grow r1.st r2.st ∧ goRow nm ns r1 L = goRow nm ns r2 (L.drop k)) (fun v _ => L.length - (intOf v).toNat)
    case atStart => exact ⟨0, r1, Nat.zero_le _, rfl, RGoes.keep HR9.out (Kept.refl _ _), by simpa using HF1.out, Grow.refl _, by simp⟩
    case round =>
      obtain ⟨k, r2, hk, rfl, X2, F2, G2, hrow⟩ := hrel
      obtain ⟨H2, E2, R2, hH2, K2⟩ := HE9.out.goes X2
      have hA : k * (ns.length + 3) ≤ ns.length * (ns.length + 3) := Nat.mul_le_mul_right _ (by omega)
      have hfA : (f2 + 1) * (ns.length * (ns.length + 3)) = f2 * (ns.length * (ns.length + 3)) + ns.length * (ns.length + 3) := by rw [Nat.add_mul, Nat.one_mul]
      have hback : ∀ (r3 : Rn) (w3 : World), RGoes wr H2 rb nm a ns.length c r3 w3 → RGoes w H rb nm a ns.length c r3 w3 := fun r3 w3 X3 => ((X3.trans hH2 K2).first HK9.out).trans HX.out.1 HX.out.2
      have HB := hid hback
      have HXX : Hid ((∀ g, H2 g → H1 g ∨ w9.heap.size ≤ g) ∧ Kept H1 w9 wr) := ⟨hH2, K2⟩
      clear hback X2
      by_cases hlt : k < L.length
      · obtain ⟨hin, y, hy, hy0⟩ := HRi.out _ (List.getElem_mem hlt)
        have hi6 : L[k] < r2.st.nodes.length := by rw [G2.len]; exact (List.getElem?_eq_some_iff.1 hy).1
        have P2 : wr.ownsRow w1.heap.size 3 1 (.slice av L.length cv) L.length (natsV L) := ownsRow_keep HP.out (fun g hg => K2.block g (ownsRow_blk HP.out hg) (fun h => absurd (Ht.out g h) (Nat.not_lt.2 ((HP.out.lt g hg).1))))
        obtain ⟨gL, haL, cL⟩ := nats_at P2 rfl hlt
        subst haL
        obtain ⟨b, o, av', cv', hae, hT, c0, c1, c2, c3, c4, c5, c6⟩ := E2.here.1.at hin
        subst hae
        obtain ⟨v6, v7, v12, v13, hb, hn6, hn7, hHr2, _, htop2⟩ := R2.opened
        obtain ⟨_, x1, _⟩ := runCells hb
        have hBg := begin_any E2 R2 F2 (by omega) hn ns[L[k]] (HE.out.names _ (List.getElem_mem hin)) av' cv'
        have hdrop : L.drop k = L[k] :: L.drop (k + 1) := List.drop_eq_getElem_cons hlt
        have hget : ns[L[k]]? = some ns[L[k]] := List.getElem?_eq_getElem hin
        have G3 : Grow r2.st (beginP nm ns r2 ns[L[k]]).st := beginP_grow
        have F3 := beginP_fit (nm := nm) (ns := ns) F2 (by omega) ns[L[k]]
        have hi3 : L[k] < (beginP nm ns r2 ns[L[k]]).st.nodes.length := by rw [G3.len]; exact hi6
        have e0 : (k : Int) < (L.length : Int) := by omega
        have hA1 : (k + 1) * (ns.length + 3) ≤ ns.length * (ns.length + 3) := Nat.mul_le_mul_right _ (by omega)
        have hA2 : (k + 1) * (ns.length + 3) = k * (ns.length + 3) + (ns.length + 3) := by rw [Nat.add_mul, Nat.one_mul]
        have e1 : ((L[k] : Nat) : Int) < (ns.length : Int) := by omega
        have hcr : goRow nm ns r2 (L.drop k) = if (beginP nm ns r2 ns[L[k]]).st.status ≠ 1 then (beginP nm ns r2 ns[L[k]], .stop) else if ((beginP nm ns r2 ns[L[k]]).st.nodes[L[k]]?.map (fun y => y.status)) = some 3 then (beginP nm ns r2 ns[L[k]], .again) else goRow nm ns (beginP nm ns r2 ns[L[k]]) (L.drop (k + 1)) := by
          rw [hdrop]
          conv => lhs; unfold goRow
          rw [hget]
        rw [← hrow] at hcr
        have G13 := G2.trans G3
        obtain ⟨r3, hr3⟩ : ∃ r3, beginP nm ns r2 ns[L[k]] = r3 := ⟨_, rfl⟩
        rw [hr3] at hBg G3 F3 hi3 hcr G13
        have HcR := hid hcr
        have HF3 := hid F3
        have HG13 := hid G13
        have Hless : Hid (∀ r', goRow nm ns r1 L = (r', .again) → restC r'.st.nodes < restC r1.st.nodes) := fun r' h => goRow_less (by rw [HL.out]; exact h)
        clear hr3 hcr F3 G3 G13 hrow hdrop hget hT hb hn6 hn7 P2 E2 R2 F2 G2 hy hy0 hH2 K2 htop2
        have hstat : (r3.st.status != 1) = true ∨ (r3.st.status != 1) = false := by cases (r3.st.status != 1) <;> simp
        rcases hstat with hs | hs
        · have hs' : r3.st.status ≠ 1 := by simpa using hs
          have hres : goal = r3 := by
            rw [← Hg1.out, Hgr.out, HcR.out, if_pos hs']
          subst hres
          go_wp2_with (first
            | (go_at_call 50; refine hBg.mono ?_; rintro e w3 ⟨rfl, X3⟩; clear hBg; have HX3 := hid (HB.out _ _ X3); obtain ⟨⟨H3, R3, hH3⟩, K3⟩ := X3; obtain ⟨v6', v7', v12', v13', hb3, hn63, _, _, _, _⟩ := R3.opened; obtain ⟨_, _, _, _, _, _, y6, _, y8, _⟩ := runCells hb3; clear R3 hb3 hn63 hH3 K3)
            | fail)
          simp only [Exit.jump]
          refine bodyPost_ret (results_none rfl _ _ _) rfl ?_
          exact ⟨rfl, HX3.out⟩
        · have hs' : ¬ r3.st.status ≠ 1 := by simpa using hs
          have hst2 : (r3.st.nodes[L[k]].status == 3) = true ∨ (r3.st.nodes[L[k]].status == 3) = false := by cases (r3.st.nodes[L[k]].status == 3) <;> simp
          have e2 : ((L[k] : Nat) : Int) < (r3.st.nodes.length : Int) := by omega
          rcases hst2 with h3 | h3
          · have h3' : (r3.st.nodes[L[k]]?.map (fun y => y.status)) = some 3 := by rw [List.getElem?_eq_getElem hi3]; simpa using h3
            have hag : goRow nm ns r1 L = (r3, .again) := by rw [HcR.out, if_neg hs', if_pos h3']
            have hres : goP nm ns f2 r3 = goal := by rw [← Hg1.out, Hgr.out, hag]
            have hl3 := Hless.out r3 hag
            have Hres := hid hres
            have hidx : Hid (L[k] < r3.st.nodes.length) := hi3
            clear hres hag hs' h3'
            go_wp2_with (first
              | (go_at_call 50; refine hBg.mono ?_; rintro e w3 ⟨rfl, X3⟩; clear hBg; have HX3 := hid (HB.out _ _ X3); obtain ⟨⟨H3, R3, hH3⟩, K3⟩ := X3; obtain ⟨v6', v7', v12', v13', hb3, hn63, _, _, _, _⟩ := R3.opened; obtain ⟨_, _, _, _, _, _, y6, _, y8, _⟩ := runCells hb3; obtain ⟨g6, cg, hv, _, _, hrw⟩ := row_at hn63 (by omega); have q0 := (hrw _ _ (nsF_get hi3).1).1; subst hv; clear R3 hb3 hn63 hH3 K3 hrw)
              | fail)
            go_step3
            refine ⟨rfl, f2, Nat.lt_succ_self _, goJ_of ?_ HX3.out HF3.out (by omega) ?_ Hres.out⟩
            · simp
            · omega
          · have h3' : ¬ (r3.st.nodes[L[k]]?.map (fun y => y.status)) = some 3 := by rw [List.getElem?_eq_getElem hi3]; simpa using h3
            have hnx : goRow nm ns r1 L = goRow nm ns r3 (L.drop (k + 1)) := by rw [HcR.out, if_neg hs', if_neg h3']
            have Hnx := hid hnx
            clear hnx hs' h3'
            go_wp2_with (first
              | (go_at_call 50; refine hBg.mono ?_; rintro e w3 ⟨rfl, X3⟩; clear hBg; have HX3 := hid (X3.trans HXX.out.1 HXX.out.2); obtain ⟨⟨H3, R3, hH3⟩, K3⟩ := X3; obtain ⟨v6', v7', v12', v13', hb3, hn63, _, _, _, _⟩ := R3.opened; obtain ⟨_, _, _, _, _, _, y6, _, y8, _⟩ := runCells hb3; obtain ⟨g6, cg, hv, _, _, hrw⟩ := row_at hn63 (by omega); have q0 := (hrw _ _ (nsF_get hi3).1).1; subst hv; clear R3 hb3 hn63 hH3 K3 hrw)
              | fail)
            go_roundw
            case rel => exact ⟨k + 1, r3, by omega, by go_num, HX3.out, HF3.out.mono (by rw [Nat.add_mul, Nat.one_mul]; omega), HG13.out, Hnx.out⟩
            case measure => simp [intOf]; omega
      · obtain rfl : k = L.length := by omega
        rw [List.drop_length] at hrow
        have hth : goRow nm ns r1 L = (r2, .through) := by rw [hrow]; rfl
        have hres : (if restC r2.st.nodes = 0 then endP nm ns r2 2 (lastP r2.st.nodes) else r2) = goal := by rw [← Hg1.out, Hgr.out, hth]
        have Hres := hid hres
        have e0 : ¬ ((L.length : Int) < (L.length : Int)) := by omega
        obtain ⟨v6, v7, v12, v13, hb, hn6, hn7, _, _, _⟩ := R2.opened
        obtain ⟨_, _, y2, y3, y4, y5, y6, y7, y8, y9, y10, _⟩ := runCells hb
        have hC := count_any wr r2.st v6 v7 ⟨flat_of_owns hn6, flat_of_owns hn7, F2.nodes, by have := F2.sigs; omega⟩
        have HR2 := hid R2
        have HE2 := hid E2
        have HF2 := hid F2
        clear hres hth hrow hb hn6 hn7 R2 E2 F2 G2 hH2 K2
        by_cases hz : restC r2.st.nodes = 0
        · have hq : ∀ y, IsF y (restC r2.st.nodes : Nat) → (FloatKind.f64.format.order y 0 == some .eq) = true := fun y h => by rw [isF_eq h isF_zero]; simp [hz]
          have Hq := hid hq
          have hlt := fun V (KV : Kept (fun _ => False) wr V) => lastText_any V H2 rb nm a ns.length c r2 (HR2.out.new KV) HF2.out.nodes
          have hEn := fun V (KV : Kept (fun _ => False) wr V) => end_any (HE2.out.new KV) (HR2.out.new KV) HF2.out (by omega) hn 2 (lastP r2.st.nodes)
          rw [if_pos hz] at Hres
          clear hq hz
          change ∀ V, Kept (fun _ => False) wr V → Calls Tryd.prog _ _ V (fun e w' => e = .returned (.string (lastP r2.st.nodes)) ∧ w' = V) at hlt
          go_wp2_with (first
            | (go_at_call 16; refine hC.mono ?_; rintro e w3 ⟨⟨x, y, rfl, hx, hyf⟩, K3⟩; clear hC; have hqq := Hq.out y hyf; have hlt3 := hlt w3 K3; have hEn3 := hEn w3 K3; clear hx hyf)
            | (go_at_call 51; refine hlt3.mono ?_; rintro e w4 ⟨rfl, hw4⟩; subst w4; clear hlt3)
            | (go_at_call 42; refine hEn3.mono ?_; rintro e w5 ⟨rfl, X5⟩; clear hEn3)
            | fail)
          simp only [Exit.jump]
          go_end0
          refine ⟨rfl, ?_⟩
          rw [← Hres.out]
          exact HB.out _ _ (X5.first K3)
        · have hq : ∀ y, IsF y (restC r2.st.nodes : Nat) → (FloatKind.f64.format.order y 0 == some .eq) = false := fun y h => by rw [isF_eq h isF_zero]; simp; omega
          have Hq := hid hq
          rw [if_neg hz] at Hres
          clear hq hz
          go_wp2_with (first
            | (go_at_call 16; refine hC.mono ?_; rintro e w3 ⟨⟨x, y, rfl, hx, hyf⟩, K3⟩; clear hC; have hqq := Hq.out y hyf; clear hx hyf)
            | fail)
          simp only [Exit.jump]
          go_end0
          refine ⟨rfl, ?_⟩
          rw [← Hres.out]
          exact HB.out _ _ (RGoes.keep HR2.out K3)

end Go.Proofs.YtdecceekodpjiaaDoor

/-
  take, complete, fail, fire, child, cancel.
-/
namespace Go.Proofs.YtdecceekodpjiaaDoor
open Go.RowKit

theorem restC_len (l : List Ns) : restC l ≤ l.length := List.countP_le_length

/-- goOn, where the definition and the state are small. -/
theorem goOnE {w0 w : World} {H : Nat → Prop} {rb : Nat} {nm : ByteArray} {a : Option Addr} {c : Nat} {ns : List Nd} {r : Rn} {m : Nat} (E : Env w0 w H a ns) (R : RAt w H rb nm a ns.length c r) (F : Fit r m) (hn : ns.length ≤ 64) (h6 : r.st.nodes.length ≤ 64) (hm : m ≤ 500000) :
    Calls Tryd.prog 35 #[.pointer (some ⟨rb, 0, none⟩)] w fun e w' => e = .returned (.tuple #[]) ∧ RGoes w H rb nm a ns.length c (goOnP nm ns r) w' := by
  have hb : (restC r.st.nodes + 1) * (ns.length * (ns.length + 3)) ≤ 65 * (64 * 67) := Nat.mul_le_mul (by have := restC_len r.st.nodes; omega) (Nat.mul_le_mul hn (by omega))
  exact goOn_any E R F (by omega) (restC r.st.nodes + 1) (by omega) (by omega)

/-- tell with no task, then goOn. -/
theorem tellP_len {nm : ByteArray} {ns : List Nd} {r : Rn} {e : Ev} {ts : List Tk} (hn : ns.length ≤ 64) (h6 : r.st.nodes.length ≤ 64) : (tellP nm ns r e ts).st.nodes.length ≤ 64 := by
  unfold tellP
  split
  · exact h6
  · rename_i s hs
    show s.nodes.length ≤ 64
    by_cases he : e.kind = 1
    · unfold changeP at hs
      rw [if_pos he, if_pos he] at hs
      split at hs
      · cases hs
      · cases hs
        simpa using hn
    · rw [(changeP_grow hs he).len]
      exact h6

theorem nineQ {w : World} {b : Nat} {T : TypeId} {u0 u1 u2 u3 u4 u5 u6 u7 u8 : Value} (h : w.heap[b]? = some (.cells #[u0, u1, u2, u3, u4, u5, u6, u7, u8] T (0, 0))) :
    w.cell? ⟨b, 0, none⟩ = some u0 ∧ w.cell? ⟨b, 1, none⟩ = some u1 ∧ w.cell? ⟨b, 2, none⟩ = some u2 ∧ w.cell? ⟨b, 3, none⟩ = some u3 ∧ w.cell? ⟨b, 4, none⟩ = some u4 ∧ w.cell? ⟨b, 5, none⟩ = some u5 ∧ w.cell? ⟨b, 6, none⟩ = some u6 ∧ w.cell? ⟨b, 7, none⟩ = some u7 ∧ w.cell? ⟨b, 8, none⟩ = some u8 := (nine h).1

/-- What a call of do's leaves, with its answer. -/
def DoPost (w : World) (H : Nat → Prop) (rb : Nat) (nm : ByteArray) (a : Option Addr) (n c : Nat) (p : Rn × Int) (e : Ending) (w' : World) : Prop := e = .returned (.int .i64 p.2) ∧ RGoes w H rb nm a n c p.1 w'

/-- Kinds in a new row. -/
theorem cells1_new (w : World) (x : Int) (T : TypeId) : CellsAt (w.alloc (.cells #[.int .i64 x] T)) (some ⟨w.heap.size, 0, none⟩) ([x].map (Value.int .i64)) :=
  .inr ⟨_, 0, rfl, fun j u hu => by
    have h := heap_alloc_new w (.cells #[.int .i64 x] T)
    unfold World.cell?
    rw [h, Nat.zero_add]
    simpa using hu⟩

theorem cells2_new (w : World) (x y : Int) (T : TypeId) : CellsAt (w.alloc (.cells #[.int .i64 x, .int .i64 y] T)) (some ⟨w.heap.size, 0, none⟩) ([x, y].map (Value.int .i64)) :=
  .inr ⟨_, 0, rfl, fun j u hu => by
    have h := heap_alloc_new w (.cells #[.int .i64 x, .int .i64 y] T)
    unfold World.cell?
    rw [h, Nat.zero_add]
    simpa using hu⟩

section
variable {w0 w : World} {H : Nat → Prop} {rb : Nat} {nm : ByteArray} {a : Option Addr} {c : Nat} {ns : List Nd} {r : Rn} {m : Nat}

set_option maxRecDepth 100000 in
set_option maxHeartbeats 4000000 in
theorem cancel_any (E : Env w0 w H a ns) (R : RAt w H rb nm a ns.length c r) (F : Fit r m) (hn : ns.length ≤ 64) (hm : m ≤ 100000) (q : Inp) (hq : q.text.size ≤ maxLen) :
    Calls Tryd.prog 29 #[.pointer (some ⟨rb, 0, none⟩), inpV q] w (DoPost w H rb nm a ns.length c (cancelP nm ns r q)) := by
  unfold inpV
  have KA := Kept.alloc (fun _ => False) w (.cells #[.int .i64 q.kind, .string q.node, .string q.name, .string q.text, .int .i64 q.tr, .int .i64 q.status, .int .i64 q.now, .string q.par, .string q.pnode] 34)
  obtain ⟨_, _, _, q3, _⟩ := nineQ (heap_alloc_new w (.cells #[.int .i64 q.kind, .string q.node, .string q.name, .string q.text, .int .i64 q.tr, .int .i64 q.status, .int .i64 q.now, .string q.par, .string q.pnode] 34))
  have hD := end_any (E.new KA) (R.new KA) F (by omega) (by omega) 4 q.text
  have HKA := hid KA
  have HR := hid R
  unfold maxLen at hq
  clear E R F KA
  by_cases hb : 256 < q.text.size
  · have e0 : (256 : Int) < (q.text.size : Int) := by omega
    have HW := hid (show cancelP nm ns r q = (r, 9) by unfold cancelP; rw [if_pos hb])
    clear hb hD
    go_enter Tryd.func29, Tryd.ntmps29
    go_wp2_with fail
    go_ret
    refine ⟨by rw [HW.out]; rfl, ?_⟩
    rw [HW.out]
    exact RGoes.keep HR.out HKA.out
  · have e0 : ¬ (256 : Int) < (q.text.size : Int) := by omega
    have HW := hid (show cancelP nm ns r q = (endP nm ns r 4 q.text, 0) by unfold cancelP; rw [if_neg hb])
    clear hb
    go_enter Tryd.func29, Tryd.ntmps29
    go_wp2_with (first
      | (go_at_call 42; refine hD.mono ?_; rintro e w9 ⟨rfl, X9⟩; clear hD)
      | fail)
    go_ret
    refine ⟨by rw [HW.out]; rfl, ?_⟩
    rw [HW.out]
    exact X9.first HKA.out

end

end Go.Proofs.YtdecceekodpjiaaDoor

/-
  complete.
-/
namespace Go.Proofs.YtdecceekodpjiaaDoor
open Go.RowKit

/-- goOn behind a call that has changed the run. -/
theorem goOn_after {w0 V w6 : World} {H : Nat → Prop} {rb : Nat} {nm : ByteArray} {a : Option Addr} {c : Nat} {ns : List Nd} {r1 : Rn} {m : Nat} (E : Env w0 V H a ns) (F : Fit r1 m) (hn : ns.length ≤ 64) (h6 : r1.st.nodes.length ≤ 64) (hm : m ≤ 500000) (X : RGoes V H rb nm a ns.length c r1 w6) :
    Calls Tryd.prog 35 #[.pointer (some ⟨rb, 0, none⟩)] w6 fun e w' => e = .returned (.tuple #[]) ∧ RGoes V H rb nm a ns.length c (goOnP nm ns r1) w' := by
  obtain ⟨H', E', R', hH', K'⟩ := E.goes X
  exact (goOnE E' R' F hn h6 hm).mono (fun e w' h => ⟨h.1, h.2.trans hH' K'⟩)

/-- tell with no task, and what goOn makes of it. -/
theorem tell0 {w0 V : World} {H : Nat → Prop} {rb : Nat} {nm : ByteArray} {a : Option Addr} {c : Nat} {ns : List Nd} {r : Rn} {m : Nat} (E : Env w0 V H a ns) (R : RAt V H rb nm a ns.length c r) (F : Fit r m) (hm : m ≤ 100000) (ev : Ev) :
    Calls Tryd.prog 34 #[.pointer (some ⟨rb, 0, none⟩), .agg #[.int .i64 ev.kind, .string ev.node, .string ev.text, .int .i64 ev.num], .slice none 0 0] V fun e w' => e = .returned (.tuple #[]) ∧ RGoes V H rb nm a ns.length c (tellP nm ns r ev []) w' :=
  tellE E R F (by omega) ev [] none 0 (flat_none V) (by decide) (fun g h => by cases h)

theorem goOn_tell0 {w0 V w6 : World} {H : Nat → Prop} {rb : Nat} {nm : ByteArray} {a : Option Addr} {c : Nat} {ns : List Nd} {r : Rn} {m : Nat} (E : Env w0 V H a ns) (F : Fit r m) (hn : ns.length ≤ 64) (h6 : r.st.nodes.length ≤ 64) (hm : m ≤ 100000) {ev : Ev} (X : RGoes V H rb nm a ns.length c (tellP nm ns r ev []) w6) :
    Calls Tryd.prog 35 #[.pointer (some ⟨rb, 0, none⟩)] w6 fun e w' => e = .returned (.tuple #[]) ∧ RGoes V H rb nm a ns.length c (goOnP nm ns (tellP nm ns r ev [])) w' :=
  goOn_after E (tellP_fit F E.few ev []) hn (tellP_len hn h6) (by simp only [List.length_nil]; omega) X

section
variable {w0 w : World} {H : Nat → Prop} {rb : Nat} {nm : ByteArray} {a : Option Addr} {c : Nat} {ns : List Nd} {r : Rn} {m : Nat}

set_option maxRecDepth 100000 in
set_option maxHeartbeats 8000000 in
theorem complete_any (E : Env w0 w H a ns) (R : RAt w H rb nm a ns.length c r) (F : Fit r m) (hn : ns.length ≤ 64) (h6 : r.st.nodes.length ≤ 64) (hm : m ≤ 100000) (q : Inp) :
    Calls Tryd.prog 25 #[.pointer (some ⟨rb, 0, none⟩), inpV q] w (DoPost w H rb nm a ns.length c (completeP nm ns r q)) := by
  have KA : Kept (fun _ => False) w ((w.alloc (.cells #[.int .i64 q.kind, .string q.node, .string q.name, .string q.text, .int .i64 q.tr, .int .i64 q.status, .int .i64 q.now, .string q.par, .string q.pnode] 34)).alloc (.cells #[.int .i64 1] 3)) := (Kept.alloc _ _ _).and (Kept.alloc _ _ _)
  have hB := busy_any (E.new KA) (R.new KA) F (by omega) q (some ⟨(w.alloc (.cells #[.int .i64 q.kind, .string q.node, .string q.name, .string q.text, .int .i64 q.tr, .int .i64 q.status, .int .i64 q.now, .string q.par, .string q.pnode] 34)).heap.size, 0, none⟩) 1 [1] (by decide) (cells1_new _ 1 _)
  rw [World.size_alloc, show ([1] : List Int).length = 1 from rfl] at hB
  obtain ⟨⟨i, ee⟩, hp⟩ : ∃ p, busyP ns r.st q [1] = p := ⟨_, rfl⟩
  have HP := hid hp
  rw [hp] at hB
  clear hp
  dsimp only at hB
  unfold inpV at hB ⊢
  have qq := (Kept.alloc (fun _ => False) (w.alloc (.cells #[.int .i64 q.kind, .string q.node, .string q.name, .string q.text, .int .i64 q.tr, .int .i64 q.status, .int .i64 q.now, .string q.par, .string q.pnode] 34)) (.cells #[.int .i64 1] 3)).block w.heap.size (by rw [World.size_alloc]; omega) (fun h => h) |>.trans (heap_alloc_new w (.cells #[.int .i64 q.kind, .string q.node, .string q.name, .string q.text, .int .i64 q.tr, .int .i64 q.status, .int .i64 q.now, .string q.par, .string q.pnode] 34))
  have HQ := hid qq
  have HKA := hid KA
  have HE := hid E
  have HR := hid R
  have HF := hid F
  clear E R F KA qq
  by_cases he : ee = 0
  · subst he
    obtain ⟨hfk, hbb⟩ := busyP_ok HP.out
    obtain ⟨h1, h2, _, hkc⟩ := findK_some hfk
    have HC : Hid (∀ w5, Kept (fun _ => False) ((w.alloc (.cells #[.int .i64 q.kind, .string q.node, .string q.name, .string q.text, .int .i64 q.tr, .int .i64 q.status, .int .i64 q.now, .string q.par, .string q.pnode] 34)).alloc (.cells #[.int .i64 1] 3)) w5 → (w5.cell? ⟨w.heap.size, 1, none⟩ = some (.string q.node) ∧ w5.cell? ⟨w.heap.size, 3, none⟩ = some (.string q.text) ∧ w5.cell? ⟨w.heap.size, 5, none⟩ = some (.int .i64 q.status))) := fun w5 K5 => by
      obtain ⟨_, y1, _, y3, _, y5, _⟩ := nineQ ((K5.block w.heap.size (Array.getElem?_eq_some_iff.1 HQ.out).1 (fun h => h)).trans HQ.out)
      exact ⟨y1, y3, y5⟩
    clear HQ hfk hbb
    by_cases hb : 256 < q.text.size
    · have e0 : (256 : Int) < (q.text.size : Int) := by omega
      have HW := hid (show completeP nm ns r q = (r, 9) by unfold completeP; rw [HP.out]; simp [hb])
      clear hb HP
      go_enter Tryd.func25, Tryd.ntmps25
      go_wp2_with (first
        | (go_at_call 39; refine hB.mono ?_; rintro e w5 ⟨rfl, K5⟩; clear hB; obtain ⟨y1, y3, y5⟩ := HC.out w5 K5; have KK := HKA.out.and K5; skip)
        | fail)
      go_ret
      refine ⟨by rw [HW.out]; rfl, ?_⟩
      rw [HW.out]
      exact RGoes.keep HR.out KK
    · have e0 : ¬ (256 : Int) < (q.text.size : Int) := by omega
      have HW := hid (show completeP nm ns r q = (goOnP nm ns (tellP nm ns r ⟨4, q.node, q.text, 0⟩ []), 0) by unfold completeP; rw [HP.out]; simp [hb])
      clear HP
      go_enter Tryd.func25, Tryd.ntmps25
      go_wp2_with (first
        | (go_at_call 39; refine hB.mono ?_; rintro e w5 ⟨rfl, K5⟩; clear hB; obtain ⟨y1, y3, y5⟩ := HC.out w5 K5; have KK := HKA.out.and K5; have HE5 := hid (HE.out.new KK); have hT := tell0 (HE.out.new KK) (HR.out.new KK) HF.out hm ⟨4, q.node, q.text, 0⟩)
        | (go_at_call 34; refine hT.mono ?_; rintro e w6 ⟨rfl, X6⟩; clear hT; have hG := goOn_tell0 HE5.out HF.out hn h6 hm X6; clear X6)
        | (go_at_call 35; refine hG.mono ?_; rintro e w7 ⟨rfl, X7⟩; clear hG)
        | fail)
      go_ret
      refine ⟨by rw [HW.out]; rfl, ?_⟩
      rw [HW.out]
      exact X7.first KK
  · have e1 : (ee != 0) = true := by simp [he]
    have HW := hid (show completeP nm ns r q = (r, ee) by unfold completeP; rw [HP.out]; simp [he])
    clear he HP
    go_enter Tryd.func25, Tryd.ntmps25
    go_wp2_with (first
      | (go_at_call 39; refine hB.mono ?_; rintro e w5 ⟨rfl, K5⟩; clear hB)
      | fail)
    go_ret
    refine ⟨by rw [HW.out]; rfl, ?_⟩
    rw [HW.out]
    exact RGoes.keep HR.out (HKA.out.and K5)

end

end Go.Proofs.YtdecceekodpjiaaDoor

/-
  fail.
-/
namespace Go.Proofs.YtdecceekodpjiaaDoor
open Go.RowKit

section
variable {w0 w : World} {H : Nat → Prop} {rb : Nat} {nm : ByteArray} {a : Option Addr} {c : Nat} {ns : List Nd} {r : Rn} {m : Nat}

set_option maxRecDepth 100000 in
set_option maxHeartbeats 8000000 in
theorem fail_any (E : Env w0 w H a ns) (R : RAt w H rb nm a ns.length c r) (F : Fit r m) (hn : ns.length ≤ 64) (hm : m ≤ 100000) (q : Inp) :
    Calls Tryd.prog 26 #[.pointer (some ⟨rb, 0, none⟩), inpV q] w (DoPost w H rb nm a ns.length c (failP nm ns r q)) := by
  have KA : Kept (fun _ => False) w ((w.alloc (.cells #[.int .i64 q.kind, .string q.node, .string q.name, .string q.text, .int .i64 q.tr, .int .i64 q.status, .int .i64 q.now, .string q.par, .string q.pnode] 34)).alloc (.cells #[.int .i64 1] 3)) := (Kept.alloc _ _ _).and (Kept.alloc _ _ _)
  have hB := busy_any (E.new KA) (R.new KA) F (by omega) q (some ⟨(w.alloc (.cells #[.int .i64 q.kind, .string q.node, .string q.name, .string q.text, .int .i64 q.tr, .int .i64 q.status, .int .i64 q.now, .string q.par, .string q.pnode] 34)).heap.size, 0, none⟩) 1 [1] (by decide) (cells1_new _ 1 _)
  rw [World.size_alloc, show ([1] : List Int).length = 1 from rfl] at hB
  obtain ⟨⟨i, ee⟩, hp⟩ : ∃ p, busyP ns r.st q [1] = p := ⟨_, rfl⟩
  have HP := hid hp
  rw [hp] at hB
  clear hp
  dsimp only at hB
  unfold inpV at hB ⊢
  have qq := (Kept.alloc (fun _ => False) (w.alloc (.cells #[.int .i64 q.kind, .string q.node, .string q.name, .string q.text, .int .i64 q.tr, .int .i64 q.status, .int .i64 q.now, .string q.par, .string q.pnode] 34)) (.cells #[.int .i64 1] 3)).block w.heap.size (by rw [World.size_alloc]; omega) (fun h => h) |>.trans (heap_alloc_new w (.cells #[.int .i64 q.kind, .string q.node, .string q.name, .string q.text, .int .i64 q.tr, .int .i64 q.status, .int .i64 q.now, .string q.par, .string q.pnode] 34))
  have HQ := hid qq
  have HKA := hid KA
  have HE := hid E
  have HR := hid R
  have HF := hid F
  clear E R F KA qq
  by_cases he : ee = 0
  · subst he
    obtain ⟨hfk, hbb⟩ := busyP_ok HP.out
    obtain ⟨h1, h2, _, hkc⟩ := findK_some hfk
    have HC : Hid (∀ w5, Kept (fun _ => False) ((w.alloc (.cells #[.int .i64 q.kind, .string q.node, .string q.name, .string q.text, .int .i64 q.tr, .int .i64 q.status, .int .i64 q.now, .string q.par, .string q.pnode] 34)).alloc (.cells #[.int .i64 1] 3)) w5 → (w5.cell? ⟨w.heap.size, 1, none⟩ = some (.string q.node) ∧ w5.cell? ⟨w.heap.size, 3, none⟩ = some (.string q.text) ∧ w5.cell? ⟨w.heap.size, 5, none⟩ = some (.int .i64 q.status))) := fun w5 K5 => by
      obtain ⟨_, y1, _, y3, _, y5, _⟩ := nineQ ((K5.block w.heap.size (Array.getElem?_eq_some_iff.1 HQ.out).1 (fun h => h)).trans HQ.out)
      exact ⟨y1, y3, y5⟩
    clear HQ hfk hbb
    by_cases hb : 256 < q.text.size
    · have e0 : (256 : Int) < (q.text.size : Int) := by omega
      have HW := hid (show failP nm ns r q = (r, 9) by unfold failP; rw [HP.out]; simp [hb])
      clear hb HP
      go_enter Tryd.func26, Tryd.ntmps26
      go_wp2_with (first
        | (go_at_call 39; refine hB.mono ?_; rintro e w5 ⟨rfl, K5⟩; clear hB; obtain ⟨y1, y3, y5⟩ := HC.out w5 K5; have KK := HKA.out.and K5; skip)
        | fail)
      go_ret
      refine ⟨by rw [HW.out]; rfl, ?_⟩
      rw [HW.out]
      exact RGoes.keep HR.out KK
    · have e0 : ¬ (256 : Int) < (q.text.size : Int) := by omega
      have HW := hid (show failP nm ns r q = (failTryP nm ns r i q.text, 0) by unfold failP; rw [HP.out]; simp [hb])
      clear HP
      go_enter Tryd.func26, Tryd.ntmps26
      go_wp2_with (first
        | (go_at_call 39; refine hB.mono ?_; rintro e w5 ⟨rfl, K5⟩; clear hB; obtain ⟨y1, y3, y5⟩ := HC.out w5 K5; have KK := HKA.out.and K5; have hT := failTry_any (HE.out.new KK) (HR.out.new KK) HF.out (by omega) (by omega) i h1 h2 q.text)
        | (go_at_call 40; refine hT.mono ?_; rintro e w7 ⟨rfl, X7⟩; clear hT)
        | fail)
      go_ret
      refine ⟨by rw [HW.out]; rfl, ?_⟩
      rw [HW.out]
      exact X7.first KK
  · have e1 : (ee != 0) = true := by simp [he]
    have HW := hid (show failP nm ns r q = (r, ee) by unfold failP; rw [HP.out]; simp [he])
    clear he HP
    go_enter Tryd.func26, Tryd.ntmps26
    go_wp2_with (first
      | (go_at_call 39; refine hB.mono ?_; rintro e w5 ⟨rfl, K5⟩; clear hB)
      | fail)
    go_ret
    refine ⟨by rw [HW.out]; rfl, ?_⟩
    rw [HW.out]
    exact RGoes.keep HR.out (HKA.out.and K5)

end

end Go.Proofs.YtdecceekodpjiaaDoor

/-
  fire.
-/
namespace Go.Proofs.YtdecceekodpjiaaDoor
open Go.RowKit

section
variable {w0 w : World} {H : Nat → Prop} {rb : Nat} {nm : ByteArray} {a : Option Addr} {c : Nat} {ns : List Nd} {r : Rn} {m : Nat}

set_option maxRecDepth 100000 in
set_option maxHeartbeats 8000000 in
theorem fire_any (E : Env w0 w H a ns) (R : RAt w H rb nm a ns.length c r) (F : Fit r m) (hn : ns.length ≤ 64) (h6 : r.st.nodes.length ≤ 64) (hm : m ≤ 100000) (q : Inp) :
    Calls Tryd.prog 27 #[.pointer (some ⟨rb, 0, none⟩), inpV q] w (DoPost w H rb nm a ns.length c (fireP nm ns r q)) := by
  have KA : Kept (fun _ => False) w ((w.alloc (.cells #[.int .i64 q.kind, .string q.node, .string q.name, .string q.text, .int .i64 q.tr, .int .i64 q.status, .int .i64 q.now, .string q.par, .string q.pnode] 34)).alloc (.cells #[.int .i64 1, .int .i64 2] 3)) := (Kept.alloc _ _ _).and (Kept.alloc _ _ _)
  have hB := busy_any (E.new KA) (R.new KA) F (by omega) q (some ⟨(w.alloc (.cells #[.int .i64 q.kind, .string q.node, .string q.name, .string q.text, .int .i64 q.tr, .int .i64 q.status, .int .i64 q.now, .string q.par, .string q.pnode] 34)).heap.size, 0, none⟩) 2 [1, 2] (by decide) (cells2_new _ 1 2 _)
  rw [World.size_alloc, show ([1, 2] : List Int).length = 2 from rfl] at hB
  obtain ⟨⟨i, ee⟩, hp⟩ : ∃ p, busyP ns r.st q [1, 2] = p := ⟨_, rfl⟩
  have HP := hid hp
  rw [hp] at hB
  clear hp
  dsimp only at hB
  unfold inpV at hB ⊢
  have qq := (Kept.alloc (fun _ => False) (w.alloc (.cells #[.int .i64 q.kind, .string q.node, .string q.name, .string q.text, .int .i64 q.tr, .int .i64 q.status, .int .i64 q.now, .string q.par, .string q.pnode] 34)) (.cells #[.int .i64 1, .int .i64 2] 3)).block w.heap.size (by rw [World.size_alloc]; omega) (fun h => h) |>.trans (heap_alloc_new w (.cells #[.int .i64 q.kind, .string q.node, .string q.name, .string q.text, .int .i64 q.tr, .int .i64 q.status, .int .i64 q.now, .string q.par, .string q.pnode] 34))
  have HQ := hid qq
  have HKA := hid KA
  have HE := hid E
  have HR := hid R
  have HF := hid F
  clear E R F KA qq
  by_cases he : ee = 0
  · subst he
    obtain ⟨hfk, hbb⟩ := busyP_ok HP.out
    obtain ⟨h1, h2, _, hkc⟩ := findK_some hfk
    have HC : Hid (∀ w5, Kept (fun _ => False) ((w.alloc (.cells #[.int .i64 q.kind, .string q.node, .string q.name, .string q.text, .int .i64 q.tr, .int .i64 q.status, .int .i64 q.now, .string q.par, .string q.pnode] 34)).alloc (.cells #[.int .i64 1, .int .i64 2] 3)) w5 → (w5.cell? ⟨w.heap.size, 1, none⟩ = some (.string q.node) ∧ w5.cell? ⟨w.heap.size, 3, none⟩ = some (.string q.text) ∧ w5.cell? ⟨w.heap.size, 5, none⟩ = some (.int .i64 q.status))) := fun w5 K5 => by
      obtain ⟨_, y1, _, y3, _, y5, _⟩ := nineQ ((K5.block w.heap.size (Array.getElem?_eq_some_iff.1 HQ.out).1 (fun h => h)).trans HQ.out)
      exact ⟨y1, y3, y5⟩
    clear HQ hfk hbb
    have e4 : (i : Int) < (ns.length : Int) := by omega
    have hka : kindAt ns i = (ns[i]).kind := by unfold kindAt; rw [List.getElem?_eq_getElem h1]
    by_cases hk1 : (ns[i]).kind = 1
    · have e5 : ((ns[i]).kind == 1) = true := by simp [hk1]
      have HW := hid (show fireP nm ns r q = (failTryP nm ns r i timeoutB, 0) by unfold fireP; rw [HP.out]; simp [hka, hk1])
      clear HP hk1 hka
      go_enter Tryd.func27, Tryd.ntmps27
      go_wp2_with (first
        | (go_at_call 39; refine hB.mono ?_; rintro e w5 ⟨rfl, K5⟩; clear hB; obtain ⟨y1, y3, y5⟩ := HC.out w5 K5; have KK := HKA.out.and K5; have hT := failTry_any (HE.out.new KK) (HR.out.new KK) HF.out (by omega) (by omega) i h1 h2 timeoutB; unfold timeoutB at hT; obtain ⟨v6, v7, v12, v13, hb5, _⟩ := (HR.out.new KK).opened; obtain ⟨_, x1, _⟩ := runCells hb5; obtain ⟨b, o, av, cv, hae, hT0, c0, c1, _⟩ := (keptNew KK HE.out.here.1).at h1; rw [hae] at x1; clear hb5 hT0 hae)
        | (go_at_call 40; refine hT.mono ?_; rintro e w7 ⟨rfl, X7⟩; clear hT)
        | fail)
      go_ret
      refine ⟨by rw [HW.out]; rfl, ?_⟩
      rw [HW.out]
      exact X7.first KK
    · have e5 : ((ns[i]).kind == 1) = false := by simp [hk1]
      have HW := hid (show fireP nm ns r q = (goOnP nm ns (tellP nm ns r ⟨8, q.node, ⟨#[]⟩, 0⟩ []), 0) by unfold fireP; rw [HP.out]; simp [hka, hk1])
      clear HP hka hk1
      go_enter Tryd.func27, Tryd.ntmps27
      go_wp2_with (first
        | (go_at_call 39; refine hB.mono ?_; rintro e w5 ⟨rfl, K5⟩; clear hB; obtain ⟨y1, y3, y5⟩ := HC.out w5 K5; have KK := HKA.out.and K5; have HE5 := hid (HE.out.new KK); have hT := tell0 (HE.out.new KK) (HR.out.new KK) HF.out hm ⟨8, q.node, ⟨#[]⟩, 0⟩; obtain ⟨v6, v7, v12, v13, hb5, _⟩ := (HR.out.new KK).opened; obtain ⟨_, x1, _⟩ := runCells hb5; obtain ⟨b, o, av, cv, hae, hT0, c0, c1, _⟩ := (keptNew KK HE.out.here.1).at h1; rw [hae] at x1; clear hb5 hT0 hae)
        | (go_at_call 34; refine hT.mono ?_; rintro e w6 ⟨rfl, X6⟩; clear hT; have hG := goOn_tell0 HE5.out HF.out hn h6 hm X6; clear X6)
        | (go_at_call 35; refine hG.mono ?_; rintro e w7 ⟨rfl, X7⟩; clear hG)
        | fail)
      go_ret
      refine ⟨by rw [HW.out]; rfl, ?_⟩
      rw [HW.out]
      exact X7.first KK
  · have e1 : (ee != 0) = true := by simp [he]
    have HW := hid (show fireP nm ns r q = (r, ee) by unfold fireP; rw [HP.out]; simp [he])
    clear he HP
    go_enter Tryd.func27, Tryd.ntmps27
    go_wp2_with (first
      | (go_at_call 39; refine hB.mono ?_; rintro e w5 ⟨rfl, K5⟩; clear hB)
      | fail)
    go_ret
    refine ⟨by rw [HW.out]; rfl, ?_⟩
    rw [HW.out]
    exact RGoes.keep HR.out (HKA.out.and K5)

end

end Go.Proofs.YtdecceekodpjiaaDoor

/-
  child.
-/
namespace Go.Proofs.YtdecceekodpjiaaDoor
open Go.RowKit

section
variable {w0 w : World} {H : Nat → Prop} {rb : Nat} {nm : ByteArray} {a : Option Addr} {c : Nat} {ns : List Nd} {r : Rn} {m : Nat}

set_option maxRecDepth 100000 in
set_option maxHeartbeats 8000000 in
theorem child_any (E : Env w0 w H a ns) (R : RAt w H rb nm a ns.length c r) (F : Fit r m) (hn : ns.length ≤ 64) (h6 : r.st.nodes.length ≤ 64) (hm : m ≤ 100000) (q : Inp) :
    Calls Tryd.prog 28 #[.pointer (some ⟨rb, 0, none⟩), inpV q] w (DoPost w H rb nm a ns.length c (kidP nm ns r q)) := by
  have KA : Kept (fun _ => False) w ((w.alloc (.cells #[.int .i64 q.kind, .string q.node, .string q.name, .string q.text, .int .i64 q.tr, .int .i64 q.status, .int .i64 q.now, .string q.par, .string q.pnode] 34)).alloc (.cells #[.int .i64 3] 3)) := (Kept.alloc _ _ _).and (Kept.alloc _ _ _)
  have hB := busy_any (E.new KA) (R.new KA) F (by omega) q (some ⟨(w.alloc (.cells #[.int .i64 q.kind, .string q.node, .string q.name, .string q.text, .int .i64 q.tr, .int .i64 q.status, .int .i64 q.now, .string q.par, .string q.pnode] 34)).heap.size, 0, none⟩) 1 [3] (by decide) (cells1_new _ 3 _)
  rw [World.size_alloc, show ([3] : List Int).length = 1 from rfl] at hB
  obtain ⟨⟨i, ee⟩, hp⟩ : ∃ p, busyP ns r.st q [3] = p := ⟨_, rfl⟩
  have HP := hid hp
  rw [hp] at hB
  clear hp
  dsimp only at hB
  unfold inpV at hB ⊢
  have qq := (Kept.alloc (fun _ => False) (w.alloc (.cells #[.int .i64 q.kind, .string q.node, .string q.name, .string q.text, .int .i64 q.tr, .int .i64 q.status, .int .i64 q.now, .string q.par, .string q.pnode] 34)) (.cells #[.int .i64 3] 3)).block w.heap.size (by rw [World.size_alloc]; omega) (fun h => h) |>.trans (heap_alloc_new w (.cells #[.int .i64 q.kind, .string q.node, .string q.name, .string q.text, .int .i64 q.tr, .int .i64 q.status, .int .i64 q.now, .string q.par, .string q.pnode] 34))
  have HQ := hid qq
  have HKA := hid KA
  have HE := hid E
  have HR := hid R
  have HF := hid F
  clear E R F KA qq
  by_cases he : ee = 0
  · subst he
    obtain ⟨hfk, hbb⟩ := busyP_ok HP.out
    obtain ⟨h1, h2, _, hkc⟩ := findK_some hfk
    have HC : Hid (∀ w5, Kept (fun _ => False) ((w.alloc (.cells #[.int .i64 q.kind, .string q.node, .string q.name, .string q.text, .int .i64 q.tr, .int .i64 q.status, .int .i64 q.now, .string q.par, .string q.pnode] 34)).alloc (.cells #[.int .i64 3] 3)) w5 → (w5.cell? ⟨w.heap.size, 1, none⟩ = some (.string q.node) ∧ w5.cell? ⟨w.heap.size, 3, none⟩ = some (.string q.text) ∧ w5.cell? ⟨w.heap.size, 5, none⟩ = some (.int .i64 q.status))) := fun w5 K5 => by
      obtain ⟨_, y1, _, y3, _, y5, _⟩ := nineQ ((K5.block w.heap.size (Array.getElem?_eq_some_iff.1 HQ.out).1 (fun h => h)).trans HQ.out)
      exact ⟨y1, y3, y5⟩
    clear HQ hfk hbb
    by_cases hs2 : q.status = 2
    · have e5 : (q.status != 2) = false := by simp [hs2]
      have HW := hid (show kidP nm ns r q = (goOnP nm ns (tellP nm ns r ⟨10, q.node, q.text, 0⟩ []), 0) by unfold kidP; rw [HP.out]; simp [hs2])
      clear HP hs2
      go_enter Tryd.func28, Tryd.ntmps28
      go_wp2_with (first
        | (go_at_call 39; refine hB.mono ?_; rintro e w5 ⟨rfl, K5⟩; clear hB; obtain ⟨y1, y3, y5⟩ := HC.out w5 K5; have KK := HKA.out.and K5; have HE5 := hid (HE.out.new KK); have hT := tell0 (HE.out.new KK) (HR.out.new KK) HF.out hm ⟨10, q.node, q.text, 0⟩)
        | (go_at_call 34; refine hT.mono ?_; rintro e w6 ⟨rfl, X6⟩; clear hT; have hG := goOn_tell0 HE5.out HF.out hn h6 hm X6; clear X6)
        | (go_at_call 35; refine hG.mono ?_; rintro e w7 ⟨rfl, X7⟩; clear hG)
        | fail)
      go_ret
      refine ⟨by rw [HW.out]; rfl, ?_⟩
      rw [HW.out]
      exact X7.first KK
    · have e5 : (q.status != 2) = true := by simp [hs2]
      have HW := hid (show kidP nm ns r q = (breakP nm ns r q.node q.text, 0) by unfold kidP; rw [HP.out]; simp [hs2])
      clear HP hs2
      go_enter Tryd.func28, Tryd.ntmps28
      go_wp2_with (first
        | (go_at_call 39; refine hB.mono ?_; rintro e w5 ⟨rfl, K5⟩; clear hB; obtain ⟨y1, y3, y5⟩ := HC.out w5 K5; have KK := HKA.out.and K5; have hT := breakAt_any (HE.out.new KK) (HR.out.new KK) HF.out (by omega) (by omega) q.node q.text)
        | (go_at_call 41; refine hT.mono ?_; rintro e w7 ⟨rfl, X7⟩; clear hT)
        | fail)
      go_ret
      refine ⟨by rw [HW.out]; rfl, ?_⟩
      rw [HW.out]
      exact X7.first KK
  · have e1 : (ee != 0) = true := by simp [he]
    have HW := hid (show kidP nm ns r q = (r, ee) by unfold kidP; rw [HP.out]; simp [he])
    clear he HP
    go_enter Tryd.func28, Tryd.ntmps28
    go_wp2_with (first
      | (go_at_call 39; refine hB.mono ?_; rintro e w5 ⟨rfl, K5⟩; clear hB)
      | fail)
    go_ret
    refine ⟨by rw [HW.out]; rfl, ?_⟩
    rw [HW.out]
    exact RGoes.keep HR.out (HKA.out.and K5)

end

end Go.Proofs.YtdecceekodpjiaaDoor
