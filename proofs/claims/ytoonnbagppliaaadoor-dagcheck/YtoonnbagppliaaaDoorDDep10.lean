/-
  Depth: a row that ends with a node ahead is held against the longest so far.
-/
import Derived.Test.YtoonnbagppliaaaDoorDWalkIn
namespace Go.Proofs.YtoonnbagppliaaaDoor
open Go.RowKit Go.Shelf

set_option maxRecDepth 100000 in
set_option maxHeartbeats 2000000 in
theorem dep10 {W : World} {fb rc rb mb n i j x y : Nat} {s : ByteArray} {m r : Nat} {ds : List Deferred} {u0 u1 u2 u5 u7 u8 u10 u11 u12 u13 u14 u15 u16 u17 u18 u19 u20 u21 u22 u23 u24 u25 u26 u27 u28 u29 u30 u31 u32 u33 u34 u35 u36 u37 u38 u39 u40 u41 u42 u43 u44 u45 u46 u47 u48 u49 u50 u51 u52 u53 u54 : Value} (K : Act → World → Prop)
    (hS : ∀ V, V = W.drew ∨ V = W.drew.setCell ⟨rb, i, none⟩ (.int .i64 (max (x : Int) (y : Int))) → V.cell? ⟨rc, 0, none⟩ = some (.slice (some ⟨rb, 0, none⟩) n n) ∧ V.cell? ⟨fb, 0, none⟩ = some (.map (some mb)) ∧ (Instr.lookup 57 (.map (some mb)) (.string s) false).run Tryd.prog V = .ok (.int .i64 (j : Nat)) V)
    (hx : W.drew.cell? ⟨rb, i, none⟩ = some (.int .i64 (x : Nat))) (hy : W.drew.cell? ⟨rb, j, none⟩ = some (.int .i64 (y : Nat))) (hz : W.drew.frozen? ⟨rb, i, none⟩ = false) (hi : (i : Int) < (n : Int)) (hj : (j : Int) < (n : Int))
    (h : ∀ (v27 v28 v29 v30 v31 v32 v33 v34 v35 v36 v37 v38 v39 v40 : Value), K { tmps := #[u0, u1, u2, .pointer (some ⟨fb, 0, none⟩), .pointer (some ⟨rc, 0, none⟩), u5, .int .i64 (i : Nat), u7, u8, .string s, u10, u11, u12, u13, u14, u15, u16, u17, u18, u19, u20, u21, u22, u23, u24, u25, u26, v27, v28, v29, v30, v31, v32, v33, v34, v35, v36, v37, v38, v39, v40, u41, u42, u43, u44, u45, u46, u47, u48, u49, u50, u51, u52, u53, u54], defers := ds } (W.drew.setCell ⟨rb, i, none⟩ (.int .i64 (max (x : Int) (y : Int))))) :
    (Code.region 10 #[{ dst := some 27, op := Op.load 37 (Operand.tmp 4), type := 37, pos := "order.go:105", after := #[], guard := none }, { dst := some 28, op := Op.move (Operand.tmp 6), type := 3, pos := "order.go:105", after := #[], guard := none }, { dst := some 29, op := Op.load 37 (Operand.tmp 4), type := 37, pos := "order.go:105", after := #[], guard := none }, { dst := some 30, op := Op.move (Operand.tmp 6), type := 3, pos := "order.go:105", after := #[], guard := none }, { dst := some 31, op := Op.indexAddr 37 (Operand.tmp 29) (Operand.tmp 30), type := 0, pos := "order.go:105", after := #[{ on := 2, ground := Ground.data }, { on := 3, ground := Ground.data }], guard := none }, { dst := some 32, op := Op.load 3 (Operand.tmp 31), type := 3, pos := "order.go:105", after := #[{ on := 4, ground := Ground.data }], guard := none }, { dst := some 33, op := Op.load 37 (Operand.tmp 4), type := 37, pos := "order.go:105", after := #[], guard := none }, { dst := some 34, op := Op.load 57 (Operand.tmp 3), type := 57, pos := "order.go:105", after := #[], guard := none }, { dst := some 35, op := Op.move (Operand.tmp 9), type := 9, pos := "order.go:105", after := #[], guard := none }, { dst := some 36, op := Op.lookup 57 (Operand.tmp 34) (Operand.tmp 35) false, type := 3, pos := "order.go:105", after := #[{ on := 7, ground := Ground.data }, { on := 8, ground := Ground.data }], guard := none }, { dst := some 37, op := Op.indexAddr 37 (Operand.tmp 33) (Operand.tmp 36), type := 0, pos := "order.go:105", after := #[{ on := 6, ground := Ground.data }, { on := 9, ground := Ground.data }], guard := none }, { dst := some 38, op := Op.load 3 (Operand.tmp 37), type := 3, pos := "order.go:105", after := #[{ on := 10, ground := Ground.data }], guard := none }, { dst := some 39, op := Op.call { callee := Callee.builtin Builtin.max, args := #[Operand.tmp 32, Operand.tmp 38], argTypes := #[3, 3] }, type := 3, pos := "order.go:105", after := #[{ on := 5, ground := Ground.data }, { on := 11, ground := Ground.data }], guard := none }, { dst := some 40, op := Op.indexAddr 37 (Operand.tmp 27) (Operand.tmp 28), type := 0, pos := "order.go:105", after := #[{ on := 0, ground := Ground.data }, { on := 1, ground := Ground.data }, { on := 0, ground := Ground.phase }, { on := 1, ground := Ground.phase }, { on := 2, ground := Ground.phase }, { on := 3, ground := Ground.phase }, { on := 4, ground := Ground.phase }, { on := 5, ground := Ground.phase }, { on := 6, ground := Ground.phase }, { on := 7, ground := Ground.phase }, { on := 8, ground := Ground.phase }, { on := 9, ground := Ground.phase }, { on := 10, ground := Ground.phase }, { on := 11, ground := Ground.phase }, { on := 12, ground := Ground.phase }], guard := none }, { dst := none, op := Op.store 3 (Operand.tmp 40) (Operand.tmp 39), type := 0, pos := "order.go:105", after := #[{ on := 13, ground := Ground.data }, { on := 12, ground := Ground.data }, { on := 0, ground := Ground.phase }, { on := 1, ground := Ground.phase }, { on := 2, ground := Ground.phase }, { on := 3, ground := Ground.phase }, { on := 4, ground := Ground.phase }, { on := 5, ground := Ground.phase }, { on := 6, ground := Ground.phase }, { on := 7, ground := Ground.phase }, { on := 8, ground := Ground.phase }, { on := 9, ground := Ground.phase }, { on := 10, ground := Ground.phase }, { on := 11, ground := Ground.phase }, { on := 12, ground := Ground.phase }], guard := none }] true).wpIn (Fence.wide.inRound r) m Tryd.prog (nrm K) { tmps := #[u0, u1, u2, .pointer (some ⟨fb, 0, none⟩), .pointer (some ⟨rc, 0, none⟩), u5, .int .i64 (i : Nat), u7, u8, .string s, u10, u11, u12, u13, u14, u15, u16, u17, u18, u19, u20, u21, u22, u23, u24, u25, u26, u27, u28, u29, u30, u31, u32, u33, u34, u35, u36, u37, u38, u39, u40, u41, u42, u43, u44, u45, u46, u47, u48, u49, u50, u51, u52, u53, u54], defers := ds } W := by
  have HH : Hid _ := h
  have HS : Hid _ := hS
  have g1 : (0 : Int) ≤ (i : Int) := by omega
  have g2 : (0 : Int) ≤ (j : Int) := by omega
  clear h hS
  refine region_round_held (fun V => V = W.drew ∨ V = W.drew.setCell ⟨rb, i, none⟩ (.int .i64 (max (x : Int) (y : Int)))) (by kernel_rfl) (by kernel_rfl) (nrm_out _) ?_
  refine wpAnyH_take (i := 0) (oi := { dst := some 27, op := Op.load 37 (Operand.tmp 4), type := 37, pos := "order.go:105", after := #[], guard := none }) (v := ?vvt0) rfl (by kernel_rfl) (by kernel_rfl) (by kernel_rfl) (fun _ _ _ h => h) (Or.inl ⟨by rfl, ?hyt0⟩) (Or.inl rfl) ?restt0
  case hyt0 =>
    intro V hV
    obtain ⟨hc, hf, hl⟩ := HS.out V hV
    go_simp
    all_goals rfl
  simp only [Act.put, List.setIfInBounds_toArray, List.set_cons_zero, List.set_cons_succ]
  refine wpAnyH_take (i := 1) (oi := { dst := some 28, op := Op.move (Operand.tmp 6), type := 3, pos := "order.go:105", after := #[], guard := none }) (v := ?vvt1) rfl (by kernel_rfl) (by kernel_rfl) (by kernel_rfl) (fun _ _ _ h => h) (Or.inl ⟨by rfl, ?hyt1⟩) (Or.inl rfl) ?restt1
  case hyt1 =>
    intro V hV
    obtain ⟨hc, hf, hl⟩ := HS.out V hV
    go_simp
    all_goals rfl
  simp only [Act.put, List.setIfInBounds_toArray, List.set_cons_zero, List.set_cons_succ]
  refine wpAnyH_take (i := 2) (oi := { dst := some 29, op := Op.load 37 (Operand.tmp 4), type := 37, pos := "order.go:105", after := #[], guard := none }) (v := ?vvt2) rfl (by kernel_rfl) (by kernel_rfl) (by kernel_rfl) (fun _ _ _ h => h) (Or.inl ⟨by rfl, ?hyt2⟩) (Or.inl rfl) ?restt2
  case hyt2 =>
    intro V hV
    obtain ⟨hc, hf, hl⟩ := HS.out V hV
    go_simp
    all_goals rfl
  simp only [Act.put, List.setIfInBounds_toArray, List.set_cons_zero, List.set_cons_succ]
  refine wpAnyH_take (i := 3) (oi := { dst := some 30, op := Op.move (Operand.tmp 6), type := 3, pos := "order.go:105", after := #[], guard := none }) (v := ?vvt3) rfl (by kernel_rfl) (by kernel_rfl) (by kernel_rfl) (fun _ _ _ h => h) (Or.inl ⟨by rfl, ?hyt3⟩) (Or.inl rfl) ?restt3
  case hyt3 =>
    intro V hV
    obtain ⟨hc, hf, hl⟩ := HS.out V hV
    go_simp
    all_goals rfl
  simp only [Act.put, List.setIfInBounds_toArray, List.set_cons_zero, List.set_cons_succ]
  refine wpAnyH_take (i := 4) (oi := { dst := some 31, op := Op.indexAddr 37 (Operand.tmp 29) (Operand.tmp 30), type := 0, pos := "order.go:105", after := #[{ on := 2, ground := Ground.data }, { on := 3, ground := Ground.data }], guard := none }) (v := ?vvt4) rfl (by kernel_rfl) (by kernel_rfl) (by kernel_rfl) (fun _ _ _ h => h) (Or.inl ⟨by rfl, ?hyt4⟩) (Or.inl rfl) ?restt4
  case hyt4 =>
    intro V hV
    obtain ⟨hc, hf, hl⟩ := HS.out V hV
    go_simp
    all_goals rfl
  simp only [Act.put, List.setIfInBounds_toArray, List.set_cons_zero, List.set_cons_succ]
  refine wpAnyH_take (i := 6) (oi := { dst := some 33, op := Op.load 37 (Operand.tmp 4), type := 37, pos := "order.go:105", after := #[], guard := none }) (v := ?vvt6) rfl (by kernel_rfl) (by kernel_rfl) (by kernel_rfl) (fun _ _ _ h => h) (Or.inl ⟨by rfl, ?hyt6⟩) (Or.inl rfl) ?restt6
  case hyt6 =>
    intro V hV
    obtain ⟨hc, hf, hl⟩ := HS.out V hV
    go_simp
    all_goals rfl
  simp only [Act.put, List.setIfInBounds_toArray, List.set_cons_zero, List.set_cons_succ]
  refine wpAnyH_take (i := 7) (oi := { dst := some 34, op := Op.load 57 (Operand.tmp 3), type := 57, pos := "order.go:105", after := #[], guard := none }) (v := ?vvt7) rfl (by kernel_rfl) (by kernel_rfl) (by kernel_rfl) (fun _ _ _ h => h) (Or.inl ⟨by rfl, ?hyt7⟩) (Or.inl rfl) ?restt7
  case hyt7 =>
    intro V hV
    obtain ⟨hc, hf, hl⟩ := HS.out V hV
    go_simp
    all_goals rfl
  simp only [Act.put, List.setIfInBounds_toArray, List.set_cons_zero, List.set_cons_succ]
  refine wpAnyH_take (i := 8) (oi := { dst := some 35, op := Op.move (Operand.tmp 9), type := 9, pos := "order.go:105", after := #[], guard := none }) (v := ?vvt8) rfl (by kernel_rfl) (by kernel_rfl) (by kernel_rfl) (fun _ _ _ h => h) (Or.inl ⟨by rfl, ?hyt8⟩) (Or.inl rfl) ?restt8
  case hyt8 =>
    intro V hV
    obtain ⟨hc, hf, hl⟩ := HS.out V hV
    go_simp
    all_goals rfl
  simp only [Act.put, List.setIfInBounds_toArray, List.set_cons_zero, List.set_cons_succ]
  refine wpAnyH_take (i := 9) (oi := { dst := some 36, op := Op.lookup 57 (Operand.tmp 34) (Operand.tmp 35) false, type := 3, pos := "order.go:105", after := #[{ on := 7, ground := Ground.data }, { on := 8, ground := Ground.data }], guard := none }) (v := ?vvt9) rfl (by kernel_rfl) (by kernel_rfl) (by kernel_rfl) (fun _ _ _ h => h) (Or.inl ⟨by rfl, ?hyt9⟩) (Or.inl rfl) ?restt9
  case hyt9 =>
    intro V hV
    obtain ⟨hc, hf, hl⟩ := HS.out V hV
    go_simp
    all_goals rfl
  simp only [Act.put, List.setIfInBounds_toArray, List.set_cons_zero, List.set_cons_succ]
  refine wpAnyH_take (i := 10) (oi := { dst := some 37, op := Op.indexAddr 37 (Operand.tmp 33) (Operand.tmp 36), type := 0, pos := "order.go:105", after := #[{ on := 6, ground := Ground.data }, { on := 9, ground := Ground.data }], guard := none }) (v := ?vvt10) rfl (by kernel_rfl) (by kernel_rfl) (by kernel_rfl) (fun _ _ _ h => h) (Or.inl ⟨by rfl, ?hyt10⟩) (Or.inl rfl) ?restt10
  case hyt10 =>
    intro V hV
    obtain ⟨hc, hf, hl⟩ := HS.out V hV
    go_simp
    all_goals rfl
  simp only [Act.put, List.setIfInBounds_toArray, List.set_cons_zero, List.set_cons_succ]
  refine wpAnyH_ready (rs := [5, 11]) (by kernel_rfl) (by simp) (AllReadyH.cons (o := { dst := some 32, op := Op.load 3 (Operand.tmp 31), type := 3, pos := "order.go:105", after := #[{ on := 4, ground := Ground.data }], guard := none }) rfl (fun K' hK => ?ra) (AllReadyH.cons (o := { dst := some 38, op := Op.load 3 (Operand.tmp 37), type := 3, pos := "order.go:105", after := #[{ on := 10, ground := Ground.data }], guard := none }) rfl (fun K' hK => ?rb) AllReadyH.nil))
  case ra =>
    rw [if_pos (by simp [Region.wanted])]
    unfold Oper.wp
    go_simp
    refine hK.out _ _ (Or.inl rfl) (fun _ => ?_)
    clear hK K'
    try simp only [Act.put, List.setIfInBounds_toArray, List.set_cons_zero, List.set_cons_succ]
    refine wpAnyH_ready (rs := [11]) (by kernel_rfl) (by simp) (AllReadyH.cons (o := { dst := some 38, op := Op.load 3 (Operand.tmp 37), type := 3, pos := "order.go:105", after := #[{ on := 10, ground := Ground.data }], guard := none }) rfl (fun K' hK => ?_) AllReadyH.nil)
    rw [if_pos (by simp [Region.wanted])]
    unfold Oper.wp
    go_simp
    refine hK.out _ _ (Or.inl rfl) (fun _ => ?_)
    clear hK K'
    try simp only [Act.put, List.setIfInBounds_toArray, List.set_cons_zero, List.set_cons_succ]
    refine wpAnyH_take (i := 12) (oi := { dst := some 39, op := Op.call { callee := Callee.builtin Builtin.max, args := #[Operand.tmp 32, Operand.tmp 38], argTypes := #[3, 3] }, type := 3, pos := "order.go:105", after := #[{ on := 5, ground := Ground.data }, { on := 11, ground := Ground.data }], guard := none }) (v := ?vvma) rfl (by kernel_rfl) (by kernel_rfl) (by kernel_rfl) (fun _ _ _ h => h) (Or.inl ⟨by rfl, ?hyma⟩) (Or.inl rfl) ?restma
    case hyma =>
      intro V hV
      obtain ⟨hc, hf, hl⟩ := HS.out V hV
      go_simp
      all_goals rfl
    simp only [Act.put, List.setIfInBounds_toArray, List.set_cons_zero, List.set_cons_succ]
    refine wpAnyH_take (i := 13) (oi := { dst := some 40, op := Op.indexAddr 37 (Operand.tmp 27) (Operand.tmp 28), type := 0, pos := "order.go:105", after := #[{ on := 0, ground := Ground.data }, { on := 1, ground := Ground.data }, { on := 0, ground := Ground.phase }, { on := 1, ground := Ground.phase }, { on := 2, ground := Ground.phase }, { on := 3, ground := Ground.phase }, { on := 4, ground := Ground.phase }, { on := 5, ground := Ground.phase }, { on := 6, ground := Ground.phase }, { on := 7, ground := Ground.phase }, { on := 8, ground := Ground.phase }, { on := 9, ground := Ground.phase }, { on := 10, ground := Ground.phase }, { on := 11, ground := Ground.phase }, { on := 12, ground := Ground.phase }], guard := none }) (v := ?vvna) rfl (by kernel_rfl) (by kernel_rfl) (by kernel_rfl) (fun _ _ _ h => h) (Or.inl ⟨by rfl, ?hyna⟩) (Or.inl rfl) ?restna
    case hyna =>
      intro V hV
      obtain ⟨hc, hf, hl⟩ := HS.out V hV
      go_simp
      all_goals rfl
    simp only [Act.put, List.setIfInBounds_toArray, List.set_cons_zero, List.set_cons_succ]
    refine wpAnyH_ready (rs := [14]) (by kernel_rfl) (by simp) (AllReadyH.cons (o := { dst := none, op := Op.store 3 (Operand.tmp 40) (Operand.tmp 39), type := 0, pos := "order.go:105", after := #[{ on := 13, ground := Ground.data }, { on := 12, ground := Ground.data }, { on := 0, ground := Ground.phase }, { on := 1, ground := Ground.phase }, { on := 2, ground := Ground.phase }, { on := 3, ground := Ground.phase }, { on := 4, ground := Ground.phase }, { on := 5, ground := Ground.phase }, { on := 6, ground := Ground.phase }, { on := 7, ground := Ground.phase }, { on := 8, ground := Ground.phase }, { on := 9, ground := Ground.phase }, { on := 10, ground := Ground.phase }, { on := 11, ground := Ground.phase }, { on := 12, ground := Ground.phase }], guard := none }) rfl (fun K' hK => ?_) AllReadyH.nil)
    rw [if_pos (by simp [Region.wanted])]
    unfold Oper.wp
    go_simp
    refine hK.out _ _ (Or.inr rfl) (fun _ => ?_)
    clear hK K'
    try simp only [Act.put, List.setIfInBounds_toArray, List.set_cons_zero, List.set_cons_succ]
    refine wpAnyH_done (by kernel_rfl) ?_ _
    exact HH.out _ _ _ _ _ _ _ _ _ _ _ _ _ _
  case rb =>
    rw [if_pos (by simp [Region.wanted])]
    unfold Oper.wp
    go_simp
    refine hK.out _ _ (Or.inl rfl) (fun _ => ?_)
    clear hK K'
    try simp only [Act.put, List.setIfInBounds_toArray, List.set_cons_zero, List.set_cons_succ]
    refine wpAnyH_ready (rs := [5]) (by kernel_rfl) (by simp) (AllReadyH.cons (o := { dst := some 32, op := Op.load 3 (Operand.tmp 31), type := 3, pos := "order.go:105", after := #[{ on := 4, ground := Ground.data }], guard := none }) rfl (fun K' hK => ?_) AllReadyH.nil)
    rw [if_pos (by simp [Region.wanted])]
    unfold Oper.wp
    go_simp
    refine hK.out _ _ (Or.inl rfl) (fun _ => ?_)
    clear hK K'
    try simp only [Act.put, List.setIfInBounds_toArray, List.set_cons_zero, List.set_cons_succ]
    refine wpAnyH_take (i := 12) (oi := { dst := some 39, op := Op.call { callee := Callee.builtin Builtin.max, args := #[Operand.tmp 32, Operand.tmp 38], argTypes := #[3, 3] }, type := 3, pos := "order.go:105", after := #[{ on := 5, ground := Ground.data }, { on := 11, ground := Ground.data }], guard := none }) (v := ?vvmb) rfl (by kernel_rfl) (by kernel_rfl) (by kernel_rfl) (fun _ _ _ h => h) (Or.inl ⟨by rfl, ?hymb⟩) (Or.inl rfl) ?restmb
    case hymb =>
      intro V hV
      obtain ⟨hc, hf, hl⟩ := HS.out V hV
      go_simp
      all_goals rfl
    simp only [Act.put, List.setIfInBounds_toArray, List.set_cons_zero, List.set_cons_succ]
    refine wpAnyH_take (i := 13) (oi := { dst := some 40, op := Op.indexAddr 37 (Operand.tmp 27) (Operand.tmp 28), type := 0, pos := "order.go:105", after := #[{ on := 0, ground := Ground.data }, { on := 1, ground := Ground.data }, { on := 0, ground := Ground.phase }, { on := 1, ground := Ground.phase }, { on := 2, ground := Ground.phase }, { on := 3, ground := Ground.phase }, { on := 4, ground := Ground.phase }, { on := 5, ground := Ground.phase }, { on := 6, ground := Ground.phase }, { on := 7, ground := Ground.phase }, { on := 8, ground := Ground.phase }, { on := 9, ground := Ground.phase }, { on := 10, ground := Ground.phase }, { on := 11, ground := Ground.phase }, { on := 12, ground := Ground.phase }], guard := none }) (v := ?vvnb) rfl (by kernel_rfl) (by kernel_rfl) (by kernel_rfl) (fun _ _ _ h => h) (Or.inl ⟨by rfl, ?hynb⟩) (Or.inl rfl) ?restnb
    case hynb =>
      intro V hV
      obtain ⟨hc, hf, hl⟩ := HS.out V hV
      go_simp
      all_goals rfl
    simp only [Act.put, List.setIfInBounds_toArray, List.set_cons_zero, List.set_cons_succ]
    refine wpAnyH_ready (rs := [14]) (by kernel_rfl) (by simp) (AllReadyH.cons (o := { dst := none, op := Op.store 3 (Operand.tmp 40) (Operand.tmp 39), type := 0, pos := "order.go:105", after := #[{ on := 13, ground := Ground.data }, { on := 12, ground := Ground.data }, { on := 0, ground := Ground.phase }, { on := 1, ground := Ground.phase }, { on := 2, ground := Ground.phase }, { on := 3, ground := Ground.phase }, { on := 4, ground := Ground.phase }, { on := 5, ground := Ground.phase }, { on := 6, ground := Ground.phase }, { on := 7, ground := Ground.phase }, { on := 8, ground := Ground.phase }, { on := 9, ground := Ground.phase }, { on := 10, ground := Ground.phase }, { on := 11, ground := Ground.phase }, { on := 12, ground := Ground.phase }], guard := none }) rfl (fun K' hK => ?_) AllReadyH.nil)
    rw [if_pos (by simp [Region.wanted])]
    unfold Oper.wp
    go_simp
    refine hK.out _ _ (Or.inr rfl) (fun _ => ?_)
    clear hK K'
    try simp only [Act.put, List.setIfInBounds_toArray, List.set_cons_zero, List.set_cons_succ]
    refine wpAnyH_done (by kernel_rfl) ?_ _
    exact HH.out _ _ _ _ _ _ _ _ _ _ _ _ _ _

end Go.Proofs.YtoonnbagppliaaaDoor
