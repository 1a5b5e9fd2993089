/-
  The document's disk: Fail, begin.
-/
import Derived.Test.YtdbmefjagggnoaaRefGet
namespace Go.Proofs.Ytdbmefjagggnoaa
open Go.RowKit Go.Maps Go.ChangeMaps Go.MapKept

/-- The bounds of the document's disk. -/
structure RBd (rs : RSt) : Prop where
  stopLo : -1 ≤ rs.stop
  stopHi : rs.stop ≤ 9223372036854775807
  count0 : 0 ≤ rs.count
  faults : ∀ p ∈ rs.faults, 0 ≤ p.1 ∧ p.1 ≤ 9223372036854775807

theorem RBd.new : RBd RSt.new := ⟨by simp [RSt.new], by simp [RSt.new], by simp [RSt.new], fun p hp => by simp [RSt.new] at hp⟩
theorem RBd.after {rs : RSt} (h : RBd rs) : RBd rs.after := by
  refine ⟨?_, ?_, ?_, ?_⟩
  · have := h.stopLo; simp only [RSt.after]; split <;> omega
  · have := h.stopHi; simp only [RSt.after]; split <;> omega
  · have := h.count0; simp only [RSt.after]; omega
  · intro p hp
    simp only [RSt.after, List.mem_map, List.mem_filter, decide_eq_true_eq] at hp
    obtain ⟨q, ⟨hq, h0⟩, rfl⟩ := hp
    have := h.faults q hq
    dsimp only
    omega
theorem RBd.withL {rs : RSt} (h : RBd rs) (l : List RF) : RBd { rs with L := l } := ⟨h.stopLo, h.stopHi, h.count0, h.faults⟩
theorem RBd.fail {rs : RSt} (h : RBd rs) (a k : Int) (ha : a ≤ 9223372036854775807) : RBd (rs.fail a k) := by
  refine ⟨h.stopLo, h.stopHi, h.count0, ?_⟩
  intro p hp
  simp only [RSt.fail, List.mem_append, List.mem_singleton] at hp
  rcases hp with hp | rfl
  · exact h.faults p hp
  · dsimp only; omega
theorem RBd.stopIn {rs : RSt} (h : RBd rs) (a : Int) (ha : a ≤ 9223372036854775807) : RBd (rs.stopIn a) :=
  ⟨by simp only [RSt.stopIn]; omega, by simp only [RSt.stopIn]; omega, h.count0, h.faults⟩
theorem RBd.crash {rs : RSt} (h : RBd rs) (cs : List Int) : RBd (rs.crash cs) :=
  ⟨by simp [RSt.crash], by simp [RSt.crash], h.count0, fun p hp => by simp [RSt.crash] at hp⟩
theorem RBd.add {rs : RSt} (h : RBd rs) (x : Int) (b : List Int) : RBd (rs.add x b) := by
  unfold RSt.add; split
  · exact h
  · exact h.withL _
theorem RBd.append {rs : RSt} (h : RBd rs) (x : Int) (b : List Int) : RBd (rs.append x b) := by
  unfold RSt.append
  split
  · exact h.after.add _ _
  · split
    · exact h.after.add _ _
    · exact h.after
theorem RBd.sync {rs : RSt} (h : RBd rs) (x : Int) : RBd (rs.sync x) := by
  unfold RSt.sync
  split
  · split
    · exact h.after.withL _
    · exact h.after
  · exact h.after
theorem RBd.delete {rs : RSt} (h : RBd rs) (x : Int) : RBd (rs.delete x) := by
  unfold RSt.delete
  split
  · exact h.after.withL _
  · exact h.after

section
variable {w w' : World} {S : Nat → Prop} {r : Nat} {rs : RSt} {vL vF : Value} {M : List RM}

theorem RefIn.neFM (R : RefIn w S r rs vL vF M) {p : RM} (hp : p ∈ M) {k : Nat} (h : p.2.ownBlock = some k) : vF.ownBlock ≠ some k := by
  intro e; obtain ⟨cur, hh⟩ := ownsRow_type (R.bytes p hp).row h; obtain ⟨cur2, hh2⟩ := ownsRow_type R.rowF e; rw [hh] at hh2; simp at hh2

theorem setCell_block (w : World) (r o : Nat) (v : Value) {k : Nat} (hk : k ≠ r) : (w.setCell ⟨r, o, none⟩ v).heap[k]? = w.heap[k]? := by simp [World.setCell, Array.getElem?_modify, Ne.symm hk]

theorem ownsRow_low {w : World} {base n size : Nat} {e : TypeId} {v : Value} {xs : List Value} (h : w.ownsRow base e size v n xs) : w.ownsRow 0 e size v n xs := by
  refine ⟨h.1, ?_⟩
  rcases h.2 with h0 | ⟨g, cap, cur, rfl, hb2, hh, r⟩
  · exact .inl h0
  · exact .inr ⟨g, cap, cur, rfl, Nat.zero_le _, hh, r⟩

/-- Behind a call the document's disk is rs'; what was not the disk's is kept. -/
def RefTo (w : World) (S : Nat → Prop) (r : Nat) (rs' : RSt) (w' : World) : Prop := ∃ S' vL vF M, RefIn w' S' r rs' vL vF M ∧ Kept S w w' ∧ ∀ k, S' k → S k ∨ w.heap.size ≤ k

/-- Other faults are laid. -/
theorem RefIn.setF (R : RefIn w S r rs vL vF M) {w1 : World} {vF' : Value} {l : List (Int × Int)} (K : Kept (fun k => vF.ownBlock = some k) w w1) (ho : w1.ownsRow 0 107 2 vF' l.length (faultCells l)) :
    RefIn (w1.setCell ⟨r, 1, none⟩ vF') (fun k => S k ∨ vF'.ownBlock = some k) r { rs with faults := l } vL vF' M := by
  have hr : w1.heap[r]? = w.heap[r]? := K.block r (R.bnd r R.sr) (fun e => R.neF e rfl)
  have hne : ∀ k, vF'.ownBlock = some k → k ≠ r := fun k hk e => by
    obtain ⟨cur, hh⟩ := ownsRow_type ho hk
    rw [e, hr, R.head] at hh; simp at hh
  exact {
    ghost := R.ghost
    head := by simp [World.setCell, Array.getElem?_modify, hr, R.head]
    rowL := ownsRow_block R.rowL (fun k hk => (setCell_block _ _ _ _ (R.neL hk)).trans (K.block k (R.bnd k (R.sL k hk)) (fun e => R.neLF e hk)))
    rowF := ownsRow_block ho (fun k hk => setCell_block _ _ _ _ (hne k hk))
    bytes := fun p hp => ⟨ownsRow_block (R.bytes p hp).row (fun k hk => (setCell_block _ _ _ _ (R.neM hp hk)).trans (K.block k (R.bnd k (R.sM p hp k hk)) (R.neFM hp hk))), (R.bytes p hp).kept, (R.bytes p hp).pos, (R.bytes p hp).byte⟩
    sr := .inl R.sr
    sL := fun k hk => .inl (R.sL k hk)
    sF := fun k hk => .inr hk
    sM := fun p hp k hk => .inl (R.sM p hp k hk)
    bnd := fun k hk => by
      rw [show (w1.setCell ⟨r, 1, none⟩ vF').heap.size = w1.heap.size by simp [World.setCell]]
      rcases hk with hk | hk
      · exact Nat.lt_of_lt_of_le (R.bnd k hk) K.size
      · exact (ho.lt k hk).2 }

theorem RefIn.setCount (R : RefIn w S r rs vL vF M) (s : Int) : RefIn (w.setCell ⟨r, 3, none⟩ (.int .i64 s)) S r { rs with count := s } vL vF M := by
  have hb : ∀ k, k ≠ r → (w.setCell ⟨r, 3, none⟩ (.int .i64 s)).heap[k]? = w.heap[k]? := fun k hk => setCell_block _ _ _ _ hk
  exact {
    ghost := R.ghost
    head := by simp [World.setCell, Array.getElem?_modify, R.head]
    rowL := ownsRow_block R.rowL (fun k hk => hb k (R.neL hk))
    rowF := ownsRow_block R.rowF (fun k hk => hb k (R.neF hk))
    bytes := fun p hp => ⟨ownsRow_block (R.bytes p hp).row (fun k hk => hb k (R.neM hp hk)), (R.bytes p hp).kept, (R.bytes p hp).pos, (R.bytes p hp).byte⟩
    sr := R.sr
    sL := R.sL
    sF := R.sF
    sM := R.sM
    bnd := fun k hk => by simpa [World.setCell] using R.bnd k hk }

/-- The cells of the i-th fault. -/
theorem RefIn.fault (R : RefIn w S r rs vL vF M) {i : Nat} (hi : i < rs.faults.length) : ∃ g cap, vF = .slice (some ⟨g, 0, none⟩) rs.faults.length cap ∧ rs.faults.length ≤ cap ∧ w.cell? ⟨g, i * 2, none⟩ = some (.int .i64 rs.faults[i].1) ∧ w.cell? ⟨g, i * 2 + 1, none⟩ = some (.int .i64 rs.faults[i].2) := by
  rcases R.rowF.2 with ⟨_, h0⟩ | ⟨g, cap, cur, rfl, _, hh, h1, _⟩
  · omega
  · refine ⟨g, cap, rfl, h1, ?_⟩
    obtain ⟨a, b⟩ := faultCells_get rs.faults i rs.faults[i] (List.getElem?_eq_getElem hi)
    have f := fun q u hq => R.rowF.cells (g := g) rfl q u hq
    have ad : ∀ q, (⟨g, 0, none⟩ : Addr).add q = ⟨g, q, none⟩ := fun q => by rw [Addr.add_lit]; simp
    exact ⟨by have := f _ _ a; rw [ad] at this; exact this, by have := f _ _ b; rw [ad] at this; exact this⟩

theorem faultCells_append (l m : List (Int × Int)) : faultCells (l ++ m) = faultCells l ++ faultCells m := by simp [faultCells]

theorem oneFault (a k : Int) : ∀ u ∈ faultCells [(a, k)], u.oneCell' = true := by simp [faultCells, Value.oneCell']

set_option maxRecDepth 100000 in
set_option maxHeartbeats 1000000 in
theorem refFail_gen (R : RefIn w S r rs vL vF M) (a0 a k : Int) (ha : a = max a0 0) (hl : rs.faults.length ≤ 1099511627776) :
    Calls Try.prog 44 #[.pointer (some ⟨r, 0, none⟩), .int .i64 a0, .int .i64 k] w fun e w' =>
      e = .returned (.tuple #[]) ∧ RefTo w S r { rs with faults := rs.faults ++ [(a, k)] } w' := by
  obtain ⟨i0, hi, hz0, hz1, hz2⟩ := info_parts Try.info107w
  have hc1 := R.c1
  have hf1 := R.fz 1
  obtain ⟨aF, cF, eF⟩ := ownsRow_shape R.rowF
  have ho := R.rowF
  have hnews : ∀ j u, (faultCells [(a, k)])[j]? = some u → (w.alloc (.cells #[.int .i64 a, .int .i64 k] 107)).cell? ((⟨w.heap.size, 0, none⟩ : Addr).add j) = some u := World.news_of_block (heap_alloc_new w _)
  have hfz : ∀ g w2, (w.alloc (.cells #[.int .i64 a, .int .i64 k] 107)).grownBy w2 vF.ownBlock → Kept (fun k => vF.ownBlock = some k) w w2 ∧ w2.cell? ⟨r, g, none⟩ = w.cell? ⟨r, g, none⟩ ∧ w2.frozen? ⟨r, g, none⟩ = false := fun g w2 hg => by
    have K : Kept (fun k => vF.ownBlock = some k) w w2 := (Kept.alloc _ w _).and (Kept.grown hg (fun k e => e))
    have hr : w2.heap[r]? = w.heap[r]? := K.block r (R.bnd r R.sr) (fun e => R.neF e rfl)
    exact ⟨K, by simp [World.cell?, hr], by simp [World.frozen?, hr, R.head]⟩
  have fin : ∀ (g2 cap2 : Nat) (w2 : World), w2.ownsRow 0 107 2 (.slice (some ⟨g2, 0, none⟩) (rs.faults.length + 1) cap2) (rs.faults.length + 1) (faultCells rs.faults ++ faultCells [(a, k)]) → Kept (fun k => vF.ownBlock = some k) w w2 → (vF.ownBlock = some g2 ∨ g2 = w.heap.size + 1) →
      RefTo w S r { rs with faults := rs.faults ++ [(a, k)] } (w2.setCell ⟨r, 1, none⟩ (.slice (some ⟨g2, 0, none⟩) (rs.faults.length + 1) cap2)) := by
    intro g2 cap2 w2 ho2 K2 hat2
    refine ⟨_, vL, _, M, R.setF K2 (l := rs.faults ++ [(a, k)]) (vF' := .slice (some ⟨g2, 0, none⟩) (rs.faults.length + 1) cap2) (by rw [faultCells_append, List.length_append]; exact ho2), (K2.mono (fun i h => R.sF i h)).and (Kept.setCell _ _ _ R.sr), ?_⟩
    rintro j (hk | hk)
    · exact .inl hk
    · simp only [Value.ownBlock, Option.some.injEq] at hk
      subst hk
      rcases hat2 with h | h
      · exact .inl (R.sF _ h)
      · right; omega
  by_cases hx : a0 < 0
  · have e : a = 0 := by omega
    subst e
    clear ha
    subst eF
    go_enter Try.func44, Try.ntmps44
    go_wp2_with (at_builtin; refine wpList_append_lies _ rfl _ _ 74 rfl 0 107 i0 (.agg #[.int .i64 0, .int .i64 0]) 2 16 Try.underlying74 hi hz0 hz1 hz2 rfl (by decide) _ rs.faults.length _ rfl (ho.alloc _) ⟨w.heap.size, 0, none⟩ 1 1 _ rfl rfl hnews (oneFault _ _) (by decide) (by unfold maxLen; omega) (by omega) (by simp) (w.heap.size + 1) (by simp) ?_; intro g2 cap2 w2 ho2 hg2 hat2 hlt2; obtain ⟨K2, y1, y2⟩ := hfz 1 w2 hg2; rw [hc1] at y1)
    go_end0
    exact ⟨rfl, fin _ _ _ ho2 K2 hat2⟩
  · have e : a = a0 := by omega
    subst e
    clear ha
    subst eF
    go_enter Try.func44, Try.ntmps44
    go_wp2_with (at_builtin; refine wpList_append_lies _ rfl _ _ 74 rfl 0 107 i0 (.agg #[.int .i64 0, .int .i64 0]) 2 16 Try.underlying74 hi hz0 hz1 hz2 rfl (by decide) _ rs.faults.length _ rfl (ho.alloc _) ⟨w.heap.size, 0, none⟩ 1 1 _ rfl rfl hnews (oneFault _ _) (by decide) (by unfold maxLen; omega) (by omega) (by simp) (w.heap.size + 1) (by simp) ?_; intro g2 cap2 w2 ho2 hg2 hat2 hlt2; obtain ⟨K2, y1, y2⟩ := hfz 1 w2 hg2; rw [hc1] at y1)
    go_end0
    exact ⟨rfl, fin _ _ _ ho2 K2 hat2⟩

theorem refFail_any (R : RefIn w S r rs vL vF M) (a0 k : Int) (hl : rs.faults.length ≤ 1099511627776) :
    Calls Try.prog 44 #[.pointer (some ⟨r, 0, none⟩), .int .i64 a0, .int .i64 k] w fun e w' =>
      e = .returned (.tuple #[]) ∧ RefTo w S r (rs.fail a0 k) w' :=
  refFail_gen R a0 (max a0 0) k rfl hl

/-! ### begin -/
def leftOf (l : List (Int × Int)) : List (Int × Int) := (l.filter (fun p => decide (0 < p.1))).map (fun p => (p.1 - 1, p.2))
def struckOf (l : List (Int × Int)) : Option (Int × Int) := l.find? (fun p => decide (¬ 0 < p.1))
def kindOf (l : List (Int × Int)) : Int := match struckOf l with | some p => p.2 | none => 0

theorem leftOf_pos (l : List (Int × Int)) (p : Int × Int) (h : 0 < p.1) : leftOf (l ++ [p]) = leftOf l ++ [(p.1 - 1, p.2)] := by simp [leftOf, h]
theorem leftOf_neg (l : List (Int × Int)) (p : Int × Int) (h : ¬ 0 < p.1) : leftOf (l ++ [p]) = leftOf l := by simp [leftOf, h]
theorem struckOf_pos (l : List (Int × Int)) (p : Int × Int) (h : 0 < p.1) : struckOf (l ++ [p]) = struckOf l := by
  unfold struckOf; rw [List.find?_append]; simp [h]
theorem struckOf_some (l : List (Int × Int)) (p : Int × Int) (h : (struckOf l).isSome = true) : struckOf (l ++ [p]) = struckOf l := by
  unfold struckOf at h ⊢; rw [List.find?_append]
  obtain ⟨q, hq⟩ := Option.isSome_iff_exists.1 h
  rw [hq]; rfl
theorem struckOf_none (l : List (Int × Int)) (p : Int × Int) (h : ¬ 0 < p.1) (h0 : (struckOf l).isSome = false) : struckOf (l ++ [p]) = some p := by
  unfold struckOf at h0 ⊢; rw [List.find?_append]
  have hq : List.find? (fun p => decide (¬ 0 < p.1)) l = none := by simpa using h0
  rw [hq]
  simp [h]
theorem leftOf_length (l : List (Int × Int)) : (leftOf l).length ≤ l.length := by
  unfold leftOf; rw [List.length_map]; exact List.length_filter_le _ _

set_option maxRecDepth 100000 in
set_option maxHeartbeats 2000000 in
theorem refBegin_any (R : RefIn w S r rs vL vF M) (B : RBd rs) (x : Int) (hl : rs.faults.length ≤ 1099511627776) (hc : rs.count < 4611686018427387904) :
    Calls Try.prog 68 #[.pointer (some ⟨r, 0, none⟩), .int .i64 x] w fun e w' =>
      e = .returned (.tuple #[.int .i64 (rs.err x), .bool rs.half]) ∧ RefTo w S r rs.after w' := by
  obtain ⟨i0, hi, hz0, hz1, hz2⟩ := info_parts Try.info107w
  have hc3 := R.c3
  have hf3 := R.fz 3
  have hcnt := B.count0
  have R1 := R.setCount (rs.count + 1)
  obtain ⟨aF, cF, eF⟩ := ownsRow_shape R.rowF
  go_enter Try.func68, Try.ntmps68
  go_wp2
  have KW : Kept S w (w.setCell ⟨r, 3, none⟩ (.int .i64 (rs.count + 1))) := Kept.setCell _ _ _ R.sr
  have hWs : (w.setCell ⟨r, 3, none⟩ (.int .i64 (rs.count + 1))).heap.size = w.heap.size := by simp [World.setCell]
  generalize hW : w.setCell ⟨r, 3, none⟩ (.int .i64 (rs.count + 1)) = W at *
  clear hW hc3 hf3
  have HF : Hid (vF = .slice aF rs.faults.length cF) := eF
  subst eF
  go_loopw [6, 7, 8, 9] (fun s6 s7 s8 s9 wr => ∃ (k : Nat), k ≤ rs.faults.length ∧ s9 = .int .i64 k ∧ s6 = .bool (struckOf (rs.faults.take k)).isSome ∧ s7 = .int .i64 (kindOf (rs.faults.take k)) ∧ wr.ownsRow W.heap.size 107 2 s8 (leftOf (rs.faults.take k)).length (faultCells (leftOf (rs.faults.take k))) ∧ Kept (fun _ => False) W wr) (fun _ _ _ s9 _ => rs.faults.length - (intOf s9).toNat)
  case atStart => exact ⟨0, Nat.zero_le _, rfl, rfl, rfl, World.ownsRow_nil _ _ _ _, Kept.refl _ _⟩
  case round =>
    obtain ⟨k, hk, rfl, rfl, rfl, ho, K⟩ := hrel
    have R2 := R1.kept K (fun _ _ h => h)
    have hc1 := R2.c1
    by_cases hlt : k < rs.faults.length
    · obtain ⟨g, cap, e, hcap, q0, q1⟩ := R2.fault (i := k) hlt
      simp only [Value.slice.injEq] at e
      obtain ⟨rfl, _, rfl⟩ := e
      have et : rs.faults.take (k + 1) = rs.faults.take k ++ [rs.faults[k]] := List.take_succ_eq_append_getElem hlt
      have hbd := B.faults _ (List.getElem_mem hlt)
      have hll : (leftOf (rs.faults.take k)).length ≤ 1099511627776 := by
        have := leftOf_length (rs.faults.take k); rw [List.length_take] at this; omega
      have e1 : (k : Int) < (rs.faults.length : Int) := by omega
      dsimp only at q0 q1
      generalize rs.faults[k] = p at *
      obtain ⟨pa, pk⟩ := p
      dsimp only at q0 q1 hbd
      have hz := K.size
      by_cases hpos : 0 < pa
      · have HA : Hid (struckOf (rs.faults.take (k + 1)) = struckOf (rs.faults.take k) ∧ kindOf (rs.faults.take (k + 1)) = kindOf (rs.faults.take k) ∧ leftOf (rs.faults.take (k + 1)) = leftOf (rs.faults.take k) ++ [(pa - 1, pk)]) := by
          rw [et]
          have h1 := struckOf_pos (rs.faults.take k) (pa, pk) hpos
          exact ⟨h1, by unfold kindOf; rw [h1], leftOf_pos _ _ hpos⟩
        clear et R R1 R2
        have hnews : ∀ j u, (faultCells [(pa - 1, pk)])[j]? = some u → ((wr.alloc (.cells #[.int .i64 pa, .int .i64 pk] 107)).alloc (.cells #[.int .i64 (pa - 1), .int .i64 pk] 107)).cell? ((⟨wr.heap.size + 1, 0, none⟩ : Addr).add j) = some u := World.news_of_block (by have := heap_alloc_new (wr.alloc (.cells #[.int .i64 pa, .int .i64 pk] 107)) (.cells #[.int .i64 (pa - 1), .int .i64 pk] 107); simpa using this)
        go_wp2_with (at_builtin; refine wpList_append_lies _ rfl _ _ 74 rfl W.heap.size 107 i0 (.agg #[.int .i64 0, .int .i64 0]) 2 16 Try.underlying74 hi hz0 hz1 hz2 rfl (by decide) _ (leftOf (rs.faults.take k)).length _ rfl ((ho.alloc _).alloc _) ⟨wr.heap.size + 1, 0, none⟩ 1 1 _ rfl rfl hnews (oneFault _ _) (by decide) (by unfold maxLen; omega) (by omega) (by simp; omega) (wr.heap.size + 2) (by simp) ?_; intro g2 cap2 w2 ho2 hg2 hat2 hlt2)
        go_roundw
        case rel => 
          refine ⟨k + 1, by omega, by go_num, by rw [HA.out.1], by rw [HA.out.2.1], ?_, ?_⟩
          · rw [HA.out.2.2, faultCells_append, List.length_append]; exact ho2
          · exact ((K.and (Kept.alloc _ _ _)).and (Kept.alloc _ _ _)).trans (Kept.grown (S := fun k => W.heap.size ≤ k) hg2 (fun k e => (ho.lt k e).1)) (fun k h => .inr h)
        case measure => simp [intOf]; omega
      · cases hst : (struckOf (rs.faults.take k)).isSome with
        | true =>
          have HA : Hid (struckOf (rs.faults.take (k + 1)) = struckOf (rs.faults.take k) ∧ kindOf (rs.faults.take (k + 1)) = kindOf (rs.faults.take k) ∧ leftOf (rs.faults.take (k + 1)) = leftOf (rs.faults.take k) ∧ (struckOf (rs.faults.take k)).isSome = true) := by
            rw [et]
            have h1 := struckOf_some (rs.faults.take k) (pa, pk) hst
            exact ⟨h1, by unfold kindOf; rw [h1], leftOf_neg _ _ hpos, hst⟩
          clear et R R1 R2 hst
          go_wp2
          go_roundw
          case rel => 
            refine ⟨k + 1, by omega, by go_num, by rw [HA.out.1, HA.out.2.2.2], by rw [HA.out.2.1], ?_, ?_⟩
            · rw [HA.out.2.2.1]; exact ho.alloc _
            · exact K.and (Kept.alloc _ _ _)
          case measure => simp [intOf]; omega
        | false =>
          have HA : Hid (struckOf (rs.faults.take (k + 1)) = some (pa, pk) ∧ kindOf (rs.faults.take (k + 1)) = pk ∧ leftOf (rs.faults.take (k + 1)) = leftOf (rs.faults.take k)) := by
            rw [et]
            have h1 := struckOf_none (rs.faults.take k) (pa, pk) hpos hst
            exact ⟨h1, by unfold kindOf; rw [h1], leftOf_neg _ _ hpos⟩
          clear et R R1 R2 hst
          go_wp2_with fail
          go_quiet (fail)
          go_wp2
          go_roundw
          case rel => 
            refine ⟨k + 1, by omega, by go_num, by rw [HA.out.1]; rfl, by rw [HA.out.2.1], ?_, ?_⟩
            · rw [HA.out.2.2]; exact ownsRow_block (ho.alloc _) (fun _ _ => rfl)
            · exact (K.and (Kept.alloc _ _ _)).and (Kept.drewN _ _ _)
          case measure => simp [intOf]; omega
    · have hkM : k = rs.faults.length := by omega
      have et : rs.faults.take k = rs.faults := by rw [hkM, List.take_length]
      rw [et] at ho ⊢
      clear et hkM
      obtain ⟨a8, c8, e8⟩ := ownsRow_shape ho
      subst e8
      have es : struckOf rs.faults = rs.struck := rfl
      have hs0 := B.stopLo
      have hs1 := B.stopHi
      have hf1 := R2.fz 1
      have R3 := R2.setF (w1 := wr) (l := leftOf rs.faults) (vF' := .slice a8 (leftOf rs.faults).length c8) (Kept.refl _ _) (ownsRow_low ho)
      have K3 : Kept S w (wr.setCell ⟨r, 1, none⟩ (.slice a8 (leftOf rs.faults).length c8)) := (KW.trans K (fun _ h => h.elim)).and (Kept.setCell _ _ _ R.sr)
      have hS3 : ∀ k, S k ∨ (Value.slice a8 (leftOf rs.faults).length c8).ownBlock = some k → S k ∨ w.heap.size ≤ k := fun k hk => hk.elim .inl (fun h => .inr (by have := (ho.lt k h).1; omega))
      have hc2 := R3.c2
      have hf2 := R3.fz 2
      dsimp only at hc2
      have eaf : rs.after = { L := rs.L, faults := leftOf rs.faults, stop := if 0 < rs.stop then rs.stop - 1 else rs.stop, count := rs.count + 1 } := rfl
      have fin0 : ¬ 0 < rs.stop → RefTo w S r rs.after (wr.setCell ⟨r, 1, none⟩ (.slice a8 (leftOf rs.faults).length c8)) := fun h => by
        rw [eaf, if_neg h]
        exact ⟨_, vL, _, M, R3, K3, hS3⟩
      have fin1 : 0 < rs.stop → RefTo w S r rs.after ((wr.setCell ⟨r, 1, none⟩ (.slice a8 (leftOf rs.faults).length c8)).setCell ⟨r, 2, none⟩ (.int .i64 (rs.stop - 1))) := fun h => by
        rw [eaf, if_pos h]
        exact ⟨_, vL, _, M, R3.setStop (rs.stop - 1), K3.and (Kept.setCell _ _ _ R.sr), hS3⟩
      have hkind : ∀ p, rs.struck = some p → kindOf rs.faults = p.2 := fun p hp => by unfold kindOf; rw [es, hp]
      rw [es]
      have HE : Hid (rs.err x = if rs.stop = 0 then 4 else if rs.struck.isSome then 3 else if x < 0 then 1 else 0) := by rfl
      have HH : Hid (rs.half = if rs.stop = 0 then false else match rs.struck with | some p => p.2 == 2 | none => false) := by rfl
      clear eaf es R R1 R2 R3 K K3 KW hS3 ho
      by_cases h0 : rs.stop = 0
      · have fin := fin0 (by omega)
        have HX : Hid (rs.err x = 4 ∧ rs.half = false) := ⟨by rw [HE.out, if_pos h0], by rw [HH.out, if_pos h0]⟩
        rw [h0] at hc2
        clear fin0 fin1 HE HH hkind
        go_wp2
        go_ret2
        exact ⟨by rw [HX.out.1, HX.out.2]; rfl, fin⟩
      · cases hst : rs.struck with
        | some p =>
          have HX : Hid (rs.err x = 3 ∧ rs.half = (p.2 == 2)) := ⟨by rw [HE.out, if_neg h0, hst]; rfl, by rw [HH.out, if_neg h0, hst]⟩
          rw [hkind p hst]
          clear HE HH hkind hst
          obtain ⟨pa, pk⟩ := p
          by_cases hp : 0 < rs.stop
          · have fin := fin1 hp
            clear fin0 fin1
            go_wp2
            go_ret2
            exact ⟨by rw [HX.out.1, HX.out.2]; rfl, fin⟩
          · have fin := fin0 hp
            clear fin0 fin1
            go_wp2
            go_ret2
            exact ⟨by rw [HX.out.1, HX.out.2]; rfl, fin⟩
        | none =>
          by_cases hx : x < 0
          · have HX : Hid (rs.err x = 1 ∧ rs.half = false) := ⟨by rw [HE.out, if_neg h0, hst]; simp [hx], by rw [HH.out, if_neg h0, hst]⟩
            clear HE HH hkind hst
            by_cases hp : 0 < rs.stop
            · have fin := fin1 hp
              clear fin0 fin1
              go_wp2
              go_ret2
              exact ⟨by rw [HX.out.1, HX.out.2]; rfl, fin⟩
            · have fin := fin0 hp
              clear fin0 fin1
              go_wp2
              go_ret2
              exact ⟨by rw [HX.out.1, HX.out.2]; rfl, fin⟩
          · have HX : Hid (rs.err x = 0 ∧ rs.half = false) := ⟨by rw [HE.out, if_neg h0, hst]; simp [hx], by rw [HH.out, if_neg h0, hst]⟩
            clear HE HH hkind hst
            by_cases hp : 0 < rs.stop
            · have fin := fin1 hp
              clear fin0 fin1
              go_wp2
              go_ret2
              exact ⟨by rw [HX.out.1, HX.out.2]; rfl, fin⟩
            · have fin := fin0 hp
              clear fin0 fin1
              go_wp2
              go_ret2
              exact ⟨by rw [HX.out.1, HX.out.2]; rfl, fin⟩
end

end Go.Proofs.Ytdbmefjagggnoaa
