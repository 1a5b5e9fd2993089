/-
  The codec's writer in memory: a number.
-/
import Derived.Test.YtchdmlckicipcaaCLen
import Derived.Deep.RegionLaw
namespace Go.Proofs.Ytchdmlckicipcaa
open Go.RowKit

/-- append(v, x...) onto a row that is owned, as a step of a region that draws. -/
theorem step_append_src {P : Program} {ops : Array Oper} {o : Oper} {a : Act} (w : World) {K : Act → World → Prop} {Q : Exit → Act → World → Prop} {E : Prop}
    (hg : o.guard = none) (s x : Operand) (t : TypeId) (hop : o.op = Op.call { callee := Callee.builtin Builtin.append, args := #[s, x], argTypes := #[t, t] })
    (base : Nat) (e : TypeId) (i : TypeInfo) (z : Value) (size bytes : Nat) (ht : P.underlying t = some (.slice e)) (hi : P.info? e = some i) (hz : i.zero = some z)
    (hsize : i.size = size) (hby : i.bytes = bytes) (hzs : z.cells.size = size) (hsz : 0 < size)
    (v : Value) (n : Nat) (xs : List Value) (hs : a.eval s = v) (hown : w.ownsRow base e size v n xs) (xv : Value) (hx : a.eval x = xv) (m : Nat) (news : List Value) (hsrc : Src w size xv m news) (h1 : ∀ u ∈ news, u.oneCell' = true)
    (h63 : n + m ≤ maxLen) (hbytes : (n + m) * bytes ≤ 140737488355328) (hbase : base ≤ w.heap.size)
    (hK : ∀ a' cap w', w'.ownsRow base e size (.slice a' (n + m) cap) (n + m) (xs ++ news) → w.grownBy w' v.ownBlock → (Value.slice a' (n + m) cap = .slice none 0 0 ↔ v = .slice none 0 0 ∧ m = 0) → ((Value.slice a' (n + m) cap).ownBlock = v.ownBlock ∨ (Value.slice a' (n + m) cap).ownBlock = some w.heap.size) → K (a.put o.dst (.slice a' (n + m) cap)) w') :
    if Region.wanted o (yielded ops a.tmps) = true then Oper.wp P o a w K Q else E := by
  have hw : Region.wanted o (yielded ops a.tmps) = true := by simp [Region.wanted, hg]
  rw [if_pos hw]
  obtain ⟨v', w', hrun, h2, h3, h4, h5⟩ := run_append_src (P := P) w base t o.type e i z size bytes ht hi hz hsize hby hzs hsz v n xs hown xv m news hsrc h1 h63 hbytes hbase
  obtain ⟨a', cap, rfl⟩ := ownsRow_shape h2
  unfold Oper.wp
  simp [execOp, hop, resolve, invoke, builtin, hs, hx, hrun, Result.andThen]
  exact hK a' cap w' h2 h3 h4 h5

/-- A writer's block: its bytes, and whether it is wrong. -/
structure WAt (w : World) (ty : TypeId) (base p : Nat) (v : Value) (raw : List Int) (bad : Bool) : Prop where
  head : w.heap[p]? = some (.cells #[v, .bool bad] ty (0, 0))
  row : w.ownsRow base 5 1 v raw.length (raw.map (Value.int .u8))
  ne : v.ownBlock ≠ some p
  bp : base ≤ p
  bs : Bs raw

section
variable {w w' : World} {ty : TypeId} {base p : Nat} {v : Value} {raw : List Int} {bad : Bool}

theorem WAt.c0 (A : WAt w ty base p v raw bad) : w.cell? ⟨p, 0, none⟩ = some v := by simp [World.cell?, A.head]
theorem WAt.c1 (A : WAt w ty base p v raw bad) : w.cell? ⟨p, 1, none⟩ = some (.bool bad) := by simp [World.cell?, A.head]
theorem WAt.fz (A : WAt w ty base p v raw bad) (o : Nat) : w.frozen? ⟨p, o, none⟩ = false := by simp [World.frozen?, A.head]
theorem WAt.lt (A : WAt w ty base p v raw bad) : p < w.heap.size := by
  have := A.head
  exact (Array.getElem?_eq_some_iff.1 this).1
theorem WAt.hb (A : WAt w ty base p v raw bad) : base ≤ w.heap.size := Nat.le_trans A.bp (Nat.le_of_lt A.lt)

theorem ownsRow_block' {n size : Nat} {e : TypeId} {xs : List Value} (h : w.ownsRow base e size v n xs) (hk : ∀ k, v.ownBlock = some k → w'.heap[k]? = w.heap[k]?) : w'.ownsRow base e size v n xs := by
  refine ⟨h.1, ?_⟩
  rcases h.2 with h0 | ⟨g, cap, cur, hv, hb, hh, r⟩
  · exact .inl h0
  · exact .inr ⟨g, cap, cur, hv, hb, (hk g (by rw [hv]; rfl)).trans hh, r⟩

/-- Only the mark is set. -/
theorem WAt.mark (A : WAt w ty base p v raw bad) (b : Bool) : WAt (w.setCell ⟨p, 1, none⟩ (.bool b)) ty base p v raw b :=
  ⟨by simp [World.setCell, Array.getElem?_modify, A.head], ownsRow_block' A.row (fun k hk => Below.heap_setCell _ _ _ _ (fun e => A.ne (by rw [hk, e]))), A.ne, A.bp, A.bs⟩

/-- Other bytes are laid. -/
theorem WAt.lay {v' : Value} {raw' : List Int} (A : WAt w ty base p v raw bad) (K : Kept (fun k => v.ownBlock = some k) w w') (row : w'.ownsRow base 5 1 v' raw'.length (raw'.map (Value.int .u8)))
    (hl : v'.ownBlock = v.ownBlock ∨ ∃ k, v'.ownBlock = some k ∧ w.heap.size ≤ k) (hs : Bs raw') : WAt (w'.setCell ⟨p, 0, none⟩ v') ty base p v' raw' bad := by
  have hp : w'.heap[p]? = w.heap[p]? := K.block p A.lt A.ne
  have hne : v'.ownBlock ≠ some p := by
    rcases hl with h | ⟨k, h, hk⟩
    · rw [h]; exact A.ne
    · rw [h]; have := A.lt; intro e; cases e; omega
  exact ⟨by simp [World.setCell, Array.getElem?_modify, hp, A.head], ownsRow_block' row (fun k hk => Below.heap_setCell _ _ _ _ (fun e => hne (by rw [hk, e]))), hne, A.bp, hs⟩

theorem WAt.kept {S : Nat → Prop} (A : WAt w ty base p v raw bad) (K : Kept S w w') (hS : ∀ k, S k → k < base ∨ w.heap.size ≤ k) : WAt w' ty base p v raw bad :=
  ⟨(K.block p A.lt (fun h => by have := hS p h; have := A.bp; have := A.lt; omega)).trans A.head, ownsRow_block' A.row (fun k hk => K.block k (A.row.lt k hk).2 (fun h => by have := hS k h; have := A.row.lt k hk; omega)), A.ne, A.bp, A.bs⟩
end

/-- What a writer's work leaves: all below base, and all that is neither its own block nor a row of bytes. -/
structure Keep2 (base p : Nat) (w w' : World) : Prop where
  k : Kept (fun k => base ≤ k) w w'
  o : ∀ k cs T fz, T ≠ 5 → k ≠ p → w.heap[k]? = some (.cells cs T fz) → w'.heap[k]? = some (.cells cs T fz)

theorem Keep2.refl (base p : Nat) (w : World) : Keep2 base p w w := ⟨Kept.refl _ _, fun _ _ _ _ _ _ h => h⟩

theorem Keep2.and {base p : Nat} {a b c : World} (h : Keep2 base p a b) (k : Keep2 base p b c) : Keep2 base p a c :=
  ⟨h.k.and k.k, fun i cs T fz h1 h2 h3 => k.o i cs T fz h1 h2 (h.o i cs T fz h1 h2 h3)⟩

theorem Keep2.setP {base p : Nat} (w : World) (o : Nat) (v : Value) (hb : base ≤ p) : Keep2 base p w (w.setCell ⟨p, o, none⟩ v) :=
  ⟨Kept.setCell (S := fun k => base ≤ k) _ _ _ hb, fun i _ _ _ _ h2 h3 => by rw [Below.heap_setCell _ _ _ _ (by show ¬ i = p; exact h2)]; exact h3⟩

theorem Keep2.none {base p : Nat} {w w' : World} (K : Kept (fun _ => False) w w') : Keep2 base p w w' :=
  ⟨K.mono (fun _ h => h.elim), fun i _ _ _ _ _ h3 => (K.block i (Array.getElem?_eq_some_iff.1 h3).1 (fun h => h)).trans h3⟩

theorem Keep2.own {base p : Nat} {w w' : World} {n : Nat} {v : Value} {xs : List Value} (row : w.ownsRow base 5 1 v n xs) (K : Kept (fun k => v.ownBlock = some k) w w') : Keep2 base p w w' := by
  refine ⟨K.mono (fun k hk => (row.lt k hk).1), fun i cs T fz h1 _ h3 => (K.block i (Array.getElem?_eq_some_iff.1 h3).1 ?_).trans h3⟩
  intro e
  rcases row.2 with ⟨h0, _⟩ | ⟨g, cap, cur, hv, hb, hh, r⟩
  · rw [h0] at e; cases e
  · rw [hv] at e
    have : g = i := by simpa [Value.ownBlock] using e
    rw [this, h3] at hh
    simp only [Option.some.injEq, Obj.cells.injEq] at hh
    exact h1 hh.2.1

set_option maxRecDepth 100000 in
set_option maxHeartbeats 400000 in
theorem wrefuse_any {w : World} {base p : Nat} {v : Value} {raw : List Int} {bad : Bool} (A : WAt w 52 base p v raw bad) (b : Bool) :
    Calls Try.prog 32 #[.pointer (some ⟨p, 0, none⟩), .bool b] w fun e w' => e = .returned (.bool (bad || b)) ∧ w' = w.setCell ⟨p, 1, none⟩ (.bool (bad || b)) := by
  have c1 := A.c1
  have f1 := A.fz 1
  have hs := World.cell?_setCell_same' w ⟨p, 1, none⟩ (.bool (bad || b)) (by rw [c1]; rfl)
  cases bad with
  | true =>
    go_enter Try.func32, Try.ntmps32
    go_wp2
    go_ret
    exact ⟨rfl, rfl⟩
  | false =>
    simp only [Bool.false_or] at hs ⊢
    go_enter Try.func32, Try.ntmps32
    go_wp2
    go_ret
    exact ⟨rfl, rfl⟩

end Go.Proofs.Ytchdmlckicipcaa
