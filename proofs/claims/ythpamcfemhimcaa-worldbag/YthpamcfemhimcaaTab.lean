/-
  A map keyed by ints as a table of raw values: what each operation on it does to the table. Nothing here speaks of one program.
-/
import Derived.Test.YthpamcfemhimcaaRows
import Derived.WalkKit
import Derived.WalkSpells
import Derived.WalkLawsBesides
import Derived.Maps.OwnSet
import Derived.Lib.SlKeysI
namespace Go.Proofs.Ythpamcfemhimcaa
open Go.RowKit Go.Maps Go.ChangeMaps Go.MapKept
open Go.WideElems (Fit rd rg pl rd_val elemAt)

/-- An element as it lies. -/
def rawElem (v : Value) : Option (DataW Value × List MemPlace) := some (.held v, [])

/-- The number is one of 64 bits. -/
def isI64 (x : Int) : Prop := (Lit.int .i64 x).wf = true

theorem isI64_of {x : Int} (h0 : -9223372036854775808 ≤ x) (h1 : x ≤ 9223372036854775807) : isI64 x := WalkArith.wf_i64 ⟨h0, h1⟩

def upd (M : Int → Option Value) (i : Int) (v : Option Value) : Int → Option Value := fun x => if x = i then v else M x

/-- Block b is a map of at most n entries that holds M. -/
structure Tab (P : Program) (k : TypeId) (w : World) (b n : Nat) (M : Int → Option Value) : Prop where
  wf : ∀ x, (M x).isSome = true → isI64 x
  data : ∃ D : DataW Value, w.ownsMap P k rawElem b n D ∧ ∀ x, isI64 x → ∀ z, D.atKey (.int .i64 x) z = match M x with | some v => .held v | none => z

section
variable {P : Program} {k : TypeId} {w w' : World} {b n : Nat} {M : Int → Option Value}

theorem Tab.made (P : Program) (k : TypeId) (w : World) : Tab P k (w.alloc (.map #[] 0)) w.heap.size 0 (fun _ => none) :=
  ⟨fun x h => by simp at h, .map [], World.ownsMap_made w P k rawElem, fun x _ z => by simp [DataW.atKey]⟩

theorem Tab.lt (T : Tab P k w b n M) : b < w.heap.size := by obtain ⟨D, h, _⟩ := T.data; exact h.lt

theorem Tab.block (T : Tab P k w b n M) (h : w'.heap[b]? = w.heap[b]?) : Tab P k w' b n M := by
  obtain ⟨D, ⟨es, clock, hb, r⟩, hD⟩ := T.data
  exact ⟨T.wf, D, ⟨es, clock, h.trans hb, r⟩, hD⟩

theorem Tab.isMap (T : Tab P k w b n M) : ∃ es clock, w.heap[b]? = some (.map es clock) := by
  obtain ⟨D, ⟨es, clock, hb, r⟩, hD⟩ := T.data
  exact ⟨es, clock, hb⟩

theorem Tab.mono (T : Tab P k w b n M) {n' : Nat} (h : n ≤ n') : Tab P k w b n' M := by
  obtain ⟨D, hown, hD⟩ := T.data
  exact ⟨T.wf, D, hown.mono h, hD⟩

theorem has_of_tab {D : DataW Value} {x : Int} (h : ∀ z, D.atKey (.int .i64 x) z = match M x with | some v => .held v | none => z) : Maps.has D (.int .i64 x) = (M x).isSome := by
  cases hM : M x with
  | none => rw [hM] at h; exact has_false_of_atKey h
  | some v => rw [hM] at h; exact has_true_of_atKey h

theorem Tab.look {t e : TypeId} (T : Tab P k w b n M) (hk : P.underlying k = some (.int .i64)) (ht : P.underlying t = some (.map k e)) {z : Value} (hz : (zeroValue e).run P w = .ok z w) {i : Int} (hi : isI64 i) :
    (Instr.lookup t (.map (some b)) (.int .i64 i) false).run P w = .ok ((M i).getD z) w := by
  obtain ⟨D, hown, hD⟩ := T.data
  obtain ⟨v, ps, hrun, hv⟩ := hown.lookup (int_keyed hk) ht hz (zd := .held z) (zp := []) rfl (keyOf_int_mk hk hi)
  rw [hrun]
  have e1 := hD i hi (.held z)
  simp only [rawElem, Option.some.injEq, Prod.mk.injEq] at hv
  rw [e1] at hv
  cases hM : M i with
  | none => rw [hM] at hv; simp at hv; simp [hv]
  | some u => rw [hM] at hv; simp at hv; simp [hv]

theorem Tab.lookOk {t e : TypeId} (T : Tab P k w b n M) (hk : P.underlying k = some (.int .i64)) (ht : P.underlying t = some (.map k e)) {z : Value} (hz : (zeroValue e).run P w = .ok z w) {i : Int} (hi : isI64 i) :
    (Instr.lookup t (.map (some b)) (.int .i64 i) true).run P w = .ok (.tuple #[(M i).getD z, .bool (M i).isSome]) w := by
  obtain ⟨D, hown, hD⟩ := T.data
  obtain ⟨v, ps, hrun, hv⟩ := hown.look_ok (int_keyed hk) ht hz (zd := .held z) (zp := []) rfl (keyOf_int_mk hk hi)
  rw [hrun, has_of_tab (hD i hi)]
  have e1 := hD i hi (.held z)
  simp only [rawElem, Option.some.injEq, Prod.mk.injEq] at hv
  rw [e1] at hv
  cases hM : M i with
  | none => rw [hM] at hv; simp at hv; simp [hv]
  | some u => rw [hM] at hv; simp at hv; simp [hv]

theorem lit_ne {x i : Int} (h : x ≠ i) : Lit.int .i64 x ≠ Lit.int .i64 i := fun e => h (by cases e; rfl)

theorem Tab.store {t e : TypeId} (T : Tab P k w b n M) (hk : P.underlying k = some (.int .i64)) (ht : P.underlying t = some (.map k e)) (hn : n < maxLen) {i : Int} (hi : isI64 i) (v : Value) :
    ∃ w', (Instr.mapUpdate t (.map (some b)) (.int .i64 i) v).run P w = .ok () w' ∧ Tab P k w' b (n + 1) (upd M i (some v)) ∧ w.mapTurned w' b := by
  obtain ⟨D, hown, hD⟩ := T.data
  obtain ⟨w', hrun, hown', ht'⟩ := hown.store (int_keyed hk) ht hn (keyOf_int_mk hk hi) (d := .held v) (ps := []) rfl
  refine ⟨w', hrun, ⟨?_, D.put (.int .i64 i) (.held v), hown', ?_⟩, ht'⟩
  · intro x hx
    unfold upd at hx
    split at hx
    · rename_i e; subst e; exact hi
    · exact T.wf x hx
  · intro x hx z
    by_cases e : x = i
    · subst e
      rw [atKey_put_same hown.isMap (by trivial)]
      simp [upd]
    · rw [atKey_put_other (lit_ne e), hD x hx z]
      simp [upd, e]

theorem Tab.drop {t e : TypeId} (T : Tab P k w b n M) (hk : P.underlying k = some (.int .i64)) (ht : P.underlying t = some (.map k e)) {i : Int} (hi : isI64 i) (ty : TypeId) :
    ∃ w', (Builtin.delete_ #[t, k] ty #[.map (some b), .int .i64 i]).run P w = .ok (.tuple #[]) w' ∧ Tab P k w' b n (upd M i none) ∧ w.mapTurned w' b := by
  obtain ⟨D, hown, hD⟩ := T.data
  obtain ⟨w', hrun, hown', ht'⟩ := hown.drop (int_keyed hk) ht (keyOf_int_mk hk hi) ty
  refine ⟨w', hrun, ⟨?_, D.del (.int .i64 i), hown', ?_⟩, ht'⟩
  · intro x hx
    unfold upd at hx
    split at hx
    · simp at hx
    · exact T.wf x hx
  · intro x hx z
    by_cases e : x = i
    · subst e
      rw [atKey_del_same]
      simp [upd]
    · rw [atKey_del_other (lit_ne e), hD x hx z]
      simp [upd, e]

theorem Tab.wipe {t e : TypeId} (T : Tab P k w b n M) (ht : P.underlying t = some (.map k e)) (ty : TypeId) :
    ∃ w', (Builtin.clear_ #[t] ty #[.map (some b)]).run P w = .ok (.tuple #[]) w' ∧ Tab P k w' b n (fun _ => none) ∧ w.mapTurned w' b := by
  obtain ⟨D, ⟨es, clock, hb, F, hs, hD⟩, _⟩ := T.data
  refine ⟨setBlock w b (.map #[] clock), ?_, ⟨fun x h => by simp at h, .map [], ⟨#[], clock, heap_setBlock_same hb _, ⟨by simp, ?_, by simp⟩, Nat.zero_le _, rfl⟩, fun x _ z => by simp [DataW.atKey]⟩, ⟨es, clock, #[], clock, hb, rfl⟩⟩
  · simp [Builtin.clear_, run_underlying ht, MapKept.run_getObj_map hb, MapKept.run_setObj_map _ hb, setBlock, Result.andThen]
  · exact stamped_empty clock

/-- The keys, whatever their order. -/
theorem Tab.keys (T : Tab P k w b n M) (hk : P.underlying k = some (.int .i64)) : ∃ D : DataW Value, w.ownsMap P k rawElem b n D ∧ (intKeys D).Nodup ∧ (∀ x, x ∈ intKeys D ↔ (M x).isSome = true) ∧ Maps.size D ≤ n := by
  obtain ⟨D, hown, hD⟩ := T.data
  refine ⟨D, hown, ?_, ?_, hown.size_le⟩
  · obtain ⟨es, rfl, hpw, _⟩ := hown.entries (int_keyed hk)
    obtain ⟨es', hD', hko⟩ := hown.keysOf
    obtain rfl : es = es' := by simpa using hD'
    show (es.map fun p => intOf p.1).Nodup
    refine List.pairwise_map.2 (hpw.imp_of_mem fun {p q} hp' hq' hne e => hne ?_)
    obtain ⟨v, hv⟩ := hko p hp'
    obtain ⟨x, _, hx, _⟩ := Maps.keyOf_i64 hk hv
    obtain ⟨v', hv'⟩ := hko q hq'
    obtain ⟨y, _, hy, _⟩ := Maps.keyOf_i64 hk hv'
    rw [hx, hy] at e ⊢
    exact congrArg _ e
  · intro x
    constructor
    · intro h
      have hw := intKeys_wf hown hk x h
      rw [← has_of_tab (hD x hw)]
      obtain ⟨es, rfl, hko⟩ := hown.keysOf
      obtain ⟨p, hp, e⟩ := List.mem_map.1 h
      obtain ⟨v, hv⟩ := hko p hp
      obtain ⟨y, _, hy, _⟩ := Maps.keyOf_i64 hk hv
      rw [hy] at e
      rw [has_eq, List.any_eq_true]
      exact ⟨p, hp, by rw [hy]; simp only [Go.intOf] at e; simp [Lit.sameKey, e]⟩
    · intro h
      have hw := T.wf x h
      rw [← has_of_tab (hD x hw)] at h
      obtain ⟨es, rfl, hko⟩ := hown.keysOf
      rw [has_eq, List.any_eq_true] at h
      obtain ⟨p, hp, hs⟩ := h
      obtain ⟨v, hv⟩ := hko p hp
      obtain ⟨y, _, hy, _⟩ := Maps.keyOf_i64 hk hv
      refine List.mem_map.2 ⟨p, hp, ?_⟩
      rw [hy] at hs ⊢
      simpa [Lit.sameKey, Go.intOf] using hs

end

section
variable {P : Program} (w : World) {ops : Array Oper} {rest : List Oper} {o : Oper} {a : Act} {Q : Exit → Act → World → Prop}

theorem wpList_tab_look (hg : o.guard = none) (m x : Operand) (t : TypeId) (hop : o.op = Op.lookup t m x false)
    (k e : TypeId) (hk : P.underlying k = some (.int .i64)) (ht : P.underlying t = some (.map k e)) {z : Value} (hz : (zeroValue e).run P w = .ok z w) (b n : Nat) (M : Int → Option Value) (T : Tab P k w b n M)
    (hm : a.eval m = .map (some b)) (i : Int) (hi : isI64 i) (hx : a.eval x = .int .i64 i) (v : Value) (hv : (M i).getD z = v)
    (hK : wpList P ops Q rest (a.put o.dst v) w) : wpList P ops Q (o :: rest) a w := by
  refine wpList_plain hg fun K' hK' => ?_
  have hrun := T.look hk ht hz hi
  rw [hv] at hrun
  unfold Oper.wp
  simp [execOp, hop, hm, hx, hrun, Result.andThen]
  exact hK' _ _ hK

theorem wpList_tab_lookOk (hg : o.guard = none) (m x : Operand) (t : TypeId) (hop : o.op = Op.lookup t m x true)
    (k e : TypeId) (hk : P.underlying k = some (.int .i64)) (ht : P.underlying t = some (.map k e)) {z : Value} (hz : (zeroValue e).run P w = .ok z w) (b n : Nat) (M : Int → Option Value) (T : Tab P k w b n M)
    (hm : a.eval m = .map (some b)) (i : Int) (hi : isI64 i) (hx : a.eval x = .int .i64 i) (v : Value) (hv : (M i).getD z = v) (ok : Bool) (ho : (M i).isSome = ok)
    (hK : wpList P ops Q rest (a.put o.dst (.tuple #[v, .bool ok])) w) : wpList P ops Q (o :: rest) a w := by
  refine wpList_plain hg fun K' hK' => ?_
  have hrun := T.lookOk hk ht hz hi
  rw [hv, ho] at hrun
  unfold Oper.wp
  simp [execOp, hop, hm, hx, hrun, Result.andThen]
  exact hK' _ _ hK

theorem wpList_tab_store (hg : o.guard = none) (m x v : Operand) (t : TypeId) (hop : o.op = Op.mapUpdate t m x v)
    (k e : TypeId) (hk : P.underlying k = some (.int .i64)) (ht : P.underlying t = some (.map k e)) (b n : Nat) (M : Int → Option Value) (T : Tab P k w b n M) (hn : n < maxLen)
    (hm : a.eval m = .map (some b)) (i : Int) (hi : isI64 i) (hx : a.eval x = .int .i64 i) (u : Value) (hv : a.eval v = u)
    (hK : ∀ w', Tab P k w' b (n + 1) (upd M i (some u)) → w.mapTurned w' b → wpList P ops Q rest (a.put o.dst undef) w') : wpList P ops Q (o :: rest) a w := by
  refine wpList_plain hg fun K' hK' => ?_
  obtain ⟨w', hrun, r1, r2⟩ := T.store hk ht hn hi u
  unfold Oper.wp
  simp [execOp, hop, hm, hx, hv, hrun, Result.andThen]
  exact hK' _ _ (hK w' r1 r2)

theorem wpList_tab_drop (hg : o.guard = none) (m x : Operand) (t k : TypeId) (hop : o.op = Op.call { callee := Callee.builtin Builtin.delete, args := #[m, x], argTypes := #[t, k] })
    (e : TypeId) (hk : P.underlying k = some (.int .i64)) (ht : P.underlying t = some (.map k e)) (b n : Nat) (M : Int → Option Value) (T : Tab P k w b n M)
    (hm : a.eval m = .map (some b)) (i : Int) (hi : isI64 i) (hx : a.eval x = .int .i64 i)
    (hK : ∀ w', Tab P k w' b n (upd M i none) → w.mapTurned w' b → wpList P ops Q rest (a.put o.dst (.tuple #[])) w') : wpList P ops Q (o :: rest) a w := by
  refine wpList_plain hg fun K' hK' => ?_
  obtain ⟨w', hrun, r1, r2⟩ := T.drop hk ht hi o.type
  unfold Oper.wp
  simp [execOp, hop, resolve, invoke, builtin, hm, hx, hrun, Result.andThen]
  exact hK' _ _ (hK w' r1 r2)

theorem wpList_tab_wipe (hg : o.guard = none) (m : Operand) (t : TypeId) (hop : o.op = Op.call { callee := Callee.builtin Builtin.clear, args := #[m], argTypes := #[t] })
    (k e : TypeId) (ht : P.underlying t = some (.map k e)) (b n : Nat) (M : Int → Option Value) (T : Tab P k w b n M)
    (hm : a.eval m = .map (some b))
    (hK : ∀ w', Tab P k w' b n (fun _ => none) → w.mapTurned w' b → wpList P ops Q rest (a.put o.dst (.tuple #[])) w') : wpList P ops Q (o :: rest) a w := by
  refine wpList_plain hg fun K' hK' => ?_
  obtain ⟨w', hrun, r1, r2⟩ := T.wipe ht o.type
  unfold Oper.wp
  simp [execOp, hop, resolve, invoke, builtin, hm, hrun, Result.andThen]
  exact hK' _ _ (hK w' r1 r2)
end

end Go.Proofs.Ythpamcfemhimcaa
