/-
  A map keyed by texts as a table of raw values. Nothing here speaks of one program.
-/
import Derived.Test.YtdecceekodpjiaaDoorDMem
import Derived.Maps.OwnSet
import Derived.Sort.KeysCollected
import Derived.StringKeys
namespace Go.Proofs.YtdecceekodpjiaaDoor
open Go.RowKit Go.Maps Go.ChangeMaps Go.MapKept Go.WideMaps
open Go.WideElems (Fit rd rg pl rd_val elemAt)

/-- An element as it lies. -/
def rawElem (v : Value) : Option (DataW Value × List MemPlace) := some (.held v, [])

def updS (M : ByteArray → Option Value) (i : ByteArray) (v : Option Value) : ByteArray → Option Value := fun x => if x = i then v else M x

/-- Block b is a map of at most n entries that holds M. -/
def STab (P : Program) (k : TypeId) (w : World) (b n : Nat) (M : ByteArray → Option Value) : Prop :=
  ∃ D : DataW Value, w.ownsMap P k rawElem b n D ∧ ∀ x : ByteArray, x.size ≤ maxLen → ∀ z, D.atKey (.string x.data.toList) z = match M x with | some v => .held v | none => z

section
variable {P : Program} {k : TypeId} {w w' : World} {b n : Nat} {M : ByteArray → Option Value}

theorem STab.made (P : Program) (k : TypeId) (w : World) : STab P k (w.alloc (.map #[] 0)) w.heap.size 0 (fun _ => none) :=
  ⟨.map [], World.ownsMap_made w P k rawElem, fun x _ z => by simp [DataW.atKey]⟩

theorem STab.lt (T : STab P k w b n M) : b < w.heap.size := by obtain ⟨D, h, _⟩ := T; exact h.lt

theorem STab.block (T : STab P k w b n M) (h : w'.heap[b]? = w.heap[b]?) : STab P k w' b n M := by
  obtain ⟨D, ⟨es, clock, hb, r⟩, hD⟩ := T
  exact ⟨D, ⟨es, clock, h.trans hb, r⟩, hD⟩

theorem STab.kept {S : Nat → Prop} (T : STab P k w b n M) (K : Kept S w w') (hS : ¬ S b) : STab P k w' b n M := T.block (K.block b T.lt hS)

theorem STab.mono (T : STab P k w b n M) {n' : Nat} (h : n ≤ n') : STab P k w b n' M := by
  obtain ⟨D, hown, hD⟩ := T
  exact ⟨D, hown.mono h, hD⟩

theorem STab.is (T : STab P k w b n M) {M' : ByteArray → Option Value} (h : ∀ x, M x = M' x) : STab P k w b n M' := by
  have : M = M' := funext h
  rw [← this]; exact T

theorem has_of_stab {D : DataW Value} {x : List UInt8} {o : Option Value} (h : ∀ z, D.atKey (.string x) z = match o with | some v => .held v | none => z) : Maps.has D (.string x) = o.isSome := by
  cases hM : o with
  | none => rw [hM] at h; exact has_false_of_atKey h
  | some v => rw [hM] at h; exact has_true_of_atKey h

theorem STab.look {t e : TypeId} (T : STab P k w b n M) (hk : P.underlying k = some .string) (ht : P.underlying t = some (.map k e)) {z : Value} (hz : (zeroValue e).run P w = .ok z w) {i : ByteArray} (hi : i.size ≤ maxLen) :
    (Instr.lookup t (.map (some b)) (.string i) false).run P w = .ok ((M i).getD z) w := by
  obtain ⟨D, hown, hD⟩ := T
  obtain ⟨v, ps, hrun, hv⟩ := hown.lookup (string_keyed hk) ht hz (zd := .held z) (zp := []) rfl (keyOf_string_mk hk hi)
  rw [hrun]
  have e1 := hD i hi (.held z)
  simp only [rawElem, Option.some.injEq, Prod.mk.injEq] at hv
  rw [e1] at hv
  cases hM : M i with
  | none => rw [hM] at hv; simp at hv; simp [hv]
  | some u => rw [hM] at hv; simp at hv; simp [hv]

theorem STab.lookOk {t e : TypeId} (T : STab P k w b n M) (hk : P.underlying k = some .string) (ht : P.underlying t = some (.map k e)) {z : Value} (hz : (zeroValue e).run P w = .ok z w) {i : ByteArray} (hi : i.size ≤ maxLen) :
    (Instr.lookup t (.map (some b)) (.string i) true).run P w = .ok (.tuple #[(M i).getD z, .bool (M i).isSome]) w := by
  obtain ⟨D, hown, hD⟩ := T
  obtain ⟨v, ps, hrun, hv⟩ := hown.look_ok (string_keyed hk) ht hz (zd := .held z) (zp := []) rfl (keyOf_string_mk hk hi)
  rw [hrun, has_of_stab (hD i hi)]
  have e1 := hD i hi (.held z)
  simp only [rawElem, Option.some.injEq, Prod.mk.injEq] at hv
  rw [e1] at hv
  cases hM : M i with
  | none => rw [hM] at hv; simp at hv; simp [hv]
  | some u => rw [hM] at hv; simp at hv; simp [hv]

theorem slit_ne {x i : ByteArray} (h : x ≠ i) : Lit.string x.data.toList ≠ Lit.string i.data.toList := fun e => h (by
  have e2 : x.data.toList = i.data.toList := by injection e
  apply ByteArray.ext
  exact Array.toList_inj.1 e2)

theorem STab.store {t e : TypeId} (T : STab P k w b n M) (hk : P.underlying k = some .string) (ht : P.underlying t = some (.map k e)) (hn : n < maxLen) {i : ByteArray} (hi : i.size ≤ maxLen) (v : Value) :
    ∃ w', (Instr.mapUpdate t (.map (some b)) (.string i) v).run P w = .ok () w' ∧ STab P k w' b (n + 1) (updS M i (some v)) ∧ w.mapTurned w' b := by
  obtain ⟨D, hown, hD⟩ := T
  obtain ⟨w', hrun, hown', ht'⟩ := hown.store (string_keyed hk) ht hn (keyOf_string_mk hk hi) (d := .held v) (ps := []) rfl
  refine ⟨w', hrun, ⟨D.put (.string i.data.toList) (.held v), hown', ?_⟩, ht'⟩
  intro x hx z
  by_cases e : x = i
  · subst e
    rw [atKey_put_same hown.isMap (by trivial)]
    simp [updS]
  · rw [atKey_put_other (slit_ne e), hD x hx z]
    simp [updS, e]

end

theorem Kept.turned {S : Nat → Prop} {w w' : World} {b : Nat} (h : w.mapTurned w' b) (hS : S b) : Kept S w w' := by
  obtain ⟨es, c, es', c', hb, rfl⟩ := h
  exact ⟨rfl, rfl, rfl, by simp [setBlock], fun k hk hn => heap_setBlock_other hb _ (fun e => hn (e ▸ hS))⟩

end Go.Proofs.YtdecceekodpjiaaDoor
