/-
  Depth: rows of nodes as data, and what stands between the rounds over Walk.
-/
import Derived.Test.YtoonnbagppliaaaDoorDWalkIn
namespace Go.Proofs.YtoonnbagppliaaaDoor
open Go.RowKit Go.Shelf

/-- The number that a name stands for in the table of the first nodes (0: of none). -/
def fj (ns : List Nd) (s : ByteArray) : Nat := (findP ns s).getD 0
/-- The longest row that ends with one of some names, and none shorter than a. -/
def curP (ns : List Nd) (row : Nat → Nat) (i a : Nat) (l : List ByteArray) : Nat := l.foldl (fun a s => max a (if fj ns s = i then a else row (fj ns s))) a

/-- One node more is told. -/
def depStep (ns : List Nd) (st : (Nat → Nat) × Nat) (i : Nat) : (Nat → Nat) × Nat := match ns[i]? with
  | none => st
  | some n => (fun x => if x = i then curP ns st.1 i (st.1 i) n.after + 1 else st.1 x, max st.2 (curP ns st.1 i (st.1 i) n.after + 1))

def depK (ns : List Nd) (od : List Nat) : (Nat → Nat) × Nat := od.foldl (depStep ns) (fun _ => 0, 0)
/-- How many nodes the longest row has. -/
def depP (ns : List Nd) : Nat := (depK ns (ordP ns)).2

theorem curP_snoc (ns : List Nd) (row : Nat → Nat) (i a : Nat) (l : List ByteArray) (s : ByteArray) : curP ns row i a (l ++ [s]) = max (curP ns row i a l) (if fj ns s = i then curP ns row i a l else row (fj ns s)) := by
  unfold curP
  rw [List.foldl_append]
  rfl

theorem curP_le {ns : List Nd} {row : Nat → Nat} {i m : Nat} (h : ∀ x, row x ≤ m) : ∀ (l : List ByteArray) (a : Nat), a ≤ m → curP ns row i a l ≤ m
  | [], a, ha => ha
  | s :: l, a, ha => by
    show curP ns row i (max a (if fj ns s = i then a else row (fj ns s))) l ≤ m
    refine curP_le h l _ ?_
    have := h (fj ns s)
    split <;> omega

theorem depK_snoc (ns : List Nd) (od : List Nat) (i : Nat) : depK ns (od ++ [i]) = depStep ns (depK ns od) i := by
  unfold depK
  rw [List.foldl_append]
  rfl

theorem depK_le (ns : List Nd) (od : List Nat) : ∀ k, (∀ x, (depK ns (od.take k)).1 x ≤ k) ∧ (depK ns (od.take k)).2 ≤ k
  | 0 => by simp [depK]
  | k + 1 => by
    obtain ⟨h1, h2⟩ := depK_le ns od k
    by_cases hk : k < od.length
    · rw [List.take_add_one, List.getElem?_eq_getElem hk, Option.toList_some, depK_snoc]
      unfold depStep
      cases ns[od[k]]? with
      | none => exact ⟨fun x => Nat.le_succ_of_le (h1 x), Nat.le_succ_of_le h2⟩
      | some n =>
        have hc := curP_le (ns := ns) (i := od[k]) h1 n.after _ (h1 od[k])
        refine ⟨fun x => ?_, by show max _ _ ≤ _; omega⟩
        show (if x = od[k] then _ else _) ≤ _
        have := h1 x
        split <;> omega
    · rw [List.take_of_length_le (by omega)]
      rw [List.take_of_length_le (by omega)] at h1 h2
      exact ⟨fun x => by have := h1 x; omega, by omega⟩

/-- Between the rounds: the table's box, the row and its box, the longest, the mark, the loop's record. -/
structure DJ (w1 w2 : World) (ns : List Nd) (mb : Nat) (r : Loop) (W : World) (row : Nat → Nat) (lng : Nat) : Prop where
  fb : W.heap[w1.heap.size]? = some (.cells #[.map (some mb)] 57 (0, 0))
  row : W.rowIs (w1.heap.size + 1) 3 ns.length (fun x => .int .i64 (row x : Nat))
  rc : W.heap[w1.heap.size + 2]? = some (.cells #[.slice (some ⟨w1.heap.size + 1, 0, none⟩) ns.length ns.length] 37 (0, 0))
  lb : W.heap[w1.heap.size + 3]? = some (.cells #[.int .i64 (lng : Nat)] 3 (0, 0))
  dm : W.heap[w2.heap.size]? = some (.deferred (some []))
  lp : W.heap[w2.heap.size + 1]? = some (.loop r)
  kp : Kept (fun j => w1.heap.size ≤ j) w1 W
  mid : ∀ g, w1.heap.size + 4 ≤ g → g < w2.heap.size → W.heap[g]? = w2.heap[g]?
  big : w1.heap.size + 4 ≤ w2.heap.size
  sz : w2.heap.size + 2 ≤ W.heap.size

section
variable {w1 w2 W V : World} {ns : List Nd} {mb : Nat} {r : Loop} {row : Nat → Nat} {lng : Nat}

theorem DJ.keep (J : DJ w1 w2 ns mb r W row lng) (K : Kept (fun _ => False) W V) : DJ w1 w2 ns mb r V row lng := by
  have h : ∀ {i o}, W.heap[i]? = some o → V.heap[i]? = some o := fun {i o} hh => (K.block i (Array.getElem?_eq_some_iff.1 hh).1 (fun h => h)).trans hh
  have hb := J.big
  have hs := J.sz
  exact ⟨h J.fb, J.row.of_block (K.block _ J.row.lt (fun h => h)), h J.rc, h J.lb, h J.dm, h J.lp, J.kp.and (K.mono (fun _ h => h.elim)), fun g h1 h2 => (K.block g (by omega) (fun h => h)).trans (J.mid g h1 h2), J.big, Nat.le_trans J.sz K.size⟩

theorem DJ.put (J : DJ w1 w2 ns mb r W row lng) (r' : Loop) : DJ w1 w2 ns mb r' (W.putObj (w2.heap.size + 1) (.loop r')) row lng := by
  have K : Kept (fun j => j = w2.heap.size + 1) W (W.putObj (w2.heap.size + 1) (.loop r')) := Kept.putObj _ _ _ rfl
  have hl := (Array.getElem?_eq_some_iff.1 J.lp).1
  have hb := J.big
  have h : ∀ {i o}, i ≠ w2.heap.size + 1 → W.heap[i]? = some o → (W.putObj (w2.heap.size + 1) (.loop r')).heap[i]? = some o := fun {i o} hn hh => (K.block i (Array.getElem?_eq_some_iff.1 hh).1 hn).trans hh
  refine ⟨h (by omega) J.fb, J.row.of_block (K.block _ J.row.lt (by omega)), h (by omega) J.rc, h (by omega) J.lb, h (by omega) J.dm, ?_, J.kp.and (K.mono (fun j h => by omega)), fun g h1 h2 => (K.block g (by have := J.sz; omega) (by omega)).trans (J.mid g h1 h2), J.big, by simpa [World.putObj] using J.sz⟩
  simp [World.putObj, hl]

theorem DJ.setRow (J : DJ w1 w2 ns mb r W row lng) (i z : Nat) {zi : Int} (hz : zi = ((z : Nat) : Int)) : DJ w1 w2 ns mb r (W.setCell ⟨w1.heap.size + 1, i, none⟩ (.int .i64 zi)) (fun x => if x = i then z else row x) lng := by
  subst hz
  have K : Kept (fun j => j = w1.heap.size + 1) W (W.setCell ⟨w1.heap.size + 1, i, none⟩ (.int .i64 (z : Nat))) := Kept.setCell _ _ _ rfl
  have hb := J.big
  have h : ∀ {k o}, k ≠ w1.heap.size + 1 → W.heap[k]? = some o → (W.setCell ⟨w1.heap.size + 1, i, none⟩ (.int .i64 (z : Nat))).heap[k]? = some o := fun {k o} hn hh => (K.block k (Array.getElem?_eq_some_iff.1 hh).1 hn).trans hh
  exact ⟨h (by omega) J.fb, (J.row.set i _).congr (fun q _ => by split <;> rfl), h (by omega) J.rc, h (by omega) J.lb, h (by omega) J.dm, h (by omega) J.lp, J.kp.and (K.mono (fun j h => by omega)), fun g h1 h2 => (K.block g (by have := J.sz; omega) (by omega)).trans (J.mid g h1 h2), J.big, by simpa [World.setCell] using J.sz⟩

theorem DJ.setLng (J : DJ w1 w2 ns mb r W row lng) (z : Nat) {zi : Int} (hz : zi = ((z : Nat) : Int)) : DJ w1 w2 ns mb r (W.setCell ⟨w1.heap.size + 3, 0, none⟩ (.int .i64 zi)) row z := by
  subst hz
  have K : Kept (fun j => j = w1.heap.size + 3) W (W.setCell ⟨w1.heap.size + 3, 0, none⟩ (.int .i64 (z : Nat))) := Kept.setCell _ _ _ rfl
  have hb := J.big
  have h : ∀ {k o}, k ≠ w1.heap.size + 3 → W.heap[k]? = some o → (W.setCell ⟨w1.heap.size + 3, 0, none⟩ (.int .i64 (z : Nat))).heap[k]? = some o := fun {k o} hn hh => (K.block k (Array.getElem?_eq_some_iff.1 hh).1 hn).trans hh
  exact ⟨h (by omega) J.fb, J.row.of_block (K.block _ J.row.lt (by omega)), h (by omega) J.rc, by simp [World.setCell, Array.getElem?_modify, J.lb], h (by omega) J.dm, h (by omega) J.lp, J.kp.and (K.mono (fun j h => by omega)), fun g h1 h2 => (K.block g (by have := J.sz; omega) (by omega)).trans (J.mid g h1 h2), J.big, by simpa [World.setCell] using J.sz⟩

theorem DJ.is (J : DJ w1 w2 ns mb r W row lng) {row' : Nat → Nat} {lng' : Nat} (h1 : ∀ x, row x = row' x) (h2 : lng = lng') : DJ w1 w2 ns mb r W row' lng' := by
  have : row = row' := funext h1
  subst this h2
  exact J

/-- Texts stay where they are while numbers, the longest and the record are written. -/
theorem texts_stay {W1 : World} (J : DJ w1 w2 ns mb r W1 row lng) {a : Option Addr} {c : Nat} {l : List ByteArray} (h : TextsAt W1 (.slice a l.length c) l) (hV : ∀ g, g < W1.heap.size → g ≠ w1.heap.size + 1 → g ≠ w1.heap.size + 3 → g ≠ w2.heap.size + 1 → V.heap[g]? = W1.heap[g]?) : TextsAt V (.slice a l.length c) l := by
  obtain ⟨a', c', e, h1, h2, h3, h4⟩ := h
  refine ⟨a', c', e, h1, h2, ?_, h4⟩
  rcases h3 with h | ⟨b, o, rfl, hc⟩
  · exact .inl h
  · refine .inr ⟨b, o, rfl, fun j u hu => ?_⟩
    have hcell := hc j u hu
    have hlt := World.block_lt_of_cell? W1 _ hcell
    have hu2 : ∃ s, u = .string s := by
      rw [List.getElem?_map] at hu
      cases hs : l[j]? with
      | none => rw [hs] at hu; cases hu
      | some s => rw [hs] at hu; exact ⟨s, (Option.some.inj hu).symm⟩
    obtain ⟨s, rfl⟩ := hu2
    have e1 : b ≠ w1.heap.size + 1 := by
      intro e
      subst e
      by_cases hj : o + j < ns.length
      · rw [J.row.cell hj] at hcell; cases hcell
      · obtain ⟨cs, hb, hn, _⟩ := J.row
        simp [World.cell?, hb] at hcell
        have := (Array.getElem?_eq_some_iff.1 hcell).1
        omega
    have e2 : b ≠ w1.heap.size + 3 := by
      intro e
      subst e
      rw [World.cell?] at hcell
      simp only [J.lb] at hcell
      cases ho : o + j with
      | zero => rw [ho] at hcell; simp at hcell
      | succ q => rw [ho] at hcell; simp at hcell
    have e3 : b ≠ w2.heap.size + 1 := by
      intro e
      subst e
      simp [World.cell?, J.lp] at hcell
    rw [World.cell?_of_block (w := W1) (hV b hlt e1 e2 e3)]
    exact hcell

end

end Go.Proofs.YtoonnbagppliaaaDoor
