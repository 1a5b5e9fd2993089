/-
  Depth: rows of nodes as data, and what stands between the rounds over Walk.
-/
import Derived.Test.YtfjekjbkifmpfaaDoorG04
import Derived.Test.YtfjekjbkifmpfaaDoorG02
import Derived.RegionIn
namespace Go.Proofs.YtfjekjbkifmpfaaDoor
open Go.RowKit Go.Shelf

/-- The number that a name stands for in the table of the first nodes (0: of none). -/
def fj (ns : List Nd) (s : ByteArray) : Nat := (findP ns s).getD 0
/-- The longest row that ends with one of some names, and none shorter than a. -/
def curP (ns : List Nd) (row : Nat → Nat) (i a : Nat) (l : List ByteArray) : Nat := l.foldl (fun a s => max a (if fj ns s = i then a else row (fj ns s))) a

/-- One node more is told. -/
def depStep (ns : List Nd) (st : (Nat → Nat) × Nat) (i : Nat) : (Nat → Nat) × Nat := match ns[i]? with
  | none => st
  | some n => (fun x => if x = i then curP ns st.1 i (st.1 i) n.after + 1 else st.1 x, max st.2 (curP ns st.1 i (st.1 i) n.after + 1))

def depK (ns : List Nd) (od : List Nat) : (Nat → Nat) × Nat := od.foldl (depStep ns) (fun _ => 0, 0)
/-- How many nodes the longest row has. -/
def depP (ns : List Nd) : Nat := (depK ns (ordP ns)).2

theorem curP_snoc (ns : List Nd) (row : Nat → Nat) (i a : Nat) (l : List ByteArray) (s : ByteArray) : curP ns row i a (l ++ [s]) = max (curP ns row i a l) (if fj ns s = i then curP ns row i a l else row (fj ns s)) := by
  unfold curP
  rw [List.foldl_append]
  rfl

theorem curP_le {ns : List Nd} {row : Nat → Nat} {i m : Nat} (h : ∀ x, row x ≤ m) : ∀ (l : List ByteArray) (a : Nat), a ≤ m → curP ns row i a l ≤ m
  | [], a, ha => ha
  | s :: l, a, ha => by
    show curP ns row i (max a (if fj ns s = i then a else row (fj ns s))) l ≤ m
    refine curP_le h l _ ?_
    have := h (fj ns s)
    split <;> omega

theorem depK_snoc (ns : List Nd) (od : List Nat) (i : Nat) : depK ns (od ++ [i]) = depStep ns (depK ns od) i := by
  unfold depK
  rw [List.foldl_append]
  rfl

theorem depK_le (ns : List Nd) (od : List Nat) : ∀ k, (∀ x, (depK ns (od.take k)).1 x ≤ k) ∧ (depK ns (od.take k)).2 ≤ k
  | 0 => by simp [depK]
  | k + 1 => by
    obtain ⟨h1, h2⟩ := depK_le ns od k
    by_cases hk : k < od.length
    · rw [List.take_add_one, List.getElem?_eq_getElem hk, Option.toList_some, depK_snoc]
      unfold depStep
      cases ns[od[k]]? with
      | none => exact ⟨fun x => Nat.le_succ_of_le (h1 x), Nat.le_succ_of_le h2⟩
      | some n =>
        have hc := curP_le (ns := ns) (i := od[k]) h1 n.after _ (h1 od[k])
        refine ⟨fun x => ?_, by show max _ _ ≤ _; omega⟩
        show (if x = od[k] then _ else _) ≤ _
        have := h1 x
        split <;> omega
    · rw [List.take_of_length_le (by omega)]
      rw [List.take_of_length_le (by omega)] at h1 h2
      exact ⟨fun x => by have := h1 x; omega, by omega⟩

/-- Between the rounds: the table's box, the row and its box, the longest, the mark, the loop's record. -/
structure DJ (w1 w2 : World) (ns : List Nd) (mb : Nat) (r : Loop) (W : World) (row : Nat → Nat) (lng : Nat) : Prop where
  fb : W.heap[w1.heap.size]? = some (.cells #[.map (some mb)] 145 (0, 0))
  row : W.rowIs (w1.heap.size + 1) 3 ns.length (fun x => .int .i64 (row x : Nat))
  rc : W.heap[w1.heap.size + 2]? = some (.cells #[.slice (some ⟨w1.heap.size + 1, 0, none⟩) ns.length ns.length] 101 (0, 0))
  lb : W.heap[w1.heap.size + 3]? = some (.cells #[.int .i64 (lng : Nat)] 3 (0, 0))
  dm : W.heap[w2.heap.size]? = some (.deferred (some []))
  lp : W.heap[w2.heap.size + 1]? = some (.loop r)
  kp : Kept (fun j => w1.heap.size ≤ j) w1 W
  mid : ∀ g, w1.heap.size + 4 ≤ g → g < w2.heap.size → W.heap[g]? = w2.heap[g]?
  big : w1.heap.size + 4 ≤ w2.heap.size
  sz : w2.heap.size + 2 ≤ W.heap.size

section
variable {w1 w2 W V : World} {ns : List Nd} {mb : Nat} {r : Loop} {row : Nat → Nat} {lng : Nat}

theorem DJ.keep (J : DJ w1 w2 ns mb r W row lng) (K : Kept (fun _ => False) W V) : DJ w1 w2 ns mb r V row lng := by
  have h : ∀ {i o}, W.heap[i]? = some o → V.heap[i]? = some o := fun {i o} hh => (K.block i (Array.getElem?_eq_some_iff.1 hh).1 (fun h => h)).trans hh
  have hb := J.big
  have hs := J.sz
  exact ⟨h J.fb, J.row.of_block (K.block _ J.row.lt (fun h => h)), h J.rc, h J.lb, h J.dm, h J.lp, J.kp.and (K.mono (fun _ h => h.elim)), fun g h1 h2 => (K.block g (by omega) (fun h => h)).trans (J.mid g h1 h2), J.big, Nat.le_trans J.sz K.size⟩

theorem DJ.put (J : DJ w1 w2 ns mb r W row lng) (r' : Loop) : DJ w1 w2 ns mb r' (W.putObj (w2.heap.size + 1) (.loop r')) row lng := by
  have K : Kept (fun j => j = w2.heap.size + 1) W (W.putObj (w2.heap.size + 1) (.loop r')) := Kept.putObj _ _ _ rfl
  have hl := (Array.getElem?_eq_some_iff.1 J.lp).1
  have hb := J.big
  have h : ∀ {i o}, i ≠ w2.heap.size + 1 → W.heap[i]? = some o → (W.putObj (w2.heap.size + 1) (.loop r')).heap[i]? = some o := fun {i o} hn hh => (K.block i (Array.getElem?_eq_some_iff.1 hh).1 hn).trans hh
  refine ⟨h (by omega) J.fb, J.row.of_block (K.block _ J.row.lt (by omega)), h (by omega) J.rc, h (by omega) J.lb, h (by omega) J.dm, ?_, J.kp.and (K.mono (fun j h => by omega)), fun g h1 h2 => (K.block g (by have := J.sz; omega) (by omega)).trans (J.mid g h1 h2), J.big, by simpa [World.putObj] using J.sz⟩
  simp [World.putObj, hl]

theorem DJ.setRow (J : DJ w1 w2 ns mb r W row lng) (i z : Nat) {zi : Int} (hz : zi = ((z : Nat) : Int)) : DJ w1 w2 ns mb r (W.setCell ⟨w1.heap.size + 1, i, none⟩ (.int .i64 zi)) (fun x => if x = i then z else row x) lng := by
  subst hz
  have K : Kept (fun j => j = w1.heap.size + 1) W (W.setCell ⟨w1.heap.size + 1, i, none⟩ (.int .i64 (z : Nat))) := Kept.setCell _ _ _ rfl
  have hb := J.big
  have h : ∀ {k o}, k ≠ w1.heap.size + 1 → W.heap[k]? = some o → (W.setCell ⟨w1.heap.size + 1, i, none⟩ (.int .i64 (z : Nat))).heap[k]? = some o := fun {k o} hn hh => (K.block k (Array.getElem?_eq_some_iff.1 hh).1 hn).trans hh
  exact ⟨h (by omega) J.fb, (J.row.set i _).congr (fun q _ => by split <;> rfl), h (by omega) J.rc, h (by omega) J.lb, h (by omega) J.dm, h (by omega) J.lp, J.kp.and (K.mono (fun j h => by omega)), fun g h1 h2 => (K.block g (by have := J.sz; omega) (by omega)).trans (J.mid g h1 h2), J.big, by simpa [World.setCell] using J.sz⟩

theorem DJ.setLng (J : DJ w1 w2 ns mb r W row lng) (z : Nat) {zi : Int} (hz : zi = ((z : Nat) : Int)) : DJ w1 w2 ns mb r (W.setCell ⟨w1.heap.size + 3, 0, none⟩ (.int .i64 zi)) row z := by
  subst hz
  have K : Kept (fun j => j = w1.heap.size + 3) W (W.setCell ⟨w1.heap.size + 3, 0, none⟩ (.int .i64 (z : Nat))) := Kept.setCell _ _ _ rfl
  have hb := J.big
  have h : ∀ {k o}, k ≠ w1.heap.size + 3 → W.heap[k]? = some o → (W.setCell ⟨w1.heap.size + 3, 0, none⟩ (.int .i64 (z : Nat))).heap[k]? = some o := fun {k o} hn hh => (K.block k (Array.getElem?_eq_some_iff.1 hh).1 hn).trans hh
  exact ⟨h (by omega) J.fb, J.row.of_block (K.block _ J.row.lt (by omega)), h (by omega) J.rc, by simp [World.setCell, Array.getElem?_modify, J.lb], h (by omega) J.dm, h (by omega) J.lp, J.kp.and (K.mono (fun j h => by omega)), fun g h1 h2 => (K.block g (by have := J.sz; omega) (by omega)).trans (J.mid g h1 h2), J.big, by simpa [World.setCell] using J.sz⟩

theorem DJ.is (J : DJ w1 w2 ns mb r W row lng) {row' : Nat → Nat} {lng' : Nat} (h1 : ∀ x, row x = row' x) (h2 : lng = lng') : DJ w1 w2 ns mb r W row' lng' := by
  have : row = row' := funext h1
  subst this h2
  exact J

/-- Texts stay where they are while numbers, the longest and the record are written. -/
theorem texts_stay {W1 : World} (J : DJ w1 w2 ns mb r W1 row lng) {a : Option Addr} {c : Nat} {l : List ByteArray} (h : TextsAt W1 (.slice a l.length c) l) (hV : ∀ g, g < W1.heap.size → g ≠ w1.heap.size + 1 → g ≠ w1.heap.size + 3 → g ≠ w2.heap.size + 1 → V.heap[g]? = W1.heap[g]?) : TextsAt V (.slice a l.length c) l := by
  obtain ⟨a', c', e, h1, h2, h3, h4⟩ := h
  refine ⟨a', c', e, h1, h2, ?_, h4⟩
  rcases h3 with h | ⟨b, o, rfl, hc⟩
  · exact .inl h
  · refine .inr ⟨b, o, rfl, fun j u hu => ?_⟩
    have hcell := hc j u hu
    have hlt := World.block_lt_of_cell? W1 _ hcell
    have hu2 : ∃ s, u = .string s := by
      rw [List.getElem?_map] at hu
      cases hs : l[j]? with
      | none => rw [hs] at hu; cases hu
      | some s => rw [hs] at hu; exact ⟨s, (Option.some.inj hu).symm⟩
    obtain ⟨s, rfl⟩ := hu2
    have e1 : b ≠ w1.heap.size + 1 := by
      intro e
      subst e
      by_cases hj : o + j < ns.length
      · rw [J.row.cell hj] at hcell; cases hcell
      · obtain ⟨cs, hb, hn, _⟩ := J.row
        simp [World.cell?, hb] at hcell
        have := (Array.getElem?_eq_some_iff.1 hcell).1
        omega
    have e2 : b ≠ w1.heap.size + 3 := by
      intro e
      subst e
      rw [World.cell?] at hcell
      simp only [J.lb] at hcell
      cases ho : o + j with
      | zero => rw [ho] at hcell; simp at hcell
      | succ q => rw [ho] at hcell; simp at hcell
    have e3 : b ≠ w2.heap.size + 1 := by
      intro e
      subst e
      simp [World.cell?, J.lp] at hcell
    rw [World.cell?_of_block (w := W1) (hV b hlt e1 e2 e3)]
    exact hcell

end

end Go.Proofs.YtfjekjbkifmpfaaDoor

/-
  Depth: a row that ends with a node ahead is held against the longest so far.
-/
namespace Go.Proofs.YtfjekjbkifmpfaaDoor
open Go.RowKit Go.Shelf

set_option maxRecDepth 100000 in
set_option maxHeartbeats 2000000 in
theorem dep10 {W : World} {fb rc rb mb n i j x y : Nat} {s : ByteArray} {m r : Nat} {ds : List Deferred} {u0 u1 u2 u5 u7 u8 u10 u11 u12 u13 u14 u15 u16 u17 u18 u19 u20 u21 u22 u23 u24 u25 u26 u27 u28 u29 u30 u31 u32 u33 u34 u35 u36 u37 u38 u39 u40 u41 u42 u43 u44 u45 u46 u47 u48 u49 u50 u51 u52 u53 u54 : Value} (K : Act → World → Prop)
    (hS : ∀ V, V = W.drew ∨ V = W.drew.setCell ⟨rb, i, none⟩ (.int .i64 (max (x : Int) (y : Int))) → V.cell? ⟨rc, 0, none⟩ = some (.slice (some ⟨rb, 0, none⟩) n n) ∧ V.cell? ⟨fb, 0, none⟩ = some (.map (some mb)) ∧ (Instr.lookup 145 (.map (some mb)) (.string s) false).run Tryd.prog V = .ok (.int .i64 (j : Nat)) V)
    (hx : W.drew.cell? ⟨rb, i, none⟩ = some (.int .i64 (x : Nat))) (hy : W.drew.cell? ⟨rb, j, none⟩ = some (.int .i64 (y : Nat))) (hz : W.drew.frozen? ⟨rb, i, none⟩ = false) (hi : (i : Int) < (n : Int)) (hj : (j : Int) < (n : Int))
    (h : ∀ (v27 v28 v29 v30 v31 v32 v33 v34 v35 v36 v37 v38 v39 v40 : Value), K { tmps := #[u0, u1, u2, .pointer (some ⟨fb, 0, none⟩), .pointer (some ⟨rc, 0, none⟩), u5, .int .i64 (i : Nat), u7, u8, .string s, u10, u11, u12, u13, u14, u15, u16, u17, u18, u19, u20, u21, u22, u23, u24, u25, u26, v27, v28, v29, v30, v31, v32, v33, v34, v35, v36, v37, v38, v39, v40, u41, u42, u43, u44, u45, u46, u47, u48, u49, u50, u51, u52, u53, u54], defers := ds } (W.drew.setCell ⟨rb, i, none⟩ (.int .i64 (max (x : Int) (y : Int))))) :
    (Code.region 10 #[{ dst := some 27, op := Op.load 101 (Operand.tmp 4), type := 101, pos := "order.go:105", after := #[], guard := none }, { dst := some 28, op := Op.move (Operand.tmp 6), type := 3, pos := "order.go:105", after := #[], guard := none }, { dst := some 29, op := Op.load 101 (Operand.tmp 4), type := 101, pos := "order.go:105", after := #[], guard := none }, { dst := some 30, op := Op.move (Operand.tmp 6), type := 3, pos := "order.go:105", after := #[], guard := none }, { dst := some 31, op := Op.indexAddr 101 (Operand.tmp 29) (Operand.tmp 30), type := 0, pos := "order.go:105", after := #[{ on := 2, ground := Ground.data }, { on := 3, ground := Ground.data }], guard := none }, { dst := some 32, op := Op.load 3 (Operand.tmp 31), type := 3, pos := "order.go:105", after := #[{ on := 4, ground := Ground.data }], guard := none }, { dst := some 33, op := Op.load 101 (Operand.tmp 4), type := 101, pos := "order.go:105", after := #[], guard := none }, { dst := some 34, op := Op.load 145 (Operand.tmp 3), type := 145, pos := "order.go:105", after := #[], guard := none }, { dst := some 35, op := Op.move (Operand.tmp 9), type := 9, pos := "order.go:105", after := #[], guard := none }, { dst := some 36, op := Op.lookup 145 (Operand.tmp 34) (Operand.tmp 35) false, type := 3, pos := "order.go:105", after := #[{ on := 7, ground := Ground.data }, { on := 8, ground := Ground.data }], guard := none }, { dst := some 37, op := Op.indexAddr 101 (Operand.tmp 33) (Operand.tmp 36), type := 0, pos := "order.go:105", after := #[{ on := 6, ground := Ground.data }, { on := 9, ground := Ground.data }], guard := none }, { dst := some 38, op := Op.load 3 (Operand.tmp 37), type := 3, pos := "order.go:105", after := #[{ on := 10, ground := Ground.data }], guard := none }, { dst := some 39, op := Op.call { callee := Callee.builtin Builtin.max, args := #[Operand.tmp 32, Operand.tmp 38], argTypes := #[3, 3] }, type := 3, pos := "order.go:105", after := #[{ on := 5, ground := Ground.data }, { on := 11, ground := Ground.data }], guard := none }, { dst := some 40, op := Op.indexAddr 101 (Operand.tmp 27) (Operand.tmp 28), type := 0, pos := "order.go:105", after := #[{ on := 0, ground := Ground.data }, { on := 1, ground := Ground.data }, { on := 0, ground := Ground.phase }, { on := 1, ground := Ground.phase }, { on := 2, ground := Ground.phase }, { on := 3, ground := Ground.phase }, { on := 4, ground := Ground.phase }, { on := 5, ground := Ground.phase }, { on := 6, ground := Ground.phase }, { on := 7, ground := Ground.phase }, { on := 8, ground := Ground.phase }, { on := 9, ground := Ground.phase }, { on := 10, ground := Ground.phase }, { on := 11, ground := Ground.phase }, { on := 12, ground := Ground.phase }], guard := none }, { dst := none, op := Op.store 3 (Operand.tmp 40) (Operand.tmp 39), type := 0, pos := "order.go:105", after := #[{ on := 13, ground := Ground.data }, { on := 12, ground := Ground.data }, { on := 0, ground := Ground.phase }, { on := 1, ground := Ground.phase }, { on := 2, ground := Ground.phase }, { on := 3, ground := Ground.phase }, { on := 4, ground := Ground.phase }, { on := 5, ground := Ground.phase }, { on := 6, ground := Ground.phase }, { on := 7, ground := Ground.phase }, { on := 8, ground := Ground.phase }, { on := 9, ground := Ground.phase }, { on := 10, ground := Ground.phase }, { on := 11, ground := Ground.phase }, { on := 12, ground := Ground.phase }], guard := none }] true).wpIn (Fence.wide.inRound r) m Tryd.prog (nrm K) { tmps := #[u0, u1, u2, .pointer (some ⟨fb, 0, none⟩), .pointer (some ⟨rc, 0, none⟩), u5, .int .i64 (i : Nat), u7, u8, .string s, u10, u11, u12, u13, u14, u15, u16, u17, u18, u19, u20, u21, u22, u23, u24, u25, u26, u27, u28, u29, u30, u31, u32, u33, u34, u35, u36, u37, u38, u39, u40, u41, u42, u43, u44, u45, u46, u47, u48, u49, u50, u51, u52, u53, u54], defers := ds } W := by
  have HH : Hid _ := h
  have HS : Hid _ := hS
  have g1 : (0 : Int) ≤ (i : Int) := by omega
  have g2 : (0 : Int) ≤ (j : Int) := by omega
  clear h hS
  refine region_round_held (fun V => V = W.drew ∨ V = W.drew.setCell ⟨rb, i, none⟩ (.int .i64 (max (x : Int) (y : Int)))) (by kernel_rfl) (by kernel_rfl) (nrm_out _) ?_
  refine wpAnyH_take (i := 0) (oi := { dst := some 27, op := Op.load 101 (Operand.tmp 4), type := 101, pos := "order.go:105", after := #[], guard := none }) (v := ?vvt0) rfl (by kernel_rfl) (by kernel_rfl) (by kernel_rfl) (fun _ _ _ h => h) (Or.inl ⟨by rfl, ?hyt0⟩) (Or.inl rfl) ?restt0
  case hyt0 =>
    intro V hV
    obtain ⟨hc, hf, hl⟩ := HS.out V hV
    go_simp
    all_goals rfl
  simp only [Act.put, List.setIfInBounds_toArray, List.set_cons_zero, List.set_cons_succ]
  refine wpAnyH_take (i := 1) (oi := { dst := some 28, op := Op.move (Operand.tmp 6), type := 3, pos := "order.go:105", after := #[], guard := none }) (v := ?vvt1) rfl (by kernel_rfl) (by kernel_rfl) (by kernel_rfl) (fun _ _ _ h => h) (Or.inl ⟨by rfl, ?hyt1⟩) (Or.inl rfl) ?restt1
  case hyt1 =>
    intro V hV
    obtain ⟨hc, hf, hl⟩ := HS.out V hV
    go_simp
    all_goals rfl
  simp only [Act.put, List.setIfInBounds_toArray, List.set_cons_zero, List.set_cons_succ]
  refine wpAnyH_take (i := 2) (oi := { dst := some 29, op := Op.load 101 (Operand.tmp 4), type := 101, pos := "order.go:105", after := #[], guard := none }) (v := ?vvt2) rfl (by kernel_rfl) (by kernel_rfl) (by kernel_rfl) (fun _ _ _ h => h) (Or.inl ⟨by rfl, ?hyt2⟩) (Or.inl rfl) ?restt2
  case hyt2 =>
    intro V hV
    obtain ⟨hc, hf, hl⟩ := HS.out V hV
    go_simp
    all_goals rfl
  simp only [Act.put, List.setIfInBounds_toArray, List.set_cons_zero, List.set_cons_succ]
  refine wpAnyH_take (i := 3) (oi := { dst := some 30, op := Op.move (Operand.tmp 6), type := 3, pos := "order.go:105", after := #[], guard := none }) (v := ?vvt3) rfl (by kernel_rfl) (by kernel_rfl) (by kernel_rfl) (fun _ _ _ h => h) (Or.inl ⟨by rfl, ?hyt3⟩) (Or.inl rfl) ?restt3
  case hyt3 =>
    intro V hV
    obtain ⟨hc, hf, hl⟩ := HS.out V hV
    go_simp
    all_goals rfl
  simp only [Act.put, List.setIfInBounds_toArray, List.set_cons_zero, List.set_cons_succ]
  refine wpAnyH_take (i := 4) (oi := { dst := some 31, op := Op.indexAddr 101 (Operand.tmp 29) (Operand.tmp 30), type := 0, pos := "order.go:105", after := #[{ on := 2, ground := Ground.data }, { on := 3, ground := Ground.data }], guard := none }) (v := ?vvt4) rfl (by kernel_rfl) (by kernel_rfl) (by kernel_rfl) (fun _ _ _ h => h) (Or.inl ⟨by rfl, ?hyt4⟩) (Or.inl rfl) ?restt4
  case hyt4 =>
    intro V hV
    obtain ⟨hc, hf, hl⟩ := HS.out V hV
    go_simp
    all_goals rfl
  simp only [Act.put, List.setIfInBounds_toArray, List.set_cons_zero, List.set_cons_succ]
  refine wpAnyH_take (i := 6) (oi := { dst := some 33, op := Op.load 101 (Operand.tmp 4), type := 101, pos := "order.go:105", after := #[], guard := none }) (v := ?vvt6) rfl (by kernel_rfl) (by kernel_rfl) (by kernel_rfl) (fun _ _ _ h => h) (Or.inl ⟨by rfl, ?hyt6⟩) (Or.inl rfl) ?restt6
  case hyt6 =>
    intro V hV
    obtain ⟨hc, hf, hl⟩ := HS.out V hV
    go_simp
    all_goals rfl
  simp only [Act.put, List.setIfInBounds_toArray, List.set_cons_zero, List.set_cons_succ]
  refine wpAnyH_take (i := 7) (oi := { dst := some 34, op := Op.load 145 (Operand.tmp 3), type := 145, pos := "order.go:105", after := #[], guard := none }) (v := ?vvt7) rfl (by kernel_rfl) (by kernel_rfl) (by kernel_rfl) (fun _ _ _ h => h) (Or.inl ⟨by rfl, ?hyt7⟩) (Or.inl rfl) ?restt7
  case hyt7 =>
    intro V hV
    obtain ⟨hc, hf, hl⟩ := HS.out V hV
    go_simp
    all_goals rfl
  simp only [Act.put, List.setIfInBounds_toArray, List.set_cons_zero, List.set_cons_succ]
  refine wpAnyH_take (i := 8) (oi := { dst := some 35, op := Op.move (Operand.tmp 9), type := 9, pos := "order.go:105", after := #[], guard := none }) (v := ?vvt8) rfl (by kernel_rfl) (by kernel_rfl) (by kernel_rfl) (fun _ _ _ h => h) (Or.inl ⟨by rfl, ?hyt8⟩) (Or.inl rfl) ?restt8
  case hyt8 =>
    intro V hV
    obtain ⟨hc, hf, hl⟩ := HS.out V hV
    go_simp
    all_goals rfl
  simp only [Act.put, List.setIfInBounds_toArray, List.set_cons_zero, List.set_cons_succ]
  refine wpAnyH_take (i := 9) (oi := { dst := some 36, op := Op.lookup 145 (Operand.tmp 34) (Operand.tmp 35) false, type := 3, pos := "order.go:105", after := #[{ on := 7, ground := Ground.data }, { on := 8, ground := Ground.data }], guard := none }) (v := ?vvt9) rfl (by kernel_rfl) (by kernel_rfl) (by kernel_rfl) (fun _ _ _ h => h) (Or.inl ⟨by rfl, ?hyt9⟩) (Or.inl rfl) ?restt9
  case hyt9 =>
    intro V hV
    obtain ⟨hc, hf, hl⟩ := HS.out V hV
    go_simp
    all_goals rfl
  simp only [Act.put, List.setIfInBounds_toArray, List.set_cons_zero, List.set_cons_succ]
  refine wpAnyH_take (i := 10) (oi := { dst := some 37, op := Op.indexAddr 101 (Operand.tmp 33) (Operand.tmp 36), type := 0, pos := "order.go:105", after := #[{ on := 6, ground := Ground.data }, { on := 9, ground := Ground.data }], guard := none }) (v := ?vvt10) rfl (by kernel_rfl) (by kernel_rfl) (by kernel_rfl) (fun _ _ _ h => h) (Or.inl ⟨by rfl, ?hyt10⟩) (Or.inl rfl) ?restt10
  case hyt10 =>
    intro V hV
    obtain ⟨hc, hf, hl⟩ := HS.out V hV
    go_simp
    all_goals rfl
  simp only [Act.put, List.setIfInBounds_toArray, List.set_cons_zero, List.set_cons_succ]
  refine wpAnyH_ready (rs := [5, 11]) (by kernel_rfl) (by simp) (AllReadyH.cons (o := { dst := some 32, op := Op.load 3 (Operand.tmp 31), type := 3, pos := "order.go:105", after := #[{ on := 4, ground := Ground.data }], guard := none }) rfl (fun K' hK => ?ra) (AllReadyH.cons (o := { dst := some 38, op := Op.load 3 (Operand.tmp 37), type := 3, pos := "order.go:105", after := #[{ on := 10, ground := Ground.data }], guard := none }) rfl (fun K' hK => ?rb) AllReadyH.nil))
  case ra =>
    rw [if_pos (by simp [Region.wanted])]
    unfold Oper.wp
    go_simp
    refine hK.out _ _ (Or.inl rfl) (fun _ => ?_)
    clear hK K'
    try simp only [Act.put, List.setIfInBounds_toArray, List.set_cons_zero, List.set_cons_succ]
    refine wpAnyH_ready (rs := [11]) (by kernel_rfl) (by simp) (AllReadyH.cons (o := { dst := some 38, op := Op.load 3 (Operand.tmp 37), type := 3, pos := "order.go:105", after := #[{ on := 10, ground := Ground.data }], guard := none }) rfl (fun K' hK => ?_) AllReadyH.nil)
    rw [if_pos (by simp [Region.wanted])]
    unfold Oper.wp
    go_simp
    refine hK.out _ _ (Or.inl rfl) (fun _ => ?_)
    clear hK K'
    try simp only [Act.put, List.setIfInBounds_toArray, List.set_cons_zero, List.set_cons_succ]
    refine wpAnyH_take (i := 12) (oi := { dst := some 39, op := Op.call { callee := Callee.builtin Builtin.max, args := #[Operand.tmp 32, Operand.tmp 38], argTypes := #[3, 3] }, type := 3, pos := "order.go:105", after := #[{ on := 5, ground := Ground.data }, { on := 11, ground := Ground.data }], guard := none }) (v := ?vvma) rfl (by kernel_rfl) (by kernel_rfl) (by kernel_rfl) (fun _ _ _ h => h) (Or.inl ⟨by rfl, ?hyma⟩) (Or.inl rfl) ?restma
    case hyma =>
      intro V hV
      obtain ⟨hc, hf, hl⟩ := HS.out V hV
      go_simp
      all_goals rfl
    simp only [Act.put, List.setIfInBounds_toArray, List.set_cons_zero, List.set_cons_succ]
    refine wpAnyH_take (i := 13) (oi := { dst := some 40, op := Op.indexAddr 101 (Operand.tmp 27) (Operand.tmp 28), type := 0, pos := "order.go:105", after := #[{ on := 0, ground := Ground.data }, { on := 1, ground := Ground.data }, { on := 0, ground := Ground.phase }, { on := 1, ground := Ground.phase }, { on := 2, ground := Ground.phase }, { on := 3, ground := Ground.phase }, { on := 4, ground := Ground.phase }, { on := 5, ground := Ground.phase }, { on := 6, ground := Ground.phase }, { on := 7, ground := Ground.phase }, { on := 8, ground := Ground.phase }, { on := 9, ground := Ground.phase }, { on := 10, ground := Ground.phase }, { on := 11, ground := Ground.phase }, { on := 12, ground := Ground.phase }], guard := none }) (v := ?vvna) rfl (by kernel_rfl) (by kernel_rfl) (by kernel_rfl) (fun _ _ _ h => h) (Or.inl ⟨by rfl, ?hyna⟩) (Or.inl rfl) ?restna
    case hyna =>
      intro V hV
      obtain ⟨hc, hf, hl⟩ := HS.out V hV
      go_simp
      all_goals rfl
    simp only [Act.put, List.setIfInBounds_toArray, List.set_cons_zero, List.set_cons_succ]
    refine wpAnyH_ready (rs := [14]) (by kernel_rfl) (by simp) (AllReadyH.cons (o := { dst := none, op := Op.store 3 (Operand.tmp 40) (Operand.tmp 39), type := 0, pos := "order.go:105", after := #[{ on := 13, ground := Ground.data }, { on := 12, ground := Ground.data }, { on := 0, ground := Ground.phase }, { on := 1, ground := Ground.phase }, { on := 2, ground := Ground.phase }, { on := 3, ground := Ground.phase }, { on := 4, ground := Ground.phase }, { on := 5, ground := Ground.phase }, { on := 6, ground := Ground.phase }, { on := 7, ground := Ground.phase }, { on := 8, ground := Ground.phase }, { on := 9, ground := Ground.phase }, { on := 10, ground := Ground.phase }, { on := 11, ground := Ground.phase }, { on := 12, ground := Ground.phase }], guard := none }) rfl (fun K' hK => ?_) AllReadyH.nil)
    rw [if_pos (by simp [Region.wanted])]
    unfold Oper.wp
    go_simp
    refine hK.out _ _ (Or.inr rfl) (fun _ => ?_)
    clear hK K'
    try simp only [Act.put, List.setIfInBounds_toArray, List.set_cons_zero, List.set_cons_succ]
    refine wpAnyH_done (by kernel_rfl) ?_ _
    exact HH.out _ _ _ _ _ _ _ _ _ _ _ _ _ _
  case rb =>
    rw [if_pos (by simp [Region.wanted])]
    unfold Oper.wp
    go_simp
    refine hK.out _ _ (Or.inl rfl) (fun _ => ?_)
    clear hK K'
    try simp only [Act.put, List.setIfInBounds_toArray, List.set_cons_zero, List.set_cons_succ]
    refine wpAnyH_ready (rs := [5]) (by kernel_rfl) (by simp) (AllReadyH.cons (o := { dst := some 32, op := Op.load 3 (Operand.tmp 31), type := 3, pos := "order.go:105", after := #[{ on := 4, ground := Ground.data }], guard := none }) rfl (fun K' hK => ?_) AllReadyH.nil)
    rw [if_pos (by simp [Region.wanted])]
    unfold Oper.wp
    go_simp
    refine hK.out _ _ (Or.inl rfl) (fun _ => ?_)
    clear hK K'
    try simp only [Act.put, List.setIfInBounds_toArray, List.set_cons_zero, List.set_cons_succ]
    refine wpAnyH_take (i := 12) (oi := { dst := some 39, op := Op.call { callee := Callee.builtin Builtin.max, args := #[Operand.tmp 32, Operand.tmp 38], argTypes := #[3, 3] }, type := 3, pos := "order.go:105", after := #[{ on := 5, ground := Ground.data }, { on := 11, ground := Ground.data }], guard := none }) (v := ?vvmb) rfl (by kernel_rfl) (by kernel_rfl) (by kernel_rfl) (fun _ _ _ h => h) (Or.inl ⟨by rfl, ?hymb⟩) (Or.inl rfl) ?restmb
    case hymb =>
      intro V hV
      obtain ⟨hc, hf, hl⟩ := HS.out V hV
      go_simp
      all_goals rfl
    simp only [Act.put, List.setIfInBounds_toArray, List.set_cons_zero, List.set_cons_succ]
    refine wpAnyH_take (i := 13) (oi := { dst := some 40, op := Op.indexAddr 101 (Operand.tmp 27) (Operand.tmp 28), type := 0, pos := "order.go:105", after := #[{ on := 0, ground := Ground.data }, { on := 1, ground := Ground.data }, { on := 0, ground := Ground.phase }, { on := 1, ground := Ground.phase }, { on := 2, ground := Ground.phase }, { on := 3, ground := Ground.phase }, { on := 4, ground := Ground.phase }, { on := 5, ground := Ground.phase }, { on := 6, ground := Ground.phase }, { on := 7, ground := Ground.phase }, { on := 8, ground := Ground.phase }, { on := 9, ground := Ground.phase }, { on := 10, ground := Ground.phase }, { on := 11, ground := Ground.phase }, { on := 12, ground := Ground.phase }], guard := none }) (v := ?vvnb) rfl (by kernel_rfl) (by kernel_rfl) (by kernel_rfl) (fun _ _ _ h => h) (Or.inl ⟨by rfl, ?hynb⟩) (Or.inl rfl) ?restnb
    case hynb =>
      intro V hV
      obtain ⟨hc, hf, hl⟩ := HS.out V hV
      go_simp
      all_goals rfl
    simp only [Act.put, List.setIfInBounds_toArray, List.set_cons_zero, List.set_cons_succ]
    refine wpAnyH_ready (rs := [14]) (by kernel_rfl) (by simp) (AllReadyH.cons (o := { dst := none, op := Op.store 3 (Operand.tmp 40) (Operand.tmp 39), type := 0, pos := "order.go:105", after := #[{ on := 13, ground := Ground.data }, { on := 12, ground := Ground.data }, { on := 0, ground := Ground.phase }, { on := 1, ground := Ground.phase }, { on := 2, ground := Ground.phase }, { on := 3, ground := Ground.phase }, { on := 4, ground := Ground.phase }, { on := 5, ground := Ground.phase }, { on := 6, ground := Ground.phase }, { on := 7, ground := Ground.phase }, { on := 8, ground := Ground.phase }, { on := 9, ground := Ground.phase }, { on := 10, ground := Ground.phase }, { on := 11, ground := Ground.phase }, { on := 12, ground := Ground.phase }], guard := none }) rfl (fun K' hK => ?_) AllReadyH.nil)
    rw [if_pos (by simp [Region.wanted])]
    unfold Oper.wp
    go_simp
    refine hK.out _ _ (Or.inr rfl) (fun _ => ?_)
    clear hK K'
    try simp only [Act.put, List.setIfInBounds_toArray, List.set_cons_zero, List.set_cons_succ]
    refine wpAnyH_done (by kernel_rfl) ?_ _
    exact HH.out _ _ _ _ _ _ _ _ _ _ _ _ _ _

end Go.Proofs.YtfjekjbkifmpfaaDoor

/-
  changeNode: its regions that draw their order.
-/
namespace Go.Proofs.YtfjekjbkifmpfaaDoor
open Go.RowKit

set_option maxRecDepth 100000 in
set_option maxHeartbeats 8000000 in
theorem cn1 {W : World} {sb so db eb : Nat} {d0 d1 : Value} {en : ByteArray} {q0 q1 q2 q3 q4 q5 q6 q7 q8 : Value} {z7 z8 : Value} {ds : List Deferred} {u0 u2 u4 u6 u7 u8 u9 u10 u11 u12 u13 u14 u15 u16 u17 u18 u19 u20 u21 u22 u23 u24 u25 u26 u27 u28 u29 u30 u31 u32 u33 u34 u35 u36 u37 u38 u39 u40 u41 u42 u43 u44 u45 u46 u47 u48 u49 u50 u51 u52 u53 u54 u55 u56 u57 u58 u59 u60 u61 u62 u63 u64 u65 u66 u67 u68 u69 u70 u71 u72 u73 u74 u75 u76 u77 u78 u79 u80 u81 u82 u83 u84 u85 u86 u87 u88 u89 u90 : Value} (K : Act → World → Prop)
    (x0 : W.cell? ⟨db, 0, none⟩ = some (d0)) (x1 : W.cell? ⟨db, 1, none⟩ = some (d1)) (x2 : W.cell? ⟨sb, so, none⟩ = some (q0)) (x3 : W.cell? ⟨sb, so + 1, none⟩ = some (q1)) (x4 : W.cell? ⟨sb, so + 2, none⟩ = some (q2)) (x5 : W.cell? ⟨sb, so + 3, none⟩ = some (q3)) (x6 : W.cell? ⟨sb, so + 4, none⟩ = some (q4)) (x7 : W.cell? ⟨sb, so + 5, none⟩ = some (q5)) (x8 : W.cell? ⟨sb, so + 6, none⟩ = some (q6)) (x9 : W.cell? ⟨sb, so + 7, none⟩ = some (q7)) (x10 : W.cell? ⟨sb, so + 8, none⟩ = some (q8)) (x11 : W.cell? ⟨eb, 1, none⟩ = some (.string en))
    (hC : Calls Tryd.prog 70 #[.agg #[d0, d1], .agg #[q0, q1, q2, q3, q4, q5, q6, q7, q8], .string en] W.drew fun e w' => e = .returned (.tuple #[z7, z8]) ∧ Kept (fun _ => False) W.drew w')
    (h : ∀ (v11 v12 v13 v14 v15 v16 v17 v18 v19 v20 : Value) (w5 : World), Kept (fun _ => False) W w5 → K { tmps := #[u0, .pointer (some ⟨sb, so, none⟩), u2, .pointer (some ⟨db, 0, none⟩), u4, .pointer (some ⟨eb, 0, none⟩), u6, z7, z8, u9, u10, v11, v12, v13, v14, v15, v16, v17, v18, v19, v20, u21, u22, u23, u24, u25, u26, u27, u28, u29, u30, u31, u32, u33, u34, u35, u36, u37, u38, u39, u40, u41, u42, u43, u44, u45, u46, u47, u48, u49, u50, u51, u52, u53, u54, u55, u56, u57, u58, u59, u60, u61, u62, u63, u64, u65, u66, u67, u68, u69, u70, u71, u72, u73, u74, u75, u76, u77, u78, u79, u80, u81, u82, u83, u84, u85, u86, u87, u88, u89, u90], defers := ds } w5) :
    (Code.region 1 #[{ dst := some 12, op := Op.load 24 (Operand.tmp 3), type := 24, pos := "apply.go:78", after := #[], guard := none }, { dst := some 13, op := Op.move (Operand.tmp 1), type := 86, pos := "apply.go:78", after := #[], guard := none }, { dst := some 14, op := Op.nilCheck (Operand.tmp 13), type := 0, pos := "apply.go:78", after := #[{ on := 1, ground := Ground.data }], guard := none }, { dst := some 15, op := Op.load 33 (Operand.tmp 14), type := 33, pos := "apply.go:78", after := #[{ on := 2, ground := Ground.data }], guard := none }, { dst := some 16, op := Op.fieldAddr 51 (Operand.tmp 5) 1, type := 0, pos := "apply.go:78", after := #[], guard := none }, { dst := some 17, op := Op.load 9 (Operand.tmp 16), type := 9, pos := "apply.go:78", after := #[{ on := 4, ground := Ground.data }], guard := none }, { dst := some 18, op := Op.call { callee := Callee.value (Operand.func 70), args := #[Operand.tmp 12, Operand.tmp 15, Operand.tmp 17], argTypes := #[24, 33, 9] }, type := 65, pos := "apply.go:78", after := #[{ on := 0, ground := Ground.data }, { on := 3, ground := Ground.data }, { on := 5, ground := Ground.data }], guard := none }, { dst := some 11, op := Op.move (Operand.tmp 18), type := 65, pos := "apply.go:78", after := #[{ on := 6, ground := Ground.data }], guard := none }, { dst := some 19, op := Op.extract (Operand.tmp 11) 0, type := 3, pos := "apply.go:78", after := #[{ on := 7, ground := Ground.data }], guard := none }, { dst := some 20, op := Op.extract (Operand.tmp 11) 1, type := 4, pos := "apply.go:78", after := #[{ on := 7, ground := Ground.data }, { on := 10, ground := Ground.gcOnly Departure.lateStores }], guard := none }, { dst := some 7, op := Op.assign (Operand.tmp 19), type := 3, pos := "apply.go:78", after := #[{ on := 8, ground := Ground.data }, { on := 6, ground := Ground.chain }, { on := 0, ground := Ground.phase }, { on := 1, ground := Ground.phase }, { on := 2, ground := Ground.phase }, { on := 3, ground := Ground.phase }, { on := 4, ground := Ground.phase }, { on := 5, ground := Ground.phase }, { on := 6, ground := Ground.phase }, { on := 7, ground := Ground.phase }, { on := 8, ground := Ground.phase }, { on := 9, ground := Ground.textOnly Departure.lateStores }], guard := none }, { dst := some 8, op := Op.assign (Operand.tmp 20), type := 4, pos := "apply.go:78", after := #[{ on := 9, ground := Ground.data }, { on := 10, ground := Ground.chain }, { on := 0, ground := Ground.phase }, { on := 1, ground := Ground.phase }, { on := 2, ground := Ground.phase }, { on := 3, ground := Ground.phase }, { on := 4, ground := Ground.phase }, { on := 5, ground := Ground.phase }, { on := 6, ground := Ground.phase }, { on := 7, ground := Ground.phase }, { on := 8, ground := Ground.phase }, { on := 9, ground := Ground.phase }, { on := 10, ground := Ground.phase }], guard := none }] true).wp Tryd.prog (onlyN K) { tmps := #[u0, .pointer (some ⟨sb, so, none⟩), u2, .pointer (some ⟨db, 0, none⟩), u4, .pointer (some ⟨eb, 0, none⟩), u6, u7, u8, u9, u10, u11, u12, u13, u14, u15, u16, u17, u18, u19, u20, u21, u22, u23, u24, u25, u26, u27, u28, u29, u30, u31, u32, u33, u34, u35, u36, u37, u38, u39, u40, u41, u42, u43, u44, u45, u46, u47, u48, u49, u50, u51, u52, u53, u54, u55, u56, u57, u58, u59, u60, u61, u62, u63, u64, u65, u66, u67, u68, u69, u70, u71, u72, u73, u74, u75, u76, u77, u78, u79, u80, u81, u82, u83, u84, u85, u86, u87, u88, u89, u90], defers := ds } W := by
  have HH : Hid _ := h
  have KD := Kept.drew (fun _ => False) W
  have HS : Hid (∀ V, Kept (fun _ => False) W.drew V → V.cell? ⟨db, 0, none⟩ = some (d0) ∧ V.cell? ⟨db, 1, none⟩ = some (d1) ∧ V.cell? ⟨sb, so, none⟩ = some (q0) ∧ V.cell? ⟨sb, so + 1, none⟩ = some (q1) ∧ V.cell? ⟨sb, so + 2, none⟩ = some (q2) ∧ V.cell? ⟨sb, so + 3, none⟩ = some (q3) ∧ V.cell? ⟨sb, so + 4, none⟩ = some (q4) ∧ V.cell? ⟨sb, so + 5, none⟩ = some (q5) ∧ V.cell? ⟨sb, so + 6, none⟩ = some (q6) ∧ V.cell? ⟨sb, so + 7, none⟩ = some (q7) ∧ V.cell? ⟨sb, so + 8, none⟩ = some (q8) ∧ V.cell? ⟨eb, 1, none⟩ = some (.string en)) := fun V KV => ⟨keepC (KD.and KV) x0 (fun _ _ h => h), keepC (KD.and KV) x1 (fun _ _ h => h), keepC (KD.and KV) x2 (fun _ _ h => h), keepC (KD.and KV) x3 (fun _ _ h => h), keepC (KD.and KV) x4 (fun _ _ h => h), keepC (KD.and KV) x5 (fun _ _ h => h), keepC (KD.and KV) x6 (fun _ _ h => h), keepC (KD.and KV) x7 (fun _ _ h => h), keepC (KD.and KV) x8 (fun _ _ h => h), keepC (KD.and KV) x9 (fun _ _ h => h), keepC (KD.and KV) x10 (fun _ _ h => h), keepC (KD.and KV) x11 (fun _ _ h => h)⟩
  have HKD : Hid (Kept (fun _ => False) W W.drew) := KD
  have hS0 := HS.out W.drew (Kept.refl _ _)
  clear h KD x0 x1 x2 x3 x4 x5 x6 x7 x8 x9 x10 x11
  refine wp_region_held_drew (S := fun V => V.cell? ⟨db, 0, none⟩ = some (d0) ∧ V.cell? ⟨db, 1, none⟩ = some (d1) ∧ V.cell? ⟨sb, so, none⟩ = some (q0) ∧ V.cell? ⟨sb, so + 1, none⟩ = some (q1) ∧ V.cell? ⟨sb, so + 2, none⟩ = some (q2) ∧ V.cell? ⟨sb, so + 3, none⟩ = some (q3) ∧ V.cell? ⟨sb, so + 4, none⟩ = some (q4) ∧ V.cell? ⟨sb, so + 5, none⟩ = some (q5) ∧ V.cell? ⟨sb, so + 6, none⟩ = some (q6) ∧ V.cell? ⟨sb, so + 7, none⟩ = some (q7) ∧ V.cell? ⟨sb, so + 8, none⟩ = some (q8) ∧ V.cell? ⟨eb, 1, none⟩ = some (.string en)) (by kernel_rfl) hS0 (fun _ => ?_)
  refine wpAnyH_take (i := 0) (oi := { dst := some 12, op := Op.load 24 (Operand.tmp 3), type := 24, pos := "apply.go:78", after := #[], guard := none }) (v := ?vv1) rfl (by kernel_rfl) (by kernel_rfl) (by kernel_rfl) (fun _ _ _ h => h) (Or.inl ⟨by rfl, ?hy1⟩) hS0 ?rest1
  case hy1 =>
    intro V hV
    obtain ⟨y0, y1, y2, y3, y4, y5, y6, y7, y8, y9, y10, y11⟩ := hV
    go_simp
    all_goals rfl
  simp only [Act.put, List.setIfInBounds_toArray, List.set_cons_zero, List.set_cons_succ]
  refine wpAnyH_take (i := 1) (oi := { dst := some 13, op := Op.move (Operand.tmp 1), type := 86, pos := "apply.go:78", after := #[], guard := none }) (v := ?vv2) rfl (by kernel_rfl) (by kernel_rfl) (by kernel_rfl) (fun _ _ _ h => h) (Or.inl ⟨by rfl, ?hy2⟩) hS0 ?rest2
  case hy2 =>
    intro V hV
    obtain ⟨y0, y1, y2, y3, y4, y5, y6, y7, y8, y9, y10, y11⟩ := hV
    go_simp
    all_goals rfl
  simp only [Act.put, List.setIfInBounds_toArray, List.set_cons_zero, List.set_cons_succ]
  refine wpAnyH_take (i := 2) (oi := { dst := some 14, op := Op.nilCheck (Operand.tmp 13), type := 0, pos := "apply.go:78", after := #[{ on := 1, ground := Ground.data }], guard := none }) (v := ?vv3) rfl (by kernel_rfl) (by kernel_rfl) (by kernel_rfl) (fun _ _ _ h => h) (Or.inl ⟨by rfl, ?hy3⟩) hS0 ?rest3
  case hy3 =>
    intro V hV
    obtain ⟨y0, y1, y2, y3, y4, y5, y6, y7, y8, y9, y10, y11⟩ := hV
    go_simp
    all_goals rfl
  simp only [Act.put, List.setIfInBounds_toArray, List.set_cons_zero, List.set_cons_succ]
  refine wpAnyH_take (i := 3) (oi := { dst := some 15, op := Op.load 33 (Operand.tmp 14), type := 33, pos := "apply.go:78", after := #[{ on := 2, ground := Ground.data }], guard := none }) (v := ?vv4) rfl (by kernel_rfl) (by kernel_rfl) (by kernel_rfl) (fun _ _ _ h => h) (Or.inl ⟨by rfl, ?hy4⟩) hS0 ?rest4
  case hy4 =>
    intro V hV
    obtain ⟨y0, y1, y2, y3, y4, y5, y6, y7, y8, y9, y10, y11⟩ := hV
    go_simp
    all_goals rfl
  simp only [Act.put, List.setIfInBounds_toArray, List.set_cons_zero, List.set_cons_succ]
  refine wpAnyH_take (i := 4) (oi := { dst := some 16, op := Op.fieldAddr 51 (Operand.tmp 5) 1, type := 0, pos := "apply.go:78", after := #[], guard := none }) (v := ?vv5) rfl (by kernel_rfl) (by kernel_rfl) (by kernel_rfl) (fun _ _ _ h => h) (Or.inl ⟨by rfl, ?hy5⟩) hS0 ?rest5
  case hy5 =>
    intro V hV
    obtain ⟨y0, y1, y2, y3, y4, y5, y6, y7, y8, y9, y10, y11⟩ := hV
    go_simp
    all_goals rfl
  simp only [Act.put, List.setIfInBounds_toArray, List.set_cons_zero, List.set_cons_succ]
  refine wpAnyH_take (i := 5) (oi := { dst := some 17, op := Op.load 9 (Operand.tmp 16), type := 9, pos := "apply.go:78", after := #[{ on := 4, ground := Ground.data }], guard := none }) (v := ?vv6) rfl (by kernel_rfl) (by kernel_rfl) (by kernel_rfl) (fun _ _ _ h => h) (Or.inl ⟨by rfl, ?hy6⟩) hS0 ?rest6
  case hy6 =>
    intro V hV
    obtain ⟨y0, y1, y2, y3, y4, y5, y6, y7, y8, y9, y10, y11⟩ := hV
    go_simp
    all_goals rfl
  simp only [Act.put, List.setIfInBounds_toArray, List.set_cons_zero, List.set_cons_succ]
  refine wpAnyH_ready (rs := [6]) (by kernel_rfl) (by simp) (AllReadyH.cons (o := { dst := some 18, op := Op.call { callee := Callee.value (Operand.func 70), args := #[Operand.tmp 12, Operand.tmp 15, Operand.tmp 17], argTypes := #[24, 33, 9] }, type := 65, pos := "apply.go:78", after := #[{ on := 0, ground := Ground.data }, { on := 3, ground := Ground.data }, { on := 5, ground := Ground.data }], guard := none }) rfl (fun K' hK => ?_) AllReadyH.nil)
  refine step_call3 _ (by rfl) 70 _ _ _ _ _ _ (by rfl) (enters_of Tryd.func70 (by kernel_rfl) rfl) _ _ _ (by rfl) (by rfl) (by rfl) hC ?_
  rintro e w5 ⟨rfl, K5⟩
  refine ⟨_, rfl, ?_⟩
  refine hK.out _ _ (HS.out _ K5) (fun _ => ?_)
  clear hK K'
  try (simp only [Act.put, List.setIfInBounds_toArray, List.set_cons_zero, List.set_cons_succ])
  refine wpAnyH_take (i := 7) (oi := { dst := some 11, op := Op.move (Operand.tmp 18), type := 65, pos := "apply.go:78", after := #[{ on := 6, ground := Ground.data }], guard := none }) (v := ?vv7) rfl (by kernel_rfl) (by kernel_rfl) (by kernel_rfl) (fun _ _ _ h => h) (Or.inl ⟨by rfl, ?hy7⟩) (HS.out _ K5) ?rest7
  case hy7 =>
    intro V hV
    obtain ⟨y0, y1, y2, y3, y4, y5, y6, y7, y8, y9, y10, y11⟩ := hV
    go_simp
    all_goals rfl
  simp only [Act.put, List.setIfInBounds_toArray, List.set_cons_zero, List.set_cons_succ]
  refine wpAnyH_take (i := 8) (oi := { dst := some 19, op := Op.extract (Operand.tmp 11) 0, type := 3, pos := "apply.go:78", after := #[{ on := 7, ground := Ground.data }], guard := none }) (v := ?vv8) rfl (by kernel_rfl) (by kernel_rfl) (by kernel_rfl) (fun _ _ _ h => h) (Or.inl ⟨by rfl, ?hy8⟩) (HS.out _ K5) ?rest8
  case hy8 =>
    intro V hV
    obtain ⟨y0, y1, y2, y3, y4, y5, y6, y7, y8, y9, y10, y11⟩ := hV
    go_simp
    all_goals rfl
  simp only [Act.put, List.setIfInBounds_toArray, List.set_cons_zero, List.set_cons_succ]
  refine wpAnyH_take (i := 9) (oi := { dst := some 20, op := Op.extract (Operand.tmp 11) 1, type := 4, pos := "apply.go:78", after := #[{ on := 7, ground := Ground.data }, { on := 10, ground := Ground.gcOnly Departure.lateStores }], guard := none }) (v := ?vv9) rfl (by kernel_rfl) (by kernel_rfl) (by kernel_rfl) (fun _ _ _ h => h) (Or.inl ⟨by rfl, ?hy9⟩) (HS.out _ K5) ?rest9
  case hy9 =>
    intro V hV
    obtain ⟨y0, y1, y2, y3, y4, y5, y6, y7, y8, y9, y10, y11⟩ := hV
    go_simp
    all_goals rfl
  simp only [Act.put, List.setIfInBounds_toArray, List.set_cons_zero, List.set_cons_succ]
  refine wpAnyH_take (i := 10) (oi := { dst := some 7, op := Op.assign (Operand.tmp 19), type := 3, pos := "apply.go:78", after := #[{ on := 8, ground := Ground.data }, { on := 6, ground := Ground.chain }, { on := 0, ground := Ground.phase }, { on := 1, ground := Ground.phase }, { on := 2, ground := Ground.phase }, { on := 3, ground := Ground.phase }, { on := 4, ground := Ground.phase }, { on := 5, ground := Ground.phase }, { on := 6, ground := Ground.phase }, { on := 7, ground := Ground.phase }, { on := 8, ground := Ground.phase }, { on := 9, ground := Ground.textOnly Departure.lateStores }], guard := none }) (v := ?vv10) rfl (by kernel_rfl) (by kernel_rfl) (by kernel_rfl) (fun _ _ _ h => h) (Or.inl ⟨by rfl, ?hy10⟩) (HS.out _ K5) ?rest10
  case hy10 =>
    intro V hV
    obtain ⟨y0, y1, y2, y3, y4, y5, y6, y7, y8, y9, y10, y11⟩ := hV
    go_simp
    all_goals rfl
  simp only [Act.put, List.setIfInBounds_toArray, List.set_cons_zero, List.set_cons_succ]
  refine wpAnyH_take (i := 11) (oi := { dst := some 8, op := Op.assign (Operand.tmp 20), type := 4, pos := "apply.go:78", after := #[{ on := 9, ground := Ground.data }, { on := 10, ground := Ground.chain }, { on := 0, ground := Ground.phase }, { on := 1, ground := Ground.phase }, { on := 2, ground := Ground.phase }, { on := 3, ground := Ground.phase }, { on := 4, ground := Ground.phase }, { on := 5, ground := Ground.phase }, { on := 6, ground := Ground.phase }, { on := 7, ground := Ground.phase }, { on := 8, ground := Ground.phase }, { on := 9, ground := Ground.phase }, { on := 10, ground := Ground.phase }], guard := none }) (v := ?vv11) rfl (by kernel_rfl) (by kernel_rfl) (by kernel_rfl) (fun _ _ _ h => h) (Or.inl ⟨by rfl, ?hy11⟩) (HS.out _ K5) ?rest11
  case hy11 =>
    intro V hV
    obtain ⟨y0, y1, y2, y3, y4, y5, y6, y7, y8, y9, y10, y11⟩ := hV
    go_simp
    all_goals rfl
  simp only [Act.put, List.setIfInBounds_toArray, List.set_cons_zero, List.set_cons_succ]
  refine wpAnyH_done (by kernel_rfl) ?_ _
  exact HH.out _ _ _ _ _ _ _ _ _ _ w5 (HKD.out.and K5)

set_option maxRecDepth 100000 in
set_option maxHeartbeats 8000000 in
theorem cn4 {W : World} {sb so db eb b o n c g m c6 i : Nat} {ek nk ns : Int} {mv : Mv} {z8 : Bool} {ds : List Deferred} {u0 u2 u4 u6 u8 u9 u10 u11 u12 u13 u14 u15 u16 u17 u18 u19 u20 u21 u22 u23 u24 u25 u26 u27 u28 u29 u30 u31 u32 u33 u34 u35 u36 u37 u38 u39 u40 u41 u42 u43 u44 u45 u46 u47 u48 u49 u50 u51 u52 u53 u54 u55 u56 u57 u58 u59 u60 u61 u62 u63 u64 u65 u66 u67 u68 u69 u70 u71 u72 u73 u74 u75 u76 u77 u78 u79 u80 u81 u82 u83 u84 u85 u86 u87 u88 u89 u90 : Value} (K : Act → World → Prop)
    (x0 : W.cell? ⟨eb, 0, none⟩ = some (.int .i64 ek)) (x1 : W.cell? ⟨db, 1, none⟩ = some (.slice (some ⟨b, o, none⟩) n c)) (x2 : W.cell? ⟨b, o + i * 7 + 1, none⟩ = some (.int .i64 nk)) (x3 : W.cell? ⟨sb, so + 6, none⟩ = some (.slice (some ⟨g, 0, none⟩) m c6)) (x4 : W.cell? ⟨g, i * 3, none⟩ = some (.int .i64 ns)) (hi : i < n) (him : i < m) (hn : n ≤ 1000000)
    (hC : ∀ V, Kept (fun _ => False) W.drew V → Calls Tryd.prog 71 #[.int .i64 ek, .int .i64 nk, .int .i64 ns] V fun e w' => e = .returned (.tuple #[mvV mv, .bool z8]) ∧ Kept (fun _ => False) V w')
    (h : ∀ (v23 v24 v25 v26 v27 v28 v29 v30 v31 v32 v33 v34 v35 v36 v37 v38 v39 v40 v41 v42 : Value) (mb : Nat) (W' : World), W.heap.size ≤ mb → W'.heap[mb]? = some (.cells #[.int .i64 mv.event, .int .i64 mv.kind, .int .i64 mv.src, .int .i64 mv.dst, .bool mv.txt] 116 (0, 0)) → Kept (fun _ => False) W W' → K { tmps := #[u0, .pointer (some ⟨sb, so, none⟩), u2, .pointer (some ⟨db, 0, none⟩), u4, .pointer (some ⟨eb, 0, none⟩), u6, .int .i64 (i : Nat), .bool z8, .pointer (some ⟨mb, 0, none⟩), u10, u11, u12, u13, u14, u15, u16, u17, u18, u19, u20, u21, u22, v23, v24, v25, v26, v27, v28, v29, v30, v31, v32, v33, v34, v35, v36, v37, v38, v39, v40, v41, v42, u43, u44, u45, u46, u47, u48, u49, u50, u51, u52, u53, u54, u55, u56, u57, u58, u59, u60, u61, u62, u63, u64, u65, u66, u67, u68, u69, u70, u71, u72, u73, u74, u75, u76, u77, u78, u79, u80, u81, u82, u83, u84, u85, u86, u87, u88, u89, u90], defers := ds } W') :
    (Code.region 4 #[{ dst := some 24, op := Op.fieldAddr 51 (Operand.tmp 5) 0, type := 0, pos := "apply.go:82", after := #[], guard := none }, { dst := some 25, op := Op.load 3 (Operand.tmp 24), type := 3, pos := "apply.go:82", after := #[{ on := 0, ground := Ground.data }], guard := none }, { dst := some 26, op := Op.fieldAddr 24 (Operand.tmp 3) 1, type := 0, pos := "apply.go:82", after := #[], guard := none }, { dst := some 27, op := Op.load 22 (Operand.tmp 26), type := 22, pos := "apply.go:82", after := #[{ on := 2, ground := Ground.data }], guard := none }, { dst := some 28, op := Op.move (Operand.tmp 7), type := 3, pos := "apply.go:82", after := #[], guard := none }, { dst := some 29, op := Op.indexAddr 22 (Operand.tmp 27) (Operand.tmp 28), type := 0, pos := "apply.go:82", after := #[{ on := 3, ground := Ground.data }, { on := 4, ground := Ground.data }], guard := none }, { dst := some 30, op := Op.fieldAddr 64 (Operand.tmp 29) 1, type := 0, pos := "apply.go:82", after := #[{ on := 5, ground := Ground.data }], guard := none }, { dst := some 31, op := Op.load 3 (Operand.tmp 30), type := 3, pos := "apply.go:82", after := #[{ on := 6, ground := Ground.data }], guard := none }, { dst := some 32, op := Op.move (Operand.tmp 1), type := 86, pos := "apply.go:82", after := #[], guard := none }, { dst := some 33, op := Op.nilCheck (Operand.tmp 32), type := 0, pos := "apply.go:82", after := #[{ on := 8, ground := Ground.data }], guard := none }, { dst := some 34, op := Op.fieldAddr 33 (Operand.tmp 33) 6, type := 0, pos := "apply.go:82", after := #[{ on := 9, ground := Ground.data }], guard := none }, { dst := some 35, op := Op.load 30 (Operand.tmp 34), type := 30, pos := "apply.go:82", after := #[{ on := 10, ground := Ground.data }], guard := none }, { dst := some 36, op := Op.move (Operand.tmp 7), type := 3, pos := "apply.go:82", after := #[], guard := none }, { dst := some 37, op := Op.indexAddr 30 (Operand.tmp 35) (Operand.tmp 36), type := 0, pos := "apply.go:82", after := #[{ on := 11, ground := Ground.data }, { on := 12, ground := Ground.data }], guard := none }, { dst := some 38, op := Op.fieldAddr 61 (Operand.tmp 37) 0, type := 0, pos := "apply.go:82", after := #[{ on := 13, ground := Ground.data }], guard := none }, { dst := some 39, op := Op.load 3 (Operand.tmp 38), type := 3, pos := "apply.go:82", after := #[{ on := 14, ground := Ground.data }], guard := none }, { dst := some 40, op := Op.call { callee := Callee.value (Operand.func 71), args := #[Operand.tmp 25, Operand.tmp 31, Operand.tmp 39], argTypes := #[3, 3, 3] }, type := 117, pos := "apply.go:82", after := #[{ on := 1, ground := Ground.data }, { on := 7, ground := Ground.data }, { on := 15, ground := Ground.data }], guard := none }, { dst := some 23, op := Op.move (Operand.tmp 40), type := 117, pos := "apply.go:82", after := #[{ on := 16, ground := Ground.data }], guard := none }, { dst := some 41, op := Op.extract (Operand.tmp 23) 0, type := 116, pos := "apply.go:82", after := #[{ on := 17, ground := Ground.data }], guard := none }, { dst := some 42, op := Op.extract (Operand.tmp 23) 1, type := 4, pos := "apply.go:82", after := #[{ on := 17, ground := Ground.data }, { on := 21, ground := Ground.gcOnly Departure.lateStores }], guard := none }, { dst := some 9, op := Op.alloc 116, type := 0, pos := "apply.go:82", after := #[], guard := none }, { dst := none, op := Op.store 116 (Operand.tmp 9) (Operand.tmp 41), type := 0, pos := "apply.go:82", after := #[{ on := 20, ground := Ground.data }, { on := 18, ground := Ground.data }, { on := 16, ground := Ground.chain }, { on := 0, ground := Ground.phase }, { on := 1, ground := Ground.phase }, { on := 2, ground := Ground.phase }, { on := 3, ground := Ground.phase }, { on := 4, ground := Ground.phase }, { on := 5, ground := Ground.phase }, { on := 6, ground := Ground.phase }, { on := 7, ground := Ground.phase }, { on := 8, ground := Ground.phase }, { on := 9, ground := Ground.phase }, { on := 10, ground := Ground.phase }, { on := 11, ground := Ground.phase }, { on := 12, ground := Ground.phase }, { on := 13, ground := Ground.phase }, { on := 14, ground := Ground.phase }, { on := 15, ground := Ground.phase }, { on := 16, ground := Ground.phase }, { on := 17, ground := Ground.phase }, { on := 18, ground := Ground.phase }, { on := 19, ground := Ground.textOnly Departure.lateStores }, { on := 20, ground := Ground.phase }], guard := none }, { dst := some 8, op := Op.assign (Operand.tmp 42), type := 4, pos := "apply.go:82", after := #[{ on := 19, ground := Ground.data }, { on := 21, ground := Ground.chain }, { on := 0, ground := Ground.phase }, { on := 1, ground := Ground.phase }, { on := 2, ground := Ground.phase }, { on := 3, ground := Ground.phase }, { on := 4, ground := Ground.phase }, { on := 5, ground := Ground.phase }, { on := 6, ground := Ground.phase }, { on := 7, ground := Ground.phase }, { on := 8, ground := Ground.phase }, { on := 9, ground := Ground.phase }, { on := 10, ground := Ground.phase }, { on := 11, ground := Ground.phase }, { on := 12, ground := Ground.phase }, { on := 13, ground := Ground.phase }, { on := 14, ground := Ground.phase }, { on := 15, ground := Ground.phase }, { on := 16, ground := Ground.phase }, { on := 17, ground := Ground.phase }, { on := 18, ground := Ground.phase }, { on := 19, ground := Ground.phase }, { on := 20, ground := Ground.phase }, { on := 21, ground := Ground.phase }], guard := none }] true).wp Tryd.prog (onlyN K) { tmps := #[u0, .pointer (some ⟨sb, so, none⟩), u2, .pointer (some ⟨db, 0, none⟩), u4, .pointer (some ⟨eb, 0, none⟩), u6, .int .i64 (i : Nat), u8, u9, u10, u11, u12, u13, u14, u15, u16, u17, u18, u19, u20, u21, u22, u23, u24, u25, u26, u27, u28, u29, u30, u31, u32, u33, u34, u35, u36, u37, u38, u39, u40, u41, u42, u43, u44, u45, u46, u47, u48, u49, u50, u51, u52, u53, u54, u55, u56, u57, u58, u59, u60, u61, u62, u63, u64, u65, u66, u67, u68, u69, u70, u71, u72, u73, u74, u75, u76, u77, u78, u79, u80, u81, u82, u83, u84, u85, u86, u87, u88, u89, u90], defers := ds } W := by
  have HH : Hid _ := h
  have KD := Kept.drew (fun _ => False) W
  have HS : Hid (∀ V, Kept (fun _ => False) W.drew V → V.cell? ⟨eb, 0, none⟩ = some (.int .i64 ek) ∧ V.cell? ⟨db, 1, none⟩ = some (.slice (some ⟨b, o, none⟩) n c) ∧ V.cell? ⟨b, o + i * 7 + 1, none⟩ = some (.int .i64 nk) ∧ V.cell? ⟨sb, so + 6, none⟩ = some (.slice (some ⟨g, 0, none⟩) m c6) ∧ V.cell? ⟨g, i * 3, none⟩ = some (.int .i64 ns)) := fun V KV => ⟨keepC (KD.and KV) x0 (fun _ _ h => h), keepC (KD.and KV) x1 (fun _ _ h => h), keepC (KD.and KV) x2 (fun _ _ h => h), keepC (KD.and KV) x3 (fun _ _ h => h), keepC (KD.and KV) x4 (fun _ _ h => h)⟩
  have HKD : Hid (Kept (fun _ => False) W W.drew) := KD
  have hS0 := HS.out W.drew (Kept.refl _ _)
  have e1 : (i : Int) < (n : Int) := by omega
  have e2 : (i : Int) < (m : Int) := by omega
  have w1 : IntKind.i64.wrap (i : Int) = (i : Int) := by rw [IntKind.wrap_i64]; omega
  unfold mvV at hC
  clear h KD x0 x1 x2 x3 x4
  refine wp_region_held_drew (S := fun V => V.cell? ⟨eb, 0, none⟩ = some (.int .i64 ek) ∧ V.cell? ⟨db, 1, none⟩ = some (.slice (some ⟨b, o, none⟩) n c) ∧ V.cell? ⟨b, o + i * 7 + 1, none⟩ = some (.int .i64 nk) ∧ V.cell? ⟨sb, so + 6, none⟩ = some (.slice (some ⟨g, 0, none⟩) m c6) ∧ V.cell? ⟨g, i * 3, none⟩ = some (.int .i64 ns)) (by kernel_rfl) hS0 (fun _ => ?_)
  generalize W.drew = V0 at *
  refine wpAnyH_take (i := 0) (oi := { dst := some 24, op := Op.fieldAddr 51 (Operand.tmp 5) 0, type := 0, pos := "apply.go:82", after := #[], guard := none }) (v := ?vv1) rfl (by kernel_rfl) (by kernel_rfl) (by kernel_rfl) (fun _ _ _ h => h) (Or.inl ⟨by rfl, ?hy1⟩) hS0 ?rest1
  case hy1 =>
    intro V hV
    obtain ⟨y0, y1, y2, y3, y4⟩ := hV
    go_simp
    all_goals rfl
  simp only [Act.put, List.setIfInBounds_toArray, List.set_cons_zero, List.set_cons_succ]
  refine wpAnyH_take (i := 1) (oi := { dst := some 25, op := Op.load 3 (Operand.tmp 24), type := 3, pos := "apply.go:82", after := #[{ on := 0, ground := Ground.data }], guard := none }) (v := ?vv2) rfl (by kernel_rfl) (by kernel_rfl) (by kernel_rfl) (fun _ _ _ h => h) (Or.inl ⟨by rfl, ?hy2⟩) hS0 ?rest2
  case hy2 =>
    intro V hV
    obtain ⟨y0, y1, y2, y3, y4⟩ := hV
    go_simp
    all_goals rfl
  simp only [Act.put, List.setIfInBounds_toArray, List.set_cons_zero, List.set_cons_succ]
  refine wpAnyH_take (i := 2) (oi := { dst := some 26, op := Op.fieldAddr 24 (Operand.tmp 3) 1, type := 0, pos := "apply.go:82", after := #[], guard := none }) (v := ?vv3) rfl (by kernel_rfl) (by kernel_rfl) (by kernel_rfl) (fun _ _ _ h => h) (Or.inl ⟨by rfl, ?hy3⟩) hS0 ?rest3
  case hy3 =>
    intro V hV
    obtain ⟨y0, y1, y2, y3, y4⟩ := hV
    go_simp
    all_goals rfl
  simp only [Act.put, List.setIfInBounds_toArray, List.set_cons_zero, List.set_cons_succ]
  refine wpAnyH_take (i := 3) (oi := { dst := some 27, op := Op.load 22 (Operand.tmp 26), type := 22, pos := "apply.go:82", after := #[{ on := 2, ground := Ground.data }], guard := none }) (v := ?vv4) rfl (by kernel_rfl) (by kernel_rfl) (by kernel_rfl) (fun _ _ _ h => h) (Or.inl ⟨by rfl, ?hy4⟩) hS0 ?rest4
  case hy4 =>
    intro V hV
    obtain ⟨y0, y1, y2, y3, y4⟩ := hV
    go_simp
    all_goals rfl
  simp only [Act.put, List.setIfInBounds_toArray, List.set_cons_zero, List.set_cons_succ]
  refine wpAnyH_take (i := 4) (oi := { dst := some 28, op := Op.move (Operand.tmp 7), type := 3, pos := "apply.go:82", after := #[], guard := none }) (v := ?vv5) rfl (by kernel_rfl) (by kernel_rfl) (by kernel_rfl) (fun _ _ _ h => h) (Or.inl ⟨by rfl, ?hy5⟩) hS0 ?rest5
  case hy5 =>
    intro V hV
    obtain ⟨y0, y1, y2, y3, y4⟩ := hV
    go_simp
    all_goals rfl
  simp only [Act.put, List.setIfInBounds_toArray, List.set_cons_zero, List.set_cons_succ]
  refine wpAnyH_take (i := 5) (oi := { dst := some 29, op := Op.indexAddr 22 (Operand.tmp 27) (Operand.tmp 28), type := 0, pos := "apply.go:82", after := #[{ on := 3, ground := Ground.data }, { on := 4, ground := Ground.data }], guard := none }) (v := ?vv6) rfl (by kernel_rfl) (by kernel_rfl) (by kernel_rfl) (fun _ _ _ h => h) (Or.inl ⟨by rfl, ?hy6⟩) hS0 ?rest6
  case hy6 =>
    intro V hV
    obtain ⟨y0, y1, y2, y3, y4⟩ := hV
    go_simp
    all_goals rfl
  simp only [Act.put, List.setIfInBounds_toArray, List.set_cons_zero, List.set_cons_succ]
  refine wpAnyH_take (i := 6) (oi := { dst := some 30, op := Op.fieldAddr 64 (Operand.tmp 29) 1, type := 0, pos := "apply.go:82", after := #[{ on := 5, ground := Ground.data }], guard := none }) (v := ?vv7) rfl (by kernel_rfl) (by kernel_rfl) (by kernel_rfl) (fun _ _ _ h => h) (Or.inl ⟨by rfl, ?hy7⟩) hS0 ?rest7
  case hy7 =>
    intro V hV
    obtain ⟨y0, y1, y2, y3, y4⟩ := hV
    go_simp
    all_goals rfl
  simp only [Act.put, List.setIfInBounds_toArray, List.set_cons_zero, List.set_cons_succ]
  refine wpAnyH_take (i := 7) (oi := { dst := some 31, op := Op.load 3 (Operand.tmp 30), type := 3, pos := "apply.go:82", after := #[{ on := 6, ground := Ground.data }], guard := none }) (v := ?vv8) rfl (by kernel_rfl) (by kernel_rfl) (by kernel_rfl) (fun _ _ _ h => h) (Or.inl ⟨by rfl, ?hy8⟩) hS0 ?rest8
  case hy8 =>
    intro V hV
    obtain ⟨y0, y1, y2, y3, y4⟩ := hV
    go_simp
    all_goals rfl
  simp only [Act.put, List.setIfInBounds_toArray, List.set_cons_zero, List.set_cons_succ]
  refine wpAnyH_take (i := 8) (oi := { dst := some 32, op := Op.move (Operand.tmp 1), type := 86, pos := "apply.go:82", after := #[], guard := none }) (v := ?vv9) rfl (by kernel_rfl) (by kernel_rfl) (by kernel_rfl) (fun _ _ _ h => h) (Or.inl ⟨by rfl, ?hy9⟩) hS0 ?rest9
  case hy9 =>
    intro V hV
    obtain ⟨y0, y1, y2, y3, y4⟩ := hV
    go_simp
    all_goals rfl
  simp only [Act.put, List.setIfInBounds_toArray, List.set_cons_zero, List.set_cons_succ]
  refine wpAnyH_take (i := 9) (oi := { dst := some 33, op := Op.nilCheck (Operand.tmp 32), type := 0, pos := "apply.go:82", after := #[{ on := 8, ground := Ground.data }], guard := none }) (v := ?vv10) rfl (by kernel_rfl) (by kernel_rfl) (by kernel_rfl) (fun _ _ _ h => h) (Or.inl ⟨by rfl, ?hy10⟩) hS0 ?rest10
  case hy10 =>
    intro V hV
    obtain ⟨y0, y1, y2, y3, y4⟩ := hV
    go_simp
    all_goals rfl
  simp only [Act.put, List.setIfInBounds_toArray, List.set_cons_zero, List.set_cons_succ]
  refine wpAnyH_take (i := 10) (oi := { dst := some 34, op := Op.fieldAddr 33 (Operand.tmp 33) 6, type := 0, pos := "apply.go:82", after := #[{ on := 9, ground := Ground.data }], guard := none }) (v := ?vv11) rfl (by kernel_rfl) (by kernel_rfl) (by kernel_rfl) (fun _ _ _ h => h) (Or.inl ⟨by rfl, ?hy11⟩) hS0 ?rest11
  case hy11 =>
    intro V hV
    obtain ⟨y0, y1, y2, y3, y4⟩ := hV
    go_simp
    all_goals rfl
  simp only [Act.put, List.setIfInBounds_toArray, List.set_cons_zero, List.set_cons_succ]
  refine wpAnyH_take (i := 11) (oi := { dst := some 35, op := Op.load 30 (Operand.tmp 34), type := 30, pos := "apply.go:82", after := #[{ on := 10, ground := Ground.data }], guard := none }) (v := ?vv12) rfl (by kernel_rfl) (by kernel_rfl) (by kernel_rfl) (fun _ _ _ h => h) (Or.inl ⟨by rfl, ?hy12⟩) hS0 ?rest12
  case hy12 =>
    intro V hV
    obtain ⟨y0, y1, y2, y3, y4⟩ := hV
    go_simp
    all_goals rfl
  simp only [Act.put, List.setIfInBounds_toArray, List.set_cons_zero, List.set_cons_succ]
  refine wpAnyH_take (i := 12) (oi := { dst := some 36, op := Op.move (Operand.tmp 7), type := 3, pos := "apply.go:82", after := #[], guard := none }) (v := ?vv13) rfl (by kernel_rfl) (by kernel_rfl) (by kernel_rfl) (fun _ _ _ h => h) (Or.inl ⟨by rfl, ?hy13⟩) hS0 ?rest13
  case hy13 =>
    intro V hV
    obtain ⟨y0, y1, y2, y3, y4⟩ := hV
    go_simp
    all_goals rfl
  simp only [Act.put, List.setIfInBounds_toArray, List.set_cons_zero, List.set_cons_succ]
  refine wpAnyH_take (i := 13) (oi := { dst := some 37, op := Op.indexAddr 30 (Operand.tmp 35) (Operand.tmp 36), type := 0, pos := "apply.go:82", after := #[{ on := 11, ground := Ground.data }, { on := 12, ground := Ground.data }], guard := none }) (v := ?vv14) rfl (by kernel_rfl) (by kernel_rfl) (by kernel_rfl) (fun _ _ _ h => h) (Or.inl ⟨by rfl, ?hy14⟩) hS0 ?rest14
  case hy14 =>
    intro V hV
    obtain ⟨y0, y1, y2, y3, y4⟩ := hV
    go_simp
    all_goals rfl
  simp only [Act.put, List.setIfInBounds_toArray, List.set_cons_zero, List.set_cons_succ]
  refine wpAnyH_take (i := 14) (oi := { dst := some 38, op := Op.fieldAddr 61 (Operand.tmp 37) 0, type := 0, pos := "apply.go:82", after := #[{ on := 13, ground := Ground.data }], guard := none }) (v := ?vv15) rfl (by kernel_rfl) (by kernel_rfl) (by kernel_rfl) (fun _ _ _ h => h) (Or.inl ⟨by rfl, ?hy15⟩) hS0 ?rest15
  case hy15 =>
    intro V hV
    obtain ⟨y0, y1, y2, y3, y4⟩ := hV
    go_simp
    all_goals rfl
  simp only [Act.put, List.setIfInBounds_toArray, List.set_cons_zero, List.set_cons_succ]
  refine wpAnyH_take (i := 15) (oi := { dst := some 39, op := Op.load 3 (Operand.tmp 38), type := 3, pos := "apply.go:82", after := #[{ on := 14, ground := Ground.data }], guard := none }) (v := ?vv16) rfl (by kernel_rfl) (by kernel_rfl) (by kernel_rfl) (fun _ _ _ h => h) (Or.inl ⟨by rfl, ?hy16⟩) hS0 ?rest16
  case hy16 =>
    intro V hV
    obtain ⟨y0, y1, y2, y3, y4⟩ := hV
    go_simp
    all_goals rfl
  simp only [Act.put, List.setIfInBounds_toArray, List.set_cons_zero, List.set_cons_succ]
  refine wpAnyH_ready (rs := [16, 20]) (by kernel_rfl) (by simp) (AllReadyH.cons (o := { dst := some 40, op := Op.call { callee := Callee.value (Operand.func 71), args := #[Operand.tmp 25, Operand.tmp 31, Operand.tmp 39], argTypes := #[3, 3, 3] }, type := 117, pos := "apply.go:82", after := #[{ on := 1, ground := Ground.data }, { on := 7, ground := Ground.data }, { on := 15, ground := Ground.data }], guard := none }) rfl (fun K' hK => ?_) (AllReadyH.cons (o := { dst := some 9, op := Op.alloc 116, type := 0, pos := "apply.go:82", after := #[], guard := none }) rfl (fun K' hK => ?_) AllReadyH.nil))
  · refine step_call3 _ (by rfl) 71 _ _ _ _ _ _ (by rfl) (enters_of Tryd.func71 (by kernel_rfl) rfl) _ _ _ (by rfl) (by rfl) (by rfl) (hC _ (Kept.refl (fun _ => False) V0)) ?_
    rintro e w5 ⟨rfl, K5⟩
    have K6 := ((Kept.refl (fun _ => False) V0)).and K5
    refine ⟨_, rfl, ?_⟩
    refine hK.out _ _ (HS.out _ K6) (fun _ => ?_)
    clear K5
    clear hK K'
    try (simp only [Act.put, List.setIfInBounds_toArray, List.set_cons_zero, List.set_cons_succ])
    refine wpAnyH_take (i := 17) (oi := { dst := some 23, op := Op.move (Operand.tmp 40), type := 117, pos := "apply.go:82", after := #[{ on := 16, ground := Ground.data }], guard := none }) (v := ?vv17) rfl (by kernel_rfl) (by kernel_rfl) (by kernel_rfl) (fun _ _ _ h => h) (Or.inl ⟨by rfl, ?hy17⟩) (HS.out _ K6) ?rest17
    case hy17 =>
      intro V hV
      obtain ⟨y0, y1, y2, y3, y4⟩ := hV
      go_simp
      all_goals rfl
    simp only [Act.put, List.setIfInBounds_toArray, List.set_cons_zero, List.set_cons_succ]
    refine wpAnyH_take (i := 18) (oi := { dst := some 41, op := Op.extract (Operand.tmp 23) 0, type := 116, pos := "apply.go:82", after := #[{ on := 17, ground := Ground.data }], guard := none }) (v := ?vv18) rfl (by kernel_rfl) (by kernel_rfl) (by kernel_rfl) (fun _ _ _ h => h) (Or.inl ⟨by rfl, ?hy18⟩) (HS.out _ K6) ?rest18
    case hy18 =>
      intro V hV
      obtain ⟨y0, y1, y2, y3, y4⟩ := hV
      go_simp
      all_goals rfl
    simp only [Act.put, List.setIfInBounds_toArray, List.set_cons_zero, List.set_cons_succ]
    refine wpAnyH_take (i := 19) (oi := { dst := some 42, op := Op.extract (Operand.tmp 23) 1, type := 4, pos := "apply.go:82", after := #[{ on := 17, ground := Ground.data }, { on := 21, ground := Ground.gcOnly Departure.lateStores }], guard := none }) (v := ?vv19) rfl (by kernel_rfl) (by kernel_rfl) (by kernel_rfl) (fun _ _ _ h => h) (Or.inl ⟨by rfl, ?hy19⟩) (HS.out _ K6) ?rest19
    case hy19 =>
      intro V hV
      obtain ⟨y0, y1, y2, y3, y4⟩ := hV
      go_simp
      all_goals rfl
    simp only [Act.put, List.setIfInBounds_toArray, List.set_cons_zero, List.set_cons_succ]
    refine wpAnyH_ready (rs := [20]) (by kernel_rfl) (by simp) (AllReadyH.cons (o := { dst := some 9, op := Op.alloc 116, type := 0, pos := "apply.go:82", after := #[], guard := none }) rfl (fun K' hK => ?_) AllReadyH.nil)
    have hmb : ((w5).alloc (.cells #[.int .i64 0, .int .i64 0, .int .i64 0, .int .i64 0, .bool false] 116)).heap[(w5).heap.size]? = some (.cells #[.int .i64 0, .int .i64 0, .int .i64 0, .int .i64 0, .bool false] 116 (0, 0)) := heap_alloc_new _ _
    have hz : V0.heap.size ≤ (w5).heap.size := (K6).size
    have KA : Kept (fun _ => False) V0 ((w5).alloc (.cells #[.int .i64 0, .int .i64 0, .int .i64 0, .int .i64 0, .bool false] 116)) := (K6).and (Kept.alloc _ _ _)
    go_simp
    refine hK.out _ _ (HS.out _ KA) (fun _ => ?_)
    generalize (w5).alloc (.cells #[.int .i64 0, .int .i64 0, .int .i64 0, .int .i64 0, .bool false] 116) = V6 at *
    obtain ⟨mb, hmbe⟩ : ∃ mb, mb = (w5).heap.size := ⟨_, rfl⟩
    rw [← hmbe] at hmb ⊢
    have hz2 : V0.heap.size ≤ mb := by rw [hmbe]; exact hz
    clear hz
    have hz := hz2
    clear hz2
    clear hmbe
    clear hK K'
    try (simp only [Act.put, List.setIfInBounds_toArray, List.set_cons_zero, List.set_cons_succ])
    refine wpAnyH_ready (rs := [21]) (by kernel_rfl) (by simp) (AllReadyH.cons (o := { dst := none, op := Op.store 116 (Operand.tmp 9) (Operand.tmp 41), type := 0, pos := "apply.go:82", after := #[{ on := 20, ground := Ground.data }, { on := 18, ground := Ground.data }, { on := 16, ground := Ground.chain }, { on := 0, ground := Ground.phase }, { on := 1, ground := Ground.phase }, { on := 2, ground := Ground.phase }, { on := 3, ground := Ground.phase }, { on := 4, ground := Ground.phase }, { on := 5, ground := Ground.phase }, { on := 6, ground := Ground.phase }, { on := 7, ground := Ground.phase }, { on := 8, ground := Ground.phase }, { on := 9, ground := Ground.phase }, { on := 10, ground := Ground.phase }, { on := 11, ground := Ground.phase }, { on := 12, ground := Ground.phase }, { on := 13, ground := Ground.phase }, { on := 14, ground := Ground.phase }, { on := 15, ground := Ground.phase }, { on := 16, ground := Ground.phase }, { on := 17, ground := Ground.phase }, { on := 18, ground := Ground.phase }, { on := 19, ground := Ground.textOnly Departure.lateStores }, { on := 20, ground := Ground.phase }], guard := none }) rfl (fun K' hK => ?_) AllReadyH.nil)
    obtain ⟨⟨p0, p1, p2, p3, p4⟩, f0, f1, f2, f3, f4⟩ := five hmb
    have HM : Hid _ := put5 hmb (.int .i64 mv.event) (.int .i64 mv.kind) (.int .i64 mv.src) (.int .i64 mv.dst) (.bool mv.txt)
    have KS := kept5 (S := fun j => j = mb) V6 rfl (.int .i64 mv.event) (.int .i64 mv.kind) (.int .i64 mv.src) (.int .i64 mv.dst) (.bool mv.txt)
    have KF := (KA).trans KS (fun j h => .inr (by subst h; exact hz))
    go_simp
    refine hK.out _ _ (HS.out _ KF) (fun _ => ?_)
    have HKF : Hid _ := HKD.out.and KF
    clear p0 p1 p2 p3 p4 f0 f1 f2 f3 f4 KS
    clear hK K'
    try (simp only [Act.put, List.setIfInBounds_toArray, List.set_cons_zero, List.set_cons_succ])
    refine wpAnyH_take (i := 22) (oi := { dst := some 8, op := Op.assign (Operand.tmp 42), type := 4, pos := "apply.go:82", after := #[{ on := 19, ground := Ground.data }, { on := 21, ground := Ground.chain }, { on := 0, ground := Ground.phase }, { on := 1, ground := Ground.phase }, { on := 2, ground := Ground.phase }, { on := 3, ground := Ground.phase }, { on := 4, ground := Ground.phase }, { on := 5, ground := Ground.phase }, { on := 6, ground := Ground.phase }, { on := 7, ground := Ground.phase }, { on := 8, ground := Ground.phase }, { on := 9, ground := Ground.phase }, { on := 10, ground := Ground.phase }, { on := 11, ground := Ground.phase }, { on := 12, ground := Ground.phase }, { on := 13, ground := Ground.phase }, { on := 14, ground := Ground.phase }, { on := 15, ground := Ground.phase }, { on := 16, ground := Ground.phase }, { on := 17, ground := Ground.phase }, { on := 18, ground := Ground.phase }, { on := 19, ground := Ground.phase }, { on := 20, ground := Ground.phase }, { on := 21, ground := Ground.phase }], guard := none }) (v := ?vv20) rfl (by kernel_rfl) (by kernel_rfl) (by kernel_rfl) (fun _ _ _ h => h) (Or.inl ⟨by rfl, ?hy20⟩) (HS.out _ KF) ?rest20
    case hy20 =>
      intro V hV
      obtain ⟨y0, y1, y2, y3, y4⟩ := hV
      go_simp
      all_goals rfl
    simp only [Act.put, List.setIfInBounds_toArray, List.set_cons_zero, List.set_cons_succ]
    refine wpAnyH_done (by kernel_rfl) ?_ _
    exact HH.out _ _ _ _ _ _ _ _ _ _ _ _ _ _ _ _ _ _ _ _ mb _ (Nat.le_trans HKD.out.size hz) HM.out HKF.out
  · have hmb : ((V0).alloc (.cells #[.int .i64 0, .int .i64 0, .int .i64 0, .int .i64 0, .bool false] 116)).heap[(V0).heap.size]? = some (.cells #[.int .i64 0, .int .i64 0, .int .i64 0, .int .i64 0, .bool false] 116 (0, 0)) := heap_alloc_new _ _
    have hz : V0.heap.size ≤ (V0).heap.size := ((Kept.refl (fun _ => False) V0)).size
    have KA : Kept (fun _ => False) V0 ((V0).alloc (.cells #[.int .i64 0, .int .i64 0, .int .i64 0, .int .i64 0, .bool false] 116)) := ((Kept.refl (fun _ => False) V0)).and (Kept.alloc _ _ _)
    go_simp
    refine hK.out _ _ (HS.out _ KA) (fun _ => ?_)
    generalize (V0).alloc (.cells #[.int .i64 0, .int .i64 0, .int .i64 0, .int .i64 0, .bool false] 116) = V6 at *
    obtain ⟨mb, hmbe⟩ : ∃ mb, mb = (V0).heap.size := ⟨_, rfl⟩
    rw [← hmbe] at hmb ⊢
    have hz2 : V0.heap.size ≤ mb := by rw [hmbe]; exact hz
    clear hz
    have hz := hz2
    clear hz2
    clear hmbe
    clear hK K'
    try (simp only [Act.put, List.setIfInBounds_toArray, List.set_cons_zero, List.set_cons_succ])
    refine wpAnyH_ready (rs := [16]) (by kernel_rfl) (by simp) (AllReadyH.cons (o := { dst := some 40, op := Op.call { callee := Callee.value (Operand.func 71), args := #[Operand.tmp 25, Operand.tmp 31, Operand.tmp 39], argTypes := #[3, 3, 3] }, type := 117, pos := "apply.go:82", after := #[{ on := 1, ground := Ground.data }, { on := 7, ground := Ground.data }, { on := 15, ground := Ground.data }], guard := none }) rfl (fun K' hK => ?_) AllReadyH.nil)
    refine step_call3 _ (by rfl) 71 _ _ _ _ _ _ (by rfl) (enters_of Tryd.func71 (by kernel_rfl) rfl) _ _ _ (by rfl) (by rfl) (by rfl) (hC _ KA) ?_
    rintro e w5 ⟨rfl, K5⟩
    have K6 := (KA).and K5
    have hmb2 : w5.heap[mb]? = some (.cells #[.int .i64 0, .int .i64 0, .int .i64 0, .int .i64 0, .bool false] 116 (0, 0)) := (K5.block _ (Array.getElem?_eq_some_iff.1 hmb).1 (fun h => h)).trans hmb
    clear hmb
    have hmb := hmb2
    clear hmb2
    refine ⟨_, rfl, ?_⟩
    refine hK.out _ _ (HS.out _ K6) (fun _ => ?_)
    clear K5
    clear hK K'
    try (simp only [Act.put, List.setIfInBounds_toArray, List.set_cons_zero, List.set_cons_succ])
    refine wpAnyH_take (i := 17) (oi := { dst := some 23, op := Op.move (Operand.tmp 40), type := 117, pos := "apply.go:82", after := #[{ on := 16, ground := Ground.data }], guard := none }) (v := ?vv21) rfl (by kernel_rfl) (by kernel_rfl) (by kernel_rfl) (fun _ _ _ h => h) (Or.inl ⟨by rfl, ?hy21⟩) (HS.out _ K6) ?rest21
    case hy21 =>
      intro V hV
      obtain ⟨y0, y1, y2, y3, y4⟩ := hV
      go_simp
      all_goals rfl
    simp only [Act.put, List.setIfInBounds_toArray, List.set_cons_zero, List.set_cons_succ]
    refine wpAnyH_take (i := 18) (oi := { dst := some 41, op := Op.extract (Operand.tmp 23) 0, type := 116, pos := "apply.go:82", after := #[{ on := 17, ground := Ground.data }], guard := none }) (v := ?vv22) rfl (by kernel_rfl) (by kernel_rfl) (by kernel_rfl) (fun _ _ _ h => h) (Or.inl ⟨by rfl, ?hy22⟩) (HS.out _ K6) ?rest22
    case hy22 =>
      intro V hV
      obtain ⟨y0, y1, y2, y3, y4⟩ := hV
      go_simp
      all_goals rfl
    simp only [Act.put, List.setIfInBounds_toArray, List.set_cons_zero, List.set_cons_succ]
    refine wpAnyH_take (i := 19) (oi := { dst := some 42, op := Op.extract (Operand.tmp 23) 1, type := 4, pos := "apply.go:82", after := #[{ on := 17, ground := Ground.data }, { on := 21, ground := Ground.gcOnly Departure.lateStores }], guard := none }) (v := ?vv23) rfl (by kernel_rfl) (by kernel_rfl) (by kernel_rfl) (fun _ _ _ h => h) (Or.inl ⟨by rfl, ?hy23⟩) (HS.out _ K6) ?rest23
    case hy23 =>
      intro V hV
      obtain ⟨y0, y1, y2, y3, y4⟩ := hV
      go_simp
      all_goals rfl
    simp only [Act.put, List.setIfInBounds_toArray, List.set_cons_zero, List.set_cons_succ]
    refine wpAnyH_ready (rs := [21]) (by kernel_rfl) (by simp) (AllReadyH.cons (o := { dst := none, op := Op.store 116 (Operand.tmp 9) (Operand.tmp 41), type := 0, pos := "apply.go:82", after := #[{ on := 20, ground := Ground.data }, { on := 18, ground := Ground.data }, { on := 16, ground := Ground.chain }, { on := 0, ground := Ground.phase }, { on := 1, ground := Ground.phase }, { on := 2, ground := Ground.phase }, { on := 3, ground := Ground.phase }, { on := 4, ground := Ground.phase }, { on := 5, ground := Ground.phase }, { on := 6, ground := Ground.phase }, { on := 7, ground := Ground.phase }, { on := 8, ground := Ground.phase }, { on := 9, ground := Ground.phase }, { on := 10, ground := Ground.phase }, { on := 11, ground := Ground.phase }, { on := 12, ground := Ground.phase }, { on := 13, ground := Ground.phase }, { on := 14, ground := Ground.phase }, { on := 15, ground := Ground.phase }, { on := 16, ground := Ground.phase }, { on := 17, ground := Ground.phase }, { on := 18, ground := Ground.phase }, { on := 19, ground := Ground.textOnly Departure.lateStores }, { on := 20, ground := Ground.phase }], guard := none }) rfl (fun K' hK => ?_) AllReadyH.nil)
    obtain ⟨⟨p0, p1, p2, p3, p4⟩, f0, f1, f2, f3, f4⟩ := five hmb
    have HM : Hid _ := put5 hmb (.int .i64 mv.event) (.int .i64 mv.kind) (.int .i64 mv.src) (.int .i64 mv.dst) (.bool mv.txt)
    have KS := kept5 (S := fun j => j = mb) w5 rfl (.int .i64 mv.event) (.int .i64 mv.kind) (.int .i64 mv.src) (.int .i64 mv.dst) (.bool mv.txt)
    have KF := (K6).trans KS (fun j h => .inr (by subst h; exact hz))
    go_simp
    refine hK.out _ _ (HS.out _ KF) (fun _ => ?_)
    have HKF : Hid _ := HKD.out.and KF
    clear p0 p1 p2 p3 p4 f0 f1 f2 f3 f4 KS
    clear hK K'
    try (simp only [Act.put, List.setIfInBounds_toArray, List.set_cons_zero, List.set_cons_succ])
    refine wpAnyH_take (i := 22) (oi := { dst := some 8, op := Op.assign (Operand.tmp 42), type := 4, pos := "apply.go:82", after := #[{ on := 19, ground := Ground.data }, { on := 21, ground := Ground.chain }, { on := 0, ground := Ground.phase }, { on := 1, ground := Ground.phase }, { on := 2, ground := Ground.phase }, { on := 3, ground := Ground.phase }, { on := 4, ground := Ground.phase }, { on := 5, ground := Ground.phase }, { on := 6, ground := Ground.phase }, { on := 7, ground := Ground.phase }, { on := 8, ground := Ground.phase }, { on := 9, ground := Ground.phase }, { on := 10, ground := Ground.phase }, { on := 11, ground := Ground.phase }, { on := 12, ground := Ground.phase }, { on := 13, ground := Ground.phase }, { on := 14, ground := Ground.phase }, { on := 15, ground := Ground.phase }, { on := 16, ground := Ground.phase }, { on := 17, ground := Ground.phase }, { on := 18, ground := Ground.phase }, { on := 19, ground := Ground.phase }, { on := 20, ground := Ground.phase }, { on := 21, ground := Ground.phase }], guard := none }) (v := ?vv24) rfl (by kernel_rfl) (by kernel_rfl) (by kernel_rfl) (fun _ _ _ h => h) (Or.inl ⟨by rfl, ?hy24⟩) (HS.out _ KF) ?rest24
    case hy24 =>
      intro V hV
      obtain ⟨y0, y1, y2, y3, y4⟩ := hV
      go_simp
      all_goals rfl
    simp only [Act.put, List.setIfInBounds_toArray, List.set_cons_zero, List.set_cons_succ]
    refine wpAnyH_done (by kernel_rfl) ?_ _
    exact HH.out _ _ _ _ _ _ _ _ _ _ _ _ _ _ _ _ _ _ _ _ mb _ (Nat.le_trans HKD.out.size hz) HM.out HKF.out

end Go.Proofs.YtfjekjbkifmpfaaDoor

/-
  Depth: the longest row so far.
-/
namespace Go.Proofs.YtfjekjbkifmpfaaDoor
open Go.RowKit Go.Shelf
attribute [local go_sem] Oper.semAt_some

set_option maxRecDepth 100000 in
set_option maxHeartbeats 2000000 in
theorem dep13 {W : World} {lb rc rb n i x y : Nat} {m r : Nat} {ds : List Deferred} {u0 u1 u2 u3 u7 u8 u9 u10 u11 u12 u13 u14 u15 u16 u17 u18 u19 u20 u21 u22 u23 u24 u25 u26 u27 u28 u29 u30 u31 u32 u33 u34 u35 u36 u37 u38 u39 u40 u41 u42 u43 u44 u45 u46 u47 u48 u49 u50 u51 u52 u53 u54 : Value} (K : Act → World → Prop) (hc : W.drew.cell? ⟨rc, 0, none⟩ = some (.slice (some ⟨rb, 0, none⟩) n n)) (hx : W.drew.cell? ⟨lb, 0, none⟩ = some (.int .i64 (x : Nat))) (hy : W.drew.cell? ⟨rb, i, none⟩ = some (.int .i64 (y : Nat))) (hz : W.drew.frozen? ⟨lb, 0, none⟩ = false) (hi : (i : Int) < (n : Int))
    (h : ∀ (v48 v49 v50 v51 v52 v53 : Value), K { tmps := #[u0, u1, u2, u3, .pointer (some ⟨rc, 0, none⟩), .pointer (some ⟨lb, 0, none⟩), .int .i64 (i : Nat), u7, u8, u9, u10, u11, u12, u13, u14, u15, u16, u17, u18, u19, u20, u21, u22, u23, u24, u25, u26, u27, u28, u29, u30, u31, u32, u33, u34, u35, u36, u37, u38, u39, u40, u41, u42, u43, u44, u45, u46, u47, v48, v49, v50, v51, v52, v53, u54], defers := ds } (W.drew.setCell ⟨lb, 0, none⟩ (.int .i64 (max (x : Int) (y : Int))))) :
    (Code.region 13 #[{ dst := some 48, op := Op.load 3 (Operand.tmp 5), type := 3, pos := "order.go:108", after := #[], guard := none }, { dst := some 49, op := Op.load 101 (Operand.tmp 4), type := 101, pos := "order.go:108", after := #[], guard := none }, { dst := some 50, op := Op.move (Operand.tmp 6), type := 3, pos := "order.go:108", after := #[], guard := none }, { dst := some 51, op := Op.indexAddr 101 (Operand.tmp 49) (Operand.tmp 50), type := 0, pos := "order.go:108", after := #[{ on := 1, ground := Ground.data }, { on := 2, ground := Ground.data }], guard := none }, { dst := some 52, op := Op.load 3 (Operand.tmp 51), type := 3, pos := "order.go:108", after := #[{ on := 3, ground := Ground.data }], guard := none }, { dst := some 53, op := Op.call { callee := Callee.builtin Builtin.max, args := #[Operand.tmp 48, Operand.tmp 52], argTypes := #[3, 3] }, type := 3, pos := "order.go:108", after := #[{ on := 0, ground := Ground.data }, { on := 4, ground := Ground.data }], guard := none }, { dst := none, op := Op.store 3 (Operand.tmp 5) (Operand.tmp 53), type := 0, pos := "order.go:108", after := #[{ on := 5, ground := Ground.data }, { on := 0, ground := Ground.phase }, { on := 1, ground := Ground.phase }, { on := 2, ground := Ground.phase }, { on := 3, ground := Ground.phase }, { on := 4, ground := Ground.phase }, { on := 5, ground := Ground.phase }], guard := none }] true).wpIn (Fence.wide.inRound r) m Tryd.prog (nrm K) { tmps := #[u0, u1, u2, u3, .pointer (some ⟨rc, 0, none⟩), .pointer (some ⟨lb, 0, none⟩), .int .i64 (i : Nat), u7, u8, u9, u10, u11, u12, u13, u14, u15, u16, u17, u18, u19, u20, u21, u22, u23, u24, u25, u26, u27, u28, u29, u30, u31, u32, u33, u34, u35, u36, u37, u38, u39, u40, u41, u42, u43, u44, u45, u46, u47, u48, u49, u50, u51, u52, u53, u54], defers := ds } W := by
  have HH : Hid _ := h
  clear h
  gi_region
  all_goals exact HH.out _ _ _ _ _ _

end Go.Proofs.YtfjekjbkifmpfaaDoor

/-
  Depth: how many nodes the longest row has.
-/
namespace Go.Proofs.YtfjekjbkifmpfaaDoor
open Go.RowKit Go.Shelf
attribute [local go_sem] Oper.semAt_some

theorem ordK_lt {ns : List Nd} : ∀ (k : Nat) (T : List Nat), (∀ i ∈ T, i < ns.length) → ∀ i ∈ ordK ns k T, i < ns.length
  | 0, T, h => h
  | k + 1, T, h => by
    unfold ordK
    cases hn : nextP ns T with
    | none => exact h
    | some j =>
      refine ordK_lt k (T ++ [j]) (fun i hi => ?_)
      rcases List.mem_append.1 hi with hi | hi
      · exact h i hi
      · simp at hi; subst hi; exact mayB_lt (nextP_is hn).1
theorem ordP_lt (ns : List Nd) : ∀ i ∈ ordP ns, i < ns.length := ordK_lt _ _ (fun i h => by simp at h)

theorem ordK_len {ns : List Nd} : ∀ (k : Nat) (T : List Nat), (ordK ns k T).length ≤ T.length + k
  | 0, T => Nat.le_refl _
  | k + 1, T => by
    unfold ordK
    cases nextP ns T with
    | none => simp only []; omega
    | some j => have := ordK_len (ns := ns) k (T ++ [j]); simp at this ⊢; omega
theorem ordP_len (ns : List Nd) : (ordP ns).length ≤ ns.length := by have := ordK_len (ns := ns) ns.length []; simpa [ordP] using this

end Go.Proofs.YtfjekjbkifmpfaaDoor

/-
  A cell of a row that is one's own is set; a node's three cells.
-/
namespace Go.Proofs.YtfjekjbkifmpfaaDoor
open Go.RowKit

theorem ownsRow_put {w : World} {B T sz n g c : Nat} {xs : List Value} (h : w.ownsRow B T sz (.slice (some ⟨g, 0, none⟩) n c) n xs) (j : Nat) (u : Value) : (w.setCell ⟨g, j, none⟩ u).ownsRow B T sz (.slice (some ⟨g, 0, none⟩) n c) n (xs.set j u) := by
  refine ⟨by rw [List.length_set]; exact h.1, ?_⟩
  rcases h.2 with ⟨h0, _⟩ | ⟨g', cap, cur, hv, hb, hg, h1, h2, h3, h4⟩
  · cases h0
  · obtain ⟨rfl, rfl⟩ : g = g' ∧ c = cap := by simpa using hv
    refine .inr ⟨g, c, cur.setIfInBounds j u, rfl, hb, ?_, h1, h2, by simpa using h3, ?_⟩
    · simp [World.setCell, Array.getElem?_modify, hg]
    · rw [Array.toList_setIfInBounds, ← h4, List.take_set]

theorem row_at {w : World} {B T sz n : Nat} {v : Value} {xs : List Value} (h : w.ownsRow B T sz v n xs) (hn : 0 < n) : ∃ g c, v = .slice (some ⟨g, 0, none⟩) n c ∧ v.ownBlock = some g ∧ n ≤ c ∧ ∀ j u, xs[j]? = some u → w.cell? ⟨g, j, none⟩ = some u ∧ w.frozen? ⟨g, j, none⟩ = false := by
  rcases h.2 with ⟨_, h0⟩ | ⟨g, cap, cur, rfl, hb, hg, h1, h2, h3, h4⟩
  · omega
  · refine ⟨g, cap, rfl, rfl, h1, fun j u hu => ?_⟩
    have := h.cells (g := g) rfl j u hu
    rw [Addr.add_lit, Nat.zero_add] at this
    exact ⟨this, by simp [World.frozen?, hg]⟩

theorem nsF_get {l : List Ns} {i : Nat} (hi : i < l.length) : (nsF l)[i * 3]? = some (.int .i64 (l[i]).status) ∧ (nsF l)[i * 3 + 1]? = some (.int .i64 (l[i]).tr) ∧ (nsF l)[i * 3 + 2]? = some (.string (l[i]).text) :=
  ⟨by have := flatMap_at nsC_len (List.getElem?_eq_getElem hi) 0 (by decide); rw [Nat.add_zero] at this; exact this, flatMap_at nsC_len (List.getElem?_eq_getElem hi) 1 (by decide), flatMap_at nsC_len (List.getElem?_eq_getElem hi) 2 (by decide)⟩

theorem nsF_set : ∀ (l : List Ns) (i : Nat), i < l.length → ∀ (y : Ns), nsF (l.set i y) = (((nsF l).set (i * 3) (.int .i64 y.status)).set (i * 3 + 1) (.int .i64 y.tr)).set (i * 3 + 2) (.string y.text)
  | [], i, h, _ => by simp at h
  | x :: t, 0, _, y => rfl
  | x :: t, i + 1, h, y => by
    have ih := nsF_set t i (by simpa using h) y
    have e : ∀ z : Ns, ∀ r : List Ns, nsF (z :: r) = .int .i64 z.status :: .int .i64 z.tr :: .string z.text :: nsF r := fun _ _ => rfl
    rw [List.set_cons_succ, e, e, ih, show (i + 1) * 3 = i * 3 + 1 + 1 + 1 by omega]
    rfl

theorem set_same {l : List Value} {i : Nat} {u : Value} (h : l[i]? = some u) : l.set i u = l := by
  obtain ⟨hi, rfl⟩ := List.getElem?_eq_some_iff.1 h
  exact List.set_getElem_self hi

theorem setNode_set {l : List Ns} {i : Nat} (hi : i < l.length) (m : Mv) (e : Ev) : setNode l i m e = l.set i ⟨m.dst, if e.kind = 3 then e.num else (l[i]).tr, if m.txt then e.text else (l[i]).text⟩ := by
  unfold setNode
  apply List.ext_getElem?
  intro j
  rw [List.getElem?_modify, List.getElem?_set]
  by_cases h : i = j
  · subst h
    simp [hi]
  · simp [h]

theorem nl_ff {l : List Ns} {i : Nat} (hi : i < l.length) (m : Mv) (e : Ev) (ht : m.txt = false) (hk : e.kind ≠ 3) : nsF (setNode l i m e) = (nsF l).set (i * 3) (.int .i64 m.dst) := by
  obtain ⟨_, q1, q2⟩ := nsF_get hi
  rw [setNode_set hi, nsF_set l i hi, if_neg hk, if_neg (by rw [ht]; simp)]
  rw [set_same (l := (nsF l).set (i * 3) _) (by rw [List.getElem?_set_ne (by omega)]; exact q1), set_same (by rw [List.getElem?_set_ne (by omega)]; exact q2)]

theorem nl_tf {l : List Ns} {i : Nat} (hi : i < l.length) (m : Mv) (e : Ev) (ht : m.txt = true) (hk : e.kind ≠ 3) : nsF (setNode l i m e) = ((nsF l).set (i * 3) (.int .i64 m.dst)).set (i * 3 + 2) (.string e.text) := by
  obtain ⟨_, q1, q2⟩ := nsF_get hi
  rw [setNode_set hi, nsF_set l i hi, if_neg hk, if_pos ht]
  rw [set_same (l := (nsF l).set (i * 3) _) (by rw [List.getElem?_set_ne (by omega)]; exact q1)]

theorem nl_ft {l : List Ns} {i : Nat} (hi : i < l.length) (m : Mv) (e : Ev) (ht : m.txt = false) (hk : e.kind = 3) : nsF (setNode l i m e) = ((nsF l).set (i * 3) (.int .i64 m.dst)).set (i * 3 + 1) (.int .i64 e.num) := by
  obtain ⟨_, q1, q2⟩ := nsF_get hi
  rw [setNode_set hi, nsF_set l i hi, if_pos hk, if_neg (by rw [ht]; simp)]
  exact set_same (by rw [List.getElem?_set_ne (by omega), List.getElem?_set_ne (by omega)]; exact q2)

theorem nl_tt {l : List Ns} {i : Nat} (hi : i < l.length) (m : Mv) (e : Ev) (ht : m.txt = true) (hk : e.kind = 3) : nsF (setNode l i m e) = (((nsF l).set (i * 3) (.int .i64 m.dst)).set (i * 3 + 2) (.string e.text)).set (i * 3 + 1) (.int .i64 e.num) := by
  rw [setNode_set hi, nsF_set l i hi, if_pos hk, if_pos ht]
  exact List.set_comm _ _ (by omega)

theorem setNode_len (l : List Ns) (i : Nat) (m : Mv) (e : Ev) : (setNode l i m e).length = l.length := by unfold setNode; simp

end Go.Proofs.YtfjekjbkifmpfaaDoor

/-
  The rows of an order; definitions that are taken; one node more; rings: in which round a node is told when all that may be are told at once. Nothing here speaks of a program.
-/
namespace Go.Proofs.YtfjekjbkifmpfaaDoor
open Go.RowKit

/-- Each of T was told at its turn. -/
def Ordd (ns : List Nd) (T : List Nat) : Prop := ∀ k (h : k < T.length), mayB ns (T.take k) (T[k]'h) = true

theorem Ordd.nil (ns : List Nd) : Ordd ns [] := fun k h => by simp at h

theorem Ordd.snoc {ns : List Nd} {T : List Nat} (O : Ordd ns T) {i : Nat} (h : mayB ns T i = true) : Ordd ns (T ++ [i]) := by
  intro k hk
  by_cases e : k < T.length
  · rw [List.getElem_append_left e, List.take_append_of_le_length (by omega)]
    exact O k e
  · have e2 : k = T.length := by simp at hk; omega
    subst e2
    simp only [List.getElem_append_right (Nat.le_refl _), Nat.sub_self, List.getElem_cons_zero, List.take_left]
    exact h

theorem ordK_ordd {ns : List Nd} : ∀ (k : Nat) (T : List Nat), Ordd ns T → Ordd ns (ordK ns k T)
  | 0, T, h => h
  | k + 1, T, h => by
    unfold ordK
    cases hn : nextP ns T with
    | none => exact h
    | some j => exact ordK_ordd k (T ++ [j]) (h.snoc (nextP_is hn).1)

theorem ordP_ordd (ns : List Nd) : Ordd ns (ordP ns) := ordK_ordd _ _ (Ordd.nil ns)

theorem mayB_out {ns : List Nd} {T : List Nat} {i : Nat} (h : mayB ns T i = true) : i ∉ T ∧ ∀ n, ns[i]? = some n → ∀ s ∈ n.after, ∃ j, aheadP ns n s = some j ∧ j ∈ T := by
  have hl := mayB_lt h
  unfold mayB at h
  rw [List.getElem?_eq_getElem hl] at h
  simp only [Bool.and_eq_true, Bool.not_eq_true', decide_eq_true_eq] at h
  refine ⟨by simpa using h.1, fun n hn s hs => ?_⟩
  rw [List.getElem?_eq_getElem hl] at hn
  obtain rfl := Option.some.inj hn
  have h2 := h.2
  unfold need at h2
  rw [List.countP_eq_zero] at h2
  have h3 := h2 s hs
  cases ha : aheadP ns ns[i] s with
  | none => rw [ha] at h3; simp at h3
  | some j => rw [ha] at h3; exact ⟨j, rfl, by simpa using h3⟩

theorem mayB_of {ns : List Nd} {T : List Nat} {i : Nat} (hi : i ∉ T) {n : Nd} (hn : ns[i]? = some n) (h : ∀ s ∈ n.after, ∃ j, aheadP ns n s = some j ∧ j ∈ T) : mayB ns T i = true := by
  unfold mayB
  rw [hn]
  simp only [Bool.and_eq_true, Bool.not_eq_true', decide_eq_true_eq]
  refine ⟨by simpa using hi, ?_⟩
  unfold need
  rw [List.countP_eq_zero]
  intro s hs
  obtain ⟨j, hj, hT⟩ := h s hs
  rw [hj]
  simpa using hT

theorem Ordd.nodup {ns : List Nd} {T : List Nat} (O : Ordd ns T) : T.Nodup := by
  rw [List.nodup_iff_pairwise_ne, List.pairwise_iff_getElem]
  intro i j hi hj hij e
  have := (mayB_out (O j hj)).1
  rw [← e] at this
  exact this (List.mem_take_iff_getElem.2 ⟨i, by omega, rfl⟩)

theorem aheadP_fj {ns : List Nd} {n : Nd} {s : ByteArray} {j : Nat} (h : aheadP ns n s = some j) : fj ns s = j := by
  unfold aheadP at h
  split at h
  · cases h
  · unfold fj; rw [h]; rfl

/-- The rows of the first nodes of an order. -/
structure LevOk (ns : List Nd) (T : List Nat) (R : Nat → Nat) (L : Nat) : Prop where
  none : ∀ x, x ∉ T → R x = 0
  pos : ∀ x, x ∈ T → 1 ≤ R x
  aft : ∀ x, x ∈ T → ∀ n, ns[x]? = some n → ∀ s ∈ n.after, ∃ j, aheadP ns n s = some j ∧ j ∈ T ∧ R j < R x
  top : ∀ x, x ∈ T → R x = 1 ∨ ∃ n, ns[x]? = some n ∧ ∃ s ∈ n.after, ∃ j, aheadP ns n s = some j ∧ R j + 1 = R x
  le : ∀ x, R x ≤ L
  some : L = 0 ∨ ∃ x, x ∈ T ∧ R x = L

theorem curP_new {ns : List Nd} {R : Nat → Nat} {i : Nat} : ∀ (l : List ByteArray) (a : Nat), (∀ s ∈ l, fj ns s ≠ i) →
    a ≤ curP ns R i a l ∧ (∀ s ∈ l, R (fj ns s) ≤ curP ns R i a l) ∧ (curP ns R i a l = a ∨ ∃ s ∈ l, curP ns R i a l = R (fj ns s))
  | [], a, _ => ⟨Nat.le_refl _, fun s h => (by cases h), .inl rfl⟩
  | s :: l, a, h => by
    have hs := h s (List.mem_cons_self ..)
    have ih := curP_new (R := R) l (max a (R (fj ns s))) (fun t ht => h t (List.mem_cons_of_mem _ ht))
    have e : curP ns R i a (s :: l) = curP ns R i (max a (R (fj ns s))) l := by
      show curP ns R i (max a (if fj ns s = i then a else R (fj ns s))) l = _
      rw [if_neg hs]
    rw [e]
    obtain ⟨h1, h2, h3⟩ := ih
    refine ⟨by omega, fun t ht => ?_, ?_⟩
    · rcases List.mem_cons.1 ht with rfl | ht
      · omega
      · exact h2 t ht
    · rcases h3 with h3 | ⟨t, ht, h3⟩
      · by_cases c : a ≤ R (fj ns s)
        · exact .inr ⟨s, List.mem_cons_self .., by rw [h3]; omega⟩
        · left; rw [h3]; omega
      · exact .inr ⟨t, List.mem_cons_of_mem _ ht, h3⟩

theorem LevOk.step {ns : List Nd} {T : List Nat} {R : Nat → Nat} {L i : Nat} (O : LevOk ns T R L) (h : mayB ns T i = true) : LevOk ns (T ++ [i]) (depStep ns (R, L) i).1 (depStep ns (R, L) i).2 := by
  have hl := mayB_lt h
  have hn := List.getElem?_eq_getElem hl
  obtain ⟨hi, ha⟩ := mayB_out h
  have ha := ha _ hn
  unfold depStep
  rw [hn]
  simp only []
  have h0 := O.none i hi
  rw [h0]
  have hne : ∀ s ∈ (ns[i]).after, fj ns s ≠ i := fun s hs e => by
    obtain ⟨j, hj, hT⟩ := ha s hs
    rw [aheadP_fj hj] at e
    subst e
    exact hi hT
  obtain ⟨c1, c2, c3⟩ := curP_new (R := R) (ns[i]).after 0 hne
  have hcL : curP ns R i 0 (ns[i]).after ≤ L := curP_le O.le _ _ (Nat.zero_le _)
  have mi : ∀ x, x ∈ T → x ≠ i := fun x hx e => hi (e ▸ hx)
  refine ⟨fun x hx => ?_, fun x hx => ?_, fun x hx n hxn s hs => ?_, fun x hx => ?_, fun x => ?_, ?_⟩
  · simp at hx
    show (if x = i then _ else _) = _
    rw [if_neg hx.2]
    exact O.none x hx.1
  · show 1 ≤ (if x = i then _ else _)
    split
    · omega
    · rename_i e
      rcases List.mem_append.1 hx with hx | hx
      · exact O.pos x hx
      · simp at hx; exact absurd hx e
  · rcases List.mem_append.1 hx with hx | hx
    · obtain ⟨j, hj, hT, hlt⟩ := O.aft x hx n hxn s hs
      refine ⟨j, hj, List.mem_append_left _ hT, ?_⟩
      rw [if_neg (mi _ hT), if_neg (mi _ hx)]
      exact hlt
    · simp at hx; subst hx
      rw [hn] at hxn
      obtain rfl := Option.some.inj hxn
      obtain ⟨j, hj, hT⟩ := ha s hs
      refine ⟨j, hj, List.mem_append_left _ hT, ?_⟩
      rw [if_neg (mi _ hT), if_pos rfl]
      have := c2 s hs
      rw [aheadP_fj hj] at this
      omega
  · rcases List.mem_append.1 hx with hx | hx
    · rw [if_neg (mi _ hx)]
      rcases O.top x hx with h1 | ⟨n, hxn, s, hs, j, hj, h1⟩
      · exact .inl h1
      · obtain ⟨j', hj', hT', _⟩ := O.aft x hx n hxn s hs
        rw [hj] at hj'
        obtain rfl := Option.some.inj hj'
        exact .inr ⟨n, hxn, s, hs, j, hj, by rw [if_neg (mi _ hT')]; exact h1⟩
    · simp at hx; subst hx
      rw [if_pos rfl]
      rcases c3 with c3 | ⟨s, hs, c3⟩
      · left; omega
      · obtain ⟨j, hj, hT⟩ := ha s hs
        rw [aheadP_fj hj] at c3
        exact .inr ⟨_, hn, s, hs, j, hj, by rw [if_neg (mi _ hT), c3]⟩
  · show (if x = i then _ else _) ≤ max _ _
    have := O.le x
    split <;> omega
  · right
    by_cases c : L ≤ curP ns R i 0 (ns[i]).after + 1
    · exact ⟨i, by simp, by show (if i = i then _ else _) = max _ _; rw [if_pos rfl]; omega⟩
    · rcases O.some with e | ⟨x, hx, e⟩
      · omega
      · refine ⟨x, List.mem_append_left _ hx, ?_⟩
        show (if x = i then _ else _) = max _ _
        rw [if_neg (mi _ hx)]
        omega

theorem lev_take {ns : List Nd} {T : List Nat} (O : Ordd ns T) : ∀ k, k ≤ T.length → LevOk ns (T.take k) (depK ns (T.take k)).1 (depK ns (T.take k)).2
  | 0, _ => ⟨fun _ _ => rfl, fun x h => by simp at h, fun x h => by simp at h, fun x h => by simp at h, fun _ => Nat.zero_le _, .inl rfl⟩
  | k + 1, h => by
    have hk : k < T.length := by omega
    have e : T.take (k + 1) = T.take k ++ [T[k]] := by rw [List.take_add_one, List.getElem?_eq_getElem hk]; rfl
    rw [e, depK_snoc]
    exact (lev_take O k (by omega)).step (O k hk)

theorem lev_all {ns : List Nd} {T : List Nat} (O : Ordd ns T) : LevOk ns T (depK ns T).1 (depK ns T).2 := by
  have := lev_take O T.length (Nat.le_refl _)
  rwa [List.take_length] at this

/-- In which round a node is told when all that may be are told at once. -/
def rowP (ns : List Nd) (x : Nat) : Nat := (depK ns (ordP ns)).1 x

theorem mem_full : ∀ {n : Nat} {l : List Nat}, l.Nodup → (∀ i ∈ l, i < n) → l.length = n → ∀ i, i < n → i ∈ l := by
  intro n l h1 h2 h3 i hi
  by_cases hm : i ∈ l
  · exact hm
  · exfalso
    have h4 : (i :: l).Nodup := List.nodup_cons.2 ⟨hm, h1⟩
    have h5 := nodup_le h4 (fun j hj => by rcases List.mem_cons.1 hj with rfl | hj; exact hi; exact h2 j hj)
    simp at h5
    omega

theorem lev_ord (ns : List Nd) : LevOk ns (ordP ns) (rowP ns) (depP ns) := lev_all (ordP_ordd ns)

theorem ord_all {ns : List Nd} (h : (ordP ns).length = ns.length) : ∀ i, i < ns.length → i ∈ ordP ns := mem_full (ordP_ordd ns).nodup (ordP_lt ns) h

/-- The nodes that may begin when those with a mark are over, and have begun. -/
def readyB (ns : List Nd) (over begun : Nat → Bool) (i : Nat) : Bool := !begun i && match ns[i]? with | some n => n.after.all (fun s => match aheadP ns n s with | some j => over j | none => false) | none => false
def readyP (ns : List Nd) (over begun : Nat → Bool) : List Nat := (List.range ns.length).filter (readyB ns over begun)

theorem readyB_row {ns : List Nd} (h : (ordP ns).length = ns.length) (r : Nat) {i : Nat} (hi : i < ns.length) : readyB ns (fun x => decide (rowP ns x ≤ r)) (fun x => decide (rowP ns x ≤ r)) i = decide (rowP ns i = r + 1) := by
  have O := lev_ord ns
  have hm := ord_all h i hi
  have hn := List.getElem?_eq_getElem hi
  unfold readyB
  rw [hn]
  by_cases c : rowP ns i = r + 1
  · simp only [c, decide_true, Bool.and_eq_true, List.all_eq_true]
    refine ⟨by simp, fun s hs => ?_⟩
    obtain ⟨j, hj, _, hlt⟩ := O.aft i hm _ hn s hs
    rw [hj]
    simp only [decide_eq_true_eq]
    omega
  · simp only [c, decide_false, Bool.and_eq_false_iff, Bool.not_eq_false', decide_eq_true_eq]
    by_cases c2 : rowP ns i ≤ r
    · exact .inl c2
    · right
      rw [List.all_eq_false]
      have := O.pos i hm
      rcases O.top i hm with h1 | ⟨n, hxn, s, hs, j, hj, h1⟩
      · omega
      · rw [hn] at hxn
        obtain rfl := Option.some.inj hxn
        refine ⟨s, hs, ?_⟩
        rw [hj]
        simp only [decide_eq_true_eq]
        omega

theorem readyP_row {ns : List Nd} (h : (ordP ns).length = ns.length) (r : Nat) : readyP ns (fun x => decide (rowP ns x ≤ r)) (fun x => decide (rowP ns x ≤ r)) = (List.range ns.length).filter (fun i => decide (rowP ns i = r + 1)) := by
  unfold readyP
  apply List.filter_congr
  intro x hx
  exact readyB_row h r (List.mem_range.1 hx)

/-- No row is left out. -/
theorem row_each {ns : List Nd} (h : (ordP ns).length = ns.length) : ∀ d r, r + d + 1 = depP ns → ∃ x, x < ns.length ∧ rowP ns x = r + 1
  | 0, r, e => by
    rcases (lev_ord ns).some with h0 | ⟨x, hx, h1⟩
    · omega
    · exact ⟨x, ordP_lt ns x hx, by omega⟩
  | d + 1, r, e => by
    obtain ⟨x, hx, h1⟩ := row_each h d (r + 1) (by omega)
    have O := lev_ord ns
    have hm := ord_all h x hx
    rcases O.top x hm with h2 | ⟨n, hxn, s, hs, j, hj, h2⟩
    · omega
    · obtain ⟨j', hj', hT', _⟩ := O.aft x hm n hxn s hs
      rw [hj] at hj'
      obtain rfl := Option.some.inj hj'
      exact ⟨j, ordP_lt ns j hT', by omega⟩

theorem ready_some {ns : List Nd} (h : (ordP ns).length = ns.length) {r : Nat} (hr : r < depP ns) : 0 < ((List.range ns.length).filter (fun i => decide (rowP ns i = r + 1))).length := by
  obtain ⟨x, hx, h1⟩ := row_each h (depP ns - r - 1) r (by omega)
  exact List.length_pos_of_mem (List.mem_filter.2 ⟨List.mem_range.2 hx, by simpa using h1⟩)

/-- How many have been told. -/
def cntP (ns : List Nd) (r : Nat) : Nat := (List.range ns.length).countP (fun i => decide (rowP ns i ≤ r))

theorem cntP_zero {ns : List Nd} (h : (ordP ns).length = ns.length) : cntP ns 0 = 0 := by
  unfold cntP
  rw [List.countP_eq_zero]
  intro x hx
  have := (lev_ord ns).pos x (ord_all h x (List.mem_range.1 hx))
  simp only [decide_eq_true_eq]
  omega

theorem cntP_next (ns : List Nd) (r : Nat) : cntP ns (r + 1) = cntP ns r + ((List.range ns.length).filter (fun i => decide (rowP ns i = r + 1))).length := by
  unfold cntP
  rw [← List.countP_eq_length_filter]
  induction List.range ns.length with
  | nil => rfl
  | cons x l ih =>
    simp only [List.countP_cons, ih, decide_eq_true_eq]
    split <;> split <;> split <;> omega

theorem cntP_all (ns : List Nd) : cntP ns (depP ns) = ns.length := by
  unfold cntP
  rw [List.countP_eq_length.2, List.length_range]
  intro x _
  simpa using (lev_ord ns).le x

theorem cntP_le (ns : List Nd) (r : Nat) : cntP ns r ≤ ns.length := by
  unfold cntP
  have := List.countP_le_length (p := fun i => decide (rowP ns i ≤ r)) (l := List.range ns.length)
  simpa using this


/-- A definition that is taken. -/
structure Taken (name : ByteArray) (ns : List Nd) : Prop where
  name : nameP name = true
  lo : 1 ≤ ns.length
  hi : ns.length ≤ 32
  nod : ∀ i (h : i < ns.length), nodeE ns i (ns[i]'h) = 0
  aft : ∀ i (h : i < ns.length), afterE ns (ns[i]'h) = 0
  ord : (ordP ns).length = ns.length

theorem firstE_none {f : Nat → Int} : ∀ {n}, firstE f n = none → ∀ i, i < n → f i = 0
  | 0, _, i, hi => by omega
  | n + 1, h, i, hi => by
    unfold firstE at h
    cases hn : firstE f n with
    | some x => rw [hn] at h; cases h
    | none =>
      rw [hn] at h
      by_cases e : f n = 0
      · by_cases e2 : i = n
        · subst e2; exact e
        · exact firstE_none hn i (by omega)
      · simp [e] at h

theorem firstE_some {f : Nat → Int} : ∀ {n} {x : Nat × Int}, firstE f n = some x → x.2 ≠ 0
  | 0, x, h => by cases h
  | n + 1, x, h => by
    unfold firstE at h
    cases hn : firstE f n with
    | some y => rw [hn] at h; cases h; exact firstE_some hn
    | none =>
      rw [hn] at h
      by_cases e : f n = 0
      · simp [e] at h
      · simp [e] at h; subst h; exact e

theorem firstE_zero {f : Nat → Int} : ∀ {n}, (∀ i, i < n → f i = 0) → firstE f n = none
  | 0, _ => rfl
  | n + 1, h => by
    unfold firstE
    rw [firstE_zero (fun i hi => h i (by omega))]
    simp [h n (by omega)]

theorem taken_of {name : ByteArray} {ns : List Nd} (h : (checkP name ns).2 = 0) : Taken name ns := by
  rw [checkP_eq] at h
  cases g0 : nameP name with
  | false => rw [if_pos g0] at h; simp at h
  | true =>
    rw [if_neg (by rw [g0]; simp)] at h
    by_cases c : ns.length < 1 ∨ 32 < ns.length
    · rw [if_pos c] at h; simp at h
    · rw [if_neg c] at h
      cases h1 : firstE (nodeAt ns) ns.length with
      | some x => rw [h1] at h; exact absurd h (firstE_some h1)
      | none =>
        rw [h1] at h
        cases h2 : firstE (aftAt ns) ns.length with
        | some x => rw [h2] at h; exact absurd h (firstE_some h2)
        | none =>
          rw [h2] at h
          by_cases h3 : (ordP ns).length = ns.length
          · refine ⟨g0, by omega, by omega, fun i hi => ?_, fun i hi => ?_, h3⟩
            · have := firstE_none h1 i hi
              unfold nodeAt at this
              rw [List.getElem?_eq_getElem hi] at this
              exact this
            · have := firstE_none h2 i hi
              unfold aftAt at this
              rw [List.getElem?_eq_getElem hi] at this
              exact this
          · simp [h3] at h

theorem Taken.check {name : ByteArray} {ns : List Nd} (T : Taken name ns) : checkP name ns = (-1, 0) := by
  have h1 : firstE (nodeAt ns) ns.length = none := firstE_zero (fun i hi => by
    unfold nodeAt; rw [List.getElem?_eq_getElem hi]; exact T.nod i hi)
  have h2 : firstE (aftAt ns) ns.length = none := firstE_zero (fun i hi => by
    unfold aftAt; rw [List.getElem?_eq_getElem hi]; exact T.aft i hi)
  have := T.lo
  have := T.hi
  rw [checkP_eq, if_neg (by rw [T.name]; simp), if_neg (by omega), h1, h2]
  simp only []
  rw [if_pos T.ord]

/-- What is wrong but for the order. -/
theorem check_loop {name : ByteArray} {ns : List Nd} (h0 : nameP name = true) (hl : 1 ≤ ns.length) (hh : ns.length ≤ 32) (hn : ∀ i (h : i < ns.length), nodeE ns i (ns[i]'h) = 0) (ha : ∀ i (h : i < ns.length), afterE ns (ns[i]'h) = 0)
    (ho : (ordP ns).length ≠ ns.length) : checkP name ns = (-1, 15) := by
  have h1 : firstE (nodeAt ns) ns.length = none := firstE_zero (fun i hi => by
    unfold nodeAt; rw [List.getElem?_eq_getElem hi]; exact hn i hi)
  have h2 : firstE (aftAt ns) ns.length = none := firstE_zero (fun i hi => by
    unfold aftAt; rw [List.getElem?_eq_getElem hi]; exact ha i hi)
  rw [checkP_eq, if_neg (by rw [h0]; simp), if_neg (by omega), h1, h2]
  simp only []
  rw [if_neg ho]

theorem nodeE_ok {ns : List Nd} {i : Nat} {n : Nd} (h : nodeE ns i n = 0) : namedP n = true ∧ i ≤ (findP ns n.name).getD 0 ∧ fitsP n = true := by
  unfold nodeE at h
  split at h
  · rename_i h1
    split at h
    · simp at h
    · rename_i h2
      split at h
      · rename_i h3; exact ⟨h1, by omega, h3⟩
      · simp at h
  · simp at h

theorem nodeE_of {ns : List Nd} {i : Nat} {n : Nd} (h1 : namedP n = true) (h2 : i ≤ (findP ns n.name).getD 0) (h3 : fitsP n = true) : nodeE ns i n = 0 := by
  unfold nodeE
  rw [if_pos h1, if_neg (by omega), if_pos h3]

theorem afterE_ok {ns : List Nd} {n : Nd} (h : afterE ns n = 0) : (∀ s ∈ n.after, (findP ns s).isSome = true) ∧ n.after.Nodup := by
  unfold afterE at h
  split at h
  · rename_i h1
    split at h
    · rename_i h2; exact ⟨by simpa using h1, h2⟩
    · simp at h
  · simp at h

theorem afterE_of {ns : List Nd} {n : Nd} (h1 : ∀ s ∈ n.after, (findP ns s).isSome = true) (h2 : n.after.Nodup) : afterE ns n = 0 := by
  unfold afterE
  rw [if_pos (by simpa using h1), if_pos h2]

theorem findP_mem {ns : List Nd} {n : Nd} (h : n ∈ ns) : (findP ns n.name).isSome = true := by
  cases hf : findP ns n.name with
  | none => exact absurd rfl (findP_none.1 hf n h)
  | some _ => rfl

theorem Taken.self {name : ByteArray} {ns : List Nd} (T : Taken name ns) {i : Nat} (hi : i < ns.length) : findP ns (ns[i]).name = some i := by
  have h1 := findP_mem (List.getElem_mem hi)
  obtain ⟨j, hj⟩ := Option.isSome_iff_exists.1 h1
  have h2 := (nodeE_ok (T.nod i hi)).2.1
  rw [hj] at h2
  simp at h2
  by_cases e : j = i
  · rw [hj, e]
  · exact absurd rfl (findP_first hj (j := i) (by omega))

theorem Taken.inj {name : ByteArray} {ns : List Nd} (T : Taken name ns) {i j : Nat} (hi : i < ns.length) (hj : j < ns.length) (h : (ns[i]).name = (ns[j]).name) : i = j := by
  have h1 := T.self hi
  rw [h, T.self hj] at h1
  exact (Option.some.inj h1).symm

/-- One node more. -/
theorem findP_snoc (ns : List Nd) (z : Nd) (s : ByteArray) : findP (ns ++ [z]) s = (findP ns s).or (if z.name = s then some ns.length else none) := by
  unfold findP
  rw [List.findIdx?_append]
  congr 1
  by_cases h : z.name = s <;> simp [h]

theorem findP_snoc_some {ns : List Nd} (z : Nd) {s : ByteArray} (h : (findP ns s).isSome = true) : findP (ns ++ [z]) s = findP ns s := by
  rw [findP_snoc]
  obtain ⟨j, hj⟩ := Option.isSome_iff_exists.1 h
  rw [hj]; rfl

theorem aheadP_snoc {ns : List Nd} (z n : Nd) {s : ByteArray} (h : (findP ns s).isSome = true) : aheadP (ns ++ [z]) n s = aheadP ns n s := by
  unfold aheadP
  rw [findP_snoc_some z h]

theorem need_snoc {ns : List Nd} (z n : Nd) (T : List Nat) (h : ∀ s ∈ n.after, (findP ns s).isSome = true) : need (ns ++ [z]) T n = need ns T n := by
  unfold need
  apply List.countP_congr
  intro s hs
  rw [aheadP_snoc z n (h s hs)]

theorem mayB_snoc {ns : List Nd} (z : Nd) (T : List Nat) {i : Nat} (hi : i < ns.length) (h : ∀ s ∈ (ns[i]).after, (findP ns s).isSome = true) : mayB (ns ++ [z]) T i = mayB ns T i := by
  unfold mayB
  rw [List.getElem?_append_left hi, List.getElem?_eq_getElem hi]
  simp only []
  rw [need_snoc z _ T h]

theorem nextP_snoc {ns : List Nd} (z : Nd) {T : List Nat} (h : ∀ i (hi : i < ns.length), ∀ s ∈ (ns[i]).after, (findP ns s).isSome = true) {j : Nat} (hj : nextP ns T = some j) : nextP (ns ++ [z]) T = some j := by
  obtain ⟨h1, h2⟩ := nextP_is hj
  have hl := mayB_lt h1
  refine nextP_some (by rw [mayB_snoc z T hl (h j hl)]; exact h1) (fun k hk => ?_)
  have hkl : k < ns.length := by omega
  rw [mayB_snoc z T hkl (h k hkl)]
  exact h2 k hk

theorem ordK_snoc {ns : List Nd} (z : Nd) (h : ∀ i (hi : i < ns.length), ∀ s ∈ (ns[i]).after, (findP ns s).isSome = true) (m : Nat) : ∀ (k : Nat) (T : List Nat), (ordK ns k T).length = T.length + k → ordK (ns ++ [z]) (k + m) T = ordK (ns ++ [z]) m (ordK ns k T)
  | 0, T, _ => by simp [ordK]
  | k + 1, T, hlen => by
    rw [show k + 1 + m = (k + m) + 1 by omega]
    unfold ordK at hlen
    cases hn : nextP ns T with
    | none => rw [hn] at hlen; simp only [] at hlen; omega
    | some j =>
      rw [hn] at hlen
      simp only [] at hlen
      have e1 : ordK (ns ++ [z]) ((k + m) + 1) T = ordK (ns ++ [z]) (k + m) (T ++ [j]) := by
        rw [ordK, nextP_snoc z h hn]
      have e2 : ordK ns (k + 1) T = ordK ns k (T ++ [j]) := by rw [ordK, hn]
      rw [e1, e2]
      exact ordK_snoc z h m k (T ++ [j]) (by rw [hlen]; simp; omega)

/-- A node that stands behind all others is the last one. -/
theorem ordP_grow {name : ByteArray} {ns : List Nd} (T : Taken name ns) (z : Nd) (hz : z.after = ns.map (·.name)) (hf : findP ns z.name = none) : ordP (ns ++ [z]) = ordP ns ++ [ns.length] := by
  have ha : ∀ i (hi : i < ns.length), ∀ s ∈ (ns[i]).after, (findP ns s).isSome = true := fun i hi => (afterE_ok (T.aft i hi)).1
  have e : ordP (ns ++ [z]) = ordK (ns ++ [z]) 1 (ordP ns) := by
    unfold ordP
    rw [List.length_append]
    exact ordK_snoc z ha 1 ns.length [] (by have := T.ord; unfold ordP at this; rw [this]; simp)
  rw [e]
  have hall := ord_all T.ord
  have hnx : nextP (ns ++ [z]) (ordP ns) = some ns.length := by
    refine nextP_some ?_ (fun j hj => ?_)
    · refine mayB_of (n := z) (fun hm => absurd (ordP_lt ns _ hm) (Nat.lt_irrefl _)) (by simp) (fun s hs => ?_)
      rw [hz] at hs
      obtain ⟨n, hn, rfl⟩ := List.mem_map.1 hs
      have h1 := findP_mem hn
      obtain ⟨j, hj⟩ := Option.isSome_iff_exists.1 h1
      refine ⟨j, ?_, hall j (findP_lt hj)⟩
      unfold aheadP
      rw [if_neg (fun e => by rw [e, hf] at h1; cases h1), findP_snoc_some z h1, hj]
    · rw [mayB_snoc z _ hj (ha j hj)]
      unfold mayB
      simp [hall j hj]
  rw [ordK, hnx]
  rfl

theorem depK_snocNs {ns : List Nd} (z : Nd) (h : ∀ i (hi : i < ns.length), ∀ s ∈ (ns[i]).after, (findP ns s).isSome = true) : ∀ (od : List Nat), (∀ i ∈ od, i < ns.length) → ∀ st, od.foldl (depStep (ns ++ [z])) st = od.foldl (depStep ns) st
  | [], _, _ => rfl
  | i :: od, hod, st => by
    have hi := hod i (List.mem_cons_self ..)
    have hc : ∀ (l : List ByteArray) (R : Nat → Nat) (a : Nat), (∀ s ∈ l, (findP ns s).isSome = true) → curP (ns ++ [z]) R i a l = curP ns R i a l := by
      intro l R
      induction l with
      | nil => intro a _; rfl
      | cons s l ih =>
        intro a hs
        have e : fj (ns ++ [z]) s = fj ns s := by unfold fj; rw [findP_snoc_some z (hs s (List.mem_cons_self ..))]
        show curP (ns ++ [z]) R i (max a (if fj (ns ++ [z]) s = i then a else R (fj (ns ++ [z]) s))) l = curP ns R i (max a (if fj ns s = i then a else R (fj ns s))) l
        rw [e]
        exact ih _ (fun t ht => hs t (List.mem_cons_of_mem _ ht))
    have e : depStep (ns ++ [z]) st i = depStep ns st i := by
      unfold depStep
      rw [List.getElem?_append_left hi, List.getElem?_eq_getElem hi]
      simp only []
      rw [hc _ _ _ (h i hi)]
    rw [List.foldl_cons, List.foldl_cons, e]
    exact depK_snocNs z h od (fun k hk => hod k (List.mem_cons_of_mem _ hk)) _

theorem depP_grow {name : ByteArray} {ns : List Nd} (T : Taken name ns) (z : Nd) (hz : z.after = ns.map (·.name)) (hf : findP ns z.name = none) : depP (ns ++ [z]) = depP ns + 1 := by
  have ha : ∀ i (hi : i < ns.length), ∀ s ∈ (ns[i]).after, (findP ns s).isSome = true := fun i hi => (afterE_ok (T.aft i hi)).1
  have e : depK (ns ++ [z]) (ordP ns) = depK ns (ordP ns) := depK_snocNs z ha (ordP ns) (ordP_lt ns) _
  unfold depP
  rw [ordP_grow T z hz hf, depK_snoc, e]
  have O := lev_ord ns
  unfold depStep
  rw [show (ns ++ [z])[ns.length]? = some z by simp]
  simp only []
  have h0 : (depK ns (ordP ns)).1 ns.length = 0 := O.none ns.length (fun hm => absurd (ordP_lt ns _ hm) (Nat.lt_irrefl _))
  rw [h0]
  have hfj : ∀ s ∈ z.after, ∃ j, j < ns.length ∧ fj (ns ++ [z]) s = j := fun s hs => by
    rw [hz] at hs
    obtain ⟨n, hn, rfl⟩ := List.mem_map.1 hs
    have h1 := findP_mem hn
    obtain ⟨j, hj⟩ := Option.isSome_iff_exists.1 h1
    exact ⟨j, findP_lt hj, by unfold fj; rw [findP_snoc_some z h1, hj]; rfl⟩
  obtain ⟨c1, c2, c3⟩ := curP_new (ns := ns ++ [z]) (R := (depK ns (ordP ns)).1) (i := ns.length) z.after 0 (fun s hs e => by obtain ⟨j, hj, he⟩ := hfj s hs; omega)
  have hL : ∀ x, (depK ns (ordP ns)).1 x ≤ (depK ns (ordP ns)).2 := O.le
  have hle : curP (ns ++ [z]) (depK ns (ordP ns)).1 ns.length 0 z.after ≤ (depK ns (ordP ns)).2 := curP_le hL _ _ (Nat.zero_le _)
  have hge : (depK ns (ordP ns)).2 ≤ curP (ns ++ [z]) (depK ns (ordP ns)).1 ns.length 0 z.after := by
    rcases O.some with h | ⟨x, hx, hxe⟩
    · have h' : (depK ns (ordP ns)).2 = 0 := h
      omega
    · have hxl := ordP_lt ns x hx
      have hm : (ns[x]).name ∈ z.after := by rw [hz]; exact List.mem_map.2 ⟨_, List.getElem_mem hxl, rfl⟩
      have h1 := c2 _ hm
      have h2 : fj (ns ++ [z]) (ns[x]).name = x := by
        unfold fj
        rw [findP_snoc_some z (findP_mem (List.getElem_mem hxl)), T.self hxl]; rfl
      rw [h2] at h1
      have hxe' : (depK ns (ordP ns)).1 x = (depK ns (ordP ns)).2 := hxe
      omega
  omega

theorem taken_grow {name : ByteArray} {ns : List Nd} (T : Taken name ns) (h9 : ns.length ≤ 9) (z : Nd) (hz : z.after = ns.map (·.name)) (hf : findP ns z.name = none) (hn : namedP z = true) (hfit : fitsP z = true) : Taken name (ns ++ [z]) := by
  have ho := ordP_grow T z hz hf
  refine ⟨T.name, by simp, by simp; omega, fun i hi => ?_, fun i hi => ?_, by rw [ho]; simp [T.ord]⟩
  · by_cases e : i < ns.length
    · rw [List.getElem_append_left e]
      obtain ⟨h1, h2, h3⟩ := nodeE_ok (T.nod i e)
      exact nodeE_of h1 (by rw [findP_snoc_some z (findP_mem (List.getElem_mem e))]; exact h2) h3
    · have e2 : i = ns.length := by simp at hi; omega
      subst e2
      simp only [List.getElem_append_right (Nat.le_refl _), Nat.sub_self, List.getElem_cons_zero]
      exact nodeE_of hn (by rw [findP_snoc, hf]; simp) hfit
  · by_cases e : i < ns.length
    · rw [List.getElem_append_left e]
      obtain ⟨h1, h2⟩ := afterE_ok (T.aft i e)
      exact afterE_of (fun s hs => by rw [findP_snoc_some z (h1 s hs)]; exact h1 s hs) h2
    · have e2 : i = ns.length := by simp at hi; omega
      subst e2
      simp only [List.getElem_append_right (Nat.le_refl _), Nat.sub_self, List.getElem_cons_zero]
      refine afterE_of (fun s hs => ?_) ?_
      · rw [hz] at hs
        obtain ⟨n, hn, rfl⟩ := List.mem_map.1 hs
        rw [findP_snoc_some z (findP_mem hn)]
        exact findP_mem hn
      · rw [hz, List.nodup_iff_pairwise_ne, List.pairwise_iff_getElem]
        intro i j hi hj hij e
        simp only [List.getElem_map] at e
        simp at hi hj
        have := T.inj hi hj e
        omega

/-- No name in its After means itself. -/
theorem Taken.few {name : ByteArray} {ns : List Nd} (T : Taken name ns) {i : Nat} (hi : i < ns.length) : (ns[i]).after.length ≤ ns.length := by
  obtain ⟨h1, h2⟩ := afterE_ok (T.aft i hi)
  have h3 : ((ns[i]).after.map (fj ns)).Nodup := by
    rw [List.nodup_iff_pairwise_ne, List.pairwise_iff_getElem]
    intro p q hp hq hpq e
    simp only [List.getElem_map] at e
    simp at hp hq
    have f1 := h1 _ (List.getElem_mem hp)
    have f2 := h1 _ (List.getElem_mem hq)
    obtain ⟨j1, g1⟩ := Option.isSome_iff_exists.1 f1
    obtain ⟨j2, g2⟩ := Option.isSome_iff_exists.1 f2
    unfold fj at e
    rw [g1, g2] at e
    simp at e
    subst e
    have n1 := findP_name g1
    have n2 := findP_name g2
    rw [n1] at n2
    have := (List.nodup_iff_pairwise_ne.1 h2)
    rw [List.pairwise_iff_getElem] at this
    exact this p q hp hq hpq n2
  have h4 := nodup_le h3 (n := ns.length) (fun k hk => by
    obtain ⟨s, hs, rfl⟩ := List.mem_map.1 hk
    obtain ⟨j, hj⟩ := Option.isSome_iff_exists.1 (h1 s hs)
    unfold fj; rw [hj]; exact findP_lt hj)
  simpa using h4


/-- From b one comes to a by going to what stands ahead. -/
inductive Path (ns : List Nd) (b : Nat) : Nat → Prop
  | refl : Path ns b b
  | step {i j : Nat} {n : Nd} {s : ByteArray} : Path ns b i → ns[i]? = some n → s ∈ n.after → findP ns s = some j → Path ns b j

/-- Node a gets one more name in its After. -/
def addA (n : Nd) (s : ByteArray) : Nd := { n with after := n.after ++ [s] }
def loopNs (ns : List Nd) (a : Nat) (s : ByteArray) : List Nd := ns.modify a (fun n => addA n s)

theorem loopNs_len (ns : List Nd) (a : Nat) (s : ByteArray) : (loopNs ns a s).length = ns.length := by unfold loopNs; simp

theorem loopNs_at {ns : List Nd} {a : Nat} {s : ByteArray} {i : Nat} : (loopNs ns a s)[i]? = (ns[i]?).map (fun n => if a = i then addA n s else n) := by
  unfold loopNs
  rw [List.getElem?_modify]
  cases ns[i]? <;> rfl

theorem findP_names : ∀ {l m : List Nd}, l.map (·.name) = m.map (·.name) → ∀ s, findP l s = findP m s := by
  intro l m h s
  have e : ∀ (l : List Nd), findP l s = (l.map (·.name)).findIdx? (fun n => decide (n = s)) := fun l => by
    unfold findP
    rw [List.findIdx?_map]
    rfl
  rw [e, e, h]

theorem loopNs_names (ns : List Nd) (a : Nat) (s : ByteArray) : (loopNs ns a s).map (·.name) = ns.map (·.name) := by
  apply List.ext_getElem?
  intro i
  rw [List.getElem?_map, List.getElem?_map, loopNs_at]
  cases ns[i]? with
  | none => rfl
  | some n => by_cases e : a = i <;> simp [e, addA]

theorem loopNs_find (ns : List Nd) (a : Nat) (s t : ByteArray) : findP (loopNs ns a s) t = findP ns t := findP_names (loopNs_names ns a s) t

theorem aheadP_find {ns : List Nd} {n : Nd} {s : ByteArray} {j : Nat} (h : aheadP ns n s = some j) : findP ns s = some j := by
  unfold aheadP at h
  split at h
  · cases h
  · exact h

theorem loop_not {name : ByteArray} {ns : List Nd} (T : Taken name ns) {a b : Nat} (ha : a < ns.length) (hb : b < ns.length) (P : Path ns b a) : (ordP (loopNs ns a (ns[b]).name)).length ≠ (loopNs ns a (ns[b]).name).length := by
  intro hf
  have O := lev_ord (loopNs ns a (ns[b]).name)
  have hall := ord_all hf
  rw [loopNs_len] at hall
  have hle : ∀ j, Path ns b j → j < ns.length ∧ rowP (loopNs ns a (ns[b]).name) j ≤ rowP (loopNs ns a (ns[b]).name) b := by
    intro j p
    induction p with
    | refl => exact ⟨hb, Nat.le_refl _⟩
    | @step i j n s p hn hs hj ih =>
      obtain ⟨hi, hle⟩ := ih
      have hm := hall i hi
      have hn' : (loopNs ns a (ns[b]).name)[i]? = some (if a = i then addA n (ns[b]).name else n) := by rw [loopNs_at, hn]; rfl
      obtain ⟨j', hj', _, hlt⟩ := O.aft i hm _ hn' s (by split; (exact List.mem_append_left _ hs); exact hs)
      have e : j' = j := by
        have hj'' := aheadP_find hj'
        rw [loopNs_find, hj] at hj''
        exact (Option.some.inj hj'').symm
      subst e
      exact ⟨findP_lt hj, by omega⟩
  have h1 := (hle a P).2
  have hn' : (loopNs ns a (ns[b]).name)[a]? = some (addA ns[a] (ns[b]).name) := by rw [loopNs_at, List.getElem?_eq_getElem ha]; simp
  obtain ⟨j', hj', _, hlt⟩ := O.aft a (hall a ha) _ hn' (ns[b]).name (List.mem_append_right _ (by simp))
  have e : j' = b := by
    have hj'' := aheadP_find hj'
    rw [loopNs_find, T.self hb] at hj''
    exact (Option.some.inj hj'').symm
  subst e
  omega

theorem loop_check {name : ByteArray} {ns : List Nd} (T : Taken name ns) {a b : Nat} (ha : a < ns.length) (hb : b < ns.length) (P : Path ns b a) (hm : (ns[b]).name ∉ (ns[a]).after) : checkP name (loopNs ns a (ns[b]).name) = (-1, 15) := by
  have hl := loopNs_len ns a (ns[b]).name
  have hat : ∀ i (h : i < (loopNs ns a (ns[b]).name).length), ∃ hi : i < ns.length, (loopNs ns a (ns[b]).name)[i] = if a = i then addA ns[i] (ns[b]).name else ns[i] := fun i h => by
    have hi : i < ns.length := by omega
    refine ⟨hi, ?_⟩
    have := loopNs_at (ns := ns) (a := a) (s := (ns[b]).name) (i := i)
    rw [List.getElem?_eq_getElem h, List.getElem?_eq_getElem hi] at this
    exact Option.some.inj this
  refine check_loop T.name (by have := T.lo; omega) (by have := T.hi; omega) (fun i h => ?_) (fun i h => ?_) (loop_not T ha hb P)
  · obtain ⟨hi, e⟩ := hat i h
    obtain ⟨h1, h2, h3⟩ := nodeE_ok (T.nod i hi)
    rw [e]
    refine nodeE_of ?_ ?_ ?_
    · split; (exact h1); exact h1
    · rw [loopNs_find]; split; (exact h2); exact h2
    · split; (exact h3); exact h3
  · obtain ⟨hi, e⟩ := hat i h
    obtain ⟨h1, h2⟩ := afterE_ok (T.aft i hi)
    rw [e]
    by_cases c : a = i
    · subst c
      rw [if_pos rfl]
      refine afterE_of (fun s hs => ?_) ?_
      · rw [loopNs_find]
        rcases List.mem_append.1 hs with hs | hs
        · exact h1 s hs
        · simp at hs; subst hs; exact findP_mem (List.getElem_mem hb)
      · show ((ns[a]).after ++ [(ns[b]).name]).Nodup
        rw [List.nodup_append]
        exact ⟨h2, by simp, fun x hx y hy e => by simp at hy; subst hy; subst e; exact hm hx⟩
    · rw [if_neg c]
      exact afterE_of (fun s hs => by rw [loopNs_find]; exact h1 s hs) h2

end Go.Proofs.YtfjekjbkifmpfaaDoor
