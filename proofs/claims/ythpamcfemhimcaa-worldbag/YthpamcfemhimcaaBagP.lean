/-
  Counting: the parcels of one byte, and an array of twenty numbers.
-/
import Derived.Test.YthpamcfemhimcaaNetPuts
namespace Go.Proofs.Ythpamcfemhimcaa
open Go.RowKit

/-- How many parcels have just the byte j. -/
def cntL (l : List PX) (j : Nat) : Int := (l.countP (fun x => x.2.2 == [(j : Int)]) : Nat)

def isB (x : PX) (j : Nat) : Int := if x.2.2 = [(j : Int)] then 1 else 0

theorem cntL_nil (j : Nat) : cntL [] j = 0 := rfl

theorem cntL_cons (x : PX) (l : List PX) (j : Nat) : cntL (x :: l) j = cntL l j + isB x j := by
  unfold cntL isB
  rw [List.countP_cons]
  by_cases h : x.2.2 = [(j : Int)]
  · have h' : (x.2.2 == [(j : Int)]) = true := by rw [h]; simp
    rw [if_pos h, if_pos h']; push_cast; rfl
  · have h' : ¬ (x.2.2 == [(j : Int)]) = true := by simpa using h
    rw [if_neg h, if_neg h']; push_cast; rfl

theorem cntL_append (l m : List PX) (j : Nat) : cntL (l ++ m) j = cntL l j + cntL m j := by
  unfold cntL
  rw [List.countP_append]
  push_cast
  rfl

theorem cntL_snoc (l : List PX) (x : PX) (j : Nat) : cntL (l ++ [x]) j = cntL l j + isB x j := by
  rw [cntL_append, cntL_cons, cntL_nil, Int.zero_add]

theorem cntL_erase (l : List PX) (k : Nat) (x : PX) (h : l[k]? = some x) (j : Nat) : cntL (l.eraseIdx k) j = cntL l j - isB x j := by
  obtain ⟨hk, rfl⟩ := List.getElem?_eq_some_iff.1 h
  rw [List.eraseIdx_eq_take_drop_succ, cntL_append]
  have e : cntL l j = cntL (l.take k) j + cntL (l.drop k) j := by rw [← cntL_append, List.take_append_drop]
  rw [List.drop_eq_getElem_cons hk, cntL_cons] at e
  omega

theorem cntL_take (l : List PX) (k : Nat) (x : PX) (h : l[k]? = some x) (j : Nat) : cntL (l.take (k + 1)) j = cntL (l.take k) j + isB x j := by
  rw [List.take_add_one, h]
  exact cntL_snoc _ _ _

theorem cntL_bd (l : List PX) (j : Nat) : 0 ≤ cntL l j ∧ cntL l j ≤ l.length := by
  unfold cntL
  have := List.countP_le_length (l := l) (p := fun x => x.2.2 == [(j : Int)])
  omega

theorem isB_bd (x : PX) (j : Nat) : 0 ≤ isB x j ∧ isB x j ≤ 1 := by
  unfold isB; split <;> omega

/-- Each parcel has one byte, below twenty. -/
def Bag (l : List PX) : Prop := ∀ x ∈ l, ∃ b : Nat, x.2.2 = [(b : Int)] ∧ b < 20

theorem isB_self {x : PX} {b : Nat} (h : x.2.2 = [(b : Int)]) (j : Nat) : isB x j = if j = b then 1 else 0 := by
  unfold isB
  rw [h]
  by_cases e : j = b
  · subst e; simp
  · rw [if_neg e, if_neg]
    intro h'
    simp at h'
    omega

/-- Twenty numbers in block cb. -/
structure CntAt (w : World) (cb : Nat) (f : Nat → Int) : Prop where
  cell : ∀ j, j < 20 → w.cell? ⟨cb, j, none⟩ = some (.int .i64 (f j)) ∧ w.frozen? ⟨cb, j, none⟩ = false

theorem CntAt.kept {w w' : World} {S : Nat → Prop} {cb : Nat} {f : Nat → Int} (C : CntAt w cb f) (K : Kept S w w') (h : ¬ S cb) : CntAt w' cb f :=
  ⟨fun j hj => by
    obtain ⟨c, z⟩ := C.cell j hj
    have hb := K.block cb (World.block_lt_of_cell? w _ c) h
    exact ⟨(World.cell?_of_block hb).trans c, (World.frozen?_of_block hb).trans z⟩⟩

theorem CntAt.lt {w : World} {cb : Nat} {f : Nat → Int} (C : CntAt w cb f) : cb < w.heap.size := World.block_lt_of_cell? w _ (C.cell 0 (by decide)).1

theorem CntAt.set {w : World} {cb : Nat} {f g : Nat → Int} (C : CntAt w cb f) {b : Nat} (hb : b < 20) (hg : ∀ j, j < 20 → g j = if j = b then g b else f j) : CntAt (w.setCell ⟨cb, b, none⟩ (.int .i64 (g b))) cb g :=
  ⟨fun j hj => by
    obtain ⟨c, z⟩ := C.cell j hj
    refine ⟨?_, by rw [World.frozen?_setCell]; exact z⟩
    by_cases e : j = b
    · subst e
      exact World.cell?_setCell_same' w ⟨cb, j, none⟩ _ (by rw [c]; rfl)
    · rw [World.cell?_setCell_other _ _ _ _ (fun h => e (by cases h; rfl)), c, hg j hj, if_neg e]⟩

theorem cntNew (w : World) (T : TypeId) : CntAt (w.alloc (.cells #[.int .i64 0, .int .i64 0, .int .i64 0, .int .i64 0, .int .i64 0, .int .i64 0, .int .i64 0, .int .i64 0, .int .i64 0, .int .i64 0, .int .i64 0, .int .i64 0, .int .i64 0, .int .i64 0, .int .i64 0, .int .i64 0, .int .i64 0, .int .i64 0, .int .i64 0, .int .i64 0] T)) w.heap.size (fun _ => 0) := by
  refine ⟨fun j hj => ?_⟩
  have h := heap_alloc_new w (.cells #[.int .i64 0, .int .i64 0, .int .i64 0, .int .i64 0, .int .i64 0, .int .i64 0, .int .i64 0, .int .i64 0, .int .i64 0, .int .i64 0, .int .i64 0, .int .i64 0, .int .i64 0, .int .i64 0, .int .i64 0, .int .i64 0, .int .i64 0, .int .i64 0, .int .i64 0, .int .i64 0] T)
  constructor
  · unfold World.cell?
    rw [h]
    match j, hj with
    | 0, _ | 1, _ | 2, _ | 3, _ | 4, _ | 5, _ | 6, _ | 7, _ | 8, _ | 9, _ | 10, _ | 11, _ | 12, _ | 13, _ | 14, _ | 15, _ | 16, _ | 17, _ | 18, _ | 19, _ => rfl
    | j + 20, h => omega
  · unfold World.frozen?
    rw [h]
    rfl

/-- What stands: the net is the row l, and the numbers count it. -/
structure BSt (w wr : World) (d cb : Nat) (l : List PX) : Prop where
  net : ∃ (S : Nat → Prop) (v : Value) (ps : List PV), NetW 1000 wr S d v ps ∧ ps.map PV.pure = l ∧ (∀ k, S k → w.heap.size ≤ k ∧ k ≠ cb)
  cnt : CntAt wr cb (cntL l)
  bag : Bag l
  lo : w.heap.size ≤ cb
  below : Below w.heap.size w wr

/-- Beside it all goes on. -/
theorem BSt.kept {w wr w' : World} {d cb : Nat} {l : List PX} {S' : Nat → Prop} (B : BSt w wr d cb l) (K : Kept S' wr w') (h : ∀ k, S' k → wr.heap.size ≤ k) : BSt w w' d cb l := by
  obtain ⟨S, v, ps, N, hl, hS⟩ := B.net
  have hc := B.cnt.lt
  have hb := B.below.size
  exact ⟨⟨S, v, ps, N.kept K (fun k hk h' => by have := h k h'; have := N.bnd k hk; omega), hl, hS⟩, B.cnt.kept K (fun h' => by have := h cb h'; omega), B.bag, B.lo, B.below.trans (K.below hb (fun k h' => by have := h k h'; omega))⟩

/-- Behind a call on the net, and the count of it. -/
theorem BSt.to {w wr w1 : World} {d cb : Nat} {l l' : List PX} {S : Nat → Prop} (B : BSt w wr d cb l) (hS : ∀ k, S k → w.heap.size ≤ k ∧ k ≠ cb) (T : NetTo 53 (hdW 1000) wr S d l' w1) (hbag : Bag l') {b : Nat} (hb : b < 20) (hg : ∀ j, j < 20 → cntL l' j = if j = b then cntL l' b else cntL l j) :
    CntAt w1 cb (cntL l) ∧ BSt w (w1.setCell ⟨cb, b, none⟩ (.int .i64 (cntL l' b))) d cb l' := by
  obtain ⟨S', v', ps', N', hl', K, hS'⟩ := T
  have hc := B.cnt.lt
  have C1 := B.cnt.kept K (fun h => (hS cb h).2 rfl)
  have hb1 := B.below.size
  have KS : Kept (fun k => k = cb) w1 (w1.setCell ⟨cb, b, none⟩ (.int .i64 (cntL l' b))) := Kept.setCell _ _ _ rfl
  have hn : ∀ k, S' k → w.heap.size ≤ k ∧ k ≠ cb := fun k hk => by
    rcases hS' k hk with h | h
    · exact hS k h
    · exact ⟨by omega, by omega⟩
  have hlo := B.lo
  refine ⟨C1, ⟨⟨S', v', ps', N'.kept KS (fun k hk e => (hn k hk).2 e), hl', hn⟩, C1.set hb hg, hbag, hlo, ?_⟩⟩
  exact (B.below.trans (K.below hb1 (fun k hk => (hS k hk).1))).trans (KS.below (Nat.le_trans hb1 K.size) (fun k e => by have e' : k = cb := e; omega))

/-- One more of b. -/
theorem BSt.inc {w wr w1 : World} {d cb : Nat} {l : List PX} {x : PX} {S : Nat → Prop} (B : BSt w wr d cb l) (hS : ∀ k, S k → w.heap.size ≤ k ∧ k ≠ cb) {b : Nat} (hb : b < 20) (hx : x.2.2 = [(b : Int)]) (T : NetTo 53 (hdW 1000) wr S d (l ++ [x]) w1) :
    (w1.cell? ⟨cb, b, none⟩ = some (.int .i64 (cntL l b)) ∧ w1.frozen? ⟨cb, b, none⟩ = false) ∧ BSt w (w1.setCell ⟨cb, b, none⟩ (.int .i64 (cntL l b + 1))) d cb (l ++ [x]) := by
  have hc : ∀ j, cntL (l ++ [x]) j = cntL l j + if j = b then 1 else 0 := fun j => by rw [cntL_snoc, isB_self hx]
  have e : cntL (l ++ [x]) b = cntL l b + 1 := by rw [hc, if_pos rfl]
  obtain ⟨C, R⟩ := B.to hS T (fun y hy => by
    rcases List.mem_append.1 hy with h | h
    · exact B.bag y h
    · obtain rfl : y = x := by simpa using h
      exact ⟨b, hx, hb⟩) hb (fun j _ => by
    by_cases h : j = b
    · rw [if_pos h, h]
    · rw [if_neg h, hc, if_neg h, Int.add_zero])
  rw [e] at R
  exact ⟨C.cell b hb, R⟩

/-- One less of b. -/
theorem BSt.dec {w wr w1 : World} {d cb : Nat} {l : List PX} {x : PX} {i : Nat} {S : Nat → Prop} (B : BSt w wr d cb l) (hS : ∀ k, S k → w.heap.size ≤ k ∧ k ≠ cb) {b : Nat} (hb : b < 20) (hi : l[i]? = some x) (hx : x.2.2 = [(b : Int)]) (T : NetTo 53 (hdW 1000) wr S d (l.eraseIdx i) w1) :
    (w1.cell? ⟨cb, b, none⟩ = some (.int .i64 (cntL l b)) ∧ w1.frozen? ⟨cb, b, none⟩ = false) ∧ BSt w (w1.setCell ⟨cb, b, none⟩ (.int .i64 (cntL l b - 1))) d cb (l.eraseIdx i) := by
  have hc : ∀ j, cntL (l.eraseIdx i) j = cntL l j - if j = b then 1 else 0 := fun j => by rw [cntL_erase l i x hi, isB_self hx]
  have e : cntL (l.eraseIdx i) b = cntL l b - 1 := by rw [hc, if_pos rfl]
  obtain ⟨C, R⟩ := B.to hS T (fun y hy => B.bag y (List.mem_of_mem_eraseIdx hy)) hb (fun j _ => by
    by_cases h : j = b
    · rw [if_pos h, h]
    · rw [if_neg h, hc, if_neg h, Int.sub_zero])
  rw [e] at R
  exact ⟨C.cell b hb, R⟩

theorem BSt.new {w w1 : World} (N1 : NetW 1000 w1 (fun k => k = w.heap.size) w.heap.size (.slice none 0 0) []) (K1 : Kept (fun _ => False) w w1) (hz1 : w1.heap.size = w.heap.size + 1) (T : TypeId) :
    BSt w (w1.alloc (.cells #[.int .i64 0, .int .i64 0, .int .i64 0, .int .i64 0, .int .i64 0, .int .i64 0, .int .i64 0, .int .i64 0, .int .i64 0, .int .i64 0, .int .i64 0, .int .i64 0, .int .i64 0, .int .i64 0, .int .i64 0, .int .i64 0, .int .i64 0, .int .i64 0, .int .i64 0, .int .i64 0] T)) w.heap.size w1.heap.size [] :=
  ⟨⟨_, _, [], N1.keptN (Kept.alloc _ _ _), rfl, fun k hk => by subst hk; exact ⟨Nat.le_refl _, by omega⟩⟩, cntNew w1 T, fun x hx => (by cases hx), by omega, (K1.and (Kept.alloc _ _ _)).none⟩

end Go.Proofs.Ythpamcfemhimcaa
