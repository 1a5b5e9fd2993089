/-
  The document's disk as plain data, and when the disk is the same as it.
-/
import Derived.Test.YtdbmefjagggnoaaKeepMore
namespace Go.Proofs.Ytdbmefjagggnoaa
open Go.RowKit

structure RF where
  n : Int
  bytes : List Int
  kept : Nat

structure RSt where
  L : List RF
  faults : List (Int × Int)
  stop : Int
  count : Int

def posL : List RF → Int → Nat
  | [], _ => 0
  | g :: r, x => if g.n < x then posL r x + 1 else 0
def hitL : List RF → Int → Bool
  | [], _ => false
  | g :: r, x => if g.n < x then hitL r x else decide (g.n = x)
def getL : List RF → Int → Option RF
  | [], _ => none
  | g :: r, x => if g.n = x then some g else getL r x
def setL : List RF → Int → RF → List RF
  | [], _, f => [f]
  | g :: r, x, f => if g.n < x then g :: setL r x f else if g.n = x then f :: r else f :: g :: r
def delL : List RF → Int → List RF
  | [], _ => []
  | g :: r, x => if g.n < x then g :: delL r x else if g.n = x then r else g :: r

def Rising (l : List RF) : Prop := l.Pairwise (fun a b => a.n < b.n)

theorem posL_le : ∀ (l : List RF) (x : Int), posL l x ≤ l.length
  | [], _ => Nat.le_refl _
  | g :: r, x => by
    have := posL_le r x
    unfold posL
    split
    · simp; omega
    · simp

theorem posL_lt : ∀ (l : List RF) (x : Int), hitL l x = true → posL l x < l.length
  | [], _, h => by cases h
  | g :: r, x, h => by
    unfold hitL at h
    unfold posL
    split
    · rename_i hc
      rw [if_pos hc] at h
      have := posL_lt r x h
      simp; omega
    · simp

theorem setL_eq : ∀ (l : List RF) (x : Int) (f : RF), setL l x f = l.take (posL l x) ++ f :: l.drop (posL l x + if hitL l x then 1 else 0)
  | [], _, _ => by simp [setL, posL, hitL]
  | g :: r, x, f => by
    unfold setL posL hitL
    by_cases h : g.n < x
    · have := setL_eq r x f
      simp only [if_pos h, this]
      have e : ∀ k : Nat, posL r x + 1 + k = (posL r x + k) + 1 := fun k => by omega
      rw [e]
      simp
    · simp only [if_neg h]
      by_cases h2 : g.n = x
      · simp [h2]
      · simp [h2]

theorem delL_eq : ∀ (l : List RF) (x : Int), hitL l x = true → delL l x = l.take (posL l x) ++ l.drop (posL l x + 1)
  | [], _, h => by cases h
  | g :: r, x, h => by
    unfold hitL at h
    unfold delL posL
    by_cases hc : g.n < x
    · rw [if_pos hc] at h
      simp only [if_pos hc, delL_eq r x h]
      simp
    · rw [if_neg hc] at h
      have h2 : g.n = x := by simpa using h
      simp [h2]

theorem delL_not : ∀ (l : List RF) (x : Int), hitL l x = false → delL l x = l
  | [], _, _ => rfl
  | g :: r, x, h => by
    unfold hitL at h
    unfold delL
    by_cases hc : g.n < x
    · rw [if_pos hc] at h
      simp only [if_pos hc, delL_not r x h]
    · rw [if_neg hc] at h
      have h2 : ¬ g.n = x := by simpa using h
      simp [hc, h2]

theorem getL_none_of_lt : ∀ (l : List RF) (x : Int), (∀ g ∈ l, x < g.n) → getL l x = none
  | [], _, _ => rfl
  | g :: r, x, h => by
    have h1 := h g (by simp)
    unfold getL
    rw [if_neg (by omega), getL_none_of_lt r x (fun g hg => h g (List.mem_cons_of_mem _ hg))]

theorem getL_pos : ∀ (l : List RF) (x : Int), Rising l → getL l x = if hitL l x then l[posL l x]? else none
  | [], _, _ => rfl
  | g :: r, x, hr => by
    have hr2 := List.pairwise_cons.1 hr
    unfold getL hitL posL
    by_cases h : g.n < x
    · have := getL_pos r x hr2.2
      simp only [if_pos h, if_neg (show ¬ g.n = x by omega), this]
      simp
    · simp only [if_neg h]
      by_cases h2 : g.n = x
      · simp [h2]
      · simp only [if_neg h2]
        have := getL_none_of_lt r x (fun g' hg => by have := hr2.1 g' hg; omega)
        simp [this, h2]

theorem setL_mem : ∀ (l : List RF) (x : Int) (f g : RF), g ∈ setL l x f → g = f ∨ g ∈ l
  | [], _, f, g, h => by simp [setL] at h; exact .inl h
  | a :: r, x, f, g, h => by
    unfold setL at h
    split at h
    · rcases List.mem_cons.1 h with h | h
      · exact .inr (by simp [h])
      · exact (setL_mem r x f g h).imp id (fun h => List.mem_cons_of_mem _ h)
    · split at h
      · rcases List.mem_cons.1 h with h | h
        · exact .inl h
        · exact .inr (List.mem_cons_of_mem _ h)
      · rcases List.mem_cons.1 h with h | h
        · exact .inl h
        · exact .inr h

theorem setL_rising : ∀ (l : List RF) (x : Int) (f : RF), Rising l → f.n = x → Rising (setL l x f)
  | [], _, f, _, _ => by simp [setL, Rising]
  | g :: r, x, f, hr, hf => by
    have hr2 := List.pairwise_cons.1 hr
    unfold setL
    split
    · rename_i h
      refine List.pairwise_cons.2 ⟨fun a ha => ?_, setL_rising r x f hr2.2 hf⟩
      rcases setL_mem r x f a ha with rfl | h'
      · omega
      · exact hr2.1 a h'
    · rename_i h
      split
      · rename_i h2
        exact List.pairwise_cons.2 ⟨fun a ha => by have := hr2.1 a ha; omega, hr2.2⟩
      · rename_i h2
        refine List.pairwise_cons.2 ⟨fun a ha => ?_, hr⟩
        rcases List.mem_cons.1 ha with rfl | h'
        · omega
        · have := hr2.1 a h'; omega

theorem getL_set : ∀ (l : List RF) (x : Int) (f : RF), f.n = x → ∀ y, getL (setL l x f) y = if y = x then some f else getL l y
  | [], x, f, hf, y => by
    unfold setL getL getL
    by_cases h : y = x
    · rw [if_pos (by omega), if_pos h]
    · rw [if_neg (by omega), if_neg h]
  | g :: r, x, f, hf, y => by
    unfold setL
    split
    · rename_i h
      have ih := getL_set r x f hf y
      show (if g.n = y then some g else getL (setL r x f) y) = if y = x then some f else (if g.n = y then some g else getL r y)
      rw [ih]
      by_cases h1 : g.n = y
      · rw [if_pos h1, if_neg (by omega), if_pos h1]
      · rw [if_neg h1, if_neg h1]
    · rename_i h
      split
      · rename_i h2
        show (if f.n = y then some f else getL r y) = if y = x then some f else (if g.n = y then some g else getL r y)
        by_cases h1 : y = x
        · rw [if_pos (by omega), if_pos h1]
        · rw [if_neg (by omega), if_neg h1, if_neg (by omega)]
      · rename_i h2
        show (if f.n = y then some f else (if g.n = y then some g else getL r y)) = if y = x then some f else (if g.n = y then some g else getL r y)
        by_cases h1 : y = x
        · rw [if_pos (by omega), if_pos h1]
        · rw [if_neg (by omega), if_neg h1]

theorem delL_mem : ∀ (l : List RF) (x : Int) (g : RF), g ∈ delL l x → g ∈ l
  | [], _, _, h => by simp [delL] at h
  | a :: r, x, g, h => by
    unfold delL at h
    split at h
    · rcases List.mem_cons.1 h with h | h
      · simp [h]
      · exact List.mem_cons_of_mem _ (delL_mem r x g h)
    · split at h
      · exact List.mem_cons_of_mem _ h
      · exact h

theorem delL_rising : ∀ (l : List RF) (x : Int), Rising l → Rising (delL l x)
  | [], _, _ => by simp [delL, Rising]
  | g :: r, x, hr => by
    have hr2 := List.pairwise_cons.1 hr
    unfold delL
    split
    · exact List.pairwise_cons.2 ⟨fun a ha => hr2.1 a (delL_mem r x a ha), delL_rising r x hr2.2⟩
    · split
      · exact hr2.2
      · exact hr

theorem getL_del : ∀ (l : List RF) (x : Int), Rising l → ∀ y, getL (delL l x) y = if y = x then none else getL l y
  | [], x, _, y => by simp [delL, getL]
  | g :: r, x, hr, y => by
    have hr2 := List.pairwise_cons.1 hr
    unfold delL
    split
    · rename_i h
      have ih := getL_del r x hr2.2 y
      show (if g.n = y then some g else getL (delL r x) y) = if y = x then none else (if g.n = y then some g else getL r y)
      rw [ih]
      by_cases h1 : g.n = y
      · rw [if_pos h1, if_neg (by omega), if_pos h1]
      · rw [if_neg h1, if_neg h1]
    · rename_i h
      split
      · rename_i h2
        show getL r y = if y = x then none else (if g.n = y then some g else getL r y)
        by_cases h1 : y = x
        · rw [if_pos h1]
          exact getL_none_of_lt r y (fun a ha => by have := hr2.1 a ha; omega)
        · rw [if_neg h1, if_neg (by omega)]
      · rename_i h2
        show (if g.n = y then some g else getL r y) = if y = x then none else (if g.n = y then some g else getL r y)
        by_cases h1 : y = x
        · rw [if_pos h1, if_neg (by omega)]
          exact getL_none_of_lt r y (fun a ha => by have := hr2.1 a ha; omega)
        · rw [if_neg h1]

theorem getL_mem : ∀ (l : List RF) (x : Int), (getL l x).isSome = true ↔ x ∈ l.map (·.n)
  | [], x => by simp [getL]
  | g :: r, x => by
    unfold getL
    by_cases h : g.n = x
    · simp [h]
    · rw [if_neg h, getL_mem r x]
      simp only [List.map_cons, List.mem_cons]
      constructor
      · exact .inr
      · rintro (h' | h')
        · exact absurd h'.symm h
        · exact h'

/-- Two rows that rise and have the same members are one. -/
theorem rising_eq : ∀ (l m : List Int), l.Pairwise (· < ·) → m.Pairwise (· < ·) → (∀ x, x ∈ l ↔ x ∈ m) → l = m
  | [], [], _, _, _ => rfl
  | [], y :: m, _, _, h => absurd ((h y).2 (by simp)) (by simp)
  | x :: l, [], _, _, h => absurd ((h x).1 (by simp)) (by simp)
  | x :: l, y :: m, hl, hm, h => by
    have hl2 := List.pairwise_cons.1 hl
    have hm2 := List.pairwise_cons.1 hm
    have hxy : x = y := by
      have h1 : x ∈ y :: m := (h x).1 (by simp)
      have h2 : y ∈ x :: l := (h y).2 (by simp)
      rcases List.mem_cons.1 h1 with e | e
      · exact e
      · rcases List.mem_cons.1 h2 with e2 | e2
        · exact e2.symm
        · have := hm2.1 x e; have := hl2.1 y e2; omega
    subst hxy
    rw [rising_eq l m hl2.2 hm2.2 (fun z => ?_)]
    constructor
    · intro hz
      have := (h z).1 (List.mem_cons_of_mem _ hz)
      rcases List.mem_cons.1 this with e | e
      · have := hl2.1 z hz; omega
      · exact e
    · intro hz
      have := (h z).2 (List.mem_cons_of_mem _ hz)
      rcases List.mem_cons.1 this with e | e
      · have := hm2.1 z hz; omega
      · exact e

/-! ### the document's operations -/
def RSt.struck (rs : RSt) : Option (Int × Int) := rs.faults.find? (fun p => decide (¬ 0 < p.1))
def RSt.after (rs : RSt) : RSt := { rs with faults := (rs.faults.filter (fun p => decide (0 < p.1))).map (fun p => (p.1 - 1, p.2)), stop := if 0 < rs.stop then rs.stop - 1 else rs.stop, count := rs.count + 1 }
def RSt.err (rs : RSt) (x : Int) : Int := if rs.stop = 0 then 4 else if rs.struck.isSome then 3 else if x < 0 then 1 else 0
def RSt.half (rs : RSt) : Bool := if rs.stop = 0 then false else match rs.struck with | some p => p.2 == 2 | none => false
def addF (o : Option RF) (x : Int) (b : List Int) : RF := match o with | some f => ⟨x, f.bytes ++ b, f.kept⟩ | none => ⟨x, b, 0⟩
def RSt.add (rs : RSt) (x : Int) (b : List Int) : RSt := if b = [] then rs else { rs with L := setL rs.L x (addF (getL rs.L x) x b) }
def RSt.append (rs : RSt) (x : Int) (b : List Int) : RSt :=
  if rs.half = true ∧ 0 ≤ x then rs.after.add x (b.take (b.length / 2)) else if rs.err x = 0 then rs.after.add x b else rs.after
def RSt.sync (rs : RSt) (x : Int) : RSt :=
  if rs.err x = 0 then (match getL rs.L x with | some f => { rs.after with L := setL rs.L x ⟨x, f.bytes, f.bytes.length⟩ } | none => rs.after) else rs.after
def RSt.delete (rs : RSt) (x : Int) : RSt := if rs.err x = 0 then { rs.after with L := delL rs.L x } else rs.after
def RSt.fail (rs : RSt) (after kind : Int) : RSt := { rs with faults := rs.faults ++ [(max after 0, kind)] }
def RSt.stopIn (rs : RSt) (after : Int) : RSt := { rs with stop := max after 0 }
def crashL : List RF → List Int → List RF
  | [], _ => []
  | f :: r, cs => (match cutF ⟨f.bytes, f.kept⟩ (cs.headD 0) with | some d => [⟨f.n, d.bytes, d.kept⟩] | none => []) ++ crashL r cs.tail
def RSt.crash (rs : RSt) (cs : List Int) : RSt := { rs with L := crashL rs.L cs, faults := [], stop := -1 }
def RSt.bytesOf (rs : RSt) (x : Int) : List Int := match getL rs.L x with | some f => f.bytes | none => []
def RSt.keptOf (rs : RSt) (x : Int) : Int := match getL rs.L x with | some f => f.kept | none => 0

/-- The disk is the document's. -/
structure Sim (st : DSt) (rs : RSt) : Prop where
  files : ∀ x, st.files x = (getL rs.L x).map (fun f => ⟨f.bytes, f.kept⟩)
  rising : Rising rs.L
  ops : st.ops = rs.count
  ops0 : 0 ≤ rs.count
  stop : ∀ j : Int, 0 ≤ j → rs.count + j < 4611686018427387904 → (st.stop ≤ rs.count + j ↔ 0 ≤ rs.stop ∧ rs.stop ≤ j)
  stopLo : -1 ≤ rs.stop
  faults : ∀ j : Int, 0 ≤ j → rs.count + j < 4611686018427387904 → st.faults (rs.count + j) = (rs.faults.find? (fun p => decide (p.1 = j))).map (·.2)
  faultsLo : ∀ p ∈ rs.faults, 0 ≤ p.1

theorem Sim.struck {st : DSt} {rs : RSt} (h : Sim st rs) : rs.struck = rs.faults.find? (fun p => decide (p.1 = 0)) := by
  unfold RSt.struck
  have := h.faultsLo
  generalize rs.faults = l at this
  induction l with
  | nil => rfl
  | cons p r ih =>
    have h0 := this p (by simp)
    simp only [List.find?_cons]
    by_cases e : p.1 = 0
    · have : (decide (¬ 0 < p.1)) = true := by simp; omega
      rw [this]; simp [e]
    · have h1 : (decide (¬ 0 < p.1)) = false := by simp; omega
      rw [h1]; simp only [e, decide_false]
      exact ih (fun q hq => this q (List.mem_cons_of_mem _ hq))

theorem Sim.err {st : DSt} {rs : RSt} (h : Sim st rs) (hc : rs.count < 4611686018427387904) (x : Int) : st.err x = rs.err x := by
  unfold DSt.err RSt.err
  have h1 := h.stop 0 (by omega) (by omega)
  have h2 := h.faults 0 (by omega) (by omega)
  rw [h.ops, h.struck]
  rw [Int.add_zero] at h1 h2
  rw [h2]
  by_cases e : rs.stop = 0
  · rw [if_pos (h1.2 (by omega)), if_pos e]
  · have hn : ¬ st.stop ≤ rs.count := fun h' => e (by have := h1.1 h'; omega)
    rw [if_neg hn, if_neg e, Option.isSome_map]

theorem Sim.kind {st : DSt} {rs : RSt} (h : Sim st rs) (hc : rs.count < 4611686018427387904) (x : Int) : (rs.half = true ↔ st.err x = 3 ∧ st.kind = 2) := by
  rw [h.err hc x]
  unfold RSt.half RSt.err DSt.kind
  have h1 := h.stop 0 (by omega) (by omega)
  have h2 := h.faults 0 (by omega) (by omega)
  rw [h.ops, h.struck]
  rw [Int.add_zero] at h1 h2
  rw [h2]
  by_cases e : rs.stop = 0
  · simp [e]
  · have hn : ¬ st.stop ≤ rs.count := fun h' => e (by have := h1.1 h'; omega)
    rw [if_neg e, if_neg e, if_neg hn]
    cases hf : rs.faults.find? (fun p => decide (p.1 = 0)) with
    | none => simp
    | some p => simp

theorem find_shift : ∀ (l : List (Int × Int)) (j : Int), 0 ≤ j → (∀ p ∈ l, 0 ≤ p.1) →
    ((l.filter (fun p => decide (0 < p.1))).map (fun p => (p.1 - 1, p.2))).find? (fun p => decide (p.1 = j)) = (l.find? (fun p => decide (p.1 = j + 1))).map (fun p => (p.1 - 1, p.2))
  | [], _, _, _ => rfl
  | p :: r, j, hj, h => by
    have h0 := h p (by simp)
    have ih := find_shift r j hj (fun q hq => h q (List.mem_cons_of_mem _ hq))
    by_cases e : 0 < p.1
    · have e1 : decide (0 < p.1) = true := by simpa using e
      simp only [List.filter_cons, e1, if_true, List.map_cons, List.find?_cons]
      by_cases e2 : p.1 = j + 1
      · have d1 : decide (p.1 - 1 = j) = true := by simp; omega
        have d2 : decide (p.1 = j + 1) = true := by simpa using e2
        rw [d1, d2]; rfl
      · have d1 : decide (p.1 - 1 = j) = false := by simp; omega
        have d2 : decide (p.1 = j + 1) = false := by simpa using e2
        rw [d1, d2]; exact ih
    · have e1 : decide (0 < p.1) = false := by simpa using e
      have d2 : decide (p.1 = j + 1) = false := by simp; omega
      simp only [List.filter_cons, e1, List.find?_cons, d2]
      exact ih

theorem Sim.step {st : DSt} {rs : RSt} (h : Sim st rs) : Sim st.after rs.after := by
  refine ⟨h.files, h.rising, by simp [DSt.after, RSt.after, h.ops], by have := h.ops0; simp [RSt.after]; omega, ?_, ?_, ?_, ?_⟩
  · intro j hj hc
    have hc' : rs.count + 1 + j < 4611686018427387904 := hc
    have := h.stop (j + 1) (by omega) (by omega)
    show st.stop ≤ rs.count + 1 + j ↔ 0 ≤ (if 0 < rs.stop then rs.stop - 1 else rs.stop) ∧ (if 0 < rs.stop then rs.stop - 1 else rs.stop) ≤ j
    rw [show rs.count + 1 + j = rs.count + (j + 1) by omega, this]
    split <;> omega
  · have := h.stopLo
    show -1 ≤ (if 0 < rs.stop then rs.stop - 1 else rs.stop)
    split <;> omega
  · intro j hj hc
    have hc' : rs.count + 1 + j < 4611686018427387904 := hc
    have := h.faults (j + 1) (by omega) (by omega)
    show (if rs.count + 1 + j = st.ops then none else st.faults (rs.count + 1 + j)) = _
    rw [h.ops, if_neg (by omega), show rs.count + 1 + j = rs.count + (j + 1) by omega, this]
    show _ = Option.map (·.2) (((rs.faults.filter (fun p => decide (0 < p.1))).map (fun p => (p.1 - 1, p.2))).find? (fun p => decide (p.1 = j)))
    rw [find_shift _ j hj h.faultsLo, Option.map_map]
    rfl
  · intro p hp
    have hp' : p ∈ (rs.faults.filter (fun p => decide (0 < p.1))).map (fun p => (p.1 - 1, p.2)) := hp
    obtain ⟨q, hq, rfl⟩ := List.mem_map.1 hp'
    have := (List.mem_filter.1 hq).2
    simp only [decide_eq_true_eq] at this
    show 0 ≤ q.1 - 1
    omega

/-- Other files, all else the same. -/
theorem Sim.withFiles {st : DSt} {rs : RSt} (h : Sim st rs) {F : Int → Option DFile} {L : List RF} (hF : ∀ x, F x = (getL L x).map (fun f => ⟨f.bytes, f.kept⟩)) (hL : Rising L) : Sim { st with files := F } { rs with L := L } :=
  ⟨hF, hL, h.ops, h.ops0, h.stop, h.stopLo, h.faults, h.faultsLo⟩

theorem Sim.put {st : DSt} {rs : RSt} (h : Sim st rs) (x : Int) (b : List Int) : Sim (st.put x b) (rs.add x b) := by
  unfold DSt.put RSt.add
  by_cases e : b = []
  · rw [if_pos e, if_pos e]; exact h
  · rw [if_neg e, if_neg e]
    have hn : (addF (getL rs.L x) x b).n = x := by unfold addF; split <;> rfl
    refine h.withFiles (fun y => ?_) (setL_rising _ _ _ h.rising hn)
    rw [getL_set _ _ _ hn]
    unfold setF
    by_cases e2 : y = x
    · rw [if_pos e2, if_pos e2, h.files x]
      cases getL rs.L x <;> rfl
    · rw [if_neg e2, if_neg e2, h.files y]

theorem Sim.append {st : DSt} {rs : RSt} (h : Sim st rs) (hc : rs.count < 4611686018427387904) (x : Int) (b : List Int) : Sim (st.append x b) (rs.append x b) := by
  unfold DSt.append RSt.append
  have hk := h.kind hc x
  have he := h.err hc x
  rw [he] at hk ⊢
  by_cases e0 : rs.err x = 0
  · have hn : ¬ (rs.half = true ∧ 0 ≤ x) := fun h' => by have := (hk.1 h'.1).1; omega
    rw [if_pos e0, if_neg hn, if_pos e0]
    exact h.step.put x b
  · rw [if_neg e0]
    by_cases e1 : rs.half = true ∧ 0 ≤ x
    · have := hk.1 e1.1
      rw [if_pos ⟨this.1, this.2, e1.2⟩, if_pos e1]
      exact h.step.put x _
    · rw [if_neg (fun h' => e1 ⟨hk.2 ⟨h'.1, h'.2.1⟩, h'.2.2⟩), if_neg e1, if_neg e0]
      exact h.step

theorem Sim.sync {st : DSt} {rs : RSt} (h : Sim st rs) (hc : rs.count < 4611686018427387904) (x : Int) : Sim (st.sync x) (rs.sync x) := by
  unfold DSt.sync RSt.sync
  rw [h.err hc x]
  by_cases e0 : rs.err x = 0
  · rw [if_pos e0, if_pos e0]
    have hx := h.files x
    cases hg : getL rs.L x with
    | none =>
      rw [hg] at hx
      rw [show st.files x = none from hx]
      exact h.step
    | some f =>
      rw [hg] at hx
      rw [show st.files x = some ⟨f.bytes, f.kept⟩ from hx]
      refine h.step.withFiles (fun y => ?_) (setL_rising _ _ _ h.rising rfl)
      rw [getL_set rs.L x ⟨x, f.bytes, f.bytes.length⟩ rfl]
      unfold setF
      by_cases e2 : y = x
      · rw [if_pos e2, if_pos e2]; rfl
      · rw [if_neg e2, if_neg e2, h.files y]
  · rw [if_neg e0, if_neg e0]; exact h.step

theorem Sim.delete {st : DSt} {rs : RSt} (h : Sim st rs) (hc : rs.count < 4611686018427387904) (x : Int) : Sim (st.delete x) (rs.delete x) := by
  unfold DSt.delete RSt.delete
  rw [h.err hc x]
  by_cases e0 : rs.err x = 0
  · rw [if_pos e0, if_pos e0]
    refine h.step.withFiles (fun y => ?_) (delL_rising _ _ h.rising)
    rw [getL_del _ _ h.rising]
    unfold setF
    by_cases e2 : y = x
    · rw [if_pos e2, if_pos e2]; rfl
    · rw [if_neg e2, if_neg e2, h.files y]
  · rw [if_neg e0, if_neg e0]; exact h.step

theorem Sim.fail {st : DSt} {rs : RSt} (h : Sim st rs) (hc : rs.count < 4611686018427387904) (after kind : Int) : Sim (st.failed after kind) (rs.fail after kind) := by
  refine ⟨h.files, h.rising, h.ops, h.ops0, h.stop, h.stopLo, ?_, ?_⟩
  · intro j hj hc'
    have hc2 : rs.count + j < 4611686018427387904 := hc'
    have hf := h.faults j hj hc2
    have h0 := h.ops0
    show (if rs.count + j = st.at after then (match st.faults (rs.count + j) with | some k => some k | none => some kind) else st.faults (rs.count + j)) = Option.map (·.2) ((rs.faults ++ [(max after 0, kind)]).find? (fun p => decide (p.1 = j)))
    have hat : (rs.count + j = st.at after) ↔ max after 0 = j := by
      unfold DSt.at
      rw [h.ops]
      split <;> omega
    rw [List.find?_append, hf]
    by_cases e : max after 0 = j
    · rw [if_pos (hat.2 e)]
      cases rs.faults.find? (fun p => decide (p.1 = j)) with
      | none => simp [e]
      | some p => simp
    · rw [if_neg (fun h' => e (hat.1 h'))]
      cases rs.faults.find? (fun p => decide (p.1 = j)) with
      | none => simp [e]
      | some p => simp
  · intro p hp
    rcases List.mem_append.1 hp with h' | h'
    · exact h.faultsLo p h'
    · simp at h'; subst h'; show 0 ≤ max after 0; omega

theorem Sim.stopped {st : DSt} {rs : RSt} (h : Sim st rs) (after : Int) : Sim (st.stopped after) (rs.stopIn after) := by
  refine ⟨h.files, h.rising, h.ops, h.ops0, ?_, ?_, h.faults, h.faultsLo⟩
  · intro j hj hc'
    have hc2 : rs.count + j < 4611686018427387904 := hc'
    have h0 := h.ops0
    show st.at after ≤ rs.count + j ↔ 0 ≤ max after 0 ∧ max after 0 ≤ j
    unfold DSt.at
    rw [h.ops]
    split <;> omega
  · show -1 ≤ max after 0
    omega

theorem crashL_mem : ∀ (l : List RF) (cs : List Int) (g : RF), g ∈ crashL l cs → ∃ f ∈ l, f.n = g.n
  | [], _, _, h => by simp [crashL] at h
  | f :: r, cs, g, h => by
    unfold crashL at h
    rcases List.mem_append.1 h with h | h
    · split at h
      · simp at h; exact ⟨f, by simp, by rw [h]⟩
      · simp at h
    · obtain ⟨f', hf, e⟩ := crashL_mem r cs.tail g h
      exact ⟨f', List.mem_cons_of_mem _ hf, e⟩

theorem crashL_rising : ∀ (l : List RF) (cs : List Int), Rising l → Rising (crashL l cs)
  | [], _, _ => by simp [crashL, Rising]
  | f :: r, cs, hr => by
    have hr2 := List.pairwise_cons.1 hr
    have ih := crashL_rising r cs.tail hr2.2
    unfold crashL
    split
    · refine List.pairwise_cons.2 ⟨fun a ha => ?_, ih⟩
      obtain ⟨f', hf, e⟩ := crashL_mem r cs.tail a ha
      have := hr2.1 f' hf
      show f.n < a.n
      omega
    · exact ih

/-- Files one by one, as they are lost. -/
theorem lose_list : ∀ (l : List RF) (cs : List Int) (st : DSt), Rising l → (∀ f ∈ l, st.files f.n = some ⟨f.bytes, f.kept⟩) →
    ∀ y, (st.loseAll (l.map (·.n)) cs).files y = if (getL l y).isSome then (getL (crashL l cs) y).map (fun f => ⟨f.bytes, f.kept⟩) else st.files y
  | [], cs, st, _, _, y => by simp [DSt.loseAll, getL]
  | f :: r, cs, st, hr, hf, y => by
    have hr2 := List.pairwise_cons.1 hr
    have h0 := hf f (by simp)
    have hl : st.lose f.n (cs.headD 0) = { st with files := setF st.files f.n (cutF ⟨f.bytes, f.kept⟩ (cs.headD 0)) } := by unfold DSt.lose; rw [h0]
    have ih := lose_list r cs.tail (st.lose f.n (cs.headD 0)) hr2.2 (fun g hg => by
      rw [hl]
      have := hr2.1 g hg
      show setF st.files f.n _ g.n = _
      unfold setF
      rw [if_neg (by omega)]
      exact hf g (List.mem_cons_of_mem _ hg)) y
    show ((st.lose f.n (cs.headD 0)).loseAll (r.map (·.n)) cs.tail).files y = _
    rw [ih, hl]
    have hnot : ∀ z, z ≤ f.n → getL r z = none := fun z hz => getL_none_of_lt r z (fun g hg => by have := hr2.1 g hg; omega)
    have hnotc : ∀ z, z ≤ f.n → getL (crashL r cs.tail) z = none := fun z hz => getL_none_of_lt _ z (fun g hg => by
      obtain ⟨f', hf', e⟩ := crashL_mem r cs.tail g hg
      have := hr2.1 f' hf'
      omega)
    by_cases e : f.n = y
    · subst e
      rw [hnot f.n (by omega)]
      have e1 : getL (f :: r) f.n = some f := by simp [getL]
      rw [e1]
      simp only [Option.isSome_none, Bool.false_eq_true, if_false, Option.isSome_some, if_true]
      show setF st.files f.n _ f.n = _
      unfold setF
      rw [if_pos rfl]
      unfold crashL
      cases hcut : cutF ⟨f.bytes, f.kept⟩ (cs.headD 0) with
      | none => simp [hnotc f.n (by omega)]
      | some d => simp [getL]
    · have e1 : getL (f :: r) y = getL r y := by simp [getL, e]
      have e2 : getL (crashL (f :: r) cs) y = getL (crashL r cs.tail) y := by
        show getL ((match cutF ⟨f.bytes, f.kept⟩ (cs.headD 0) with | some d => [⟨f.n, d.bytes, d.kept⟩] | none => []) ++ crashL r cs.tail) y = _
        cases cutF ⟨f.bytes, f.kept⟩ (cs.headD 0) with
        | none => rfl
        | some d => show getL (⟨f.n, d.bytes, d.kept⟩ :: crashL r cs.tail) y = _; simp [getL, e]
      rw [e1, e2]
      have e3 : (({ st with files := setF st.files f.n (cutF ⟨f.bytes, f.kept⟩ (cs.headD 0)) } : DSt)).files y = st.files y := by
        show setF st.files f.n _ y = _
        unfold setF
        rw [if_neg (fun h => e h.symm)]
      rw [e3]

theorem Sim.keys {st : DSt} {rs : RSt} (h : Sim st rs) {l : List Int} (hk : IsKeys st l) : l = rs.L.map (·.n) := by
  refine rising_eq l _ hk.rising (List.pairwise_map.2 h.rising) (fun x => ?_)
  rw [hk.mem x, h.files x, Option.isSome_map, getL_mem]

theorem getL_of_mem : ∀ (l : List RF), Rising l → ∀ f ∈ l, getL l f.n = some f
  | [], _, f, h => by simp at h
  | g :: r, hr, f, h => by
    have hr2 := List.pairwise_cons.1 hr
    rcases List.mem_cons.1 h with rfl | h
    · simp [getL]
    · have := hr2.1 f h
      unfold getL
      rw [if_neg (by omega)]
      exact getL_of_mem r hr2.2 f h

theorem Sim.crash {st : DSt} {rs : RSt} (h : Sim st rs) {l : List Int} (hk : IsKeys st l) (cs : List Int) : Sim (st.crash l cs) (rs.crash cs) := by
  have hl := h.keys hk
  subst hl
  refine ⟨fun y => ?_, crashL_rising _ _ h.rising, ?_, h.ops0, ?_, ?_, ?_, ?_⟩
  · show (st.loseAll (rs.L.map (·.n)) cs).files y = (getL (crashL rs.L cs) y).map (fun f => ⟨f.bytes, f.kept⟩)
    rw [lose_list rs.L cs st h.rising (fun f hf => by rw [h.files, getL_of_mem _ h.rising f hf]; rfl) y]
    cases hg : (getL rs.L y).isSome with
    | true => rfl
    | false =>
      simp only [Bool.false_eq_true, if_false]
      rw [h.files y]
      have e1 : getL rs.L y = none := by cases hx : getL rs.L y with | none => rfl | some f => rw [hx] at hg; cases hg
      have e2 : getL (crashL rs.L cs) y = none := by
        cases hx : getL (crashL rs.L cs) y with
        | none => rfl
        | some f =>
          have : y ∈ (crashL rs.L cs).map (·.n) := (getL_mem _ _).1 (by rw [hx]; rfl)
          obtain ⟨g, hg1, hg2⟩ := List.mem_map.1 this
          obtain ⟨f', hf', e⟩ := crashL_mem _ _ _ hg1
          have : (getL rs.L y).isSome = true := (getL_mem _ _).2 (List.mem_map.2 ⟨f', hf', by omega⟩)
          rw [e1] at this; cases this
      rw [e1, e2]
  · show (st.loseAll (rs.L.map (·.n)) cs).ops = rs.count
    have : ∀ (l cs : List Int) (st : DSt), (st.loseAll l cs).ops = st.ops := by
      intro l
      induction l with
      | nil => intro cs st; rfl
      | cons x l ih => intro cs st; show ((st.lose x _).loseAll l cs.tail).ops = _; rw [ih]; exact (lose_ops st x _).1
    rw [this, h.ops]
  · intro j hj hc
    have hc' : rs.count + j < 4611686018427387904 := hc
    show 9223372036854775807 ≤ rs.count + j ↔ 0 ≤ (-1 : Int) ∧ (-1 : Int) ≤ j
    omega
  · show (-1 : Int) ≤ -1
    omega
  · intro j hj hc; rfl
  · intro p hp; cases hp

theorem Sim.bytes {st : DSt} {rs : RSt} (h : Sim st rs) (x : Int) : st.bytesOf x = rs.bytesOf x ∧ st.keptOf x = rs.keptOf x := by
  unfold DSt.bytesOf RSt.bytesOf DSt.keptOf RSt.keptOf
  rw [h.files x]
  cases getL rs.L x <;> exact ⟨rfl, rfl⟩

def RSt.new : RSt := { L := [], faults := [], stop := -1, count := 0 }

theorem sim_new : Sim DSt.new RSt.new := by
  refine ⟨fun x => rfl, List.Pairwise.nil, rfl, Int.le_refl _, ?_, by decide, fun j _ _ => rfl, fun p hp => by cases hp⟩
  intro j hj hc
  show 9223372036854775807 ≤ (0 : Int) + j ↔ 0 ≤ (-1 : Int) ∧ (-1 : Int) ≤ j
  have hc' : (0 : Int) + j < 4611686018427387904 := hc
  omega

end Go.Proofs.Ytdbmefjagggnoaa
