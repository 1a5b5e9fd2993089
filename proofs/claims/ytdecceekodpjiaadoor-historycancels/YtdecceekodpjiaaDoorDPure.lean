/-
  Definitions as data: their nodes, whom a name means, the order of the nodes. Nothing here speaks of a program.
-/
import Derived.Test.YtdecceekodpjiaaDoorCBase
namespace Go.Proofs.YtdecceekodpjiaaDoor
open Go.RowKit

/-- A node of a definition. -/
structure Nd where
  name : ByteArray
  kind : Int
  arg : ByteArray
  «to» : ByteArray
  delay : Int
  tries : Int
  after : List ByteArray

/-- The first node of a name. -/
def findP (ns : List Nd) (s : ByteArray) : Option Nat := ns.findIdx? (fun n => decide (n.name = s))

theorem findP_lt {ns : List Nd} {s : ByteArray} {i : Nat} (h : findP ns s = some i) : i < ns.length := by
  unfold findP at h
  rw [List.findIdx?_eq_some_iff_getElem] at h
  exact h.1

theorem findP_name {ns : List Nd} {s : ByteArray} {i : Nat} (h : findP ns s = some i) : (ns[i]'(findP_lt h)).name = s := by
  have h2 := h
  unfold findP at h2
  rw [List.findIdx?_eq_some_iff_getElem] at h2
  obtain ⟨_, h3, _⟩ := h2
  simpa using h3

theorem findP_first {ns : List Nd} {s : ByteArray} {i : Nat} (h : findP ns s = some i) {j : Nat} (hj : j < i) : (ns[j]'(Nat.lt_trans hj (findP_lt h))).name ≠ s := by
  have h2 := h
  unfold findP at h2
  rw [List.findIdx?_eq_some_iff_getElem] at h2
  obtain ⟨_, _, h4⟩ := h2
  have := h4 j hj
  simpa using this

theorem findP_none {ns : List Nd} {s : ByteArray} : findP ns s = none ↔ ∀ n ∈ ns, n.name ≠ s := by
  unfold findP
  rw [List.findIdx?_eq_none_iff]
  simp

theorem findP_take {ns : List Nd} {s : ByteArray} {k : Nat} (hk : k < ns.length) : findP (ns.take (k + 1)) s = (findP (ns.take k) s).or (if (ns[k]).name = s then some k else none) := by
  rw [List.take_add_one, List.getElem?_eq_getElem hk, Option.toList_some]
  unfold findP
  rw [List.findIdx?_append, List.length_take, Nat.min_eq_left (by omega)]
  congr 1
  by_cases h : (ns[k]).name = s
  · simp [h]
  · simp [h]

theorem findP_of_first {ns : List Nd} {s : ByteArray} {i : Nat} (hi : i < ns.length) (h : (ns[i]).name = s) (hf : ∀ j (hj : j < i), (ns[j]'(by omega)).name ≠ s) : findP ns s = some i := by
  unfold findP
  rw [List.findIdx?_eq_some_iff_getElem]
  exact ⟨hi, by simpa using h, fun j hj => by simpa using hf j hj⟩

/-- The node that a name in the After of n means. -/
def aheadP (ns : List Nd) (n : Nd) (s : ByteArray) : Option Nat := if s = n.name then none else findP ns s

theorem aheadP_lt {ns : List Nd} {n : Nd} {s : ByteArray} {i : Nat} (h : aheadP ns n s = some i) : i < ns.length := by
  unfold aheadP at h
  split at h
  · cases h
  · exact findP_lt h

/-- For how many of its After a node still waits, when those of T were told. -/
def need (ns : List Nd) (T : List Nat) (n : Nd) : Nat := n.after.countP (fun s => match aheadP ns n s with | some j => !T.contains j | none => true)

/-- How often a node's After means the node j. -/
def asks (ns : List Nd) (n : Nd) (j : Nat) : Nat := n.after.countP (fun s => decide (aheadP ns n s = some j))

/-- Node i was not told and may be. -/
def mayB (ns : List Nd) (T : List Nat) (i : Nat) : Bool := !T.contains i && match ns[i]? with | some n => decide (need ns T n = 0) | none => false

def nextP (ns : List Nd) (T : List Nat) : Option Nat := (List.range ns.length).find? (mayB ns T)

def ordK (ns : List Nd) : Nat → List Nat → List Nat
  | 0, T => T
  | k + 1, T => match nextP ns T with
    | some i => ordK ns k (T ++ [i])
    | none => T

/-- The nodes in order, as far as they can be told. -/
def ordP (ns : List Nd) : List Nat := ordK ns ns.length []

theorem mayB_lt {ns : List Nd} {T : List Nat} {i : Nat} (h : mayB ns T i = true) : i < ns.length := by
  unfold mayB at h
  cases hn : ns[i]? with
  | none => rw [hn] at h; simp at h
  | some n => exact (List.getElem?_eq_some_iff.1 hn).1

theorem nextP_some {ns : List Nd} {T : List Nat} {i : Nat} (h1 : mayB ns T i = true) (h2 : ∀ j, j < i → mayB ns T j = false) : nextP ns T = some i := by
  unfold nextP
  rw [List.find?_range_eq_some]
  exact ⟨h1, by simpa using mayB_lt h1, fun j hj => by simp [h2 j hj]⟩

theorem nextP_is {ns : List Nd} {T : List Nat} {i : Nat} (h : nextP ns T = some i) : mayB ns T i = true ∧ ∀ j, j < i → mayB ns T j = false := by
  unfold nextP at h
  rw [List.find?_range_eq_some] at h
  exact ⟨h.1, fun j hj => by simpa using h.2.2 j hj⟩

theorem nextP_none {ns : List Nd} {T : List Nat} (h : ∀ j, j < ns.length → mayB ns T j = false) : nextP ns T = none := by
  unfold nextP
  rw [List.find?_eq_none]
  intro x hx
  rw [List.mem_range] at hx
  simp [h x hx]

theorem need_add {ns : List Nd} {T : List Nat} {i : Nat} (hi : i ∉ T) (n : Nd) : need ns T n = need ns (T ++ [i]) n + asks ns n i := by
  unfold need asks
  induction n.after with
  | nil => rfl
  | cons s r ih =>
    rw [List.countP_cons, List.countP_cons, List.countP_cons, ih]
    cases ha : aheadP ns n s with
    | none => simp; omega
    | some j =>
      by_cases hj : j = i
      · subst hj
        simp [hi]; omega
      · have : ¬ (i = j) := fun e => hj e.symm
        simp [hj]; omega

/-- A run of the order so far: T was told, each at its turn. -/
def Runs (ns : List Nd) (T : List Nat) : Prop := T.Nodup ∧ (∀ i ∈ T, i < ns.length) ∧ (∀ i ∈ T, ∀ n, ns[i]? = some n → need ns T n = 0) ∧ T.length ≤ ns.length ∧ ordP ns = ordK ns (ns.length - T.length) T

theorem nodup_le : ∀ {n : Nat} {l : List Nat}, l.Nodup → (∀ i ∈ l, i < n) → l.length ≤ n := by
  intro n
  induction n with
  | zero =>
    intro l _ h
    cases l with
    | nil => simp
    | cons x r => have := h x (List.mem_cons_self ..); omega
  | succ n ih =>
    intro l hn hl
    have h2 := ih (l := l.erase n) (hn.erase n) (fun i hi => by
      have h3 := hl i (List.mem_of_mem_erase hi)
      have h4 : i ≠ n := fun e => by subst e; exact (List.Nodup.not_mem_erase hn) hi
      omega)
    rw [List.length_erase] at h2
    split at h2 <;> omega

theorem Runs.zero (ns : List Nd) : Runs ns [] := ⟨by simp, by simp, by simp, by simp, rfl⟩

/-- One more is told: the first that may be. -/
theorem Runs.step {ns : List Nd} {T : List Nat} (R : Runs ns T) {i : Nat} (h1 : mayB ns T i = true) (h2 : ∀ j, j < i → mayB ns T j = false) : Runs ns (T ++ [i]) := by
  obtain ⟨r1, r2, r3, r4, r5⟩ := R
  have hi : i ∉ T := by
    intro hm
    unfold mayB at h1
    simp [hm] at h1
  have hlt := mayB_lt h1
  have n1 : (T ++ [i]).Nodup := by
    rw [List.nodup_append]
    exact ⟨r1, by simp, fun a ha b hb e => by simp at hb; subst hb; subst e; exact hi ha⟩
  have n2 : ∀ k ∈ T ++ [i], k < ns.length := by
    intro k hk
    rcases List.mem_append.1 hk with h | h
    · exact r2 k h
    · simp at h; subst h; exact hlt
  have n4 := nodup_le n1 n2
  refine ⟨n1, n2, ?_, n4, ?_⟩
  · intro k hk n hn
    have ha := need_add (ns := ns) hi n
    rcases List.mem_append.1 hk with h | h
    · have := r3 k h n hn; omega
    · simp at h; subst h
      unfold mayB at h1
      rw [hn] at h1
      simp at h1
      omega
  · rw [r5, List.length_append, List.length_singleton] at *
    have e : ns.length - T.length = (ns.length - (T.length + 1)) + 1 := by omega
    rw [e, ordK, nextP_some h1 h2]

/-- None may be told: that was all. -/
theorem Runs.stop {ns : List Nd} {T : List Nat} (R : Runs ns T) (h : ∀ j, j < ns.length → mayB ns T j = false) : ordP ns = T := by
  obtain ⟨r1, r2, r3, r4, r5⟩ := R
  rw [r5]
  cases ns.length - T.length with
  | zero => rfl
  | succ k => rw [ordK, nextP_none h]

/-- Telling i leaves those ready that were, and makes only those ready that ask for i. -/
theorem mayB_kept {ns : List Nd} {T : List Nat} {i k : Nat} (hi : i ∉ T) {n : Nd} (hn : ns[k]? = some n) (ha : asks ns n i = 0) (hk : k ≠ i) : mayB ns (T ++ [i]) k = mayB ns T k := by
  unfold mayB
  rw [hn]
  have h := need_add (ns := ns) hi n
  rw [ha] at h
  simp only [Nat.add_zero] at h
  simp [h, hk]

theorem asks_told {ns : List Nd} {T : List Nat} {i : Nat} (hi : i ∉ T) {n : Nd} (h0 : need ns T n = 0) : asks ns n i = 0 := by
  have := need_add (ns := ns) hi n
  omega

theorem need_le (ns : List Nd) (T : List Nat) (n : Nd) : need ns T n ≤ n.after.length := List.countP_le_length

theorem need_nil (ns : List Nd) (n : Nd) : need ns [] n = n.after.length := by
  unfold need
  rw [List.countP_eq_length]
  intro s _
  cases aheadP ns n s <;> simp

/-- A text of 1 to most bytes, each of them one of a list. -/
def madeP (s l : ByteArray) (most : Int) : Bool := decide (1 ≤ s.size) && decide ((s.size : Int) ≤ most) && s.data.toList.all (fun c => l.data.toList.contains c)

def lettersB : ByteArray := ⟨#[97, 98, 99, 100, 101, 102, 103, 104, 105, 106, 107, 108, 109, 110, 111, 112, 113, 114, 115, 116, 117, 118, 119, 120, 121, 122, 65, 66, 67, 68, 69, 70, 71, 72, 73, 74, 75, 76, 77, 78, 79, 80, 81, 82, 83, 84, 85, 86, 87, 88, 89, 90, 48, 49, 50, 51, 52, 53, 54, 55, 56, 57, 46, 45, 95]⟩
def flowsB : ByteArray := ⟨#[97, 98, 99, 100, 101, 102, 103, 104, 105, 106, 107, 108, 109, 110, 111, 112, 113, 114, 115, 116, 117, 118, 119, 120, 121, 122, 65, 66, 67, 68, 69, 70, 71, 72, 73, 74, 75, 76, 77, 78, 79, 80, 81, 82, 83, 84, 85, 86, 87, 88, 89, 90, 48, 49, 50, 51, 52, 53, 54, 55, 56, 57, 46, 45, 95, 47]⟩

def nameP (s : ByteArray) : Bool := madeP s lettersB 64
def flowP (s : ByteArray) : Bool := madeP s flowsB 256

/-- A node has the names that its kind needs. -/
def namedP (n : Nd) : Bool := nameP n.name && (n.kind == 2 || nameP n.arg) && (n.kind != 5 || flowP n.to)
/-- A node has what its kind allows, and nothing else. -/
def fitsP (n : Nd) : Bool :=
  if n.delay < 0 || n.delay > 1000000 then false
  else if n.kind == 1 then decide (1 ≤ n.tries) && decide (n.tries ≤ 10) && decide (n.to.size = 0)
  else if n.kind == 2 then n.tries == 0 && decide (n.to.size = 0) && decide (n.arg.size = 0)
  else if n.kind == 3 || n.kind == 4 then n.tries == 0 && decide (n.to.size = 0) && n.delay == 0
  else if n.kind == 5 then n.tries == 0 && n.delay == 0
  else false

/-- What is wrong with a node, but for its After (0: nothing). -/
def nodeE (ns : List Nd) (i : Nat) (n : Nd) : Int :=
  if namedP n then (if (findP ns n.name).getD 0 < i then 16 else if fitsP n then 0 else 1) else 17

/-- What is wrong with a node's After. -/
def afterE (ns : List Nd) (n : Nd) : Int :=
  if n.after.all (fun s => (findP ns s).isSome) then (if n.after.Nodup then 0 else 16) else 6

/-- The first of some that is not 0. -/
def firstE (f : Nat → Int) : Nat → Option (Nat × Int)
  | 0 => none
  | k + 1 => match firstE f k with
    | some x => some x
    | none => if f k = 0 then none else some (k, f k)

/-- What is wrong with a definition: the node's number, the error. -/
def checkP (name : ByteArray) (ns : List Nd) : Int × Int :=
  if nameP name = false then (-1, 17)
  else if ns.length < 1 ∨ 32 < ns.length then (-1, 10)
  else match firstE (fun i => match ns[i]? with | some n => nodeE ns i n | none => 0) ns.length with
    | some (i, e) => (i, e)
    | none => match firstE (fun i => match ns[i]? with | some n => afterE ns n | none => 0) ns.length with
      | some (i, e) => (i, e)
      | none => if (ordP ns).length = ns.length then (-1, 0) else (-1, 15)

/-- Who waits for node j, each as often as it asks, among the first i nodes. -/
def bhL (ns : List Nd) (j : Nat) : Nat → List Nat
  | 0 => []
  | i + 1 => bhL ns j i ++ List.replicate (match ns[i]? with | some n => asks ns n j | none => 0) i

theorem bh_lt {ns : List Nd} {j : Nat} : ∀ {i x : Nat}, x ∈ bhL ns j i → x < i
  | 0, x, h => by simp [bhL] at h
  | i + 1, x, h => by
    rw [bhL, List.mem_append] at h
    rcases h with h | h
    · have := bh_lt h; omega
    · rw [List.mem_replicate] at h; omega

theorem bh_count {ns : List Nd} {j : Nat} : ∀ {i x : Nat} {n : Nd}, ns[x]? = some n → x < i → (bhL ns j i).count x = asks ns n j
  | 0, x, n, _, h => by omega
  | i + 1, x, n, hn, h => by
    rw [bhL, List.count_append]
    by_cases e : x = i
    · subst e
      rw [hn, List.count_replicate_self, List.count_eq_zero_of_not_mem (fun h => by have := bh_lt h; omega), Nat.zero_add]
    · rw [bh_count hn (by omega), List.count_replicate, if_neg (by simpa using fun h => e h.symm)]
      rfl

theorem bh_asks {ns : List Nd} {j i x : Nat} (h : x ∈ bhL ns j i) : ∃ n, ns[x]? = some n ∧ 0 < asks ns n j := by
  induction i with
  | zero => simp [bhL] at h
  | succ i ih =>
    rw [bhL, List.mem_append] at h
    rcases h with h | h
    · exact ih h
    · rw [List.mem_replicate] at h
      obtain ⟨h1, rfl⟩ := h
      cases hn : ns[x]? with
      | none => rw [hn] at h1; simp at h1
      | some n => rw [hn] at h1; exact ⟨n, rfl, by simpa using Nat.pos_of_ne_zero h1⟩

theorem bh_mem {ns : List Nd} {j x : Nat} {n : Nd} (hn : ns[x]? = some n) (h : 0 < asks ns n j) : x ∈ bhL ns j ns.length := by
  have hx := (List.getElem?_eq_some_iff.1 hn).1
  rw [← List.count_pos_iff, bh_count hn hx]
  exact h

/-- What stands open of each node when those of T were told: -1, if it was itself. -/
def OpenIs (ns : List Nd) (T : List Nat) (fo : List Int) : Prop := fo.length = ns.length ∧ ∀ x n, ns[x]? = some n → fo[x]? = some (if x ∈ T then -1 else (need ns T n : Int))

/-- .. while the first p of those that wait for i are told of it. -/
def OpenAt (ns : List Nd) (T : List Nat) (i p : Nat) (fo : List Int) : Prop := fo.length = ns.length ∧
  ∀ x n, ns[x]? = some n → fo[x]? = some (if x ∈ T ++ [i] then -1 else (need ns T n : Int) - (((bhL ns i ns.length).take p).count x : Nat))

theorem openIs_may {ns : List Nd} {T : List Nat} {fo : List Int} (O : OpenIs ns T fo) {i : Nat} (hi : i < ns.length) : (fo[i]'(by rw [O.1]; exact hi) = 0) ↔ mayB ns T i = true := by
  have h := O.2 i _ (List.getElem?_eq_getElem hi)
  rw [List.getElem?_eq_getElem (by rw [O.1]; exact hi)] at h
  have h2 := Option.some.inj h
  rw [h2]
  unfold mayB
  rw [List.getElem?_eq_getElem hi]
  by_cases hT : i ∈ T
  · simp [hT]
  · simp [hT]

theorem openAt_start {ns : List Nd} {T : List Nat} {fo : List Int} (O : OpenIs ns T fo) (i : Nat) : OpenAt ns T i 0 (fo.set i (-1)) := by
  refine ⟨by rw [List.length_set]; exact O.1, fun x n hn => ?_⟩
  have h := O.2 x n hn
  rw [List.getElem?_set]
  by_cases e : i = x
  · subst e
    have hx := (List.getElem?_eq_some_iff.1 h).1
    simp [hx]
  · rw [if_neg e, h]
    by_cases hT : x ∈ T
    · simp [hT]
    · have : ¬ x = i := fun h => e h.symm
      simp [hT, this]

theorem bh_free {ns : List Nd} {T : List Nat} {i : Nat} (R : Runs ns T) (hm : mayB ns T i = true) {x : Nat} (hx : x ∈ bhL ns i ns.length) : x ∉ T ++ [i] ∧ ∃ n, ns[x]? = some n ∧ (bhL ns i ns.length).count x ≤ need ns T n := by
  obtain ⟨n, hn, ha⟩ := bh_asks hx
  have hi : i ∉ T := by
    intro h
    unfold mayB at hm
    simp [h] at hm
  have hadd := need_add (ns := ns) hi n
  refine ⟨fun h => ?_, n, hn, ?_⟩
  · rcases List.mem_append.1 h with h | h
    · have := R.2.2.1 x h n hn; omega
    · simp at h; subst h
      unfold mayB at hm
      rw [hn] at hm
      simp at hm
      omega
  · rw [bh_count hn (bh_lt hx)]; omega

theorem openAt_step {ns : List Nd} {T : List Nat} {i p : Nat} {fo : List Int} (R : Runs ns T) (hm : mayB ns T i = true) (O : OpenAt ns T i p fo) (hp : p < (bhL ns i ns.length).length) :
    ∃ h : (bhL ns i ns.length)[p] < fo.length, 1 ≤ fo[(bhL ns i ns.length)[p]] ∧ OpenAt ns T i (p + 1) (fo.set (bhL ns i ns.length)[p] (fo[(bhL ns i ns.length)[p]] - 1)) := by
  have hx : (bhL ns i ns.length)[p] ∈ bhL ns i ns.length := List.getElem_mem hp
  obtain ⟨hT, n, hn, hc⟩ := bh_free R hm hx
  have hlt : (bhL ns i ns.length)[p] < fo.length := by rw [O.1]; exact bh_lt hx
  have ht : (bhL ns i ns.length).take (p + 1) = (bhL ns i ns.length).take p ++ [(bhL ns i ns.length)[p]] := by rw [List.take_add_one, List.getElem?_eq_getElem hp]; rfl
  have hv := O.2 _ n hn
  rw [if_neg hT, List.getElem?_eq_getElem hlt] at hv
  have hv2 := Option.some.inj hv
  have hcnt : ((bhL ns i ns.length).take p).count (bhL ns i ns.length)[p] + 1 ≤ (bhL ns i ns.length).count (bhL ns i ns.length)[p] := by
    have h1 : ((bhL ns i ns.length).take (p + 1)).count (bhL ns i ns.length)[p] ≤ (bhL ns i ns.length).count (bhL ns i ns.length)[p] := (List.take_sublist _ _).count_le _
    rw [ht, List.count_append, List.count_singleton_self] at h1
    exact h1
  refine ⟨hlt, by rw [hv2]; omega, by rw [List.length_set]; exact O.1, fun x m hxm => ?_⟩
  rw [List.getElem?_set, ht, List.count_append]
  by_cases e : (bhL ns i ns.length)[p] = x
  · rw [if_pos e, if_pos hlt, hv2, List.count_singleton]
    have hT' : ¬ x ∈ T ++ [i] := e ▸ hT
    rw [if_neg hT', if_pos (by simpa using e)]
    have : m = n := by rw [e, hxm] at hn; exact (Option.some.inj hn)
    subst this
    rw [e]
    congr 1
    omega
  · have e2 : ((bhL ns i ns.length)[p] == x) = false := by simpa using e
    rw [if_neg e, O.2 x m hxm, List.count_singleton, e2]
    simp

theorem openAt_end {ns : List Nd} {T : List Nat} {i : Nat} {fo : List Int} (hm : mayB ns T i = true) {p : Nat} (hp : p = (bhL ns i ns.length).length) (O : OpenAt ns T i p fo) : OpenIs ns (T ++ [i]) fo := by
  refine ⟨O.1, fun x n hn => ?_⟩
  have hi : i ∉ T := by
    intro h
    unfold mayB at hm
    simp [h] at hm
  rw [O.2 x n hn, hp, List.take_length, bh_count hn (List.getElem?_eq_some_iff.1 hn).1]
  have hadd := need_add (ns := ns) hi n
  congr 1
  split
  · rfl
  · omega

/-- Behind i's telling no node ahead of fr may be told. -/
theorem may_after {ns : List Nd} {T : List Nat} {i fr : Nat} {fo : List Int} (hm : mayB ns T i = true) (hlow : ∀ y, y < i → mayB ns T y = false) (O : OpenIs ns (T ++ [i]) fo) (hfr : fr ≤ i)
    (hz : ∀ x ∈ bhL ns i ns.length, fo[x]? = some 0 → fr ≤ x) : ∀ y, y < fr → mayB ns (T ++ [i]) y = false := by
  intro y hy
  have hi : i ∉ T := by
    intro h
    unfold mayB at hm
    simp [h] at hm
  cases hb : mayB ns (T ++ [i]) y with
  | false => rfl
  | true =>
    exfalso
    have hyl := mayB_lt hb
    have hn := List.getElem?_eq_getElem hyl
    have h0 := (openIs_may O hyl).2 hb
    have h1 := hlow y (by omega)
    have hadd := need_add (ns := ns) hi ns[y]
    by_cases ha : 0 < asks ns ns[y] i
    · have := hz y (bh_mem hn ha) (by rw [List.getElem?_eq_getElem (by rw [O.1]; exact hyl), h0])
      omega
    · rw [mayB_kept hi hn (by omega) (by omega)] at hb
      rw [hb] at h1
      cases h1

end Go.Proofs.YtdecceekodpjiaaDoor
