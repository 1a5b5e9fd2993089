/-
  Rows of elements, of whatever kind: written, read, in memory.
-/
import Derived.Test.YtceocmhgbcimoaaCRdOp
namespace Go.Proofs.Ytceocmhgbcimoaa
open Go.RowKit

/-- A row in memory whose elements have these cells. -/
structure RowAt {α : Type} (sz : Nat) (ce : α → List Value) (w : World) (a : Option Addr) (n c : Nat) (xs : List α) : Prop where
  len : xs.length = n
  cap : n ≤ c
  cells : ∀ ad, a = some ad → 0 < n → ad.spot = none ∧ ∀ i x, xs[i]? = some x → ∀ j u, (ce x)[j]? = some u → w.cell? ⟨ad.block, ad.off + i * sz + j, none⟩ = some u
  nil : a = none → n = 0

section
variable {α : Type} {sz : Nat} {ce : α → List Value} {w w' : World} {a : Option Addr} {n c : Nat} {xs : List α}

theorem RowAt.kept {S : Nat → Prop} (O : RowAt sz ce w a n c xs) (K : Kept S w w') (hS : 0 < n → ∀ ad, a = some ad → ¬ S ad.block) : RowAt sz ce w' a n c xs := by
  refine ⟨O.len, O.cap, fun ad e hn => ?_, O.nil⟩
  obtain ⟨h1, h2⟩ := O.cells ad e hn
  exact ⟨h1, fun i x hx j u hu => (cell_keep K (h2 i x hx j u hu) (hS hn ad e)).1⟩

theorem rowAt_nil (w : World) : RowAt sz ce w none 0 0 ([] : List α) := ⟨rfl, Nat.le_refl _, fun _ e _ => (by cases e), fun _ => rfl⟩

theorem RowAt.lt (O : RowAt sz ce w a n c xs) (hc : ∀ x, ∃ u, (ce x)[0]? = some u) (h : 0 < n) (ad : Addr) (e : a = some ad) : ad.block < w.heap.size := by
  obtain ⟨h1, h2⟩ := O.cells ad e h
  have hl : 0 < xs.length := by have := O.len; omega
  obtain ⟨u, hu⟩ := hc xs[0]
  exact World.block_lt_of_cell? w ⟨ad.block, ad.off + 0 * sz + 0, none⟩ (h2 0 xs[0] (List.getElem?_eq_getElem hl) 0 u hu)

theorem flat_get (hc : ∀ x, (ce x).length = sz) : ∀ {xs : List α} {i : Nat} {x : α}, xs[i]? = some x → ∀ j, j < sz → (xs.flatMap ce)[i * sz + j]? = (ce x)[j]?
  | [], i, x, h => by simp at h
  | y :: ys, 0, x, h => by
    intro j hj
    have : y = x := by simpa using h
    subst this
    rw [List.flatMap_cons, Nat.zero_mul, Nat.zero_add, List.getElem?_append_left (by rw [hc]; exact hj)]
  | y :: ys, i + 1, x, h => by
    intro j hj
    have h' : ys[i]? = some x := by simpa using h
    have e : (i + 1) * sz = sz + i * sz := by rw [Nat.add_mul, Nat.one_mul, Nat.add_comm]
    rw [List.flatMap_cons, List.getElem?_append_right (by rw [hc]; omega), hc, show (i + 1) * sz + j - sz = i * sz + j by omega]
    exact flat_get hc h' j hj

/-- A row that is owned is such a row. -/
theorem RowAt.ofRow {base : Nat} {T : TypeId} {v : Value} (hc : ∀ x, (ce x).length = sz) (h : w.ownsRow base T sz v n (xs.flatMap ce)) (hn : xs.length = n) : ∃ a c, v = .slice a n c ∧ RowAt sz ce w a n c xs ∧ (∀ ad, a = some ad → 0 < n → base ≤ ad.block ∧ ad.block < w.heap.size) := by
  obtain ⟨a, c, rfl⟩ := ownsRow_shape h
  refine ⟨a, c, rfl, ?_, ?_⟩
  · refine ⟨hn, ?_, ?_, ?_⟩
    · rcases h.2 with ⟨e, h0⟩ | ⟨g, cap, cur, e, _, _, h1, h2, h3, h4⟩
      · simp only [Value.slice.injEq] at e; omega
      · simp only [Value.slice.injEq] at e
        obtain ⟨_, _, rfl⟩ := e
        omega
    · intro ad e _
      subst e
      rcases h.2 with ⟨e, h0⟩ | ⟨g, cap, cur, e, _⟩
      · simp only [Value.slice.injEq] at e; cases e.1
      · simp only [Value.slice.injEq, Option.some.injEq] at e
        obtain ⟨rfl, _, rfl⟩ := e
        refine ⟨rfl, fun i x hx j u hu => ?_⟩
        have hj : j < sz := by rw [← hc x]; exact (List.getElem?_eq_some_iff.1 hu).1
        have := h.cells (g := g) rfl (i * sz + j) u (by rw [flat_get hc hx j hj]; exact hu)
        simpa [Addr.add_lit, Nat.add_assoc] using this
    · intro e
      subst e
      rcases h.2 with ⟨e, h0⟩ | ⟨g, cap, cur, e, _⟩
      · exact h0
      · simp only [Value.slice.injEq] at e; cases e.1
  · intro ad e h0
    subst e
    rcases h.2 with ⟨e, h0⟩ | ⟨g, cap, cur, e, _⟩
    · simp only [Value.slice.injEq] at e; cases e.1
    · simp only [Value.slice.injEq, Option.some.injEq] at e
      obtain ⟨rfl, _, rfl⟩ := e
      exact h.lt g rfl
end

/-! Written. -/

def wrL {α : Type} (W : α → Option (List Int)) (st : Option (List Int)) (l : List α) : Option (List Int) := l.foldl (fun s x => put s (W x)) st

def bulkL {α : Type} (B : α → Nat) : List α → Nat
  | [] => 0
  | x :: l => B x + bulkL B l

section
variable {α : Type} {W : α → Option (List Int)} {B : α → Nat}

theorem wrL_none (l : List α) : wrL W none l = none := by
  induction l with
  | nil => rfl
  | cons o l ih => exact ih

theorem wrL_split (s : Option (List Int)) (l : List α) (k : Nat) : wrL W s l = wrL W (wrL W s (l.take k)) (l.drop k) := by
  unfold wrL
  rw [← List.foldl_append, List.take_append_drop]

theorem wrL_next (s : Option (List Int)) (l : List α) (k : Nat) (o : α) (h : l[k]? = some o) : wrL W s (l.take (k + 1)) = put (wrL W s (l.take k)) (W o) := by
  unfold wrL
  rw [List.take_add_one, h, List.foldl_append]
  rfl

theorem bulkL_next (l : List α) (k : Nat) (o : α) (h : l[k]? = some o) : bulkL B (l.drop k) = B o + bulkL B (l.drop (k + 1)) := by
  obtain ⟨hk, rfl⟩ := List.getElem?_eq_some_iff.1 h
  rw [List.drop_eq_getElem_cons hk]
  rfl

theorem bulkL_len (hB : ∀ x, 24 ≤ B x) (l : List α) : l.length * 24 ≤ bulkL B l := by
  induction l with
  | nil => exact Nat.le_refl _
  | cons o l ih => have := hB o; simp only [List.length_cons, bulkL]; omega

def wrLst (W : α → Option (List Int)) : Int × List α → Option (List Int) := wrBind (wrNum 0 4503599627370496) (fun n => wrMany W n.toNat)

def rdLst (P : Rd α) : Rd (Int × List α) := rdBind (rdNum 0 4503599627370496) fun n => rdMany P n.toNat

theorem lstForm {P : Rd α} (F : Form P W) : Form (rdLst P) (wrLst W) := (numForm (by decide) (by decide)).bind (fun n _ => manyForm F n.toNat)

theorem wrL_fold (l : List α) : ∀ s : Option (List Int), wrL W s l = put s (wrMany W l.length l) := by
  induction l with
  | nil => intro s; exact (put_nil s).symm
  | cons o l ih =>
    intro s
    have e : wrMany W (l.length + 1) (o :: l) = put (W o) (wrMany W l.length l) := (put_bind W (wrMany W l.length) (o, l)).symm
    show wrL W (put s (W o)) l = put s (wrMany W (l.length + 1) (o :: l))
    rw [ih, e, put_assoc]

theorem wrL_eq {n : Nat} {l : List α} (h : l.length = n) (s : Option (List Int)) : wrL W (put s (wrNum 0 4503599627370496 n)) l = put s (wrLst W ((n : Int), l)) := by
  subst h
  rw [wrL_fold, put_assoc]
  congr 1
  unfold wrLst wrBind put
  simp only [Int.toNat_natCast]
  cases wrNum 0 4503599627370496 (l.length : Int) with
  | none => rfl
  | some p => cases wrMany W l.length l <;> rfl

theorem wrMany_len {n : Nat} : ∀ {l : List α} {q : List Int}, wrMany W n l = some q → l.length = n := by
  induction n with
  | zero =>
    intro l q h
    cases l with
    | nil => rfl
    | cons x l => cases h
  | succ n ih =>
    intro l q h
    cases l with
    | nil => cases h
    | cons x l =>
      simp only [wrMany, wrBind] at h
      cases h1 : W x with
      | none => rw [h1] at h; cases h
      | some p =>
        rw [h1] at h
        cases h2 : wrMany W n l with
        | none => rw [h2] at h; cases h
        | some q2 => rw [List.length_cons, ih h2]

theorem wrLst_len {n : Int} {l : List α} {q : List Int} (h : wrLst W (n, l) = some q) : n = (l.length : Int) := by
  unfold wrLst wrBind at h
  simp only [] at h
  cases h1 : wrNum 0 4503599627370496 n with
  | none => rw [h1] at h; cases h
  | some p =>
    rw [h1] at h
    simp only [] at h
    cases h2 : wrMany W n.toNat l with
    | none => rw [h2] at h; cases h
    | some q =>
      have hl := wrMany_len h2
      have hn : 0 ≤ n := by
        unfold wrNum at h1
        split at h1
        · rename_i hh; exact hh.1
        · cases h1
      omega

/-- How long what is written is, and how great what it is written of. -/
theorem wrMany_size {k : Nat} (hs : ∀ x q, W x = some q → q.length ≤ B x ∧ B x ≤ k * q.length) : ∀ {n : Nat} {l : List α} {q : List Int}, wrMany W n l = some q → q.length ≤ bulkL B l ∧ bulkL B l ≤ k * q.length
  | 0, [], q, h => by cases h; exact ⟨Nat.le_refl _, Nat.zero_le _⟩
  | 0, x :: l, _, h => by cases h
  | n + 1, [], _, h => by cases h
  | n + 1, x :: l, q, h => by
    have e : put (W x) (wrMany W n l) = some q := (put_bind W (wrMany W n) (x, l)).trans h
    obtain ⟨p, r, h1, h2, hq⟩ := put_len e
    have e1 := hs x p h1
    have e2 := wrMany_size hs h2
    simp only [bulkL]
    rw [hq, Nat.mul_add]
    omega

theorem wrNum_len8 {lo hi n : Int} {p : List Int} (h : wrNum lo hi n = some p) : 1 ≤ p.length ∧ p.length ≤ 8 := by
  unfold wrNum at h
  split at h
  · cases h
    have := sz_le n.toNat
    rw [numB_length]; omega
  · cases h

theorem text_size2 {s : ByteArray} {q : List Int} (h : wrText s = some q) : s.size + 1 ≤ q.length ∧ q.length ≤ s.size + 8 := by
  refine ⟨?_, text_len2 h⟩
  unfold wrText at h
  cases hw : wrNum 0 1048576 (s.size : Int) with
  | none => rw [hw] at h; cases h
  | some p =>
    rw [hw] at h
    simp only [Option.map_some, Option.some.injEq] at h
    subst h
    have := (wrNum_len8 hw).1
    rw [List.length_append, bts_length]
    omega

theorem wrLst_size {k : Nat} (hs : ∀ x q, W x = some q → q.length ≤ B x ∧ B x ≤ k * q.length) {n : Int} {l : List α} {q : List Int} (h : wrLst W (n, l) = some q) : q.length ≤ bulkL B l + 8 ∧ bulkL B l ≤ k * q.length := by
  unfold wrLst wrBind at h
  simp only [] at h
  cases h1 : wrNum 0 4503599627370496 n with
  | none => rw [h1] at h; cases h
  | some p =>
    rw [h1] at h
    simp only [] at h
    cases h2 : wrMany W n.toNat l with
    | none => rw [h2] at h; cases h
    | some r =>
      rw [h2] at h
      simp only [Option.some.injEq] at h
      have := wrMany_size hs h2
      have := wrNum_len8 h1
      rw [← h, List.length_append, Nat.mul_add]
      omega
end

/-! Read. -/

def lstRes {α : Type} (n : Int) : Except Nat (List α × Nat) → Except Nat ((Int × List α) × Nat)
  | .error e => .error e
  | .ok (l, i) => .ok ((n, l), i)

def restL {α : Type} (xs : List α) : Except Nat (List α × Nat) → Except Nat (List α × Nat)
  | .error e => .error e
  | .ok (l, i) => .ok (xs ++ l, i)

section
variable {α : Type} {P : Rd α} {xs : List α} {raw : List Int} {n j i pl : Nat} {x : α}

theorem restL_err (h : P raw j = .error pl) : restL xs (rdMany P (n + 1) raw j) = .error pl := by
  simp [rdMany, rdBind, h, restL]

theorem restL_ok (h : P raw j = .ok (x, i)) : restL xs (rdMany P (n + 1) raw j) = restL (xs ++ [x]) (rdMany P n raw i) := by
  simp only [rdMany, rdBind, h]
  cases rdMany P n raw i with
  | error e => rfl
  | ok y => obtain ⟨l, p⟩ := y; simp [restL]

theorem rdText_pos {u : ByteArray} (hd : rdText raw j = .ok (u, i)) : j < i := by
  unfold rdText at hd
  cases hn : rdNum 0 1048576 raw j with
  | error e => rw [hn] at hd; cases hd
  | ok y =>
    obtain ⟨n, p⟩ := y
    rw [hn] at hd
    simp only [] at hd
    have := rdNum_pos hn
    split at hd
    · cases hd
    · simp only [Except.ok.injEq, Prod.mk.injEq] at hd
      omega
end

/-- On the way of reading a list: w0 is the world ahead, EL the block of its cell, r the reader's. -/
structure LsSt {α : Type} (ElT : TypeId) (sz : Nat) (ce : α → List Value) (w0 w : World) (EL r : Nat) (T : TypeId) (o : Nat) (cs : Array Value) (a : Option Addr) (m c : Nat) (raw : List Int) (at_ : Nat) (bad : Bool) (xs : List α) (v : Value) : Prop where
  rd : RAt w r a m c raw at_ bad
  lc : w.heap[EL]? = some (.cells (cs.setIfInBounds o v) T (0, 0))
  row : w.ownsRow w0.heap.size ElT sz v xs.length (xs.flatMap ce)
  kept : Kept (fun k => k = r ∨ k = EL) w0 w
  ne : EL ≠ r
  bE : EL < w0.heap.size
  br : r < w0.heap.size
  na : raw ≠ [] → ∀ ad, a = some ad → ad.block < w0.heap.size ∧ ad.block ≠ EL
  ho : o < cs.size

section
variable {α : Type} {ElT : TypeId} {sz : Nat} {ce : α → List Value} {w0 w w' : World} {EL r : Nat} {T : TypeId} {o : Nat} {cs : Array Value} {a : Option Addr} {m c : Nat} {raw : List Int} {at_ : Nat} {bad : Bool} {xs : List α} {v : Value}

theorem LsSt.cell (S : LsSt ElT sz ce w0 w EL r T o cs a m c raw at_ bad xs v) : w.cell? ⟨EL, o, none⟩ = some v ∧ w.frozen? ⟨EL, o, none⟩ = false := by
  have := S.ho
  constructor
  · simp [World.cell?, S.lc, this]
  · simp [World.frozen?, S.lc]

/-- An element's block is made; then it is read. -/
theorem LsSt.el (S : LsSt ElT sz ce w0 w EL r T o cs a m c raw at_ bad xs v) (zs : Array Value) (U : TypeId) : ElSt (w.alloc (.cells zs U)) (w.alloc (.cells zs U)) U w.heap.size r a m c raw at_ bad zs := by
  have hb := S.kept.size
  have hr := S.br
  refine ⟨S.rd.kept (Kept.alloc (fun _ => False) w _) (fun h => h) (fun _ _ _ h => h), by rw [heap_alloc_new], Kept.refl _ _, by omega, fun h ad e => by have := (S.na h ad e).1; omega⟩

theorem LsSt.step {at' : Nat} {bad' : Bool} (S : LsSt ElT sz ce w0 w EL r T o cs a m c raw at_ bad xs v) (K : Kept (fun k => k = r) w w') (A : RAt w' r a m c raw at' bad') : LsSt ElT sz ce w0 w' EL r T o cs a m c raw at' bad' xs v := by
  have hb := S.kept.size
  have hr := S.br
  have hE := S.bE
  refine ⟨A, (K.block EL (by omega) S.ne).trans S.lc, ownsRow_block' S.row (fun k hk => K.block k (S.row.lt k hk).2 (fun e => ?_)), S.kept.and (K.mono (fun _ h => .inl h)), S.ne, hE, hr, S.na, S.ho⟩
  have := (S.row.lt k hk).1
  have e' : k = r := e
  omega

/-- Behind the element's reading the list is as it was. -/
theorem LsSt.read {at' : Nat} {bad' : Bool} {zs us : Array Value} {U : TypeId} (S : LsSt ElT sz ce w0 w EL r T o cs a m c raw at_ bad xs v) (h : ElSt (w.alloc (.cells zs U)) w' U w.heap.size r a m c raw at' bad' us) : LsSt ElT sz ce w0 w' EL r T o cs a m c raw at' bad' xs v :=
  S.step ((Kept.alloc (fun k => k = r) w _).trans h.kept (fun k hk => by rcases hk with rfl | rfl; exact .inl rfl; exact .inr (Nat.le_refl _))) h.rd

/-- An element is put behind. -/
theorem LsSt.push {w3 : World} {v' : Value} {x : α} (S : LsSt ElT sz ce w0 w EL r T o cs a m c raw at_ bad xs v) (K : Kept (fun k => v.ownBlock = some k) w w3)
    (row : w3.ownsRow w0.heap.size ElT sz v' (xs.length + 1) (xs.flatMap ce ++ ce x)) : LsSt ElT sz ce w0 (w3.setCell ⟨EL, o, none⟩ v') EL r T o cs a m c raw at_ bad (xs ++ [x]) v' := by
  have hb := S.kept.size
  have hr := S.br
  have hE := S.bE
  have ho := S.ho
  have low : ∀ k, k < w0.heap.size → ¬ v.ownBlock = some k := fun k hk e => by have := (S.row.lt k e).1; omega
  have A1 := S.rd.kept K (low r hr) (fun h ad e => low _ (S.na h ad e).1)
  have e1 : w3.heap[EL]? = some (.cells (cs.setIfInBounds o v) T (0, 0)) := (K.block EL (by omega) (low EL hE)).trans S.lc
  refine ⟨A1.kept (Kept.setCell (S := fun k => k = EL) _ _ _ rfl) (fun e => S.ne (by have e' : r = EL := e; omega)) (fun h ad e => (S.na h ad e).2), ?_, ?_, ?_, S.ne, hE, hr, S.na, ho⟩
  · simp [World.setCell, Array.getElem?_modify, e1, Array.setIfInBounds_setIfInBounds]
  · rw [List.length_append, List.flatMap_append]
    have hcx : [x].flatMap ce = ce x := by simp
    rw [hcx]
    exact ownsRow_block' row (fun k hk => Below.heap_setCell _ _ _ _ (fun e => by have := (row.lt k hk).1; have e' : k = EL := e; omega))
  · exact (S.kept.trans K (fun k h => .inr (S.row.lt k h).1)).and (Kept.setCell (S := fun k => k = r ∨ k = EL) _ _ _ (.inr rfl))

/-- A list was read. -/
def LsEnd (ElT : TypeId) (sz : Nat) (ce : α → List Value) (w0 w' : World) (EL r : Nat) (T : TypeId) (o : Nat) (cs : Array Value) (a : Option Addr) (m c : Nat) (raw : List Int) (bad : Bool) (e : Ending) : Except Nat ((Int × List α) × Nat) → Prop
  | .error pl => e = .returned (.bool false) ∧ ∃ xs v, LsSt ElT sz ce w0 w' EL r T o cs a m c raw pl true xs v
  | .ok ((_, xs), i) => e = .returned (.bool true) ∧ ∃ v, LsSt ElT sz ce w0 w' EL r T o cs a m c raw i bad xs v

/-- Ahead of a list's reading. -/
theorem LsSt.new (A : RAt w r a m c raw at_ bad) (hE : w.heap[EL]? = some (.cells cs T (0, 0))) (hv : cs[o]? = some (.slice none 0 0)) (ne : EL ≠ r) (na : raw ≠ [] → ∀ ad, a = some ad → ad.block ≠ EL) : LsSt ElT sz ce w w EL r T o cs a m c raw at_ bad ([] : List α) (.slice none 0 0) := by
  have hl := (Array.getElem?_eq_some_iff.1 hE).1
  obtain ⟨ho, hov⟩ := Array.getElem?_eq_some_iff.1 hv
  refine ⟨A, ?_, World.ownsRow_nil _ _ _ _, Kept.refl _ _, ne, hl, A.lt, fun h ad e => ⟨A.bytes.lt e h, na h ad e⟩, ho⟩
  have e : cs.setIfInBounds o (.slice none 0 0) = cs := by
    apply Array.ext
    · simp
    · intro i h1 h2
      rw [Array.getElem_setIfInBounds]
      split
      · rename_i e; subst e; exact hov.symm
      · rfl
  rw [e]
  exact hE
end

end Go.Proofs.Ytceocmhgbcimoaa
