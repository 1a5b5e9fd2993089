/-
  What the texts of the codec share: what is kept, rows of bytes as they lie, bytes that are appended, lent, spoilt.
-/
import Derived.Test.YtlholgpenpfpbaaGreatDoorRows
import Derived.Test.YtlholgpenpfpbaaGreatDoorProg
import Derived.WalkKit
import Derived.WalkSpells
import Derived.WalkLawsBesides
import Derived.Deep.AppendLies
import Derived.Deep.QuietTactic
import Derived.BigQuiet
import Derived.ScopeJumps
import Derived.ProofKit
import Derived.OpenShut
import Derived.ShutString
import Derived.ChangeOld
import Derived.Below
import Derived.Lib.SmallJoins
import Derived.Lib.SlBytesConst
import Derived.Laws.BytesArg
import Derived.Laws.AppendOwnNone
import Derived.Maps.OwnSet
import Derived.Sort.KeysCollected
import Derived.StringKeys
import Derived.Shelf.Small.Strs
import Derived.Shelf.Strings.Search2
import Derived.Shelf.Strings.FieldsFuncAny
import Derived.Shelf.Strconv.Atoi
import Derived.Ground.NamesProg
namespace Go.Proofs.YtlholgpenpfpbaaGreatDoor
open Go.RowKit

theorem Tryz.info5 : (Tryz.prog.info? 5).map (fun i => (i.zero, i.size, i.bytes)) = some (some (.int .u8 0), 1, 1) := by kernel_rfl

/-- The number is one of 64 bits. -/
def isI64 (x : Int) : Prop := (Lit.int .i64 x).wf = true

theorem isI64_of {x : Int} (h0 : -9223372036854775808 ≤ x) (h1 : x ≤ 9223372036854775807) : isI64 x := WalkArith.wf_i64 ⟨h0, h1⟩

/-- w' is w but for the blocks of S and new ones. -/
structure Kept (S : Nat → Prop) (w w' : World) : Prop where
  os : w'.os = w.os
  tape : w'.tape = w.tape
  output : w'.output = w.output
  size : w.heap.size ≤ w'.heap.size
  block : ∀ k, k < w.heap.size → ¬ S k → w'.heap[k]? = w.heap[k]?

theorem Kept.refl (S : Nat → Prop) (w : World) : Kept S w w := ⟨rfl, rfl, rfl, Nat.le_refl _, fun _ _ _ => rfl⟩

theorem Kept.trans {S S' : Nat → Prop} {a b c : World} (h : Kept S a b) (k : Kept S' b c) (hS : ∀ i, S' i → S i ∨ a.heap.size ≤ i) : Kept S a c :=
  ⟨k.os.trans h.os, k.tape.trans h.tape, k.output.trans h.output, Nat.le_trans h.size k.size, fun i hi hn =>
    (k.block i (Nat.lt_of_lt_of_le hi h.size) (fun hs => (hS i hs).elim hn (fun hb => by omega))).trans (h.block i hi hn)⟩

theorem Kept.and {S : Nat → Prop} {a b c : World} (h : Kept S a b) (k : Kept S b c) : Kept S a c := h.trans k (fun _ => .inl)

theorem Kept.mono {S S' : Nat → Prop} {a b : World} (h : Kept S a b) (hS : ∀ i, S i → S' i) : Kept S' a b :=
  ⟨h.os, h.tape, h.output, h.size, fun k hk hn => h.block k hk (fun hs => hn (hS k hs))⟩

theorem Kept.grown {S : Nat → Prop} {w w' : World} {row : Option Nat} (hg : w.grownBy w' row) (hr : ∀ k, row = some k → S k) : Kept S w w' :=
  ⟨hg.os, hg.tape, hg.output, hg.size, fun k hk hn => hg.block k hk (fun e => hn (hr k e.symm))⟩

theorem Kept.setCell {S : Nat → Prop} (w : World) (a : Addr) (u : Value) (h : S a.block) : Kept S w (w.setCell a u) :=
  ⟨rfl, rfl, rfl, by simp [World.setCell], fun k _ hn => Below.heap_setCell _ _ _ _ (fun e => hn (e ▸ h))⟩

theorem Kept.alloc (S : Nat → Prop) (w : World) (o : Obj) : Kept S w (w.alloc o) :=
  ⟨rfl, rfl, rfl, by simp, fun k hk _ => Below.heap_alloc _ _ _ hk⟩

theorem Kept.drew (S : Nat → Prop) (w : World) : Kept S w w.drew := ⟨rfl, rfl, rfl, Nat.le_refl _, fun _ _ _ => rfl⟩

theorem Kept.below {S : Nat → Prop} {w w' : World} (h : Kept S w w') {B : Nat} (hB : B ≤ w.heap.size) (hS : ∀ i, S i → B ≤ i) : Below B w w' :=
  ⟨h.os, h.tape, h.output, h.size, fun k hk => h.block k (by omega) (fun hs => by have := hS k hs; omega)⟩

theorem ret_int {k : IntKind} {a b : Int} (h : a = b) : Ending.returned (.int k a) = .returned (.int k b) := by rw [h]

theorem isI64_bd {x : Int} (h : isI64 x) : -9223372036854775808 ≤ x ∧ x ≤ 9223372036854775807 := by
  simp [isI64, Lit.wf, IntKind.min, IntKind.max, IntKind.signed, IntKind.bits] at h
  omega

theorem tmod_emod_neg {n m : Int} (hm : 0 < m) (h : n.tmod m < 0) : n.tmod m + m = n % m := by
  have h1 := Int.emod_nonneg n (by omega : m ≠ 0)
  have h2 := Int.emod_lt_of_pos n hm
  rw [Int.tmod_eq_emod] at h ⊢
  split at h <;> rename_i hc
  · omega
  · have : (m.natAbs : Int) = m := by omega
    rw [if_neg hc]
    omega

theorem tmod_emod_pos {n m : Int} (hm : 0 < m) (h : 0 ≤ n.tmod m) : n.tmod m = n % m := by
  have h1 := Int.emod_nonneg n (by omega : m ≠ 0)
  have h2 := Int.emod_lt_of_pos n hm
  rw [Int.tmod_eq_emod] at h ⊢
  split at h <;> rename_i hc
  · rw [if_pos hc]; omega
  · have : (m.natAbs : Int) = m := by omega
    omega

theorem oneCells (l : List Int) : ∀ u ∈ l.map (Value.int .u8), u.oneCell' = true := by
  intro u hu
  obtain ⟨x, _, rfl⟩ := List.mem_map.1 hu
  rfl

/-- Bytes that are handed in: they lie where a says. -/
structure BytesAt (w : World) (a : Option Addr) (m c : Nat) (b : List Int) : Prop where
  len : b.length = m
  cap : m ≤ c
  nil : a = none → m = 0
  cells : ∀ ad, a = some ad → ∀ j u, (b.map (Value.int .u8))[j]? = some u → w.cell? (ad.add j) = some u
  byte : ∀ y ∈ b, 0 ≤ y ∧ y ≤ 255

theorem block_add (a : Addr) (j : Nat) : (a.add j).block = a.block := by unfold Addr.add; split <;> rfl

theorem BytesAt.kept {S : Nat → Prop} {w w' : World} {a : Option Addr} {m c : Nat} {b : List Int} (B : BytesAt w a m c b) (K : Kept S w w') (hs : b ≠ [] → ∀ ad, a = some ad → ¬ S ad.block) : BytesAt w' a m c b :=
  ⟨B.len, B.cap, B.nil, fun ad h j u hu => by
    have hc := B.cells ad h j u hu
    rw [World.cell?_of_block (w := w) (K.block _ (World.block_lt_of_cell? w _ hc) (by rw [block_add]; exact hs (fun e => by rw [e] at hu; simp at hu) ad h))]
    exact hc, B.byte⟩

theorem BytesAt.take {w : World} {a : Option Addr} {m c : Nat} {b : List Int} (B : BytesAt w a m c b) {h : Nat} (hh : h ≤ m) : BytesAt w a h c (b.take h) :=
  ⟨by rw [List.length_take, B.len]; omega, Nat.le_trans hh B.cap, fun e => by have := B.nil e; omega, fun ad e j u hu => B.cells ad e j u (by
    rw [List.map_take, List.getElem?_take] at hu
    split at hu
    · exact hu
    · cases hu), fun y hy => B.byte y (List.mem_of_mem_take hy)⟩


theorem Kept.drewN (S : Nat → Prop) (w : World) (n : Nat) : Kept S w (w.drewN n) := ⟨rfl, rfl, rfl, Nat.le_refl _, fun _ _ _ => rfl⟩

theorem Kept.none {w w' : World} (h : Kept (fun _ => False) w w') : Below w.heap.size w w' :=
  ⟨h.os, h.tape, h.output, h.size, fun k hk => h.block k hk (fun h => h)⟩

/-- A value that owns a row is a slice of that length. -/
theorem ownsRow_shape {w : World} {base n size : Nat} {e : TypeId} {v : Value} {xs : List Value} (h : w.ownsRow base e size v n xs) : ∃ a c, v = .slice a n c := by
  rcases h.2 with ⟨rfl, rfl⟩ | ⟨g, cap, cur, rfl, _⟩
  · exact ⟨_, _, rfl⟩
  · exact ⟨_, _, rfl⟩

/-- A row of numbers that came in: nil, or cells that hold zs. -/
def IsRow (k : IntKind) (w : World) (a : Option Addr) (len cap : Nat) (zs : List Int) : Prop :=
  (a = none ∧ len = 0 ∧ cap = 0 ∧ zs = []) ∨
  ∃ x, a = some x ∧ len ≤ cap ∧ cap ≤ maxLen ∧ zs.length = cap ∧ (∀ i, i < zs.length → w.cell? (x.add i) = some (.int k (zs.getD i 0))) ∧ ∀ n ∈ zs, (Lit.int k n).wf = true

theorem addr_form {w : World} {x : Addr} {v : Value} (h : w.cell? (x.add 0) = some v) : ∃ b off, x = ⟨b, off, none⟩ := by
  cases x with
  | mk b off spot =>
    cases spot with
    | none => exact ⟨b, off, rfl⟩
    | some s =>
      have hs := World.cell?_spot h
      simp [Addr.add] at hs

theorem u8_bd {x : Int} (h : (Lit.int .u8 x).wf = true) : 0 ≤ x ∧ x ≤ 255 := by
  simp [Lit.wf, IntKind.min, IntKind.max, IntKind.signed, IntKind.bits] at h
  omega

theorem IsRow.bytes {w : World} {a : Option Addr} {len cap : Nat} {zs : List Int} (h : IsRow .u8 w a len cap zs) : BytesAt w a len cap (zs.take len) := by
  rcases h with ⟨rfl, rfl, rfl, rfl⟩ | ⟨x, rfl, h1, h2, h3, hc, hw⟩
  · exact ⟨rfl, Nat.le_refl _, fun _ => rfl, fun ad h => (by cases h), fun y hy => (by simp at hy)⟩
  · refine ⟨by rw [List.length_take]; omega, h1, fun h => (by cases h), ?_, fun y hy => u8_bd (hw y (List.mem_of_mem_take hy))⟩
    intro ad e j u hu
    cases e
    rw [List.getElem?_map, List.getElem?_take] at hu
    split at hu
    · rename_i hj
      have hjl : j < zs.length := by omega
      have := hc j hjl
      rw [List.getElem?_eq_getElem hjl] at hu
      simp only [Option.map_some, Option.some.injEq] at hu
      rw [this, ← hu, List.getD_eq_getElem?_getD, List.getElem?_eq_getElem hjl]
      rfl
    · cases hu

theorem BytesAt.lt {w : World} {a : Option Addr} {m c : Nat} {b : List Int} (B : BytesAt w a m c b) {ad : Addr} (h : a = some ad) (hb : b ≠ []) : ad.block < w.heap.size := by
  cases b with
  | nil => exact absurd rfl hb
  | cons x r =>
    have := B.cells ad h 0 (.int .u8 x) rfl
    have := World.block_lt_of_cell? w _ this
    rw [block_add] at this
    exact this

open Go.ChangeShapes Go.WideShapes Go.ChangeAt

theorem Tryz.own : ownKnob Tryz.prog.godebug = none := by kernel_rfl
theorem Tryz.laidOut : laidOutB Tryz.prog = true := by kernel_rfl

theorem isRow_open {H : Type} {enc : TypeId × Value → H} {P : Program} {w : World} {base : Nat} {held : Bool} {t e : TypeId} {k : IntKind} {fuel : Nat} {v : Value} {x : DataW H × List MemPlace} (ht : P.underlying t = some (.slice e)) (he : P.underlying e = some (.int k)) (hc : P.cellsOf e = 1)
    (h : DataW.trod enc P w base (fun _ => true) held fuel t [v] = some x) : ∃ a len cap zs, v = .slice a len cap ∧ IsRow k w a len cap zs := by
  rcases open_ints ht he hc h with ⟨hcs, _⟩ | ⟨a, l, c, zs, hcs, _, hl, hm, hz, _, hcell, hwz⟩
  · simp only [List.cons.injEq, and_true] at hcs
    exact ⟨_, _, _, [], hcs, .inl ⟨rfl, rfl, rfl, rfl⟩⟩
  · simp only [List.cons.injEq, and_true] at hcs
    exact ⟨_, _, _, zs, hcs, .inr ⟨_, rfl, hl, hm, by simpa using hz, hcell, hwz⟩⟩

/-- Bytes that lie somewhere, turned into a string. -/
theorem BytesAt.str {w : World} {a : Option Addr} {m c : Nat} {b : List Int} (B : BytesAt w a m c b) : (convert 39 9 (.slice a m c)).run Tryz.prog w = .ok (.string (strOfNums b)) w := by
  cases a with
  | none =>
    have hm := B.nil rfl
    have hb : b = [] := List.eq_nil_of_length_eq_zero (by rw [B.len, hm])
    subst hb
    exact run_convert_bytes_nil w 39 5 Tryz.underlying39 Tryz.underlying5 m c 9 Tryz.underlying9
  | some ad =>
    cases hb : b with
    | nil =>
      subst hb
      have hm : m = 0 := B.len.symm
      subst hm
      rw [run_convert_bytes_string w _ _ 5 _ 0 c Tryz.underlying39 Tryz.underlying5 Tryz.underlying9]
      simp [Conv.bytesToString, loadCells]
      all_goals rfl
    | cons x r =>
      have h0 := B.cells ad rfl 0 (.int .u8 x) (by rw [hb]; rfl)
      obtain ⟨bk, off, rfl⟩ := addr_form h0
      rw [← hb]
      refine run_convert_bytes_arg w 39 5 Tryz.underlying39 Tryz.underlying5 bk off m c b B.len (fun i hi => ?_) 9 Tryz.underlying9
      have hil : i < b.length := by rw [B.len]; exact hi
      have := B.cells _ rfl i (.int .u8 (b.getD i 0)) (by rw [List.getElem?_map, List.getD_eq_getElem?_getD, List.getElem?_eq_getElem hil]; rfl)
      rw [Addr.add_lit] at this
      exact this

theorem BytesAt.at {w : World} {a : Option Addr} {m c : Nat} {b : List Int} (B : BytesAt w a m c b) {j : Nat} (hj : j < b.length) : ∃ ba oa, a = some ⟨ba, oa, none⟩ ∧ ∀ j, j < b.length → w.cell? ⟨ba, oa + j, none⟩ = some (.int .u8 (b.getD j 0)) := by
  have hlen := B.len
  cases a with
  | none => have := B.nil rfl; omega
  | some ad =>
    have hall : ∀ j, j < b.length → w.cell? (ad.add j) = some (.int .u8 (b.getD j 0)) := fun j hj => B.cells ad rfl j _ (by rw [List.getElem?_map, List.getD_eq_getElem?_getD, List.getElem?_eq_getElem hj]; rfl)
    obtain ⟨ba, oa, rfl⟩ := addr_form (hall 0 (by omega))
    exact ⟨ba, oa, rfl, fun j hj => by have := hall j hj; rw [Addr.add_lit] at this; exact this⟩

theorem BytesAt.ofRow {w : World} {base : Nat} {a : Option Addr} {c : Nat} {b : List Int} (h : w.ownsRow base 5 1 (.slice a b.length c) b.length (b.map (Value.int .u8))) (hb : ∀ x ∈ b, 0 ≤ x ∧ x ≤ 255) : BytesAt w a b.length c b := by
  rcases h.2 with ⟨e, h0⟩ | ⟨g, cap, cur, e, _, _, h1, _⟩
  · simp only [Value.slice.injEq] at e
    obtain ⟨rfl, _, rfl⟩ := e
    exact ⟨rfl, by omega, fun _ => h0, fun ad h => (by cases h), hb⟩
  · have h' := h
    simp only [Value.slice.injEq] at e
    obtain ⟨rfl, _, rfl⟩ := e
    exact ⟨rfl, h1, fun h => (by cases h), fun ad e => (by cases e; exact h'.cells rfl), hb⟩

/-- A store into a row that is owned. -/
theorem ownsRow_set {w : World} {base n cap g k : Nat} {e : TypeId} {xs : List Value} (h : w.ownsRow base e 1 (.slice (some ⟨g, 0, none⟩) n cap) n xs) (u : Value) :
    (w.setCell ⟨g, k, none⟩ u).ownsRow base e 1 (.slice (some ⟨g, 0, none⟩) n cap) n (xs.set k u) := by
  refine ⟨by rw [List.length_set]; exact h.1, ?_⟩
  rcases h.2 with ⟨h0, _⟩ | ⟨g', cap', cur, hv, hb, hh, r1, r2, r3, r4⟩
  · cases h0
  · simp only [Value.slice.injEq, Option.some.injEq, Addr.mk.injEq] at hv
    obtain ⟨⟨rfl, _⟩, _, rfl⟩ := hv
    refine .inr ⟨g, cap, cur.setIfInBounds k u, rfl, hb, by simp [World.setCell, Array.getElem?_modify, hh], r1, r2, by simpa using r3, ?_⟩
    rw [Array.toList_setIfInBounds, List.take_set, r4]

/-- A cell of a row that is owned. -/
theorem ownsRow_get {w : World} {base n cap g k : Nat} {e : TypeId} {xs : List Value} (h : w.ownsRow base e 1 (.slice (some ⟨g, 0, none⟩) n cap) n xs) {u : Value} (hu : xs[k]? = some u) : w.cell? ⟨g, k, none⟩ = some u ∧ w.frozen? ⟨g, k, none⟩ = false := by
  constructor
  · have := h.cells (g := g) rfl k u hu
    simpa [Addr.add_lit] using this
  · rcases h.2 with ⟨h0, _⟩ | ⟨g', cap', cur, hv, hb, hh, r⟩
    · cases h0
    · simp only [Value.slice.injEq, Option.some.injEq, Addr.mk.injEq] at hv
      obtain ⟨⟨rfl, _⟩, _⟩ := hv
      simp [World.frozen?, hh]


/-- What is handed to append: a row of cells, or nil. -/
def Src (w : World) (size : Nat) (x : Value) (m : Nat) (news : List Value) : Prop :=
  (∃ ad c, x = .slice (some ad) m c ∧ news.length = m * size ∧ ∀ j u, news[j]? = some u → w.cell? (ad.add j) = some u) ∨ (∃ c, x = .slice none 0 c ∧ m = 0 ∧ news = [])

theorem BytesAt.src {w : World} {a : Option Addr} {m c : Nat} {b : List Int} (B : BytesAt w a m c b) : Src w 1 (.slice a m c) m (b.map (Value.int .u8)) := by
  cases a with
  | none =>
    have hm := B.nil rfl
    have hb : b = [] := List.eq_nil_of_length_eq_zero (by rw [B.len, hm])
    exact .inr ⟨c, by rw [hm], hm, by rw [hb]; rfl⟩
  | some ad => exact .inl ⟨ad, c, rfl, by simp [B.len], B.cells ad rfl⟩

theorem run_append_src {P : Program} (w : World) (base : Nat) (t ty e : TypeId) (i : TypeInfo) (z : Value) (size bytes : Nat) (ht : P.underlying t = some (.slice e)) (hi : P.info? e = some i) (hz : i.zero = some z)
    (hsize : i.size = size) (hby : i.bytes = bytes) (hzs : z.cells.size = size) (hsz : 0 < size)
    (v : Value) (n : Nat) (xs : List Value) (hown : w.ownsRow base e size v n xs) (x : Value) (m : Nat) (news : List Value) (hsrc : Src w size x m news) (h1 : ∀ u ∈ news, u.oneCell' = true)
    (h63 : n + m ≤ maxLen) (hbytes : (n + m) * bytes ≤ 140737488355328) (hbase : base ≤ w.heap.size) :
    ∃ v' w', (Builtin.append_ #[t, t] ty #[v, x]).run P w = .ok v' w' ∧ w'.ownsRow base e size v' (n + m) (xs ++ news) ∧ w.grownBy w' v.ownBlock ∧
      (v' = .slice none 0 0 ↔ v = .slice none 0 0 ∧ m = 0) ∧ (v'.ownBlock = v.ownBlock ∨ v'.ownBlock = some w.heap.size) := by
  rcases hsrc with ⟨ad, c, rfl, hl, hc⟩ | ⟨c, rfl, rfl, rfl⟩
  · exact run_append_own_at w base t ty e i z size bytes ht hi hz hsize hby hzs hsz v n xs hown ad m c news hl hc h1 h63 hbytes hbase
  · refine ⟨v, w, ?_, by simpa using hown, ⟨rfl, rfl, rfl, Nat.le_refl _, fun _ _ _ => rfl⟩, by simp, .inl rfl⟩
    rcases hown.2 with ⟨rfl, rfl⟩ | ⟨g, cap, cur, rfl, _, _, hnc, _⟩
    · simp [Builtin.append_, run_underlying ht, sizeOf, typeInfo, hi, Builtin.lenOf, Builtin.firstCells]
    · simp [Builtin.append_, run_underlying ht, sizeOf, typeInfo, hi, Builtin.lenOf, Builtin.firstCells, hnc, storeCells]

/-- append(v, x...) onto a row that is owned, from whatever source, nil and empty ones too. -/
theorem wpList_append_src {P : Program} (w : World) {ops : Array Oper} {rest : List Oper} {o : Oper} {a : Act} {Q : Exit → Act → World → Prop} (hgd : o.guard = none) (s x : Operand) (t : TypeId)
    (ho : o.op = .call { callee := .builtin .append, args := #[s, x], argTypes := #[t, t] })
    (base : Nat) (e : TypeId) (i : TypeInfo) (z : Value) (size bytes : Nat) (ht : P.underlying t = some (.slice e)) (hi : P.info? e = some i) (hz : i.zero = some z)
    (hsize : i.size = size) (hby : i.bytes = bytes) (hzs : z.cells.size = size) (hsz : 0 < size)
    (v : Value) (n : Nat) (xs : List Value) (hs : a.eval s = v) (hown : w.ownsRow base e size v n xs) (xv : Value) (hx : a.eval x = xv) (m : Nat) (news : List Value) (hsrc : Src w size xv m news) (h1 : ∀ u ∈ news, u.oneCell' = true)
    (h63 : n + m ≤ maxLen) (hbytes : (n + m) * bytes ≤ 140737488355328) (hbase : base ≤ w.heap.size)
    (h : ∀ a' cap w', w'.ownsRow base e size (.slice a' (n + m) cap) (n + m) (xs ++ news) → w.grownBy w' v.ownBlock → (Value.slice a' (n + m) cap = .slice none 0 0 ↔ v = .slice none 0 0 ∧ m = 0) → ((Value.slice a' (n + m) cap).ownBlock = v.ownBlock ∨ (Value.slice a' (n + m) cap).ownBlock = some w.heap.size) → wpList P ops Q rest (a.put o.dst (.slice a' (n + m) cap)) w') :
    wpList P ops Q (o :: rest) a w := by
  refine wpList_plain hgd fun K hK => ?_
  obtain ⟨v', w', hrun, h2, h3, h4, h5⟩ := run_append_src (P := P) w base t o.type e i z size bytes ht hi hz hsize hby hzs hsz v n xs hown xv m news hsrc h1 h63 hbytes hbase
  obtain ⟨a', cap, rfl⟩ := ownsRow_shape h2
  unfold Oper.wp
  simp [execOp, ho, resolve, invoke, builtin, hs, hx, hrun, Result.andThen]
  exact hK _ _ (h a' cap w' h2 h3 h4 h5)

/-- A slice of no element, in a block of its own. -/
theorem ownsRow_empty (w : World) (base : Nat) (e : TypeId) (size : Nat) (hb : base ≤ w.heap.size) : (w.alloc (.cells #[] e)).ownsRow base e size (.slice (some ⟨w.heap.size, 0, none⟩) 0 0) 0 [] :=
  World.ownsRow_made w #[] 0 hb (by simp [maxLen]) (by simp)



end Go.Proofs.YtlholgpenpfpbaaGreatDoor

/-
  Definitions as data: their nodes, whom a name means, the order of the nodes. Nothing here speaks of a program.
-/
namespace Go.Proofs.YtlholgpenpfpbaaGreatDoor
open Go.RowKit

/-- A node of a definition. -/
structure Nd where
  name : ByteArray
  kind : Int
  arg : ByteArray
  «to» : ByteArray
  delay : Int
  tries : Int
  after : List ByteArray

/-- The first node of a name. -/
def findP (ns : List Nd) (s : ByteArray) : Option Nat := ns.findIdx? (fun n => decide (n.name = s))

theorem findP_lt {ns : List Nd} {s : ByteArray} {i : Nat} (h : findP ns s = some i) : i < ns.length := by
  unfold findP at h
  rw [List.findIdx?_eq_some_iff_getElem] at h
  exact h.1

theorem findP_name {ns : List Nd} {s : ByteArray} {i : Nat} (h : findP ns s = some i) : (ns[i]'(findP_lt h)).name = s := by
  have h2 := h
  unfold findP at h2
  rw [List.findIdx?_eq_some_iff_getElem] at h2
  obtain ⟨_, h3, _⟩ := h2
  simpa using h3

theorem findP_first {ns : List Nd} {s : ByteArray} {i : Nat} (h : findP ns s = some i) {j : Nat} (hj : j < i) : (ns[j]'(Nat.lt_trans hj (findP_lt h))).name ≠ s := by
  have h2 := h
  unfold findP at h2
  rw [List.findIdx?_eq_some_iff_getElem] at h2
  obtain ⟨_, _, h4⟩ := h2
  have := h4 j hj
  simpa using this

theorem findP_none {ns : List Nd} {s : ByteArray} : findP ns s = none ↔ ∀ n ∈ ns, n.name ≠ s := by
  unfold findP
  rw [List.findIdx?_eq_none_iff]
  simp

theorem findP_take {ns : List Nd} {s : ByteArray} {k : Nat} (hk : k < ns.length) : findP (ns.take (k + 1)) s = (findP (ns.take k) s).or (if (ns[k]).name = s then some k else none) := by
  rw [List.take_add_one, List.getElem?_eq_getElem hk, Option.toList_some]
  unfold findP
  rw [List.findIdx?_append, List.length_take, Nat.min_eq_left (by omega)]
  congr 1
  by_cases h : (ns[k]).name = s
  · simp [h]
  · simp [h]

theorem findP_of_first {ns : List Nd} {s : ByteArray} {i : Nat} (hi : i < ns.length) (h : (ns[i]).name = s) (hf : ∀ j (hj : j < i), (ns[j]'(by omega)).name ≠ s) : findP ns s = some i := by
  unfold findP
  rw [List.findIdx?_eq_some_iff_getElem]
  exact ⟨hi, by simpa using h, fun j hj => by simpa using hf j hj⟩

/-- The node that a name in the After of n means. -/
def aheadP (ns : List Nd) (n : Nd) (s : ByteArray) : Option Nat := if s = n.name then none else findP ns s

theorem aheadP_lt {ns : List Nd} {n : Nd} {s : ByteArray} {i : Nat} (h : aheadP ns n s = some i) : i < ns.length := by
  unfold aheadP at h
  split at h
  · cases h
  · exact findP_lt h

/-- For how many of its After a node still waits, when those of T were told. -/
def need (ns : List Nd) (T : List Nat) (n : Nd) : Nat := n.after.countP (fun s => match aheadP ns n s with | some j => !T.contains j | none => true)

/-- How often a node's After means the node j. -/
def asks (ns : List Nd) (n : Nd) (j : Nat) : Nat := n.after.countP (fun s => decide (aheadP ns n s = some j))

/-- Node i was not told and may be. -/
def mayB (ns : List Nd) (T : List Nat) (i : Nat) : Bool := !T.contains i && match ns[i]? with | some n => decide (need ns T n = 0) | none => false

def nextP (ns : List Nd) (T : List Nat) : Option Nat := (List.range ns.length).find? (mayB ns T)

def ordK (ns : List Nd) : Nat → List Nat → List Nat
  | 0, T => T
  | k + 1, T => match nextP ns T with
    | some i => ordK ns k (T ++ [i])
    | none => T

/-- The nodes in order, as far as they can be told. -/
def ordP (ns : List Nd) : List Nat := ordK ns ns.length []

theorem mayB_lt {ns : List Nd} {T : List Nat} {i : Nat} (h : mayB ns T i = true) : i < ns.length := by
  unfold mayB at h
  cases hn : ns[i]? with
  | none => rw [hn] at h; simp at h
  | some n => exact (List.getElem?_eq_some_iff.1 hn).1

theorem nextP_some {ns : List Nd} {T : List Nat} {i : Nat} (h1 : mayB ns T i = true) (h2 : ∀ j, j < i → mayB ns T j = false) : nextP ns T = some i := by
  unfold nextP
  rw [List.find?_range_eq_some]
  exact ⟨h1, by simpa using mayB_lt h1, fun j hj => by simp [h2 j hj]⟩

theorem nextP_is {ns : List Nd} {T : List Nat} {i : Nat} (h : nextP ns T = some i) : mayB ns T i = true ∧ ∀ j, j < i → mayB ns T j = false := by
  unfold nextP at h
  rw [List.find?_range_eq_some] at h
  exact ⟨h.1, fun j hj => by simpa using h.2.2 j hj⟩

theorem nextP_none {ns : List Nd} {T : List Nat} (h : ∀ j, j < ns.length → mayB ns T j = false) : nextP ns T = none := by
  unfold nextP
  rw [List.find?_eq_none]
  intro x hx
  rw [List.mem_range] at hx
  simp [h x hx]

theorem need_add {ns : List Nd} {T : List Nat} {i : Nat} (hi : i ∉ T) (n : Nd) : need ns T n = need ns (T ++ [i]) n + asks ns n i := by
  unfold need asks
  induction n.after with
  | nil => rfl
  | cons s r ih =>
    rw [List.countP_cons, List.countP_cons, List.countP_cons, ih]
    cases ha : aheadP ns n s with
    | none => simp; omega
    | some j =>
      by_cases hj : j = i
      · subst hj
        simp [hi]; omega
      · have : ¬ (i = j) := fun e => hj e.symm
        simp [hj]; omega

/-- A run of the order so far: T was told, each at its turn. -/
def Runs (ns : List Nd) (T : List Nat) : Prop := T.Nodup ∧ (∀ i ∈ T, i < ns.length) ∧ (∀ i ∈ T, ∀ n, ns[i]? = some n → need ns T n = 0) ∧ T.length ≤ ns.length ∧ ordP ns = ordK ns (ns.length - T.length) T

theorem nodup_le : ∀ {n : Nat} {l : List Nat}, l.Nodup → (∀ i ∈ l, i < n) → l.length ≤ n := by
  intro n
  induction n with
  | zero =>
    intro l _ h
    cases l with
    | nil => simp
    | cons x r => have := h x (List.mem_cons_self ..); omega
  | succ n ih =>
    intro l hn hl
    have h2 := ih (l := l.erase n) (hn.erase n) (fun i hi => by
      have h3 := hl i (List.mem_of_mem_erase hi)
      have h4 : i ≠ n := fun e => by subst e; exact (List.Nodup.not_mem_erase hn) hi
      omega)
    rw [List.length_erase] at h2
    split at h2 <;> omega

theorem Runs.zero (ns : List Nd) : Runs ns [] := ⟨by simp, by simp, by simp, by simp, rfl⟩

/-- One more is told: the first that may be. -/
theorem Runs.step {ns : List Nd} {T : List Nat} (R : Runs ns T) {i : Nat} (h1 : mayB ns T i = true) (h2 : ∀ j, j < i → mayB ns T j = false) : Runs ns (T ++ [i]) := by
  obtain ⟨r1, r2, r3, r4, r5⟩ := R
  have hi : i ∉ T := by
    intro hm
    unfold mayB at h1
    simp [hm] at h1
  have hlt := mayB_lt h1
  have n1 : (T ++ [i]).Nodup := by
    rw [List.nodup_append]
    exact ⟨r1, by simp, fun a ha b hb e => by simp at hb; subst hb; subst e; exact hi ha⟩
  have n2 : ∀ k ∈ T ++ [i], k < ns.length := by
    intro k hk
    rcases List.mem_append.1 hk with h | h
    · exact r2 k h
    · simp at h; subst h; exact hlt
  have n4 := nodup_le n1 n2
  refine ⟨n1, n2, ?_, n4, ?_⟩
  · intro k hk n hn
    have ha := need_add (ns := ns) hi n
    rcases List.mem_append.1 hk with h | h
    · have := r3 k h n hn; omega
    · simp at h; subst h
      unfold mayB at h1
      rw [hn] at h1
      simp at h1
      omega
  · rw [r5, List.length_append, List.length_singleton] at *
    have e : ns.length - T.length = (ns.length - (T.length + 1)) + 1 := by omega
    rw [e, ordK, nextP_some h1 h2]

/-- None may be told: that was all. -/
theorem Runs.stop {ns : List Nd} {T : List Nat} (R : Runs ns T) (h : ∀ j, j < ns.length → mayB ns T j = false) : ordP ns = T := by
  obtain ⟨r1, r2, r3, r4, r5⟩ := R
  rw [r5]
  cases ns.length - T.length with
  | zero => rfl
  | succ k => rw [ordK, nextP_none h]

/-- Telling i leaves those ready that were, and makes only those ready that ask for i. -/
theorem mayB_kept {ns : List Nd} {T : List Nat} {i k : Nat} (hi : i ∉ T) {n : Nd} (hn : ns[k]? = some n) (ha : asks ns n i = 0) (hk : k ≠ i) : mayB ns (T ++ [i]) k = mayB ns T k := by
  unfold mayB
  rw [hn]
  have h := need_add (ns := ns) hi n
  rw [ha] at h
  simp only [Nat.add_zero] at h
  simp [h, hk]

theorem asks_told {ns : List Nd} {T : List Nat} {i : Nat} (hi : i ∉ T) {n : Nd} (h0 : need ns T n = 0) : asks ns n i = 0 := by
  have := need_add (ns := ns) hi n
  omega

theorem need_le (ns : List Nd) (T : List Nat) (n : Nd) : need ns T n ≤ n.after.length := List.countP_le_length

theorem need_nil (ns : List Nd) (n : Nd) : need ns [] n = n.after.length := by
  unfold need
  rw [List.countP_eq_length]
  intro s _
  cases aheadP ns n s <;> simp

/-- A text of 1 to most bytes, each of them one of a list. -/
def madeP (s l : ByteArray) (most : Int) : Bool := decide (1 ≤ s.size) && decide ((s.size : Int) ≤ most) && s.data.toList.all (fun c => l.data.toList.contains c)

def lettersB : ByteArray := ⟨#[97, 98, 99, 100, 101, 102, 103, 104, 105, 106, 107, 108, 109, 110, 111, 112, 113, 114, 115, 116, 117, 118, 119, 120, 121, 122, 65, 66, 67, 68, 69, 70, 71, 72, 73, 74, 75, 76, 77, 78, 79, 80, 81, 82, 83, 84, 85, 86, 87, 88, 89, 90, 48, 49, 50, 51, 52, 53, 54, 55, 56, 57, 46, 45, 95]⟩
def flowsB : ByteArray := ⟨#[97, 98, 99, 100, 101, 102, 103, 104, 105, 106, 107, 108, 109, 110, 111, 112, 113, 114, 115, 116, 117, 118, 119, 120, 121, 122, 65, 66, 67, 68, 69, 70, 71, 72, 73, 74, 75, 76, 77, 78, 79, 80, 81, 82, 83, 84, 85, 86, 87, 88, 89, 90, 48, 49, 50, 51, 52, 53, 54, 55, 56, 57, 46, 45, 95, 47]⟩

def nameP (s : ByteArray) : Bool := madeP s lettersB 64
def flowP (s : ByteArray) : Bool := madeP s flowsB 256

/-- A node has the names that its kind needs. -/
def namedP (n : Nd) : Bool := nameP n.name && (n.kind == 2 || nameP n.arg) && (n.kind != 5 || flowP n.to)
/-- A node has what its kind allows, and nothing else. -/
def fitsP (n : Nd) : Bool :=
  if n.delay < 0 || n.delay > 1000000 then false
  else if n.kind == 1 then decide (1 ≤ n.tries) && decide (n.tries ≤ 10) && decide (n.to.size = 0)
  else if n.kind == 2 then n.tries == 0 && decide (n.to.size = 0) && decide (n.arg.size = 0)
  else if n.kind == 3 || n.kind == 4 then n.tries == 0 && decide (n.to.size = 0) && n.delay == 0
  else if n.kind == 5 then n.tries == 0 && n.delay == 0
  else false

/-- What is wrong with a node, but for its After (0: nothing). -/
def nodeE (ns : List Nd) (i : Nat) (n : Nd) : Int :=
  if namedP n then (if (findP ns n.name).getD 0 < i then 16 else if fitsP n then 0 else 1) else 17

/-- What is wrong with a node's After. -/
def afterE (ns : List Nd) (n : Nd) : Int :=
  if n.after.all (fun s => (findP ns s).isSome) then (if n.after.Nodup then 0 else 16) else 6

/-- The first of some that is not 0. -/
def firstE (f : Nat → Int) : Nat → Option (Nat × Int)
  | 0 => none
  | k + 1 => match firstE f k with
    | some x => some x
    | none => if f k = 0 then none else some (k, f k)

/-- What is wrong with a definition: the node's number, the error. -/
def checkP (name : ByteArray) (ns : List Nd) : Int × Int :=
  if nameP name = false then (-1, 17)
  else if ns.length < 1 ∨ 32 < ns.length then (-1, 10)
  else match firstE (fun i => match ns[i]? with | some n => nodeE ns i n | none => 0) ns.length with
    | some (i, e) => (i, e)
    | none => match firstE (fun i => match ns[i]? with | some n => afterE ns n | none => 0) ns.length with
      | some (i, e) => (i, e)
      | none => if (ordP ns).length = ns.length then (-1, 0) else (-1, 15)

/-- Who waits for node j, each as often as it asks, among the first i nodes. -/
def bhL (ns : List Nd) (j : Nat) : Nat → List Nat
  | 0 => []
  | i + 1 => bhL ns j i ++ List.replicate (match ns[i]? with | some n => asks ns n j | none => 0) i

theorem bh_lt {ns : List Nd} {j : Nat} : ∀ {i x : Nat}, x ∈ bhL ns j i → x < i
  | 0, x, h => by simp [bhL] at h
  | i + 1, x, h => by
    rw [bhL, List.mem_append] at h
    rcases h with h | h
    · have := bh_lt h; omega
    · rw [List.mem_replicate] at h; omega

theorem bh_count {ns : List Nd} {j : Nat} : ∀ {i x : Nat} {n : Nd}, ns[x]? = some n → x < i → (bhL ns j i).count x = asks ns n j
  | 0, x, n, _, h => by omega
  | i + 1, x, n, hn, h => by
    rw [bhL, List.count_append]
    by_cases e : x = i
    · subst e
      rw [hn, List.count_replicate_self, List.count_eq_zero_of_not_mem (fun h => by have := bh_lt h; omega), Nat.zero_add]
    · rw [bh_count hn (by omega), List.count_replicate, if_neg (by simpa using fun h => e h.symm)]
      rfl

theorem bh_asks {ns : List Nd} {j i x : Nat} (h : x ∈ bhL ns j i) : ∃ n, ns[x]? = some n ∧ 0 < asks ns n j := by
  induction i with
  | zero => simp [bhL] at h
  | succ i ih =>
    rw [bhL, List.mem_append] at h
    rcases h with h | h
    · exact ih h
    · rw [List.mem_replicate] at h
      obtain ⟨h1, rfl⟩ := h
      cases hn : ns[x]? with
      | none => rw [hn] at h1; simp at h1
      | some n => rw [hn] at h1; exact ⟨n, rfl, by simpa using Nat.pos_of_ne_zero h1⟩

theorem bh_mem {ns : List Nd} {j x : Nat} {n : Nd} (hn : ns[x]? = some n) (h : 0 < asks ns n j) : x ∈ bhL ns j ns.length := by
  have hx := (List.getElem?_eq_some_iff.1 hn).1
  rw [← List.count_pos_iff, bh_count hn hx]
  exact h

/-- What stands open of each node when those of T were told: -1, if it was itself. -/
def OpenIs (ns : List Nd) (T : List Nat) (fo : List Int) : Prop := fo.length = ns.length ∧ ∀ x n, ns[x]? = some n → fo[x]? = some (if x ∈ T then -1 else (need ns T n : Int))

/-- .. while the first p of those that wait for i are told of it. -/
def OpenAt (ns : List Nd) (T : List Nat) (i p : Nat) (fo : List Int) : Prop := fo.length = ns.length ∧
  ∀ x n, ns[x]? = some n → fo[x]? = some (if x ∈ T ++ [i] then -1 else (need ns T n : Int) - (((bhL ns i ns.length).take p).count x : Nat))

theorem openIs_may {ns : List Nd} {T : List Nat} {fo : List Int} (O : OpenIs ns T fo) {i : Nat} (hi : i < ns.length) : (fo[i]'(by rw [O.1]; exact hi) = 0) ↔ mayB ns T i = true := by
  have h := O.2 i _ (List.getElem?_eq_getElem hi)
  rw [List.getElem?_eq_getElem (by rw [O.1]; exact hi)] at h
  have h2 := Option.some.inj h
  rw [h2]
  unfold mayB
  rw [List.getElem?_eq_getElem hi]
  by_cases hT : i ∈ T
  · simp [hT]
  · simp [hT]

theorem openAt_start {ns : List Nd} {T : List Nat} {fo : List Int} (O : OpenIs ns T fo) (i : Nat) : OpenAt ns T i 0 (fo.set i (-1)) := by
  refine ⟨by rw [List.length_set]; exact O.1, fun x n hn => ?_⟩
  have h := O.2 x n hn
  rw [List.getElem?_set]
  by_cases e : i = x
  · subst e
    have hx := (List.getElem?_eq_some_iff.1 h).1
    simp [hx]
  · rw [if_neg e, h]
    by_cases hT : x ∈ T
    · simp [hT]
    · have : ¬ x = i := fun h => e h.symm
      simp [hT, this]

theorem bh_free {ns : List Nd} {T : List Nat} {i : Nat} (R : Runs ns T) (hm : mayB ns T i = true) {x : Nat} (hx : x ∈ bhL ns i ns.length) : x ∉ T ++ [i] ∧ ∃ n, ns[x]? = some n ∧ (bhL ns i ns.length).count x ≤ need ns T n := by
  obtain ⟨n, hn, ha⟩ := bh_asks hx
  have hi : i ∉ T := by
    intro h
    unfold mayB at hm
    simp [h] at hm
  have hadd := need_add (ns := ns) hi n
  refine ⟨fun h => ?_, n, hn, ?_⟩
  · rcases List.mem_append.1 h with h | h
    · have := R.2.2.1 x h n hn; omega
    · simp at h; subst h
      unfold mayB at hm
      rw [hn] at hm
      simp at hm
      omega
  · rw [bh_count hn (bh_lt hx)]; omega

theorem openAt_step {ns : List Nd} {T : List Nat} {i p : Nat} {fo : List Int} (R : Runs ns T) (hm : mayB ns T i = true) (O : OpenAt ns T i p fo) (hp : p < (bhL ns i ns.length).length) :
    ∃ h : (bhL ns i ns.length)[p] < fo.length, 1 ≤ fo[(bhL ns i ns.length)[p]] ∧ OpenAt ns T i (p + 1) (fo.set (bhL ns i ns.length)[p] (fo[(bhL ns i ns.length)[p]] - 1)) := by
  have hx : (bhL ns i ns.length)[p] ∈ bhL ns i ns.length := List.getElem_mem hp
  obtain ⟨hT, n, hn, hc⟩ := bh_free R hm hx
  have hlt : (bhL ns i ns.length)[p] < fo.length := by rw [O.1]; exact bh_lt hx
  have ht : (bhL ns i ns.length).take (p + 1) = (bhL ns i ns.length).take p ++ [(bhL ns i ns.length)[p]] := by rw [List.take_add_one, List.getElem?_eq_getElem hp]; rfl
  have hv := O.2 _ n hn
  rw [if_neg hT, List.getElem?_eq_getElem hlt] at hv
  have hv2 := Option.some.inj hv
  have hcnt : ((bhL ns i ns.length).take p).count (bhL ns i ns.length)[p] + 1 ≤ (bhL ns i ns.length).count (bhL ns i ns.length)[p] := by
    have h1 : ((bhL ns i ns.length).take (p + 1)).count (bhL ns i ns.length)[p] ≤ (bhL ns i ns.length).count (bhL ns i ns.length)[p] := (List.take_sublist _ _).count_le _
    rw [ht, List.count_append, List.count_singleton_self] at h1
    exact h1
  refine ⟨hlt, by rw [hv2]; omega, by rw [List.length_set]; exact O.1, fun x m hxm => ?_⟩
  rw [List.getElem?_set, ht, List.count_append]
  by_cases e : (bhL ns i ns.length)[p] = x
  · rw [if_pos e, if_pos hlt, hv2, List.count_singleton]
    have hT' : ¬ x ∈ T ++ [i] := e ▸ hT
    rw [if_neg hT', if_pos (by simpa using e)]
    have : m = n := by rw [e, hxm] at hn; exact (Option.some.inj hn)
    subst this
    rw [e]
    congr 1
    omega
  · have e2 : ((bhL ns i ns.length)[p] == x) = false := by simpa using e
    rw [if_neg e, O.2 x m hxm, List.count_singleton, e2]
    simp

theorem openAt_end {ns : List Nd} {T : List Nat} {i : Nat} {fo : List Int} (hm : mayB ns T i = true) {p : Nat} (hp : p = (bhL ns i ns.length).length) (O : OpenAt ns T i p fo) : OpenIs ns (T ++ [i]) fo := by
  refine ⟨O.1, fun x n hn => ?_⟩
  have hi : i ∉ T := by
    intro h
    unfold mayB at hm
    simp [h] at hm
  rw [O.2 x n hn, hp, List.take_length, bh_count hn (List.getElem?_eq_some_iff.1 hn).1]
  have hadd := need_add (ns := ns) hi n
  congr 1
  split
  · rfl
  · omega

/-- Behind i's telling no node ahead of fr may be told. -/
theorem may_after {ns : List Nd} {T : List Nat} {i fr : Nat} {fo : List Int} (hm : mayB ns T i = true) (hlow : ∀ y, y < i → mayB ns T y = false) (O : OpenIs ns (T ++ [i]) fo) (hfr : fr ≤ i)
    (hz : ∀ x ∈ bhL ns i ns.length, fo[x]? = some 0 → fr ≤ x) : ∀ y, y < fr → mayB ns (T ++ [i]) y = false := by
  intro y hy
  have hi : i ∉ T := by
    intro h
    unfold mayB at hm
    simp [h] at hm
  cases hb : mayB ns (T ++ [i]) y with
  | false => rfl
  | true =>
    exfalso
    have hyl := mayB_lt hb
    have hn := List.getElem?_eq_getElem hyl
    have h0 := (openIs_may O hyl).2 hb
    have h1 := hlow y (by omega)
    have hadd := need_add (ns := ns) hi ns[y]
    by_cases ha : 0 < asks ns ns[y] i
    · have := hz y (bh_mem hn ha) (by rw [List.getElem?_eq_getElem (by rw [O.1]; exact hyl), h0])
      omega
    · rw [mayB_kept hi hn (by omega) (by omega)] at hb
      rw [hb] at h1
      cases h1

end Go.Proofs.YtlholgpenpfpbaaGreatDoor

/-
  Definitions in memory: rows of texts, rows of nodes; they are read alone.
-/
namespace Go.Proofs.YtlholgpenpfpbaaGreatDoor
open Go.RowKit

/-- A row of cells: none, or it lies at b, o. -/
def CellsAt (w : World) (a : Option Addr) (l : List Value) : Prop := l = [] ∨ ∃ b o, a = some ⟨b, o, none⟩ ∧ ∀ j u, l[j]? = some u → w.cell? ⟨b, o + j, none⟩ = some u

theorem CellsAt.kept {S : Nat → Prop} {w w' : World} {a : Option Addr} {l : List Value} (C : CellsAt w a l) (K : Kept S w w') (hS : ∀ k, k < w.heap.size → ¬ S k) : CellsAt w' a l := by
  rcases C with h | ⟨b, o, h, hc⟩
  · exact .inl h
  · refine .inr ⟨b, o, h, fun j u hu => ?_⟩
    have h1 := hc j u hu
    have h2 := World.block_lt_of_cell? w _ h1
    rw [World.cell?_of_block (w := w) (K.block _ h2 (hS _ h2))]
    exact h1

theorem keepC {S : Nat → Prop} {w w' : World} (K : Kept S w w') {a : Addr} {v : Value} (h : w.cell? a = some v) (hS : ∀ k, k < w.heap.size → ¬ S k) : w'.cell? a = some v := by
  have h2 := World.block_lt_of_cell? w _ h
  rw [World.cell?_of_block (w := w) (K.block _ h2 (hS _ h2))]
  exact h

/-- Texts that lie in a row. -/
def TextsAt (w : World) (v : Value) (l : List ByteArray) : Prop := ∃ a c, v = .slice a l.length c ∧ l.length ≤ c ∧ c ≤ maxLen ∧ CellsAt w a (l.map Value.string) ∧ ∀ s ∈ l, s.size ≤ maxLen

theorem TextsAt.kept {S : Nat → Prop} {w w' : World} {v : Value} {l : List ByteArray} (C : TextsAt w v l) (K : Kept S w w') (hS : ∀ k, k < w.heap.size → ¬ S k) : TextsAt w' v l := by
  obtain ⟨a, c, h1, h2, h3, h4, h5⟩ := C
  exact ⟨a, c, h1, h2, h3, h4.kept K hS, h5⟩

theorem TextsAt.at {w : World} {v : Value} {l : List ByteArray} (C : TextsAt w v l) : ∃ a c, v = .slice a l.length c ∧ l.length ≤ c ∧ (l ≠ [] → ∃ b o, a = some ⟨b, o, none⟩ ∧ ∀ i (h : i < l.length), w.cell? ⟨b, o + i, none⟩ = some (.string (l[i]'h))) := by
  obtain ⟨a, c, h1, h2, h3, h4, h5⟩ := C
  refine ⟨a, c, h1, h2, fun hne => ?_⟩
  rcases h4 with h | ⟨b, o, h, hc⟩
  · simp at h; exact absurd h hne
  · exact ⟨b, o, h, fun i hi => hc i _ (by simp [hi])⟩

/-- A node's seven cells. -/
def ndC (n : Nd) (v : Value) : List Value := [.string n.name, .int .i64 n.kind, .string n.arg, .string n.to, .int .i64 n.delay, .int .i64 n.tries, v]

/-- A node is one of memory: its texts and numbers are. -/
structure NdOk (n : Nd) : Prop where
  name : n.name.size ≤ maxLen
  arg : n.arg.size ≤ maxLen
  «to» : n.to.size ≤ maxLen
  kind : isI64 n.kind
  delay : isI64 n.delay
  tries : isI64 n.tries
  few : n.after.length ≤ 1000000

/-- Nodes that lie in a row at a. -/
def NodesAt (w : World) (a : Option Addr) (ns : List Nd) : Prop := (∀ n ∈ ns, NdOk n) ∧ (ns = [] ∨ ∃ b o, a = some ⟨b, o, none⟩ ∧ ∀ i (h : i < ns.length), ∃ v, TextsAt w v (ns[i]'h).after ∧ ∀ j u, (ndC (ns[i]'h) v)[j]? = some u → w.cell? ⟨b, o + i * 7 + j, none⟩ = some u)

theorem NodesAt.kept {S : Nat → Prop} {w w' : World} {a : Option Addr} {ns : List Nd} (C : NodesAt w a ns) (K : Kept S w w') (hS : ∀ k, k < w.heap.size → ¬ S k) : NodesAt w' a ns := by
  refine ⟨C.1, ?_⟩
  rcases C.2 with h | ⟨b, o, h, hc⟩
  · exact .inl h
  · refine .inr ⟨b, o, h, fun i hi => ?_⟩
    obtain ⟨v, hv, hw⟩ := hc i hi
    refine ⟨v, hv.kept K hS, fun j u hu => ?_⟩
    have h1 := hw j u hu
    have h2 := World.block_lt_of_cell? w _ h1
    rw [World.cell?_of_block (w := w) (K.block _ h2 (hS _ h2))]
    exact h1

/-- A node's own row and what it holds. -/
theorem NodesAt.at {w : World} {a : Option Addr} {ns : List Nd} (C : NodesAt w a ns) {i : Nat} (hi : i < ns.length) : ∃ b o av cv, a = some ⟨b, o, none⟩ ∧ TextsAt w (.slice av (ns[i]).after.length cv) (ns[i]).after ∧
    w.cell? ⟨b, o + i * 7, none⟩ = some (.string (ns[i]).name) ∧ w.cell? ⟨b, o + i * 7 + 1, none⟩ = some (.int .i64 (ns[i]).kind) ∧ w.cell? ⟨b, o + i * 7 + 2, none⟩ = some (.string (ns[i]).arg) ∧ w.cell? ⟨b, o + i * 7 + 3, none⟩ = some (.string (ns[i]).to) ∧
    w.cell? ⟨b, o + i * 7 + 4, none⟩ = some (.int .i64 (ns[i]).delay) ∧ w.cell? ⟨b, o + i * 7 + 5, none⟩ = some (.int .i64 (ns[i]).tries) ∧ w.cell? ⟨b, o + i * 7 + 6, none⟩ = some (.slice av (ns[i]).after.length cv) := by
  rcases C.2 with h | ⟨b, o, h, hc⟩
  · subst h; simp at hi
  · obtain ⟨v, hv, hw⟩ := hc i hi
    have hv2 := hv
    obtain ⟨av, cv, rfl, _⟩ := hv2
    exact ⟨b, o, av, cv, h, hv, hw 0 _ rfl, hw 1 _ rfl, hw 2 _ rfl, hw 3 _ rfl, hw 4 _ rfl, hw 5 _ rfl, hw 6 _ rfl⟩

/-- A definition's value. -/
def defV (name : ByteArray) (a : Option Addr) (n c : Nat) : Value := .agg #[.string name, .slice a n c]

/-- Only what is new may have changed: what is read stays. -/
theorem keptNew {w w' : World} (K : Kept (fun _ => False) w w') {a : Option Addr} {ns : List Nd} (C : NodesAt w a ns) : NodesAt w' a ns := C.kept K (fun _ _ h => h)

/-- What was put into a box stays there. -/
theorem boxC {S : Nat → Prop} {w w' : World} {arr : Array Value} {T : TypeId} (K : Kept S (w.alloc (.cells arr T)) w') (hS : ¬ S w.heap.size) (j : Nat) (u : Value) (h : arr[j]? = some u) : w'.cell? ⟨w.heap.size, j, none⟩ = some u := by
  have hb := K.block w.heap.size (by simp) hS
  rw [World.cell?_of_block (w := w.alloc (.cells arr T)) hb]
  unfold World.cell?
  rw [heap_alloc_new]
  exact h

theorem boxD {w w' : World} {u0 u1 : Value} {T : TypeId} (K : Kept (fun _ => False) (w.alloc (.cells #[u0, u1] T)) w') : w'.cell? ⟨w.heap.size, 0, none⟩ = some u0 ∧ w'.cell? ⟨w.heap.size, 1, none⟩ = some u1 :=
  ⟨boxC K (fun h => h) 0 _ rfl, boxC K (fun h => h) 1 _ rfl⟩

theorem boxN {w w' : World} {u0 u1 u2 u3 u4 u5 u6 : Value} {T : TypeId} (K : Kept (fun _ => False) (w.alloc (.cells #[u0, u1, u2, u3, u4, u5, u6] T)) w') : w'.cell? ⟨w.heap.size, 0, none⟩ = some u0 ∧ w'.cell? ⟨w.heap.size, 1, none⟩ = some u1 ∧ w'.cell? ⟨w.heap.size, 2, none⟩ = some u2 ∧
    w'.cell? ⟨w.heap.size, 3, none⟩ = some u3 ∧ w'.cell? ⟨w.heap.size, 4, none⟩ = some u4 ∧ w'.cell? ⟨w.heap.size, 5, none⟩ = some u5 ∧ w'.cell? ⟨w.heap.size, 6, none⟩ = some u6 :=
  ⟨boxC K (fun h => h) 0 _ rfl, boxC K (fun h => h) 1 _ rfl, boxC K (fun h => h) 2 _ rfl, boxC K (fun h => h) 3 _ rfl, boxC K (fun h => h) 4 _ rfl, boxC K (fun h => h) 5 _ rfl, boxC K (fun h => h) 6 _ rfl⟩

end Go.Proofs.YtlholgpenpfpbaaGreatDoor

/-
  A map keyed by texts as a table of raw values. Nothing here speaks of one program.
-/
namespace Go.Proofs.YtlholgpenpfpbaaGreatDoor
open Go.RowKit Go.Maps Go.ChangeMaps Go.MapKept Go.WideMaps
open Go.WideElems (Fit rd rg pl rd_val elemAt)

/-- An element as it lies. -/
def rawElem (v : Value) : Option (DataW Value × List MemPlace) := some (.held v, [])

def updS (M : ByteArray → Option Value) (i : ByteArray) (v : Option Value) : ByteArray → Option Value := fun x => if x = i then v else M x

/-- Block b is a map of at most n entries that holds M. -/
def STab (P : Program) (k : TypeId) (w : World) (b n : Nat) (M : ByteArray → Option Value) : Prop :=
  ∃ D : DataW Value, w.ownsMap P k rawElem b n D ∧ ∀ x : ByteArray, x.size ≤ maxLen → ∀ z, D.atKey (.string x.data.toList) z = match M x with | some v => .held v | none => z

section
variable {P : Program} {k : TypeId} {w w' : World} {b n : Nat} {M : ByteArray → Option Value}

theorem STab.made (P : Program) (k : TypeId) (w : World) : STab P k (w.alloc (.map #[] 0)) w.heap.size 0 (fun _ => none) :=
  ⟨.map [], World.ownsMap_made w P k rawElem, fun x _ z => by simp [DataW.atKey]⟩

theorem STab.lt (T : STab P k w b n M) : b < w.heap.size := by obtain ⟨D, h, _⟩ := T; exact h.lt

theorem STab.block (T : STab P k w b n M) (h : w'.heap[b]? = w.heap[b]?) : STab P k w' b n M := by
  obtain ⟨D, ⟨es, clock, hb, r⟩, hD⟩ := T
  exact ⟨D, ⟨es, clock, h.trans hb, r⟩, hD⟩

theorem STab.kept {S : Nat → Prop} (T : STab P k w b n M) (K : Kept S w w') (hS : ¬ S b) : STab P k w' b n M := T.block (K.block b T.lt hS)

theorem STab.mono (T : STab P k w b n M) {n' : Nat} (h : n ≤ n') : STab P k w b n' M := by
  obtain ⟨D, hown, hD⟩ := T
  exact ⟨D, hown.mono h, hD⟩

theorem STab.is (T : STab P k w b n M) {M' : ByteArray → Option Value} (h : ∀ x, M x = M' x) : STab P k w b n M' := by
  have : M = M' := funext h
  rw [← this]; exact T

theorem has_of_stab {D : DataW Value} {x : List UInt8} {o : Option Value} (h : ∀ z, D.atKey (.string x) z = match o with | some v => .held v | none => z) : Maps.has D (.string x) = o.isSome := by
  cases hM : o with
  | none => rw [hM] at h; exact has_false_of_atKey h
  | some v => rw [hM] at h; exact has_true_of_atKey h

theorem STab.look {t e : TypeId} (T : STab P k w b n M) (hk : P.underlying k = some .string) (ht : P.underlying t = some (.map k e)) {z : Value} (hz : (zeroValue e).run P w = .ok z w) {i : ByteArray} (hi : i.size ≤ maxLen) :
    (Instr.lookup t (.map (some b)) (.string i) false).run P w = .ok ((M i).getD z) w := by
  obtain ⟨D, hown, hD⟩ := T
  obtain ⟨v, ps, hrun, hv⟩ := hown.lookup (string_keyed hk) ht hz (zd := .held z) (zp := []) rfl (keyOf_string_mk hk hi)
  rw [hrun]
  have e1 := hD i hi (.held z)
  simp only [rawElem, Option.some.injEq, Prod.mk.injEq] at hv
  rw [e1] at hv
  cases hM : M i with
  | none => rw [hM] at hv; simp at hv; simp [hv]
  | some u => rw [hM] at hv; simp at hv; simp [hv]

theorem STab.lookOk {t e : TypeId} (T : STab P k w b n M) (hk : P.underlying k = some .string) (ht : P.underlying t = some (.map k e)) {z : Value} (hz : (zeroValue e).run P w = .ok z w) {i : ByteArray} (hi : i.size ≤ maxLen) :
    (Instr.lookup t (.map (some b)) (.string i) true).run P w = .ok (.tuple #[(M i).getD z, .bool (M i).isSome]) w := by
  obtain ⟨D, hown, hD⟩ := T
  obtain ⟨v, ps, hrun, hv⟩ := hown.look_ok (string_keyed hk) ht hz (zd := .held z) (zp := []) rfl (keyOf_string_mk hk hi)
  rw [hrun, has_of_stab (hD i hi)]
  have e1 := hD i hi (.held z)
  simp only [rawElem, Option.some.injEq, Prod.mk.injEq] at hv
  rw [e1] at hv
  cases hM : M i with
  | none => rw [hM] at hv; simp at hv; simp [hv]
  | some u => rw [hM] at hv; simp at hv; simp [hv]

theorem slit_ne {x i : ByteArray} (h : x ≠ i) : Lit.string x.data.toList ≠ Lit.string i.data.toList := fun e => h (by
  have e2 : x.data.toList = i.data.toList := by injection e
  apply ByteArray.ext
  exact Array.toList_inj.1 e2)

theorem STab.store {t e : TypeId} (T : STab P k w b n M) (hk : P.underlying k = some .string) (ht : P.underlying t = some (.map k e)) (hn : n < maxLen) {i : ByteArray} (hi : i.size ≤ maxLen) (v : Value) :
    ∃ w', (Instr.mapUpdate t (.map (some b)) (.string i) v).run P w = .ok () w' ∧ STab P k w' b (n + 1) (updS M i (some v)) ∧ w.mapTurned w' b := by
  obtain ⟨D, hown, hD⟩ := T
  obtain ⟨w', hrun, hown', ht'⟩ := hown.store (string_keyed hk) ht hn (keyOf_string_mk hk hi) (d := .held v) (ps := []) rfl
  refine ⟨w', hrun, ⟨D.put (.string i.data.toList) (.held v), hown', ?_⟩, ht'⟩
  intro x hx z
  by_cases e : x = i
  · subst e
    rw [atKey_put_same hown.isMap (by trivial)]
    simp [updS]
  · rw [atKey_put_other (slit_ne e), hD x hx z]
    simp [updS, e]

end

theorem Kept.turned {S : Nat → Prop} {w w' : World} {b : Nat} (h : w.mapTurned w' b) (hS : S b) : Kept S w w' := by
  obtain ⟨es, c, es', c', hb, rfl⟩ := h
  exact ⟨rfl, rfl, rfl, by simp [setBlock], fun k hk hn => heap_setBlock_other hb _ (fun e => hn (e ▸ hS))⟩

end Go.Proofs.YtlholgpenpfpbaaGreatDoor

/-
  The numbers under which this program bears strings.IndexByte, stringslite.Index, strings.FieldsFunc and strconv.Atoi: written by program for this dump.
-/
namespace Go.Proofs
open Go.Shelf
def Tryz.indexByteL_ren : Go.Shelf.Ren := ⟨fun | 137 => 65 | 217 => 73 | 266 => 83 | n => n, fun | 9 => 9 | 5 => 5 | 3 => 3 | n => n, fun | n => n⟩
theorem Tryz.indexByteL : Go.Proofs.Lays.n137 Tryz.prog Tryz.indexByteL_ren := {
  mixed := by kernel_rfl
  f137 := Tryz.func65.trans (congrArg some (by kernel_rfl))
  f217 := Tryz.func73.trans (congrArg some (by kernel_rfl))
  f266 := Tryz.func83.trans (congrArg some (by kernel_rfl))
  t3 := Tryz.underlying3
  a3 := Tryz.isAgg3
  z3 := Tryz.sizeOf3
  v3 := Tryz.zeroValue3
  t5 := Tryz.underlying5
  a5 := Tryz.isAgg5
  z5 := Tryz.sizeOf5
  v5 := Tryz.zeroValue5
  t9 := Tryz.underlying9
  a9 := Tryz.isAgg9
  z9 := Tryz.sizeOf9
  v9 := Tryz.zeroValue9 }
def Tryz.indexL_ren : Go.Shelf.Ren := ⟨fun | 219 => 70 | 217 => 73 | 225 => 78 | 224 => 79 | 267 => 80 | 266 => 83 | 314 => 89 | n => n, fun | 9 => 9 | 3 => 3 | 4 => 4 | 5 => 5 | 46 => 111 | 146 => 119 | 51 => 115 | n => n, fun | 1 => 0 | n => n⟩
theorem Tryz.indexL : Go.Proofs.Lays.n219 Tryz.prog Tryz.indexL_ren := {
  mixed := by kernel_rfl
  f217 := Tryz.func73.trans (congrArg some (by kernel_rfl))
  f219 := Tryz.func70.trans (congrArg some (by kernel_rfl))
  f224 := Tryz.func79.trans (congrArg some (by kernel_rfl))
  f225 := Tryz.func78.trans (congrArg some (by kernel_rfl))
  f266 := Tryz.func83.trans (congrArg some (by kernel_rfl))
  f267 := Tryz.func80.trans (congrArg some (by kernel_rfl))
  f314 := Tryz.func89.trans (congrArg some (by kernel_rfl))
  t3 := Tryz.underlying3
  a3 := Tryz.isAgg3
  z3 := Tryz.sizeOf3
  v3 := Tryz.zeroValue3
  t4 := Tryz.underlying4
  a4 := Tryz.isAgg4
  z4 := Tryz.sizeOf4
  v4 := Tryz.zeroValue4
  t5 := Tryz.underlying5
  a5 := Tryz.isAgg5
  z5 := Tryz.sizeOf5
  v5 := Tryz.zeroValue5
  t9 := Tryz.underlying9
  a9 := Tryz.isAgg9
  z9 := Tryz.sizeOf9
  v9 := Tryz.zeroValue9
  t46 := Tryz.underlying111
  a46 := Tryz.isAgg111
  z46 := Tryz.sizeOf111
  v46 := Tryz.zeroValue111
  t51 := Tryz.underlying115
  a51 := Tryz.isAgg115
  z51 := Tryz.sizeOf115
  v51 := Tryz.zeroValue115
  t146 := Tryz.underlying119
  a146 := Tryz.isAgg119
  z146 := Tryz.sizeOf119
  v146 := Tryz.zeroValue119
  g1 := by kernel_rfl }
def Tryz.fieldsL_ren : Go.Shelf.Ren := ⟨fun | 229 => 55 | n => n, fun | 9 => 9 | 40 => 91 | 31 => 33 | 152 => 101 | 3 => 3 | 0 => 0 | 4 => 4 | 21 => 21 | 154 => 103 | n => n, fun | n => n⟩
theorem Tryz.fieldsL : Go.Proofs.Lays.n229 Tryz.prog Tryz.fieldsL_ren := {
  mixed := by kernel_rfl
  f229 := Tryz.func55.trans (congrArg some (by kernel_rfl))
  t0 := Tryz.underlying0
  a0 := Tryz.isAgg0
  z0 := Tryz.sizeOf0
  v0 := Tryz.zeroValue0
  t3 := Tryz.underlying3
  a3 := Tryz.isAgg3
  z3 := Tryz.sizeOf3
  v3 := Tryz.zeroValue3
  t4 := Tryz.underlying4
  a4 := Tryz.isAgg4
  z4 := Tryz.sizeOf4
  v4 := Tryz.zeroValue4
  t9 := Tryz.underlying9
  a9 := Tryz.isAgg9
  z9 := Tryz.sizeOf9
  v9 := Tryz.zeroValue9
  t21 := Tryz.underlying21
  a21 := Tryz.isAgg21
  z21 := Tryz.sizeOf21
  v21 := Tryz.zeroValue21
  t31 := Tryz.underlying33
  a31 := Tryz.isAgg33
  z31 := Tryz.sizeOf33
  v31 := Tryz.zeroValue33
  t40 := Tryz.underlying91
  a40 := Tryz.isAgg91
  z40 := Tryz.sizeOf91
  v40 := Tryz.zeroValue91
  t152 := Tryz.underlying101
  a152 := Tryz.isAgg101
  z152 := Tryz.sizeOf101
  v152 := Tryz.zeroValue101
  t154 := Tryz.underlying103
  a154 := Tryz.isAgg103
  z154 := Tryz.sizeOf103
  v154 := Tryz.zeroValue103 }
def Tryz.atoiL_ren : Go.Shelf.Ren := ⟨fun | 172 => 72 | 244 => 81 | 245 => 82 | 247 => 90 | 279 => 91 | 280 => 92 | 281 => 93 | 282 => 94 | 287 => 97 | 316 => 98 | 171 => 27 | 205 => 99 | 321 => 100 | 322 => 101 | 243 => 47 | 246 => 68 | 283 => 74 | 284 => 75 | 285 => 76 | 286 => 77 | 129 => 85 | 317 => 84 | 318 => 86 | 319 => 87 | 320 => 88 | 337 => 95 | 338 => 96 | n => n, fun | 9 => 9 | 3 => 3 | 75 => 43 | 76 => 44 | 4 => 4 | 5 => 5 | 167 => 121 | 37 => 39 | 0 => 0 | 85 => 122 | 2 => 2 | 168 => 124 | 53 => 105 | 175 => 128 | 46 => 111 | 210 => 132 | 127 => 61 | 145 => 139 | 143 => 137 | 21 => 21 | 171 => 104 | 173 => 108 | 212 => 114 | 51 => 115 | 20 => 20 | 213 => 116 | 232 => 134 | 233 => 135 | 80 => 48 | n => n, fun | 15 => 2 | 16 => 3 | 17 => 1 | 18 => 4 | 19 => 5 | n => n⟩
theorem Tryz.atoiL : Go.Proofs.Lays.n172 Tryz.prog Tryz.atoiL_ren := {
  mixed := by kernel_rfl
  f129 := Tryz.func85.trans (congrArg some (by kernel_rfl))
  f171 := Tryz.func27.trans (congrArg some (by kernel_rfl))
  f172 := Tryz.func72.trans (congrArg some (by kernel_rfl))
  f205 := Tryz.func99.trans (congrArg some (by kernel_rfl))
  f243 := Tryz.func47.trans (congrArg some (by kernel_rfl))
  f244 := Tryz.func81.trans (congrArg some (by kernel_rfl))
  f245 := Tryz.func82.trans (congrArg some (by kernel_rfl))
  f246 := Tryz.func68.trans (congrArg some (by kernel_rfl))
  f247 := Tryz.func90.trans (congrArg some (by kernel_rfl))
  f279 := Tryz.func91.trans (congrArg some (by kernel_rfl))
  f280 := Tryz.func92.trans (congrArg some (by kernel_rfl))
  f281 := Tryz.func93.trans (congrArg some (by kernel_rfl))
  f282 := Tryz.func94.trans (congrArg some (by kernel_rfl))
  f283 := Tryz.func74.trans (congrArg some (by kernel_rfl))
  f284 := Tryz.func75.trans (congrArg some (by kernel_rfl))
  f285 := Tryz.func76.trans (congrArg some (by kernel_rfl))
  f286 := Tryz.func77.trans (congrArg some (by kernel_rfl))
  f287 := Tryz.func97.trans (congrArg some (by kernel_rfl))
  f316 := Tryz.func98.trans (congrArg some (by kernel_rfl))
  f317 := Tryz.func84.trans (congrArg some (by kernel_rfl))
  f318 := Tryz.func86.trans (congrArg some (by kernel_rfl))
  f319 := Tryz.func87.trans (congrArg some (by kernel_rfl))
  f320 := Tryz.func88.trans (congrArg some (by kernel_rfl))
  f321 := Tryz.func100.trans (congrArg some (by kernel_rfl))
  f322 := Tryz.func101.trans (congrArg some (by kernel_rfl))
  f337 := Tryz.func95.trans (congrArg some (by kernel_rfl))
  f338 := Tryz.func96.trans (congrArg some (by kernel_rfl))
  t0 := Tryz.underlying0
  a0 := Tryz.isAgg0
  z0 := Tryz.sizeOf0
  v0 := Tryz.zeroValue0
  t2 := Tryz.underlying2
  a2 := Tryz.isAgg2
  z2 := Tryz.sizeOf2
  v2 := Tryz.zeroValue2
  t3 := Tryz.underlying3
  a3 := Tryz.isAgg3
  z3 := Tryz.sizeOf3
  v3 := Tryz.zeroValue3
  t4 := Tryz.underlying4
  a4 := Tryz.isAgg4
  z4 := Tryz.sizeOf4
  v4 := Tryz.zeroValue4
  t5 := Tryz.underlying5
  a5 := Tryz.isAgg5
  z5 := Tryz.sizeOf5
  v5 := Tryz.zeroValue5
  t9 := Tryz.underlying9
  a9 := Tryz.isAgg9
  z9 := Tryz.sizeOf9
  v9 := Tryz.zeroValue9
  t20 := Tryz.underlying20
  a20 := Tryz.isAgg20
  z20 := Tryz.sizeOf20
  v20 := Tryz.zeroValue20
  t21 := Tryz.underlying21
  a21 := Tryz.isAgg21
  z21 := Tryz.sizeOf21
  v21 := Tryz.zeroValue21
  t37 := Tryz.underlying39
  a37 := Tryz.isAgg39
  z37 := Tryz.sizeOf39
  v37 := Tryz.zeroValue39
  t46 := Tryz.underlying111
  a46 := Tryz.isAgg111
  z46 := Tryz.sizeOf111
  v46 := Tryz.zeroValue111
  t51 := Tryz.underlying115
  a51 := Tryz.isAgg115
  z51 := Tryz.sizeOf115
  v51 := Tryz.zeroValue115
  t53 := Tryz.underlying105
  a53 := Tryz.isAgg105
  z53 := Tryz.sizeOf105
  v53 := Tryz.zeroValue105
  t75 := Tryz.underlying43
  a75 := Tryz.isAgg43
  z75 := Tryz.sizeOf43
  v75 := Tryz.zeroValue43
  t76 := Tryz.underlying44
  a76 := Tryz.isAgg44
  z76 := Tryz.sizeOf44
  v76 := Tryz.zeroValue44
  t85 := Tryz.underlying122
  a85 := Tryz.isAgg122
  z85 := Tryz.sizeOf122
  v85 := Tryz.zeroValue122
  t127 := Tryz.underlying61
  a127 := Tryz.isAgg61
  z127 := Tryz.sizeOf61
  v127 := Tryz.zeroValue61
  t143 := Tryz.underlying137
  a143 := Tryz.isAgg137
  z143 := Tryz.sizeOf137
  v143 := Tryz.zeroValue137
  t145 := Tryz.underlying139
  a145 := Tryz.isAgg139
  z145 := Tryz.sizeOf139
  v145 := Tryz.zeroValue139
  t167 := Tryz.underlying121
  a167 := Tryz.isAgg121
  z167 := Tryz.sizeOf121
  v167 := Tryz.zeroValue121
  t168 := Tryz.underlying124
  a168 := Tryz.isAgg124
  z168 := Tryz.sizeOf124
  v168 := Tryz.zeroValue124
  t171 := Tryz.underlying104
  a171 := Tryz.isAgg104
  z171 := Tryz.sizeOf104
  v171 := Tryz.zeroValue104
  t173 := Tryz.underlying108
  a173 := Tryz.isAgg108
  z173 := Tryz.sizeOf108
  v173 := Tryz.zeroValue108
  t175 := Tryz.underlying128
  a175 := Tryz.isAgg128
  z175 := Tryz.sizeOf128
  v175 := Tryz.zeroValue128
  t210 := Tryz.underlying132
  a210 := Tryz.isAgg132
  z210 := Tryz.sizeOf132
  v210 := Tryz.zeroValue132
  t212 := Tryz.underlying114
  a212 := Tryz.isAgg114
  z212 := Tryz.sizeOf114
  v212 := Tryz.zeroValue114
  t213 := Tryz.underlying116
  a213 := Tryz.isAgg116
  z213 := Tryz.sizeOf116
  t232 := Tryz.underlying134
  a232 := Tryz.isAgg134
  z232 := Tryz.sizeOf134
  v232 := Tryz.zeroValue134
  t233 := Tryz.underlying135
  a233 := Tryz.isAgg135
  z233 := Tryz.sizeOf135
  v233 := Tryz.zeroValue135
  g15 := by kernel_rfl
  g16 := by kernel_rfl
  g17 := by kernel_rfl
  g18 := by kernel_rfl
  g19 := by kernel_rfl }
end Go.Proofs

/-
  Names: made, Name, Flow.
-/
namespace Go.Proofs.YtlholgpenpfpbaaGreatDoor
open Go.RowKit

theorem indexByte_neg (l : List UInt8) (c : UInt8) : (Lib.indexByte l c < 0) ↔ l.contains c = false := by
  induction l with
  | nil => simp [Lib.indexByte]
  | cons b r ih =>
    have hge := Lib.indexByte_ge r c
    unfold Lib.indexByte
    by_cases h : b = c
    · subst h; simp
    · have h2 : (b == c) = false := by simpa using h
      have h3 : (c == b) = false := by simpa using fun e => h e.symm
      rw [h2, List.contains_cons, h3, Bool.false_or, ← ih]
      simp only [Bool.false_eq_true, if_false]
      split
      · rename_i h4; simp at h4; omega
      · rename_i h4; simp at h4; omega


theorem all_next (s : ByteArray) (f : UInt8 → Bool) {k : Nat} (hk : k < s.size) : (s.data.toList.take (k + 1)).all f = ((s.data.toList.take k).all f && f (s[k]'hk)) := by
  have hl : k < s.data.toList.length := by simpa using hk
  rw [List.take_add_one, List.getElem?_eq_getElem hl, List.all_append]
  simp
  rfl

theorem all_ge (l : List UInt8) (f : UInt8 → Bool) (k : Nat) (h : (l.take k).all f = false) : l.all f = false := by
  cases hb : l.all f with
  | false => rfl
  | true =>
    rw [List.all_eq_true] at hb
    have : (l.take k).all f = true := List.all_eq_true.2 fun x hx => hb x (List.mem_of_mem_take hx)
    rw [this] at h; cases h

set_option maxRecDepth 100000 in
set_option maxHeartbeats 1000000 in
theorem made_any (w : World) (s l : ByteArray) (most : Int) (hm : most ≤ 1000) :
    Calls Tryz.prog 41 #[.string s, .string l, .int .i64 most] w fun e w' => e = .returned (.bool (madeP s l most)) ∧ w' = w := by
  unfold madeP
  by_cases h1 : 1 ≤ s.size
  · by_cases h2 : (s.size : Int) ≤ most
    · simp only [h1, h2, decide_true, Bool.true_and]
      go_enter Tryz.func41, Tryz.ntmps41
      go_wp2
      go_loopw [19] (fun i wr => ∃ (k : Nat), k ≤ s.size ∧ i = .int .i64 k ∧ wr = w ∧ (s.data.toList.take k).all (fun c => l.data.toList.contains c) = true) (fun i _ => s.size - (intOf i).toNat)
      case atStart => exact ⟨0, Nat.zero_le _, rfl, rfl, rfl⟩
      case round =>
        obtain ⟨k, hk, rfl, hwr, hall⟩ := hrel
        subst hwr
        by_cases hlt : k < s.size
        · have hix : ∀ W, (Instr.index 9 (.string s) (.int .i64 (k : Int))).run Tryz.prog W = .ok (.int .u8 (((s[k]'hlt).toNat : Nat) : Int)) W := fun W => by
            rw [run_index_string W _ _ _ _ Tryz.underlying9]
            rw [dif_pos ⟨by omega, by omega⟩]
            simp
          have hnx := all_next s (fun c => l.data.toList.contains c) hlt
          rw [hall, Bool.true_and] at hnx
          have ec : (((s[k]'hlt).toNat : Nat) : Int).toNat.toUInt8 = s[k]'hlt := by simp
          have hI := Any.strings_IndexByte Tryz.indexByteL l (((s[k]'hlt).toNat : Nat) : Int) wr
          rw [ec] at hI
          have hng := indexByte_neg l.data.toList (s[k]'hlt)
          have hge := Lib.indexByte_ge l.data.toList (s[k]'hlt)
          have e0 : (k : Int) < (s.size : Int) := by omega
          change Calls Tryz.prog 65 _ _ _ at hI
          generalize Lib.indexByte l.data.toList (s[k]'hlt) = ix at *
          have HA : Hid ((s.data.toList.take (k + 1)).all (fun c => l.data.toList.contains c) = l.data.toList.contains (s[k]'hlt)) := hnx
          have HN : Hid (ix < 0 ↔ l.data.toList.contains (s[k]'hlt) = false) := hng
          clear hng hnx ec
          by_cases hneg : ix < 0
          · go_wp2_with (first
              | (go_at_call 65; refine hI.mono ?_; rintro e w1 ⟨rfl, rfl⟩; clear hI)
              | fail)
            go_ret
            refine ⟨?_, rfl⟩
            rw [all_ge _ _ (k + 1) (by rw [HA.out]; exact HN.out.1 hneg)]
            rfl
          · go_wp2_with (first
              | (go_at_call 65; refine hI.mono ?_; rintro e w1 ⟨rfl, rfl⟩; clear hI)
              | fail)
            go_roundw
            case rel =>
              refine ⟨k + 1, by omega, by go_num, trivial, ?_⟩
              rw [HA.out]
              cases hb : l.data.toList.contains (s[k]'hlt) with
              | true => rfl
              | false => have := HN.out.2 hb; omega
            case measure => simp [intOf]; omega
        · obtain rfl : k = s.size := by omega
          go_wp2
          go_ret
          refine ⟨?_, rfl⟩
          have e : s.data.toList.take s.size = s.data.toList := List.take_of_length_le (by simp)
          rw [e] at hall
          rw [hall]
          rfl
    · simp only [h1, h2, decide_true, decide_false, Bool.true_and, Bool.false_and]
      go_enter Tryz.func41, Tryz.ntmps41
      go_wp2
      go_ret
      exact ⟨rfl, rfl⟩
  · simp only [h1, decide_false, Bool.false_and]
    go_enter Tryz.func41, Tryz.ntmps41
    go_wp2
    go_ret
    exact ⟨rfl, rfl⟩

set_option maxRecDepth 100000 in
set_option maxHeartbeats 1000000 in
theorem name_any (w : World) (s : ByteArray) :
    Calls Tryz.prog 22 #[.string s] w fun e w' => e = .returned (.bool (nameP s)) ∧ w' = w := by
  have h := made_any w s lettersB 64 (by decide)
  unfold nameP
  generalize madeP s lettersB 64 = b at *
  unfold lettersB at h
  go_enter Tryz.func22, Tryz.ntmps22
  go_wp2_with (first
    | (go_at_call 41; refine h.mono ?_; rintro e w1 ⟨rfl, rfl⟩; clear h)
    | fail)
  go_ret
  exact ⟨rfl, rfl⟩

set_option maxRecDepth 100000 in
set_option maxHeartbeats 1000000 in
theorem flow_any (w : World) (s : ByteArray) :
    Calls Tryz.prog 66 #[.string s] w fun e w' => e = .returned (.bool (flowP s)) ∧ w' = w := by
  have h := made_any w s flowsB 256 (by decide)
  unfold flowP
  generalize madeP s flowsB 256 = b at *
  unfold flowsB at h
  go_enter Tryz.func66, Tryz.ntmps66
  go_wp2_with (first
    | (go_at_call 41; refine h.mono ?_; rintro e w1 ⟨rfl, rfl⟩; clear h)
    | fail)
  go_ret
  exact ⟨rfl, rfl⟩

end Go.Proofs.YtlholgpenpfpbaaGreatDoor

/-
  Find, named, fits: nodes looked at by themselves.
-/
namespace Go.Proofs.YtlholgpenpfpbaaGreatDoor
open Go.RowKit

/-- What is handed over beside its own block. -/
def ndV (n : Nd) (v : Value) : Value := .agg #[.string n.name, .int .i64 n.kind, .string n.arg, .string n.to, .int .i64 n.delay, .int .i64 n.tries, v]

set_option maxRecDepth 100000 in
set_option maxHeartbeats 1000000 in
theorem find_any (w : World) (name : ByteArray) (a : Option Addr) (n c : Nat) (ns : List Nd) (hN : NodesAt w a ns) (hl : ns.length = n) (hn : n ≤ 4611686018427387904) (s : ByteArray) :
    Calls Tryz.prog 43 #[.agg #[.string name, .slice a n c], .string s] w fun e w' => e = .returned (.tuple #[.int .i64 ((findP ns s).getD 0 : Nat), .bool (findP ns s).isSome]) ∧ Kept (fun _ => False) w w' := by
  subst hl
  go_enter Tryz.func43, Tryz.ntmps43
  go_wp2
  go_loopw [11] (fun i wr => ∃ (k : Nat), k ≤ ns.length ∧ i = .int .i64 k ∧ Kept (fun _ => False) (w.alloc (.cells #[.string name, .slice a ns.length c] 24)) wr ∧ findP (ns.take k) s = none) (fun i _ => ns.length - (intOf i).toNat)
  case atStart => exact ⟨0, Nat.zero_le _, rfl, Kept.refl _ _, rfl⟩
  case round =>
    obtain ⟨k, hk, rfl, K, hf⟩ := hrel
    by_cases hlt : k < ns.length
    · obtain ⟨b, o, av, cv, rfl, hT, c0, c1, c2, c3, c4, c5, c6⟩ := (keptNew K (keptNew (Kept.alloc _ _ _) hN)).at hlt
      have hnx := findP_take (s := s) hlt
      have hft := fun h => findP_of_first hlt h (fun j hj => findP_none.1 hf _ (List.mem_take_iff_getElem.2 ⟨j, by omega, rfl⟩))
      rw [hf, Option.none_or] at hnx
      have HF : Hid ((ns[k]).name = s → findP ns s = some k) := hft
      have HN : Hid (findP (ns.take (k + 1)) s = if (ns[k]).name = s then some k else none) := hnx
      have e0 : (k : Int) < (ns.length : Int) := by omega
      clear hft hnx hT
      by_cases he : (ns[k]).name = s
      · have he2 : ((ns[k]).name.toList == s.toList) = true := by rw [he]; simp
        generalize ns[k] = x at *
        go_wp2
        go_ret2
        rw [HF.out he]
        exact ⟨rfl, ((Kept.alloc _ _ _).and K).and (Kept.alloc _ _ _)⟩
      · have he2 : ((ns[k]).name.toList == s.toList) = false := by
          simp only [beq_eq_false_iff_ne, ne_eq]
          exact fun h => he (ByteArray.ext (Array.toList_inj.1 (by rw [← Lib.toList_data, ← Lib.toList_data]; exact h)))
        generalize ns[k] = x at *
        go_wp2
        go_roundw
        case rel =>
          refine ⟨k + 1, by omega, by go_num, K.and (Kept.alloc _ _ _), ?_⟩
          rw [HN.out, if_neg he]
        case measure => simp [intOf]; omega
    · obtain rfl : k = ns.length := by omega
      go_wp2
      go_ret2
      rw [List.take_length] at hf
      rw [hf]
      exact ⟨rfl, (Kept.alloc _ _ _).and K⟩

theorem str_empty (s : ByteArray) : (s.toList == ([] : List UInt8)) = decide (s.size = 0) := by
  have : s.toList.length = s.size := by rw [Lib.toList_data]; simp
  by_cases h : s.size = 0
  · rw [h] at this
    have := List.eq_nil_of_length_eq_zero this
    rw [this]; simp [h]
  · have h2 : s.toList ≠ [] := fun e => h (by rw [← this, e]; rfl)
    simp [h, h2]

set_option maxRecDepth 100000 in
set_option maxHeartbeats 1000000 in
theorem named_any (w : World) (x0 : ByteArray) (x1 : Int) (x2 x3 : ByteArray) (x4 x5 : Int) (x6 : List ByteArray) (av : Option Addr) (lv cv : Nat) :
    Calls Tryz.prog 42 #[.agg #[.string x0, .int .i64 x1, .string x2, .string x3, .int .i64 x4, .int .i64 x5, .slice av lv cv]] w fun e w' => e = .returned (.bool (namedP ⟨x0, x1, x2, x3, x4, x5, x6⟩)) ∧ Kept (fun _ => False) w w' := by
  unfold namedP
  have n0 := name_any (w.alloc (.cells #[.string x0, .int .i64 x1, .string x2, .string x3, .int .i64 x4, .int .i64 x5, .slice av lv cv] 35)) x0
  have n2 := name_any (w.alloc (.cells #[.string x0, .int .i64 x1, .string x2, .string x3, .int .i64 x4, .int .i64 x5, .slice av lv cv] 35)) x2
  have f3 := flow_any (w.alloc (.cells #[.string x0, .int .i64 x1, .string x2, .string x3, .int .i64 x4, .int .i64 x5, .slice av lv cv] 35)) x3
  simp only []
  generalize nameP x0 = b0 at *
  generalize nameP x2 = b2 at *
  generalize flowP x3 = b3 at *
  by_cases k2 : x1 = 2
  · subst k2
    go_enter Tryz.func42, Tryz.ntmps42
    go_wp2_with (first
      | (go_at_call 22; refine n0.mono ?_; rintro e w1 ⟨rfl, rfl⟩)
      | fail)
    go_ret
    exact ⟨by simp, Kept.alloc _ _ _⟩
  · by_cases k5 : x1 = 5
    · subst k5
      cases b0 <;> cases b2 <;> cases b3 <;>
      · go_enter Tryz.func42, Tryz.ntmps42
        go_wp2_with (first
          | (go_at_call 22; have _t := n0; refine n0.mono ?_; rintro e w1 ⟨rfl, rfl⟩; clear n0)
          | (go_at_call 22; refine n2.mono ?_; rintro e w1 ⟨rfl, rfl⟩)
          | (go_at_call 66; refine f3.mono ?_; rintro e w1 ⟨rfl, rfl⟩)
          | fail)
        go_ret
        exact ⟨rfl, Kept.alloc _ _ _⟩
    · have k2' : (x1 == 2) = false := by simpa using k2
      have k5' : (x1 == 5) = false := by simpa using k5
      rw [k2', show (x1 != 5) = true by simpa using k5]
      cases b0 <;> cases b2 <;>
      · go_enter Tryz.func42, Tryz.ntmps42
        go_wp2_with (first
          | (go_at_call 22; have _t := n0; refine n0.mono ?_; rintro e w1 ⟨rfl, rfl⟩; clear n0)
          | (go_at_call 22; refine n2.mono ?_; rintro e w1 ⟨rfl, rfl⟩)
          | fail)
        go_ret
        exact ⟨by simp, Kept.alloc _ _ _⟩

end Go.Proofs.YtlholgpenpfpbaaGreatDoor

/-
  firsts, ahead: whom a name means.
-/
namespace Go.Proofs.YtlholgpenpfpbaaGreatDoor
open Go.RowKit Go.Maps Go.ChangeMaps Go.MapKept Go.WideMaps

/-- The table of the first nodes of each name. -/
def firstM (ns : List Nd) (s : ByteArray) : Option Value := (findP ns s).map (fun i => Value.int .i64 (i : Nat))

/-- Block b is that table. -/
def FirstAt (w : World) (b : Nat) (ns : List Nd) : Prop := ∃ n, STab Tryz.prog 9 w b n (firstM ns)

theorem FirstAt.kept {S : Nat → Prop} {w w' : World} {b : Nat} {ns : List Nd} (T : FirstAt w b ns) (K : Kept S w w') (hS : ¬ S b) : FirstAt w' b ns := by
  obtain ⟨n, h⟩ := T
  exact ⟨n, h.kept K hS⟩

theorem firstM_next {ns : List Nd} {k : Nat} (hk : k < ns.length) (hf : findP (ns.take k) (ns[k]).name = none) : ∀ x, updS (firstM (ns.take k)) (ns[k]).name (some (.int .i64 (k : Nat))) x = firstM (ns.take (k + 1)) x := by
  intro x
  unfold updS firstM
  rw [findP_take hk]
  by_cases e : x = (ns[k]).name
  · subst e; rw [hf]; simp
  · have : ¬ (ns[k]).name = x := fun h => e h.symm
    simp [e, this]

theorem firstM_same {ns : List Nd} {k : Nat} (hk : k < ns.length) {j : Nat} (hf : findP (ns.take k) (ns[k]).name = some j) : ∀ x, firstM (ns.take k) x = firstM (ns.take (k + 1)) x := by
  intro x
  unfold firstM
  rw [findP_take hk]
  by_cases e : (ns[k]).name = x
  · subst e; rw [hf]; rfl
  · simp [e]

theorem firstM_isSome (ns : List Nd) (s : ByteArray) : (firstM ns s).isSome = (findP ns s).isSome := by unfold firstM; simp

set_option maxRecDepth 100000 in
set_option maxHeartbeats 2000000 in
theorem firsts_any (w : World) (name : ByteArray) (a : Option Addr) (n c : Nat) (ns : List Nd) (hN : NodesAt w a ns) (hl : ns.length = n) (hn : n ≤ 1000000000000) :
    Calls Tryz.prog 33 #[.agg #[.string name, .slice a n c]] w fun e w' => e = .returned (.map (some (w.heap.size + 1))) ∧ FirstAt w' (w.heap.size + 1) ns ∧ Kept (fun _ => False) w w' := by
  subst hl
  have hmm : ∀ W, (Instr.makeMap 67 (some (.int .i64 (ns.length : Nat)))).run Tryz.prog W = .ok (.map (some W.heap.size)) (W.alloc (.map #[] 0)) := fun W => rfl
  have HM : Hid (STab Tryz.prog 9 ((w.alloc (.cells #[.string name, .slice a ns.length c] 24)).alloc (.map #[] 0)) (w.heap.size + 1) 0 (firstM [])) := by
    have := STab.made Tryz.prog 9 (w.alloc (.cells #[.string name, .slice a ns.length c] 24))
    rw [World.size_alloc] at this
    exact this
  go_enter Tryz.func33, Tryz.ntmps33
  go_wp2
  go_loopw [15] (fun i wr => ∃ (k : Nat), k ≤ ns.length ∧ i = .int .i64 k ∧ Kept (fun j => j = w.heap.size + 1) ((w.alloc (.cells #[.string name, .slice a ns.length c] 24)).alloc (.map #[] 0)) wr ∧ STab Tryz.prog 9 wr (w.heap.size + 1) k (firstM (ns.take k))) (fun i _ => ns.length - (intOf i).toNat)
  case atStart => exact ⟨0, Nat.zero_le _, rfl, Kept.refl _ _, HM.out⟩
  case round =>
    obtain ⟨k, hk, rfl, K, T⟩ := hrel
    have Kw : Kept (fun _ => False) w wr := (((Kept.alloc (fun _ => False) _ _).and (Kept.alloc _ _ _)).trans K (fun i h => .inr (by omega)))
    by_cases hlt : k < ns.length
    · obtain ⟨b, o, av, cv, rfl, hT, c0, c1, c2, c3, c4, c5, c6⟩ := (keptNew Kw hN).at hlt
      have hok := (hN.1 _ (List.getElem_mem hlt)).name
      have e0 : (k : Int) < (ns.length : Int) := by omega
      have T2 := T.kept (Kept.alloc (fun _ => False) wr (.cells #[.string (ns[k]).name, .int .i64 (ns[k]).kind, .string (ns[k]).arg, .string (ns[k]).to, .int .i64 (ns[k]).delay, .int .i64 (ns[k]).tries, .slice av (ns[k]).after.length cv] 35)) (fun h => h)
      have hlk := T2.lookOk Tryz.underlying9 Tryz.underlying67 (z := .int .i64 0) (by rfl) hok
      have HT2 : Hid (STab Tryz.prog 9 (wr.alloc (.cells #[.string (ns[k]).name, .int .i64 (ns[k]).kind, .string (ns[k]).arg, .string (ns[k]).to, .int .i64 (ns[k]).delay, .int .i64 (ns[k]).tries, .slice av (ns[k]).after.length cv] 35)) (w.heap.size + 1) k (firstM (ns.take k))) := T2
      clear hT T
      cases hf : findP (ns.take k) (ns[k]).name with
      | none =>
        have hf2 : firstM (ns.take k) (ns[k]).name = none := by unfold firstM; rw [hf]; rfl
        rw [hf2] at hlk
        obtain ⟨w2, hst, T3, ht⟩ := T2.store Tryz.underlying9 Tryz.underlying67 (by unfold maxLen; omega) hok (.int .i64 (k : Nat))
        have HN : Hid (∀ x, updS (firstM (ns.take k)) (ns[k]).name (some (.int .i64 (k : Nat))) x = firstM (ns.take (k + 1)) x) := firstM_next hlt hf
        clear hf hf2 T2
        generalize ns[k] = x at *
        go_wp2
        go_roundw
        case rel => exact ⟨k + 1, by omega, by go_num, (K.and (Kept.alloc _ _ _)).and (Kept.turned ht rfl), T3.is HN.out⟩
        case measure => simp [intOf]; omega
      | some j =>
        have hf2 : firstM (ns.take k) (ns[k]).name = some (.int .i64 (j : Nat)) := by unfold firstM; rw [hf]; rfl
        rw [hf2] at hlk
        simp only [Option.getD_some, Option.isSome_some] at hlk
        have HN : Hid (∀ x, firstM (ns.take k) x = firstM (ns.take (k + 1)) x) := firstM_same hlt hf
        clear hf hf2 T2
        generalize ns[k] = x at *
        go_wp2
        go_roundw
        case rel => exact ⟨k + 1, by omega, by go_num, K.and (Kept.alloc _ _ _), (HT2.out.mono (by omega)).is HN.out⟩
        case measure => simp [intOf]; omega
    · obtain rfl : k = ns.length := by omega
      go_wp2
      go_ret
      rw [List.take_length] at T
      exact ⟨rfl, ⟨_, T⟩, Kw⟩

theorem str_ne (s t : ByteArray) : (s.toList != t.toList) = !decide (s = t) := by
  by_cases h : s = t
  · subst h; simp
  · have : s.toList ≠ t.toList := fun e => h (ByteArray.ext (Array.toList_inj.1 (by rw [← Lib.toList_data, ← Lib.toList_data]; exact e)))
    simp [h, this]

theorem str_eq (s t : ByteArray) : (s.toList == t.toList) = decide (s = t) := by
  by_cases h : s = t
  · subst h; simp
  · have : s.toList ≠ t.toList := fun e => h (ByteArray.ext (Array.toList_inj.1 (by rw [← Lib.toList_data, ← Lib.toList_data]; exact e)))
    simp [h, this]

set_option maxRecDepth 100000 in
set_option maxHeartbeats 2000000 in
theorem ahead_any (w : World) (mb : Nat) (ns : List Nd) (T : FirstAt w mb ns) (x0 : ByteArray) (x1 : Int) (x2 x3 : ByteArray) (x4 x5 : Int) (x6 : List ByteArray) (av : Option Addr) (lv cv : Nat) (s : ByteArray) (hs : s.size ≤ maxLen) :
    Calls Tryz.prog 51 #[.agg #[.string x0, .int .i64 x1, .string x2, .string x3, .int .i64 x4, .int .i64 x5, .slice av lv cv], .string s, .map (some mb)] w fun e w' => e = .returned (.tuple #[.int .i64 ((findP ns s).getD 0 : Nat), .bool (aheadP ns ⟨x0, x1, x2, x3, x4, x5, x6⟩ s).isSome]) ∧ Kept (fun _ => False) w w' := by
  obtain ⟨m, T⟩ := T
  have hlk := (T.kept (Kept.alloc (fun _ => False) w (.cells #[.string x0, .int .i64 x1, .string x2, .string x3, .int .i64 x4, .int .i64 x5, .slice av lv cv] 35)) (fun h => h)).lookOk Tryz.underlying9 Tryz.underlying67 (z := .int .i64 0) (by rfl) hs
  have hne := str_eq s x0
  unfold aheadP
  simp only []
  have hv : (firstM ns s).getD (.int .i64 0) = .int .i64 ((findP ns s).getD 0 : Nat) := by unfold firstM; cases findP ns s <;> rfl
  have hb := firstM_isSome ns s
  rw [hv, hb] at hlk
  generalize (findP ns s).getD 0 = g at *
  clear T hv hb
  by_cases he : s = x0
  · rw [if_pos he]
    simp only [he, decide_true] at hne
    subst he
    cases hf : (findP ns s).isSome <;>
    · rw [hf] at hlk
      go_enter Tryz.func51, Tryz.ntmps51
      go_wp2_with (first | go_quiet (fail) | fail)
      go_ret2
      exact ⟨rfl, (Kept.alloc _ _ _).and (Kept.drewN _ _ _)⟩
  · rw [if_neg he]
    simp only [he, decide_false] at hne
    cases hf : (findP ns s).isSome <;>
    · rw [hf] at hlk
      go_enter Tryz.func51, Tryz.ntmps51
      go_wp2_with (first | go_quiet (fail) | fail)
      go_ret2
      exact ⟨rfl, (Kept.alloc _ _ _).and (Kept.drewN _ _ _)⟩

end Go.Proofs.YtlholgpenpfpbaaGreatDoor

/-
  The reader of a line's words: its state, and what each of its calls does.
-/
namespace Go.Proofs.YtlholgpenpfpbaaGreatDoor
open Go.RowKit

/-- The words that are left, and whether the line is bad. -/
abbrev RS := List ByteArray × Bool

def rTake (s : ByteArray) (r : RS) : Bool × RS := match r.1 with
  | [] => (false, r)
  | x :: t => if x = s then (true, (t, r.2)) else (false, r)
def rWord (r : RS) : ByteArray × RS := match r.1 with
  | [] => (ByteArray.empty, ([], true))
  | x :: t => (x, (t, r.2))
def rName (r : RS) : ByteArray × RS := ((rWord r).1, ((rWord r).2.1, (rWord r).2.2 || !nameP (rWord r).1))
def rFlow (r : RS) : ByteArray × RS := ((rWord r).1, ((rWord r).2.1, (rWord r).2.2 || !flowP (rWord r).1))
def rEnd (r : RS) : RS := (r.1, r.2 || !r.1.isEmpty)

/-- A reader in memory. -/
structure RdAt (w : World) (B rb : Nat) (r : RS) : Prop where
  ok : ∃ a c, w.heap[rb]? = some (.cells #[.slice a r.1.length c, .bool r.2] 76 (0, 0)) ∧ r.1.length ≤ c ∧ c ≤ maxLen ∧ (r.1 = [] ∨ ∃ b o, a = some ⟨b, o, none⟩ ∧ b ≠ rb ∧ b < B ∧ ∀ i (h : i < r.1.length), w.cell? ⟨b, o + i, none⟩ = some (.string (r.1[i]'h)))
  low : rb < B
  top : B ≤ w.heap.size
  small : ∀ s ∈ r.1, s.size ≤ 1000000

theorem RdAt.lt {w : World} {B rb : Nat} {r : RS} (R : RdAt w B rb r) : rb < w.heap.size := Nat.lt_of_lt_of_le R.low R.top

theorem RdAt.kept {S : Nat → Prop} {w w' : World} {B rb : Nat} {r : RS} (R : RdAt w B rb r) (K : Kept S w w') (hS : ∀ k, k < B → ¬ S k) : RdAt w' B rb r := by
  obtain ⟨a, c, h, h1, h2, h3⟩ := R.ok
  refine ⟨⟨a, c, (K.block _ R.lt (hS _ R.low)).trans h, h1, h2, ?_⟩, R.low, Nat.le_trans R.top K.size, R.small⟩
  rcases h3 with h | ⟨b, o, e, hn, hb, hc⟩
  · exact .inl h
  · exact .inr ⟨b, o, e, hn, hb, fun i hi => by
      rw [World.cell?_of_block (w := w) (K.block _ (Nat.lt_of_lt_of_le hb R.top) (hS _ hb))]
      exact hc i hi⟩

/-- What a call sees of the reader. -/
theorem RdAt.cells {w : World} {B rb : Nat} {r : RS} (R : RdAt w B rb r) : ∃ a c, w.cell? ⟨rb, 0, none⟩ = some (.slice a r.1.length c) ∧ w.cell? ⟨rb, 1, none⟩ = some (.bool r.2) ∧ w.frozen? ⟨rb, 0, none⟩ = false ∧ w.frozen? ⟨rb, 1, none⟩ = false ∧ r.1.length ≤ c ∧
    (r.1 ≠ [] → ∃ b o, a = some ⟨b, o, none⟩ ∧ ∀ i (h : i < r.1.length), w.cell? ⟨b, o + i, none⟩ = some (.string (r.1[i]'h))) := by
  obtain ⟨a, c, h, h1, h2, h3⟩ := R.ok
  refine ⟨a, c, by simp [World.cell?, h], by simp [World.cell?, h], by simp [World.frozen?, h], by simp [World.frozen?, h], h1, fun hne => ?_⟩
  rcases h3 with h | ⟨b, o, e, hn, hb, hc⟩
  · exact absurd h hne
  · exact ⟨b, o, e, hc⟩

/-- The mark is set. -/
theorem RdAt.mark {w : World} {B rb : Nat} {ws : List ByteArray} {b : Bool} (R : RdAt w B rb (ws, b)) (b' : Bool) : RdAt (w.setCell ⟨rb, 1, none⟩ (.bool b')) B rb (ws, b') := by
  obtain ⟨a, c, h, h1, h2, h3⟩ := R.ok
  refine ⟨⟨a, c, by simp [World.setCell, Array.getElem?_modify, h], h1, h2, ?_⟩, R.low, by simpa [World.setCell] using R.top, R.small⟩
  rcases h3 with h | ⟨b, o, e, hn, hb, hc⟩
  · exact .inl h
  · refine .inr ⟨b, o, e, hn, hb, fun i hi => ?_⟩
    rw [World.cell?_setCell_other _ _ _ _ (fun h => hn (congrArg Addr.block h).symm)]
    exact hc i hi

/-- One word less. -/
theorem RdAt.next {w : World} {B rb : Nat} {x : ByteArray} {t : List ByteArray} {b : Bool} (R : RdAt w B rb (x :: t, b)) : ∃ ba oa c, w.cell? ⟨rb, 0, none⟩ = some (.slice (some ⟨ba, oa, none⟩) (t.length + 1) c) ∧ t.length + 1 ≤ c ∧ w.cell? ⟨ba, oa, none⟩ = some (.string x) ∧
    RdAt (w.setCell ⟨rb, 0, none⟩ (.slice (some ⟨ba, oa + 1, none⟩) t.length (c - 1))) B rb (t, b) ∧ (c = 1 → ∀ ad, RdAt (w.setCell ⟨rb, 0, none⟩ (.slice ad t.length 0)) B rb (t, b)) := by
  obtain ⟨a, c, h, h1, h2, h3⟩ := R.ok
  simp only [List.length_cons] at h h1
  rcases h3 with h' | ⟨ba, oa, e, hn, hb, hc⟩
  · cases h'
  · subst e
    refine ⟨ba, oa, c, by simp [World.cell?, h], h1, hc 0 (by simp), ?_, fun hz ad => ?_⟩
    · refine ⟨⟨some ⟨ba, oa + 1, none⟩, c - 1, by simp [World.setCell, Array.getElem?_modify, h], by show t.length ≤ _; omega, by omega, .inr ⟨ba, oa + 1, rfl, hn, hb, fun i hi => ?_⟩⟩, R.low, by simpa [World.setCell] using R.top, fun s hs => R.small s (List.mem_cons_of_mem _ hs)⟩
      rw [World.cell?_setCell_other _ _ _ _ (fun h => hn (congrArg Addr.block h).symm), show oa + 1 + i = oa + (i + 1) by omega]
      exact hc (i + 1) (by simp at hi ⊢; omega)
    · refine ⟨⟨ad, 0, by simp [World.setCell, Array.getElem?_modify, h], by show t.length ≤ _; omega, by omega, .inl (List.eq_nil_of_length_eq_zero (by show t.length = 0; omega))⟩, R.low, by simpa [World.setCell] using R.top, fun s hs => R.small s (List.mem_cons_of_mem _ hs)⟩

set_option maxRecDepth 100000 in
set_option maxHeartbeats 1000000 in
theorem must_any (w : World) (B rb : Nat) (ws : List ByteArray) (b x : Bool) (R : RdAt w B rb (ws, b)) :
    Calls Tryz.prog 57 #[.pointer (some ⟨rb, 0, none⟩), .bool x] w fun e w' => e = .returned (.tuple #[]) ∧ RdAt w' B rb (ws, b || !x) ∧ Kept (fun j => j = rb) w w' := by
  obtain ⟨a, c, c0, c1, z0, z1, _, _⟩ := R.cells
  have HM : Hid (∀ b', RdAt (w.setCell ⟨rb, 1, none⟩ (.bool b')) B rb (ws, b')) := fun b' => R.mark b'
  clear R
  cases b <;> cases x <;>
  · go_enter Tryz.func57, Tryz.ntmps57
    go_wp2
    go_end0
    exact ⟨rfl, HM.out _, Kept.setCell _ _ _ rfl⟩

theorem nil_beq (l : List ByteArray) : ((l.length : Int) == 0) = l.isEmpty := by
  cases l <;> simp
  omega

set_option maxRecDepth 100000 in
set_option maxHeartbeats 1000000 in
theorem end_any (w : World) (B rb : Nat) (r : RS) (R : RdAt w B rb r) :
    Calls Tryz.prog 60 #[.pointer (some ⟨rb, 0, none⟩)] w fun e w' => e = .returned (.tuple #[]) ∧ RdAt w' B rb (rEnd r) ∧ Kept (fun j => j = rb) w w' := by
  obtain ⟨ws, b⟩ := r
  obtain ⟨a, c, c0, c1, z0, z1, _, _⟩ := R.cells
  have h := must_any w B rb ws b ws.isEmpty R
  have hq := nil_beq ws
  unfold rEnd
  simp only [] at c0 c1 ⊢
  generalize ws.isEmpty = q at *
  go_enter Tryz.func60, Tryz.ntmps60
  go_wp2_with (first
    | (go_at_call 57; refine h.mono ?_; rintro e w1 ⟨rfl, R1, K1⟩; clear h)
    | fail)
  go_end0
  exact ⟨rfl, R1, K1⟩

set_option maxRecDepth 100000 in
set_option maxHeartbeats 1000000 in
theorem word_any (w : World) (B rb : Nat) (r : RS) (R : RdAt w B rb r) :
    Calls Tryz.prog 61 #[.pointer (some ⟨rb, 0, none⟩)] w fun e w' => e = .returned (.string (rWord r).1) ∧ RdAt w' B rb (rWord r).2 ∧ Kept (fun j => j = rb) w w' := by
  obtain ⟨ws, b⟩ := r
  cases ws with
  | nil =>
    obtain ⟨a, c, c0, c1, z0, z1, _, _⟩ := R.cells
    have HM : Hid (RdAt (w.setCell ⟨rb, 1, none⟩ (.bool true)) B rb ([], true)) := R.mark true
    unfold rWord
    simp only [List.length_nil] at c0 c1 ⊢
    clear R
    go_enter Tryz.func61, Tryz.ntmps61
    go_wp2
    go_ret
    exact ⟨rfl, HM.out, Kept.setCell _ _ _ rfl⟩
  | cons x t =>
    have z0 : w.frozen? ⟨rb, 0, none⟩ = false := by obtain ⟨_, _, _, _, z, _⟩ := R.cells; exact z
    obtain ⟨ba, oa, c, c0, hc, cx, N1, N2⟩ := R.next
    have HN1 : Hid _ := N1
    have HN2 : Hid _ := N2
    unfold rWord
    simp only []
    have e1 : (1 : Int) ≤ (t.length : Int) + 1 := by omega
    have e2 : ((t.length : Int) + 1) ≤ (c : Int) := by omega
    have e3 : ((t.length : Int) + 1 == 0) = false := by simp; omega
    clear R N1 N2
    go_enter Tryz.func61, Tryz.ntmps61
    go_wp2
    all_goals go_ret
    · exact ⟨rfl, HN2.out (by assumption) _, Kept.setCell _ _ _ rfl⟩
    · exact ⟨rfl, HN1.out, Kept.setCell _ _ _ rfl⟩

set_option maxRecDepth 100000 in
set_option maxHeartbeats 1000000 in
theorem take_any (w : World) (B rb : Nat) (r : RS) (R : RdAt w B rb r) (s : ByteArray) :
    Calls Tryz.prog 58 #[.pointer (some ⟨rb, 0, none⟩), .string s] w fun e w' => e = .returned (.bool (rTake s r).1) ∧ RdAt w' B rb (rTake s r).2 ∧ Kept (fun j => j = rb) w w' := by
  obtain ⟨ws, b⟩ := r
  cases ws with
  | nil =>
    obtain ⟨a, c, c0, c1, z0, z1, _, _⟩ := R.cells
    have HM : Hid (RdAt w B rb ([], b)) := R
    unfold rTake
    simp only [List.length_nil] at c0 c1 ⊢
    clear R
    go_enter Tryz.func58, Tryz.ntmps58
    go_wp2
    go_ret
    exact ⟨rfl, HM.out, Kept.refl _ _⟩
  | cons x t =>
    have z0 : w.frozen? ⟨rb, 0, none⟩ = false := by obtain ⟨_, _, _, _, z, _⟩ := R.cells; exact z
    obtain ⟨ba, oa, c, c0, hc, cx, N1, N2⟩ := R.next
    have HN0 : Hid (RdAt w B rb (x :: t, b)) := R
    have HN1 : Hid _ := N1
    have HN2 : Hid _ := N2
    unfold rTake
    simp only []
    have e1 : (1 : Int) ≤ (t.length : Int) + 1 := by omega
    have e2 : ((t.length : Int) + 1) ≤ (c : Int) := by omega
    have e3 : ((t.length : Int) + 1 == 0) = false := by simp; omega
    have hse := str_eq x s
    clear R N1 N2
    by_cases hx : x = s
    · simp only [hx, decide_true, if_true] at hse ⊢
      subst hx
      go_enter Tryz.func58, Tryz.ntmps58
      go_wp2
      all_goals go_ret
      · exact ⟨rfl, HN2.out (by assumption) _, Kept.setCell _ _ _ rfl⟩
      · exact ⟨rfl, HN1.out, Kept.setCell _ _ _ rfl⟩
    · simp only [hx, decide_false, if_false] at hse ⊢
      go_enter Tryz.func58, Tryz.ntmps58
      go_wp2
      go_ret
      exact ⟨rfl, HN0.out, Kept.refl _ _⟩

set_option maxRecDepth 100000 in
set_option maxHeartbeats 1000000 in
theorem rname_any (w : World) (B rb : Nat) (r : RS) (R : RdAt w B rb r) :
    Calls Tryz.prog 59 #[.pointer (some ⟨rb, 0, none⟩)] w fun e w' => e = .returned (.string (rName r).1) ∧ RdAt w' B rb (rName r).2 ∧ Kept (fun j => j = rb) w w' := by
  have h1 := word_any w B rb r R
  have h2 := fun W (R : RdAt W B rb ((rWord r).2.1, (rWord r).2.2)) => must_any W B rb (rWord r).2.1 (rWord r).2.2 (nameP (rWord r).1) R
  have h3 := fun W => name_any W (rWord r).1
  unfold rName
  simp only []
  clear R
  generalize (rWord r).1 = x at *
  generalize (rWord r).2 = q at *
  obtain ⟨ws, b⟩ := q
  simp only [] at h2 ⊢
  generalize nameP x = y at *
  go_enter Tryz.func59, Tryz.ntmps59
  go_wp2_with (first
    | (go_at_call 61; refine h1.mono ?_; rintro e w1 ⟨rfl, R1, K1⟩; have HR1 : Hid _ := R1; clear h1 R1)
    | (go_at_call 22; refine (h3 _).mono ?_; rintro e w2 ⟨rfl, rfl⟩; clear h3)
    | (go_at_call 57; refine (h2 _ HR1.out).mono ?_; rintro e w3 ⟨rfl, R3, K3⟩; clear h2)
    | fail)
  go_ret
  exact ⟨rfl, R3, K1.and K3⟩

set_option maxRecDepth 100000 in
set_option maxHeartbeats 1000000 in
theorem rflow_any (w : World) (B rb : Nat) (r : RS) (R : RdAt w B rb r) :
    Calls Tryz.prog 63 #[.pointer (some ⟨rb, 0, none⟩)] w fun e w' => e = .returned (.string (rFlow r).1) ∧ RdAt w' B rb (rFlow r).2 ∧ Kept (fun j => j = rb) w w' := by
  have h1 := word_any w B rb r R
  have h2 := fun W (R : RdAt W B rb ((rWord r).2.1, (rWord r).2.2)) => must_any W B rb (rWord r).2.1 (rWord r).2.2 (flowP (rWord r).1) R
  have h3 := fun W => flow_any W (rWord r).1
  unfold rFlow
  simp only []
  clear R
  generalize (rWord r).1 = x at *
  generalize (rWord r).2 = q at *
  obtain ⟨ws, b⟩ := q
  simp only [] at h2 ⊢
  generalize flowP x = y at *
  go_enter Tryz.func63, Tryz.ntmps63
  go_wp2_with (first
    | (go_at_call 61; refine h1.mono ?_; rintro e w1 ⟨rfl, R1, K1⟩; have HR1 : Hid _ := R1; clear h1 R1)
    | (go_at_call 66; refine (h3 _).mono ?_; rintro e w2 ⟨rfl, rfl⟩; clear h3)
    | (go_at_call 57; refine (h2 _ HR1.out).mono ?_; rintro e w3 ⟨rfl, R3, K3⟩; clear h2)
    | fail)
  go_ret
  exact ⟨rfl, R3, K1.and K3⟩

end Go.Proofs.YtlholgpenpfpbaaGreatDoor
