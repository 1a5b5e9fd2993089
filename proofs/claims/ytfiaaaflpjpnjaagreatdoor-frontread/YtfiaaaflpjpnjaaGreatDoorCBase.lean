/-
  What the texts of the codec share: what is kept, rows of bytes as they lie, bytes that are appended, lent, spoilt.
-/
import Derived.Test.YtfiaaaflpjpnjaaGreatDoorRows
import Derived.WalkKit
import Derived.WalkSpells
import Derived.WalkLawsBesides
import Derived.Deep.AppendLies
import Derived.Deep.QuietTactic
import Derived.BigQuiet
import Derived.ScopeJumps
import Derived.ProofKit
import Derived.OpenShut
import Derived.ShutString
import Derived.ChangeOld
import Derived.Below
import Derived.Lib.SmallJoins
import Derived.Lib.SlBytesConst
import Derived.Laws.BytesArg
import Derived.Laws.AppendOwnNone
namespace Go.Proofs.YtfiaaaflpjpnjaaGreatDoor
open Go.RowKit

theorem Tryz.info5 : (Tryz.prog.info? 5).map (fun i => (i.zero, i.size, i.bytes)) = some (some (.int .u8 0), 1, 1) := by kernel_rfl

/-- The number is one of 64 bits. -/
def isI64 (x : Int) : Prop := (Lit.int .i64 x).wf = true

theorem isI64_of {x : Int} (h0 : -9223372036854775808 ≤ x) (h1 : x ≤ 9223372036854775807) : isI64 x := WalkArith.wf_i64 ⟨h0, h1⟩

/-- w' is w but for the blocks of S and new ones. -/
structure Kept (S : Nat → Prop) (w w' : World) : Prop where
  os : w'.os = w.os
  tape : w'.tape = w.tape
  output : w'.output = w.output
  size : w.heap.size ≤ w'.heap.size
  block : ∀ k, k < w.heap.size → ¬ S k → w'.heap[k]? = w.heap[k]?

theorem Kept.refl (S : Nat → Prop) (w : World) : Kept S w w := ⟨rfl, rfl, rfl, Nat.le_refl _, fun _ _ _ => rfl⟩

theorem Kept.trans {S S' : Nat → Prop} {a b c : World} (h : Kept S a b) (k : Kept S' b c) (hS : ∀ i, S' i → S i ∨ a.heap.size ≤ i) : Kept S a c :=
  ⟨k.os.trans h.os, k.tape.trans h.tape, k.output.trans h.output, Nat.le_trans h.size k.size, fun i hi hn =>
    (k.block i (Nat.lt_of_lt_of_le hi h.size) (fun hs => (hS i hs).elim hn (fun hb => by omega))).trans (h.block i hi hn)⟩

theorem Kept.and {S : Nat → Prop} {a b c : World} (h : Kept S a b) (k : Kept S b c) : Kept S a c := h.trans k (fun _ => .inl)

theorem Kept.mono {S S' : Nat → Prop} {a b : World} (h : Kept S a b) (hS : ∀ i, S i → S' i) : Kept S' a b :=
  ⟨h.os, h.tape, h.output, h.size, fun k hk hn => h.block k hk (fun hs => hn (hS k hs))⟩

theorem Kept.grown {S : Nat → Prop} {w w' : World} {row : Option Nat} (hg : w.grownBy w' row) (hr : ∀ k, row = some k → S k) : Kept S w w' :=
  ⟨hg.os, hg.tape, hg.output, hg.size, fun k hk hn => hg.block k hk (fun e => hn (hr k e.symm))⟩

theorem Kept.setCell {S : Nat → Prop} (w : World) (a : Addr) (u : Value) (h : S a.block) : Kept S w (w.setCell a u) :=
  ⟨rfl, rfl, rfl, by simp [World.setCell], fun k _ hn => Below.heap_setCell _ _ _ _ (fun e => hn (e ▸ h))⟩

theorem Kept.alloc (S : Nat → Prop) (w : World) (o : Obj) : Kept S w (w.alloc o) :=
  ⟨rfl, rfl, rfl, by simp, fun k hk _ => Below.heap_alloc _ _ _ hk⟩

theorem Kept.drew (S : Nat → Prop) (w : World) : Kept S w w.drew := ⟨rfl, rfl, rfl, Nat.le_refl _, fun _ _ _ => rfl⟩

theorem Kept.below {S : Nat → Prop} {w w' : World} (h : Kept S w w') {B : Nat} (hB : B ≤ w.heap.size) (hS : ∀ i, S i → B ≤ i) : Below B w w' :=
  ⟨h.os, h.tape, h.output, h.size, fun k hk => h.block k (by omega) (fun hs => by have := hS k hs; omega)⟩

theorem ret_int {k : IntKind} {a b : Int} (h : a = b) : Ending.returned (.int k a) = .returned (.int k b) := by rw [h]

theorem isI64_bd {x : Int} (h : isI64 x) : -9223372036854775808 ≤ x ∧ x ≤ 9223372036854775807 := by
  simp [isI64, Lit.wf, IntKind.min, IntKind.max, IntKind.signed, IntKind.bits] at h
  omega

theorem tmod_emod_neg {n m : Int} (hm : 0 < m) (h : n.tmod m < 0) : n.tmod m + m = n % m := by
  have h1 := Int.emod_nonneg n (by omega : m ≠ 0)
  have h2 := Int.emod_lt_of_pos n hm
  rw [Int.tmod_eq_emod] at h ⊢
  split at h <;> rename_i hc
  · omega
  · have : (m.natAbs : Int) = m := by omega
    rw [if_neg hc]
    omega

theorem tmod_emod_pos {n m : Int} (hm : 0 < m) (h : 0 ≤ n.tmod m) : n.tmod m = n % m := by
  have h1 := Int.emod_nonneg n (by omega : m ≠ 0)
  have h2 := Int.emod_lt_of_pos n hm
  rw [Int.tmod_eq_emod] at h ⊢
  split at h <;> rename_i hc
  · rw [if_pos hc]; omega
  · have : (m.natAbs : Int) = m := by omega
    omega

theorem oneCells (l : List Int) : ∀ u ∈ l.map (Value.int .u8), u.oneCell' = true := by
  intro u hu
  obtain ⟨x, _, rfl⟩ := List.mem_map.1 hu
  rfl

/-- Bytes that are handed in: they lie where a says. -/
structure BytesAt (w : World) (a : Option Addr) (m c : Nat) (b : List Int) : Prop where
  len : b.length = m
  cap : m ≤ c
  nil : a = none → m = 0
  cells : ∀ ad, a = some ad → ∀ j u, (b.map (Value.int .u8))[j]? = some u → w.cell? (ad.add j) = some u
  byte : ∀ y ∈ b, 0 ≤ y ∧ y ≤ 255

theorem block_add (a : Addr) (j : Nat) : (a.add j).block = a.block := by unfold Addr.add; split <;> rfl

theorem BytesAt.kept {S : Nat → Prop} {w w' : World} {a : Option Addr} {m c : Nat} {b : List Int} (B : BytesAt w a m c b) (K : Kept S w w') (hs : b ≠ [] → ∀ ad, a = some ad → ¬ S ad.block) : BytesAt w' a m c b :=
  ⟨B.len, B.cap, B.nil, fun ad h j u hu => by
    have hc := B.cells ad h j u hu
    rw [World.cell?_of_block (w := w) (K.block _ (World.block_lt_of_cell? w _ hc) (by rw [block_add]; exact hs (fun e => by rw [e] at hu; simp at hu) ad h))]
    exact hc, B.byte⟩

theorem BytesAt.take {w : World} {a : Option Addr} {m c : Nat} {b : List Int} (B : BytesAt w a m c b) {h : Nat} (hh : h ≤ m) : BytesAt w a h c (b.take h) :=
  ⟨by rw [List.length_take, B.len]; omega, Nat.le_trans hh B.cap, fun e => by have := B.nil e; omega, fun ad e j u hu => B.cells ad e j u (by
    rw [List.map_take, List.getElem?_take] at hu
    split at hu
    · exact hu
    · cases hu), fun y hy => B.byte y (List.mem_of_mem_take hy)⟩

set_option maxRecDepth 100000 in
set_option maxHeartbeats 400000 in
theorem within_any (w : World) (k m : Int) (hm : 0 < m) (hm2 : m ≤ 281474976710656) :
    Calls Tryz.prog 11 #[.int .i64 k, .int .i64 m] w fun e w' => e = .returned (.int .i64 (k % m)) ∧ w' = w := by
  have h1 := Int.emod_nonneg k (by omega : m ≠ 0)
  have h2 := Int.emod_lt_of_pos k hm
  have hmz : (m == 0) = false := by simp; omega
  by_cases h : k.tmod m < 0
  · have e := tmod_emod_neg hm h
    have HE : Hid (k.tmod m + m = k % m) := e
    have hlo : -m ≤ k.tmod m := by omega
    clear e h1 h2
    go_enter Tryz.func11, Tryz.ntmps11
    go_wp2
    go_ret
    exact ⟨ret_int HE.out, rfl⟩
  · have e := tmod_emod_pos (n := k) hm (by omega)
    have HE : Hid (k.tmod m = k % m) := e
    clear e h1 h2
    go_enter Tryz.func11, Tryz.ntmps11
    go_wp2
    go_ret
    exact ⟨ret_int HE.out, rfl⟩

theorem Kept.drewN (S : Nat → Prop) (w : World) (n : Nat) : Kept S w (w.drewN n) := ⟨rfl, rfl, rfl, Nat.le_refl _, fun _ _ _ => rfl⟩

theorem Kept.none {w w' : World} (h : Kept (fun _ => False) w w') : Below w.heap.size w w' :=
  ⟨h.os, h.tape, h.output, h.size, fun k hk => h.block k hk (fun h => h)⟩

/-- A value that owns a row is a slice of that length. -/
theorem ownsRow_shape {w : World} {base n size : Nat} {e : TypeId} {v : Value} {xs : List Value} (h : w.ownsRow base e size v n xs) : ∃ a c, v = .slice a n c := by
  rcases h.2 with ⟨rfl, rfl⟩ | ⟨g, cap, cur, rfl, _⟩
  · exact ⟨_, _, rfl⟩
  · exact ⟨_, _, rfl⟩

/-- A row of numbers that came in: nil, or cells that hold zs. -/
def IsRow (k : IntKind) (w : World) (a : Option Addr) (len cap : Nat) (zs : List Int) : Prop :=
  (a = none ∧ len = 0 ∧ cap = 0 ∧ zs = []) ∨
  ∃ x, a = some x ∧ len ≤ cap ∧ cap ≤ maxLen ∧ zs.length = cap ∧ (∀ i, i < zs.length → w.cell? (x.add i) = some (.int k (zs.getD i 0))) ∧ ∀ n ∈ zs, (Lit.int k n).wf = true

theorem addr_form {w : World} {x : Addr} {v : Value} (h : w.cell? (x.add 0) = some v) : ∃ b off, x = ⟨b, off, none⟩ := by
  cases x with
  | mk b off spot =>
    cases spot with
    | none => exact ⟨b, off, rfl⟩
    | some s =>
      have hs := World.cell?_spot h
      simp [Addr.add] at hs

theorem u8_bd {x : Int} (h : (Lit.int .u8 x).wf = true) : 0 ≤ x ∧ x ≤ 255 := by
  simp [Lit.wf, IntKind.min, IntKind.max, IntKind.signed, IntKind.bits] at h
  omega

theorem IsRow.bytes {w : World} {a : Option Addr} {len cap : Nat} {zs : List Int} (h : IsRow .u8 w a len cap zs) : BytesAt w a len cap (zs.take len) := by
  rcases h with ⟨rfl, rfl, rfl, rfl⟩ | ⟨x, rfl, h1, h2, h3, hc, hw⟩
  · exact ⟨rfl, Nat.le_refl _, fun _ => rfl, fun ad h => (by cases h), fun y hy => (by simp at hy)⟩
  · refine ⟨by rw [List.length_take]; omega, h1, fun h => (by cases h), ?_, fun y hy => u8_bd (hw y (List.mem_of_mem_take hy))⟩
    intro ad e j u hu
    cases e
    rw [List.getElem?_map, List.getElem?_take] at hu
    split at hu
    · rename_i hj
      have hjl : j < zs.length := by omega
      have := hc j hjl
      rw [List.getElem?_eq_getElem hjl] at hu
      simp only [Option.map_some, Option.some.injEq] at hu
      rw [this, ← hu, List.getD_eq_getElem?_getD, List.getElem?_eq_getElem hjl]
      rfl
    · cases hu

theorem BytesAt.lt {w : World} {a : Option Addr} {m c : Nat} {b : List Int} (B : BytesAt w a m c b) {ad : Addr} (h : a = some ad) (hb : b ≠ []) : ad.block < w.heap.size := by
  cases b with
  | nil => exact absurd rfl hb
  | cons x r =>
    have := B.cells ad h 0 (.int .u8 x) rfl
    have := World.block_lt_of_cell? w _ this
    rw [block_add] at this
    exact this

open Go.ChangeShapes Go.WideShapes Go.ChangeAt

theorem Tryz.own : ownKnob Tryz.prog.godebug = none := by kernel_rfl
theorem Tryz.laidOut : laidOutB Tryz.prog = true := by kernel_rfl

theorem isRow_open {H : Type} {enc : TypeId × Value → H} {P : Program} {w : World} {base : Nat} {held : Bool} {t e : TypeId} {k : IntKind} {fuel : Nat} {v : Value} {x : DataW H × List MemPlace} (ht : P.underlying t = some (.slice e)) (he : P.underlying e = some (.int k)) (hc : P.cellsOf e = 1)
    (h : DataW.trod enc P w base (fun _ => true) held fuel t [v] = some x) : ∃ a len cap zs, v = .slice a len cap ∧ IsRow k w a len cap zs := by
  rcases open_ints ht he hc h with ⟨hcs, _⟩ | ⟨a, l, c, zs, hcs, _, hl, hm, hz, _, hcell, hwz⟩
  · simp only [List.cons.injEq, and_true] at hcs
    exact ⟨_, _, _, [], hcs, .inl ⟨rfl, rfl, rfl, rfl⟩⟩
  · simp only [List.cons.injEq, and_true] at hcs
    exact ⟨_, _, _, zs, hcs, .inr ⟨_, rfl, hl, hm, by simpa using hz, hcell, hwz⟩⟩

/-- Bytes that lie somewhere, turned into a string. -/
theorem BytesAt.str {w : World} {a : Option Addr} {m c : Nat} {b : List Int} (B : BytesAt w a m c b) : (convert 23 9 (.slice a m c)).run Tryz.prog w = .ok (.string (strOfNums b)) w := by
  cases a with
  | none =>
    have hm := B.nil rfl
    have hb : b = [] := List.eq_nil_of_length_eq_zero (by rw [B.len, hm])
    subst hb
    exact run_convert_bytes_nil w 23 5 Tryz.underlying23 Tryz.underlying5 m c 9 Tryz.underlying9
  | some ad =>
    cases hb : b with
    | nil =>
      subst hb
      have hm : m = 0 := B.len.symm
      subst hm
      rw [run_convert_bytes_string w _ _ 5 _ 0 c Tryz.underlying23 Tryz.underlying5 Tryz.underlying9]
      simp [Conv.bytesToString, loadCells]
      all_goals rfl
    | cons x r =>
      have h0 := B.cells ad rfl 0 (.int .u8 x) (by rw [hb]; rfl)
      obtain ⟨bk, off, rfl⟩ := addr_form h0
      rw [← hb]
      refine run_convert_bytes_arg w 23 5 Tryz.underlying23 Tryz.underlying5 bk off m c b B.len (fun i hi => ?_) 9 Tryz.underlying9
      have hil : i < b.length := by rw [B.len]; exact hi
      have := B.cells _ rfl i (.int .u8 (b.getD i 0)) (by rw [List.getElem?_map, List.getD_eq_getElem?_getD, List.getElem?_eq_getElem hil]; rfl)
      rw [Addr.add_lit] at this
      exact this

theorem BytesAt.at {w : World} {a : Option Addr} {m c : Nat} {b : List Int} (B : BytesAt w a m c b) {j : Nat} (hj : j < b.length) : ∃ ba oa, a = some ⟨ba, oa, none⟩ ∧ ∀ j, j < b.length → w.cell? ⟨ba, oa + j, none⟩ = some (.int .u8 (b.getD j 0)) := by
  have hlen := B.len
  cases a with
  | none => have := B.nil rfl; omega
  | some ad =>
    have hall : ∀ j, j < b.length → w.cell? (ad.add j) = some (.int .u8 (b.getD j 0)) := fun j hj => B.cells ad rfl j _ (by rw [List.getElem?_map, List.getD_eq_getElem?_getD, List.getElem?_eq_getElem hj]; rfl)
    obtain ⟨ba, oa, rfl⟩ := addr_form (hall 0 (by omega))
    exact ⟨ba, oa, rfl, fun j hj => by have := hall j hj; rw [Addr.add_lit] at this; exact this⟩

theorem BytesAt.ofRow {w : World} {base : Nat} {a : Option Addr} {c : Nat} {b : List Int} (h : w.ownsRow base 5 1 (.slice a b.length c) b.length (b.map (Value.int .u8))) (hb : ∀ x ∈ b, 0 ≤ x ∧ x ≤ 255) : BytesAt w a b.length c b := by
  rcases h.2 with ⟨e, h0⟩ | ⟨g, cap, cur, e, _, _, h1, _⟩
  · simp only [Value.slice.injEq] at e
    obtain ⟨rfl, _, rfl⟩ := e
    exact ⟨rfl, by omega, fun _ => h0, fun ad h => (by cases h), hb⟩
  · have h' := h
    simp only [Value.slice.injEq] at e
    obtain ⟨rfl, _, rfl⟩ := e
    exact ⟨rfl, h1, fun h => (by cases h), fun ad e => (by cases e; exact h'.cells rfl), hb⟩

/-- A store into a row that is owned. -/
theorem ownsRow_set {w : World} {base n cap g k : Nat} {e : TypeId} {xs : List Value} (h : w.ownsRow base e 1 (.slice (some ⟨g, 0, none⟩) n cap) n xs) (u : Value) :
    (w.setCell ⟨g, k, none⟩ u).ownsRow base e 1 (.slice (some ⟨g, 0, none⟩) n cap) n (xs.set k u) := by
  refine ⟨by rw [List.length_set]; exact h.1, ?_⟩
  rcases h.2 with ⟨h0, _⟩ | ⟨g', cap', cur, hv, hb, hh, r1, r2, r3, r4⟩
  · cases h0
  · simp only [Value.slice.injEq, Option.some.injEq, Addr.mk.injEq] at hv
    obtain ⟨⟨rfl, _⟩, _, rfl⟩ := hv
    refine .inr ⟨g, cap, cur.setIfInBounds k u, rfl, hb, by simp [World.setCell, Array.getElem?_modify, hh], r1, r2, by simpa using r3, ?_⟩
    rw [Array.toList_setIfInBounds, List.take_set, r4]

/-- A cell of a row that is owned. -/
theorem ownsRow_get {w : World} {base n cap g k : Nat} {e : TypeId} {xs : List Value} (h : w.ownsRow base e 1 (.slice (some ⟨g, 0, none⟩) n cap) n xs) {u : Value} (hu : xs[k]? = some u) : w.cell? ⟨g, k, none⟩ = some u ∧ w.frozen? ⟨g, k, none⟩ = false := by
  constructor
  · have := h.cells (g := g) rfl k u hu
    simpa [Addr.add_lit] using this
  · rcases h.2 with ⟨h0, _⟩ | ⟨g', cap', cur, hv, hb, hh, r⟩
    · cases h0
    · simp only [Value.slice.injEq, Option.some.injEq, Addr.mk.injEq] at hv
      obtain ⟨⟨rfl, _⟩, _⟩ := hv
      simp [World.frozen?, hh]


/-- What is handed to append: a row of cells, or nil. -/
def Src (w : World) (size : Nat) (x : Value) (m : Nat) (news : List Value) : Prop :=
  (∃ ad c, x = .slice (some ad) m c ∧ news.length = m * size ∧ ∀ j u, news[j]? = some u → w.cell? (ad.add j) = some u) ∨ (∃ c, x = .slice none 0 c ∧ m = 0 ∧ news = [])

theorem BytesAt.src {w : World} {a : Option Addr} {m c : Nat} {b : List Int} (B : BytesAt w a m c b) : Src w 1 (.slice a m c) m (b.map (Value.int .u8)) := by
  cases a with
  | none =>
    have hm := B.nil rfl
    have hb : b = [] := List.eq_nil_of_length_eq_zero (by rw [B.len, hm])
    exact .inr ⟨c, by rw [hm], hm, by rw [hb]; rfl⟩
  | some ad => exact .inl ⟨ad, c, rfl, by simp [B.len], B.cells ad rfl⟩

theorem run_append_src {P : Program} (w : World) (base : Nat) (t ty e : TypeId) (i : TypeInfo) (z : Value) (size bytes : Nat) (ht : P.underlying t = some (.slice e)) (hi : P.info? e = some i) (hz : i.zero = some z)
    (hsize : i.size = size) (hby : i.bytes = bytes) (hzs : z.cells.size = size) (hsz : 0 < size)
    (v : Value) (n : Nat) (xs : List Value) (hown : w.ownsRow base e size v n xs) (x : Value) (m : Nat) (news : List Value) (hsrc : Src w size x m news) (h1 : ∀ u ∈ news, u.oneCell' = true)
    (h63 : n + m ≤ maxLen) (hbytes : (n + m) * bytes ≤ 140737488355328) (hbase : base ≤ w.heap.size) :
    ∃ v' w', (Builtin.append_ #[t, t] ty #[v, x]).run P w = .ok v' w' ∧ w'.ownsRow base e size v' (n + m) (xs ++ news) ∧ w.grownBy w' v.ownBlock ∧
      (v' = .slice none 0 0 ↔ v = .slice none 0 0 ∧ m = 0) ∧ (v'.ownBlock = v.ownBlock ∨ v'.ownBlock = some w.heap.size) := by
  rcases hsrc with ⟨ad, c, rfl, hl, hc⟩ | ⟨c, rfl, rfl, rfl⟩
  · exact run_append_own_at w base t ty e i z size bytes ht hi hz hsize hby hzs hsz v n xs hown ad m c news hl hc h1 h63 hbytes hbase
  · refine ⟨v, w, ?_, by simpa using hown, ⟨rfl, rfl, rfl, Nat.le_refl _, fun _ _ _ => rfl⟩, by simp, .inl rfl⟩
    rcases hown.2 with ⟨rfl, rfl⟩ | ⟨g, cap, cur, rfl, _, _, hnc, _⟩
    · simp [Builtin.append_, run_underlying ht, sizeOf, typeInfo, hi, Builtin.lenOf, Builtin.firstCells]
    · simp [Builtin.append_, run_underlying ht, sizeOf, typeInfo, hi, Builtin.lenOf, Builtin.firstCells, hnc, storeCells]

/-- append(v, x...) onto a row that is owned, from whatever source, nil and empty ones too. -/
theorem wpList_append_src {P : Program} (w : World) {ops : Array Oper} {rest : List Oper} {o : Oper} {a : Act} {Q : Exit → Act → World → Prop} (hgd : o.guard = none) (s x : Operand) (t : TypeId)
    (ho : o.op = .call { callee := .builtin .append, args := #[s, x], argTypes := #[t, t] })
    (base : Nat) (e : TypeId) (i : TypeInfo) (z : Value) (size bytes : Nat) (ht : P.underlying t = some (.slice e)) (hi : P.info? e = some i) (hz : i.zero = some z)
    (hsize : i.size = size) (hby : i.bytes = bytes) (hzs : z.cells.size = size) (hsz : 0 < size)
    (v : Value) (n : Nat) (xs : List Value) (hs : a.eval s = v) (hown : w.ownsRow base e size v n xs) (xv : Value) (hx : a.eval x = xv) (m : Nat) (news : List Value) (hsrc : Src w size xv m news) (h1 : ∀ u ∈ news, u.oneCell' = true)
    (h63 : n + m ≤ maxLen) (hbytes : (n + m) * bytes ≤ 140737488355328) (hbase : base ≤ w.heap.size)
    (h : ∀ a' cap w', w'.ownsRow base e size (.slice a' (n + m) cap) (n + m) (xs ++ news) → w.grownBy w' v.ownBlock → (Value.slice a' (n + m) cap = .slice none 0 0 ↔ v = .slice none 0 0 ∧ m = 0) → ((Value.slice a' (n + m) cap).ownBlock = v.ownBlock ∨ (Value.slice a' (n + m) cap).ownBlock = some w.heap.size) → wpList P ops Q rest (a.put o.dst (.slice a' (n + m) cap)) w') :
    wpList P ops Q (o :: rest) a w := by
  refine wpList_plain hgd fun K hK => ?_
  obtain ⟨v', w', hrun, h2, h3, h4, h5⟩ := run_append_src (P := P) w base t o.type e i z size bytes ht hi hz hsize hby hzs hsz v n xs hown xv m news hsrc h1 h63 hbytes hbase
  obtain ⟨a', cap, rfl⟩ := ownsRow_shape h2
  unfold Oper.wp
  simp [execOp, ho, resolve, invoke, builtin, hs, hx, hrun, Result.andThen]
  exact hK _ _ (h a' cap w' h2 h3 h4 h5)

/-- A slice of no element, in a block of its own. -/
theorem ownsRow_empty (w : World) (base : Nat) (e : TypeId) (size : Nat) (hb : base ≤ w.heap.size) : (w.alloc (.cells #[] e)).ownsRow base e size (.slice (some ⟨w.heap.size, 0, none⟩) 0 0) 0 [] :=
  World.ownsRow_made w #[] 0 hb (by simp [maxLen]) (by simp)

/-- Bytes that are lent: a copy, four bytes behind them. -/
def lentOf (b : List Int) : List Value := b.map (Value.int .u8) ++ [.int .u8 201, .int .u8 202, .int .u8 203, .int .u8 204]

theorem lend_k1 (w w1 : World) (h : (w.alloc (.cells #[] 5)).grownBy w1 (Value.slice (some ⟨w.heap.size, 0, none⟩) 0 0).ownBlock) : Kept (fun _ => False) w w1 :=
  (Kept.alloc _ w _).trans (Kept.grown (S := fun k => w.heap.size ≤ k) h (fun _ e => Nat.le_of_eq (Option.some.inj e))) (fun _ h => .inr h)

theorem lend_cap {w : World} {base e n size cap g : Nat} {xs : List Value} (h : w.ownsRow base e size (.slice (some ⟨g, 0, none⟩) n cap) n xs) : (n : Int) ≤ (cap : Int) := by
  rcases h.2 with ⟨h0, _⟩ | ⟨g', cap', cur, hv, _, _, r1, _⟩
  · cases h0
  · simp only [Value.slice.injEq] at hv
    obtain ⟨_, _, rfl⟩ := hv
    omega

set_option maxRecDepth 100000 in
set_option maxHeartbeats 1000000 in
theorem lend_any (w : World) (a : Option Addr) (m c : Nat) (b : List Int) (B : BytesAt w a m c b) (hm : m ≤ 1099511627776) :
    Calls Tryz.prog 6 #[.slice a m c] w fun e w' => ∃ g cap, e = .returned (.slice (some ⟨g, 0, none⟩) m cap) ∧ w'.ownsRow w.heap.size 5 1 (.slice (some ⟨g, 0, none⟩) (m + 4) cap) (m + 4) (lentOf b) ∧ Kept (fun _ => False) w w' := by
  obtain ⟨i0, hi, hz0, hz1, hz2⟩ := info_parts Tryz.info5
  have hown := ownsRow_empty w w.heap.size 5 1 (Nat.le_refl _)
  have BA := B.kept (Kept.alloc (fun _ => False) w (.cells #[] 5)) (fun _ _ _ h => h)
  go_enter Tryz.func6, Tryz.ntmps6
  go_wp2_with (first
    | (at_builtin; have _t := hown; refine wpList_append_src _ rfl _ _ 23 rfl w.heap.size 5 i0 (.int .u8 0) 1 1 Tryz.underlying23 hi hz0 hz1 hz2 rfl (by decide) (.slice (some ⟨w.heap.size, 0, none⟩) 0 0) 0 [] rfl hown _ rfl m _ BA.src (oneCells _) (by unfold maxLen; omega) (by omega) (by simp) ?_; intro a1 cap1 w1 ho1 hg1 hn1 hl1; simp only [Nat.zero_add, List.nil_append] at ho1 hn1 hl1 ⊢; have K1 := lend_k1 w w1 hg1; have hz1' := K1.size; clear _t hown hn1 hl1 hg1)
    | (at_builtin; refine wpList_append_lies _ rfl _ _ 23 rfl w.heap.size 5 i0 (.int .u8 0) 1 1 Tryz.underlying23 hi hz0 hz1 hz2 rfl (by decide) (.slice a1 m cap1) m _ rfl (ho1.alloc _) ⟨w1.heap.size, 0, none⟩ 4 4 [.int .u8 201, .int .u8 202, .int .u8 203, .int .u8 204] rfl rfl (World.news_of_block (heap_alloc_new w1 _)) (by simp [Value.oneCell']) (by decide) (by unfold maxLen; omega) (by omega) (by simp; omega) (w1.heap.size + 1) (by simp) ?_; intro g2 cap2 w2 ho2 hg2 hat2 hlt2; have hc2 := lend_cap ho2)
    | fail)
  go_ret
  exact ⟨g2, cap2, rfl, ho2, (K1.and (Kept.alloc _ _ _)).trans (Kept.grown (S := fun k => w.heap.size ≤ k) hg2 (fun k e => (ho1.lt k e).1)) (fun k h => .inr h)⟩

theorem lent_str (b : List Int) : strOfNums (b ++ [201, 202, 203, 204]) = strOfNums b ++ ⟨#[201, 202, 203, 204]⟩ := by
  have h : ∀ x y : ByteArray, x.data = y.data → x = y := by
    intro x y h; cases x; cases y; simp at h; rw [h]
  apply h
  simp [strOfNums]

set_option maxRecDepth 100000 in
set_option maxHeartbeats 1000000 in
theorem intact_any (w : World) (base g m cap : Nat) (a : Option Addr) (c : Nat) (b : List Int) (B : BytesAt w a m c b) (ho : w.ownsRow base 5 1 (.slice (some ⟨g, 0, none⟩) (m + 4) cap) (m + 4) (lentOf b)) (hm : m ≤ 1099511627776) :
    Calls Tryz.prog 9 #[.slice (some ⟨g, 0, none⟩) m cap, .slice a m c] w fun e w' => e = .returned (.bool true) ∧ Kept (fun k => k = g) w w' := by
  have hcap := lend_cap ho
  have hcap2 : (m : Int) + 4 ≤ (cap : Int) := by omega
  have hl : (b ++ [201, 202, 203, 204]).length = m + 4 := by rw [List.length_append, B.len]; rfl
  have BL : BytesAt w (some ⟨g, 0, none⟩) (m + 4) cap (b ++ [201, 202, 203, 204]) := by
    have h2 : w.ownsRow base 5 1 (.slice (some ⟨g, 0, none⟩) (b ++ [201, 202, 203, 204]).length cap) (b ++ [201, 202, 203, 204]).length ((b ++ [201, 202, 203, 204]).map (Value.int .u8)) := by
      rw [hl, List.map_append]; exact ho
    have h3 := BytesAt.ofRow h2 (fun x hx => by
      rcases List.mem_append.1 hx with h | h
      · exact B.byte x h
      · simp at h; omega)
    rw [hl] at h3
    exact h3
  have s1 := BL.str
  rw [lent_str] at s1
  have s2 := B.str
  have hsz : (strOfNums b).size ≤ 1099511627776 := by
    have : (strOfNums b).size = b.length := by simp [strOfNums, ByteArray.size]
    rw [this, B.len]; exact hm
  have ho' : w.ownsRow base 5 1 (.slice (some ⟨g, 0, none⟩) (m + 4) cap) (m + 4) ((b ++ [201, 202, 203, 204]).map (Value.int .u8)) := by rw [List.map_append]; exact ho
  go_enter Tryz.func9, Tryz.ntmps9
  go_wp2
  go_loopw [7] (fun i wr => ∃ (k : Nat) (ys : List Int), k ≤ m + 4 ∧ i = .int .i64 k ∧ ys.length = m + 4 ∧ wr.ownsRow base 5 1 (.slice (some ⟨g, 0, none⟩) (m + 4) cap) (m + 4) (ys.map (Value.int .u8)) ∧ Kept (fun k => k = g) w wr) (fun i _ => m + 4 - (intOf i).toNat)
  case atStart => exact ⟨0, _, Nat.zero_le _, rfl, hl, ho', Kept.refl _ _⟩
  case round =>
    obtain ⟨k, ys, hk, rfl, hy, ho2, K⟩ := hrel
    clear s1 s2 ho ho' BL hl
    have HY : Hid (ys.length = m + 4) := hy
    by_cases hlt : k < m + 4
    · have hky : k < ys.length := by omega
      obtain ⟨x1, x2⟩ := ownsRow_get ho2 (k := k) (u := .int .u8 ys[k]) (by rw [List.getElem?_map, List.getElem?_eq_getElem hky]; rfl)
      have hs := ownsRow_set ho2 (k := k) (.int .u8 85)
      generalize ys[k] = x at *
      have e1 : (k : Int) < (m : Int) + 4 := by omega
      clear hy
      go_wp2
      go_roundw
      case rel => exact ⟨k + 1, ys.set k 85, by omega, by go_num, by rw [List.length_set]; exact HY.out, by rw [List.map_set]; exact hs, K.and (Kept.setCell (S := fun k => k = g) _ _ _ rfl)⟩
      case measure => simp [intOf]; omega
    · clear hy
      go_wp2
      go_ret
      exact ⟨rfl, K⟩

end Go.Proofs.YtfiaaaflpjpnjaaGreatDoor
