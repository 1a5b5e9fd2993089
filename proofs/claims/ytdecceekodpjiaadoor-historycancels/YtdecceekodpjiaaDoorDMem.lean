/-
  Definitions in memory: rows of texts, rows of nodes; they are read alone.
-/
import Derived.Test.YtdecceekodpjiaaDoorDPure
namespace Go.Proofs.YtdecceekodpjiaaDoor
open Go.RowKit

/-- A row of cells: none, or it lies at b, o. -/
def CellsAt (w : World) (a : Option Addr) (l : List Value) : Prop := l = [] ∨ ∃ b o, a = some ⟨b, o, none⟩ ∧ ∀ j u, l[j]? = some u → w.cell? ⟨b, o + j, none⟩ = some u

theorem CellsAt.kept {S : Nat → Prop} {w w' : World} {a : Option Addr} {l : List Value} (C : CellsAt w a l) (K : Kept S w w') (hS : ∀ k, k < w.heap.size → ¬ S k) : CellsAt w' a l := by
  rcases C with h | ⟨b, o, h, hc⟩
  · exact .inl h
  · refine .inr ⟨b, o, h, fun j u hu => ?_⟩
    have h1 := hc j u hu
    have h2 := World.block_lt_of_cell? w _ h1
    rw [World.cell?_of_block (w := w) (K.block _ h2 (hS _ h2))]
    exact h1

theorem keepC {S : Nat → Prop} {w w' : World} (K : Kept S w w') {a : Addr} {v : Value} (h : w.cell? a = some v) (hS : ∀ k, k < w.heap.size → ¬ S k) : w'.cell? a = some v := by
  have h2 := World.block_lt_of_cell? w _ h
  rw [World.cell?_of_block (w := w) (K.block _ h2 (hS _ h2))]
  exact h

/-- Texts that lie in a row. -/
def TextsAt (w : World) (v : Value) (l : List ByteArray) : Prop := ∃ a c, v = .slice a l.length c ∧ l.length ≤ c ∧ c ≤ maxLen ∧ CellsAt w a (l.map Value.string) ∧ ∀ s ∈ l, s.size ≤ maxLen

theorem TextsAt.kept {S : Nat → Prop} {w w' : World} {v : Value} {l : List ByteArray} (C : TextsAt w v l) (K : Kept S w w') (hS : ∀ k, k < w.heap.size → ¬ S k) : TextsAt w' v l := by
  obtain ⟨a, c, h1, h2, h3, h4, h5⟩ := C
  exact ⟨a, c, h1, h2, h3, h4.kept K hS, h5⟩

theorem TextsAt.at {w : World} {v : Value} {l : List ByteArray} (C : TextsAt w v l) : ∃ a c, v = .slice a l.length c ∧ l.length ≤ c ∧ (l ≠ [] → ∃ b o, a = some ⟨b, o, none⟩ ∧ ∀ i (h : i < l.length), w.cell? ⟨b, o + i, none⟩ = some (.string (l[i]'h))) := by
  obtain ⟨a, c, h1, h2, h3, h4, h5⟩ := C
  refine ⟨a, c, h1, h2, fun hne => ?_⟩
  rcases h4 with h | ⟨b, o, h, hc⟩
  · simp at h; exact absurd h hne
  · exact ⟨b, o, h, fun i hi => hc i _ (by simp [hi])⟩

/-- A node's seven cells. -/
def ndC (n : Nd) (v : Value) : List Value := [.string n.name, .int .i64 n.kind, .string n.arg, .string n.to, .int .i64 n.delay, .int .i64 n.tries, v]

/-- A node is one of memory: its texts and numbers are. -/
structure NdOk (n : Nd) : Prop where
  name : n.name.size ≤ maxLen
  arg : n.arg.size ≤ maxLen
  «to» : n.to.size ≤ maxLen
  kind : isI64 n.kind
  delay : isI64 n.delay
  tries : isI64 n.tries
  few : n.after.length ≤ 1000000

/-- Nodes that lie in a row at a. -/
def NodesAt (w : World) (a : Option Addr) (ns : List Nd) : Prop := (∀ n ∈ ns, NdOk n) ∧ (ns = [] ∨ ∃ b o, a = some ⟨b, o, none⟩ ∧ ∀ i (h : i < ns.length), ∃ v, TextsAt w v (ns[i]'h).after ∧ ∀ j u, (ndC (ns[i]'h) v)[j]? = some u → w.cell? ⟨b, o + i * 7 + j, none⟩ = some u)

theorem NodesAt.kept {S : Nat → Prop} {w w' : World} {a : Option Addr} {ns : List Nd} (C : NodesAt w a ns) (K : Kept S w w') (hS : ∀ k, k < w.heap.size → ¬ S k) : NodesAt w' a ns := by
  refine ⟨C.1, ?_⟩
  rcases C.2 with h | ⟨b, o, h, hc⟩
  · exact .inl h
  · refine .inr ⟨b, o, h, fun i hi => ?_⟩
    obtain ⟨v, hv, hw⟩ := hc i hi
    refine ⟨v, hv.kept K hS, fun j u hu => ?_⟩
    have h1 := hw j u hu
    have h2 := World.block_lt_of_cell? w _ h1
    rw [World.cell?_of_block (w := w) (K.block _ h2 (hS _ h2))]
    exact h1

/-- A node's own row and what it holds. -/
theorem NodesAt.at {w : World} {a : Option Addr} {ns : List Nd} (C : NodesAt w a ns) {i : Nat} (hi : i < ns.length) : ∃ b o av cv, a = some ⟨b, o, none⟩ ∧ TextsAt w (.slice av (ns[i]).after.length cv) (ns[i]).after ∧
    w.cell? ⟨b, o + i * 7, none⟩ = some (.string (ns[i]).name) ∧ w.cell? ⟨b, o + i * 7 + 1, none⟩ = some (.int .i64 (ns[i]).kind) ∧ w.cell? ⟨b, o + i * 7 + 2, none⟩ = some (.string (ns[i]).arg) ∧ w.cell? ⟨b, o + i * 7 + 3, none⟩ = some (.string (ns[i]).to) ∧
    w.cell? ⟨b, o + i * 7 + 4, none⟩ = some (.int .i64 (ns[i]).delay) ∧ w.cell? ⟨b, o + i * 7 + 5, none⟩ = some (.int .i64 (ns[i]).tries) ∧ w.cell? ⟨b, o + i * 7 + 6, none⟩ = some (.slice av (ns[i]).after.length cv) := by
  rcases C.2 with h | ⟨b, o, h, hc⟩
  · subst h; simp at hi
  · obtain ⟨v, hv, hw⟩ := hc i hi
    have hv2 := hv
    obtain ⟨av, cv, rfl, _⟩ := hv2
    exact ⟨b, o, av, cv, h, hv, hw 0 _ rfl, hw 1 _ rfl, hw 2 _ rfl, hw 3 _ rfl, hw 4 _ rfl, hw 5 _ rfl, hw 6 _ rfl⟩

/-- Nodes that lie in a row at a; their Afters may be of any length. -/
def RawAt (w : World) (a : Option Addr) (ns : List Nd) : Prop := (∀ n ∈ ns, NdOk { n with after := [] }) ∧ (ns = [] ∨ ∃ b o, a = some ⟨b, o, none⟩ ∧ ∀ i (h : i < ns.length), ∃ v, TextsAt w v (ns[i]'h).after ∧ ∀ j u, (ndC (ns[i]'h) v)[j]? = some u → w.cell? ⟨b, o + i * 7 + j, none⟩ = some u)

theorem RawAt.kept {S : Nat → Prop} {w w' : World} {a : Option Addr} {ns : List Nd} (C : RawAt w a ns) (K : Kept S w w') (hS : ∀ k, k < w.heap.size → ¬ S k) : RawAt w' a ns := by
  refine ⟨C.1, ?_⟩
  rcases C.2 with h | ⟨b, o, h, hc⟩
  · exact .inl h
  · refine .inr ⟨b, o, h, fun i hi => ?_⟩
    obtain ⟨v, hv, hw⟩ := hc i hi
    refine ⟨v, hv.kept K hS, fun j u hu => ?_⟩
    exact keepC K (hw j u hu) hS

theorem RawAt.at {w : World} {a : Option Addr} {ns : List Nd} (C : RawAt w a ns) {i : Nat} (hi : i < ns.length) : ∃ b o av cv, a = some ⟨b, o, none⟩ ∧ TextsAt w (.slice av (ns[i]).after.length cv) (ns[i]).after ∧
    w.cell? ⟨b, o + i * 7, none⟩ = some (.string (ns[i]).name) ∧ w.cell? ⟨b, o + i * 7 + 1, none⟩ = some (.int .i64 (ns[i]).kind) ∧ w.cell? ⟨b, o + i * 7 + 2, none⟩ = some (.string (ns[i]).arg) ∧ w.cell? ⟨b, o + i * 7 + 3, none⟩ = some (.string (ns[i]).to) ∧
    w.cell? ⟨b, o + i * 7 + 4, none⟩ = some (.int .i64 (ns[i]).delay) ∧ w.cell? ⟨b, o + i * 7 + 5, none⟩ = some (.int .i64 (ns[i]).tries) ∧ w.cell? ⟨b, o + i * 7 + 6, none⟩ = some (.slice av (ns[i]).after.length cv) := by
  rcases C.2 with h | ⟨b, o, h, hc⟩
  · subst h; simp at hi
  · obtain ⟨v, hv, hw⟩ := hc i hi
    have hv2 := hv
    obtain ⟨av, cv, rfl, _⟩ := hv2
    exact ⟨b, o, av, cv, h, hv, hw 0 _ rfl, hw 1 _ rfl, hw 2 _ rfl, hw 3 _ rfl, hw 4 _ rfl, hw 5 _ rfl, hw 6 _ rfl⟩

theorem NodesAt.raw {w : World} {a : Option Addr} {ns : List Nd} (C : NodesAt w a ns) : RawAt w a ns := ⟨fun n h => ⟨(C.1 n h).name, (C.1 n h).arg, (C.1 n h).to, (C.1 n h).kind, (C.1 n h).delay, (C.1 n h).tries, Nat.zero_le _⟩, C.2⟩

theorem RawAt.nodes {w : World} {a : Option Addr} {ns : List Nd} (C : RawAt w a ns) (h : ∀ n ∈ ns, n.after.length ≤ 1000000) : NodesAt w a ns := ⟨fun n hn => ⟨(C.1 n hn).name, (C.1 n hn).arg, (C.1 n hn).to, (C.1 n hn).kind, (C.1 n hn).delay, (C.1 n hn).tries, h n hn⟩, C.2⟩

theorem keptRaw {w w' : World} (K : Kept (fun _ => False) w w') {a : Option Addr} {ns : List Nd} (C : RawAt w a ns) : RawAt w' a ns := C.kept K (fun _ _ h => h)

/-- A definition's value. -/
def defV (name : ByteArray) (a : Option Addr) (n c : Nat) : Value := .agg #[.string name, .slice a n c]

/-- Only what is new may have changed: what is read stays. -/
theorem keptNew {w w' : World} (K : Kept (fun _ => False) w w') {a : Option Addr} {ns : List Nd} (C : NodesAt w a ns) : NodesAt w' a ns := C.kept K (fun _ _ h => h)

/-- What was put into a box stays there. -/
theorem boxC {S : Nat → Prop} {w w' : World} {arr : Array Value} {T : TypeId} (K : Kept S (w.alloc (.cells arr T)) w') (hS : ¬ S w.heap.size) (j : Nat) (u : Value) (h : arr[j]? = some u) : w'.cell? ⟨w.heap.size, j, none⟩ = some u := by
  have hb := K.block w.heap.size (by simp) hS
  rw [World.cell?_of_block (w := w.alloc (.cells arr T)) hb]
  unfold World.cell?
  rw [heap_alloc_new]
  exact h

theorem boxD {w w' : World} {u0 u1 : Value} {T : TypeId} (K : Kept (fun _ => False) (w.alloc (.cells #[u0, u1] T)) w') : w'.cell? ⟨w.heap.size, 0, none⟩ = some u0 ∧ w'.cell? ⟨w.heap.size, 1, none⟩ = some u1 :=
  ⟨boxC K (fun h => h) 0 _ rfl, boxC K (fun h => h) 1 _ rfl⟩

theorem boxN {w w' : World} {u0 u1 u2 u3 u4 u5 u6 : Value} {T : TypeId} (K : Kept (fun _ => False) (w.alloc (.cells #[u0, u1, u2, u3, u4, u5, u6] T)) w') : w'.cell? ⟨w.heap.size, 0, none⟩ = some u0 ∧ w'.cell? ⟨w.heap.size, 1, none⟩ = some u1 ∧ w'.cell? ⟨w.heap.size, 2, none⟩ = some u2 ∧
    w'.cell? ⟨w.heap.size, 3, none⟩ = some u3 ∧ w'.cell? ⟨w.heap.size, 4, none⟩ = some u4 ∧ w'.cell? ⟨w.heap.size, 5, none⟩ = some u5 ∧ w'.cell? ⟨w.heap.size, 6, none⟩ = some u6 :=
  ⟨boxC K (fun h => h) 0 _ rfl, boxC K (fun h => h) 1 _ rfl, boxC K (fun h => h) 2 _ rfl, boxC K (fun h => h) 3 _ rfl, boxC K (fun h => h) 4 _ rfl, boxC K (fun h => h) 5 _ rfl, boxC K (fun h => h) 6 _ rfl⟩

end Go.Proofs.YtdecceekodpjiaaDoor
