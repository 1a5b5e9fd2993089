/-
  A workflow's state as the document's JSON, as data; what stands in memory for it.
-/
import Derived.Test.YtdbplemcjnlfiaaGreatDoorFStK
namespace Go.Proofs.YtdbplemcjnlfiaaGreatDoor
open Go.RowKit Go.Sort

theorem quote_len (s : ByteArray) : (quoteP s).length ≤ 6 * s.size + 2 := by
  have hq : ∀ (n i : Nat), (quoteF s n i).length ≤ 6 * (s.size - i) := by
    intro n
    induction n with
    | zero => intro i; simp [quoteF]
    | succ n ih =>
      intro i
      by_cases h : i < s.size
      · rw [quoteF_more h, List.length_append]
        have h1 := piece_len s i h
        have h2 := ih (i + (Utf8.decode s i).2)
        have h3 := dec_pos s h
        omega
      · rw [quoteF_end h]; simp
  unfold quoteP
  have h := hq (s.size + 1) 0
  simp only [List.length_cons, List.length_append, List.length_nil]
  omega

def headL (id df : ByteArray) (st : Int) (tx : ByteArray) (ev ov lf : Int) : List UInt8 :=
  [123, 34, 102, 108, 111, 119, 34, 58] ++ quoteP id ++ [44, 34, 100, 101, 102, 34, 58] ++ quoteP df ++ [44, 34, 115, 116, 97, 116, 117, 115, 34, 58] ++ quoteP (mkB (wordsL st)) ++ [44, 34, 116, 101, 120, 116, 34, 58] ++ quoteP tx ++ [44, 34, 101, 118, 101, 110, 116, 115, 34, 58] ++ Lib.itoa ev ++ [44, 34, 111, 118, 101, 114, 34, 58] ++ Lib.itoa ov ++ [44, 34, 108, 101, 102, 116, 34, 58] ++ Lib.itoa lf ++ [44, 34, 110, 111, 100, 101, 115, 34, 58, 91]

def nodeL (nm : ByteArray) (ns nt : Int) (nx : ByteArray) : List UInt8 :=
  [123, 34, 110, 97, 109, 101, 34, 58] ++ quoteP nm ++ [44, 34, 115, 116, 97, 116, 117, 115, 34, 58] ++ quoteP (mkB (standL ns)) ++ [44, 34, 116, 114, 121, 34, 58] ++ Lib.itoa nt ++ [44, 34, 116, 101, 120, 116, 34, 58] ++ quoteP nx ++ [125]

/-- The first k of the nodes. -/
def nodesL (f : Nat → List UInt8) : Nat → List UInt8
  | 0 => []
  | k + 1 => nodesL f k ++ (if k = 0 then [] else [44]) ++ f k

/-- How many of the first k nodes are over. -/
def ovN (St : Nat → Int) : Nat → Nat
  | 0 => 0
  | k + 1 => ovN St k + if St k = 3 then 1 else 0

theorem ovN_le (St : Nat → Int) : ∀ k, ovN St k ≤ k
  | 0 => Nat.le_refl _
  | k + 1 => by
    have h := ovN_le St k
    unfold ovN
    split <;> omega

theorem nodeL_len (nm : ByteArray) (ns nt : Int) (nx : ByteArray) (h1 : nm.size ≤ 1048576) (h2 : nx.size ≤ 1048576) (h3 : -9223372036854775808 ≤ nt) (h4 : nt ≤ 9223372036854775807) : (nodeL nm ns nt nx).length ≤ 20000000 := by
  have a1 := quote_len nm
  have a2 := quote_len (mkB (standL ns))
  have a3 := quote_len nx
  have a4 := standL_len ns
  have a5 := itoa_le nt h3 h4
  rw [mkB_size] at a2
  unfold nodeL
  simp only [List.length_append, List.length_cons, List.length_nil]
  omega

theorem nodesL_len (f : Nat → List UInt8) (N : Nat) (hf : ∀ i, i < N → (f i).length ≤ 20000000) : ∀ k, k ≤ N → (nodesL f k).length ≤ k * 20000001
  | 0, _ => by simp [nodesL]
  | k + 1, hk => by
    have h1 := nodesL_len f N hf k (by omega)
    have h2 := hf k (by omega)
    unfold nodesL
    simp only [List.length_append]
    have h3 : (if k = 0 then ([] : List UInt8) else [44]).length ≤ 1 := by split <;> simp
    omega

def stateL (id df : ByteArray) (st : Int) (tx : ByteArray) (ev : Int) (n ln : Nat) (Nm : Nat → ByteArray) (St Tr : Nat → Int) (Tx : Nat → ByteArray) : List UInt8 :=
  headL id df st tx ev (ovN St ln : Nat) ((ln : Int) - (ovN St ln : Nat)) ++ nodesL (fun i => nodeL (Nm i) (St i) (Tr i) (Tx i)) n ++ [93, 125]

/-- What has been written, and the first k of the nodes. -/
def accL (p : List UInt8) (f : Nat → List UInt8) (k : Nat) : List UInt8 := p ++ nodesL f k

theorem accL_next (p : List UInt8) (f : Nat → List UInt8) (k : Nat) : accL p f (k + 1) = accL p f k ++ (if k = 0 then [] else [44]) ++ f k := by
  show p ++ (nodesL f k ++ _ ++ f k) = p ++ nodesL f k ++ _ ++ f k
  simp only [List.append_assoc]

theorem cellKept3 {w w' : World} (K : Kept (fun _ => False) w w') {b o : Nat} {v : Value} (h : w.cell? ⟨b, o, none⟩ = some v) : w'.cell? ⟨b, o, none⟩ = some v :=
  (World.cell?_of_block (K.block b (World.block_lt_of_cell? w _ h) (fun h => h))).trans h

/-- The nodes' names that are handed in. -/
def NmsIn (w : World) (a : Option Addr) (len : Nat) (Nm : Nat → ByteArray) : Prop := len = 0 ∨ ∃ b o, a = some ⟨b, o, none⟩ ∧ ∀ i, i < len → w.cell? ⟨b, o + i * 7, none⟩ = some (.string (Nm i)) ∧ (Nm i).size ≤ 1048576

/-- The nodes' states that are handed in. -/
def NdsIn (w : World) (a : Option Addr) (len : Nat) (St Tr : Nat → Int) (Tx : Nat → ByteArray) : Prop := len = 0 ∨ ∃ b o, a = some ⟨b, o, none⟩ ∧ ∀ i, i < len →
  (w.cell? ⟨b, o + i * 3, none⟩ = some (.int .i64 (St i)) ∧ w.cell? ⟨b, o + i * 3 + 1, none⟩ = some (.int .i64 (Tr i)) ∧ w.cell? ⟨b, o + i * 3 + 2, none⟩ = some (.string (Tx i))) ∧ (Tx i).size ≤ 1048576 ∧ -9223372036854775808 ≤ Tr i ∧ Tr i ≤ 9223372036854775807

theorem NmsIn.kept {w w' : World} {a : Option Addr} {len : Nat} {Nm : Nat → ByteArray} (h : NmsIn w a len Nm) (K : Kept (fun _ => False) w w') : NmsIn w' a len Nm := by
  rcases h with h0 | ⟨b, o, rfl, hc⟩
  · exact .inl h0
  · exact .inr ⟨b, o, rfl, fun i hi => ⟨cellKept3 K (hc i hi).1, (hc i hi).2⟩⟩

theorem NdsIn.kept {w w' : World} {a : Option Addr} {len : Nat} {St Tr : Nat → Int} {Tx : Nat → ByteArray} (h : NdsIn w a len St Tr Tx) (K : Kept (fun _ => False) w w') : NdsIn w' a len St Tr Tx := by
  rcases h with h0 | ⟨b, o, rfl, hc⟩
  · exact .inl h0
  · exact .inr ⟨b, o, rfl, fun i hi => ⟨⟨cellKept3 K (hc i hi).1.1, cellKept3 K (hc i hi).1.2.1, cellKept3 K (hc i hi).1.2.2⟩, (hc i hi).2⟩⟩

end Go.Proofs.YtdbplemcjnlfiaaGreatDoor
