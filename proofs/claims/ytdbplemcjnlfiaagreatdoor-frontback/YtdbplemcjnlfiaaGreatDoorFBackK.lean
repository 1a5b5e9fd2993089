/-
  FrontBack: what its walk needs: texts put behind each other, the fields that are wanted, the box of a field.
-/
import Derived.Test.YtdbplemcjnlfiaaGreatDoorFBackV
import Derived.Test.YtdbplemcjnlfiaaGreatDoorFPrSame
import Derived.Test.YtdbplemcjnlfiaaGreatDoorFQuoW
import Derived.Test.YtdbplemcjnlfiaaGreatDoorFObj
namespace Go.Proofs.YtdbplemcjnlfiaaGreatDoor
open Go.ChangeShapes Go.WideShapes Go.ChangeAt Go.RowKit Go.Deep Go.Shelf

theorem cellKept2 {w w' : World} (K : Kept (fun _ => False) w w') {b o : Nat} {v : Value} (h : w.cell? ⟨b, o, none⟩ = some v) : w'.cell? ⟨b, o, none⟩ = some v :=
  (World.cell?_of_block (K.block b (World.block_lt_of_cell? w _ h) (fun h => h))).trans h

theorem mk_cat (a b : List UInt8) : mkB a ++ mkB b = mkB (a ++ b) := by
  apply ByteArray.ext
  rw [ByteArray.data_append]
  show a.toArray ++ b.toArray = (a ++ b).toArray
  simp

theorem run_add (W : World) (a b : List UInt8) (h : a.length + b.length ≤ 1000000000000000) : (Op.stringOp .add (mkB a) (mkB b)).run Tryz.prog W = .ok (.string (mkB (a ++ b))) W := by
  unfold Op.stringOp
  dsimp only
  rw [if_neg (by rw [mkB_size, mkB_size]; simp [IntKind.max, IntKind.signed, IntKind.bits]; omega), mk_cat]
  rfl

theorem ext_one (s : ByteArray) {j : Nat} (h : j < s.size) : s.extract j (j + 1) = mkB [s[j]'h] := by
  refine ByteArray.ext (Array.ext' ?_)
  have h2 := sub_extract s j (j + 1)
  show (s.extract j (j + 1)).data.toList = [s[j]'h]
  rw [← h2]
  show subL s j (j + 1) = [s[j]'h]
  unfold subL
  rw [show j + 1 - j = 1 by omega, drop_next s h]
  rfl

theorem blank_num (b : UInt8) : blankB b = true ↔ (((b.toNat : Nat) : Int) = 32 ∨ ((b.toNat : Nat) : Int) = 9 ∨ ((b.toNat : Nat) : Int) = 10 ∨ ((b.toNat : Nat) : Int) = 13) := by
  have h : ∀ k : Fin 256, blankB (UInt8.ofNat k.1) = true ↔ (((k.1 : Nat) : Int) = 32 ∨ ((k.1 : Nat) : Int) = 9 ∨ ((k.1 : Nat) : Int) = 10 ∨ ((k.1 : Nat) : Int) = 13) := by decide +kernel
  have := h ⟨b.toNat, b.toNat_lt⟩
  simpa using this

theorem quoteF_len (s : ByteArray) : ∀ (n i : Nat), (quoteF s n i).length ≤ 6 * (s.size - i)
  | 0, i => by simp [quoteF]
  | n + 1, i => by
    by_cases h : i < s.size
    · rw [quoteF_more h, List.length_append]
      have h1 := piece_len s i h
      have h2 := quoteF_len s n (i + (Utf8.decode s i).2)
      have h3 := dec_pos s h
      omega
    · rw [quoteF_end h]; simp

theorem quoteP_len (s : ByteArray) : (quoteP s).length ≤ 6 * s.size + 2 := by
  unfold quoteP
  have h := quoteF_len s (s.size + 1) 0
  simp only [List.length_cons, List.length_append, List.length_nil]
  omega

def fdP (f : Fd) : Pr := (f.k, f.v)

/-- What the fields keep. -/
structure BInv (g : List UInt8) (fs : List Fd) : Prop where
  len : fs.length ≤ 10
  ok : ∀ f ∈ fs, f.ok
  apart : fs.Pairwise (fun a b => a.k ≠ b.k)
  size : (fldsL g fs).length ≤ fs.length * 2000

theorem BInv.nil (g : List UInt8) : BInv g [] := ⟨by simp, (fun f hf => by cases hf), List.Pairwise.nil, by simp [fldsL]⟩

/-- What stands ahead of the next field. -/
def sepL (g : List UInt8) (fs : List Fd) : List UInt8 := if fs = [] then [] else [44] ++ g

theorem fldsL_next (g : List UInt8) (fs : List Fd) (f : Fd) : fldsL g (fs ++ [f]) = fldsL g fs ++ sepL g fs ++ fldL g f := by
  unfold sepL
  by_cases h : fs = []
  · rw [if_pos h, h]; rfl
  · rw [if_neg h, fldsL_snoc g f fs h]; simp only [List.append_assoc]

theorem BInv.push {g : List UInt8} {fs : List Fd} {f : Fd} (B : BInv g fs) (hg : g.length ≤ 5) (h10 : fs.length < 10) (hf : f.ok) (hk : (fieldP (fs.map fdP) f.k).isSome = false) (hkl : f.k.length ≤ 100) (hvl : f.vt.length ≤ 700) : BInv g (fs ++ [f]) := by
  refine ⟨by simp; omega, fun x hx => ?_, ?_, ?_⟩
  · rcases List.mem_append.1 hx with hx | hx
    · exact B.ok x hx
    · simp only [List.mem_singleton] at hx; subst hx; exact hf
  · rw [List.pairwise_append]
    refine ⟨B.apart, List.pairwise_singleton _ _, fun a ha b hb => ?_⟩
    simp only [List.mem_singleton] at hb
    subst hb
    intro he
    unfold fieldP at hk
    rw [Option.isSome_map, Option.isSome_eq_false_iff, Option.isNone_iff_eq_none, List.find?_eq_none] at hk
    exact hk (fdP a) (List.mem_map.2 ⟨a, ha, rfl⟩) (by show ((fdP a).1 == b.k) = true; rw [beq_iff_eq]; exact he)
  · rw [fldsL_next]
    have h1 := B.size
    have h2 := quoteP_len (mkB f.k)
    rw [mkB_size] at h2
    have h3 : (sepL g fs).length ≤ 6 := by
      unfold sepL; split <;> simp <;> omega
    simp only [fldL, List.length_append, List.length_cons, List.length_nil]
    omega

/-- The box of a field. -/
def BxAt (w : World) (g : Nat) (k v : ByteArray) : Prop := w.heap[g]? = some (.cells #[.string k, .string v] 26 (0, 0))

theorem BxAt.lt {w : World} {g : Nat} {k v : ByteArray} (B : BxAt w g k v) : g < w.heap.size := (Array.getElem?_eq_some_iff.1 B).1

theorem BxAt.cells {w : World} {g : Nat} {k v : ByteArray} (B : BxAt w g k v) : w.cell? ⟨g, 0, none⟩ = some (.string k) ∧ w.cell? ⟨g, 1, none⟩ = some (.string v) := by
  unfold BxAt at B
  constructor <;> simp [World.cell?, B]

theorem BxAt.free {w : World} {g : Nat} {k v : ByteArray} (B : BxAt w g k v) (i : Nat) : w.frozen? ⟨g, i, none⟩ = false := by
  unfold BxAt at B
  simp [World.frozen?, B]

theorem BxAt.kept {w w' : World} {g : Nat} {k v : ByteArray} (B : BxAt w g k v) (K : Kept (fun _ => False) w w') : BxAt w' g k v := by
  have hlt := B.lt
  unfold BxAt at *
  rw [K.block g hlt (fun h => h)]
  exact B

theorem BxAt.set {w : World} {g : Nat} {k v : ByteArray} (B : BxAt w g k v) (v2 : ByteArray) : BxAt (w.setCell ⟨g, 1, none⟩ (.string v2)) g k v2 := by
  unfold BxAt at B ⊢
  simp [World.setCell, Array.getElem?_modify, B]

/-- What has been written, as one list. -/
def bodyL (g : List UInt8) (fs : List Fd) : List UInt8 := g ++ [123] ++ g ++ fldsL g fs

theorem run_cat (a b : List UInt8) (h : a.length + b.length ≤ 1000000000000000) : ∃ c, Hid (c = a ++ b) ∧ ∀ W, (Op.stringOp .add (mkB a) (mkB b)).run Tryz.prog W = .ok (.string (mkB c)) W :=
  ⟨a ++ b, hid rfl, fun W => run_add W a b h⟩

theorem LSt.row {w W : World} {av : Option Addr} {m cv : Nat} {ps : List Pr} (S : LSt w W (.slice av m cv) ps) : W.ownsRow w.heap.size 26 2 (.slice av m cv) m (prF ps) ∧ Kept (fun _ => False) w W := by
  obtain ⟨a, c, hv, hr, K⟩ := S
  simp only [Value.slice.injEq] at hv
  obtain ⟨rfl, rfl, rfl⟩ := hv
  exact ⟨hr, K⟩

/-- A cell of a new box is set: the list stays. -/
theorem LSt.boxed {w W : World} {av : Option Addr} {m cv : Nat} {ps : List Pr} {bx : Nat} (S : LSt w W (.slice av m cv) ps) (hbx : w.heap.size ≤ bx) (hg : ∀ g, (Value.slice av m cv).ownBlock = some g → g < bx) (x : Value) : LSt w (W.setCell ⟨bx, 1, none⟩ x) (.slice av m cv) ps := by
  obtain ⟨a, c, hv, hr, K⟩ := S
  simp only [Value.slice.injEq] at hv
  obtain ⟨rfl, rfl, rfl⟩ := hv
  have KS : Kept (fun j => j = bx) W (W.setCell ⟨bx, 1, none⟩ x) := Kept.setCell _ _ _ rfl
  exact ⟨_, _, rfl, ownsRow_keep hr (fun g hg' => KS.block g (ownsRow_blk hr hg') (fun h => by have := hg g hg'; omega)), K.trans KS (fun i h => .inr (by subst h; exact hbx))⟩

theorem LSt.push2 {w W w3 : World} {a a3 : Option Addr} {m c c3 : Nat} {ps : List Pr} {p : Pr} {o : Obj} (hm : ps.length = m) (K : Kept (fun _ => False) w W) (hr : W.ownsRow w.heap.size 26 2 (.slice a m c) m (prF ps)) (ho : w3.ownsRow w.heap.size 26 2 (.slice a3 (m + 1) c3) (m + 1) (prF ps ++ prC p)) (hg : (W.alloc o).grownBy w3 (Value.slice a m c).ownBlock) : LSt w w3 (.slice a3 (m + 1) c3) (ps ++ [p]) := by
  subst hm
  exact LSt.push K hr ho hg

theorem itoa_len {n : Int} (h0 : -1000000000000000 < n) (h1 : n < 1000000000000000) : (Lib.itoa n).length ≤ 17 := by
  unfold Lib.itoa
  have h := digs_le 15 n.natAbs (by omega)
  have h2 := digs_le 15 n.toNat (by omega)
  split
  · rw [List.length_cons]; omega
  · omega

theorem prs_len {H : Type} {enc : TypeId × Value → H} {W : World} {base : Nat} {held : Bool} {fuel : Nat} {a : Option Addr} {len cap : Nat} {x : DataW H × List MemPlace} (hf : DataW.trod enc Tryz.prog W base (fun _ => true) held fuel 22 [.slice a len cap] = some x) : len ≤ 9223372036854775807 := by
  rcases Deep.open_slice Tryz.underlying22 hf with ⟨hcs, hx⟩ | ⟨a', len', cap', m, n, D, Pl, hcs, hb, hl, hm, _⟩
  · simp only [List.cons.injEq, and_true, Value.slice.injEq] at hcs
    omega
  · simp only [List.cons.injEq, and_true, Value.slice.injEq] at hcs
    unfold maxLen at hm
    omega

end Go.Proofs.YtdbplemcjnlfiaaGreatDoor
