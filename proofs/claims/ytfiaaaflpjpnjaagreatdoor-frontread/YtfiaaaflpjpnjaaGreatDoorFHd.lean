/-
  readHead: any head, read.
-/
import Derived.Test.YtfiaaaflpjpnjaaGreatDoorFHdP
import Derived.Deep.LoopGhost
import Derived.Deep.CutRange
namespace Go.Proofs.YtfiaaaflpjpnjaaGreatDoor
open Go.RowKit

def clenL : List UInt8 := [99, 111, 110, 116, 101, 110, 116, 45, 108, 101, 110, 103, 116, 104]

/-- A header's line: none: it is none; some none: another header; a content-length's value. -/
def lineR (l : List UInt8) : Option (Option (List UInt8)) :=
  if (Lib.cut l [58]).2.2 = false then none
  else if allP nmB (Lib.cut l [58]).1 = false then none
  else if (Lib.cut l [58]).2.1 ≠ [] ∧ allP valB (Lib.cut l [58]).2.1 = false then none
  else if Lib.equalFold (Lib.cut l [58]).1 clenL = false then some none
  else some (some (Lib.cut l [58]).2.1)

/-- The lines behind the first. -/
def hdF : List ByteArray → Bool → Nat → Option Nat
  | [], _, n => some n
  | l :: r, said, n => match lineR l.data.toList with
    | none => none
    | some none => hdF r said n
    | some (some v) => match lenP (Lib.trimB v 32) with
      | none => none
      | some x => if said then none else hdF r true x

def linesP (s : ByteArray) : List ByteArray := Lib.splitB ⟨#[13, 10]⟩ 0 (Lib.countB s ⟨#[13, 10]⟩) s
def wordsP (s : ByteArray) : List ByteArray := Lib.splitB ⟨#[32]⟩ 0 (Lib.countB s ⟨#[32]⟩) s

/-- The first line's words: are they right? -/
def goodW : List ByteArray → Bool
  | [m, p, v] => allP capB m.data.toList && pathP p.data.toList && (v.data.toList == [72, 84, 84, 80, 47, 49, 46, 49])
  | _ => false

def hdP (s : ByteArray) : Option (ByteArray × ByteArray × Nat) :=
  match linesP s with
  | [] => none
  | l0 :: r => match wordsP l0 with
    | [m, p, v] => if goodW [m, p, v] then (hdF r false 0).map (fun n => (m, p, n)) else none
    | _ => none

def hdV : Option (ByteArray × ByteArray × Nat) → Value
  | none => .tuple #[.agg #[.string ⟨#[]⟩, .string ⟨#[]⟩, .int .i64 0], .bool false]
  | some (m, p, n) => .tuple #[.agg #[.string m, .string p, .int .i64 (n : Int)], .bool true]

/-- Texts that lie somewhere. -/
def LsAt (w : World) (b : Nat) (ls : List ByteArray) : Prop := ∀ i (h : i < ls.length), w.cell? ⟨b, i, none⟩ = some (.string (ls[i]'h))

theorem cellKept6 {w w' : World} (K : Kept (fun _ => False) w w') {b o : Nat} {v : Value} (h : w.cell? ⟨b, o, none⟩ = some v) : w'.cell? ⟨b, o, none⟩ = some v :=
  (World.cell?_of_block (K.block b (World.block_lt_of_cell? w _ h) (fun h => h))).trans h

theorem LsAt.kept {w w' : World} {b : Nat} {ls : List ByteArray} (h : LsAt w b ls) (K : Kept (fun _ => False) w w') : LsAt w' b ls := fun i hi => cellKept6 K (h i hi)

theorem split_len (sep s : ByteArray) (h1 : 1 ≤ sep.size) : (Lib.splitB sep 0 (Lib.countB s sep) s).length = Lib.countB s sep + 1 := Lib.splitB_all sep h1 0 _ s rfl

theorem split_any (W : World) (s sep : ByteArray) (hs : s.size < 4294967281) (h1 : 1 ≤ sep.size) (M : MaxAt W) :
    Calls Tryz.prog 31 #[.string s, .string sep] W fun e w' => ∃ b, W.heap.size ≤ b ∧ e = .returned (.slice (some ⟨b, 0, none⟩) (Lib.splitB sep 0 (Lib.countB s sep) s).length (Lib.splitB sep 0 (Lib.countB s sep) s).length) ∧ LsAt w' b (Lib.splitB sep 0 (Lib.countB s sep) s) ∧ Kept (fun _ => False) W w' := by
  obtain ⟨m, hm⟩ := M
  refine (Any.strings_Split Tryz.splitL Tryz.info9 s sep m W hs hm h1).mono fun e w' ⟨he, hw⟩ => ⟨W.heap.size, Nat.le_refl _, by rw [he, split_len sep s h1], ?_, by rw [hw]; exact Kept.alloc _ _ _⟩
  subst hw
  intro i hi
  have hb := heap_alloc_new W (.cells ((Lib.splitB sep 0 (Lib.countB s sep) s).map Value.string).toArray (Tryz.splitL_ren.t 9))
  simp only [World.cell?, hb]
  simp [hi]

/-- The blocks of a head that is read. -/
structure HdG (w W : World) (r0 h0 lb : Nat) (x y : ByteArray) (z : Nat) (ls : List ByteArray) : Prop where
  b0 : W.heap[r0]? = some (.cells #[.string ⟨#[]⟩, .string ⟨#[]⟩, .int .i64 0] 35 (0, 0))
  b1 : W.heap[h0]? = some (.cells #[.string x, .string y, .int .i64 (z : Int)] 35 (0, 0))
  ln : LsAt W lb ls
  kept : Kept (fun _ => False) w W

section
variable {w W W' : World} {r0 h0 lb : Nat} {x y : ByteArray} {z : Nat} {ls : List ByteArray}

theorem HdG.call (S : HdG w W r0 h0 lb x y z ls) (K : Kept (fun _ => False) W W') : HdG w W' r0 h0 lb x y z ls := by
  have key : ∀ {k : Nat} {o : Obj}, W.heap[k]? = some o → W'.heap[k]? = some o := fun {k o} h => (K.block k (Array.getElem?_eq_some_iff.1 h).1 (fun h => h)).trans h
  exact ⟨key S.b0, key S.b1, S.ln.kept K, S.kept.and K⟩

theorem LsAt.other {k : Nat} (h : LsAt W lb ls) (K : Kept (fun j => j = k) W W') (hk : lb ≠ k) : LsAt W' lb ls := fun i hi =>
  (World.cell?_of_block (K.block lb (World.block_lt_of_cell? W _ (h i hi)) hk)).trans (h i hi)

theorem HdG.put (S : HdG w W r0 h0 lb x y z ls) (hr : w.heap.size ≤ h0) (h1 : r0 ≠ h0) (h2 : lb ≠ h0) (m' p' : ByteArray) : HdG w ((W.setCell ⟨h0, 0, none⟩ (.string m')).setCell ⟨h0, 1, none⟩ (.string p')).drew r0 h0 lb m' p' z ls := by
  have K : Kept (fun k => k = h0) W ((W.setCell ⟨h0, 0, none⟩ (.string m')).setCell ⟨h0, 1, none⟩ (.string p')).drew := ((Kept.setCell (S := fun k => k = h0) _ _ _ rfl).and (Kept.setCell _ _ _ rfl)).and (Kept.drew _ _)
  exact ⟨(K.block _ (Array.getElem?_eq_some_iff.1 S.b0).1 h1).trans S.b0, set_block (set_block S.b1 (.string m')) (.string p'), S.ln.other K h2, S.kept.trans K (fun i h => .inr (by omega))⟩

theorem HdG.len (S : HdG w W r0 h0 lb x y z ls) (hr : w.heap.size ≤ h0) (h1 : r0 ≠ h0) (h2 : lb ≠ h0) (n : Nat) : HdG w (W.setCell ⟨h0, 2, none⟩ (.int .i64 (n : Int))) r0 h0 lb x y n ls := by
  have K : Kept (fun k => k = h0) W (W.setCell ⟨h0, 2, none⟩ (.int .i64 (n : Int))) := Kept.setCell _ _ _ rfl
  exact ⟨(K.block _ (Array.getElem?_eq_some_iff.1 S.b0).1 h1).trans S.b0, set_block S.b1 (.int .i64 (n : Int)), S.ln.other K h2, S.kept.trans K (fun i h => .inr (by omega))⟩

theorem HdG.answer (S : HdG w W r0 h0 lb x y z ls) (hr : w.heap.size ≤ r0) (a b : ByteArray) (c : Int) : (((W.setCell ⟨r0, 0, none⟩ (.string a)).setCell ⟨r0, 1, none⟩ (.string b)).setCell ⟨r0, 2, none⟩ (.int .i64 c)).heap[r0]? = some (.cells #[.string a, .string b, .int .i64 c] 35 (0, 0)) ∧ Kept (fun _ => False) w (((W.setCell ⟨r0, 0, none⟩ (.string a)).setCell ⟨r0, 1, none⟩ (.string b)).setCell ⟨r0, 2, none⟩ (.int .i64 c)) := by
  refine ⟨set_block (set_block (set_block S.b0 (.string a)) (.string b)) (.int .i64 c), ?_⟩
  have K : Kept (fun k => k = r0) W (((W.setCell ⟨r0, 0, none⟩ (.string a)).setCell ⟨r0, 1, none⟩ (.string b)).setCell ⟨r0, 2, none⟩ (.int .i64 c)) := ((Kept.setCell (S := fun k => k = r0) _ _ _ rfl).and (Kept.setCell _ _ _ rfl)).and (Kept.setCell _ _ _ rfl)
  exact S.kept.trans K (fun i h => .inr (by omega))

end

theorem cut_any (W : World) (s : ByteArray) (hs : s.size < 4294967281) (M : MaxAt W) : Calls Tryz.prog 35 #[.string s, .string ⟨#[58]⟩] W fun e w' => e = .returned (.tuple #[.string (mkB (Lib.cut s.data.toList [58]).1), .string (mkB (Lib.cut s.data.toList [58]).2.1), .bool (Lib.cut s.data.toList [58]).2.2]) ∧ Kept (fun _ => False) W w' := by
  obtain ⟨m, hm⟩ := M
  exact (Any.strings_Cut Tryz.cutL s ⟨#[58]⟩ m W hs hm).mono fun e w' ⟨he, n, hw⟩ => ⟨he, by rw [hw]; exact Kept.drewN' _ _⟩

theorem cut_len (l : List UInt8) : (Lib.cut l [58]).1.length ≤ l.length ∧ (Lib.cut l [58]).2.1.length ≤ l.length := by
  unfold Lib.cut
  split
  · simp only [List.length_take, List.length_drop]
    omega
  · simp

theorem fold_any (W : World) (l : List UInt8) (hl : l.length ≤ 1000000) (h : allP nmB l = true) : Calls Tryz.prog 38 #[.string (mkB l), .string ⟨#[99, 111, 110, 116, 101, 110, 116, 45, 108, 101, 110, 103, 116, 104]⟩] W fun e w' => e = .returned (.bool (Lib.equalFold l clenL)) ∧ w' = W := by
  refine Any.strings_EqualFold Tryz.foldL (mkB l) ⟨#[99, 111, 110, 116, 101, 110, 116, 45, 108, 101, 110, 103, 116, 104]⟩ W (by rw [mkB_size]; omega) (fun j b hb => ?_) (ascii_of (by decide +kernel))
  have hm : b ∈ l := List.mem_of_getElem? hb
  unfold allP at h
  simp only [Bool.and_eq_true, List.all_eq_true] at h
  have h2 := h.1 b hm
  unfold nmB capB smallB isDig at h2
  simp only [Bool.or_eq_true, Bool.and_eq_true, decide_eq_true_eq, beq_iff_eq] at h2
  rcases h2 with ((h2 | h2) | h2) | h2
  · omega
  · omega
  · omega
  · rw [h2]; decide

theorem trim_any (W : World) (l : List UInt8) (hl : l.length ≤ 1000000) : Calls Tryz.prog 40 #[.string (mkB l), .string ⟨#[32]⟩] W fun e w' => e = .returned (.string (mkB (Lib.trimB l 32))) ∧ Kept (fun _ => False) W w' := by
  refine (Any.strings_Trim_one Tryz.trimL (mkB l) 32 (by decide) W (by rw [mkB_size]; omega)).mono fun e w' ⟨he, hw⟩ => ⟨he, ?_⟩
  rcases hw with rfl | rfl
  · exact Kept.refl _ _
  · exact Kept.drew _ _

end Go.Proofs.YtfiaaaflpjpnjaaGreatDoor
