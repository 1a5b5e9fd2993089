/-
  The reader: a node's line.
-/
import Derived.Test.YtoonnbagppliaaaDoorDCopy
namespace Go.Proofs.YtoonnbagppliaaaDoor
open Go.RowKit

def actB : ByteArray := ⟨#[97, 99, 116, 105, 118, 105, 116, 121]⟩
def timB : ByteArray := ⟨#[116, 105, 109, 101, 114]⟩
def chiB : ByteArray := ⟨#[99, 104, 105, 108, 100]⟩
def waiB : ByteArray := ⟨#[119, 97, 105, 116]⟩
def senB : ByteArray := ⟨#[115, 101, 110, 100]⟩
def triB : ByteArray := ⟨#[116, 114, 105, 101, 115]⟩
def tmoB : ByteArray := ⟨#[116, 105, 109, 101, 111, 117, 116]⟩
def aftB : ByteArray := ⟨#[97, 102, 116, 101, 114]⟩

/-- What stands behind a node's kind: kind, Arg, To, Delay, Tries. -/
def rKind (x : ByteArray) (r : RS) : (Int × ByteArray × ByteArray × Int × Int) × RS :=
  if x = actB then
    let a := rName r
    let t := rTake triB a.2
    let n := if t.1 then rNum t.2 else (1, t.2)
    let u := rTake tmoB n.2
    let m := if u.1 then rNum u.2 else (0, u.2)
    ((1, a.1, ⟨#[]⟩, m.1, n.1), m.2)
  else if x = timB then ((2, ⟨#[]⟩, ⟨#[]⟩, (rNum r).1, 0), (rNum r).2)
  else if x = chiB then ((3, (rName r).1, ⟨#[]⟩, 0, 0), (rName r).2)
  else if x = waiB then ((4, (rName r).1, ⟨#[]⟩, 0, 0), (rName r).2)
  else if x = senB then ((5, (rName (rFlow r).2).1, (rFlow r).1, 0, 0), (rName (rFlow r).2).2)
  else ((0, ⟨#[]⟩, ⟨#[]⟩, 0, 0), (r.1, true))

def rTail (r : RS) : List ByteArray × RS :=
  if (rTake aftB r).1 then ((rNames (rTake aftB r).2).1, rEnd (rNames (rTake aftB r).2).2) else ([], rEnd (rTake aftB r).2)

def ndOf (x : ByteArray) (k : Int × ByteArray × ByteArray × Int × Int) (l : List ByteArray) : Nd := ⟨x, k.1, k.2.1, k.2.2.1, k.2.2.2.1, k.2.2.2.2, l⟩

def rNode (r : RS) : Nd × RS :=
  (ndOf (rName r).1 (rKind (rWord (rName r).2).1 (rWord (rName r).2).2).1 (rTail (rKind (rWord (rName r).2).1 (rWord (rName r).2).2).2).1, (rTail (rKind (rWord (rName r).2).1 (rWord (rName r).2).2).2).2)

theorem rWord_len (r : RS) : (rWord r).2.1.length ≤ r.1.length := by
  obtain ⟨ws, b⟩ := r
  cases ws <;> simp [rWord]
theorem rName_len (r : RS) : (rName r).2.1.length ≤ r.1.length := rWord_len r
theorem rFlow_len (r : RS) : (rFlow r).2.1.length ≤ r.1.length := rWord_len r
theorem rTake_len (s : ByteArray) (r : RS) : (rTake s r).2.1.length ≤ r.1.length := by
  obtain ⟨ws, b⟩ := r
  cases ws with
  | nil => simp [rTake]
  | cons x t => unfold rTake; simp only []; split <;> simp
theorem rNum_len (r : RS) : (rNum r).2.1.length ≤ r.1.length := by
  unfold rNum
  split
  · exact rWord_len r
  · exact rWord_len r

theorem nodeKept {w w' : World} {rb b : Nat} {o : Obj} (K : Kept (fun j => j = rb) w w') (h : w.heap[b]? = some o) (hne : b ≠ rb) : w'.heap[b]? = some o :=
  (K.block b (Array.getElem?_eq_some_iff.1 h).1 hne).trans h

def NodePost (w : World) (B rb : Nat) (p : Nd × RS) (e : Ending) (w' : World) : Prop :=
  ∃ a c, e = .returned (.agg #[.string p.1.name, .int .i64 p.1.kind, .string p.1.arg, .string p.1.to, .int .i64 p.1.delay, .int .i64 p.1.tries, .slice a p.1.after.length c]) ∧
    w'.ownsRow w.heap.size 9 1 (.slice a p.1.after.length c) p.1.after.length (strsV p.1.after) ∧ RdAt w' B rb p.2 ∧ Kept (fun j => j = rb) w w'

/-- The end of node: the result is laid into its block. -/
theorem node_end {w w3 : World} {B rb : Nat} {p : Nd × RS} {u0 u1 u2 u3 u4 u5 u6 : Value} {a : Option Addr} {c : Nat} (hR : w3.heap[w.heap.size]? = some (.cells #[u0, u1, u2, u3, u4, u5, u6] 34 (0, 0)))
    (ho : w3.ownsRow (w.heap.size + 1) 9 1 (.slice a p.1.after.length c) p.1.after.length (strsV p.1.after)) (R : RdAt w3 B rb p.2) (hB : B ≤ w.heap.size) (K : Kept (fun j => j = rb ∨ w.heap.size ≤ j) w w3) {V : World}
    (hV : V = (((((((w3.setCell ⟨w.heap.size, 0, none⟩ (.string p.1.name)).setCell ⟨w.heap.size, 1, none⟩ (.int .i64 p.1.kind)).setCell ⟨w.heap.size, 2, none⟩ (.string p.1.arg)).setCell ⟨w.heap.size, 3, none⟩ (.string p.1.to)).setCell ⟨w.heap.size, 4, none⟩ (.int .i64 p.1.delay)).setCell ⟨w.heap.size, 5, none⟩ (.int .i64 p.1.tries)).setCell ⟨w.heap.size, 6, none⟩ (.slice a p.1.after.length c))) : V.heap[w.heap.size]? = some (.cells #[.string p.1.name, .int .i64 p.1.kind, .string p.1.arg, .string p.1.to, .int .i64 p.1.delay, .int .i64 p.1.tries, .slice a p.1.after.length c] 34 (0, 0)) ∧
      NodePost w B rb p (.returned (.agg #[.string p.1.name, .int .i64 p.1.kind, .string p.1.arg, .string p.1.to, .int .i64 p.1.delay, .int .i64 p.1.tries, .slice a p.1.after.length c])) V := by
  subst hV
  have k := kept7 (S := fun j => j = w.heap.size) w3 (b := w.heap.size) rfl (.string p.1.name) (.int .i64 p.1.kind) (.string p.1.arg) (.string p.1.to) (.int .i64 p.1.delay) (.int .i64 p.1.tries) (.slice a p.1.after.length c)
  refine ⟨put7 hR _ _ _ _ _ _ _, a, c, rfl, ?_, R.kept k (fun j hj => by omega), ?_⟩
  · refine ⟨ho.1, ?_⟩
    have h2 := ownsRow_keep ho (fun g hg => k.block g (ownsRow_blk ho hg) (by have := (ho.lt g hg).1; omega))
    rcases h2.2 with h0 | ⟨g, cap, cur, hv, hb, r⟩
    · exact .inl h0
    · exact .inr ⟨g, cap, cur, hv, by omega, r⟩
  · have k2 := K.and (k.mono (S' := fun j => j = rb ∨ w.heap.size ≤ j) (fun j h => .inr (by have h' : j = w.heap.size := h; omega)))
    exact (Kept.refl (fun j => j = rb) w).trans k2 (fun i h => h)

theorem ownsRow_lowS {w : World} {B B' e size : Nat} {v : Value} {n : Nat} {xs : List Value} (h : w.ownsRow B e size v n xs) (hB : B' ≤ B) : w.ownsRow B' e size v n xs := by
  refine ⟨h.1, ?_⟩
  rcases h.2 with h0 | ⟨g, cap, cur, hv, hb, r⟩
  · exact .inl h0
  · exact .inr ⟨g, cap, cur, hv, Nat.le_trans hB hb, r⟩

end Go.Proofs.YtoonnbagppliaaaDoor
