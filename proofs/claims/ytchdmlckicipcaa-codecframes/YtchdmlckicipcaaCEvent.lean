/-
  The codec's Event.
-/
import Derived.Test.YtchdmlckicipcaaCWrMore
namespace Go.Proofs.Ytchdmlckicipcaa
open Go.RowKit

def wrEvent (k : Int) (nd tx : ByteArray) (nm : Int) : Option (List Int) := put (put (put (wrNum 1 15 k) (wrText nd)) (wrText tx)) (wrSig nm)

/-- What was laid into a block of one's own stands. -/
theorem box_cells {w w' : World} {cs : Array Value} {t : TypeId} {S : Nat → Prop} (K : Kept S (w.alloc (.cells cs t)) w') (hS : ¬ S w.heap.size) (j : Nat) (u : Value) (hu : cs[j]? = some u) : w'.cell? ⟨w.heap.size, j, none⟩ = some u := by
  have hb := K.block w.heap.size (by simp) hS
  rw [heap_alloc_new] at hb
  simp [World.cell?, hb, hu]

set_option maxRecDepth 100000 in
set_option maxHeartbeats 400000 in
theorem event_any (w : World) (k : Int) (nd tx : ByteArray) (nm : Int) (hnd : nd.size ≤ 140737488355328) (htx : tx.size ≤ 140737488355328) (hnm : isI64 nm) :
    Calls Try.prog 21 #[.agg #[.int .i64 k, .string nd, .string tx, .int .i64 nm]] w fun e w' => ∃ a l c er, e = .returned (.tuple #[.slice a l c, .int .i64 er]) ∧ Ans w' w.heap.size (wrEvent k nd tx nm) a l c er ∧ Kept (fun _ => False) w w' := by
  have hcs : ∀ (w' : World), Kept (fun k => w.heap.size + 1 ≤ k) (w.alloc (.cells #[.int .i64 k, .string nd, .string tx, .int .i64 nm] 47)) w' →
      w'.cell? ⟨w.heap.size, 1, none⟩ = some (.string nd) ∧ w'.cell? ⟨w.heap.size, 2, none⟩ = some (.string tx) ∧ w'.cell? ⟨w.heap.size, 3, none⟩ = some (.int .i64 nm) := fun w' K =>
    ⟨box_cells K (by omega) 1 _ rfl, box_cells K (by omega) 2 _ rfl, box_cells K (by omega) 3 _ rfl⟩
  have hW := WIn.new (w.alloc (.cells #[.int .i64 k, .string nd, .string tx, .int .i64 nm] 47)) 52
  have hsz : (w.alloc (.cells #[.int .i64 k, .string nd, .string tx, .int .i64 nm] 47)).heap.size = w.heap.size + 1 := by simp
  rw [hsz] at hW
  have HE : Hid (wrEvent k nd tx nm = put (put (put (put (some []) (wrNum 1 15 k)) (wrText nd)) (wrText tx)) (wrSig nm)) := by rw [some_put]; rfl
  have hN := wnum_any hW k 1 15 (by decide) (by decide) (by decide)
  generalize put (some []) (wrNum 1 15 k) = s1 at *
  have K0 : Kept (fun k => w.heap.size + 1 ≤ k) (w.alloc (.cells #[.int .i64 k, .string nd, .string tx, .int .i64 nm] 47)) ((w.alloc (.cells #[.int .i64 k, .string nd, .string tx, .int .i64 nm] 47)).alloc (.cells #[.slice none 0 0, .bool false] 52)) := Kept.alloc _ _ _
  clear hW
  go_enter Try.func21, Try.ntmps21
  go_wp2_with (first
    | (go_at_call 23; refine hN.mono ?_; rintro e w1 ⟨rfl, I1, K1⟩; have K01 := K0.and K1.k; obtain ⟨c1, c2, c3⟩ := hcs _ K01; clear hN K0 K1)
    | (go_at_call 24; have _t := I1; refine (wtext_any I1 nd hnd (by decide)).mono ?_; rintro e w2 ⟨rfl, I2, K2⟩; have K02 := K01.and K2.k; obtain ⟨d1, d2, d3⟩ := hcs _ K02; clear I1 K01 K2 c1 c2 c3)
    | (go_at_call 24; refine (wtext_any I2 tx htx (by decide)).mono ?_; rintro e w3 ⟨rfl, I3, K3⟩; have K03 := K02.and K3.k; obtain ⟨e1, e2, e3⟩ := hcs _ K03; clear I2 K02 K3 d1 d2 d3)
    | (go_at_call 25; refine (wsigned_any I3 nm hnm (by decide)).mono ?_; rintro e w4 ⟨rfl, I4, K4⟩; have K04 := K03.and K4.k; clear I3 K03 K4)
    | (go_at_call 26; refine (wanswer_any I4).mono ?_; rintro e w5 ⟨a, l, c, er, rfl, hA, hw⟩; subst hw)
    | fail)
  go_ret2
  rw [HE.out]
  exact ⟨a, l, c, er, rfl, hA.mono (by omega), (Kept.alloc _ w _).trans K04 (fun k h => .inr (by omega))⟩

end Go.Proofs.Ytchdmlckicipcaa
