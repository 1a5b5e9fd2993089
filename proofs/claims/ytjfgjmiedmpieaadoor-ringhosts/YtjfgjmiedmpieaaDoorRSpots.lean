/-
  The spots of a host: their texts, their points, the row of them; how two spots are held against each other.
-/
import Derived.Test.YtjfgjmiedmpieaaDoorRPoint
import Derived.Test.YtjfgjmiedmpieaaDoorRLay
import Derived.Test.YtjfgjmiedmpieaaDoorROrder
namespace Go.Proofs.YtjfgjmiedmpieaaDoor
open Go.RowKit

/-- A text out of its bytes. -/
def bs (l : List UInt8) : ByteArray := ⟨l.toArray⟩

theorem bs_size (l : List UInt8) : (bs l).size = l.length := by
  show l.toArray.size = l.length
  simp

theorem bs_list (l : List UInt8) : (bs l).data.toList = l := rfl

theorem bs_cat (a b : List UInt8) : bs a ++ bs b = bs (a ++ b) := by
  apply ByteArray.ext
  rw [ByteArray.data_append]
  show a.toArray ++ b.toArray = (a ++ b).toArray
  simp

theorem run_cat (W : World) (a b : List UInt8) (h : a.length + b.length ≤ 1000000) : (Op.stringOp .add (bs a) (bs b)).run Tryd.prog W = .ok (.string (bs (a ++ b))) W := by
  unfold Op.stringOp
  dsimp only
  rw [if_neg (by rw [bs_size, bs_size]; simp [IntKind.max, IntKind.signed, IntKind.bits]; omega), bs_cat]
  rfl

theorem dec_len (u : Nat) (h : u < 100) : (Lib.decDigits u).length ≤ 2 := by
  rw [Lib.decDigits]
  split
  · simp
  · rw [Lib.decDigits, dif_pos (by omega)]
    simp

theorem itoa_any (w : World) (i : Nat) (hi : i < 100) :
    Calls Tryd.prog 29 #[.int .i64 i] w fun e w' => e = .returned (.string (bs (Lib.decDigits i))) ∧ w' = w :=
  Any.strconv_Itoa_small Tryd.itoaL i hi w

theorem Tryd.info59 : (Tryd.prog.info? 59).map (fun i => (i.zero, i.size, i.bytes)) = some (some (.agg #[.complex .f64 0 0, .int .i64 0]), 2, 24) := by kernel_rfl

/-- A spot's two cells. -/
def encSp (x : Sp) : List Value := [cx x.1, .int .i64 x.2]
def spCells (l : List Sp) : List Value := l.flatMap encSp

theorem encSp_len (x : Sp) : (encSp x).length = 2 := rfl
theorem encSp_one (x : Sp) : ∀ v ∈ encSp x, v.oneCell' = true := by
  intro v hv
  simp [encSp] at hv
  rcases hv with rfl | rfl <;> rfl
theorem spCells_one (l : List Sp) : ∀ v ∈ spCells l, v.oneCell' = true := by
  intro v hv
  obtain ⟨x, _, hx⟩ := List.mem_flatMap.1 hv
  exact encSp_one x v hx
theorem spCells_append (a b : List Sp) : spCells (a ++ b) = spCells a ++ spCells b := by simp [spCells]
theorem spCells_len (l : List Sp) : (spCells l).length = l.length * 2 := by
  induction l with
  | nil => rfl
  | cons x r ih => show (encSp x ++ spCells r).length = _; rw [List.length_append, ih, encSp_len, List.length_cons]; omega

def hostText (h k : Nat) : List UInt8 := [104, 111, 115, 116, 47] ++ Lib.decDigits h ++ [47] ++ Lib.decDigits k
def hostPt (h k : Nat) : Pt := point (hostText h k)
/-- A host's spots. -/
def spotsL (h n : Nat) : List Sp := (List.range n).map fun k => (hostPt h k, (h : Int))

theorem spotsL_next (h k : Nat) : spotsL h (k + 1) = spotsL h k ++ [(hostPt h k, (h : Int))] := by
  unfold spotsL
  rw [List.range_succ, List.map_append]
  rfl

set_option maxRecDepth 100000 in
set_option maxHeartbeats 1000000 in
theorem spotsOf_any (w : World) (h n : Nat) (hh : h < 100) (hn : n ≤ 100) :
    Calls Tryd.prog 18 #[.int .i64 h, .int .i64 n] w fun e w' => ∃ a c, e = .returned (.slice a n c) ∧ w'.ownsRow w.heap.size 59 2 (.slice a n c) n (spCells (spotsL h n)) ∧ Kept (fun _ => False) w w' := by
  obtain ⟨i0, hi, hz0, hz1, hz2⟩ := info_parts Tryd.info59
  go_enter Tryd.func18, Tryd.ntmps18
  go_wp2
  go_loopw [5, 9] (fun v i wr => ∃ (k : Nat), k ≤ n ∧ i = .int .i64 k ∧ (∃ a c, v = .slice a k c ∧ wr.ownsRow w.heap.size 59 2 (.slice a k c) k (spCells (spotsL h k))) ∧ Kept (fun k => w.heap.size ≤ k) w wr) (fun _ i _ => n - (intOf i).toNat)
  case atStart => exact ⟨0, Nat.zero_le _, rfl, ⟨none, 0, rfl, rfl, .inl ⟨rfl, rfl⟩⟩, Kept.refl _ _⟩
  case round =>
    obtain ⟨k, hk, rfl, ⟨a, c, rfl, ho⟩, K⟩ := hrel
    have hb := K.size
    by_cases hlt : k < n
    · have r1 := itoa_any wr h hh
      have r2 := itoa_any wr k (by omega)
      have l1 := dec_len h hh
      have l2 := dec_len k (by omega)
      have c1 := fun W => run_cat W [104, 111, 115, 116, 47] (Lib.decDigits h) (by simp; omega)
      have c2 := fun W => run_cat W ([104, 111, 115, 116, 47] ++ Lib.decDigits h) [47] (by simp; omega)
      have c3 := fun W => run_cat W ([104, 111, 115, 116, 47] ++ Lib.decDigits h ++ [47]) (Lib.decDigits k) (by simp; omega)
      have r3 := point_any wr (bs (hostText h k)) (by rw [bs_size]; unfold hostText; simp; omega)
      rw [bs_list] at r3
      have hN : spCells (spotsL h (k + 1)) = spCells (spotsL h k) ++ encSp (hostPt h k, (h : Int)) := by rw [spotsL_next, spCells_append]; simp [spCells]
      have HN : Hid (spCells (spotsL h (k + 1)) = spCells (spotsL h k) ++ encSp (hostPt h k, (h : Int))) := hN
      clear hN
      change ∀ W, (Op.stringOp .add ⟨#[104, 111, 115, 116, 47]⟩ (bs (Lib.decDigits h))).run Tryd.prog W = _ at c1
      change ∀ W, (Op.stringOp .add (bs ([104, 111, 115, 116, 47] ++ Lib.decDigits h)) ⟨#[47]⟩).run Tryd.prog W = _ at c2
      change ∀ W, (Op.stringOp .add (bs ([104, 111, 115, 116, 47] ++ Lib.decDigits h ++ [47])) (bs (Lib.decDigits k))).run Tryd.prog W = .ok (.string (bs (hostText h k))) W at c3
      change Calls Tryd.prog 25 _ _ (fun e w' => e = .returned (cx (hostPt h k)) ∧ w' = wr) at r3
      generalize bs (hostText h k) = s4 at *
      generalize bs ([104, 111, 115, 116, 47] ++ Lib.decDigits h ++ [47]) = s3 at *
      generalize bs ([104, 111, 115, 116, 47] ++ Lib.decDigits h) = s2 at *
      generalize bs (Lib.decDigits h) = s1 at *
      generalize bs (Lib.decDigits k) = s5 at *
      have HC : Hid (∀ u ∈ encSp (hostPt h k, (h : Int)), u.oneCell' = true) := encSp_one _
      unfold encSp at HN HC
      simp only at HN HC
      generalize spCells (spotsL h k) = xs at *
      unfold cx at r3 HN HC
      generalize fl (hostPt h k).1 = p1 at *
      generalize fl (hostPt h k).2 = p2 at *
      have e0 : (k : Int) < (n : Int) := by omega
      clear l1 l2
      go_wp2_with (first
        | (go_at_call 29; have _t := r1; refine r1.mono ?_; rintro e w1 ⟨rfl, rfl⟩; clear r1)
        | (go_at_call 29; refine r2.mono ?_; rintro e w1 ⟨rfl, rfl⟩; clear r2)
        | (go_at_call 25; refine r3.mono ?_; rintro e w1 ⟨rfl, rfl⟩; clear r3)
        | (at_builtin; refine wpList_append_src _ rfl _ _ 54 rfl w.heap.size 59 i0 _ 2 24 Tryd.underlying54 hi hz0 hz1 hz2 rfl (by decide) (.slice a k c) k _ rfl (ho.alloc _) _ rfl 1 _ (.inl ⟨_, 1, rfl, rfl, World.news_of_block (heap_alloc_new _ _)⟩) HC.out (by unfold maxLen; omega) (by omega) (by simp; omega) ?_; intro a3 cap3 w3 ho3 hg3 _ hl3)
        | fail)
      go_roundw
      case rel => exact ⟨k + 1, by omega, by go_num, ⟨a3, cap3, rfl, by rw [HN.out]; exact ho3⟩, (K.and (Kept.alloc _ _ _)).and (Kept.grown hg3 (fun k e => (ho.lt k e).1))⟩
      case measure => simp [intOf]; omega
    · obtain rfl : k = n := by omega
      go_wp2
      go_ret
      exact ⟨a, c, rfl, ho, (Kept.refl (fun _ => False) w).trans K (fun i h => .inr h)⟩

end Go.Proofs.YtjfgjmiedmpieaaDoor
