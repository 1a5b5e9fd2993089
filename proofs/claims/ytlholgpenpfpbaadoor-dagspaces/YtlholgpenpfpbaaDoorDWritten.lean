/-
  The words of a node's line, as the program makes them.
-/
import Derived.Test.YtlholgpenpfpbaaDoorDTextR
import Derived.Test.YtlholgpenpfpbaaDoorDItoa
namespace Go.Proofs.YtlholgpenpfpbaaDoor
open Go.RowKit

/-- The words so far. -/
structure WrSt (w W : World) (C : Array Value) (v : Value) (k : Nat) (l : List ByteArray) : Prop where
  blk : W.heap[w.heap.size]? = some (.cells C 44 (0, 0))
  own : W.ownsRow (w.heap.size + 1) 9 1 v k (strsV l)
  kept : Kept (fun _ => False) w W

theorem WrSt.call {w W W' : World} {C : Array Value} {v : Value} {k : Nat} {l : List ByteArray} (S : WrSt w W C v k l) (K : Kept (fun _ => False) W W') : WrSt w W' C v k l :=
  ⟨(K.block _ (Array.getElem?_eq_some_iff.1 S.blk).1 (fun h => h)).trans S.blk, ownsRow_keep S.own (fun g hg => K.block g (ownsRow_blk S.own hg) (fun h => h)), S.kept.and K⟩

theorem WrSt.begun (w : World) (C : Array Value) (x : ByteArray) : WrSt w ((w.alloc (.cells C 44)).alloc (.cells #[.string x] 9)) C (.slice (some ⟨w.heap.size + 1, 0, none⟩) 1 1) 1 [x] := by
  have h := World.ownsRow_lit (base := w.heap.size + 1) (e := 9) (size := 1) (w.alloc (.cells C 44)) #[.string x] 1 (by rw [World.size_alloc]; exact Nat.le_refl _) (by simp [maxLen]) rfl
  rw [World.size_alloc] at h
  refine ⟨?_, h, (Kept.alloc _ _ _).and (Kept.alloc _ _ _)⟩
  rw [Below.heap_alloc _ _ _ (by rw [World.size_alloc]; omega)]
  exact heap_alloc_new _ _

theorem WrSt.more {w W w3 : World} {C : Array Value} {v v' : Value} {k k' : Nat} {l m : List ByteArray} {o : Obj} (S : WrSt w W C v k l) (ho : w3.ownsRow (w.heap.size + 1) 9 1 v' k' (strsV l ++ strsV m)) (hg : (W.alloc o).grownBy w3 v.ownBlock) : WrSt w w3 C v' k' (l ++ m) := by
  have K : Kept (fun g => w.heap.size + 1 ≤ g) W w3 := (Kept.alloc _ _ _).and (Kept.grown hg (fun g e => (S.own.lt g e).1))
  refine ⟨(K.block _ (Array.getElem?_eq_some_iff.1 S.blk).1 (by omega)).trans S.blk, ?_, S.kept.trans K (fun i h => .inr (by omega))⟩
  rw [show strsV (l ++ m) = strsV l ++ strsV m by simp [strsV]]
  exact ho

theorem WrSt.more0 {w W w3 : World} {C : Array Value} {v v' : Value} {k k' : Nat} {l m : List ByteArray} (S : WrSt w W C v k l) (ho : w3.ownsRow (w.heap.size + 1) 9 1 v' k' (strsV l ++ strsV m)) (hg : W.grownBy w3 v.ownBlock) : WrSt w w3 C v' k' (l ++ m) := by
  have K : Kept (fun g => w.heap.size + 1 ≤ g) W w3 := Kept.grown hg (fun g e => (S.own.lt g e).1)
  refine ⟨(K.block _ (Array.getElem?_eq_some_iff.1 S.blk).1 (by omega)).trans S.blk, ?_, S.kept.trans K (fun i h => .inr (by omega))⟩
  rw [show strsV (l ++ m) = strsV l ++ strsV m by simp [strsV]]
  exact ho

theorem heap_new3 (w : World) (a b o : Obj) : (((w.alloc a).alloc b).alloc o).heap[w.heap.size + 1 + 1]? = some o := by
  have h := heap_alloc_new ((w.alloc a).alloc b) o
  rw [World.size_alloc, World.size_alloc] at h
  exact h

theorem WrSt.top {w W : World} {C : Array Value} {v : Value} {k : Nat} {l : List ByteArray} (S : WrSt w W C v k l) : w.heap.size + 1 ≤ W.heap.size := (Array.getElem?_eq_some_iff.1 S.blk).1

def WrPost (w : World) (ws : List ByteArray) (e : Ending) (w' : World) : Prop := ∃ a c, e = .returned (.slice a ws.length c) ∧ w'.ownsRow w.heap.size 9 1 (.slice a ws.length c) ws.length (strsV ws) ∧ Kept (fun _ => False) w w'

theorem WrSt.post {w W : World} {C : Array Value} {a : Option Addr} {k c : Nat} {l : List ByteArray} (S : WrSt w W C (.slice a k c) k l) (hk : k = l.length) : WrPost w l (.returned (.slice a k c)) W := by
  subst hk
  exact ⟨a, c, rfl, ownsRow_lowS S.own (by omega), S.kept⟩

set_option maxRecDepth 100000 in
set_option maxHeartbeats 4000000 in
theorem wr1Att (w : World) (x0 x2 x3 : ByteArray) (x4 x5 : Int) (l : List ByteArray) (av : Option Addr) (cv : Nat) (hT : TextsAt w (.slice av l.length cv) l) (hl : l.length ≤ 1000000) (T10 : Pow10 w) (h4 : isI64 x4) (h5 : isI64 x5) (ht : x5 ≠ 1) (hd : x4 ≠ 0) (hn : 0 < l.length) :
    Calls Tryd.prog 29 #[.agg #[.string x0, .int .i64 1, .string x2, .string x3, .int .i64 x4, .int .i64 x5, .slice av l.length cv]] w (WrPost w ([x0, actB, x2, triB, itB x5, tmoB, itB x4, aftB] ++ l)) := by
  obtain ⟨i0, hi0, hz0, hz1, hz2⟩ := info_parts Tryd.info9
  obtain ⟨h4a, h4b⟩ := i64_bounds h4
  obtain ⟨h5a, h5b⟩ := i64_bounds h5
  have HT : Hid (TextsAt w (.slice av l.length cv) l) := hT
  have HP : Hid (Pow10 w) := T10
  have S : Hid (WrSt w ((w.alloc (.cells #[.string x0, .int .i64 1, .string x2, .string x3, .int .i64 x4, .int .i64 x5, .slice av l.length cv] 44)).alloc (.cells #[.string x0] 9)) #[.string x0, .int .i64 1, .string x2, .string x3, .int .i64 x4, .int .i64 x5, .slice av l.length cv] (.slice (some ⟨w.heap.size + 1, 0, none⟩) 1 1) 1 [x0]) := WrSt.begun w _ x0
  obtain ⟨⟨p0, p1, p2, p3, p4, p5, p6⟩, _⟩ := seven S.out.blk
  clear hT T10 h4 h5
  go_enter Tryd.func29, Tryd.ntmps29
  have e0 : (0 : Int) < (l.length : Int) := by omega
  clear hn
  have e1 : (x5 != 1) = true := by simp [ht]
  have e2 : (x4 != 0) = true := by simp [hd]
  clear ht hd
  go_wp2_with (first
    | (at_builtin; have ht := S.out.top; refine wpList_append_src _ rfl _ _ 22 rfl (w.heap.size + 1) 9 i0 _ 1 16 Tryd.underlying22 hi0 hz0 hz1 hz2 rfl (by decide) _ 1 _ rfl (S.out.own.alloc _) _ rfl 2 (strsV [actB, x2]) (.inl ⟨_, 2, rfl, rfl, World.news_of_block (heap_new3 _ _ _ _)⟩) (strsV_one _) (by unfold maxLen; omega) (by omega) (by rw [World.size_alloc]; omega) ?_; intro a3 c3 w3 ho hg _ _; have S2 : Hid (WrSt w w3 _ (.slice a3 3 c3) 3 [x0, actB, x2]) := S.out.more ho hg; clear S p0 p1 p2 p3 p4 p5 p6 ho hg; have S := S2; clear S2; obtain ⟨⟨p0, p1, p2, p3, p4, p5, p6⟩, _⟩ := seven S.out.blk)
    | (go_at_call 53; refine (itoa_any _ (HP.out.kept S.out.kept) x5 h5a h5b).mono ?_; rintro e wi ⟨rfl, Ki⟩; have S2 : Hid (WrSt w wi _ _ _ _) := S.out.call Ki; clear S p0 p1 p2 p3 p4 p5 p6 Ki; have S := S2; clear S2; obtain ⟨⟨p0, p1, p2, p3, p4, p5, p6⟩, _⟩ := seven S.out.blk)
    | (at_builtin; have ht := S.out.top; refine wpList_append_src _ rfl _ _ 22 rfl (w.heap.size + 1) 9 i0 _ 1 16 Tryd.underlying22 hi0 hz0 hz1 hz2 rfl (by decide) _ 3 _ rfl (S.out.own.alloc _) _ rfl 2 (strsV [triB, itB x5]) (.inl ⟨_, 2, rfl, rfl, World.news_of_block (heap_alloc_new _ _)⟩) (strsV_one _) (by unfold maxLen; omega) (by omega) (by rw [World.size_alloc]; omega) ?_; intro a5 c5 w5 ho hg _ _; have S2 : Hid (WrSt w w5 _ (.slice a5 5 c5) 5 [x0, actB, x2, triB, itB x5]) := S.out.more ho hg; clear S p0 p1 p2 p3 p4 p5 p6 ho hg; have S := S2; clear S2; obtain ⟨⟨p0, p1, p2, p3, p4, p5, p6⟩, _⟩ := seven S.out.blk)
    | (go_at_call 53; refine (itoa_any _ (HP.out.kept S.out.kept) x4 h4a h4b).mono ?_; rintro e wi ⟨rfl, Ki⟩; have S2 : Hid (WrSt w wi _ _ _ _) := S.out.call Ki; clear S p0 p1 p2 p3 p4 p5 p6 Ki; have S := S2; clear S2; obtain ⟨⟨p0, p1, p2, p3, p4, p5, p6⟩, _⟩ := seven S.out.blk)
    | (at_builtin; have ht := S.out.top; refine wpList_append_src _ rfl _ _ 22 rfl (w.heap.size + 1) 9 i0 _ 1 16 Tryd.underlying22 hi0 hz0 hz1 hz2 rfl (by decide) _ 5 _ rfl (S.out.own.alloc _) _ rfl 2 (strsV [tmoB, itB x4]) (.inl ⟨_, 2, rfl, rfl, World.news_of_block (heap_alloc_new _ _)⟩) (strsV_one _) (by unfold maxLen; omega) (by omega) (by rw [World.size_alloc]; omega) ?_; intro a7 c7 w7 ho hg _ _; have S2 : Hid (WrSt w w7 _ (.slice a7 7 c7) 7 [x0, actB, x2, triB, itB x5, tmoB, itB x4]) := S.out.more ho hg; clear S p0 p1 p2 p3 p4 p5 p6 ho hg; have S := S2; clear S2; obtain ⟨⟨p0, p1, p2, p3, p4, p5, p6⟩, _⟩ := seven S.out.blk)
    | (at_builtin; have ht := S.out.top; refine wpList_append_src _ rfl _ _ 22 rfl (w.heap.size + 1) 9 i0 _ 1 16 Tryd.underlying22 hi0 hz0 hz1 hz2 rfl (by decide) _ 7 _ rfl (S.out.own.alloc _) _ rfl 1 (strsV [aftB]) (.inl ⟨_, 1, rfl, rfl, World.news_of_block (heap_alloc_new _ _)⟩) (strsV_one _) (by unfold maxLen; omega) (by omega) (by rw [World.size_alloc]; omega) ?_; intro a8 c8 w8 ho hg _ _; have S2 : Hid (WrSt w w8 _ (.slice a8 8 c8) 8 [x0, actB, x2, triB, itB x5, tmoB, itB x4, aftB]) := S.out.more ho hg; clear S p0 p1 p2 p3 p4 p5 p6 ho hg; have S := S2; clear S2; obtain ⟨⟨p0, p1, p2, p3, p4, p5, p6⟩, _⟩ := seven S.out.blk)
    | (at_builtin; have ht := S.out.top; refine wpList_append_src _ rfl _ _ 22 rfl (w.heap.size + 1) 9 i0 _ 1 16 Tryd.underlying22 hi0 hz0 hz1 hz2 rfl (by decide) _ 8 _ rfl S.out.own _ rfl l.length (strsV l) (HT.out.kept S.out.kept (fun _ _ h => h)).src (strsV_one _) (by unfold maxLen; omega) (by omega) (by omega) ?_; intro az cz wz ho hg _ _; have S2 : Hid (WrSt w wz _ (.slice az (8 + l.length) cz) (8 + l.length) ([x0, actB, x2, triB, itB x5, tmoB, itB x4, aftB] ++ l)) := S.out.more0 ho hg; clear S p0 p1 p2 p3 p4 p5 p6 ho hg; have S := S2; clear S2)
    | fail)
  go_ret
  exact S.out.post (by simp; omega)

set_option maxRecDepth 100000 in
set_option maxHeartbeats 4000000 in
theorem wr1Atf (w : World) (x0 x2 x3 : ByteArray) (x4 x5 : Int) (l : List ByteArray) (av : Option Addr) (cv : Nat) (hT : TextsAt w (.slice av l.length cv) l) (hl : l.length ≤ 1000000) (T10 : Pow10 w) (h4 : isI64 x4) (h5 : isI64 x5) (ht : x5 ≠ 1) (hd : x4 = 0) (hn : 0 < l.length) :
    Calls Tryd.prog 29 #[.agg #[.string x0, .int .i64 1, .string x2, .string x3, .int .i64 x4, .int .i64 x5, .slice av l.length cv]] w (WrPost w ([x0, actB, x2, triB, itB x5, aftB] ++ l)) := by
  obtain ⟨i0, hi0, hz0, hz1, hz2⟩ := info_parts Tryd.info9
  obtain ⟨h4a, h4b⟩ := i64_bounds h4
  obtain ⟨h5a, h5b⟩ := i64_bounds h5
  have HT : Hid (TextsAt w (.slice av l.length cv) l) := hT
  have HP : Hid (Pow10 w) := T10
  have S : Hid (WrSt w ((w.alloc (.cells #[.string x0, .int .i64 1, .string x2, .string x3, .int .i64 x4, .int .i64 x5, .slice av l.length cv] 44)).alloc (.cells #[.string x0] 9)) #[.string x0, .int .i64 1, .string x2, .string x3, .int .i64 x4, .int .i64 x5, .slice av l.length cv] (.slice (some ⟨w.heap.size + 1, 0, none⟩) 1 1) 1 [x0]) := WrSt.begun w _ x0
  obtain ⟨⟨p0, p1, p2, p3, p4, p5, p6⟩, _⟩ := seven S.out.blk
  clear hT T10 h4 h5
  go_enter Tryd.func29, Tryd.ntmps29
  have e0 : (0 : Int) < (l.length : Int) := by omega
  clear hn
  have e1 : (x5 != 1) = true := by simp [ht]
  have e2 : (x4 != 0) = false := by simp [hd]
  clear ht hd
  go_wp2_with (first
    | (at_builtin; have ht := S.out.top; refine wpList_append_src _ rfl _ _ 22 rfl (w.heap.size + 1) 9 i0 _ 1 16 Tryd.underlying22 hi0 hz0 hz1 hz2 rfl (by decide) _ 1 _ rfl (S.out.own.alloc _) _ rfl 2 (strsV [actB, x2]) (.inl ⟨_, 2, rfl, rfl, World.news_of_block (heap_new3 _ _ _ _)⟩) (strsV_one _) (by unfold maxLen; omega) (by omega) (by rw [World.size_alloc]; omega) ?_; intro a3 c3 w3 ho hg _ _; have S2 : Hid (WrSt w w3 _ (.slice a3 3 c3) 3 [x0, actB, x2]) := S.out.more ho hg; clear S p0 p1 p2 p3 p4 p5 p6 ho hg; have S := S2; clear S2; obtain ⟨⟨p0, p1, p2, p3, p4, p5, p6⟩, _⟩ := seven S.out.blk)
    | (go_at_call 53; refine (itoa_any _ (HP.out.kept S.out.kept) x5 h5a h5b).mono ?_; rintro e wi ⟨rfl, Ki⟩; have S2 : Hid (WrSt w wi _ _ _ _) := S.out.call Ki; clear S p0 p1 p2 p3 p4 p5 p6 Ki; have S := S2; clear S2; obtain ⟨⟨p0, p1, p2, p3, p4, p5, p6⟩, _⟩ := seven S.out.blk)
    | (at_builtin; have ht := S.out.top; refine wpList_append_src _ rfl _ _ 22 rfl (w.heap.size + 1) 9 i0 _ 1 16 Tryd.underlying22 hi0 hz0 hz1 hz2 rfl (by decide) _ 3 _ rfl (S.out.own.alloc _) _ rfl 2 (strsV [triB, itB x5]) (.inl ⟨_, 2, rfl, rfl, World.news_of_block (heap_alloc_new _ _)⟩) (strsV_one _) (by unfold maxLen; omega) (by omega) (by rw [World.size_alloc]; omega) ?_; intro a5 c5 w5 ho hg _ _; have S2 : Hid (WrSt w w5 _ (.slice a5 5 c5) 5 [x0, actB, x2, triB, itB x5]) := S.out.more ho hg; clear S p0 p1 p2 p3 p4 p5 p6 ho hg; have S := S2; clear S2; obtain ⟨⟨p0, p1, p2, p3, p4, p5, p6⟩, _⟩ := seven S.out.blk)
    | (at_builtin; have ht := S.out.top; refine wpList_append_src _ rfl _ _ 22 rfl (w.heap.size + 1) 9 i0 _ 1 16 Tryd.underlying22 hi0 hz0 hz1 hz2 rfl (by decide) _ 5 _ rfl (S.out.own.alloc _) _ rfl 1 (strsV [aftB]) (.inl ⟨_, 1, rfl, rfl, World.news_of_block (heap_alloc_new _ _)⟩) (strsV_one _) (by unfold maxLen; omega) (by omega) (by rw [World.size_alloc]; omega) ?_; intro a6 c6 w6 ho hg _ _; have S2 : Hid (WrSt w w6 _ (.slice a6 6 c6) 6 [x0, actB, x2, triB, itB x5, aftB]) := S.out.more ho hg; clear S p0 p1 p2 p3 p4 p5 p6 ho hg; have S := S2; clear S2; obtain ⟨⟨p0, p1, p2, p3, p4, p5, p6⟩, _⟩ := seven S.out.blk)
    | (at_builtin; have ht := S.out.top; refine wpList_append_src _ rfl _ _ 22 rfl (w.heap.size + 1) 9 i0 _ 1 16 Tryd.underlying22 hi0 hz0 hz1 hz2 rfl (by decide) _ 6 _ rfl S.out.own _ rfl l.length (strsV l) (HT.out.kept S.out.kept (fun _ _ h => h)).src (strsV_one _) (by unfold maxLen; omega) (by omega) (by omega) ?_; intro az cz wz ho hg _ _; have S2 : Hid (WrSt w wz _ (.slice az (6 + l.length) cz) (6 + l.length) ([x0, actB, x2, triB, itB x5, aftB] ++ l)) := S.out.more0 ho hg; clear S p0 p1 p2 p3 p4 p5 p6 ho hg; have S := S2; clear S2)
    | fail)
  go_ret
  exact S.out.post (by simp; omega)

set_option maxRecDepth 100000 in
set_option maxHeartbeats 4000000 in
theorem wr1Aft (w : World) (x0 x2 x3 : ByteArray) (x4 x5 : Int) (l : List ByteArray) (av : Option Addr) (cv : Nat) (hT : TextsAt w (.slice av l.length cv) l) (hl : l.length ≤ 1000000) (T10 : Pow10 w) (h4 : isI64 x4) (h5 : isI64 x5) (ht : x5 = 1) (hd : x4 ≠ 0) (hn : 0 < l.length) :
    Calls Tryd.prog 29 #[.agg #[.string x0, .int .i64 1, .string x2, .string x3, .int .i64 x4, .int .i64 x5, .slice av l.length cv]] w (WrPost w ([x0, actB, x2, tmoB, itB x4, aftB] ++ l)) := by
  obtain ⟨i0, hi0, hz0, hz1, hz2⟩ := info_parts Tryd.info9
  obtain ⟨h4a, h4b⟩ := i64_bounds h4
  obtain ⟨h5a, h5b⟩ := i64_bounds h5
  have HT : Hid (TextsAt w (.slice av l.length cv) l) := hT
  have HP : Hid (Pow10 w) := T10
  have S : Hid (WrSt w ((w.alloc (.cells #[.string x0, .int .i64 1, .string x2, .string x3, .int .i64 x4, .int .i64 x5, .slice av l.length cv] 44)).alloc (.cells #[.string x0] 9)) #[.string x0, .int .i64 1, .string x2, .string x3, .int .i64 x4, .int .i64 x5, .slice av l.length cv] (.slice (some ⟨w.heap.size + 1, 0, none⟩) 1 1) 1 [x0]) := WrSt.begun w _ x0
  obtain ⟨⟨p0, p1, p2, p3, p4, p5, p6⟩, _⟩ := seven S.out.blk
  clear hT T10 h4 h5
  go_enter Tryd.func29, Tryd.ntmps29
  have e0 : (0 : Int) < (l.length : Int) := by omega
  clear hn
  have e1 : (x5 != 1) = false := by simp [ht]
  have e2 : (x4 != 0) = true := by simp [hd]
  clear ht hd
  go_wp2_with (first
    | (at_builtin; have ht := S.out.top; refine wpList_append_src _ rfl _ _ 22 rfl (w.heap.size + 1) 9 i0 _ 1 16 Tryd.underlying22 hi0 hz0 hz1 hz2 rfl (by decide) _ 1 _ rfl (S.out.own.alloc _) _ rfl 2 (strsV [actB, x2]) (.inl ⟨_, 2, rfl, rfl, World.news_of_block (heap_new3 _ _ _ _)⟩) (strsV_one _) (by unfold maxLen; omega) (by omega) (by rw [World.size_alloc]; omega) ?_; intro a3 c3 w3 ho hg _ _; have S2 : Hid (WrSt w w3 _ (.slice a3 3 c3) 3 [x0, actB, x2]) := S.out.more ho hg; clear S p0 p1 p2 p3 p4 p5 p6 ho hg; have S := S2; clear S2; obtain ⟨⟨p0, p1, p2, p3, p4, p5, p6⟩, _⟩ := seven S.out.blk)
    | (go_at_call 53; refine (itoa_any _ (HP.out.kept S.out.kept) x4 h4a h4b).mono ?_; rintro e wi ⟨rfl, Ki⟩; have S2 : Hid (WrSt w wi _ _ _ _) := S.out.call Ki; clear S p0 p1 p2 p3 p4 p5 p6 Ki; have S := S2; clear S2; obtain ⟨⟨p0, p1, p2, p3, p4, p5, p6⟩, _⟩ := seven S.out.blk)
    | (at_builtin; have ht := S.out.top; refine wpList_append_src _ rfl _ _ 22 rfl (w.heap.size + 1) 9 i0 _ 1 16 Tryd.underlying22 hi0 hz0 hz1 hz2 rfl (by decide) _ 3 _ rfl (S.out.own.alloc _) _ rfl 2 (strsV [tmoB, itB x4]) (.inl ⟨_, 2, rfl, rfl, World.news_of_block (heap_alloc_new _ _)⟩) (strsV_one _) (by unfold maxLen; omega) (by omega) (by rw [World.size_alloc]; omega) ?_; intro a5 c5 w5 ho hg _ _; have S2 : Hid (WrSt w w5 _ (.slice a5 5 c5) 5 [x0, actB, x2, tmoB, itB x4]) := S.out.more ho hg; clear S p0 p1 p2 p3 p4 p5 p6 ho hg; have S := S2; clear S2; obtain ⟨⟨p0, p1, p2, p3, p4, p5, p6⟩, _⟩ := seven S.out.blk)
    | (at_builtin; have ht := S.out.top; refine wpList_append_src _ rfl _ _ 22 rfl (w.heap.size + 1) 9 i0 _ 1 16 Tryd.underlying22 hi0 hz0 hz1 hz2 rfl (by decide) _ 5 _ rfl (S.out.own.alloc _) _ rfl 1 (strsV [aftB]) (.inl ⟨_, 1, rfl, rfl, World.news_of_block (heap_alloc_new _ _)⟩) (strsV_one _) (by unfold maxLen; omega) (by omega) (by rw [World.size_alloc]; omega) ?_; intro a6 c6 w6 ho hg _ _; have S2 : Hid (WrSt w w6 _ (.slice a6 6 c6) 6 [x0, actB, x2, tmoB, itB x4, aftB]) := S.out.more ho hg; clear S p0 p1 p2 p3 p4 p5 p6 ho hg; have S := S2; clear S2; obtain ⟨⟨p0, p1, p2, p3, p4, p5, p6⟩, _⟩ := seven S.out.blk)
    | (at_builtin; have ht := S.out.top; refine wpList_append_src _ rfl _ _ 22 rfl (w.heap.size + 1) 9 i0 _ 1 16 Tryd.underlying22 hi0 hz0 hz1 hz2 rfl (by decide) _ 6 _ rfl S.out.own _ rfl l.length (strsV l) (HT.out.kept S.out.kept (fun _ _ h => h)).src (strsV_one _) (by unfold maxLen; omega) (by omega) (by omega) ?_; intro az cz wz ho hg _ _; have S2 : Hid (WrSt w wz _ (.slice az (6 + l.length) cz) (6 + l.length) ([x0, actB, x2, tmoB, itB x4, aftB] ++ l)) := S.out.more0 ho hg; clear S p0 p1 p2 p3 p4 p5 p6 ho hg; have S := S2; clear S2)
    | fail)
  go_ret
  exact S.out.post (by simp; omega)

set_option maxRecDepth 100000 in
set_option maxHeartbeats 4000000 in
theorem wr1Aff (w : World) (x0 x2 x3 : ByteArray) (x4 x5 : Int) (l : List ByteArray) (av : Option Addr) (cv : Nat) (hT : TextsAt w (.slice av l.length cv) l) (hl : l.length ≤ 1000000) (T10 : Pow10 w) (h4 : isI64 x4) (h5 : isI64 x5) (ht : x5 = 1) (hd : x4 = 0) (hn : 0 < l.length) :
    Calls Tryd.prog 29 #[.agg #[.string x0, .int .i64 1, .string x2, .string x3, .int .i64 x4, .int .i64 x5, .slice av l.length cv]] w (WrPost w ([x0, actB, x2, aftB] ++ l)) := by
  obtain ⟨i0, hi0, hz0, hz1, hz2⟩ := info_parts Tryd.info9
  obtain ⟨h4a, h4b⟩ := i64_bounds h4
  obtain ⟨h5a, h5b⟩ := i64_bounds h5
  have HT : Hid (TextsAt w (.slice av l.length cv) l) := hT
  have HP : Hid (Pow10 w) := T10
  have S : Hid (WrSt w ((w.alloc (.cells #[.string x0, .int .i64 1, .string x2, .string x3, .int .i64 x4, .int .i64 x5, .slice av l.length cv] 44)).alloc (.cells #[.string x0] 9)) #[.string x0, .int .i64 1, .string x2, .string x3, .int .i64 x4, .int .i64 x5, .slice av l.length cv] (.slice (some ⟨w.heap.size + 1, 0, none⟩) 1 1) 1 [x0]) := WrSt.begun w _ x0
  obtain ⟨⟨p0, p1, p2, p3, p4, p5, p6⟩, _⟩ := seven S.out.blk
  clear hT T10 h4 h5
  go_enter Tryd.func29, Tryd.ntmps29
  have e0 : (0 : Int) < (l.length : Int) := by omega
  clear hn
  have e1 : (x5 != 1) = false := by simp [ht]
  have e2 : (x4 != 0) = false := by simp [hd]
  clear ht hd
  go_wp2_with (first
    | (at_builtin; have ht := S.out.top; refine wpList_append_src _ rfl _ _ 22 rfl (w.heap.size + 1) 9 i0 _ 1 16 Tryd.underlying22 hi0 hz0 hz1 hz2 rfl (by decide) _ 1 _ rfl (S.out.own.alloc _) _ rfl 2 (strsV [actB, x2]) (.inl ⟨_, 2, rfl, rfl, World.news_of_block (heap_new3 _ _ _ _)⟩) (strsV_one _) (by unfold maxLen; omega) (by omega) (by rw [World.size_alloc]; omega) ?_; intro a3 c3 w3 ho hg _ _; have S2 : Hid (WrSt w w3 _ (.slice a3 3 c3) 3 [x0, actB, x2]) := S.out.more ho hg; clear S p0 p1 p2 p3 p4 p5 p6 ho hg; have S := S2; clear S2; obtain ⟨⟨p0, p1, p2, p3, p4, p5, p6⟩, _⟩ := seven S.out.blk)
    | (at_builtin; have ht := S.out.top; refine wpList_append_src _ rfl _ _ 22 rfl (w.heap.size + 1) 9 i0 _ 1 16 Tryd.underlying22 hi0 hz0 hz1 hz2 rfl (by decide) _ 3 _ rfl (S.out.own.alloc _) _ rfl 1 (strsV [aftB]) (.inl ⟨_, 1, rfl, rfl, World.news_of_block (heap_alloc_new _ _)⟩) (strsV_one _) (by unfold maxLen; omega) (by omega) (by rw [World.size_alloc]; omega) ?_; intro a4 c4 w4 ho hg _ _; have S2 : Hid (WrSt w w4 _ (.slice a4 4 c4) 4 [x0, actB, x2, aftB]) := S.out.more ho hg; clear S p0 p1 p2 p3 p4 p5 p6 ho hg; have S := S2; clear S2; obtain ⟨⟨p0, p1, p2, p3, p4, p5, p6⟩, _⟩ := seven S.out.blk)
    | (at_builtin; have ht := S.out.top; refine wpList_append_src _ rfl _ _ 22 rfl (w.heap.size + 1) 9 i0 _ 1 16 Tryd.underlying22 hi0 hz0 hz1 hz2 rfl (by decide) _ 4 _ rfl S.out.own _ rfl l.length (strsV l) (HT.out.kept S.out.kept (fun _ _ h => h)).src (strsV_one _) (by unfold maxLen; omega) (by omega) (by omega) ?_; intro az cz wz ho hg _ _; have S2 : Hid (WrSt w wz _ (.slice az (4 + l.length) cz) (4 + l.length) ([x0, actB, x2, aftB] ++ l)) := S.out.more0 ho hg; clear S p0 p1 p2 p3 p4 p5 p6 ho hg; have S := S2; clear S2)
    | fail)
  go_ret
  exact S.out.post (by simp; omega)

set_option maxRecDepth 100000 in
set_option maxHeartbeats 4000000 in
theorem wr2A (w : World) (x0 x2 x3 : ByteArray) (x4 x5 : Int) (l : List ByteArray) (av : Option Addr) (cv : Nat) (hT : TextsAt w (.slice av l.length cv) l) (hl : l.length ≤ 1000000) (T10 : Pow10 w) (h4 : isI64 x4) (h5 : isI64 x5) (hn : 0 < l.length) :
    Calls Tryd.prog 29 #[.agg #[.string x0, .int .i64 2, .string x2, .string x3, .int .i64 x4, .int .i64 x5, .slice av l.length cv]] w (WrPost w ([x0, timB, itB x4, aftB] ++ l)) := by
  obtain ⟨i0, hi0, hz0, hz1, hz2⟩ := info_parts Tryd.info9
  obtain ⟨h4a, h4b⟩ := i64_bounds h4
  obtain ⟨h5a, h5b⟩ := i64_bounds h5
  have HT : Hid (TextsAt w (.slice av l.length cv) l) := hT
  have HP : Hid (Pow10 w) := T10
  have S : Hid (WrSt w ((w.alloc (.cells #[.string x0, .int .i64 2, .string x2, .string x3, .int .i64 x4, .int .i64 x5, .slice av l.length cv] 44)).alloc (.cells #[.string x0] 9)) #[.string x0, .int .i64 2, .string x2, .string x3, .int .i64 x4, .int .i64 x5, .slice av l.length cv] (.slice (some ⟨w.heap.size + 1, 0, none⟩) 1 1) 1 [x0]) := WrSt.begun w _ x0
  obtain ⟨⟨p0, p1, p2, p3, p4, p5, p6⟩, _⟩ := seven S.out.blk
  clear hT T10 h4 h5
  go_enter Tryd.func29, Tryd.ntmps29
  have e0 : (0 : Int) < (l.length : Int) := by omega
  clear hn
  go_wp2_with (first
    | (go_at_call 53; refine (itoa_any _ (HP.out.kept S.out.kept) x4 h4a h4b).mono ?_; rintro e wi ⟨rfl, Ki⟩; have S2 : Hid (WrSt w wi _ _ _ _) := S.out.call Ki; clear S p0 p1 p2 p3 p4 p5 p6 Ki; have S := S2; clear S2; obtain ⟨⟨p0, p1, p2, p3, p4, p5, p6⟩, _⟩ := seven S.out.blk)
    | (at_builtin; have ht := S.out.top; refine wpList_append_src _ rfl _ _ 22 rfl (w.heap.size + 1) 9 i0 _ 1 16 Tryd.underlying22 hi0 hz0 hz1 hz2 rfl (by decide) _ 1 _ rfl (S.out.own.alloc _) _ rfl 2 (strsV [timB, itB x4]) (.inl ⟨_, 2, rfl, rfl, World.news_of_block (heap_alloc_new _ _)⟩) (strsV_one _) (by unfold maxLen; omega) (by omega) (by rw [World.size_alloc]; omega) ?_; intro a3 c3 w3 ho hg _ _; have S2 : Hid (WrSt w w3 _ (.slice a3 3 c3) 3 [x0, timB, itB x4]) := S.out.more ho hg; clear S p0 p1 p2 p3 p4 p5 p6 ho hg; have S := S2; clear S2; obtain ⟨⟨p0, p1, p2, p3, p4, p5, p6⟩, _⟩ := seven S.out.blk)
    | (at_builtin; have ht := S.out.top; refine wpList_append_src _ rfl _ _ 22 rfl (w.heap.size + 1) 9 i0 _ 1 16 Tryd.underlying22 hi0 hz0 hz1 hz2 rfl (by decide) _ 3 _ rfl (S.out.own.alloc _) _ rfl 1 (strsV [aftB]) (.inl ⟨_, 1, rfl, rfl, World.news_of_block (heap_alloc_new _ _)⟩) (strsV_one _) (by unfold maxLen; omega) (by omega) (by rw [World.size_alloc]; omega) ?_; intro a4 c4 w4 ho hg _ _; have S2 : Hid (WrSt w w4 _ (.slice a4 4 c4) 4 [x0, timB, itB x4, aftB]) := S.out.more ho hg; clear S p0 p1 p2 p3 p4 p5 p6 ho hg; have S := S2; clear S2; obtain ⟨⟨p0, p1, p2, p3, p4, p5, p6⟩, _⟩ := seven S.out.blk)
    | (at_builtin; have ht := S.out.top; refine wpList_append_src _ rfl _ _ 22 rfl (w.heap.size + 1) 9 i0 _ 1 16 Tryd.underlying22 hi0 hz0 hz1 hz2 rfl (by decide) _ 4 _ rfl S.out.own _ rfl l.length (strsV l) (HT.out.kept S.out.kept (fun _ _ h => h)).src (strsV_one _) (by unfold maxLen; omega) (by omega) (by omega) ?_; intro az cz wz ho hg _ _; have S2 : Hid (WrSt w wz _ (.slice az (4 + l.length) cz) (4 + l.length) ([x0, timB, itB x4, aftB] ++ l)) := S.out.more0 ho hg; clear S p0 p1 p2 p3 p4 p5 p6 ho hg; have S := S2; clear S2)
    | fail)
  go_ret
  exact S.out.post (by simp; omega)

set_option maxRecDepth 100000 in
set_option maxHeartbeats 4000000 in
theorem wr3A (w : World) (x0 x2 x3 : ByteArray) (x4 x5 : Int) (l : List ByteArray) (av : Option Addr) (cv : Nat) (hT : TextsAt w (.slice av l.length cv) l) (hl : l.length ≤ 1000000) (T10 : Pow10 w) (h4 : isI64 x4) (h5 : isI64 x5) (hn : 0 < l.length) :
    Calls Tryd.prog 29 #[.agg #[.string x0, .int .i64 3, .string x2, .string x3, .int .i64 x4, .int .i64 x5, .slice av l.length cv]] w (WrPost w ([x0, chiB, x2, aftB] ++ l)) := by
  obtain ⟨i0, hi0, hz0, hz1, hz2⟩ := info_parts Tryd.info9
  obtain ⟨h4a, h4b⟩ := i64_bounds h4
  obtain ⟨h5a, h5b⟩ := i64_bounds h5
  have HT : Hid (TextsAt w (.slice av l.length cv) l) := hT
  have HP : Hid (Pow10 w) := T10
  have S : Hid (WrSt w ((w.alloc (.cells #[.string x0, .int .i64 3, .string x2, .string x3, .int .i64 x4, .int .i64 x5, .slice av l.length cv] 44)).alloc (.cells #[.string x0] 9)) #[.string x0, .int .i64 3, .string x2, .string x3, .int .i64 x4, .int .i64 x5, .slice av l.length cv] (.slice (some ⟨w.heap.size + 1, 0, none⟩) 1 1) 1 [x0]) := WrSt.begun w _ x0
  obtain ⟨⟨p0, p1, p2, p3, p4, p5, p6⟩, _⟩ := seven S.out.blk
  clear hT T10 h4 h5
  go_enter Tryd.func29, Tryd.ntmps29
  have e0 : (0 : Int) < (l.length : Int) := by omega
  clear hn
  go_wp2_with (first
    | (at_builtin; have ht := S.out.top; refine wpList_append_src _ rfl _ _ 22 rfl (w.heap.size + 1) 9 i0 _ 1 16 Tryd.underlying22 hi0 hz0 hz1 hz2 rfl (by decide) _ 1 _ rfl (S.out.own.alloc _) _ rfl 2 (strsV [chiB, x2]) (.inl ⟨_, 2, rfl, rfl, World.news_of_block (heap_new3 _ _ _ _)⟩) (strsV_one _) (by unfold maxLen; omega) (by omega) (by rw [World.size_alloc]; omega) ?_; intro a3 c3 w3 ho hg _ _; have S2 : Hid (WrSt w w3 _ (.slice a3 3 c3) 3 [x0, chiB, x2]) := S.out.more ho hg; clear S p0 p1 p2 p3 p4 p5 p6 ho hg; have S := S2; clear S2; obtain ⟨⟨p0, p1, p2, p3, p4, p5, p6⟩, _⟩ := seven S.out.blk)
    | (at_builtin; have ht := S.out.top; refine wpList_append_src _ rfl _ _ 22 rfl (w.heap.size + 1) 9 i0 _ 1 16 Tryd.underlying22 hi0 hz0 hz1 hz2 rfl (by decide) _ 3 _ rfl (S.out.own.alloc _) _ rfl 1 (strsV [aftB]) (.inl ⟨_, 1, rfl, rfl, World.news_of_block (heap_alloc_new _ _)⟩) (strsV_one _) (by unfold maxLen; omega) (by omega) (by rw [World.size_alloc]; omega) ?_; intro a4 c4 w4 ho hg _ _; have S2 : Hid (WrSt w w4 _ (.slice a4 4 c4) 4 [x0, chiB, x2, aftB]) := S.out.more ho hg; clear S p0 p1 p2 p3 p4 p5 p6 ho hg; have S := S2; clear S2; obtain ⟨⟨p0, p1, p2, p3, p4, p5, p6⟩, _⟩ := seven S.out.blk)
    | (at_builtin; have ht := S.out.top; refine wpList_append_src _ rfl _ _ 22 rfl (w.heap.size + 1) 9 i0 _ 1 16 Tryd.underlying22 hi0 hz0 hz1 hz2 rfl (by decide) _ 4 _ rfl S.out.own _ rfl l.length (strsV l) (HT.out.kept S.out.kept (fun _ _ h => h)).src (strsV_one _) (by unfold maxLen; omega) (by omega) (by omega) ?_; intro az cz wz ho hg _ _; have S2 : Hid (WrSt w wz _ (.slice az (4 + l.length) cz) (4 + l.length) ([x0, chiB, x2, aftB] ++ l)) := S.out.more0 ho hg; clear S p0 p1 p2 p3 p4 p5 p6 ho hg; have S := S2; clear S2)
    | fail)
  go_ret
  exact S.out.post (by simp; omega)

set_option maxRecDepth 100000 in
set_option maxHeartbeats 4000000 in
theorem wr4A (w : World) (x0 x2 x3 : ByteArray) (x4 x5 : Int) (l : List ByteArray) (av : Option Addr) (cv : Nat) (hT : TextsAt w (.slice av l.length cv) l) (hl : l.length ≤ 1000000) (T10 : Pow10 w) (h4 : isI64 x4) (h5 : isI64 x5) (hn : 0 < l.length) :
    Calls Tryd.prog 29 #[.agg #[.string x0, .int .i64 4, .string x2, .string x3, .int .i64 x4, .int .i64 x5, .slice av l.length cv]] w (WrPost w ([x0, waiB, x2, aftB] ++ l)) := by
  obtain ⟨i0, hi0, hz0, hz1, hz2⟩ := info_parts Tryd.info9
  obtain ⟨h4a, h4b⟩ := i64_bounds h4
  obtain ⟨h5a, h5b⟩ := i64_bounds h5
  have HT : Hid (TextsAt w (.slice av l.length cv) l) := hT
  have HP : Hid (Pow10 w) := T10
  have S : Hid (WrSt w ((w.alloc (.cells #[.string x0, .int .i64 4, .string x2, .string x3, .int .i64 x4, .int .i64 x5, .slice av l.length cv] 44)).alloc (.cells #[.string x0] 9)) #[.string x0, .int .i64 4, .string x2, .string x3, .int .i64 x4, .int .i64 x5, .slice av l.length cv] (.slice (some ⟨w.heap.size + 1, 0, none⟩) 1 1) 1 [x0]) := WrSt.begun w _ x0
  obtain ⟨⟨p0, p1, p2, p3, p4, p5, p6⟩, _⟩ := seven S.out.blk
  clear hT T10 h4 h5
  go_enter Tryd.func29, Tryd.ntmps29
  have e0 : (0 : Int) < (l.length : Int) := by omega
  clear hn
  go_wp2_with (first
    | (at_builtin; have ht := S.out.top; refine wpList_append_src _ rfl _ _ 22 rfl (w.heap.size + 1) 9 i0 _ 1 16 Tryd.underlying22 hi0 hz0 hz1 hz2 rfl (by decide) _ 1 _ rfl (S.out.own.alloc _) _ rfl 2 (strsV [waiB, x2]) (.inl ⟨_, 2, rfl, rfl, World.news_of_block (heap_new3 _ _ _ _)⟩) (strsV_one _) (by unfold maxLen; omega) (by omega) (by rw [World.size_alloc]; omega) ?_; intro a3 c3 w3 ho hg _ _; have S2 : Hid (WrSt w w3 _ (.slice a3 3 c3) 3 [x0, waiB, x2]) := S.out.more ho hg; clear S p0 p1 p2 p3 p4 p5 p6 ho hg; have S := S2; clear S2; obtain ⟨⟨p0, p1, p2, p3, p4, p5, p6⟩, _⟩ := seven S.out.blk)
    | (at_builtin; have ht := S.out.top; refine wpList_append_src _ rfl _ _ 22 rfl (w.heap.size + 1) 9 i0 _ 1 16 Tryd.underlying22 hi0 hz0 hz1 hz2 rfl (by decide) _ 3 _ rfl (S.out.own.alloc _) _ rfl 1 (strsV [aftB]) (.inl ⟨_, 1, rfl, rfl, World.news_of_block (heap_alloc_new _ _)⟩) (strsV_one _) (by unfold maxLen; omega) (by omega) (by rw [World.size_alloc]; omega) ?_; intro a4 c4 w4 ho hg _ _; have S2 : Hid (WrSt w w4 _ (.slice a4 4 c4) 4 [x0, waiB, x2, aftB]) := S.out.more ho hg; clear S p0 p1 p2 p3 p4 p5 p6 ho hg; have S := S2; clear S2; obtain ⟨⟨p0, p1, p2, p3, p4, p5, p6⟩, _⟩ := seven S.out.blk)
    | (at_builtin; have ht := S.out.top; refine wpList_append_src _ rfl _ _ 22 rfl (w.heap.size + 1) 9 i0 _ 1 16 Tryd.underlying22 hi0 hz0 hz1 hz2 rfl (by decide) _ 4 _ rfl S.out.own _ rfl l.length (strsV l) (HT.out.kept S.out.kept (fun _ _ h => h)).src (strsV_one _) (by unfold maxLen; omega) (by omega) (by omega) ?_; intro az cz wz ho hg _ _; have S2 : Hid (WrSt w wz _ (.slice az (4 + l.length) cz) (4 + l.length) ([x0, waiB, x2, aftB] ++ l)) := S.out.more0 ho hg; clear S p0 p1 p2 p3 p4 p5 p6 ho hg; have S := S2; clear S2)
    | fail)
  go_ret
  exact S.out.post (by simp; omega)

set_option maxRecDepth 100000 in
set_option maxHeartbeats 4000000 in
theorem wr5A (w : World) (x0 x2 x3 : ByteArray) (x4 x5 : Int) (l : List ByteArray) (av : Option Addr) (cv : Nat) (hT : TextsAt w (.slice av l.length cv) l) (hl : l.length ≤ 1000000) (T10 : Pow10 w) (h4 : isI64 x4) (h5 : isI64 x5) (hn : 0 < l.length) :
    Calls Tryd.prog 29 #[.agg #[.string x0, .int .i64 5, .string x2, .string x3, .int .i64 x4, .int .i64 x5, .slice av l.length cv]] w (WrPost w ([x0, senB, x3, x2, aftB] ++ l)) := by
  obtain ⟨i0, hi0, hz0, hz1, hz2⟩ := info_parts Tryd.info9
  obtain ⟨h4a, h4b⟩ := i64_bounds h4
  obtain ⟨h5a, h5b⟩ := i64_bounds h5
  have HT : Hid (TextsAt w (.slice av l.length cv) l) := hT
  have HP : Hid (Pow10 w) := T10
  have S : Hid (WrSt w ((w.alloc (.cells #[.string x0, .int .i64 5, .string x2, .string x3, .int .i64 x4, .int .i64 x5, .slice av l.length cv] 44)).alloc (.cells #[.string x0] 9)) #[.string x0, .int .i64 5, .string x2, .string x3, .int .i64 x4, .int .i64 x5, .slice av l.length cv] (.slice (some ⟨w.heap.size + 1, 0, none⟩) 1 1) 1 [x0]) := WrSt.begun w _ x0
  obtain ⟨⟨p0, p1, p2, p3, p4, p5, p6⟩, _⟩ := seven S.out.blk
  clear hT T10 h4 h5
  go_enter Tryd.func29, Tryd.ntmps29
  have e0 : (0 : Int) < (l.length : Int) := by omega
  clear hn
  go_wp2_with (first
    | (at_builtin; have ht := S.out.top; refine wpList_append_src _ rfl _ _ 22 rfl (w.heap.size + 1) 9 i0 _ 1 16 Tryd.underlying22 hi0 hz0 hz1 hz2 rfl (by decide) _ 1 _ rfl (S.out.own.alloc _) _ rfl 3 (strsV [senB, x3, x2]) (.inl ⟨_, 3, rfl, rfl, World.news_of_block (heap_new3 _ _ _ _)⟩) (strsV_one _) (by unfold maxLen; omega) (by omega) (by rw [World.size_alloc]; omega) ?_; intro a4 c4 w4 ho hg _ _; have S2 : Hid (WrSt w w4 _ (.slice a4 4 c4) 4 [x0, senB, x3, x2]) := S.out.more ho hg; clear S p0 p1 p2 p3 p4 p5 p6 ho hg; have S := S2; clear S2; obtain ⟨⟨p0, p1, p2, p3, p4, p5, p6⟩, _⟩ := seven S.out.blk)
    | (at_builtin; have ht := S.out.top; refine wpList_append_src _ rfl _ _ 22 rfl (w.heap.size + 1) 9 i0 _ 1 16 Tryd.underlying22 hi0 hz0 hz1 hz2 rfl (by decide) _ 4 _ rfl (S.out.own.alloc _) _ rfl 1 (strsV [aftB]) (.inl ⟨_, 1, rfl, rfl, World.news_of_block (heap_alloc_new _ _)⟩) (strsV_one _) (by unfold maxLen; omega) (by omega) (by rw [World.size_alloc]; omega) ?_; intro a5 c5 w5 ho hg _ _; have S2 : Hid (WrSt w w5 _ (.slice a5 5 c5) 5 [x0, senB, x3, x2, aftB]) := S.out.more ho hg; clear S p0 p1 p2 p3 p4 p5 p6 ho hg; have S := S2; clear S2; obtain ⟨⟨p0, p1, p2, p3, p4, p5, p6⟩, _⟩ := seven S.out.blk)
    | (at_builtin; have ht := S.out.top; refine wpList_append_src _ rfl _ _ 22 rfl (w.heap.size + 1) 9 i0 _ 1 16 Tryd.underlying22 hi0 hz0 hz1 hz2 rfl (by decide) _ 5 _ rfl S.out.own _ rfl l.length (strsV l) (HT.out.kept S.out.kept (fun _ _ h => h)).src (strsV_one _) (by unfold maxLen; omega) (by omega) (by omega) ?_; intro az cz wz ho hg _ _; have S2 : Hid (WrSt w wz _ (.slice az (5 + l.length) cz) (5 + l.length) ([x0, senB, x3, x2, aftB] ++ l)) := S.out.more0 ho hg; clear S p0 p1 p2 p3 p4 p5 p6 ho hg; have S := S2; clear S2)
    | fail)
  go_ret
  exact S.out.post (by simp; omega)

set_option maxRecDepth 100000 in
set_option maxHeartbeats 4000000 in
theorem wr1Ntt (w : World) (x0 x2 x3 : ByteArray) (x4 x5 : Int) (l : List ByteArray) (av : Option Addr) (cv : Nat) (hT : TextsAt w (.slice av l.length cv) l) (hl : l.length ≤ 1000000) (T10 : Pow10 w) (h4 : isI64 x4) (h5 : isI64 x5) (ht : x5 ≠ 1) (hd : x4 ≠ 0) (hn : l = []) :
    Calls Tryd.prog 29 #[.agg #[.string x0, .int .i64 1, .string x2, .string x3, .int .i64 x4, .int .i64 x5, .slice av l.length cv]] w (WrPost w ([x0, actB, x2, triB, itB x5, tmoB, itB x4])) := by
  obtain ⟨i0, hi0, hz0, hz1, hz2⟩ := info_parts Tryd.info9
  obtain ⟨h4a, h4b⟩ := i64_bounds h4
  obtain ⟨h5a, h5b⟩ := i64_bounds h5
  have HT : Hid (TextsAt w (.slice av l.length cv) l) := hT
  have HP : Hid (Pow10 w) := T10
  have S : Hid (WrSt w ((w.alloc (.cells #[.string x0, .int .i64 1, .string x2, .string x3, .int .i64 x4, .int .i64 x5, .slice av l.length cv] 44)).alloc (.cells #[.string x0] 9)) #[.string x0, .int .i64 1, .string x2, .string x3, .int .i64 x4, .int .i64 x5, .slice av l.length cv] (.slice (some ⟨w.heap.size + 1, 0, none⟩) 1 1) 1 [x0]) := WrSt.begun w _ x0
  obtain ⟨⟨p0, p1, p2, p3, p4, p5, p6⟩, _⟩ := seven S.out.blk
  clear hT T10 h4 h5
  go_enter Tryd.func29, Tryd.ntmps29
  have e0 : ¬ (0 : Int) < (l.length : Int) := by rw [hn]; simp
  clear hn
  have e1 : (x5 != 1) = true := by simp [ht]
  have e2 : (x4 != 0) = true := by simp [hd]
  clear ht hd
  go_wp2_with (first
    | (at_builtin; have ht := S.out.top; refine wpList_append_src _ rfl _ _ 22 rfl (w.heap.size + 1) 9 i0 _ 1 16 Tryd.underlying22 hi0 hz0 hz1 hz2 rfl (by decide) _ 1 _ rfl (S.out.own.alloc _) _ rfl 2 (strsV [actB, x2]) (.inl ⟨_, 2, rfl, rfl, World.news_of_block (heap_new3 _ _ _ _)⟩) (strsV_one _) (by unfold maxLen; omega) (by omega) (by rw [World.size_alloc]; omega) ?_; intro a3 c3 w3 ho hg _ _; have S2 : Hid (WrSt w w3 _ (.slice a3 3 c3) 3 [x0, actB, x2]) := S.out.more ho hg; clear S p0 p1 p2 p3 p4 p5 p6 ho hg; have S := S2; clear S2; obtain ⟨⟨p0, p1, p2, p3, p4, p5, p6⟩, _⟩ := seven S.out.blk)
    | (go_at_call 53; refine (itoa_any _ (HP.out.kept S.out.kept) x5 h5a h5b).mono ?_; rintro e wi ⟨rfl, Ki⟩; have S2 : Hid (WrSt w wi _ _ _ _) := S.out.call Ki; clear S p0 p1 p2 p3 p4 p5 p6 Ki; have S := S2; clear S2; obtain ⟨⟨p0, p1, p2, p3, p4, p5, p6⟩, _⟩ := seven S.out.blk)
    | (at_builtin; have ht := S.out.top; refine wpList_append_src _ rfl _ _ 22 rfl (w.heap.size + 1) 9 i0 _ 1 16 Tryd.underlying22 hi0 hz0 hz1 hz2 rfl (by decide) _ 3 _ rfl (S.out.own.alloc _) _ rfl 2 (strsV [triB, itB x5]) (.inl ⟨_, 2, rfl, rfl, World.news_of_block (heap_alloc_new _ _)⟩) (strsV_one _) (by unfold maxLen; omega) (by omega) (by rw [World.size_alloc]; omega) ?_; intro a5 c5 w5 ho hg _ _; have S2 : Hid (WrSt w w5 _ (.slice a5 5 c5) 5 [x0, actB, x2, triB, itB x5]) := S.out.more ho hg; clear S p0 p1 p2 p3 p4 p5 p6 ho hg; have S := S2; clear S2; obtain ⟨⟨p0, p1, p2, p3, p4, p5, p6⟩, _⟩ := seven S.out.blk)
    | (go_at_call 53; refine (itoa_any _ (HP.out.kept S.out.kept) x4 h4a h4b).mono ?_; rintro e wi ⟨rfl, Ki⟩; have S2 : Hid (WrSt w wi _ _ _ _) := S.out.call Ki; clear S p0 p1 p2 p3 p4 p5 p6 Ki; have S := S2; clear S2; obtain ⟨⟨p0, p1, p2, p3, p4, p5, p6⟩, _⟩ := seven S.out.blk)
    | (at_builtin; have ht := S.out.top; refine wpList_append_src _ rfl _ _ 22 rfl (w.heap.size + 1) 9 i0 _ 1 16 Tryd.underlying22 hi0 hz0 hz1 hz2 rfl (by decide) _ 5 _ rfl (S.out.own.alloc _) _ rfl 2 (strsV [tmoB, itB x4]) (.inl ⟨_, 2, rfl, rfl, World.news_of_block (heap_alloc_new _ _)⟩) (strsV_one _) (by unfold maxLen; omega) (by omega) (by rw [World.size_alloc]; omega) ?_; intro a7 c7 w7 ho hg _ _; have S2 : Hid (WrSt w w7 _ (.slice a7 7 c7) 7 [x0, actB, x2, triB, itB x5, tmoB, itB x4]) := S.out.more ho hg; clear S p0 p1 p2 p3 p4 p5 p6 ho hg; have S := S2; clear S2; obtain ⟨⟨p0, p1, p2, p3, p4, p5, p6⟩, _⟩ := seven S.out.blk)
    | fail)
  go_ret
  exact S.out.post (by simp)

set_option maxRecDepth 100000 in
set_option maxHeartbeats 4000000 in
theorem wr1Ntf (w : World) (x0 x2 x3 : ByteArray) (x4 x5 : Int) (l : List ByteArray) (av : Option Addr) (cv : Nat) (hT : TextsAt w (.slice av l.length cv) l) (hl : l.length ≤ 1000000) (T10 : Pow10 w) (h4 : isI64 x4) (h5 : isI64 x5) (ht : x5 ≠ 1) (hd : x4 = 0) (hn : l = []) :
    Calls Tryd.prog 29 #[.agg #[.string x0, .int .i64 1, .string x2, .string x3, .int .i64 x4, .int .i64 x5, .slice av l.length cv]] w (WrPost w ([x0, actB, x2, triB, itB x5])) := by
  obtain ⟨i0, hi0, hz0, hz1, hz2⟩ := info_parts Tryd.info9
  obtain ⟨h4a, h4b⟩ := i64_bounds h4
  obtain ⟨h5a, h5b⟩ := i64_bounds h5
  have HT : Hid (TextsAt w (.slice av l.length cv) l) := hT
  have HP : Hid (Pow10 w) := T10
  have S : Hid (WrSt w ((w.alloc (.cells #[.string x0, .int .i64 1, .string x2, .string x3, .int .i64 x4, .int .i64 x5, .slice av l.length cv] 44)).alloc (.cells #[.string x0] 9)) #[.string x0, .int .i64 1, .string x2, .string x3, .int .i64 x4, .int .i64 x5, .slice av l.length cv] (.slice (some ⟨w.heap.size + 1, 0, none⟩) 1 1) 1 [x0]) := WrSt.begun w _ x0
  obtain ⟨⟨p0, p1, p2, p3, p4, p5, p6⟩, _⟩ := seven S.out.blk
  clear hT T10 h4 h5
  go_enter Tryd.func29, Tryd.ntmps29
  have e0 : ¬ (0 : Int) < (l.length : Int) := by rw [hn]; simp
  clear hn
  have e1 : (x5 != 1) = true := by simp [ht]
  have e2 : (x4 != 0) = false := by simp [hd]
  clear ht hd
  go_wp2_with (first
    | (at_builtin; have ht := S.out.top; refine wpList_append_src _ rfl _ _ 22 rfl (w.heap.size + 1) 9 i0 _ 1 16 Tryd.underlying22 hi0 hz0 hz1 hz2 rfl (by decide) _ 1 _ rfl (S.out.own.alloc _) _ rfl 2 (strsV [actB, x2]) (.inl ⟨_, 2, rfl, rfl, World.news_of_block (heap_new3 _ _ _ _)⟩) (strsV_one _) (by unfold maxLen; omega) (by omega) (by rw [World.size_alloc]; omega) ?_; intro a3 c3 w3 ho hg _ _; have S2 : Hid (WrSt w w3 _ (.slice a3 3 c3) 3 [x0, actB, x2]) := S.out.more ho hg; clear S p0 p1 p2 p3 p4 p5 p6 ho hg; have S := S2; clear S2; obtain ⟨⟨p0, p1, p2, p3, p4, p5, p6⟩, _⟩ := seven S.out.blk)
    | (go_at_call 53; refine (itoa_any _ (HP.out.kept S.out.kept) x5 h5a h5b).mono ?_; rintro e wi ⟨rfl, Ki⟩; have S2 : Hid (WrSt w wi _ _ _ _) := S.out.call Ki; clear S p0 p1 p2 p3 p4 p5 p6 Ki; have S := S2; clear S2; obtain ⟨⟨p0, p1, p2, p3, p4, p5, p6⟩, _⟩ := seven S.out.blk)
    | (at_builtin; have ht := S.out.top; refine wpList_append_src _ rfl _ _ 22 rfl (w.heap.size + 1) 9 i0 _ 1 16 Tryd.underlying22 hi0 hz0 hz1 hz2 rfl (by decide) _ 3 _ rfl (S.out.own.alloc _) _ rfl 2 (strsV [triB, itB x5]) (.inl ⟨_, 2, rfl, rfl, World.news_of_block (heap_alloc_new _ _)⟩) (strsV_one _) (by unfold maxLen; omega) (by omega) (by rw [World.size_alloc]; omega) ?_; intro a5 c5 w5 ho hg _ _; have S2 : Hid (WrSt w w5 _ (.slice a5 5 c5) 5 [x0, actB, x2, triB, itB x5]) := S.out.more ho hg; clear S p0 p1 p2 p3 p4 p5 p6 ho hg; have S := S2; clear S2; obtain ⟨⟨p0, p1, p2, p3, p4, p5, p6⟩, _⟩ := seven S.out.blk)
    | fail)
  go_ret
  exact S.out.post (by simp)

set_option maxRecDepth 100000 in
set_option maxHeartbeats 4000000 in
theorem wr1Nft (w : World) (x0 x2 x3 : ByteArray) (x4 x5 : Int) (l : List ByteArray) (av : Option Addr) (cv : Nat) (hT : TextsAt w (.slice av l.length cv) l) (hl : l.length ≤ 1000000) (T10 : Pow10 w) (h4 : isI64 x4) (h5 : isI64 x5) (ht : x5 = 1) (hd : x4 ≠ 0) (hn : l = []) :
    Calls Tryd.prog 29 #[.agg #[.string x0, .int .i64 1, .string x2, .string x3, .int .i64 x4, .int .i64 x5, .slice av l.length cv]] w (WrPost w ([x0, actB, x2, tmoB, itB x4])) := by
  obtain ⟨i0, hi0, hz0, hz1, hz2⟩ := info_parts Tryd.info9
  obtain ⟨h4a, h4b⟩ := i64_bounds h4
  obtain ⟨h5a, h5b⟩ := i64_bounds h5
  have HT : Hid (TextsAt w (.slice av l.length cv) l) := hT
  have HP : Hid (Pow10 w) := T10
  have S : Hid (WrSt w ((w.alloc (.cells #[.string x0, .int .i64 1, .string x2, .string x3, .int .i64 x4, .int .i64 x5, .slice av l.length cv] 44)).alloc (.cells #[.string x0] 9)) #[.string x0, .int .i64 1, .string x2, .string x3, .int .i64 x4, .int .i64 x5, .slice av l.length cv] (.slice (some ⟨w.heap.size + 1, 0, none⟩) 1 1) 1 [x0]) := WrSt.begun w _ x0
  obtain ⟨⟨p0, p1, p2, p3, p4, p5, p6⟩, _⟩ := seven S.out.blk
  clear hT T10 h4 h5
  go_enter Tryd.func29, Tryd.ntmps29
  have e0 : ¬ (0 : Int) < (l.length : Int) := by rw [hn]; simp
  clear hn
  have e1 : (x5 != 1) = false := by simp [ht]
  have e2 : (x4 != 0) = true := by simp [hd]
  clear ht hd
  go_wp2_with (first
    | (at_builtin; have ht := S.out.top; refine wpList_append_src _ rfl _ _ 22 rfl (w.heap.size + 1) 9 i0 _ 1 16 Tryd.underlying22 hi0 hz0 hz1 hz2 rfl (by decide) _ 1 _ rfl (S.out.own.alloc _) _ rfl 2 (strsV [actB, x2]) (.inl ⟨_, 2, rfl, rfl, World.news_of_block (heap_new3 _ _ _ _)⟩) (strsV_one _) (by unfold maxLen; omega) (by omega) (by rw [World.size_alloc]; omega) ?_; intro a3 c3 w3 ho hg _ _; have S2 : Hid (WrSt w w3 _ (.slice a3 3 c3) 3 [x0, actB, x2]) := S.out.more ho hg; clear S p0 p1 p2 p3 p4 p5 p6 ho hg; have S := S2; clear S2; obtain ⟨⟨p0, p1, p2, p3, p4, p5, p6⟩, _⟩ := seven S.out.blk)
    | (go_at_call 53; refine (itoa_any _ (HP.out.kept S.out.kept) x4 h4a h4b).mono ?_; rintro e wi ⟨rfl, Ki⟩; have S2 : Hid (WrSt w wi _ _ _ _) := S.out.call Ki; clear S p0 p1 p2 p3 p4 p5 p6 Ki; have S := S2; clear S2; obtain ⟨⟨p0, p1, p2, p3, p4, p5, p6⟩, _⟩ := seven S.out.blk)
    | (at_builtin; have ht := S.out.top; refine wpList_append_src _ rfl _ _ 22 rfl (w.heap.size + 1) 9 i0 _ 1 16 Tryd.underlying22 hi0 hz0 hz1 hz2 rfl (by decide) _ 3 _ rfl (S.out.own.alloc _) _ rfl 2 (strsV [tmoB, itB x4]) (.inl ⟨_, 2, rfl, rfl, World.news_of_block (heap_alloc_new _ _)⟩) (strsV_one _) (by unfold maxLen; omega) (by omega) (by rw [World.size_alloc]; omega) ?_; intro a5 c5 w5 ho hg _ _; have S2 : Hid (WrSt w w5 _ (.slice a5 5 c5) 5 [x0, actB, x2, tmoB, itB x4]) := S.out.more ho hg; clear S p0 p1 p2 p3 p4 p5 p6 ho hg; have S := S2; clear S2; obtain ⟨⟨p0, p1, p2, p3, p4, p5, p6⟩, _⟩ := seven S.out.blk)
    | fail)
  go_ret
  exact S.out.post (by simp)

set_option maxRecDepth 100000 in
set_option maxHeartbeats 4000000 in
theorem wr1Nff (w : World) (x0 x2 x3 : ByteArray) (x4 x5 : Int) (l : List ByteArray) (av : Option Addr) (cv : Nat) (hT : TextsAt w (.slice av l.length cv) l) (hl : l.length ≤ 1000000) (T10 : Pow10 w) (h4 : isI64 x4) (h5 : isI64 x5) (ht : x5 = 1) (hd : x4 = 0) (hn : l = []) :
    Calls Tryd.prog 29 #[.agg #[.string x0, .int .i64 1, .string x2, .string x3, .int .i64 x4, .int .i64 x5, .slice av l.length cv]] w (WrPost w ([x0, actB, x2])) := by
  obtain ⟨i0, hi0, hz0, hz1, hz2⟩ := info_parts Tryd.info9
  obtain ⟨h4a, h4b⟩ := i64_bounds h4
  obtain ⟨h5a, h5b⟩ := i64_bounds h5
  have HT : Hid (TextsAt w (.slice av l.length cv) l) := hT
  have HP : Hid (Pow10 w) := T10
  have S : Hid (WrSt w ((w.alloc (.cells #[.string x0, .int .i64 1, .string x2, .string x3, .int .i64 x4, .int .i64 x5, .slice av l.length cv] 44)).alloc (.cells #[.string x0] 9)) #[.string x0, .int .i64 1, .string x2, .string x3, .int .i64 x4, .int .i64 x5, .slice av l.length cv] (.slice (some ⟨w.heap.size + 1, 0, none⟩) 1 1) 1 [x0]) := WrSt.begun w _ x0
  obtain ⟨⟨p0, p1, p2, p3, p4, p5, p6⟩, _⟩ := seven S.out.blk
  clear hT T10 h4 h5
  go_enter Tryd.func29, Tryd.ntmps29
  have e0 : ¬ (0 : Int) < (l.length : Int) := by rw [hn]; simp
  clear hn
  have e1 : (x5 != 1) = false := by simp [ht]
  have e2 : (x4 != 0) = false := by simp [hd]
  clear ht hd
  go_wp2_with (first
    | (at_builtin; have ht := S.out.top; refine wpList_append_src _ rfl _ _ 22 rfl (w.heap.size + 1) 9 i0 _ 1 16 Tryd.underlying22 hi0 hz0 hz1 hz2 rfl (by decide) _ 1 _ rfl (S.out.own.alloc _) _ rfl 2 (strsV [actB, x2]) (.inl ⟨_, 2, rfl, rfl, World.news_of_block (heap_new3 _ _ _ _)⟩) (strsV_one _) (by unfold maxLen; omega) (by omega) (by rw [World.size_alloc]; omega) ?_; intro a3 c3 w3 ho hg _ _; have S2 : Hid (WrSt w w3 _ (.slice a3 3 c3) 3 [x0, actB, x2]) := S.out.more ho hg; clear S p0 p1 p2 p3 p4 p5 p6 ho hg; have S := S2; clear S2; obtain ⟨⟨p0, p1, p2, p3, p4, p5, p6⟩, _⟩ := seven S.out.blk)
    | fail)
  go_ret
  exact S.out.post (by simp)

set_option maxRecDepth 100000 in
set_option maxHeartbeats 4000000 in
theorem wr2N (w : World) (x0 x2 x3 : ByteArray) (x4 x5 : Int) (l : List ByteArray) (av : Option Addr) (cv : Nat) (hT : TextsAt w (.slice av l.length cv) l) (hl : l.length ≤ 1000000) (T10 : Pow10 w) (h4 : isI64 x4) (h5 : isI64 x5) (hn : l = []) :
    Calls Tryd.prog 29 #[.agg #[.string x0, .int .i64 2, .string x2, .string x3, .int .i64 x4, .int .i64 x5, .slice av l.length cv]] w (WrPost w ([x0, timB, itB x4])) := by
  obtain ⟨i0, hi0, hz0, hz1, hz2⟩ := info_parts Tryd.info9
  obtain ⟨h4a, h4b⟩ := i64_bounds h4
  obtain ⟨h5a, h5b⟩ := i64_bounds h5
  have HT : Hid (TextsAt w (.slice av l.length cv) l) := hT
  have HP : Hid (Pow10 w) := T10
  have S : Hid (WrSt w ((w.alloc (.cells #[.string x0, .int .i64 2, .string x2, .string x3, .int .i64 x4, .int .i64 x5, .slice av l.length cv] 44)).alloc (.cells #[.string x0] 9)) #[.string x0, .int .i64 2, .string x2, .string x3, .int .i64 x4, .int .i64 x5, .slice av l.length cv] (.slice (some ⟨w.heap.size + 1, 0, none⟩) 1 1) 1 [x0]) := WrSt.begun w _ x0
  obtain ⟨⟨p0, p1, p2, p3, p4, p5, p6⟩, _⟩ := seven S.out.blk
  clear hT T10 h4 h5
  go_enter Tryd.func29, Tryd.ntmps29
  have e0 : ¬ (0 : Int) < (l.length : Int) := by rw [hn]; simp
  clear hn
  go_wp2_with (first
    | (go_at_call 53; refine (itoa_any _ (HP.out.kept S.out.kept) x4 h4a h4b).mono ?_; rintro e wi ⟨rfl, Ki⟩; have S2 : Hid (WrSt w wi _ _ _ _) := S.out.call Ki; clear S p0 p1 p2 p3 p4 p5 p6 Ki; have S := S2; clear S2; obtain ⟨⟨p0, p1, p2, p3, p4, p5, p6⟩, _⟩ := seven S.out.blk)
    | (at_builtin; have ht := S.out.top; refine wpList_append_src _ rfl _ _ 22 rfl (w.heap.size + 1) 9 i0 _ 1 16 Tryd.underlying22 hi0 hz0 hz1 hz2 rfl (by decide) _ 1 _ rfl (S.out.own.alloc _) _ rfl 2 (strsV [timB, itB x4]) (.inl ⟨_, 2, rfl, rfl, World.news_of_block (heap_alloc_new _ _)⟩) (strsV_one _) (by unfold maxLen; omega) (by omega) (by rw [World.size_alloc]; omega) ?_; intro a3 c3 w3 ho hg _ _; have S2 : Hid (WrSt w w3 _ (.slice a3 3 c3) 3 [x0, timB, itB x4]) := S.out.more ho hg; clear S p0 p1 p2 p3 p4 p5 p6 ho hg; have S := S2; clear S2; obtain ⟨⟨p0, p1, p2, p3, p4, p5, p6⟩, _⟩ := seven S.out.blk)
    | fail)
  go_ret
  exact S.out.post (by simp)

set_option maxRecDepth 100000 in
set_option maxHeartbeats 4000000 in
theorem wr3N (w : World) (x0 x2 x3 : ByteArray) (x4 x5 : Int) (l : List ByteArray) (av : Option Addr) (cv : Nat) (hT : TextsAt w (.slice av l.length cv) l) (hl : l.length ≤ 1000000) (T10 : Pow10 w) (h4 : isI64 x4) (h5 : isI64 x5) (hn : l = []) :
    Calls Tryd.prog 29 #[.agg #[.string x0, .int .i64 3, .string x2, .string x3, .int .i64 x4, .int .i64 x5, .slice av l.length cv]] w (WrPost w ([x0, chiB, x2])) := by
  obtain ⟨i0, hi0, hz0, hz1, hz2⟩ := info_parts Tryd.info9
  obtain ⟨h4a, h4b⟩ := i64_bounds h4
  obtain ⟨h5a, h5b⟩ := i64_bounds h5
  have HT : Hid (TextsAt w (.slice av l.length cv) l) := hT
  have HP : Hid (Pow10 w) := T10
  have S : Hid (WrSt w ((w.alloc (.cells #[.string x0, .int .i64 3, .string x2, .string x3, .int .i64 x4, .int .i64 x5, .slice av l.length cv] 44)).alloc (.cells #[.string x0] 9)) #[.string x0, .int .i64 3, .string x2, .string x3, .int .i64 x4, .int .i64 x5, .slice av l.length cv] (.slice (some ⟨w.heap.size + 1, 0, none⟩) 1 1) 1 [x0]) := WrSt.begun w _ x0
  obtain ⟨⟨p0, p1, p2, p3, p4, p5, p6⟩, _⟩ := seven S.out.blk
  clear hT T10 h4 h5
  go_enter Tryd.func29, Tryd.ntmps29
  have e0 : ¬ (0 : Int) < (l.length : Int) := by rw [hn]; simp
  clear hn
  go_wp2_with (first
    | (at_builtin; have ht := S.out.top; refine wpList_append_src _ rfl _ _ 22 rfl (w.heap.size + 1) 9 i0 _ 1 16 Tryd.underlying22 hi0 hz0 hz1 hz2 rfl (by decide) _ 1 _ rfl (S.out.own.alloc _) _ rfl 2 (strsV [chiB, x2]) (.inl ⟨_, 2, rfl, rfl, World.news_of_block (heap_new3 _ _ _ _)⟩) (strsV_one _) (by unfold maxLen; omega) (by omega) (by rw [World.size_alloc]; omega) ?_; intro a3 c3 w3 ho hg _ _; have S2 : Hid (WrSt w w3 _ (.slice a3 3 c3) 3 [x0, chiB, x2]) := S.out.more ho hg; clear S p0 p1 p2 p3 p4 p5 p6 ho hg; have S := S2; clear S2; obtain ⟨⟨p0, p1, p2, p3, p4, p5, p6⟩, _⟩ := seven S.out.blk)
    | fail)
  go_ret
  exact S.out.post (by simp)

set_option maxRecDepth 100000 in
set_option maxHeartbeats 4000000 in
theorem wr4N (w : World) (x0 x2 x3 : ByteArray) (x4 x5 : Int) (l : List ByteArray) (av : Option Addr) (cv : Nat) (hT : TextsAt w (.slice av l.length cv) l) (hl : l.length ≤ 1000000) (T10 : Pow10 w) (h4 : isI64 x4) (h5 : isI64 x5) (hn : l = []) :
    Calls Tryd.prog 29 #[.agg #[.string x0, .int .i64 4, .string x2, .string x3, .int .i64 x4, .int .i64 x5, .slice av l.length cv]] w (WrPost w ([x0, waiB, x2])) := by
  obtain ⟨i0, hi0, hz0, hz1, hz2⟩ := info_parts Tryd.info9
  obtain ⟨h4a, h4b⟩ := i64_bounds h4
  obtain ⟨h5a, h5b⟩ := i64_bounds h5
  have HT : Hid (TextsAt w (.slice av l.length cv) l) := hT
  have HP : Hid (Pow10 w) := T10
  have S : Hid (WrSt w ((w.alloc (.cells #[.string x0, .int .i64 4, .string x2, .string x3, .int .i64 x4, .int .i64 x5, .slice av l.length cv] 44)).alloc (.cells #[.string x0] 9)) #[.string x0, .int .i64 4, .string x2, .string x3, .int .i64 x4, .int .i64 x5, .slice av l.length cv] (.slice (some ⟨w.heap.size + 1, 0, none⟩) 1 1) 1 [x0]) := WrSt.begun w _ x0
  obtain ⟨⟨p0, p1, p2, p3, p4, p5, p6⟩, _⟩ := seven S.out.blk
  clear hT T10 h4 h5
  go_enter Tryd.func29, Tryd.ntmps29
  have e0 : ¬ (0 : Int) < (l.length : Int) := by rw [hn]; simp
  clear hn
  go_wp2_with (first
    | (at_builtin; have ht := S.out.top; refine wpList_append_src _ rfl _ _ 22 rfl (w.heap.size + 1) 9 i0 _ 1 16 Tryd.underlying22 hi0 hz0 hz1 hz2 rfl (by decide) _ 1 _ rfl (S.out.own.alloc _) _ rfl 2 (strsV [waiB, x2]) (.inl ⟨_, 2, rfl, rfl, World.news_of_block (heap_new3 _ _ _ _)⟩) (strsV_one _) (by unfold maxLen; omega) (by omega) (by rw [World.size_alloc]; omega) ?_; intro a3 c3 w3 ho hg _ _; have S2 : Hid (WrSt w w3 _ (.slice a3 3 c3) 3 [x0, waiB, x2]) := S.out.more ho hg; clear S p0 p1 p2 p3 p4 p5 p6 ho hg; have S := S2; clear S2; obtain ⟨⟨p0, p1, p2, p3, p4, p5, p6⟩, _⟩ := seven S.out.blk)
    | fail)
  go_ret
  exact S.out.post (by simp)

set_option maxRecDepth 100000 in
set_option maxHeartbeats 4000000 in
theorem wr5N (w : World) (x0 x2 x3 : ByteArray) (x4 x5 : Int) (l : List ByteArray) (av : Option Addr) (cv : Nat) (hT : TextsAt w (.slice av l.length cv) l) (hl : l.length ≤ 1000000) (T10 : Pow10 w) (h4 : isI64 x4) (h5 : isI64 x5) (hn : l = []) :
    Calls Tryd.prog 29 #[.agg #[.string x0, .int .i64 5, .string x2, .string x3, .int .i64 x4, .int .i64 x5, .slice av l.length cv]] w (WrPost w ([x0, senB, x3, x2])) := by
  obtain ⟨i0, hi0, hz0, hz1, hz2⟩ := info_parts Tryd.info9
  obtain ⟨h4a, h4b⟩ := i64_bounds h4
  obtain ⟨h5a, h5b⟩ := i64_bounds h5
  have HT : Hid (TextsAt w (.slice av l.length cv) l) := hT
  have HP : Hid (Pow10 w) := T10
  have S : Hid (WrSt w ((w.alloc (.cells #[.string x0, .int .i64 5, .string x2, .string x3, .int .i64 x4, .int .i64 x5, .slice av l.length cv] 44)).alloc (.cells #[.string x0] 9)) #[.string x0, .int .i64 5, .string x2, .string x3, .int .i64 x4, .int .i64 x5, .slice av l.length cv] (.slice (some ⟨w.heap.size + 1, 0, none⟩) 1 1) 1 [x0]) := WrSt.begun w _ x0
  obtain ⟨⟨p0, p1, p2, p3, p4, p5, p6⟩, _⟩ := seven S.out.blk
  clear hT T10 h4 h5
  go_enter Tryd.func29, Tryd.ntmps29
  have e0 : ¬ (0 : Int) < (l.length : Int) := by rw [hn]; simp
  clear hn
  go_wp2_with (first
    | (at_builtin; have ht := S.out.top; refine wpList_append_src _ rfl _ _ 22 rfl (w.heap.size + 1) 9 i0 _ 1 16 Tryd.underlying22 hi0 hz0 hz1 hz2 rfl (by decide) _ 1 _ rfl (S.out.own.alloc _) _ rfl 3 (strsV [senB, x3, x2]) (.inl ⟨_, 3, rfl, rfl, World.news_of_block (heap_new3 _ _ _ _)⟩) (strsV_one _) (by unfold maxLen; omega) (by omega) (by rw [World.size_alloc]; omega) ?_; intro a4 c4 w4 ho hg _ _; have S2 : Hid (WrSt w w4 _ (.slice a4 4 c4) 4 [x0, senB, x3, x2]) := S.out.more ho hg; clear S p0 p1 p2 p3 p4 p5 p6 ho hg; have S := S2; clear S2; obtain ⟨⟨p0, p1, p2, p3, p4, p5, p6⟩, _⟩ := seven S.out.blk)
    | fail)
  go_ret
  exact S.out.post (by simp)

/-- The words of a node that is right. -/
theorem written_any (w : World) (n : Nd) (av : Option Addr) (cv : Nat) (hT : TextsAt w (.slice av n.after.length cv) n.after) (hl : n.after.length ≤ 1000000) (T10 : Pow10 w) (h4 : isI64 n.delay) (h5 : isI64 n.tries) (R : NdRight n) :
    Calls Tryd.prog 29 #[.agg #[.string n.name, .int .i64 n.kind, .string n.arg, .string n.to, .int .i64 n.delay, .int .i64 n.tries, .slice av n.after.length cv]] w (WrPost w (wordsW n)) := by
  obtain ⟨k, ws, hk⟩ := kindW_cons R
  obtain ⟨x0, x1, x2, x3, x4, x5, l⟩ := n
  simp only [] at hT hl h4 h5 ⊢
  unfold wordsW
  unfold kindW at hk ⊢
  unfold aftW
  simp only [] at hk ⊢
  clear R
  have hx1 : x1 = 1 ∨ x1 = 2 ∨ x1 = 3 ∨ x1 = 4 ∨ x1 = 5 := by
    by_cases k1 : x1 = 1; · exact .inl k1
    by_cases k2 : x1 = 2; · exact .inr (.inl k2)
    by_cases k3 : x1 = 3; · exact .inr (.inr (.inl k3))
    by_cases k4 : x1 = 4; · exact .inr (.inr (.inr (.inl k4)))
    by_cases k5 : x1 = 5; · exact .inr (.inr (.inr (.inr k5)))
    simp [k1, k2, k3, k4, k5] at hk
  clear hk
  by_cases hn : l = []
  · rw [if_pos hn]
    rcases hx1 with rfl | rfl | rfl | rfl | rfl
    · by_cases ht : x5 = 1
      · by_cases hd : x4 = 0
        · simpa [ht, hd] using wr1Nff w x0 x2 x3 x4 x5 l av cv hT hl T10 h4 h5 ht hd hn
        · simpa [ht, hd] using wr1Nft w x0 x2 x3 x4 x5 l av cv hT hl T10 h4 h5 ht hd hn
      · by_cases hd : x4 = 0
        · simpa [ht, hd] using wr1Ntf w x0 x2 x3 x4 x5 l av cv hT hl T10 h4 h5 ht hd hn
        · simpa [ht, hd] using wr1Ntt w x0 x2 x3 x4 x5 l av cv hT hl T10 h4 h5 ht hd hn
    · simpa using wr2N w x0 x2 x3 x4 x5 l av cv hT hl T10 h4 h5 hn
    · simpa using wr3N w x0 x2 x3 x4 x5 l av cv hT hl T10 h4 h5 hn
    · simpa using wr4N w x0 x2 x3 x4 x5 l av cv hT hl T10 h4 h5 hn
    · simpa using wr5N w x0 x2 x3 x4 x5 l av cv hT hl T10 h4 h5 hn
  · rw [if_neg hn]
    have hn : 0 < l.length := List.length_pos_iff.2 hn
    rcases hx1 with rfl | rfl | rfl | rfl | rfl
    · by_cases ht : x5 = 1
      · by_cases hd : x4 = 0
        · simpa [ht, hd] using wr1Aff w x0 x2 x3 x4 x5 l av cv hT hl T10 h4 h5 ht hd hn
        · simpa [ht, hd] using wr1Aft w x0 x2 x3 x4 x5 l av cv hT hl T10 h4 h5 ht hd hn
      · by_cases hd : x4 = 0
        · simpa [ht, hd] using wr1Atf w x0 x2 x3 x4 x5 l av cv hT hl T10 h4 h5 ht hd hn
        · simpa [ht, hd] using wr1Att w x0 x2 x3 x4 x5 l av cv hT hl T10 h4 h5 ht hd hn
    · simpa using wr2A w x0 x2 x3 x4 x5 l av cv hT hl T10 h4 h5 hn
    · simpa using wr3A w x0 x2 x3 x4 x5 l av cv hT hl T10 h4 h5 hn
    · simpa using wr4A w x0 x2 x3 x4 x5 l av cv hT hl T10 h4 h5 hn
    · simpa using wr5A w x0 x2 x3 x4 x5 l av cv hT hl T10 h4 h5 hn

end Go.Proofs.YtlholgpenpfpbaaDoor
