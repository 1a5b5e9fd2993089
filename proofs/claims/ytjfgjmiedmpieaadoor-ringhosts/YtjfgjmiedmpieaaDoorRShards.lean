/-
  Shards: those that are a host's.
-/
import Derived.Test.YtjfgjmiedmpieaaDoorRHosts
namespace Go.Proofs.YtjfgjmiedmpieaaDoor
open Go.RowKit Go.Sort

/-- Whose what lies at p is: the number of a host, if there is one. -/
def hostAt (l : List Sp) (p : Pt) : Option Int := (l[l.countP (fun x => ahead x.1 p) % l.length]?).map (·.2)

theorem hostAt_nil (p : Pt) : hostAt [] p = none := rfl

theorem hostAt_next {l : List Sp} {p : Pt} {x : Sp} (hs : l.Pairwise noLater) (hx : IsNext l p x) : hostAt l p = some x.2 := by
  have h0 : 0 < l.length := List.length_pos_of_mem hx.1
  have hlt : l.countP (fun x => ahead x.1 p) % l.length < l.length := Nat.mod_lt _ h0
  have h1 := isNext_at p l hs h0 hlt
  unfold hostAt
  rw [List.getElem?_eq_getElem hlt, h1.unique hx]
  rfl

/-- Is shard j host h's? -/
def own (l : List Sp) (h : Int) (j : Nat) : Bool := hostAt l (shardPt j) == some h
/-- A host's shards among the first n. -/
def shL (l : List Sp) (h : Int) (n : Nat) : List Nat := (List.range n).filter (own l h)

theorem shL_next (l : List Sp) (h : Int) (k : Nat) : shL l h (k + 1) = shL l h k ++ (if own l h k then [k] else []) := by
  unfold shL
  rw [List.range_succ, List.filter_append]
  congr 1
  cases hk : own l h k
  · simp [hk]
  · simp [hk]

theorem shL_len (l : List Sp) (h : Int) (n : Nat) : (shL l h n).length ≤ n := by
  have := List.length_filter_le (own l h) (List.range n)
  rw [List.length_range] at this
  exact this

def nats (l : List Nat) : List Value := l.map (fun j : Nat => Value.int .i64 (j : Int))

theorem nats_ints (l : List Nat) : nats l = (l.map (fun j : Nat => (j : Int))).map (Value.int .i64) := by
  unfold nats
  rw [List.map_map]
  rfl

/-- Host at a number below a hundred, told by hostAt. -/
theorem hostDet_any (w : World) (rb : Nat) (l : List Sp) (R : RingAt w rb l) (hs : l.Pairwise noLater) (s : Nat) (h : s < 100) :
    Calls Tryd.prog 10 #[.pointer (some ⟨rb, 0, none⟩), .int .i64 (s : Int)] w fun e w' => e = .returned (.tuple #[.int .i64 ((hostAt l (shardPt s)).getD 0), .bool (hostAt l (shardPt s)).isSome]) ∧ Kept (fun _ => False) w w' :=
  (hostSmall_any w rb l R hs s h).mono fun e w' ⟨K, hc⟩ => by
    refine ⟨?_, K⟩
    rcases hc with ⟨hl, he⟩ | ⟨x, hx, he⟩
    · rw [he, hl, hostAt_nil]; rfl
    · rw [he, hostAt_next hs hx]; rfl

set_option maxRecDepth 100000 in
set_option maxHeartbeats 2000000 in
theorem shards_any (w : World) (rb : Nat) (l : List Sp) (R : RingAt w rb l) (hs : l.Pairwise noLater) (h : Int) (n : Nat) (hn : n ≤ 16) :
    Calls Tryd.prog 12 #[.pointer (some ⟨rb, 0, none⟩), .int .i64 h, .int .i64 n] w fun e w' => ∃ a c, e = .returned (.slice a (shL l h n).length c) ∧ w'.ownsRow w.heap.size 3 1 (.slice a (shL l h n).length c) (shL l h n).length (nats (shL l h n)) ∧ Kept (fun _ => False) w w' := by
  obtain ⟨i0, hi, hz0, hz1, hz2⟩ := info_parts Tryd.info3
  have hmin : min (n : Int) 16 = (n : Int) := by omega
  have e16 : (n : Int) ≤ 16 := by omega
  go_enter Tryd.func12, Tryd.ntmps12
  go_wp2
  clear hmin
  go_loopw [7, 13] (fun v i wr => ∃ (k : Nat) (a : Option Addr) (c : Nat), k ≤ n ∧ i = .int .i64 k ∧ v = .slice a (shL l h k).length c ∧ wr.ownsRow w.heap.size 3 1 (.slice a (shL l h k).length c) (shL l h k).length (nats (shL l h k)) ∧ Kept (fun k => w.heap.size ≤ k) w wr) (fun _ i _ => n - (intOf i).toNat)
  case atStart => exact ⟨0, none, 0, Nat.zero_le _, rfl, rfl, World.ownsRow_nil _ _ _ _, Kept.refl _ _⟩
  case round =>
    obtain ⟨k, a, c, hk, rfl, rfl, ho, K⟩ := hrel
    have KF : Kept (fun _ => False) w wr := (Kept.refl (fun _ => False) w).trans K (fun _ h => .inr h)
    have hb := K.size
    by_cases hlt : k < n
    · have e0 : (k : Int) < (n : Int) := by omega
      have H := hostSmall_any wr rb l (R.kept KF) hs k (by omega)
      have hln := shL_len l h k
      have hnx := shL_next l h k
      have HN : Hid (shL l h (k + 1) = shL l h k ++ (if own l h k then [k] else [])) := hnx
      clear hnx
      go_wp2_with (first
        | (go_at_call 10; refine H.mono ?_; rintro e w1 ⟨K1, (⟨hl, rfl⟩ | ⟨x, hx, rfl⟩)⟩; have HQ : Hid (own l h k = false) := (by subst hl; rfl); clear hl H; rotate_left; have hha := hostAt_next hs hx; by_cases hxh : x.2 = h; have HQ : Hid (own l h k = true) := (by show (_ == _) = true; rw [hha, hxh]; simp); clear hha H; rotate_left; have HQ : Hid (own l h k = false) := (by show (_ == _) = false; rw [hha]; simpa using hxh); clear hha H; rotate_left)
        | (at_builtin; refine wpList_append_src _ rfl _ _ 22 rfl w.heap.size 3 i0 _ 1 8 Tryd.underlying22 hi hz0 hz1 hz2 rfl (by decide) (.slice a (shL l h k).length c) (shL l h k).length _ rfl ((rowKept ho K1 (fun _ _ h => h)).alloc _) _ rfl 1 [.int .i64 (k : Int)] (.inl ⟨_, 1, rfl, rfl, World.news_of_block (heap_alloc_new _ _)⟩) (by simp [Value.oneCell']) (by unfold maxLen; omega) (by omega) (by have := K1.size; simp; omega) ?_; intro a3 cap3 w3 ho3 hg3 _ hl3)
        | fail)
      all_goals
        go_roundw
        case rel =>
          first
          | exact ⟨k + 1, a, c, by omega, by go_num, by rw [HN.out, HQ.out]; simp, by rw [HN.out, HQ.out]; simpa using rowKept ho K1 (fun _ _ h => h), K.trans K1 (fun _ h => h.elim)⟩
          | exact ⟨k + 1, a3, cap3, by omega, by go_num, by rw [HN.out, HQ.out]; simp, by rw [HN.out, HQ.out]; simpa [nats] using ho3, ((K.trans K1 (fun _ h => h.elim)).and (Kept.alloc _ _ _)).and (Kept.grown hg3 (fun k e => (ho.lt k e).1))⟩
        case measure => simp [intOf]; omega
    · have e0 : ¬ (k : Int) < (n : Int) := by omega
      obtain rfl : k = n := by omega
      go_wp2
      go_ret
      exact ⟨a, c, rfl, ho, KF⟩

end Go.Proofs.YtjfgjmiedmpieaaDoor
