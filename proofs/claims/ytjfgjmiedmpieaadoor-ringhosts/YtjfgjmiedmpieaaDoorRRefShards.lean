/-
  The document's Shards.
-/
import Derived.Test.YtjfgjmiedmpieaaDoorRRefHost
namespace Go.Proofs.YtjfgjmiedmpieaaDoor
open Go.RowKit Go.Sort

set_option maxRecDepth 100000 in
set_option maxHeartbeats 2000000 in
theorem refShards_any (w : World) (rb : Nat) (l : List Sp) (R : RefAt w rb l) (hs : l.Pairwise noLater) (h : Int) (n : Nat) (hn : n ≤ 16) :
    Calls Tryd.prog 13 #[.pointer (some ⟨rb, 0, none⟩), .int .i64 h, .int .i64 n] w fun e w' => ∃ a c, e = .returned (.slice a (shL l h n).length c) ∧ w'.ownsRow w.heap.size 3 1 (.slice a (shL l h n).length c) (shL l h n).length (nats (shL l h n)) ∧ Kept (fun _ => False) w w' := by
  obtain ⟨i0, hi, hz0, hz1, hz2⟩ := info_parts Tryd.info3
  have e16 : (n : Int) ≤ 16 := by omega
  go_enter Tryd.func13, Tryd.ntmps13
  go_wp2
  go_loopw [7, 8] (fun v i wr => ∃ (k : Nat) (a : Option Addr) (c : Nat), k ≤ n ∧ i = .int .i64 k ∧ v = .slice a (shL l h k).length c ∧ wr.ownsRow w.heap.size 3 1 (.slice a (shL l h k).length c) (shL l h k).length (nats (shL l h k)) ∧ Kept (fun k => w.heap.size ≤ k) w wr) (fun _ i _ => n - (intOf i).toNat)
  case atStart => exact ⟨0, none, 0, Nat.zero_le _, rfl, rfl, World.ownsRow_nil _ _ _ _, Kept.refl _ _⟩
  case round =>
    obtain ⟨k, a, c, hk, rfl, rfl, ho, K⟩ := hrel
    have KF : Kept (fun _ => False) w wr := (Kept.refl (fun _ => False) w).trans K (fun _ h => .inr h)
    have hb := K.size
    by_cases hlt : k < n
    · have e0 : (k : Int) < (n : Int) := by omega
      have e1 : (k : Int) < 16 := by omega
      have H := refHost_any wr rb l (R.kept KF) hs (k : Int) (by omega) (by omega)
      have hln := shL_len l h k
      have HN : Hid (shL l h (k + 1) = shL l h k ++ (if own l h k then [k] else [])) := shL_next l h k
      cases hh : hostAt l (shardPt (k : Int)) with
      | none =>
        have HQ : Hid (own l h k = false) := by show (_ == _) = false; rw [hh]; rfl
        rw [hh] at H
        simp only [Option.getD_none, Option.isSome_none] at H
        clear hh
        go_wp2_with (first
          | (go_at_call 11; refine H.mono ?_; rintro e w1 ⟨rfl, K1⟩; clear H)
          | fail)
        go_roundw
        case rel => exact ⟨k + 1, a, c, by omega, by go_num, by rw [HN.out, HQ.out]; simp, by rw [HN.out, HQ.out]; simpa using rowKept ho K1 (fun _ _ h => h), K.trans K1 (fun _ h => h.elim)⟩
        case measure => simp [intOf]; omega
      | some v =>
        rw [hh] at H
        simp only [Option.getD_some, Option.isSome_some] at H
        by_cases hv : v = h
        · have HQ : Hid (own l h k = true) := by show (_ == _) = true; rw [hh, hv]; simp
          subst hv
          clear hh
          go_wp2_with (first
            | (go_at_call 11; refine H.mono ?_; rintro e w1 ⟨rfl, K1⟩; have hb1 := K1.size; clear H)
            | (at_builtin; refine wpList_append_src _ rfl _ _ 22 rfl w.heap.size 3 i0 _ 1 8 Tryd.underlying22 hi hz0 hz1 hz2 rfl (by decide) (.slice a (shL l v k).length c) (shL l v k).length _ rfl ((rowKept ho K1 (fun _ _ h => h)).alloc _) _ rfl 1 [.int .i64 (k : Int)] (.inl ⟨_, 1, rfl, rfl, World.news_of_block (heap_alloc_new _ _)⟩) (by simp [Value.oneCell']) (by unfold maxLen; omega) (by omega) (by simp; omega) ?_; intro a3 cap3 w3 ho3 hg3 _ hl3)
            | fail)
          go_roundw
          case rel => exact ⟨k + 1, a3, cap3, by omega, by go_num, by rw [HN.out, HQ.out]; simp, by rw [HN.out, HQ.out]; simpa [nats] using ho3, ((K.trans K1 (fun _ h => h.elim)).and (Kept.alloc _ _ _)).and (Kept.grown hg3 (fun k e => (ho.lt k e).1))⟩
          case measure => simp [intOf]; omega
        · have HQ : Hid (own l h k = false) := by show (_ == _) = false; rw [hh]; simpa using hv
          have g0 : (v == h) = false := by simpa using hv
          clear hh
          go_wp2_with (first
            | (go_at_call 11; refine H.mono ?_; rintro e w1 ⟨rfl, K1⟩; clear H)
            | fail)
          go_roundw
          case rel => exact ⟨k + 1, a, c, by omega, by go_num, by rw [HN.out, HQ.out]; simp, by rw [HN.out, HQ.out]; simpa using rowKept ho K1 (fun _ _ h => h), K.trans K1 (fun _ h => h.elim)⟩
          case measure => simp [intOf]; omega
    · have e0 : ¬ (k : Int) < (n : Int) := by omega
      obtain rfl : k = n := by omega
      go_wp2
      go_ret
      exact ⟨a, c, rfl, ho, KF⟩

end Go.Proofs.YtjfgjmiedmpieaaDoor
