/-
  The document's writer in memory: a number.
-/
import Derived.Test.YtceocmhgbcimoaaCWrMore
namespace Go.Proofs.Ytceocmhgbcimoaa
open Go.RowKit

theorem ownsOne (w : World) (base : Nat) (x : Int) (hb : base ≤ w.heap.size) : (w.alloc (.cells #[.int .u8 x] 5)).ownsRow base 5 1 (.slice (some ⟨w.heap.size, 0, none⟩) 1 1) 1 [.int .u8 x] :=
  ⟨rfl, .inr ⟨w.heap.size, 1, #[.int .u8 x], rfl, hb, heap_alloc_new w _, Nat.le_refl _, by simp [maxLen], rfl, rfl⟩⟩

theorem srcOwn {w : World} {base n : Nat} {v : Value} {xs : List Value} (h : w.ownsRow base 5 1 v n xs) : Src w 1 v n xs := by
  have h1 := h.1
  rcases h.2 with ⟨rfl, rfl⟩ | ⟨g, cap, cur, rfl, _⟩
  · exact .inr ⟨0, rfl, rfl, List.eq_nil_of_length_eq_zero (by simpa using h1)⟩
  · exact .inl ⟨_, cap, rfl, h1, h.cells rfl⟩

theorem sz_pos_lt {n j : Nat} (hn : n ≤ 4503599627370496) (h : 256 ^ j ≤ n) : j < sz n := by
  have h1 := sz_lt hn
  have h2 : 256 ^ j < 256 ^ sz n := Nat.lt_of_le_of_lt h h1
  exact (Nat.pow_lt_pow_iff_right (by decide)).1 h2

theorem sz_end {n j : Nat} (hj : j ≤ sz n) (h : n / 256 ^ j = 0) : j = sz n := by
  have hp : 0 < 256 ^ j := Nat.pow_pos (by decide)
  have h1 : n < 256 ^ j := (Nat.div_eq_zero_iff_lt hp).1 h
  rcases Nat.lt_or_ge j (sz n) with h2 | h2
  · have h3 := sz_low (n := n) (by omega)
    have h4 : 256 ^ j ≤ 256 ^ (sz n - 1) := Nat.pow_le_pow_right (by decide) (by omega)
    omega
  · omega

theorem WAt.stands {w w3 : World} {ty : TypeId} {base p : Nat} {v : Value} {raw : List Int} {bad : Bool} (A : WAt w ty base p v raw bad) (K : Kept (fun k => v.ownBlock = some k) w w3) : w3.cell? ⟨p, 0, none⟩ = some v ∧ w3.frozen? ⟨p, 0, none⟩ = false := by
  have hk := K.block p A.lt A.ne
  exact ⟨by simp [World.cell?, hk, A.head], by simp [World.frozen?, hk, A.head]⟩

/-- An append onto what an append has made. -/
theorem grown2 {w w3 w4 : World} {o : Obj} {v v3 : Value} (K : Kept (fun k => v.ownBlock = some k) w w3) (hg : w3.grownBy w4 v3.ownBlock) (hl : v3.ownBlock = v.ownBlock ∨ v3.ownBlock = some (w.alloc o).heap.size) : Kept (fun k => v.ownBlock = some k) w w4 := by
  refine K.trans (Kept.grown (S := fun k => v3.ownBlock = some k) hg (fun k e => e)) (fun k h => ?_)
  rcases hl with e | e
  · left; rw [← e]; exact h
  · right
    rw [e] at h
    have := Option.some.inj h
    simp at this
    omega

set_option maxRecDepth 100000 in
set_option maxHeartbeats 400000 in
theorem xnum_bad {w : World} {base p : Nat} {v : Value} {raw : List Int} {bad : Bool} (A : WAt w 134 base p v raw bad) (n lo hi : Int) (h : n < lo ∨ hi < n) :
    Calls Try.prog 88 #[.pointer (some ⟨p, 0, none⟩), .int .i64 n, .int .i64 lo, .int .i64 hi] w fun e w' => e = .returned (.tuple #[]) ∧ w' = w.setCell ⟨p, 1, none⟩ (.bool true) := by
  have c1 := A.c1
  have f1 := A.fz 1
  by_cases h1 : n < lo
  · go_enter Try.func88, Try.ntmps88
    go_wp2
    refine bodyPost_ret (results_none rfl _ _ _) rfl ?_
    exact ⟨rfl, rfl⟩
  · have h2 : hi < n := by omega
    go_enter Try.func88, Try.ntmps88
    go_wp2
    refine bodyPost_ret (results_none rfl _ _ _) rfl ?_
    exact ⟨rfl, rfl⟩

set_option maxRecDepth 100000 in
set_option maxHeartbeats 1000000 in
theorem xnum_ok {w : World} {base p : Nat} {v : Value} {raw : List Int} {bad : Bool} (A : WAt w 134 base p v raw bad) (n : Nat) (lo hi : Int) (h1 : lo ≤ n) (h2 : (n : Int) ≤ hi) (h3 : hi ≤ 4503599627370496) (hL : raw.length ≤ 2199023255552) :
    Calls Try.prog 88 #[.pointer (some ⟨p, 0, none⟩), .int .i64 n, .int .i64 lo, .int .i64 hi] w fun e w' => e = .returned (.tuple #[]) ∧ (∃ v', WAt w' 134 base p v' (raw ++ numB n) bad) ∧ Keep2 base p w w' := by
  obtain ⟨i0, hi0, hz0, hz1, hz2⟩ := info_parts Try.info5
  have hs7 := sz_le n
  have hn1 : ¬ (n : Int) < lo := by omega
  have hn2 : ¬ hi < (n : Int) := by omega
  have hn : n ≤ 4503599627370496 := by omega
  go_enter Try.func88, Try.ntmps88
  go_wp2
  go_loopw [8, 9] (fun u i wr => ∃ (j x : Nat), x = n / 256 ^ j ∧ j ≤ sz n ∧ i = .int .i64 x ∧ wr.ownsRow w.heap.size 5 1 u j ((low j n).map (Value.int .u8)) ∧ Kept (fun _ => False) w wr) (fun _ i _ => (intOf i).toNat)
  case atStart => exact ⟨0, n, by simp, Nat.zero_le _, rfl, World.ownsRow_nil _ _ _ _, Kept.refl _ _⟩
  case round =>
    obtain ⟨j, x, hx, hj, rfl, ho, K⟩ := hrel
    have hxn : x ≤ n := by rw [hx]; exact Nat.div_le_self _ _
    have HX : Hid (x = n / 256 ^ j) := hx
    have hsz := K.size
    obtain ⟨a8, c8, rfl⟩ := ownsRow_shape ho
    clear hx
    by_cases hx0 : 0 < x
    · have hjs : j < sz n := sz_pos_lt hn (by
        rcases Nat.lt_or_ge n (256 ^ j) with h | h
        · have := HX.out; rw [Nat.div_eq_of_lt h] at this; omega
        · exact h)
      have hx1 : (0 : Int) < (x : Int) := by omega
      have one := fun y => ownsOne wr w.heap.size y (by omega)
      have src := fun y => srcOwn (ho.alloc (.cells #[.int .u8 y] 5))
      have ones := oneCells (low j n)
      have HO : Hid _ := ho
      clear ho
      go_wp2_with (first
        | (at_builtin; refine wpList_append_src _ rfl _ _ 28 rfl w.heap.size 5 i0 (.int .u8 0) 1 1 Try.underlying28 hi0 hz0 hz1 hz2 rfl (by decide) (.slice (some ⟨wr.heap.size, 0, none⟩) 1 1) 1 _ rfl (one _) _ rfl j _ (src _) ones (by unfold maxLen; omega) (by omega) (by simp; omega) ?_; intro a3 cap3 w3 ho3 hg3 _ hl3)
        | fail)
      have hlow : (low (j + 1) n).map (Value.int .u8) = .int .u8 ((x : Int) % 256) :: (low j n).map (Value.int .u8) := by
        rw [low, List.map_cons, ← HX.out]
        congr 1
      have K3 : Kept (fun _ => False) w w3 := (K.and (Kept.alloc _ _ _)).trans (Kept.grown (S := fun k => w.heap.size ≤ k) hg3 (fun k e => by have : k = wr.heap.size := (Option.some.inj e).symm; omega)) (fun _ h => .inr h)
      rw [Nat.add_comm 1 j] at ho3 ⊢
      have e1 : ((x : Int) / 256) = ((x / 256 : Nat) : Int) := by omega
      rw [e1]
      go_roundw
      case rel => exact ⟨j + 1, x / 256, by rw [HX.out, Nat.pow_succ, Nat.div_div_eq_div_mul], hjs, rfl, by rw [hlow]; exact ho3, K3⟩
      case measure => simp [intOf]; omega
    · obtain rfl : x = 0 := by omega
      have hjz := sz_end hj HX.out.symm
      subst hjz
      have A1 := A.kept K (fun _ h => h.elim)
      obtain ⟨a, c, rfl⟩ := ownsRow_shape A1.row
      have y0 := A1.c0
      have ra := A1.row.alloc (.cells #[.int .u8 (sz n)] 5)
      have k2 := fun w3 => A1.after (w3 := w3) (o := .cells #[.int .u8 (sz n)] 5)
      have hb : base ≤ (wr.alloc (.cells #[.int .u8 (sz n)] 5)).heap.size := by have := A1.hb; simp; omega
      have hbp := A.bp
      have hb3 : ∀ w3, Kept (fun k => (Value.slice a raw.length c).ownBlock = some k) wr w3 → w3.ownsRow w.heap.size 5 1 (.slice a8 (sz n) c8) (sz n) ((low (sz n) n).map (Value.int .u8)) ∧ base ≤ w3.heap.size := fun w3 K3 =>
        ⟨ownsRow_block' ho (fun k hk => K3.block k (ho.lt k hk).2 (fun e => by have h5 := (ho.lt k hk).1; have h6 := (A.row.lt k e).2; omega)), Nat.le_trans A1.hb K3.size⟩
      have HA : Hid (WAt wr 134 base p (.slice a raw.length c) raw bad) := A1
      have ones := oneCells (low (sz n) n)
      have HO : Hid _ := ho
      clear A A1 ho
      go_wp2_with (first
        | (at_builtin; have _t := k2; refine wpList_append_src _ rfl _ _ 28 rfl base 5 i0 (.int .u8 0) 1 1 Try.underlying28 hi0 hz0 hz1 hz2 rfl (by decide) (.slice a raw.length c) raw.length _ rfl ra _ rfl 1 _ srcNew (by simp [Value.oneCell']) (by unfold maxLen; omega) (by omega) hb ?_; intro a3 cap3 w3 ho3 hg3 _ hl3; obtain ⟨y3, f3, K3⟩ := k2 w3 hg3; obtain ⟨hb4, hb5⟩ := hb3 w3 K3; clear k2 ra hb3)
        | (at_builtin; refine wpList_append_src _ rfl _ _ 28 rfl base 5 i0 (.int .u8 0) 1 1 Try.underlying28 hi0 hz0 hz1 hz2 rfl (by decide) (.slice a3 (raw.length + 1) cap3) (raw.length + 1) _ rfl ho3 _ rfl (sz n) _ (srcOwn hb4) ones (by unfold maxLen; omega) (by omega) hb5 ?_; intro a4 cap4 w4 ho4 hg4 _ hl4; have K5 := grown2 K3 hg4 hl3; obtain ⟨y4, f4⟩ := HA.out.stands K5; clear hl4)
        | fail)
      go_end0
      have hln : (raw ++ numB n).length = raw.length + 1 + sz n := by rw [List.length_append, numB_length]; omega
      have A6 := HA.out.lay2 (raw' := raw ++ numB n) (by decide) K5 (by rw [hln]; simpa [numB] using ho4) (HA.out.bs.append (numB_bs n))
      exact ⟨rfl, ⟨_, A6⟩, ((Keep2.none K).and (Keep2.own HA.out.row K5)).and (Keep2.setP _ _ _ hbp)⟩

theorem xnum_any {w : World} {base p : Nat} {st : Option (List Int)} {L : Nat} (I : WIn w 134 base p st L) (n lo hi : Int) (h0 : 0 ≤ lo) (h3 : hi ≤ 4503599627370496) (hL : L ≤ 2199023255552) :
    Calls Try.prog 88 #[.pointer (some ⟨p, 0, none⟩), .int .i64 n, .int .i64 lo, .int .i64 hi] w fun e w' => e = .returned (.tuple #[]) ∧ WIn w' 134 base p (put st (wrNum lo hi n)) (L + 8) ∧ Keep2 base p w w' := by
  obtain ⟨v, raw, bad, A, hr, rfl⟩ := I
  by_cases h : n < lo ∨ hi < n
  · refine (xnum_bad A n lo hi h).mono ?_
    rintro e w' ⟨rfl, rfl⟩
    have : wrNum lo hi n = none := by unfold wrNum; rw [if_neg (by omega)]
    exact ⟨rfl, ⟨v, raw, true, A.mark true, by omega, by rw [this, put_none]; rfl⟩, Keep2.setP _ _ _ A.bp⟩
  · have h1 : lo ≤ n := by omega
    have h2 : n ≤ hi := by omega
    obtain ⟨k, rfl⟩ := Int.eq_ofNat_of_zero_le (Int.le_trans h0 h1)
    refine (xnum_ok A k lo hi h1 h2 h3 (by omega)).mono ?_
    rintro e w' ⟨rfl, ⟨v', A'⟩, K⟩
    refine ⟨rfl, ⟨v', _, bad, A', ?_, ?_⟩, K⟩
    · have := sz_le k
      rw [List.length_append, numB_length]; omega
    · have : wrNum lo hi (k : Int) = some (numB k) := by unfold wrNum; rw [if_pos ⟨h1, h2⟩, Int.toNat_natCast]
      rw [this]
      cases bad <;> rfl

set_option maxRecDepth 100000 in
set_option maxHeartbeats 400000 in
theorem xdone_any {w : World} {base p : Nat} {st : Option (List Int)} {L : Nat} (I : WIn w 134 base p st L) :
    Calls Try.prog 89 #[.pointer (some ⟨p, 0, none⟩)] w fun e w' => ∃ a l c er, e = .returned (.tuple #[.slice a l c, .int .i64 er]) ∧ Ans w' base st a l c er ∧ w' = w := by
  obtain ⟨v, raw, bad, A, hr, rfl⟩ := I
  have c0 := A.c0
  have c1 := A.c1
  cases bad with
  | true =>
    go_enter Try.func89, Try.ntmps89
    go_wp2
    go_ret2
    exact ⟨none, 0, 0, 2, rfl, ⟨World.ownsRow_nil _ _ _ _, rfl, rfl, fun y hy => (by cases hy)⟩, rfl⟩
  | false =>
    obtain ⟨a, c, rfl⟩ := ownsRow_shape A.row
    go_enter Try.func89, Try.ntmps89
    go_wp2
    go_ret2
    exact ⟨a, raw.length, c, 0, rfl, ⟨A.row, rfl, rfl, A.bs⟩, rfl⟩


end Go.Proofs.Ytceocmhgbcimoaa
