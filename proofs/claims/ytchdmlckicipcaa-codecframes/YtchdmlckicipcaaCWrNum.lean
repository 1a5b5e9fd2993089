/-
  The codec's writer in memory: a number.
-/
import Derived.Test.YtchdmlckicipcaaCWr
namespace Go.Proofs.Ytchdmlckicipcaa
open Go.RowKit

theorem srcNew {w : World} {x : Int} {t : TypeId} : Src (w.alloc (.cells #[.int .u8 x] t)) 1 (.slice (some ⟨w.heap.size, 0, none⟩) 1 1) 1 [.int .u8 x] :=
  .inl ⟨_, 1, rfl, rfl, World.news_of_block (heap_alloc_new w _)⟩

/-- Behind an append the writer's own block is as it was. -/
theorem WAt.after {w w3 : World} {ty : TypeId} {base p : Nat} {v : Value} {raw : List Int} {bad : Bool} (A : WAt w ty base p v raw bad) {o : Obj} (hg : (w.alloc o).grownBy w3 v.ownBlock) :
    w3.cell? ⟨p, 0, none⟩ = some v ∧ w3.frozen? ⟨p, 0, none⟩ = false ∧ Kept (fun k => v.ownBlock = some k) w w3 := by
  have K : Kept (fun k => v.ownBlock = some k) w w3 := (Kept.alloc _ w _).and (Kept.grown hg (fun k e => e))
  have hk := K.block p A.lt A.ne
  exact ⟨by simp [World.cell?, hk, A.head], by simp [World.frozen?, hk, A.head], K⟩

theorem WAt.after2 {w w3 : World} {ty : TypeId} {base p : Nat} {v : Value} {raw : List Int} {bad : Bool} (A : WAt w ty base p v raw bad) {o : Obj} (hg : (w.alloc o).drew.grownBy w3 v.ownBlock) :
    w3.cell? ⟨p, 0, none⟩ = some v ∧ w3.frozen? ⟨p, 0, none⟩ = false ∧ Kept (fun k => v.ownBlock = some k) w w3 := by
  have K : Kept (fun k => v.ownBlock = some k) w w3 := ((Kept.alloc _ w _).and (Kept.drew _ _)).and (Kept.grown hg (fun k e => e))
  have hk := K.block p A.lt A.ne
  exact ⟨by simp [World.cell?, hk, A.head], by simp [World.frozen?, hk, A.head], K⟩

theorem WAt.drew {w : World} {ty : TypeId} {base p : Nat} {v : Value} {raw : List Int} {bad : Bool} (A : WAt w ty base p v raw bad) : WAt w.drew ty base p v raw bad :=
  ⟨A.head, World.ownsRow.drew A.row, A.ne, A.bp, A.bs⟩

/-- A byte of a number, as it is shifted out. -/
theorem byte_of (n : Int) (j : Nat) (h0 : 0 ≤ n) (hj : j ≤ 6) : ∃ q : Int, Op.shift BinOp.shr IntKind.i64 n IntKind.i64 (IntKind.i64.wrap (8 * ↑j)) = pure (.int .i64 q) ∧ q % 256 = ((n.toNat / 256 ^ j % 256 : Nat) : Int) := by
  have hw : IntKind.i64.wrap (8 * (j : Int)) = 8 * j := by rw [IntKind.wrap_i64]; omega
  refine ⟨n / 2 ^ (8 * (j : Int)).toNat, by rw [hw]; exact shift_shr_i64 _ _ _ (by omega) (by omega), ?_⟩
  have e : (8 * (j : Int)).toNat = 8 * j := by omega
  obtain ⟨m, rfl⟩ := Int.eq_ofNat_of_zero_le h0
  have e2 : (2 : Int) ^ (8 * j) = ((256 ^ j : Nat) : Int) := by
    have : (256 : Nat) ^ j = 2 ^ (8 * j) := by rw [Nat.pow_mul]
    rw [this]; simp
  rw [e, e2, Int.toNat_natCast, ← Int.natCast_ediv]
  generalize m / 256 ^ j = z
  omega

set_option maxRecDepth 100000 in
set_option maxHeartbeats 400000 in
theorem wnum_bad {w : World} {base p : Nat} {v : Value} {raw : List Int} {bad : Bool} (A : WAt w 52 base p v raw bad) (n lo hi : Int) (h : bad = true ∨ n < lo ∨ hi < n) :
    Calls Try.prog 23 #[.pointer (some ⟨p, 0, none⟩), .int .i64 n, .int .i64 lo, .int .i64 hi] w fun e w' => e = .returned (.tuple #[]) ∧ w' = w.setCell ⟨p, 1, none⟩ (.bool true) := by
  by_cases h1 : n < lo
  · have hR := wrefuse_any A true
    rw [Bool.or_true] at hR
    go_enter Try.func23, Try.ntmps23
    go_wp2_with (first
      | (go_at_call 32; refine hR.mono ?_; rintro e w1 ⟨rfl, rfl⟩)
      | fail)
    refine bodyPost_ret (results_none rfl _ _ _) rfl ?_
    exact ⟨rfl, rfl⟩
  · by_cases h2 : hi < n
    · have hR := wrefuse_any A true
      rw [Bool.or_true] at hR
      go_enter Try.func23, Try.ntmps23
      go_wp2_with (first
        | (go_at_call 32; refine hR.mono ?_; rintro e w1 ⟨rfl, rfl⟩)
        | fail)
      refine bodyPost_ret (results_none rfl _ _ _) rfl ?_
      exact ⟨rfl, rfl⟩
    · have hbad : bad = true := by
        rcases h with h | h | h
        · exact h
        · exact absurd h h1
        · exact absurd h h2
      subst hbad
      have hR := wrefuse_any A false
      rw [Bool.or_false] at hR
      go_enter Try.func23, Try.ntmps23
      go_wp2_with (first
        | (go_at_call 32; refine hR.mono ?_; rintro e w1 ⟨rfl, rfl⟩)
        | fail)
      refine bodyPost_ret (results_none rfl _ _ _) rfl ?_
      exact ⟨rfl, rfl⟩

set_option maxRecDepth 100000 in
set_option maxHeartbeats 400000 in
theorem wnum_ok {w : World} {base p : Nat} {v : Value} {raw : List Int} (A : WAt w 52 base p v raw false) (n lo hi : Int) (h0 : 0 ≤ lo) (h1 : lo ≤ n) (h2 : n ≤ hi) (h3 : hi ≤ 4503599627370496) (hL : raw.length ≤ 2199023255552) :
    Calls Try.prog 23 #[.pointer (some ⟨p, 0, none⟩), .int .i64 n, .int .i64 lo, .int .i64 hi] w fun e w' => e = .returned (.tuple #[]) ∧ (∃ v', WAt w' 52 base p v' (raw ++ numB n.toNat) false) ∧ Keep2 base p w w' := by
  obtain ⟨i0, hi0, hz0, hz1, hz2⟩ := info_parts Try.info5
  have hR := wrefuse_any A false
  rw [Bool.or_false] at hR
  have A1 := A.mark false
  have K1 := Keep2.setP w 1 (.bool false) A.bp
  obtain ⟨a, c, rfl⟩ := ownsRow_shape A.row
  generalize w.setCell ⟨p, 1, none⟩ (.bool false) = w1 at *
  have hl := len_any w1 n (by omega) (by omega)
  have hs7 := sz_le n.toNat
  have y0 := A1.c0
  have f0 := A1.fz 0
  have hn1 : ¬ n < lo := by omega
  have hn2 : ¬ hi < n := by omega
  have hbp := A.bp
  have ra := A1.row.alloc (.cells #[.int .u8 (sz n.toNat)] 5)
  have HA : Hid (WAt w1 52 base p (.slice a raw.length c) raw false) := A1
  have hb : base ≤ (w1.alloc (.cells #[.int .u8 (sz n.toNat)] 5)).heap.size := by have := A1.hb; simp; omega
  have k2 := fun w3 => A1.after (w3 := w3) (o := .cells #[.int .u8 (sz n.toNat)] 5)
  clear A A1
  go_enter Try.func23, Try.ntmps23
  go_wp2_with (first
    | (go_at_call 32; refine hR.mono ?_; rintro e w2 ⟨rfl, rfl⟩; clear hR)
    | (go_at_call 33; refine hl.mono ?_; rintro e w2 ⟨r, rfl, ⟨hr0, hr1, hr2⟩, rfl⟩; clear hl)
    | (at_builtin; refine wpList_append_src _ rfl _ _ 23 rfl base 5 i0 (.int .u8 0) 1 1 Try.underlying23 hi0 hz0 hz1 hz2 rfl (by decide) (.slice a raw.length c) raw.length _ rfl ra _ rfl 1 _ srcNew (by simp [Value.oneCell']) (by unfold maxLen; omega) (by omega) hb ?_; intro a3 cap3 w3 ho3 hg3 _ hl3; obtain ⟨y3, f3, K3⟩ := k2 w3 hg3; clear k2 ra)
    | fail)
  have hlen1 : raw.length + 1 = (raw ++ [(sz n.toNat : Int)]).length := by simp
  have A3 : WAt (w3.setCell ⟨p, 0, none⟩ (.slice a3 (raw.length + 1) cap3)) 52 base p (.slice a3 (raw.length + 1) cap3) (raw ++ [(sz n.toNat : Int)]) false :=
    HA.out.lay K3 (by rw [← hlen1, List.map_append]; exact ho3) (hl3.imp id (fun h => ⟨_, h, by simp⟩)) (HA.out.bs.append (fun y hy => by simp at hy; subst hy; omega))
  have K4 : Keep2 base p w (w3.setCell ⟨p, 0, none⟩ (.slice a3 (raw.length + 1) cap3)) := (K1.and (Keep2.own HA.out.row K3)).and (Keep2.setP _ _ _ hbp)
  have HL : Hid (raw.length ≤ 2199023255552) := hL
  clear hl3 K3 K1 ho3 hg3 y3 f3 hb HA hlen1 hL
  go_loopw [9] (fun i wr => ∃ (j : Nat) (l : Int) (cur : List Int) (v : Value), j ≤ sz n.toNat ∧ i = .int .i64 l ∧ l = (j : Int) - 1 ∧ cur ++ low j n.toNat = raw ++ numB n.toNat ∧ WAt wr 52 base p v cur false ∧ Keep2 base p w wr) (fun i _ => (intOf i + 1).toNat)
  case atStart => exact ⟨sz n.toNat, _, _, _, Nat.le_refl _, rfl, rfl, by simp [numB], A3, K4⟩
  case round =>
    clear A3 K4
    obtain ⟨j, l, cur, v, hj, rfl, hl, hcur, A, K⟩ := hrel
    cases j with
    | zero =>
      have hl0 : l < 0 := by omega
      simp only [low, List.append_nil] at hcur
      rw [hcur] at A
      have HA : Hid _ := A
      clear A hcur hl
      go_wp2
      go_end0
      exact ⟨rfl, ⟨v, HA.out⟩, K⟩
    | succ j =>
      have hl0 : l = (j : Int) := by omega
      subst hl0
      obtain ⟨a, c, rfl⟩ := ownsRow_shape A.row
      have y0 := A.c0
      have f0 := A.fz 0
      have hcl : cur.length ≤ 2199023255564 := by
        have := congrArg List.length hcur
        have h5 := HL.out
        simp only [List.length_append, low_length, numB_length] at this
        omega
      have HC : Hid (cur ++ low (j + 1) n.toNat = raw ++ numB n.toNat) := hcur
      obtain ⟨q, hsh, hq⟩ := byte_of n j (by omega) (by omega)
      have hwq : IntKind.u8.wrap q = q % 256 := IntKind.wrap_u8 q
      have HQ : Hid (IntKind.u8.wrap q = ((n.toNat / 256 ^ j % 256 : Nat) : Int)) := hwq.trans hq
      have ra := World.ownsRow.drew (A.row.alloc (.cells #[.int .u8 (IntKind.u8.wrap q)] 5))
      have k2 := fun w3 => A.after2 (w3 := w3) (o := .cells #[.int .u8 (IntKind.u8.wrap q)] 5)
      have hb : base ≤ (wr.alloc (.cells #[.int .u8 (IntKind.u8.wrap q)] 5)).drew.heap.size := by have := A.hb; simp; omega
      have ya : (wr.alloc (.cells #[.int .u8 (IntKind.u8.wrap q)] 5)).cell? ⟨p, 0, none⟩ = some (.slice a cur.length c) := (World.grownBy_alloc wr _ none).cell y0 (by simp)
      have HA : Hid (WAt wr 52 base p (.slice a cur.length c) cur false) := A
      have sN : Src (wr.alloc (.cells #[.int .u8 (IntKind.u8.wrap q)] 5)).drew 1 (.slice (some ⟨wr.heap.size, 0, none⟩) 1 1) 1 [.int .u8 (IntKind.u8.wrap q)] := srcNew
      clear hl hcur hr0 hq A hwq
      go_wp2
      go_region_law
        (first
          | (refine step_append_src _ (by rfl) _ _ _ (by rfl) base 5 i0 _ 1 1 Try.underlying23 hi0 hz0 hz1 hz2 rfl (by decide) (.slice a cur.length c) cur.length _ (by rfl) ra _ (by rfl) 1 _ sN (by simp [Value.oneCell']) (by unfold maxLen; omega) (by omega) hb ?_; intro a4 cap4 w4 ho4 hg4 _ hl4; obtain ⟨y4, f4, K5⟩ := k2 w4 hg4))
      all_goals
        have hln : (cur ++ [IntKind.u8.wrap q]).length = cur.length + 1 := by simp
        have A5 : WAt (w4.setCell ⟨p, 0, none⟩ (.slice a4 (cur.length + 1) cap4)) 52 base p (.slice a4 (cur.length + 1) cap4) (cur ++ [IntKind.u8.wrap q]) false :=
          HA.out.lay K5 (by rw [hln, List.map_append]; exact ho4) (hl4.imp id (fun h => ⟨_, h, by simp⟩)) (HA.out.bs.append (fun y hy => by simp at hy; subst hy; rw [IntKind.wrap_u8]; omega))
        have K6 : Keep2 base p w (w4.setCell ⟨p, 0, none⟩ (.slice a4 (cur.length + 1) cap4)) := (K.and (Keep2.own HA.out.row K5)).and (Keep2.setP _ _ _ hbp)
        clear ho4 hg4 hl4 y4 f4 k2 ra sN
        go_wp2
        go_roundw
        case rel => exact ⟨j, _, _, _, by omega, rfl, rfl, by rw [← HC.out, low, HQ.out, List.append_assoc]; rfl, A5, K6⟩
        case measure => simp [intOf]

/-- A writer: what it has gathered (none: it is wrong), at most L bytes. -/
def WIn (w : World) (ty : TypeId) (base p : Nat) (st : Option (List Int)) (L : Nat) : Prop :=
  ∃ v raw bad, WAt w ty base p v raw bad ∧ raw.length ≤ L ∧ st = if bad then none else some raw

def put (st e : Option (List Int)) : Option (List Int) := match st, e with
  | some r, some q => some (r ++ q)
  | _, _ => none

theorem put_none (st : Option (List Int)) : put st none = none := by cases st <;> rfl
theorem none_put (e : Option (List Int)) : put none e = none := rfl

theorem wnum_any {w : World} {base p : Nat} {st : Option (List Int)} {L : Nat} (I : WIn w 52 base p st L) (n lo hi : Int) (h0 : 0 ≤ lo) (h3 : hi ≤ 4503599627370496) (hL : L ≤ 2199023255552) :
    Calls Try.prog 23 #[.pointer (some ⟨p, 0, none⟩), .int .i64 n, .int .i64 lo, .int .i64 hi] w fun e w' => e = .returned (.tuple #[]) ∧ WIn w' 52 base p (put st (wrNum lo hi n)) (L + 8) ∧ Keep2 base p w w' := by
  obtain ⟨v, raw, bad, A, hr, rfl⟩ := I
  by_cases h : bad = true ∨ n < lo ∨ hi < n
  · refine (wnum_bad A n lo hi h).mono ?_
    rintro e w' ⟨rfl, rfl⟩
    refine ⟨rfl, ⟨v, raw, true, A.mark true, by omega, ?_⟩, Keep2.setP _ _ _ A.bp⟩
    rcases h with rfl | h | h
    · rfl
    · have : wrNum lo hi n = none := by unfold wrNum; rw [if_neg (by omega)]
      rw [this, put_none]; rfl
    · have : wrNum lo hi n = none := by unfold wrNum; rw [if_neg (by omega)]
      rw [this, put_none]; rfl
  · have hb : bad = false := by cases bad <;> simp_all
    subst hb
    have h1 : lo ≤ n := by omega
    have h2 : n ≤ hi := by omega
    refine (wnum_ok A n lo hi h0 h1 h2 h3 (by omega)).mono ?_
    rintro e w' ⟨rfl, ⟨v', A'⟩, K⟩
    refine ⟨rfl, ⟨v', _, false, A', ?_, ?_⟩, K⟩
    · have := sz_le n.toNat
      rw [List.length_append, numB_length]; omega
    · have : wrNum lo hi n = some (numB n.toNat) := by unfold wrNum; rw [if_pos ⟨h1, h2⟩]
      rw [this]; rfl

end Go.Proofs.Ytchdmlckicipcaa
