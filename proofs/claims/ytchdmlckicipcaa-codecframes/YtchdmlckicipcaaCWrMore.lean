/-
  The codec's writer: texts, signed numbers, the answer.
-/
import Derived.Test.YtchdmlckicipcaaCWrNum
import Derived.Lib.AppendStr
namespace Go.Proofs.Ytchdmlckicipcaa
open Go.RowKit Go.Lib

/-- A text's bytes. -/
def bts (s : ByteArray) : List Int := s.data.toList.map fun b => (b.toNat : Int)

theorem bts_length (s : ByteArray) : (bts s).length = s.size := by unfold bts; rw [List.length_map]; exact Array.length_toList

theorem bts_bs (s : ByteArray) : Bs (bts s) := by
  intro y hy
  obtain ⟨b, _, rfl⟩ := List.mem_map.1 hy
  have := b.toNat_lt
  omega

theorem bts_cells (s : ByteArray) : strCells s = (bts s).map (Value.int .u8) := by
  unfold strCells bts
  rw [List.map_map]
  rfl

def wrText (s : ByteArray) : Option (List Int) := (wrNum 0 1048576 s.size).map (· ++ bts s)

/-- Other bytes are laid: their block is not the writer's, which holds no bytes. -/
theorem WAt.lay2 {w w' : World} {ty : TypeId} {base p : Nat} {v : Value} {raw : List Int} {bad : Bool} {v' : Value} {raw' : List Int} (A : WAt w ty base p v raw bad) (hty : ty ≠ 5) (K : Kept (fun k => v.ownBlock = some k) w w') (row : w'.ownsRow base 5 1 v' raw'.length (raw'.map (Value.int .u8))) (hs : Bs raw') : WAt (w'.setCell ⟨p, 0, none⟩ v') ty base p v' raw' bad := by
  have hp : w'.heap[p]? = w.heap[p]? := K.block p A.lt A.ne
  have hne : v'.ownBlock ≠ some p := by
    intro e
    rcases row.2 with ⟨h0, _⟩ | ⟨g, cap, cur, hv, hb, hh, r⟩
    · rw [h0] at e; cases e
    · rw [hv] at e
      have : g = p := by simpa [Value.ownBlock] using e
      rw [this, hp, A.head] at hh
      simp only [Option.some.injEq, Obj.cells.injEq] at hh
      exact hty hh.2.1
  exact ⟨by simp [World.setCell, Array.getElem?_modify, hp, A.head], ownsRow_block' row (fun k hk => Below.heap_setCell _ _ _ _ (fun e => hne (by rw [hk, e]))), hne, A.bp, hs⟩

theorem WAt.after0 {w w3 : World} {ty : TypeId} {base p : Nat} {v : Value} {raw : List Int} {bad : Bool} (A : WAt w ty base p v raw bad) (hg : w.grownBy w3 v.ownBlock) :
    w3.cell? ⟨p, 0, none⟩ = some v ∧ w3.frozen? ⟨p, 0, none⟩ = false ∧ Kept (fun k => v.ownBlock = some k) w w3 := by
  have K : Kept (fun k => v.ownBlock = some k) w w3 := Kept.grown hg (fun k e => e)
  have hk := K.block p A.lt A.ne
  exact ⟨by simp [World.cell?, hk, A.head], by simp [World.frozen?, hk, A.head], K⟩

theorem bad_none {bad : Bool} {raw : List Int} (h : none = if bad then none else some raw) : bad = true := by
  cases bad with
  | true => rfl
  | false => cases h

theorem bad_some {bad : Bool} {raw q : List Int} (h : some q = if bad then none else some raw) : bad = false ∧ q = raw := by
  cases bad with
  | true => cases h
  | false => exact ⟨rfl, Option.some.inj h⟩

set_option maxRecDepth 100000 in
set_option maxHeartbeats 400000 in
theorem wtext_any {w : World} {base p : Nat} {st : Option (List Int)} {L : Nat} (I : WIn w 52 base p st L) (s : ByteArray) (hs : s.size ≤ 140737488355328) (hL : L ≤ 1099511627776) :
    Calls Try.prog 24 #[.pointer (some ⟨p, 0, none⟩), .string s] w fun e w' => e = .returned (.tuple #[]) ∧ WIn w' 52 base p (put st (wrText s)) (L + 1048600) ∧ Keep2 base p w w' := by
  obtain ⟨i0, hi0, hz0, hz1, hz2⟩ := info_parts Try.info5
  have hN := wnum_any I s.size 0 1048576 (by decide) (by decide) (by omega)
  clear I
  unfold wrText
  cases hst : put st (wrNum 0 1048576 s.size) with
  | none =>
    rw [hst] at hN
    have hp : put st ((wrNum 0 1048576 s.size).map (· ++ bts s)) = none := by
      cases st with
      | none => rfl
      | some r =>
        cases h : wrNum 0 1048576 (s.size : Int) with
        | none => rfl
        | some q => rw [h] at hst; cases hst
    rw [hp]
    go_enter Try.func24, Try.ntmps24
    go_wp2_with (first
      | (go_at_call 23; refine hN.mono ?_; rintro e w1 ⟨rfl, ⟨v, raw, bad, A, hr, hb⟩, K⟩; have hbad : bad = true := bad_none hb; subst hbad; have c1 := A.c1; have HI : Hid (WIn w1 52 base p none (L + 1048600)) := ⟨v, raw, true, A, by omega, rfl⟩; clear hN A hb)
      | fail)
    go_end0
    exact ⟨rfl, HI.out, K⟩
  | some q =>
    have hz : (s.size : Int) ≤ 1048576 := by
      by_cases h : (s.size : Int) ≤ 1048576
      · exact h
      · have : wrNum 0 1048576 (s.size : Int) = none := by unfold wrNum; rw [if_neg (by omega)]
        rw [this, put_none] at hst; cases hst
    rw [hst] at hN
    have hp : put st ((wrNum 0 1048576 s.size).map (· ++ bts s)) = some (q ++ bts s) := by
      cases st with
      | none => cases hst
      | some r =>
        cases h : wrNum 0 1048576 (s.size : Int) with
        | none => rw [h] at hst; cases hst
        | some t =>
          rw [h] at hst
          simp only [put, Option.some.injEq] at hst
          subst hst
          simp [put]
    rw [hp]
    clear hst hp
    go_enter Try.func24, Try.ntmps24
    go_wp2_with (first
      | (go_at_call 23; refine hN.mono ?_; rintro e w1 ⟨rfl, ⟨v, raw, bad, A, hr, hb⟩, K⟩; obtain ⟨hbad, hq⟩ := bad_some hb; subst hbad hq; obtain ⟨a, c, rfl⟩ := ownsRow_shape A.row; have c1 := A.c1; have c0 := A.c0; have f0 := A.fz 0; have k2 := (fun w3 => A.after0 (w3 := w3)); have hro := A.row; have hbz := A.hb; have HA : Hid (WAt w1 52 base p (.slice a q.length c) q false) := A; clear hN A hb)
      | (at_builtin; refine wpList_append_own_string _ rfl _ _ 23 9 rfl base 5 i0 Try.underlying23 Try.underlying9 hi0 hz0 hz1 hz2 (.slice a q.length c) q.length _ rfl hro s rfl (by unfold maxLen; omega) (by omega) hbz ?_; intro v3 w3 ho3 hg3 hn3; obtain ⟨y3, f3, K3⟩ := k2 w3 hg3; obtain ⟨a3, c3, rfl⟩ := ownsRow_shape ho3; clear k2 hro hn3)
      | fail)
    go_end0
    have hl2 : (q ++ bts s).length = q.length + s.size := by rw [List.length_append, bts_length]
    have A4 := HA.out.lay2 (raw' := q ++ bts s) (by decide) K3 (by rw [hl2, List.map_append, ← bts_cells]; exact ho3) (HA.out.bs.append (bts_bs s))
    rw [hl2.symm] at A4 ⊢
    exact ⟨rfl, ⟨_, _, false, A4, by rw [hl2]; omega, rfl⟩, (K.and (Keep2.own HA.out.row K3)).and (Keep2.setP _ _ _ HA.out.bp)⟩

/-- A signed number's form. -/
def sgn (n : Int) : Int := if n < 0 then -2 * n - 1 else 2 * n
def wrSig (n : Int) : Option (List Int) := wrNum 0 4503599627370496 (sgn n)

theorem wrNum_wrap (n : Int) (h0 : -9223372036854775808 ≤ n) (h1 : n ≤ 9223372036854775807) : wrNum 0 4503599627370496 (wrap64 (sgn n)) = wrNum 0 4503599627370496 (sgn n) := by
  unfold wrNum
  by_cases h : 0 ≤ sgn n ∧ sgn n ≤ 4503599627370496
  · have : wrap64 (sgn n) = sgn n := by unfold wrap64; omega
    rw [this]
  · rw [if_neg h, if_neg]
    intro hw
    apply h
    unfold sgn wrap64 at *
    split at hw <;> split <;> omega

set_option maxRecDepth 100000 in
set_option maxHeartbeats 400000 in
theorem wsigned_any {w : World} {base p : Nat} {st : Option (List Int)} {L : Nat} (I : WIn w 52 base p st L) (n : Int) (hn : isI64 n) (hL : L ≤ 2199023255552) :
    Calls Try.prog 25 #[.pointer (some ⟨p, 0, none⟩), .int .i64 n] w fun e w' => e = .returned (.tuple #[]) ∧ WIn w' 52 base p (put st (wrSig n)) (L + 8) ∧ Keep2 base p w w' := by
  have hb := isI64_bd hn
  have hN := wnum_any I (wrap64 (sgn n)) 0 4503599627370496 (by decide) (by decide) hL
  rw [wrNum_wrap n hb.1 hb.2] at hN
  unfold wrSig
  generalize put st (wrNum 0 4503599627370496 (sgn n)) = st2 at *
  clear I
  by_cases h : n < 0
  · have e1 : sgn n = -2 * n - 1 := by unfold sgn; rw [if_pos h]
    rw [e1] at hN
    have hN2 : ∀ z : Int, z = wrap64 (-2 * n - 1) → Calls Try.prog 23 #[.pointer (some ⟨p, 0, none⟩), .int .i64 z, .int .i64 0, .int .i64 4503599627370496] w fun e w' => e = .returned (.tuple #[]) ∧ WIn w' 52 base p st2 (L + 8) ∧ Keep2 base p w w' := fun z hz => hz ▸ hN
    clear hN
    go_enter Try.func25, Try.ntmps25
    go_wp2_with (first
      | (go_at_call 23; refine (hN2 _ (by simp only [wrap64]; omega)).mono ?_; rintro e w1 ⟨rfl, hI, K⟩)
      | fail)
    go_end0
    exact ⟨rfl, hI, K⟩
  · have e1 : sgn n = 2 * n := by unfold sgn; rw [if_neg h]
    rw [e1] at hN
    have hN2 : ∀ z : Int, z = wrap64 (2 * n) → Calls Try.prog 23 #[.pointer (some ⟨p, 0, none⟩), .int .i64 z, .int .i64 0, .int .i64 4503599627370496] w fun e w' => e = .returned (.tuple #[]) ∧ WIn w' 52 base p st2 (L + 8) ∧ Keep2 base p w w' := fun z hz => hz ▸ hN
    clear hN
    go_enter Try.func25, Try.ntmps25
    go_wp2_with (first
      | (go_at_call 23; refine (hN2 _ rfl).mono ?_; rintro e w1 ⟨rfl, hI, K⟩)
      | fail)
    go_end0
    exact ⟨rfl, hI, K⟩

theorem ownsRow_mono {w : World} {base base' n size : Nat} {e : TypeId} {v : Value} {xs : List Value} (h : w.ownsRow base e size v n xs) (hb : base' ≤ base) : w.ownsRow base' e size v n xs := by
  refine ⟨h.1, ?_⟩
  rcases h.2 with h0 | ⟨g, cap, cur, hv, hg, r⟩
  · exact .inl h0
  · exact .inr ⟨g, cap, cur, hv, Nat.le_trans hb hg, r⟩

/-- What a writer answers. -/
structure Ans (w : World) (base : Nat) (st : Option (List Int)) (a : Option Addr) (l c : Nat) (e : Int) : Prop where
  row : w.ownsRow base 5 1 (.slice a l c) l ((st.getD []).map (Value.int .u8))
  len : (st.getD []).length = l
  err : e = if st.isSome then 0 else 2
  bs : Bs (st.getD [])

theorem Ans.mono {w : World} {base base' : Nat} {st : Option (List Int)} {a : Option Addr} {l c : Nat} {e : Int} (h : Ans w base st a l c e) (hb : base' ≤ base) : Ans w base' st a l c e := ⟨ownsRow_mono h.row hb, h.len, h.err, h.bs⟩

set_option maxRecDepth 100000 in
set_option maxHeartbeats 400000 in
theorem wanswer_any {w : World} {base p : Nat} {st : Option (List Int)} {L : Nat} (I : WIn w 52 base p st L) :
    Calls Try.prog 26 #[.pointer (some ⟨p, 0, none⟩)] w fun e w' => ∃ a l c er, e = .returned (.tuple #[.slice a l c, .int .i64 er]) ∧ Ans w' base st a l c er ∧ w' = w := by
  obtain ⟨v, raw, bad, A, hr, rfl⟩ := I
  have c0 := A.c0
  have c1 := A.c1
  cases bad with
  | true =>
    go_enter Try.func26, Try.ntmps26
    go_wp2
    go_ret2
    exact ⟨none, 0, 0, 2, rfl, ⟨World.ownsRow_nil _ _ _ _, rfl, rfl, fun y hy => (by cases hy)⟩, rfl⟩
  | false =>
    obtain ⟨a, c, rfl⟩ := ownsRow_shape A.row
    go_enter Try.func26, Try.ntmps26
    go_wp2
    go_ret2
    exact ⟨a, raw.length, c, 0, rfl, ⟨A.row, rfl, rfl, A.bs⟩, rfl⟩

/-- A new writer. -/
theorem WIn.new (w : World) (ty : TypeId) : WIn (w.alloc (.cells #[.slice none 0 0, .bool false] ty)) ty w.heap.size w.heap.size (some []) 0 :=
  ⟨.slice none 0 0, [], false, ⟨by rw [heap_alloc_new], World.ownsRow_nil _ _ _ _, by simp [Value.ownBlock], Nat.le_refl _, fun y hy => (by cases hy)⟩, Nat.le_refl _, rfl⟩

theorem kept_new {w w' : World} {o : Obj} (K : Kept (fun k => w.heap.size ≤ k) (w.alloc o) w') : Kept (fun _ => False) w w' := (Kept.alloc _ w o).trans K (fun _ h => .inr h)

theorem some_put (e : Option (List Int)) : put (some []) e = e := by cases e <;> rfl


end Go.Proofs.Ytchdmlckicipcaa
