/-
  What the laws lend, hold against each other and spoil: Ints, Lend, Intact, SpoilBytes, SpoilInts.
-/
import Derived.Test.YthpamcfemhimcaaBytes
import Derived.Laws.AppendOwnNone
namespace Go.Proofs.Ythpamcfemhimcaa
open Go.RowKit Go.Maps Go.ChangeMaps Go.MapKept

theorem Try.info3w : (Try.prog.info? 3).map (fun i => (i.zero, i.size, i.bytes)) = some (some (.int .i64 0), 1, 8) := by kernel_rfl

/-- A store into a row that is owned. -/
theorem ownsRow_set {w : World} {base n cap g k : Nat} {e : TypeId} {xs : List Value} (h : w.ownsRow base e 1 (.slice (some ⟨g, 0, none⟩) n cap) n xs) (u : Value) :
    (w.setCell ⟨g, k, none⟩ u).ownsRow base e 1 (.slice (some ⟨g, 0, none⟩) n cap) n (xs.set k u) := by
  refine ⟨by rw [List.length_set]; exact h.1, ?_⟩
  rcases h.2 with ⟨h0, _⟩ | ⟨g', cap', cur, hv, hb, hh, r1, r2, r3, r4⟩
  · cases h0
  · simp only [Value.slice.injEq, Option.some.injEq, Addr.mk.injEq] at hv
    obtain ⟨⟨rfl, _⟩, _, rfl⟩ := hv
    refine .inr ⟨g, cap, cur.setIfInBounds k u, rfl, hb, by simp [World.setCell, Array.getElem?_modify, hh], r1, r2, by simpa using r3, ?_⟩
    rw [Array.toList_setIfInBounds, List.take_set, r4]

/-- A cell of a row that is owned. -/
theorem ownsRow_get {w : World} {base n cap g k : Nat} {e : TypeId} {xs : List Value} (h : w.ownsRow base e 1 (.slice (some ⟨g, 0, none⟩) n cap) n xs) {u : Value} (hu : xs[k]? = some u) : w.cell? ⟨g, k, none⟩ = some u ∧ w.frozen? ⟨g, k, none⟩ = false := by
  constructor
  · have := h.cells (g := g) rfl k u hu
    simpa [Addr.add_lit] using this
  · rcases h.2 with ⟨h0, _⟩ | ⟨g', cap', cur, hv, hb, hh, r⟩
    · cases h0
    · simp only [Value.slice.injEq, Option.some.injEq, Addr.mk.injEq] at hv
      obtain ⟨⟨rfl, _⟩, _⟩ := hv
      simp [World.frozen?, hh]



set_option maxRecDepth 100000 in
set_option maxHeartbeats 1000000 in
theorem spoilBytes_any (w : World) (base : Nat) (v : Value) (n : Nat) (zs : List Int) (h : w.ownsRow base 5 1 v n (zs.map (Value.int .u8))) (hn : n ≤ 1099511627776) (hb : base ≤ w.heap.size) :
    Calls Try.prog 16 #[v] w fun e w' => e = .returned (.tuple #[]) ∧ Kept (fun k => base ≤ k) w w' := by
  obtain ⟨i0, hi, hz0, hz1, hz2⟩ := info_parts Try.info5
  obtain ⟨a, c, rfl⟩ := ownsRow_shape h
  have hlen : zs.length = n := by have := h.1; simpa using this
  go_enter Try.func16, Try.ntmps16
  go_wp2
  go_loopw [2] (fun i wr => ∃ (k : Nat) (ys : List Int), k ≤ n ∧ i = .int .i64 k ∧ ys.length = n ∧ wr.ownsRow base 5 1 (.slice a n c) n (ys.map (Value.int .u8)) ∧ Kept (fun k => base ≤ k) w wr) (fun i _ => n - (intOf i).toNat)
  case atStart => exact ⟨0, zs, Nat.zero_le _, rfl, hlen, h, Kept.refl _ _⟩
  case round =>
    obtain ⟨k, ys, hk, rfl, hy, ho, K⟩ := hrel
    clear h
    by_cases hlt : k < n
    · obtain ⟨g, cap, e, hbg, hgl⟩ := ho.form (by omega)
      simp only [Value.slice.injEq] at e
      obtain ⟨rfl, _, rfl⟩ := e
      have hky : k < ys.length := by omega
      obtain ⟨x1, x2⟩ := ownsRow_get ho (k := k) (u := .int .u8 ys[k]) (by rw [List.getElem?_map, List.getElem?_eq_getElem hky]; rfl)
      have hs := fun u => ownsRow_set ho (k := k) (.int .u8 u)
      have e1 : (k : Int) < (n : Int) := by omega
      have HY : Hid (ys.length = n) := hy
      generalize ys[k] = x at *
      clear hy hlen
      go_wp2
      go_roundw
      case rel =>
        refine ⟨k + 1, ys.set k ?xoru, by omega, by go_num, ?xorl, ?xorr, K.and (Kept.setCell _ _ _ hbg)⟩
        case xorr => rw [List.map_set]; exact hs _
        case xorl => rw [List.length_set]; exact HY.out
      case measure => simp [intOf]; omega
    · have HY : Hid (ys.length = n) := hy
      clear hy hlen
      go_wp2
      go_loopw [0, 3] (fun v i wr => ∃ (k m : Nat) (us : List Value), k ≤ 40 ∧ i = .int .i64 k ∧ m = n + k ∧ wr.ownsRow base 5 1 v m us ∧ Kept (fun k => base ≤ k) w wr) (fun _ i _ => 40 - (intOf i).toNat)
      case atStart => exact ⟨0, n, _, by decide, rfl, rfl, ho, K⟩
      case round =>
        obtain ⟨j, m, us, hj, rfl, hm, ho, K⟩ := hrel
        have HM : Hid (m = n + j) := hm
        have hmb : m ≤ 1099511627816 := by omega
        clear hm
        have hbz : base ≤ wr.heap.size := Nat.le_trans hb K.size
        by_cases hj2 : j < 40
        · go_wp2_with (at_builtin; refine wpList_append_lies _ rfl _ _ 27 rfl base 5 i0 (.int .u8 0) 1 1 Try.underlying27 hi hz0 hz1 hz2 rfl (by decide) _ m us rfl (ho.alloc _) ⟨wr.heap.size, 0, none⟩ 1 1 [.int .u8 85] rfl rfl (cell_one_new _ _ _) (by simp [Value.oneCell']) (by decide) (by unfold maxLen; omega) (by omega) (by simp; omega) (wr.heap.size + 1) (by simp) ?_; intro g2 cap2 w2 hown2 hgrow hat hlt2)
          go_roundw
          case rel => exact ⟨j + 1, m + 1, _, by omega, by go_num, by have := HM.out; omega, hown2, (K.and (Kept.alloc _ _ _)).and (Kept.grown hgrow (fun k e => (ho.lt k e).1))⟩
          case measure => simp [intOf]; omega
        · go_wp2
          go_end0
          exact ⟨rfl, K⟩

/-- What is handed to append: a row of cells, or nil. -/
def Src (w : World) (size : Nat) (x : Value) (m : Nat) (news : List Value) : Prop :=
  (∃ ad c, x = .slice (some ad) m c ∧ news.length = m * size ∧ ∀ j u, news[j]? = some u → w.cell? (ad.add j) = some u) ∨ (∃ c, x = .slice none 0 c ∧ m = 0 ∧ news = [])

theorem BytesAt.src {w : World} {a : Option Addr} {m c : Nat} {b : List Int} (B : BytesAt w a m c b) : Src w 1 (.slice a m c) m (b.map (Value.int .u8)) := by
  cases a with
  | none =>
    have hm := B.nil rfl
    have hb : b = [] := List.eq_nil_of_length_eq_zero (by rw [B.len, hm])
    exact .inr ⟨c, by rw [hm], hm, by rw [hb]; rfl⟩
  | some ad => exact .inl ⟨ad, c, rfl, by simp [B.len], B.cells ad rfl⟩

theorem run_append_src {P : Program} (w : World) (base : Nat) (t ty e : TypeId) (i : TypeInfo) (z : Value) (size bytes : Nat) (ht : P.underlying t = some (.slice e)) (hi : P.info? e = some i) (hz : i.zero = some z)
    (hsize : i.size = size) (hby : i.bytes = bytes) (hzs : z.cells.size = size) (hsz : 0 < size)
    (v : Value) (n : Nat) (xs : List Value) (hown : w.ownsRow base e size v n xs) (x : Value) (m : Nat) (news : List Value) (hsrc : Src w size x m news) (h1 : ∀ u ∈ news, u.oneCell' = true)
    (h63 : n + m ≤ maxLen) (hbytes : (n + m) * bytes ≤ 140737488355328) (hbase : base ≤ w.heap.size) :
    ∃ v' w', (Builtin.append_ #[t, t] ty #[v, x]).run P w = .ok v' w' ∧ w'.ownsRow base e size v' (n + m) (xs ++ news) ∧ w.grownBy w' v.ownBlock ∧
      (v' = .slice none 0 0 ↔ v = .slice none 0 0 ∧ m = 0) ∧ (v'.ownBlock = v.ownBlock ∨ v'.ownBlock = some w.heap.size) := by
  rcases hsrc with ⟨ad, c, rfl, hl, hc⟩ | ⟨c, rfl, rfl, rfl⟩
  · exact run_append_own_at w base t ty e i z size bytes ht hi hz hsize hby hzs hsz v n xs hown ad m c news hl hc h1 h63 hbytes hbase
  · refine ⟨v, w, ?_, by simpa using hown, ⟨rfl, rfl, rfl, Nat.le_refl _, fun _ _ _ => rfl⟩, by simp, .inl rfl⟩
    rcases hown.2 with ⟨rfl, rfl⟩ | ⟨g, cap, cur, rfl, _, _, hnc, _⟩
    · simp [Builtin.append_, run_underlying ht, sizeOf, typeInfo, hi, Builtin.lenOf, Builtin.firstCells]
    · simp [Builtin.append_, run_underlying ht, sizeOf, typeInfo, hi, Builtin.lenOf, Builtin.firstCells, hnc, storeCells]

/-- append(v, x...) onto a row that is owned, from whatever source, nil and empty ones too. -/
theorem wpList_append_src {P : Program} (w : World) {ops : Array Oper} {rest : List Oper} {o : Oper} {a : Act} {Q : Exit → Act → World → Prop} (hgd : o.guard = none) (s x : Operand) (t : TypeId)
    (ho : o.op = .call { callee := .builtin .append, args := #[s, x], argTypes := #[t, t] })
    (base : Nat) (e : TypeId) (i : TypeInfo) (z : Value) (size bytes : Nat) (ht : P.underlying t = some (.slice e)) (hi : P.info? e = some i) (hz : i.zero = some z)
    (hsize : i.size = size) (hby : i.bytes = bytes) (hzs : z.cells.size = size) (hsz : 0 < size)
    (v : Value) (n : Nat) (xs : List Value) (hs : a.eval s = v) (hown : w.ownsRow base e size v n xs) (xv : Value) (hx : a.eval x = xv) (m : Nat) (news : List Value) (hsrc : Src w size xv m news) (h1 : ∀ u ∈ news, u.oneCell' = true)
    (h63 : n + m ≤ maxLen) (hbytes : (n + m) * bytes ≤ 140737488355328) (hbase : base ≤ w.heap.size)
    (h : ∀ a' cap w', w'.ownsRow base e size (.slice a' (n + m) cap) (n + m) (xs ++ news) → w.grownBy w' v.ownBlock → (Value.slice a' (n + m) cap = .slice none 0 0 ↔ v = .slice none 0 0 ∧ m = 0) → ((Value.slice a' (n + m) cap).ownBlock = v.ownBlock ∨ (Value.slice a' (n + m) cap).ownBlock = some w.heap.size) → wpList P ops Q rest (a.put o.dst (.slice a' (n + m) cap)) w') :
    wpList P ops Q (o :: rest) a w := by
  refine wpList_plain hgd fun K hK => ?_
  obtain ⟨v', w', hrun, h2, h3, h4, h5⟩ := run_append_src (P := P) w base t o.type e i z size bytes ht hi hz hsize hby hzs hsz v n xs hown xv m news hsrc h1 h63 hbytes hbase
  obtain ⟨a', cap, rfl⟩ := ownsRow_shape h2
  unfold Oper.wp
  simp [execOp, ho, resolve, invoke, builtin, hs, hx, hrun, Result.andThen]
  exact hK _ _ (h a' cap w' h2 h3 h4 h5)

/-- A slice of no element, in a block of its own. -/
theorem ownsRow_empty (w : World) (base : Nat) (e : TypeId) (size : Nat) (hb : base ≤ w.heap.size) : (w.alloc (.cells #[] e)).ownsRow base e size (.slice (some ⟨w.heap.size, 0, none⟩) 0 0) 0 [] :=
  World.ownsRow_made w #[] 0 hb (by simp [maxLen]) (by simp)

/-- Bytes that are lent: a copy, four bytes behind them. -/
def lentOf (b : List Int) : List Value := b.map (Value.int .u8) ++ [.int .u8 201, .int .u8 202, .int .u8 203, .int .u8 204]

theorem lend_k1 (w w1 : World) (h : (w.alloc (.cells #[] 5)).grownBy w1 (Value.slice (some ⟨w.heap.size, 0, none⟩) 0 0).ownBlock) : Kept (fun _ => False) w w1 :=
  (Kept.alloc _ w _).trans (Kept.grown (S := fun k => w.heap.size ≤ k) h (fun _ e => Nat.le_of_eq (Option.some.inj e))) (fun _ h => .inr h)

theorem lend_cap {w : World} {base e n size cap g : Nat} {xs : List Value} (h : w.ownsRow base e size (.slice (some ⟨g, 0, none⟩) n cap) n xs) : (n : Int) ≤ (cap : Int) := by
  rcases h.2 with ⟨h0, _⟩ | ⟨g', cap', cur, hv, _, _, r1, _⟩
  · cases h0
  · simp only [Value.slice.injEq] at hv
    obtain ⟨_, _, rfl⟩ := hv
    omega

set_option maxRecDepth 100000 in
set_option maxHeartbeats 1000000 in
theorem lend_any (w : World) (a : Option Addr) (m c : Nat) (b : List Int) (B : BytesAt w a m c b) (hm : m ≤ 1099511627776) :
    Calls Try.prog 9 #[.slice a m c] w fun e w' => ∃ g cap, e = .returned (.slice (some ⟨g, 0, none⟩) m cap) ∧ w'.ownsRow w.heap.size 5 1 (.slice (some ⟨g, 0, none⟩) (m + 4) cap) (m + 4) (lentOf b) ∧ Kept (fun _ => False) w w' := by
  obtain ⟨i0, hi, hz0, hz1, hz2⟩ := info_parts Try.info5
  have hown := ownsRow_empty w w.heap.size 5 1 (Nat.le_refl _)
  have BA := B.kept (Kept.alloc (fun _ => False) w (.cells #[] 5)) (fun _ _ _ h => h)
  go_enter Try.func9, Try.ntmps9
  go_wp2_with (first
    | (at_builtin; have _t := hown; refine wpList_append_src _ rfl _ _ 27 rfl w.heap.size 5 i0 (.int .u8 0) 1 1 Try.underlying27 hi hz0 hz1 hz2 rfl (by decide) (.slice (some ⟨w.heap.size, 0, none⟩) 0 0) 0 [] rfl hown _ rfl m _ BA.src (oneCells _) (by unfold maxLen; omega) (by omega) (by simp) ?_; intro a1 cap1 w1 ho1 hg1 hn1 hl1; simp only [Nat.zero_add, List.nil_append] at ho1 hn1 hl1 ⊢; have K1 := lend_k1 w w1 hg1; have hz1' := K1.size; clear _t hown hn1 hl1 hg1)
    | (at_builtin; refine wpList_append_lies _ rfl _ _ 27 rfl w.heap.size 5 i0 (.int .u8 0) 1 1 Try.underlying27 hi hz0 hz1 hz2 rfl (by decide) (.slice a1 m cap1) m _ rfl (ho1.alloc _) ⟨w1.heap.size, 0, none⟩ 4 4 [.int .u8 201, .int .u8 202, .int .u8 203, .int .u8 204] rfl rfl (World.news_of_block (heap_alloc_new w1 _)) (by simp [Value.oneCell']) (by decide) (by unfold maxLen; omega) (by omega) (by simp; omega) (w1.heap.size + 1) (by simp) ?_; intro g2 cap2 w2 ho2 hg2 hat2 hlt2; have hc2 := lend_cap ho2)
    | fail)
  go_ret
  exact ⟨g2, cap2, rfl, ho2, (K1.and (Kept.alloc _ _ _)).trans (Kept.grown (S := fun k => w.heap.size ≤ k) hg2 (fun k e => (ho1.lt k e).1)) (fun k h => .inr h)⟩

theorem lent_str (b : List Int) : strOfNums (b ++ [201, 202, 203, 204]) = strOfNums b ++ ⟨#[201, 202, 203, 204]⟩ := by
  have h : ∀ x y : ByteArray, x.data = y.data → x = y := by
    intro x y h; cases x; cases y; simp at h; rw [h]
  apply h
  simp [strOfNums]

set_option maxRecDepth 100000 in
set_option maxHeartbeats 1000000 in
theorem intact_any (w : World) (base g m cap : Nat) (a : Option Addr) (c : Nat) (b : List Int) (B : BytesAt w a m c b) (ho : w.ownsRow base 5 1 (.slice (some ⟨g, 0, none⟩) (m + 4) cap) (m + 4) (lentOf b)) (hm : m ≤ 1099511627776) :
    Calls Try.prog 11 #[.slice (some ⟨g, 0, none⟩) m cap, .slice a m c] w fun e w' => e = .returned (.bool true) ∧ Kept (fun k => k = g) w w' := by
  have hcap := lend_cap ho
  have hcap2 : (m : Int) + 4 ≤ (cap : Int) := by omega
  have hl : (b ++ [201, 202, 203, 204]).length = m + 4 := by rw [List.length_append, B.len]; rfl
  have BL : BytesAt w (some ⟨g, 0, none⟩) (m + 4) cap (b ++ [201, 202, 203, 204]) := by
    have h2 : w.ownsRow base 5 1 (.slice (some ⟨g, 0, none⟩) (b ++ [201, 202, 203, 204]).length cap) (b ++ [201, 202, 203, 204]).length ((b ++ [201, 202, 203, 204]).map (Value.int .u8)) := by
      rw [hl, List.map_append]; exact ho
    have h3 := BytesAt.ofRow h2 (fun x hx => by
      rcases List.mem_append.1 hx with h | h
      · exact B.byte x h
      · simp at h; omega)
    rw [hl] at h3
    exact h3
  have s1 := BL.str
  rw [lent_str] at s1
  have s2 := B.str
  have hsz : (strOfNums b).size ≤ 1099511627776 := by
    have : (strOfNums b).size = b.length := by simp [strOfNums, ByteArray.size]
    rw [this, B.len]; exact hm
  have ho' : w.ownsRow base 5 1 (.slice (some ⟨g, 0, none⟩) (m + 4) cap) (m + 4) ((b ++ [201, 202, 203, 204]).map (Value.int .u8)) := by rw [List.map_append]; exact ho
  go_enter Try.func11, Try.ntmps11
  go_wp2
  go_loopw [7] (fun i wr => ∃ (k : Nat) (ys : List Int), k ≤ m + 4 ∧ i = .int .i64 k ∧ ys.length = m + 4 ∧ wr.ownsRow base 5 1 (.slice (some ⟨g, 0, none⟩) (m + 4) cap) (m + 4) (ys.map (Value.int .u8)) ∧ Kept (fun k => k = g) w wr) (fun i _ => m + 4 - (intOf i).toNat)
  case atStart => exact ⟨0, _, Nat.zero_le _, rfl, hl, ho', Kept.refl _ _⟩
  case round =>
    obtain ⟨k, ys, hk, rfl, hy, ho2, K⟩ := hrel
    clear s1 s2 ho ho' BL hl
    have HY : Hid (ys.length = m + 4) := hy
    by_cases hlt : k < m + 4
    · have hky : k < ys.length := by omega
      obtain ⟨x1, x2⟩ := ownsRow_get ho2 (k := k) (u := .int .u8 ys[k]) (by rw [List.getElem?_map, List.getElem?_eq_getElem hky]; rfl)
      have hs := ownsRow_set ho2 (k := k) (.int .u8 85)
      generalize ys[k] = x at *
      have e1 : (k : Int) < (m : Int) + 4 := by omega
      clear hy
      go_wp2
      go_roundw
      case rel => exact ⟨k + 1, ys.set k 85, by omega, by go_num, by rw [List.length_set]; exact HY.out, by rw [List.map_set]; exact hs, K.and (Kept.setCell (S := fun k => k = g) _ _ _ rfl)⟩
      case measure => simp [intOf]; omega
    · clear hy
      go_wp2
      go_ret
      exact ⟨rfl, K⟩

end Go.Proofs.Ythpamcfemhimcaa
