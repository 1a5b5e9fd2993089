/-
  SpoilBytes of bytes that a text was made into: their mark lies behind their end.
-/
import Derived.Test.YtimipkhjcgmioaaGreatDoorFRep
import Derived.Test.YtimipkhjcgmioaaGreatDoorFWake1
import Derived.Deep.AppendSrc
namespace Go.Proofs.YtimipkhjcgmioaaGreatDoor
open Go.RowKit

/-- Bytes of a block, with room behind them that nothing marks. -/
def RowF (w : World) (v : Value) (n : Nat) : Prop := ∃ (g cap : Nat) (cur : Array Value) (e : TypeId) (fz : Nat × Nat), v = .slice (some ⟨g, 0, none⟩) n cap ∧ w.heap[g]? = some (.cells cur e fz) ∧ (fz.2 = 0 ∨ cap ≤ fz.1) ∧ n ≤ cap ∧ cap ≤ cur.size ∧ ∀ j, j < n → ∃ x, cur[j]? = some (.int .u8 x)

theorem unmarked {w : World} {g cap j : Nat} {cur : Array Value} {e : TypeId} {fz : Nat × Nat} (h : w.heap[g]? = some (.cells cur e fz)) (hf : fz.2 = 0 ∨ cap ≤ fz.1) (hj : j < cap) : w.frozen? ⟨g, j, none⟩ = false := by
  obtain ⟨lo, hi⟩ := fz
  simp only [World.frozen?, h]
  simp only at hf
  rw [Bool.and_eq_false_iff, decide_eq_false_iff_not, decide_eq_false_iff_not]
  omega

theorem RowF.get {w : World} {a : Option Addr} {n c k : Nat} (h : RowF w (.slice a n c) n) (hk : k < n) : ∃ g x, a = some ⟨g, 0, none⟩ ∧ w.cell? ⟨g, k, none⟩ = some (.int .u8 x) ∧ w.frozen? ⟨g, k, none⟩ = false ∧ ∀ u, RowF (w.setCell ⟨g, k, none⟩ (.int .u8 u)) (.slice a n c) n := by
  obtain ⟨g, cap, cur, e, fz, hv, hh, hf, h1, h2, h3⟩ := h
  simp only [Value.slice.injEq] at hv
  obtain ⟨rfl, _, rfl⟩ := hv
  obtain ⟨x, hx⟩ := h3 k hk
  refine ⟨g, x, rfl, by simp [World.cell?, hh, hx], unmarked hh hf (by omega), fun u => ?_⟩
  refine ⟨g, c, cur.setIfInBounds k (.int .u8 u), e, fz, rfl, by simp [World.setCell, Array.getElem?_modify, hh], hf, h1, by simpa using h2, fun j hj => ?_⟩
  by_cases hjk : k = j
  · subst hjk
    exact ⟨u, by simp [Array.getElem?_setIfInBounds]; omega⟩
  · obtain ⟨y, hy⟩ := h3 j hj
    exact ⟨y, by rw [Array.getElem?_setIfInBounds, if_neg hjk]; exact hy⟩

theorem RowF.alloc {w : World} {v : Value} {n : Nat} (h : RowF w v n) (o : Obj) : RowF (w.alloc o) v n := by
  obtain ⟨g, cap, cur, e, fz, hv, hh, hf, h1, h2, h3⟩ := h
  exact ⟨g, cap, cur, e, fz, hv, ((Kept.alloc (fun _ => False) w o).block g (Array.getElem?_eq_some_iff.1 hh).1 (fun h => h)).trans hh, hf, h1, h2, h3⟩

theorem append_rowF {P : Program} (w : World) (t ty e : TypeId) (i : TypeInfo) (ht : P.underlying t = some (.slice e)) (hi : P.info? e = some i) (hz : i.zero = some (.int .u8 0)) (hsize : i.size = 1) (hby : i.bytes = 1)
    (v : Value) (n : Nat) (L : RowF w v n) (x : Value) (y : Int) (hG : Go.Src P 1 t x 1 [.int .u8 y] w) (h63 : n ≤ 1099511627816) :
    ∃ a' c' w', (Builtin.append_ #[t, t] ty #[v, x]).run P w = .ok (.slice a' (n + 1) c') w' ∧ RowF w' (.slice a' (n + 1) c') (n + 1) ∧ Kept (fun k => v.ownBlock = some k) w w' ∧ ((Value.slice a' (n + 1) c').ownBlock = v.ownBlock ∨ (Value.slice a' (n + 1) c').ownBlock = some w.heap.size) := by
  obtain ⟨g, cap, cur, e', fz, rfl, hh, hf, h1, h2, h3⟩ := L
  by_cases hroom : n + 1 ≤ cap
  · have hrun := run_append_room_src (P := P) w t t ty e i ht hi g 0 n cap x 1 [.int .u8 y] (by rw [hsize]; exact hG) hroom
      (fun j hj => by
        rw [hsize]
        simp at hj
        have : n < cur.size := by omega
        simp [World.cell?, hh, hj]
        omega) (fun j hj => by
        rw [hsize]
        simp at hj
        exact unmarked hh hf (by omega))
    rw [hsize, Nat.mul_one, Nat.zero_add] at hrun
    refine ⟨_, _, _, hrun, ⟨g, cap, cur.setIfInBounds n (.int .u8 y), e', fz, rfl, ?_, hf, hroom, by simpa using h2, fun j hj => ?_⟩, Kept.setCell (S := fun k => (Value.slice (some ⟨g, 0, none⟩) n cap).ownBlock = some k) w ⟨g, n, none⟩ _ rfl, .inl rfl⟩
    · show ((w.setCell ⟨g, n, none⟩ _).heap[g]?) = _
      simp [World.setCell, Array.getElem?_modify, hh]
    · by_cases hjk : n = j
      · subst hjk
        exact ⟨y, by simp [Array.getElem?_setIfInBounds]; omega⟩
      · obtain ⟨q, hq⟩ := h3 j (by omega)
        exact ⟨q, by rw [Array.getElem?_setIfInBounds, if_neg hjk]; exact hq⟩
  · obtain ⟨zs, hzs⟩ : ∃ zs : List Int, zs.length = n ∧ ∀ (j : Nat) (u : Value), (zs.map (Value.int .u8))[j]? = some u → w.cell? ⟨g, j, none⟩ = some u := by
      refine ⟨(List.range n).map fun (j : Nat) => intOf (cur.getD j undef), by simp, fun j u hu => ?_⟩
      have hj : j < n := by have := (List.getElem?_eq_some_iff.1 hu).1; simpa using this
      obtain ⟨q, hq⟩ := h3 j hj
      simp [hj, hq, intOf] at hu
      subst hu
      simp [World.cell?, hh, hq]
    have hold : (Builtin.firstCells i.size n (.slice (some ⟨g, 0, none⟩) n cap)).run P w.drew = .ok (zs.map (Value.int .u8)).toArray w.drew := by
      rw [hsize]
      refine run_firstCells_some w.drew 1 n ⟨g, 0, none⟩ n cap _ (by simp [hzs.1]) (fun j u hj => ?_)
      rw [Addr.add_lit, Nat.zero_add]
      exact hzs.2 j u hj
    have hge := grownCap_ge w (n + 1) cap e
    have hrun := run_append_grow_src (P := P) w t t ty e i _ ht hi hz (some ⟨g, 0, none⟩) n cap _ hold x 1 [.int .u8 y] (by rw [hsize]; exact hG) (by omega) (by omega) (by rw [hby]; exact growslice_fits (by omega) (by omega))
    refine ⟨_, _, _, hrun, ⟨w.heap.size, _, _, _, (0, 0), rfl, heap_alloc_new w.drew _, .inl rfl, hge, ?_, fun j hj => ?_⟩, (Kept.drew _ _).and (Kept.alloc _ _ _), .inr rfl⟩
    · simp [size_zeroCells, hzs.1, Value.cells]
      omega
    · rw [Array.getElem?_append_left (by simp [hzs.1]; omega)]
      by_cases hjn : j < n
      · refine ⟨zs[j]'(by rw [hzs.1]; exact hjn), ?_⟩
        rw [List.getElem?_toArray, List.getElem?_append_left (by simp [hzs.1]; exact hjn)]
        simp
      · have : j = n := by omega
        subst this
        refine ⟨y, ?_⟩
        rw [List.getElem?_toArray, List.getElem?_append_right (by simp [hzs.1])]
        simp [hzs.1]

theorem wpList_append_rowF {P : Program} (w : World) {ops : Array Oper} {rest : List Oper} {o : Oper} {a : Act} {Q : Exit → Act → World → Prop} (hgd : o.guard = none) (s x : Operand) (t : TypeId)
    (ho : o.op = .call { callee := .builtin .append, args := #[s, x], argTypes := #[t, t] })
    (e : TypeId) (i : TypeInfo) (ht : P.underlying t = some (.slice e)) (hi : P.info? e = some i) (hz : i.zero = some (.int .u8 0)) (hsize : i.size = 1) (hby : i.bytes = 1)
    (v : Value) (n : Nat) (hs : a.eval s = v) (L : RowF w v n) (xv : Value) (hx : a.eval x = xv) (y : Int) (hG : Go.Src P 1 t xv 1 [.int .u8 y] w) (h63 : n ≤ 1099511627816)
    (h : ∀ a' c' w', RowF w' (.slice a' (n + 1) c') (n + 1) → Kept (fun k => v.ownBlock = some k) w w' → ((Value.slice a' (n + 1) c').ownBlock = v.ownBlock ∨ (Value.slice a' (n + 1) c').ownBlock = some w.heap.size) → wpList P ops Q rest (a.put o.dst (.slice a' (n + 1) c')) w') :
    wpList P ops Q (o :: rest) a w := by
  refine wpList_plain hgd fun K hK => ?_
  obtain ⟨a', c', w', hrun, h2, h3, h4⟩ := append_rowF (P := P) w t o.type e i ht hi hz hsize hby v n L xv y hG h63
  unfold Oper.wp
  simp [execOp, ho, resolve, invoke, builtin, hs, hx, hrun, Result.andThen]
  exact hK _ _ (h a' c' w' h2 h3 h4)

theorem RowF.shape {w : World} {v : Value} {n : Nat} (h : RowF w v n) : ∃ a c, v = .slice a n c := by
  obtain ⟨g, cap, _, _, _, rfl, _⟩ := h
  exact ⟨_, _, rfl⟩

theorem src85 (w : World) : Go.Src Tryz.prog 1 23 (.slice (some ⟨w.heap.size, 0, none⟩) 1 1) 1 [.int .u8 85] (w.alloc (.cells #[.int .u8 85] 5)) :=
  Go.Src.ofSlice _ Tryz.underlying23 ⟨w.heap.size, 0, none⟩ 1 1 _ rfl (World.news_of_block (heap_alloc_new w _)) (by simp [Value.oneCell'])

set_option maxRecDepth 100000 in
set_option maxHeartbeats 1000000 in
theorem spoilF_any (w : World) (v : Value) (n : Nat) (h : RowF w v n) (hn : n ≤ 1099511627776) :
    Calls Tryz.prog 34 #[v] w fun e w' => e = .returned (.tuple #[]) ∧ Kept (fun k => v.ownBlock = some k) w w' := by
  obtain ⟨i0, hi, hz0, hz1, hz2⟩ := info_parts Tryz.info5
  obtain ⟨a, c, rfl⟩ := h.shape
  go_enter Tryz.func34, Tryz.ntmps34
  go_wp2
  go_loopw [2] (fun i wr => ∃ (k : Nat), k ≤ n ∧ i = .int .i64 k ∧ RowF wr (.slice a n c) n ∧ Kept (fun k => (Value.slice a n c).ownBlock = some k) w wr) (fun i _ => n - (intOf i).toNat)
  case atStart => exact ⟨0, Nat.zero_le _, rfl, h, Kept.refl _ _⟩
  case round =>
    obtain ⟨k, hk, rfl, ho, K⟩ := hrel
    clear h
    by_cases hlt : k < n
    · obtain ⟨g, x, rfl, x1, x2, hs⟩ := ho.get hlt
      have e1 : (k : Int) < (n : Int) := by omega
      go_wp2
      go_roundw
      case rel => exact ⟨k + 1, by omega, by go_num, hs _, K.and (Kept.setCell (S := fun k => (Value.slice (some ⟨g, 0, none⟩) n c).ownBlock = some k) _ _ _ rfl)⟩
      case measure => simp [intOf]; omega
    · go_wp2
      go_loopw [0, 3] (fun v i wr => ∃ (k m : Nat), k ≤ 40 ∧ i = .int .i64 k ∧ m = n + k ∧ RowF wr v m ∧ Kept (fun k => (Value.slice a n c).ownBlock = some k) w wr ∧ (∀ k, v.ownBlock = some k → (Value.slice a n c).ownBlock = some k ∨ w.heap.size ≤ k)) (fun _ i _ => 40 - (intOf i).toNat)
      case atStart => exact ⟨0, n, by decide, rfl, rfl, ho, K, fun _ h => .inl h⟩
      case round =>
        obtain ⟨j, m, hj, rfl, hm, ho, K, hv⟩ := hrel
        have HM : Hid (m = n + j) := hm
        have hmb : m ≤ 1099511627816 := by omega
        clear hm
        have hwz := K.size
        obtain ⟨a5, c5, rfl⟩ := ho.shape
        by_cases hj2 : j < 40
        · have ra := ho.alloc (.cells #[.int .u8 85] 5)
          go_wp2_with (at_builtin; refine wpList_append_rowF _ rfl _ _ 23 rfl 5 i0 Tryz.underlying23 hi hz0 hz1 hz2 (.slice a5 m c5) m rfl ra _ rfl 85 (src85 _) hmb ?_; intro a6 c6 w2 hown2 hgrow hl2)
          go_roundw
          case rel =>
            refine ⟨j + 1, m + 1, by omega, by go_num, by have := HM.out; omega, hown2, (K.and (Kept.alloc _ _ _)).trans hgrow hv, ?_⟩
            intro k hk
            rcases hl2 with e | e
            · exact hv k (e ▸ hk)
            · right
              rw [e] at hk
              have := Option.some.inj hk
              simp at this
              omega
          case measure => simp [intOf]; omega
        · go_wp2
          go_end0
          exact ⟨rfl, K⟩

theorem RowF.ofBytes (W : World) (l : List UInt8) : RowF (Lib.bytesWorld W 5 (mkB l)) (.slice (some ⟨W.heap.size, 0, none⟩) l.length (grownCap W l.length 0 5)) l.length := by
  have hge := grownCap_ge W l.length 0 5
  have hs : (Lib.bytesCells W 5 (mkB l)).size = grownCap W l.length 0 5 := by
    unfold Lib.bytesCells
    rw [mkB_size]
    simp [mkB]
    omega
  refine ⟨W.heap.size, _, _, _, _, rfl, Lib.bytesWorld_at_new W _ (mkB l), .inr (by rw [hs]; exact Nat.le_refl _), hge, by rw [hs]; exact Nat.le_refl _, fun j hj => ?_⟩
  have h := Lib.bytesWorld_cell W 5 (mkB l) j (by rw [mkB_size]; exact hj)
  simp only [World.cell?, Lib.bytesWorld_at_new] at h
  exact ⟨_, h⟩

/-- A reply that is spoilt: nothing that was is touched. -/
theorem spoilReply_any (w W : World) (l : List UInt8) (K : Kept (fun _ => False) w W) (hl : l.length ≤ 1000000000000) :
    Calls Tryz.prog 34 #[.slice (some ⟨W.heap.size, 0, none⟩) l.length (grownCap W l.length 0 5)] (Lib.bytesWorld W 5 (mkB l)) fun e w' => e = .returned (.tuple #[]) ∧ Kept (fun _ => False) w w' := by
  refine (spoilF_any _ _ _ (RowF.ofBytes W l) (by omega)).mono fun e w' ⟨he, K2⟩ => ⟨he, ?_⟩
  have K1 : Kept (fun _ => False) w (Lib.bytesWorld W 5 (mkB l)) := K.and (bytesKept _ _ _ _)
  refine K1.trans K2 fun k hk => .inr ?_
  have hkk : W.heap.size = k := Option.some.inj hk
  have hz := K.size
  omega

end Go.Proofs.YtimipkhjcgmioaaGreatDoor
