/-
  Lists held against each other, and spoilt; an append as a step of a region that draws its order.
-/
import Derived.Test.YtjfgjmiedmpieaaDoorRHosts
import Derived.Deep.RegionLaw
namespace Go.Proofs.YtjfgjmiedmpieaaDoor
open Go.RowKit Go.Sort

theorem step_append_sr {P : Program} {ops : Array Oper} {o : Oper} {a : Act} (w : World) {K : Act → World → Prop} {Q : Exit → Act → World → Prop} {E : Prop}
    (hg : o.guard = none) (s x : Operand) (t : TypeId) (hop : o.op = Op.call { callee := Callee.builtin Builtin.append, args := #[s, x], argTypes := #[t, t] })
    (base : Nat) (e : TypeId) (i : TypeInfo) (z : Value) (size bytes : Nat) (ht : P.underlying t = some (.slice e)) (hi : P.info? e = some i) (hz : i.zero = some z)
    (hsize : i.size = size) (hby : i.bytes = bytes) (hzs : z.cells.size = size) (hsz : 0 < size)
    (v : Value) (n : Nat) (xs : List Value) (hs : a.eval s = v) (hown : w.ownsRow base e size v n xs) (xv : Value) (hx : a.eval x = xv) (m : Nat) (news : List Value) (hsrc : Src w size xv m news) (h1 : ∀ u ∈ news, u.oneCell' = true)
    (h63 : n + m ≤ maxLen) (hbytes : (n + m) * bytes ≤ 140737488355328) (hbase : base ≤ w.heap.size)
    (hK : ∀ a' cap w', w'.ownsRow base e size (.slice a' (n + m) cap) (n + m) (xs ++ news) → w.grownBy w' v.ownBlock → (Value.slice a' (n + m) cap = .slice none 0 0 ↔ v = .slice none 0 0 ∧ m = 0) → ((Value.slice a' (n + m) cap).ownBlock = v.ownBlock ∨ (Value.slice a' (n + m) cap).ownBlock = some w.heap.size) → K (a.put o.dst (.slice a' (n + m) cap)) w') :
    if Region.wanted o (yielded ops a.tmps) = true then Oper.wp P o a w K Q else E := by
  have hw : Region.wanted o (yielded ops a.tmps) = true := by simp [Region.wanted, hg]
  rw [if_pos hw]
  obtain ⟨v', w', hrun, h2, h3, h4, h5⟩ := run_append_src (P := P) w base t o.type e i z size bytes ht hi hz hsize hby hzs hsz v n xs hown xv m news hsrc h1 h63 hbytes hbase
  obtain ⟨a', cap, rfl⟩ := ownsRow_shape h2
  unfold Oper.wp
  simp [execOp, hop, resolve, invoke, builtin, hs, hx, hrun, Result.andThen]
  exact hK a' cap w' h2 h3 h4 h5

theorem IntsAt.src {w : World} {a : Option Addr} {m c : Nat} {l : List Int} (B : IntsAt w a m c l) : Src w 1 (.slice a m c) m (l.map (Value.int .i64)) := by
  cases a with
  | none =>
    have hm := B.nil rfl
    have hb : l = [] := List.eq_nil_of_length_eq_zero (by rw [B.len, hm])
    exact .inr ⟨c, by rw [hm], hm, by rw [hb]; rfl⟩
  | some ad => exact .inl ⟨ad, c, rfl, by simp [B.len], fun j u hu => by
      rw [List.getElem?_map] at hu
      have hj : j < l.length := by
        rcases Nat.lt_or_ge j l.length with h | h
        · exact h
        · rw [List.getElem?_eq_none h] at hu; cases hu
      rw [List.getElem?_eq_getElem hj] at hu
      simp only [Option.map_some, Option.some.injEq] at hu
      rw [← hu]
      exact B.cells ad rfl j hj⟩

theorem ints_one (l : List Int) : ∀ u ∈ l.map (Value.int .i64), u.oneCell' = true := by
  intro u hu
  obtain ⟨x, _, rfl⟩ := List.mem_map.1 hu
  rfl

set_option maxRecDepth 100000 in
set_option maxHeartbeats 1000000 in
theorem ints_same (w : World) (a1 a2 : Option Addr) (n c1 c2 : Nat) (l : List Int) (h1 : IntsAt w a1 n c1 l) (h2 : IntsAt w a2 n c2 l) (hl : n ≤ 4611686018427387904) :
    Calls Tryd.prog 6 #[.slice a1 n c1, .slice a2 n c2] w fun e w' => e = .returned (.bool true) ∧ ∃ m, w' = w.drewN m := by
  have HL : Hid (l.length = n) := h1.len
  have hn : ((n : Int) != (n : Int)) = false := by simp
  go_enter Tryd.func6, Tryd.ntmps6
  go_wp2
  go_loopw [5] (fun i wr => ∃ (k m : Nat), k ≤ n ∧ i = .int .i64 k ∧ wr = w.drewN m) (fun i _ => n - (intOf i).toNat)
  case atStart => exact ⟨0, 0, Nat.zero_le _, rfl, rfl⟩
  case round =>
    obtain ⟨k, m, hk, rfl, rfl⟩ := hrel
    by_cases hlt : k < n
    · have hkl : k < l.length := by rw [HL.out]; exact hlt
      obtain ⟨b1, o1, rfl, q1⟩ := h1.at hkl
      obtain ⟨b2, o2, rfl, q2⟩ := h2.at hkl
      have x1 := q1 k hkl
      have x2 := q2 k hkl
      generalize l[k] = x at *
      clear q1 q2 h1 h2
      have e1 : (k : Int) < (n : Int) := by omega
      go_wp2_with fail
      go_quiet (fail)
      go_wp2
      go_roundw
      case rel => exact ⟨k + 1, m + nq, by omega, by go_num, rfl⟩
      case measure => simp [intOf]; omega
    · clear h1 h2
      have e1 : ¬ (k : Int) < (n : Int) := by omega
      go_wp2
      go_ret
      exact ⟨rfl, m, rfl⟩

set_option maxRecDepth 100000 in
set_option maxHeartbeats 1000000 in
theorem spoilInts_any (w : World) (base : Nat) (v : Value) (n : Nat) (zs : List Int) (h : w.ownsRow base 3 1 v n (zs.map (Value.int .i64))) (hn : n ≤ 1099511627776) (hb : base ≤ w.heap.size) :
    Calls Tryd.prog 9 #[v] w fun e w' => e = .returned (.tuple #[]) ∧ Kept (fun k => base ≤ k) w w' := by
  obtain ⟨i0, hi, hz0, hz1, hz2⟩ := info_parts Tryd.info3
  obtain ⟨a, c, rfl⟩ := ownsRow_shape h
  have hlen : zs.length = n := by have := h.1; simpa using this
  go_enter Tryd.func9, Tryd.ntmps9
  go_wp2
  go_loopw [2] (fun i wr => ∃ (k : Nat) (ys : List Int), k ≤ n ∧ i = .int .i64 k ∧ ys.length = n ∧ wr.ownsRow base 3 1 (.slice a n c) n (ys.map (Value.int .i64)) ∧ Kept (fun k => base ≤ k) w wr) (fun i _ => n - (intOf i).toNat)
  case atStart => exact ⟨0, zs, Nat.zero_le _, rfl, hlen, h, Kept.refl _ _⟩
  case round =>
    obtain ⟨k, ys, hk, rfl, hy, ho, K⟩ := hrel
    clear h
    by_cases hlt : k < n
    · obtain ⟨g, cap, e, hbg, hgl⟩ := ho.form (by omega)
      simp only [Value.slice.injEq] at e
      obtain ⟨rfl, _, rfl⟩ := e
      have hky : k < ys.length := by omega
      obtain ⟨x1, x2⟩ := ownsRow_get ho (k := k) (u := .int .i64 ys[k]) (by rw [List.getElem?_map, List.getElem?_eq_getElem hky]; rfl)
      have hs := ownsRow_set ho (k := k) (.int .i64 (-77))
      have e1 : (k : Int) < (n : Int) := by omega
      have HY : Hid (ys.length = n) := hy
      clear hy hlen
      go_wp2
      go_roundw
      case rel => exact ⟨k + 1, ys.set k (-77), by omega, by go_num, by rw [List.length_set]; exact HY.out, by rw [List.map_set]; exact hs, K.and (Kept.setCell _ _ _ hbg)⟩
      case measure => simp [intOf]; omega
    · have HY : Hid (ys.length = n) := hy
      clear hy hlen
      go_wp2
      go_loopw [0, 3] (fun v i wr => ∃ (k m : Nat) (us : List Value), k ≤ 10 ∧ i = .int .i64 k ∧ m = n + k ∧ wr.ownsRow base 3 1 v m us ∧ Kept (fun k => base ≤ k) w wr) (fun _ i _ => 10 - (intOf i).toNat)
      case atStart => exact ⟨0, n, _, by decide, rfl, rfl, ho, K⟩
      case round =>
        obtain ⟨j, m, us, hj, rfl, hm, ho, K⟩ := hrel
        have HM : Hid (m = n + j) := hm
        have hmb : m ≤ 1099511627786 := by omega
        clear hm
        have hbz : base ≤ wr.heap.size := Nat.le_trans hb K.size
        by_cases hj2 : j < 10
        · go_wp2_with (at_builtin; refine wpList_append_lies _ rfl _ _ 22 rfl base 3 i0 (.int .i64 0) 1 8 Tryd.underlying22 hi hz0 hz1 hz2 rfl (by decide) _ m us rfl (ho.alloc _) ⟨wr.heap.size, 0, none⟩ 1 1 [.int .i64 (-78)] rfl rfl (cell_one_new _ _ _) (by simp [Value.oneCell']) (by decide) (by unfold maxLen; omega) (by omega) (by simp; omega) (wr.heap.size + 1) (by simp) ?_; intro g2 cap2 w2 hown2 hgrow hat hlt2)
          go_roundw
          case rel => exact ⟨j + 1, m + 1, _, by omega, by go_num, by have := HM.out; omega, hown2, (K.and (Kept.alloc _ _ _)).and (Kept.grown hgrow (fun k e => (ho.lt k e).1))⟩
          case measure => simp [intOf]; omega
        · go_wp2
          go_end0
          exact ⟨rfl, K⟩

end Go.Proofs.YtjfgjmiedmpieaaDoor
