/-
  Changes: read by the codec (readList).
-/
import Derived.Test.YtceocmhgbcimoaaCRdOps
namespace Go.Proofs.Ytceocmhgbcimoaa
open Go.RowKit

/-- The answer of a list. -/
def listRes (n : Int) : Except Nat (List RdD × Nat) → Except Nat ((Int × List RdD) × Nat)
  | .error e => .error e
  | .ok (l, i) => .ok ((n, l), i)

/-- What is left of a list behind what was read. -/
def restOf (xs : List RdD) : Except Nat (List RdD × Nat) → Except Nat (List RdD × Nat)
  | .error e => .error e
  | .ok (l, i) => .ok (xs ++ l, i)

theorem rest_err {xs : List RdD} {raw : List Int} {n j pl : Nat} (h : rdOp raw j = .error pl) : restOf xs (rdMany rdOp (n + 1) raw j) = .error pl := by
  simp [rdMany, rdBind, h, restOf]

theorem rest_ok {xs : List RdD} {raw : List Int} {n j i : Nat} {x : RdD} (h : rdOp raw j = .ok (x, i)) : restOf xs (rdMany rdOp (n + 1) raw j) = restOf (xs ++ [x]) (rdMany rdOp n raw i) := by
  simp only [rdMany, rdBind, h]
  cases rdMany rdOp n raw i with
  | error e => rfl
  | ok y => obtain ⟨l, p⟩ := y; simp [restOf]

theorem srcOp {w : World} {x y : ByteArray} {g : Bool} {t : TypeId} : Src (w.alloc (.cells #[.string x, .string y, .bool g] t)) 3 (.slice (some ⟨w.heap.size, 0, none⟩) 1 1) 1 [.string x, .string y, .bool g] :=
  .inl ⟨_, 1, rfl, rfl, World.news_of_block (heap_alloc_new w _)⟩

set_option maxRecDepth 100000 in
theorem opInfo : ∃ i, Try.prog.info? 166 = some i ∧ i.zero = some (.agg #[.string ⟨#[]⟩, .string ⟨#[]⟩, .bool false]) ∧ i.size = 3 ∧ i.bytes = 40 := by
  have h : (Try.prog.info? 166).map (fun i => (i.zero, i.size, i.bytes)) = some (some (.agg #[.string ⟨#[]⟩, .string ⟨#[]⟩, .bool false]), 3, 40) := by kernel_rfl
  cases hi : Try.prog.info? 166 with
  | none => rw [hi] at h; cases h
  | some i =>
    rw [hi] at h
    simp only [Option.map_some, Option.some.injEq, Prod.mk.injEq] at h
    exact ⟨i, rfl, h.1, h.2.1, h.2.2⟩

/-- An element is put behind. -/
theorem LSt.push {w0 w w3 : World} {base EL r : Nat} {a : Option Addr} {m c : Nat} {raw : List Int} {at_ : Nat} {bad : Bool} {xs : List RdD} {v v' : Value} {x : RdD} (S : LSt w0 w base EL r a m c raw at_ bad xs v) (K : Kept (fun k => v.ownBlock = some k) w w3)
    (row : w3.ownsRow base 166 3 v' (xs.length + 1) (opCells xs ++ [.string x.1, .string x.2.2, .bool x.2.1])) : LSt w0 (w3.setCell ⟨EL, 0, none⟩ v') base EL r a m c raw at_ bad (xs ++ [x]) v' := by
  have hb := S.bw
  have hr := S.br
  have hE := S.bE
  have hsz := K.size
  have low : ∀ k, k < base → ¬ v.ownBlock = some k := fun k hk e => by have := (S.row.lt k e).1; omega
  have A1 := S.rd.kept K (low r hr) (fun h ad e => low _ (S.na h ad e).1)
  have e1 : w3.heap[EL]? = some (.cells #[v] 80 (0, 0)) := (K.block EL (by omega) (low EL hE)).trans S.lc
  refine ⟨A1.kept (Kept.setCell (S := fun k => k = EL) _ _ _ rfl) (fun e => S.ne (by have e' : r = EL := e; omega)) (fun h ad e => (S.na h ad e).2), by simp [World.setCell, Array.getElem?_modify, e1], ?_, ?_, S.ne, hE, hr, by simp; omega, S.na⟩
  · rw [List.length_append, opCells_append]
    exact ownsRow_block' row (fun k hk => Below.heap_setCell _ _ _ _ (fun e => by have := (row.lt k hk).1; have e' : k = EL := e; omega))
  · exact (S.kept.and (K.mono (fun k h => .inr (.inr (S.row.lt k h).1)))).and (Kept.setCell (S := fun k => k = r ∨ k = EL ∨ base ≤ k) _ _ _ (.inr (.inl rfl)))

set_option maxRecDepth 100000 in
set_option maxHeartbeats 1000000 in
theorem rlist_any {w0 w : World} {base EL r : Nat} {a : Option Addr} {m c : Nat} {raw : List Int} {at_ : Nat} {bad : Bool} (S : LSt w0 w base EL r a m c raw at_ bad [] (.slice none 0 0)) (hm : m ≤ 1000000000) :
    Calls Try.prog 107 #[.pointer (some ⟨r, 0, none⟩), .pointer (some ⟨EL, 0, none⟩), .func (.func 108) #[] #[]] w fun e w' => ListSt w0 w' base EL r a m c raw bad e (rdOps raw at_) := by
  have hnew := newCell w (.int .i64 0) 3
  have hbw := S.bw
  have hbr := S.br
  have hN := rnumber_any (S.rd.alloc (.cells #[.int .i64 0] 3)) w.heap.size 0 (.int .i64 0) hnew.1 hnew.2 (by omega) (fun h ad e => by have := (S.na h ad e).1; omega) 0 4503599627370496
  have HS : Hid (LSt w0 w base EL r a m c raw at_ bad [] (.slice none 0 0)) := S
  cases hd : rdNum 0 4503599627370496 raw at_ with
  | error pl =>
    rw [hd] at hN
    have hx : rdOps raw at_ = .error pl := by simp [rdOps, rdBind, hd]
    rw [hx]
    clear S
    go_enter Try.func107, Try.ntmps107
    go_wp2_with (first
      | (go_at_call 91; refine hN.mono ?_; rintro e w1 ⟨rfl, A1, w2, K2, hw⟩; clear hN)
      | fail)
    go_ret
    refine ⟨rfl, _, _, HS.out.step (at' := pl) (bad' := true) ?_ A1⟩
    have K3 : Kept (fun k => k = r) w w2 := Kept.new (S := fun k => k = r) (K2.mono (fun _ h => .inl h))
    rcases hw with rfl | ⟨v, rfl⟩
    · exact K3
    · exact Kept.new (S := fun k => k = r) ((K2.mono (fun _ h => .inl h)).and (Kept.setCell (S := fun k => k = r ∨ k = w.heap.size) _ _ _ (.inr rfl)))
  | ok y =>
    obtain ⟨n, i0⟩ := y
    obtain ⟨n0, n1, hil⟩ := rdNum_ok hd
    obtain ⟨n, rfl⟩ := Int.eq_ofNat_of_zero_le n0
    rw [hd] at hN
    have hx : rdOps raw at_ = listRes n (restOf [] (rdMany rdOp n raw i0)) := by
      simp only [rdOps, rdBind, hd, Int.toNat_natCast]
      cases rdMany rdOp n raw i0 <;> rfl
    rw [hx]
    have HX : Hid True := trivial
    clear S hx hd
    go_enter Try.func107, Try.ntmps107
    go_wp2_with (first
      | (go_at_call 91; refine hN.mono ?_; rintro e w1 ⟨rfl, A1, w2, K2, rfl⟩; have h1 := (cell_keep K2 hnew.1 (by show ¬ w.heap.size = r; omega)).1; have hmany := World.cell?_setCell_same' w2 ⟨w.heap.size, 0, none⟩ (.int .i64 n) (by rw [h1]; rfl); have S1 := HS.out.step (Kept.new (S := fun k => k = r) ((K2.mono (fun _ h => .inl h)).and (Kept.setCell (S := fun k => k = r ∨ k = w.heap.size) _ _ _ (.inr rfl)))) A1; clear hN)
      | fail)
    have hlen := A1.bytes.len
    clear A1 K2 h1 hnew
    obtain ⟨t0, ht0, hz0, hz1, hz2⟩ := opInfo
    go_loopw [13] (fun i wr => ∃ (k j : Nat) (xs : List RdD) (v : Value), i = .int .i64 k ∧ k ≤ n ∧ xs.length = k ∧ k ≤ j ∧ LSt w0 wr base EL r a m c raw j bad xs v ∧ restOf [] (rdMany rdOp n raw i0) = restOf xs (rdMany rdOp (n - k) raw j)) (fun i _ => n - (intOf i).toNat)
    case atStart => exact ⟨0, i0, [], _, rfl, Nat.zero_le _, rfl, Nat.zero_le _, S1, by rw [Nat.sub_zero]⟩
    case round =>
      clear S1 hmany
      obtain ⟨k, j, xs, v, rfl, hk, hxl, hkj, S2, hrest⟩ := hrel
      by_cases hkn : k = n
      · subst hkn
        have hc : ¬ ((k : Int) < (k : Int)) := by omega
        rw [Nat.sub_self] at hrest
        have HR : Hid _ := hrest
        have HS2 : Hid (LSt w0 wr base EL r a m c raw j bad xs v) := S2
        clear hrest S2
        go_wp2
        go_ret
        rw [HR.out]
        simp only [rdMany, rdOne, restOf, listRes, List.append_nil]
        exact ⟨rfl, v, HS2.out⟩
      · have hc : (k : Int) < (n : Int) := by omega
        obtain ⟨q, hq⟩ : ∃ q, n - k = q + 1 := ⟨n - k - 1, by omega⟩
        rw [hq] at hrest
        have hO := rop_any S2.el
        have HS2 : Hid (LSt w0 wr base EL r a m c raw j bad xs v) := S2
        have hjm := S2.rd.le
        cases hd : rdOp raw j with
        | error pl =>
          rw [hd] at hO
          rw [rest_err hd] at hrest
          have HR : Hid _ := hrest
          clear hrest S2
          go_wp2_with (first
            | (go_at_call 108; refine hO.mono ?_; rintro e w4 ⟨rfl, cs, El⟩; clear hO)
            | fail)
          go_ret
          rw [HR.out]
          simp only [listRes]
          exact ⟨rfl, _, _, HS2.out.read El⟩
        | ok y =>
          obtain ⟨⟨xk, xg, xv⟩, j2⟩ := y
          rw [hd] at hO
          rw [rest_ok hd] at hrest
          have hpos := rdOp_pos hd
          have HR : Hid _ := hrest
          clear hrest S2
          go_wp2_with (first
            | (go_at_call 108; refine hO.mono ?_; rintro e w4 ⟨rfl, El⟩; clear hO)
            | fail)
          have S4 := HS2.out.read El
          have r4 := S4.row
          rw [hxl] at r4
          obtain ⟨a4, c4, rfl⟩ := ownsRow_shape r4
          obtain ⟨y0, f0⟩ := S4.cell
          have q0 := (El.cell (o := 0) rfl).1
          have q1 := (El.cell (o := 1) rfl).1
          have q2 := (El.cell (o := 2) rfl).1
          have KA := Kept.alloc (fun _ => False) w4 (.cells #[.string xk, .string xv, .bool xg] 166)
          have y1 := (cell_keep KA y0 (fun h => h)).1
          have qa0 := (cell_keep KA q0 (fun h => h)).1
          have qa1 := (cell_keep KA q1 (fun h => h)).1
          have qa2 := (cell_keep KA q2 (fun h => h)).1
          have ra := World.ownsRow.drew (r4.alloc (.cells #[.string xk, .string xv, .bool xg] 166))
          have sN : Src (w4.alloc (.cells #[.string xk, .string xv, .bool xg] 166)).drew 3 (.slice (some ⟨w4.heap.size, 0, none⟩) 1 1) 1 [.string xk, .string xv, .bool xg] := srcOp
          have hb : base ≤ (w4.alloc (.cells #[.string xk, .string xv, .bool xg] 166)).drew.heap.size := by have := S4.bw; simp; omega
          have HS4 : Hid (LSt w0 w4 base EL r a m c raw j2 bad xs (.slice a4 k c4)) := S4
          have k2 : ∀ w3, (w4.alloc (.cells #[.string xk, .string xv, .bool xg] 166)).drew.grownBy w3 (Value.slice a4 k c4).ownBlock → Kept (fun kk => (Value.slice a4 k c4).ownBlock = some kk) w4 w3 ∧ w3.cell? ⟨EL, 0, none⟩ = some (.slice a4 k c4) ∧ w3.frozen? ⟨EL, 0, none⟩ = false := fun w3 hg => by
            have K : Kept (fun kk => (Value.slice a4 k c4).ownBlock = some kk) w4 w3 := ((Kept.alloc _ w4 _).and (Kept.drew _ _)).and (Kept.grown hg (fun k e => e))
            have hk := K.block EL (by have := HS4.out.bw; have := HS4.out.bE; omega) (fun e => by have := (HS4.out.row.lt EL e).1; have := HS4.out.bE; omega)
            exact ⟨K, by simp [World.cell?, hk, HS4.out.lc], by simp [World.frozen?, hk, HS4.out.lc]⟩
          clear S4 El KA r4
          go_region_law
            (first
              | (refine step_append_src _ (by rfl) _ _ _ (by rfl) base 166 t0 _ 3 40 Try.underlying80 ht0 hz0 hz1 hz2 rfl (by decide) (.slice a4 k c4) k _ (by rfl) ra _ (by rfl) 1 _ sN (by simp [Value.oneCell']) (by unfold maxLen; omega) (by omega) hb ?_; intro a5 cap5 w5 ho5 hg5 _ hl5; obtain ⟨K5, y5, f5⟩ := k2 w5 hg5))
          all_goals
            have S5 := HS4.out.push (x := (xk, xg, xv)) K5 (by rw [hxl]; exact ho5)
            clear ho5 hg5 hl5 y5 f5 k2 ra sN
            go_wp2
            go_roundw
            case rel => exact ⟨k + 1, j2, xs ++ [(xk, xg, xv)], _, by simp, by omega, by simp; omega, by omega, S5, by rw [HR.out, show n - (k + 1) = q by omega]⟩
            case measure => simp [intOf]; omega

end Go.Proofs.Ytceocmhgbcimoaa
