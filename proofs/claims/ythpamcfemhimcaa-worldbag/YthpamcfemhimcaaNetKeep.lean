/-
  What WorldNet holds against each other and spoils: Parcels of one parcel each, SpoilBytes.
-/
import Derived.Test.YthpamcfemhimcaaNetRef2
namespace Go.Proofs.Ythpamcfemhimcaa
open Go.RowKit

/-- A parcel at a place. -/
structure OneAt (w : World) (b o : Nat) (fr to : Int) (a : Option Addr) (m c : Nat) (bs : List Int) : Prop where
  c0 : w.cell? ⟨b, o, none⟩ = some (.int .i64 fr)
  c1 : w.cell? ⟨b, o + 1, none⟩ = some (.int .i64 to)
  c2 : w.cell? ⟨b, o + 2, none⟩ = some (.slice a m c)
  bytes : BytesAt w a m c bs

theorem OneAt.kept {w w' : World} {S : Nat → Prop} {b o : Nat} {fr to : Int} {a : Option Addr} {m c : Nat} {bs : List Int} (O : OneAt w b o fr to a m c bs) (K : Kept S w w') (hb : ¬ S b) (ha : bs ≠ [] → ∀ ad, a = some ad → ¬ S ad.block) : OneAt w' b o fr to a m c bs := by
  have h := K.block b (World.block_lt_of_cell? w _ O.c0) hb
  exact ⟨(World.cell?_of_block h).trans O.c0, (World.cell?_of_block h).trans O.c1, (World.cell?_of_block h).trans O.c2, O.bytes.kept K ha⟩

set_option maxRecDepth 100000 in
set_option maxHeartbeats 1000000 in
theorem parcels_one (w : World) (b1 o1 c1 b2 o2 c2 : Nat) (fr to : Int) (a : Option Addr) (m c : Nat) (a' : Option Addr) (c' : Nat) (bs : List Int) (h1 : OneAt w b1 o1 fr to a m c bs) (h2 : OneAt w b2 o2 fr to a' m c' bs) :
    Calls Try.prog 15 #[.slice (some ⟨b1, o1, none⟩) 1 c1, .slice (some ⟨b2, o2, none⟩) 1 c2] w fun e w' => e = .returned (.bool true) ∧ ∃ n, w' = w.drewN n := by
  obtain ⟨x0, x1, x2, B1⟩ := h1
  obtain ⟨y0, y1, y2, B2⟩ := h2
  have s1 : ∀ n, (convert 27 9 (.slice a m c)).run Try.prog (w.drewN n) = .ok (.string (strOfNums bs)) (w.drewN n) := fun n => (B1.kept (Kept.drewN (fun _ => False) w n) (fun _ _ _ h => h)).str
  have s2 : ∀ n, (convert 27 9 (.slice a' m c')).run Try.prog (w.drewN n) = .ok (.string (strOfNums bs)) (w.drewN n) := fun n => (B2.kept (Kept.drewN (fun _ => False) w n) (fun _ _ _ h => h)).str
  clear B1 B2
  generalize strOfNums bs = st at *
  go_enter Try.func15, Try.ntmps15
  go_wp2
  go_loopw [5] (fun i wr => ∃ (k n : Nat), k ≤ 1 ∧ i = .int .i64 k ∧ wr = w.drewN n) (fun i _ => 1 - (intOf i).toNat)
  case atStart => exact ⟨0, 0, Nat.zero_le _, rfl, rfl⟩
  case round =>
    obtain ⟨k, n, hk, rfl, rfl⟩ := hrel
    by_cases hlt : k < 1
    · obtain rfl : k = 0 := by omega
      have hn1 : (fr != fr) = false := by simp
      have hn2 : (to != to) = false := by simp
      go_wp2_with fail
      go_quiet (fail)
      go_wp2
      go_roundw
      case rel => exact ⟨1, n + nq, Nat.le_refl _, rfl, rfl⟩
      case measure => simp [intOf]
    · go_wp2
      go_ret
      exact ⟨rfl, n, rfl⟩

set_option maxRecDepth 100000 in
set_option maxHeartbeats 1000000 in
/-- What is spoilt is its own block alone. -/
theorem spoilBytes_own (w : World) (v : Value) (n : Nat) (zs : List Int) (h : w.ownsRow 0 5 1 v n (zs.map (Value.int .u8))) (hn : n ≤ 1099511627776) :
    Calls Try.prog 16 #[v] w fun e w' => e = .returned (.tuple #[]) ∧ Kept (fun k => v.ownBlock = some k) w w' := by
  obtain ⟨i0, hi, hz0, hz1, hz2⟩ := info_parts Try.info5
  obtain ⟨a, c, rfl⟩ := ownsRow_shape h
  have hlen : zs.length = n := by have := h.1; simpa using this
  go_enter Try.func16, Try.ntmps16
  go_wp2
  go_loopw [2] (fun i wr => ∃ (k : Nat) (ys : List Int), k ≤ n ∧ i = .int .i64 k ∧ ys.length = n ∧ wr.ownsRow 0 5 1 (.slice a n c) n (ys.map (Value.int .u8)) ∧ Kept (fun k => (Value.slice a n c).ownBlock = some k) w wr) (fun i _ => n - (intOf i).toNat)
  case atStart => exact ⟨0, zs, Nat.zero_le _, rfl, hlen, h, Kept.refl _ _⟩
  case round =>
    obtain ⟨k, ys, hk, rfl, hy, ho, K⟩ := hrel
    clear h
    by_cases hlt : k < n
    · obtain ⟨g, cap, e, hbg, hgl⟩ := ho.form (by omega)
      simp only [Value.slice.injEq] at e
      obtain ⟨rfl, _, rfl⟩ := e
      have hky : k < ys.length := by omega
      obtain ⟨x1, x2⟩ := ownsRow_get ho (k := k) (u := .int .u8 ys[k]) (by rw [List.getElem?_map, List.getElem?_eq_getElem hky]; rfl)
      have hs := fun u => ownsRow_set ho (k := k) (.int .u8 u)
      have e1 : (k : Int) < (n : Int) := by omega
      have HY : Hid (ys.length = n) := hy
      have HK : Hid _ := K
      generalize ys[k] = x at *
      clear hy hlen K
      go_wp2
      go_roundw
      case rel =>
        refine ⟨k + 1, ys.set k ?xoru, by omega, by go_num, ?xorl, ?xorr, HK.out.and (Kept.setCell _ _ _ rfl)⟩
        case xorr => rw [List.map_set]; exact hs _
        case xorl => rw [List.length_set]; exact HY.out
      case measure => simp [intOf]; omega
    · have HY : Hid (ys.length = n) := hy
      have HK : Hid _ := K
      clear hy hlen K
      go_wp2
      go_loopw [0, 3] (fun u i wr => ∃ (k m : Nat) (us : List Value), k ≤ 40 ∧ i = .int .i64 k ∧ m = n + k ∧ wr.ownsRow 0 5 1 u m us ∧ Kept (fun k => (Value.slice a n c).ownBlock = some k) w wr ∧ (∀ j, u.ownBlock = some j → (Value.slice a n c).ownBlock = some j ∨ w.heap.size ≤ j)) (fun _ i _ => 40 - (intOf i).toNat)
      case atStart => exact ⟨0, n, _, by decide, rfl, rfl, ho, HK.out, fun _ => .inl⟩
      case round =>
        obtain ⟨j, m, us, hj, rfl, hm, ho, K, hw⟩ := hrel
        have HM : Hid (m = n + j) := hm
        have hmb : m ≤ 1099511627816 := by omega
        have HK2 : Hid _ := K
        have HW : Hid _ := hw
        have hsz := K.size
        clear hm K hw HK
        by_cases hj2 : j < 40
        · go_wp2_with (at_builtin; refine wpList_append_lies _ rfl _ _ 27 rfl 0 5 i0 (.int .u8 0) 1 1 Try.underlying27 hi hz0 hz1 hz2 rfl (by decide) _ m us rfl (ho.alloc _) ⟨wr.heap.size, 0, none⟩ 1 1 [.int .u8 85] rfl rfl (cell_one_new _ _ _) (by simp [Value.oneCell']) (by decide) (by unfold maxLen; omega) (by omega) (Nat.zero_le _) (wr.heap.size + 1) (by simp) ?_; intro g2 cap2 w2 hown2 hgrow hat hlt2)
          go_roundw
          case rel =>
            refine ⟨j + 1, m + 1, _, by omega, by go_num, by have := HM.out; omega, hown2, ?_, ?_⟩
            · refine (HK2.out.and (Kept.alloc _ _ _)).trans (Kept.grown (S := fun k => (Value.slice a n c).ownBlock = some k ∨ w.heap.size ≤ k) hgrow (fun k e => HW.out k e)) (fun k h => h)
            · intro j' hj'
              obtain rfl : g2 = j' := Option.some.inj hj'
              rcases hat with h | h
              · exact HW.out _ h
              · exact .inr (by omega)
          case measure => simp [intOf]; omega
        · go_wp2
          go_end0
          exact ⟨rfl, HK2.out⟩

end Go.Proofs.Ythpamcfemhimcaa
