/-
  The codec's reader in memory: a number.
-/
import Derived.Test.YtchdmlckicipcaaCRd
namespace Go.Proofs.Ytchdmlckicipcaa
open Go.RowKit

theorem piece_getD {raw : List Int} {i k j : Nat} (hj : j < k) : ((raw.drop i).take k).getD j 0 = raw.getD (i + j) 0 := by
  rw [List.getD_eq_getElem?_getD, List.getD_eq_getElem?_getD, List.getElem?_take, if_pos hj, List.getElem?_drop]

theorem piece_at {w : World} {a' : Option Addr} {raw : List Int} {i k c' : Nat} (B : BytesAt w a' k c' ((raw.drop i).take k)) (hp : 0 < k) : ∃ ba oa, a' = some ⟨ba, oa, none⟩ ∧ ∀ j, j < k → w.cell? ⟨ba, oa + j, none⟩ = some (.int .u8 (((raw.drop i).take k).getD j 0)) := by
  obtain ⟨ba, oa, h, hc⟩ := B.at (j := 0) (by rw [B.len]; exact hp)
  exact ⟨ba, oa, h, fun j hj => hc j (by rw [B.len]; exact hj)⟩

/-- One of two, by a condition. -/
def IfP (c a b : Prop) : Prop := (c → a) ∧ (¬ c → b)

theorem IfP.yes {c a b : Prop} (hc : c) (h : a) : IfP c a b := ⟨fun _ => h, fun n => absurd hc n⟩
theorem IfP.no {c a b : Prop} (hc : ¬ c) (h : b) : IfP c a b := ⟨fun y => absurd y hc, fun _ => h⟩

section
variable {w : World} {r : Nat} {a : Option Addr} {m c : Nat} {raw : List Int} {at_ : Nat} {bad : Bool}

set_option maxRecDepth 100000 in
set_option maxHeartbeats 400000 in
theorem rnum_end (A : RAt w r a m c raw at_ bad) (q o : Nat) (lo hi : Int) (h : m ≤ at_) :
    Calls Try.prog 27 #[.pointer (some ⟨r, 0, none⟩), .pointer (some ⟨q, o, none⟩), .int .i64 lo, .int .i64 hi] w fun e w' => e = .returned (.bool false) ∧ RAt w' r a m c raw m true ∧ Kept (fun k => k = r) w w' := by
  have c1 := A.c1
  have hT := rtake_no A 1 (by omega)
  go_enter Try.func27, Try.ntmps27
  go_wp2_with (first
    | (go_at_call 34; refine hT.mono ?_; rintro e w1 ⟨rfl, A1, K1⟩; clear hT)
    | fail)
  go_ret
  exact ⟨rfl, A1, K1⟩

set_option maxRecDepth 100000 in
set_option maxHeartbeats 400000 in
theorem rnum_many (A : RAt w r a m c raw at_ bad) (q o : Nat) (lo hi : Int) (h : at_ < m) (x : Int) (hx : raw.getD at_ 0 = x) (h7 : 7 < x) :
    Calls Try.prog 27 #[.pointer (some ⟨r, 0, none⟩), .pointer (some ⟨q, o, none⟩), .int .i64 lo, .int .i64 hi] w fun e w' => e = .returned (.bool false) ∧ RAt w' r a m c raw at_ true ∧ Kept (fun k => k = r) w w' := by
  have c1 := A.c1
  have hT := rtake_yes A 1 (by omega)
  have hle := A.le
  have hpg := piece_getD (raw := raw) (i := at_) (k := 1) (j := 0) (by decide)
  rw [Nat.add_zero, hx] at hpg
  clear hx
  go_enter Try.func27, Try.ntmps27
  go_wp2_with (first
    | (go_at_call 34; refine hT.mono ?_; rintro e w1 ⟨a1, cc1, rfl, B1, A1, K1, _⟩; obtain ⟨ba, oa, rfl, hc⟩ := piece_at B1 (by decide); have x1 := hc 0 (by decide); rw [hpg, Nat.add_zero] at x1; have hR := rrefuse_any A1 at_ hle; clear hT hc B1 A1 hpg)
    | (go_at_call 35; refine hR.mono ?_; rintro e w2 ⟨rfl, A2, K2⟩; clear hR)
    | fail)
  go_ret
  exact ⟨rfl, A2, K1.and K2⟩

set_option maxRecDepth 100000 in
set_option maxHeartbeats 400000 in
theorem rnum_cut (A : RAt w r a m c raw at_ bad) (q o : Nat) (lo hi : Int) (h : at_ < m) (k : Nat) (hk : raw.getD at_ 0 = (k : Int)) (h7 : k ≤ 7) (hm : m < at_ + 1 + k) :
    Calls Try.prog 27 #[.pointer (some ⟨r, 0, none⟩), .pointer (some ⟨q, o, none⟩), .int .i64 lo, .int .i64 hi] w fun e w' => e = .returned (.bool false) ∧ RAt w' r a m c raw m true ∧ Kept (fun k => k = r) w w' := by
  have c1 := A.c1
  have hT := rtake_yes A 1 (by omega)
  have hle := A.le
  have hpg := piece_getD (raw := raw) (i := at_) (k := 1) (j := 0) (by decide)
  rw [Nat.add_zero, hk] at hpg
  clear hk
  go_enter Try.func27, Try.ntmps27
  go_wp2_with (first
    | (go_at_call 34; refine hT.mono ?_; rintro e w1 ⟨a1, cc1, rfl, B1, A1, K1, _⟩; obtain ⟨ba, oa, rfl, hc⟩ := piece_at B1 (by decide); have x1 := hc 0 (by decide); rw [hpg, Nat.add_zero] at x1; have hT2 := rtake_no A1 k (by omega); clear hT hc B1 A1 hpg)
    | (go_at_call 34; refine hT2.mono ?_; rintro e w2 ⟨rfl, A2, K2⟩; clear hT2)
    | fail)
  go_ret
  exact ⟨rfl, A2, K1.and K2⟩

theorem shl_or (v d : Int) (h0 : 0 ≤ v) (h1 : v < 281474976710656) (d0 : 0 ≤ d) (d1 : d ≤ 255) : bits .or .i64 (v * 256) d = 256 * v + d := by
  rw [bits_join .i64 62 (by decide) (fun n h0 h1 => by rw [IntKind.wrap_i64]; omega) 8 (v * 256) d (by omega) (by omega) (by omega) (by omega) (by omega) (by omega)]
  omega

theorem valB_take (ds : List Int) (j : Nat) (hj : j < ds.length) : valB (ds.take (j + 1)) = 256 * valB (ds.take j) + ds.getD j 0 := by
  rw [List.take_add_one, List.getElem?_eq_getElem hj, List.getD_eq_getElem?_getD, List.getElem?_eq_getElem hj]
  simp only [Option.toList_some, Option.getD_some]
  exact valB_snoc _ _

theorem valB_lt (ds : List Int) (hb : Bs ds) (j : Nat) (hj : j ≤ 6) : 0 ≤ valB (ds.take j) ∧ valB (ds.take j) < 281474976710656 := by
  have h := valB_bd _ (hb.take j)
  refine ⟨h.1, Int.lt_of_lt_of_le h.2 ?_⟩
  have h1 : (ds.take j).length ≤ 6 := by rw [List.length_take]; omega
  have h2 : 256 ^ (ds.take j).length ≤ 256 ^ 6 := Nat.pow_le_pow_right (by decide) h1
  have h3 : (256 : Nat) ^ 6 = 281474976710656 := by decide
  omega

set_option maxRecDepth 100000 in
set_option maxHeartbeats 1000000 in
theorem rnum_read (A : RAt w r a m c raw at_ bad) (q o : Nat) (u : Value) (hq : w.cell? ⟨q, o, none⟩ = some u) (fq : w.frozen? ⟨q, o, none⟩ = false) (hqr : q ≠ r) (hqa : raw ≠ [] → ∀ ad, a = some ad → ad.block ≠ q) (lo hi : Int) (h : at_ < m) (k : Nat) (hk : raw.getD at_ 0 = (k : Int)) (h7 : k ≤ 7) (hm : at_ + 1 + k ≤ m)
    (ds : List Int) (hds : (raw.drop (at_ + 1)).take k = ds) (z : Bool) (hz : z = (decide (0 < k) && (ds.getD 0 0 == 0))) (v : Int) (hvd : valB ds = v) :
    Calls Try.prog 27 #[.pointer (some ⟨r, 0, none⟩), .pointer (some ⟨q, o, none⟩), .int .i64 lo, .int .i64 hi] w fun e w' =>
      IfP (z = true ∨ v < lo ∨ hi < v) (e = .returned (.bool false) ∧ RAt w' r a m c raw at_ true ∧ Kept (fun k => k = r) w w')
        (e = .returned (.bool true) ∧ RAt w' r a m c raw (at_ + 1 + k) bad ∧ ∃ w1, Kept (fun k => k = r) w w1 ∧ w' = w1.setCell ⟨q, o, none⟩ (.int .i64 v)) := by
  have c1 := A.c1
  have hT := rtake_yes A 1 (by omega)
  have hle := A.le
  have hpg := piece_getD (raw := raw) (i := at_) (k := 1) (j := 0) (by decide)
  rw [Nat.add_zero, hk] at hpg
  have hbs : Bs ds := by rw [← hds]; exact Bs.take (Bs.drop A.bytes.byte _) _
  have hdl : ds.length = k := by rw [← hds, List.length_take, List.length_drop, A.bytes.len]; omega
  have hqlt : q < w.heap.size := World.block_lt_of_cell? w _ hq
  have hqk : ∀ w', Kept (fun k => k = r) w w' → w'.cell? ⟨q, o, none⟩ = some u ∧ w'.frozen? ⟨q, o, none⟩ = false := fun w' K => by
    have hb := K.block q hqlt hqr
    exact ⟨by rw [World.cell?_of_block (w := w) hb]; exact hq, by simp only [World.frozen?, hb]; exact fq⟩
  have HQ : Hid _ := hqk
  clear hk hqk
  go_enter Try.func27, Try.ntmps27
  go_wp2_with (first
    | (go_at_call 34; refine hT.mono ?_; rintro e w1 ⟨a1, cc1, rfl, B1, A1, K1, _⟩; obtain ⟨ba, oa, rfl, hc⟩ := piece_at B1 (by decide); have x1 := hc 0 (by decide); rw [hpg, Nat.add_zero] at x1; have hT2 := rtake_yes A1 k hm; rw [hds] at hT2; clear hT hc B1 A1 hpg)
    | (go_at_call 34; refine hT2.mono ?_; rintro e w2 ⟨a2, cc2, rfl, B2, A2, K2, hbk⟩; have HH : Hid (RAt w2 r a m c raw (at_ + 1 + k) bad ∧ Kept (fun k => k = r) w w2) := ⟨A2, K1.and K2⟩; have HR : Hid (RAt (w2.setCell ⟨q, o, none⟩ (.int .i64 v)) r a m c raw (at_ + 1 + k) bad) := A2.kept (Kept.setCell (S := fun k => k = q) _ _ _ rfl) (fun e => hqr e.symm) hqa; clear hT2 K1 K2)
    | fail)
  clear x1 A2 A hqa hq fq c1
  have hcell : ∀ j, j < k → ∃ b2 o2, a2 = some ⟨b2, o2, none⟩ ∧ w2.cell? ⟨b2, o2 + j, none⟩ = some (.int .u8 (ds.getD j 0)) := fun j hj => by
    obtain ⟨b2, o2, e, hc⟩ := B2.at (j := j) (by rw [hdl]; exact hj)
    exact ⟨b2, o2, e, hc j (by rw [hdl]; exact hj)⟩
  have HC : Hid _ := hcell
  clear hcell hbk
  go_loopw [10, 47] (fun v i wr => ∃ (j : Nat), j ≤ k ∧ i = .int .i64 j ∧ v = .int .i64 (valB (ds.take j)) ∧ wr = w2) (fun _ i _ => k - (intOf i).toNat)
  case atStart => exact ⟨0, Nat.zero_le _, rfl, rfl, rfl⟩
  case round =>
    obtain ⟨j, hj, rfl, rfl, hwr⟩ := hrel
    subst hwr
    by_cases hjk : j < k
    · obtain ⟨b2, o2, e2, hx⟩ := HC.out j hjk
      subst e2
      have hd := hbs.getD j
      have hv := valB_lt ds hbs j (by omega)
      have hso := shl_or _ _ hv.1 hv.2 hd.1 hd.2
      have HN : Hid (valB (ds.take (j + 1)) = 256 * valB (ds.take j) + ds.getD j 0) := valB_take ds j (by omega)
      generalize valB (ds.take j) = vj at *
      generalize ds.getD j 0 = d at *
      have hjk2 : (j : Int) < (k : Int) := by omega
      clear hdl hds
      go_wp2
      go_roundw
      case rel => exact ⟨j + 1, by omega, by go_num, by rw [HN.out], trivial⟩
      case measure => simp [intOf]; omega
    · obtain rfl : j = k := by omega
      have hfull : ds.take j = ds := List.take_of_length_le (by omega)
      rw [hfull, hvd]
      have hv : 0 ≤ valB ds ∧ valB ds < 72057594037927936 := by
        have h1 := valB_bd ds hbs
        have h2 : 256 ^ ds.length ≤ 256 ^ 7 := Nat.pow_le_pow_right (by decide) (by omega)
        have h3 : (256 : Nat) ^ 7 = 72057594037927936 := by decide
        omega
      have hRf := rrefuse_any HH.out.1 at_ hle
      obtain ⟨y1, y2⟩ := HQ.out _ HH.out.2
      rw [hvd] at hv
      clear hfull hdl hds hvd
      have HZ : Hid (z = (decide (0 < j) && ds.getD 0 0 == 0)) := hz
      clear hz
      by_cases hj0 : j = 0
      · subst hj0
        have hzf : z = false := by rw [HZ.out]; rfl
        subst hzf
        by_cases hlo : v < lo
        · go_wp2_with (first
            | (go_at_call 35; refine hRf.mono ?_; rintro e w3 ⟨rfl, A3, K3⟩; clear hRf)
            | fail)
          go_ret
          exact .yes (by first | trivial | omega | (simp; omega)) ⟨rfl, A3, HH.out.2.and K3⟩
        · by_cases hhi : hi < v
          · go_wp2_with (first
              | (go_at_call 35; refine hRf.mono ?_; rintro e w3 ⟨rfl, A3, K3⟩; clear hRf)
              | fail)
            go_ret
            exact .yes (by first | trivial | omega | (simp; omega)) ⟨rfl, A3, HH.out.2.and K3⟩
          · clear hRf
            go_wp2
            go_ret
            exact .no (by first | omega | (simp; omega)) ⟨rfl, HR.out, _, HH.out.2, rfl⟩
      · obtain ⟨b2, o2, e2, hx⟩ := HC.out 0 (by omega)
        subst e2
        rw [Nat.add_zero] at hx
        have hj1 : (0 : Int) < (j : Int) := by omega
        by_cases hd0 : ds.getD 0 0 = 0
        · have hzt : z = true := by rw [HZ.out, hd0]; simp; omega
          subst hzt
          rw [hd0] at hx
          go_wp2_with (first
            | (go_at_call 35; refine hRf.mono ?_; rintro e w3 ⟨rfl, A3, K3⟩; clear hRf)
            | fail)
          go_ret
          exact .yes (by first | trivial | omega | (simp; omega)) ⟨rfl, A3, HH.out.2.and K3⟩
        · have hzf : z = false := by rw [HZ.out]; simp; intro _; simpa using hd0
          subst hzf
          have hd1 : (ds.getD 0 0 == 0) = false := by simpa using hd0
          generalize ds.getD 0 0 = d0 at *
          by_cases hlo : v < lo
          · go_wp2_with (first
              | (go_at_call 35; refine hRf.mono ?_; rintro e w3 ⟨rfl, A3, K3⟩; clear hRf)
              | fail)
            go_ret
            exact .yes (by first | trivial | omega | (simp; omega)) ⟨rfl, A3, HH.out.2.and K3⟩
          · by_cases hhi : hi < v
            · go_wp2_with (first
                | (go_at_call 35; refine hRf.mono ?_; rintro e w3 ⟨rfl, A3, K3⟩; clear hRf)
                | fail)
              go_ret
              exact .yes (by first | trivial | omega | (simp; omega)) ⟨rfl, A3, HH.out.2.and K3⟩
            · clear hRf
              go_wp2
              go_ret
              exact .no (by first | omega | (simp; omega)) ⟨rfl, HR.out, _, HH.out.2, rfl⟩
/-- A number is read. -/
theorem rnum_any (A : RAt w r a m c raw at_ bad) (q o : Nat) (u : Value) (hq : w.cell? ⟨q, o, none⟩ = some u) (fq : w.frozen? ⟨q, o, none⟩ = false) (hqr : q ≠ r) (hqa : raw ≠ [] → ∀ ad, a = some ad → ad.block ≠ q) (lo hi : Int) :
    Calls Try.prog 27 #[.pointer (some ⟨r, 0, none⟩), .pointer (some ⟨q, o, none⟩), .int .i64 lo, .int .i64 hi] w fun e w' =>
      match rdNum lo hi raw at_ with
      | .error pl => e = .returned (.bool false) ∧ RAt w' r a m c raw pl true ∧ Kept (fun k => k = r) w w'
      | .ok (v, at') => e = .returned (.bool true) ∧ RAt w' r a m c raw at' bad ∧ ∃ w1, Kept (fun k => k = r) w w1 ∧ w' = w1.setCell ⟨q, o, none⟩ (.int .i64 v) := by
  have hlen := A.bytes.len
  have hle := A.le
  have hb := (Bs.getD A.bytes.byte) at_
  unfold rdNum
  by_cases h1 : raw.length ≤ at_
  · rw [if_pos h1, hlen]
    exact rnum_end A q o lo hi (by omega)
  rw [if_neg h1]
  by_cases h2 : 7 < raw.getD at_ 0
  · rw [if_pos h2]
    exact rnum_many A q o lo hi (by omega) _ rfl h2
  rw [if_neg h2]
  have hk : raw.getD at_ 0 = ((raw.getD at_ 0).toNat : Int) := by omega
  by_cases h3 : raw.length < at_ + 1 + (raw.getD at_ 0).toNat
  · rw [if_pos h3, hlen]
    exact rnum_cut A q o lo hi (by omega) _ hk (by omega) (by omega)
  rw [if_neg h3]
  have hR := rnum_read A q o u hq fq hqr hqa lo hi (by omega) _ hk (by omega) (by omega) _ rfl _ rfl _ rfl
  have hd : (decide (0 < (raw.getD at_ 0).toNat) && (((raw.drop (at_ + 1)).take (raw.getD at_ 0).toNat).getD 0 0 == 0)) = true ↔ (0 < raw.getD at_ 0 ∧ raw.getD (at_ + 1) 0 = 0) := by
    rw [Bool.and_eq_true, decide_eq_true_eq, beq_iff_eq]
    constructor
    · rintro ⟨h, g⟩
      rw [piece_getD h, Nat.add_zero] at g
      exact ⟨by omega, g⟩
    · rintro ⟨h, g⟩
      have h' : 0 < (raw.getD at_ 0).toNat := by omega
      rw [piece_getD h', Nat.add_zero]
      exact ⟨h', g⟩
  simp only [hd] at hR
  refine hR.mono ?_
  intro e w' h
  by_cases hc : (0 < raw.getD at_ 0 ∧ raw.getD (at_ + 1) 0 = 0) ∨ valB ((raw.drop (at_ + 1)).take (raw.getD at_ 0).toNat) < lo ∨ hi < valB ((raw.drop (at_ + 1)).take (raw.getD at_ 0).toNat)
  · rw [if_pos hc]
    exact h.1 hc
  · rw [if_neg hc]
    exact h.2 hc
end

end Go.Proofs.Ytchdmlckicipcaa
