/-
  The document's reader in memory: a number.
-/
import Derived.Test.YtceocmhgbcimoaaCRdEv
namespace Go.Proofs.Ytceocmhgbcimoaa
open Go.RowKit

/-- The document's reader: what it reads; .ok: the place; .error: where it is refused. -/
structure XAt (w : World) (r : Nat) (a : Option Addr) (m c : Nat) (raw : List Int) (st : Except Nat Nat) : Prop where
  head : ∃ (at_ on : Nat) (bad : Bool), w.heap[r]? = some (.cells #[.slice a m c, .int .i64 at_, .bool bad, .int .i64 on] 153 (0, 0)) ∧ st = (if bad then .error on else .ok at_) ∧ at_ ≤ m
  bytes : BytesAt w a m c raw
  ne : raw ≠ [] → ∀ ad, a = some ad → ad.block ≠ r
  small : m ≤ 140737488355328

theorem cellOf' {w : World} {b o : Nat} {cs : Array Value} {t : TypeId} {u : Value} (h : w.heap[b]? = some (.cells cs t (0, 0))) (hu : cs[o]? = some u) : w.cell? ⟨b, o, none⟩ = some u ∧ w.frozen? ⟨b, o, none⟩ = false := by
  constructor
  · simp [World.cell?, h, hu]
  · simp [World.frozen?, h]

section
variable {w w' : World} {r : Nat} {a : Option Addr} {m c : Nat} {raw : List Int} {at_ : Nat} {st : Except Nat Nat}

theorem XAt.lt (A : XAt w r a m c raw st) : r < w.heap.size := by obtain ⟨at_, on, bad, h, _⟩ := A.head; exact (Array.getElem?_eq_some_iff.1 h).1

theorem XAt.kept {S : Nat → Prop} (A : XAt w r a m c raw st) (K : Kept S w w') (h1 : ¬ S r) (h2 : raw ≠ [] → ∀ ad, a = some ad → ¬ S ad.block) : XAt w' r a m c raw st := by
  have hl := A.lt
  obtain ⟨at_, on, bad, h, e, l⟩ := A.head
  exact ⟨⟨at_, on, bad, (K.block r hl h1).trans h, e, l⟩, A.bytes.kept K h2, A.ne, A.small⟩

/-- What is open: the place, as it lies. -/
theorem XAt.open (A : XAt w r a m c raw (.ok at_)) : ∃ on : Nat, w.heap[r]? = some (.cells #[.slice a m c, .int .i64 at_, .bool false, .int .i64 on] 153 (0, 0)) ∧ at_ ≤ m := by
  obtain ⟨at', on, bad, h, e, l⟩ := A.head
  cases bad with
  | true => cases e
  | false => cases e; exact ⟨on, h, l⟩

theorem XAt.shut (A : XAt w r a m c raw (.error at_)) : ∃ at' : Nat, w.heap[r]? = some (.cells #[.slice a m c, .int .i64 at', .bool true, .int .i64 at_] 153 (0, 0)) := by
  obtain ⟨at', on, bad, h, e, l⟩ := A.head
  cases bad with
  | false => cases e
  | true => cases e; exact ⟨at', h⟩

set_option maxRecDepth 100000 in
set_option maxHeartbeats 400000 in
theorem xno_any (A : XAt w r a m c raw (.ok at_)) (pl : Nat) :
    Calls Try.prog 125 #[.pointer (some ⟨r, 0, none⟩), .int .i64 pl] w fun e w' => e = .returned (.tuple #[]) ∧ XAt w' r a m c raw (.error pl) ∧ Kept (fun k => k = r) w w' := by
  obtain ⟨on, h, l⟩ := A.open
  have c2 := cellOf' h (o := 2) rfl
  have c3 := cellOf' h (o := 3) rfl
  have hh : ((w.setCell ⟨r, 2, none⟩ (.bool true)).setCell ⟨r, 3, none⟩ (.int .i64 pl)).heap[r]? = some (.cells #[.slice a m c, .int .i64 at_, .bool true, .int .i64 pl] 153 (0, 0)) := by
    simp [World.setCell, Array.getElem?_modify, h]
  have K : Kept (fun k => k = r) w ((w.setCell ⟨r, 2, none⟩ (.bool true)).setCell ⟨r, 3, none⟩ (.int .i64 pl)) := (Kept.setCell (S := fun k => k = r) _ _ _ rfl).and (Kept.setCell (S := fun k => k = r) _ _ _ rfl)
  have HA : Hid (XAt ((w.setCell ⟨r, 2, none⟩ (.bool true)).setCell ⟨r, 3, none⟩ (.int .i64 pl)) r a m c raw (.error pl)) := ⟨⟨at_, pl, true, hh, rfl, l⟩, A.bytes.kept K A.ne, A.ne, A.small⟩
  obtain ⟨c2, f2⟩ := c2
  obtain ⟨c3, f3⟩ := c3
  clear A hh h
  go_enter Try.func125, Try.ntmps125
  go_wp2
  go_end0
  exact ⟨rfl, HA.out, K⟩

set_option maxRecDepth 100000 in
set_option maxHeartbeats 400000 in
theorem xrd_bad (A : XAt w r a m c raw (.error at_)) (lo hi : Int) :
    Calls Try.prog 99 #[.pointer (some ⟨r, 0, none⟩), .int .i64 lo, .int .i64 hi] w fun e w' => e = .returned (.int .i64 0) ∧ w' = w := by
  obtain ⟨at', on, bad, h, e, l⟩ := A.head
  cases bad with
  | false => cases e
  | true =>
    obtain ⟨c1, f1⟩ := cellOf' h (o := 1) rfl
    obtain ⟨c2, f2⟩ := cellOf' h (o := 2) rfl
    clear A h
    go_enter Try.func99, Try.ntmps99
    go_wp2
    go_ret
    exact ⟨rfl, rfl⟩

set_option maxRecDepth 100000 in
set_option maxHeartbeats 400000 in
theorem xrd_end (A : XAt w r a m c raw (.ok at_)) (lo hi : Int) (h : m ≤ at_) :
    Calls Try.prog 99 #[.pointer (some ⟨r, 0, none⟩), .int .i64 lo, .int .i64 hi] w fun e w' => e = .returned (.int .i64 0) ∧ XAt w' r a m c raw (.error m) ∧ Kept (fun k => k = r) w w' := by
  have hN := xno_any A m
  obtain ⟨on, hh, l⟩ := A.open
  obtain ⟨c0, _⟩ := cellOf' hh (o := 0) rfl
  obtain ⟨c1, _⟩ := cellOf' hh (o := 1) rfl
  obtain ⟨c2, _⟩ := cellOf' hh (o := 2) rfl
  have h1 : (m : Int) ≤ (at_ : Int) := by omega
  clear A hh
  go_enter Try.func99, Try.ntmps99
  go_wp2_with (first
    | (go_at_call 125; refine hN.mono ?_; rintro e w1 ⟨rfl, A1, K1⟩; clear hN)
    | fail)
  go_ret
  exact ⟨rfl, A1, K1⟩

set_option maxRecDepth 100000 in
set_option maxHeartbeats 400000 in
theorem xrd_many (A : XAt w r a m c raw (.ok at_)) (lo hi : Int) (h : at_ < m) (x : Int) (hx : raw.getD at_ 0 = x) (h7 : 7 < x) :
    Calls Try.prog 99 #[.pointer (some ⟨r, 0, none⟩), .int .i64 lo, .int .i64 hi] w fun e w' => e = .returned (.int .i64 0) ∧ XAt w' r a m c raw (.error at_) ∧ Kept (fun k => k = r) w w' := by
  have hN := xno_any A at_
  obtain ⟨on, hh, l⟩ := A.open
  obtain ⟨c0, _⟩ := cellOf' hh (o := 0) rfl
  obtain ⟨c1, _⟩ := cellOf' hh (o := 1) rfl
  obtain ⟨c2, _⟩ := cellOf' hh (o := 2) rfl
  obtain ⟨ba, oa, rfl, hc⟩ := A.bytes.at (j := at_) (by rw [A.bytes.len]; exact h)
  have y := hc at_ (by rw [A.bytes.len]; exact h)
  have hxb := (Bs.getD A.bytes.byte at_)
  rw [hx] at y hxb
  have h1 : (at_ : Int) < (m : Int) := by omega
  have hs := A.small
  clear A hh hc
  go_enter Try.func99, Try.ntmps99
  go_wp2_with (first
    | (go_at_call 125; refine hN.mono ?_; rintro e w1 ⟨rfl, A1, K1⟩; clear hN)
    | fail)
  go_ret
  exact ⟨rfl, A1, K1⟩

set_option maxRecDepth 100000 in
set_option maxHeartbeats 400000 in
theorem xrd_cut (A : XAt w r a m c raw (.ok at_)) (lo hi : Int) (h : at_ < m) (k : Nat) (hk : raw.getD at_ 0 = (k : Int)) (h7 : k ≤ 7) (hm : m < at_ + 1 + k) :
    Calls Try.prog 99 #[.pointer (some ⟨r, 0, none⟩), .int .i64 lo, .int .i64 hi] w fun e w' => e = .returned (.int .i64 0) ∧ XAt w' r a m c raw (.error m) ∧ Kept (fun k => k = r) w w' := by
  have hN := xno_any A m
  obtain ⟨on, hh, l⟩ := A.open
  obtain ⟨c0, _⟩ := cellOf' hh (o := 0) rfl
  obtain ⟨c1, _⟩ := cellOf' hh (o := 1) rfl
  obtain ⟨c2, _⟩ := cellOf' hh (o := 2) rfl
  obtain ⟨ba, oa, rfl, hc⟩ := A.bytes.at (j := at_) (by rw [A.bytes.len]; exact h)
  have y := hc at_ (by rw [A.bytes.len]; exact h)
  rw [hk] at y
  have h1 : (at_ : Int) < (m : Int) := by omega
  have h2 : (m : Int) < (at_ : Int) + 1 + k := by omega
  have hs := A.small
  clear A hh hc hk
  go_enter Try.func99, Try.ntmps99
  go_wp2_with (first
    | (go_at_call 125; refine hN.mono ?_; rintro e w1 ⟨rfl, A1, K1⟩; clear hN)
    | fail)
  go_ret
  exact ⟨rfl, A1, K1⟩
set_option maxRecDepth 100000 in
set_option maxHeartbeats 1000000 in
theorem xrd_read (A : XAt w r a m c raw (.ok at_)) (lo hi : Int) (h : at_ < m) (k : Nat) (hk : raw.getD at_ 0 = (k : Int)) (h7 : k ≤ 7) (hm : at_ + 1 + k ≤ m)
    (ds : List Int) (hds : (raw.drop (at_ + 1)).take k = ds) (z : Bool) (hz : z = (decide (0 < k) && (ds.getD 0 0 == 0))) (v : Int) (hvd : valB ds = v) :
    Calls Try.prog 99 #[.pointer (some ⟨r, 0, none⟩), .int .i64 lo, .int .i64 hi] w fun e w' =>
      IfP (z = true ∨ v < lo ∨ hi < v) (e = .returned (.int .i64 0) ∧ XAt w' r a m c raw (.error at_) ∧ Kept (fun k => k = r) w w')
        (e = .returned (.int .i64 v) ∧ XAt w' r a m c raw (.ok (at_ + 1 + k)) ∧ Kept (fun k => k = r) w w') := by
  have hNo := xno_any A at_
  obtain ⟨on, hh, l⟩ := A.open
  obtain ⟨c0, _⟩ := cellOf' hh (o := 0) rfl
  obtain ⟨c1, f1⟩ := cellOf' hh (o := 1) rfl
  obtain ⟨c2, _⟩ := cellOf' hh (o := 2) rfl
  obtain ⟨ba, oa, rfl, hc⟩ := A.bytes.at (j := at_) (by rw [A.bytes.len]; exact h)
  have y := hc at_ (by rw [A.bytes.len]; exact h)
  rw [hk] at y
  have hs := A.small
  have hbs : Bs ds := by rw [← hds]; exact Bs.take (Bs.drop A.bytes.byte _) _
  have hlen := A.bytes.len
  have hdl : ds.length = k := by rw [← hds, List.length_take, List.length_drop, hlen]; omega
  have hcell : ∀ j, j < k → w.cell? ⟨ba, oa + (at_ + 1 + j), none⟩ = some (.int .u8 (ds.getD j 0)) := fun j hj => by
    have := hc (at_ + 1 + j) (by omega)
    rw [this, ← hds, piece_getD hj]
  have HC : Hid _ := hcell
  have HE : Hid (XAt (w.setCell ⟨r, 1, none⟩ (.int .i64 ((at_ : Int) + 1 + (k : Int)))) r (some ⟨ba, oa, none⟩) m c raw (.ok (at_ + 1 + k)) ∧ Kept (fun k => k = r) w (w.setCell ⟨r, 1, none⟩ (.int .i64 ((at_ : Int) + 1 + (k : Int))))) := by
    have K : Kept (fun k => k = r) w (w.setCell ⟨r, 1, none⟩ (.int .i64 ((at_ : Int) + 1 + (k : Int)))) := Kept.setCell (S := fun k => k = r) _ _ _ rfl
    refine ⟨⟨⟨at_ + 1 + k, on, false, ?_, rfl, hm⟩, A.bytes.kept K A.ne, A.ne, A.small⟩, K⟩
    simp [World.setCell, Array.getElem?_modify, hh]
  have h1 : (at_ : Int) < (m : Int) := by omega
  have h2 : (at_ : Int) + 1 + k ≤ (m : Int) := by omega
  clear A hh hc hk hcell
  go_enter Try.func99, Try.ntmps99
  go_wp2
  go_loopw [9, 10] (fun x i wr => ∃ (j : Nat), j ≤ k ∧ i = .int .i64 j ∧ x = .int .i64 (valB (ds.take j)) ∧ wr = w) (fun _ i _ => k - (intOf i).toNat)
  case atStart => exact ⟨0, Nat.zero_le _, rfl, rfl, rfl⟩
  case round =>
    obtain ⟨j, hj, rfl, rfl, hwr⟩ := hrel
    subst hwr
    by_cases hjk : j < k
    · have hx := HC.out j hjk
      have hd := hbs.getD j
      have hv := valB_lt ds hbs j (by omega)
      have HN : Hid (valB (ds.take (j + 1)) = 256 * valB (ds.take j) + ds.getD j 0) := valB_take ds j (by omega)
      generalize valB (ds.take j) = vj at *
      generalize ds.getD j 0 = d at *
      have hjk2 : (j : Int) < (k : Int) := by omega
      have hjm : (at_ : Int) + 1 + j < (m : Int) := by omega
      have hjt : ((at_ : Int) + 1 + j).toNat = at_ + 1 + j := by omega
      clear hdl hds
      go_wp2
      go_roundw
      case rel => exact ⟨j + 1, by omega, by go_num, by rw [HN.out], trivial⟩
      case measure => simp [intOf]; omega
    · obtain rfl : j = k := by omega
      have hfull : ds.take j = ds := List.take_of_length_le (by omega)
      rw [hfull, hvd]
      have hv : 0 ≤ valB ds ∧ valB ds < 72057594037927936 := by
        have h1 := valB_bd ds hbs
        have h2 : 256 ^ ds.length ≤ 256 ^ 7 := Nat.pow_le_pow_right (by decide) (by omega)
        have h3 : (256 : Nat) ^ 7 = 72057594037927936 := by decide
        omega
      rw [hvd] at hv
      have HZ : Hid (z = (decide (0 < j) && ds.getD 0 0 == 0)) := hz
      clear hz hfull hdl hds hvd
      by_cases hj0 : j = 0
      · subst hj0
        have hzf : z = false := by rw [HZ.out]; rfl
        subst hzf
        by_cases hlo : v < lo
        · go_wp2_with (first
            | (go_at_call 125; refine hNo.mono ?_; rintro e w1 ⟨rfl, A1, K1⟩; clear hNo)
            | fail)
          go_ret
          exact .yes (by first | trivial | omega | (simp; omega)) ⟨rfl, A1, K1⟩
        · by_cases hhi : hi < v
          · go_wp2_with (first
              | (go_at_call 125; refine hNo.mono ?_; rintro e w1 ⟨rfl, A1, K1⟩; clear hNo)
              | fail)
            go_ret
            exact .yes (by first | trivial | omega | (simp; omega)) ⟨rfl, A1, K1⟩
          · clear hNo
            go_wp2
            go_ret
            exact .no (by first | omega | (simp; omega)) ⟨rfl, HE.out⟩
      · have hx := HC.out 0 (by omega)
        rw [Nat.add_zero] at hx
        have hj1 : (0 : Int) < (j : Int) := by omega
        have hjm : (at_ : Int) + 1 < (m : Int) := by omega
        by_cases hd0 : ds.getD 0 0 = 0
        · have hzt : z = true := by rw [HZ.out, hd0]; simp; omega
          subst hzt
          rw [hd0] at hx
          go_wp2_with (first
            | (go_at_call 125; refine hNo.mono ?_; rintro e w1 ⟨rfl, A1, K1⟩; clear hNo)
            | fail)
          go_ret
          exact .yes (by first | trivial | omega | (simp; omega)) ⟨rfl, A1, K1⟩
        · have hzf : z = false := by rw [HZ.out]; simp; intro _; simpa using hd0
          subst hzf
          have hd1 : (ds.getD 0 0 == 0) = false := by simpa using hd0
          generalize ds.getD 0 0 = d0 at *
          by_cases hlo : v < lo
          · go_wp2_with (first
              | (go_at_call 125; refine hNo.mono ?_; rintro e w1 ⟨rfl, A1, K1⟩; clear hNo)
              | fail)
            go_ret
            exact .yes (by first | trivial | omega | (simp; omega)) ⟨rfl, A1, K1⟩
          · by_cases hhi : hi < v
            · go_wp2_with (first
                | (go_at_call 125; refine hNo.mono ?_; rintro e w1 ⟨rfl, A1, K1⟩; clear hNo)
                | fail)
              go_ret
              exact .yes (by first | trivial | omega | (simp; omega)) ⟨rfl, A1, K1⟩
            · clear hNo
              go_wp2
              go_ret
              exact .no (by first | omega | (simp; omega)) ⟨rfl, HE.out⟩
/-- What the document's reader does where it is not refused yet. -/
def xnext {α : Type} (P : Rd α) (raw : List Int) : Except Nat Nat → Except Nat (α × Nat)
  | .error e => .error e
  | .ok i => P raw i

def xval {α : Type} (d : α) : Except Nat (α × Nat) → α
  | .error _ => d
  | .ok (v, _) => v

def xst {α : Type} : Except Nat (α × Nat) → Except Nat Nat
  | .error e => .error e
  | .ok (_, i) => .ok i

theorem xrd_any (A : XAt w r a m c raw st) (lo hi : Int) :
    Calls Try.prog 99 #[.pointer (some ⟨r, 0, none⟩), .int .i64 lo, .int .i64 hi] w fun e w' =>
      e = .returned (.int .i64 (xval 0 (xnext (rdNum lo hi) raw st))) ∧ XAt w' r a m c raw (xst (xnext (rdNum lo hi) raw st)) ∧ Kept (fun k => k = r) w w' := by
  cases st with
  | error pl =>
    refine (xrd_bad A lo hi).mono ?_
    rintro e w' ⟨rfl, rfl⟩
    exact ⟨rfl, A, Kept.refl _ _⟩
  | ok at_ =>
    have hlen := A.bytes.len
    obtain ⟨_, _, hle⟩ := A.open
    have hb := (Bs.getD A.bytes.byte at_)
    simp only [xnext]
    unfold rdNum
    by_cases h1 : raw.length ≤ at_
    · rw [if_pos h1, hlen]
      exact xrd_end A lo hi (by omega)
    rw [if_neg h1]
    by_cases h2 : 7 < raw.getD at_ 0
    · rw [if_pos h2]
      exact xrd_many A lo hi (by omega) _ rfl h2
    rw [if_neg h2]
    have hk : raw.getD at_ 0 = ((raw.getD at_ 0).toNat : Int) := by omega
    by_cases h3 : raw.length < at_ + 1 + (raw.getD at_ 0).toNat
    · rw [if_pos h3, hlen]
      exact xrd_cut A lo hi (by omega) _ hk (by omega) (by omega)
    rw [if_neg h3]
    have hR := xrd_read A lo hi (by omega) _ hk (by omega) (by omega) _ rfl _ rfl _ rfl
    have hd : (decide (0 < (raw.getD at_ 0).toNat) && (((raw.drop (at_ + 1)).take (raw.getD at_ 0).toNat).getD 0 0 == 0)) = true ↔ (0 < raw.getD at_ 0 ∧ raw.getD (at_ + 1) 0 = 0) := by
      rw [Bool.and_eq_true, decide_eq_true_eq, beq_iff_eq]
      constructor
      · rintro ⟨h, g⟩
        rw [piece_getD h, Nat.add_zero] at g
        exact ⟨by omega, g⟩
      · rintro ⟨h, g⟩
        have h' : 0 < (raw.getD at_ 0).toNat := by omega
        rw [piece_getD h', Nat.add_zero]
        exact ⟨h', g⟩
    simp only [hd] at hR
    refine hR.mono ?_
    intro e w' h
    by_cases hc : (0 < raw.getD at_ 0 ∧ raw.getD (at_ + 1) 0 = 0) ∨ valB ((raw.drop (at_ + 1)).take (raw.getD at_ 0).toNat) < lo ∨ hi < valB ((raw.drop (at_ + 1)).take (raw.getD at_ 0).toNat)
    · rw [if_pos hc]
      exact h.1 hc
    · rw [if_neg hc]
      exact h.2 hc

/-- A new reader of the document's. -/
theorem XAt.new {w : World} {a : Option Addr} {m c : Nat} {raw : List Int} (B : BytesAt w a m c raw) (hm : m ≤ 140737488355328) : XAt (w.alloc (.cells #[.slice a m c, .int .i64 0, .bool false, .int .i64 0] 153)) w.heap.size a m c raw (.ok 0) :=
  ⟨⟨0, 0, false, by rw [heap_alloc_new]; rfl, rfl, Nat.zero_le _⟩, B.kept (Kept.alloc (fun _ => False) w _) (fun _ _ _ h => h), fun hne ad e => by have := B.lt e hne; omega, hm⟩
end


end Go.Proofs.Ytceocmhgbcimoaa
