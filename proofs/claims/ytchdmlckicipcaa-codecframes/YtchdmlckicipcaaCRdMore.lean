/-
  The codec's reader in memory: texts, signed numbers, the end.
-/
import Derived.Test.YtchdmlckicipcaaCRdNum
namespace Go.Proofs.Ytchdmlckicipcaa
open Go.RowKit

/-- A text is read. -/
def rdText : Rd ByteArray := fun raw at_ => match rdNum 0 1048576 raw at_ with
  | .error e => .error e
  | .ok (n, i) => if raw.length < i + n.toNat then .error raw.length else .ok (strOfNums ((raw.drop i).take n.toNat), i + n.toNat)

/-- A signed number, back from its form. -/
def unsgn (n : Int) : Int := if n % 2 = 1 then -(n / 2) - 1 else n / 2

/-- A signed number is read. -/
def rdSig : Rd Int := fun raw at_ => match rdNum 0 4503599627370496 raw at_ with
  | .error e => .error e
  | .ok (n, i) => .ok (unsgn n, i)

/-- What a reader of a part does: the value is laid into a cell of its own, or it is refused. -/
def RPart {α : Type} (f : α → Value) (w w' : World) (r : Nat) (a : Option Addr) (m c : Nat) (raw : List Int) (bad : Bool) (q o : Nat) (e : Ending) : Except Nat (α × Nat) → Prop
  | .error pl => e = .returned (.bool false) ∧ RAt w' r a m c raw pl true ∧ ∃ w1, Kept (fun k => k = r) w w1 ∧ (w' = w1 ∨ ∃ v, w' = w1.setCell ⟨q, o, none⟩ (f v))
  | .ok (v, at') => e = .returned (.bool true) ∧ RAt w' r a m c raw at' bad ∧ ∃ w1, Kept (fun k => k = r) w w1 ∧ w' = w1.setCell ⟨q, o, none⟩ (f v)

theorem rdNum_ok {lo hi : Int} {raw : List Int} {at_ : Nat} {v : Int} {i : Nat} (h : rdNum lo hi raw at_ = .ok (v, i)) : lo ≤ v ∧ v ≤ hi ∧ i ≤ raw.length := by
  unfold rdNum at h
  split at h
  · cases h
  · split at h
    · cases h
    · split at h
      · cases h
      · split at h
        · cases h
        · simp only [Except.ok.injEq, Prod.mk.injEq] at h
          obtain ⟨rfl, rfl⟩ := h
          omega

theorem setCell_again (w : World) (b o : Nat) (v v' : Value) : (w.setCell ⟨b, o, none⟩ v).setCell ⟨b, o, none⟩ v' = w.setCell ⟨b, o, none⟩ v' := by
  unfold World.setCell
  simp only [World.mk.injEq, and_true]
  apply Array.ext
  · simp
  · intro i h1 h2
    simp only [Array.getElem_modify]
    by_cases h : b = i
    · simp only [h, if_true]
      have hi : i < w.heap.size := by simpa using h2
      generalize w.heap[i] = ob
      cases ob <;> simp
    · simp only [h, if_false]

theorem newCell (w : World) (v : Value) (t : TypeId) : (w.alloc (.cells #[v] t)).cell? ⟨w.heap.size, 0, none⟩ = some v ∧ (w.alloc (.cells #[v] t)).frozen? ⟨w.heap.size, 0, none⟩ = false := by
  have h := heap_alloc_new w (.cells #[v] t)
  constructor
  · unfold World.cell?; rw [h]; rfl
  · unfold World.frozen?; rw [h]; rfl

section
variable {w : World} {r : Nat} {a : Option Addr} {m c : Nat} {raw : List Int} {at_ : Nat} {bad : Bool}

theorem cell_keep {w w' : World} {S : Nat → Prop} (K : Kept S w w') {q o : Nat} {u : Value} (hq : w.cell? ⟨q, o, none⟩ = some u) (hS : ¬ S q) : w'.cell? ⟨q, o, none⟩ = some u ∧ w'.frozen? ⟨q, o, none⟩ = w.frozen? ⟨q, o, none⟩ := by
  have hb := K.block q (World.block_lt_of_cell? w _ hq) hS
  exact ⟨by rw [World.cell?_of_block (w := w) hb]; exact hq, by simp only [World.frozen?, hb]⟩

theorem rnumber_any (A : RAt w r a m c raw at_ bad) (q o : Nat) (u : Value) (hq : w.cell? ⟨q, o, none⟩ = some u) (fq : w.frozen? ⟨q, o, none⟩ = false) (hqr : q ≠ r) (hqa : raw ≠ [] → ∀ ad, a = some ad → ad.block ≠ q) (lo hi : Int) :
    Calls Try.prog 27 #[.pointer (some ⟨r, 0, none⟩), .pointer (some ⟨q, o, none⟩), .int .i64 lo, .int .i64 hi] w fun e w' => RPart (Value.int .i64) w w' r a m c raw bad q o e (rdNum lo hi raw at_) := by
  refine (rnum_any A q o u hq fq hqr hqa lo hi).mono ?_
  intro e w' h
  cases hd : rdNum lo hi raw at_ with
  | error pl => rw [hd] at h; exact ⟨h.1, h.2.1, w', h.2.2, .inl rfl⟩
  | ok x => rw [hd] at h; exact h

theorem Kept.new {w w' : World} {o : Obj} {S : Nat → Prop} (K : Kept (fun k => S k ∨ k = w.heap.size) (w.alloc o) w') : Kept S w w' :=
  (Kept.alloc S w o).trans K (fun _ h => h.elim .inl (fun e => .inr (Nat.le_of_eq e.symm)))

theorem RAt.alloc (A : RAt w r a m c raw at_ bad) (o : Obj) : RAt (w.alloc o) r a m c raw at_ bad := A.kept (Kept.alloc (fun _ => False) w o) (fun h => h) (fun _ _ _ h => h)

theorem RAt.ltA (A : RAt w r a m c raw at_ bad) (hne : raw ≠ []) {ad : Addr} (e : a = some ad) : ad.block < w.heap.size := by
  have hp : 0 < raw.length := List.length_pos_iff.2 hne
  obtain ⟨ba, oa, rfl, hc⟩ := A.bytes.at (j := 0) hp
  cases e
  exact World.block_lt_of_cell? w _ (hc 0 hp)

set_option maxRecDepth 100000 in
set_option maxHeartbeats 400000 in
theorem rtext_any (A : RAt w r a m c raw at_ bad) (q o : Nat) (u : Value) (hq : w.cell? ⟨q, o, none⟩ = some u) (fq : w.frozen? ⟨q, o, none⟩ = false) (hqr : q ≠ r) (hqa : raw ≠ [] → ∀ ad, a = some ad → ad.block ≠ q) :
    Calls Try.prog 28 #[.pointer (some ⟨r, 0, none⟩), .pointer (some ⟨q, o, none⟩)] w fun e w' => RPart Value.string w w' r a m c raw bad q o e (rdText raw at_) := by
  have hrl := A.lt
  have hnew := newCell w (.int .i64 0) 3
  have hN := rnum_any (A.alloc (.cells #[.int .i64 0] 3)) w.heap.size 0 (.int .i64 0) hnew.1 hnew.2 (by omega) (fun hne ad e => by have := A.ltA hne e; omega) 0 1048576
  have hlen := A.bytes.len
  have hql : q < w.heap.size := World.block_lt_of_cell? w _ hq
  unfold rdText
  cases hd : rdNum 0 1048576 raw at_ with
  | error pl =>
    rw [hd] at hN
    simp only at hN
    have fin : ∀ w', Kept (fun k => k = r) (w.alloc (.cells #[.int .i64 0] 3)) w' → Kept (fun k => k = r) w w' := fun w' K => Kept.new (S := fun k => k = r) (K.mono (fun _ h => .inl h))
    go_enter Try.func28, Try.ntmps28
    go_wp2_with (first
      | (go_at_call 27; refine hN.mono ?_; rintro e w1 ⟨rfl, A1, K1⟩; clear hN)
      | fail)
    go_ret
    exact ⟨rfl, A1, _, fin _ K1, .inl rfl⟩
  | ok x =>
    obtain ⟨n, i⟩ := x
    rw [hd] at hN
    simp only at hN
    obtain ⟨n0, n1, hil⟩ := rdNum_ok hd
    obtain ⟨k, rfl⟩ := Int.eq_ofNat_of_zero_le n0
    simp only [Int.toNat_natCast]
    have fin : ∀ w1 w2, Kept (fun k => k = r) (w.alloc (.cells #[.int .i64 0] 3)) w1 → Kept (fun k => k = r) (w1.setCell ⟨w.heap.size, 0, none⟩ (.int .i64 k)) w2 → Kept (fun k => k = r) w w2 := fun w1 w2 K1 K2 =>
      Kept.new (S := fun k => k = r) (((K1.mono (fun _ h => .inl h)).and (Kept.setCell (S := fun k => k = r ∨ k = w.heap.size) _ _ _ (.inr rfl))).and (K2.mono (fun _ h => .inl h)))
    have hsb : ∀ w1, Kept (fun k => k = r) (w.alloc (.cells #[.int .i64 0] 3)) w1 → (w1.setCell ⟨w.heap.size, 0, none⟩ (.int .i64 k)).cell? ⟨w.heap.size, 0, none⟩ = some (.int .i64 k) := fun w1 K1 => by
      have h1 := (cell_keep K1 hnew.1 (by show ¬ w.heap.size = r; omega)).1
      exact World.cell?_setCell_same' w1 _ _ (by rw [h1]; rfl)
    by_cases hc : raw.length < i + k
    · rw [if_pos hc, hlen]
      have hcv : ∀ W, (convert 23 9 (.slice none 0 0)).run Try.prog W = .ok (.string (strOfNums [])) W := fun W => run_convert_bytes_nil W 23 5 Try.underlying23 Try.underlying5 0 0 9 Try.underlying9
      go_enter Try.func28, Try.ntmps28
      go_wp2_with (first
        | (go_at_call 27; refine hN.mono ?_; rintro e w2 ⟨rfl, A2, w1, K1, rfl⟩; have hsz := hsb w1 K1; have hT := rtake_no A2 k (by omega); clear hN hsb)
        | (go_at_call 34; refine hT.mono ?_; rintro e w3 ⟨rfl, A3, K3⟩; have K4 := fin w1 w3 K1 K3; obtain ⟨y1, y2⟩ := cell_keep K4 hq hqr; rw [fq] at y2; clear hT hsz)
        | fail)
      go_ret
      exact ⟨rfl, A3.kept (Kept.setCell (S := fun k => k = q) _ _ _ rfl) (fun e => hqr e.symm) hqa, w3, K4, .inr ⟨_, rfl⟩⟩
    · rw [if_neg hc]
      go_enter Try.func28, Try.ntmps28
      go_wp2_with (first
        | (go_at_call 27; refine hN.mono ?_; rintro e w2 ⟨rfl, A2, w1, K1, rfl⟩; have hsz := hsb w1 K1; have hT := rtake_yes A2 k (by omega); clear hN hsb)
        | (go_at_call 34; refine hT.mono ?_; rintro e w3 ⟨a3, c3, rfl, B3, A3, K3, _⟩; have K4 := fin w1 w3 K1 K3; obtain ⟨y1, y2⟩ := cell_keep K4 hq hqr; rw [fq] at y2; have hcv := B3.str; clear hT hsz)
        | fail)
      go_ret
      exact ⟨rfl, A3.kept (Kept.setCell (S := fun k => k = q) _ _ _ rfl) (fun e => hqr e.symm) hqa, w3, K4, rfl⟩

set_option maxRecDepth 100000 in
set_option maxHeartbeats 400000 in
theorem rsigned_any (A : RAt w r a m c raw at_ bad) (q o : Nat) (u : Value) (hq : w.cell? ⟨q, o, none⟩ = some u) (fq : w.frozen? ⟨q, o, none⟩ = false) (hqr : q ≠ r) (hqa : raw ≠ [] → ∀ ad, a = some ad → ad.block ≠ q) :
    Calls Try.prog 29 #[.pointer (some ⟨r, 0, none⟩), .pointer (some ⟨q, o, none⟩)] w fun e w' => RPart (Value.int .i64) w w' r a m c raw bad q o e (rdSig raw at_) := by
  have hrl := A.lt
  have hnew := newCell w (.int .i64 0) 3
  have hN := rnum_any (A.alloc (.cells #[.int .i64 0] 3)) w.heap.size 0 (.int .i64 0) hnew.1 hnew.2 (by omega) (fun hne ad e => by have := A.ltA hne e; omega) 0 4503599627370496
  have hql : q < w.heap.size := World.block_lt_of_cell? w _ hq
  unfold rdSig
  cases hd : rdNum 0 4503599627370496 raw at_ with
  | error pl =>
    rw [hd] at hN
    simp only at hN
    have fin : ∀ w', Kept (fun k => k = r) (w.alloc (.cells #[.int .i64 0] 3)) w' → Kept (fun k => k = r) w w' := fun w' K => Kept.new (S := fun k => k = r) (K.mono (fun _ h => .inl h))
    go_enter Try.func29, Try.ntmps29
    go_wp2_with (first
      | (go_at_call 27; refine hN.mono ?_; rintro e w1 ⟨rfl, A1, K1⟩; clear hN)
      | fail)
    go_ret
    exact ⟨rfl, A1, _, fin _ K1, .inl rfl⟩
  | ok x =>
    obtain ⟨n, i⟩ := x
    rw [hd] at hN
    simp only at hN
    obtain ⟨n0, n1, hil⟩ := rdNum_ok hd
    show Calls _ _ _ _ fun e w' => RPart (Value.int .i64) w w' r a m c raw bad q o e (.ok (unsgn n, i))
    have hsb : ∀ w1, Kept (fun k => k = r) (w.alloc (.cells #[.int .i64 0] 3)) w1 → (w1.setCell ⟨w.heap.size, 0, none⟩ (.int .i64 n)).cell? ⟨w.heap.size, 0, none⟩ = some (.int .i64 n) ∧ Kept (fun k => k = r) w (w1.setCell ⟨w.heap.size, 0, none⟩ (.int .i64 n)) := fun w1 K1 => by
      have h1 := (cell_keep K1 hnew.1 (by show ¬ w.heap.size = r; omega)).1
      exact ⟨World.cell?_setCell_same' w1 _ _ (by rw [h1]; rfl), Kept.new (S := fun k => k = r) ((K1.mono (fun _ h => .inl h)).and (Kept.setCell (S := fun k => k = r ∨ k = w.heap.size) _ _ _ (.inr rfl)))⟩
    have hqs : q ≠ w.heap.size := by omega
    have HD : Hid (rdNum 0 4503599627370496 raw at_ = .ok (n, i)) := hd
    clear hd hnew
    by_cases hodd : n % 2 = 1
    · have ho : (n % 2 == 1) = true := by simpa using hodd
      have hu : unsgn n = -(n / 2) - 1 := by unfold unsgn; rw [if_pos hodd]
      rw [hu]
      go_enter Try.func29, Try.ntmps29
      go_wp2_with (first
        | (go_at_call 27; refine hN.mono ?_; rintro e w2 ⟨rfl, A2, w1, K1, rfl⟩; obtain ⟨hsz, K2⟩ := hsb w1 K1; obtain ⟨y1, y2⟩ := cell_keep K2 hq hqr; rw [fq] at y2; have HA : Hid _ := A2; clear hN hsb A2 K1; generalize w1.setCell ⟨w.heap.size, 0, none⟩ (.int .i64 n) = W at *)
        | fail)
      go_ret
      refine ⟨rfl, ?_, W, K2, ?_⟩
      · exact (HA.out.kept (Kept.setCell (S := fun k => k = q) _ _ _ rfl) (fun e => hqr e.symm) hqa).kept (Kept.setCell (S := fun k => k = q) _ _ _ rfl) (fun e => hqr e.symm) hqa
      · exact setCell_again W q o _ _
    · have ho : (n % 2 == 1) = false := by simpa using hodd
      have hu : unsgn n = n / 2 := by unfold unsgn; rw [if_neg hodd]
      rw [hu]
      go_enter Try.func29, Try.ntmps29
      go_wp2_with (first
        | (go_at_call 27; refine hN.mono ?_; rintro e w2 ⟨rfl, A2, w1, K1, rfl⟩; obtain ⟨hsz, K2⟩ := hsb w1 K1; obtain ⟨y1, y2⟩ := cell_keep K2 hq hqr; rw [fq] at y2; have HA : Hid _ := A2; clear hN hsb A2 K1; generalize w1.setCell ⟨w.heap.size, 0, none⟩ (.int .i64 n) = W at *)
        | fail)
      go_ret
      exact ⟨rfl, HA.out.kept (Kept.setCell (S := fun k => k = q) _ _ _ rfl) (fun e => hqr e.symm) hqa, W, K2, rfl⟩
end

end Go.Proofs.Ytchdmlckicipcaa
