/-
  Parse: a text is a definition, or it is refused at a line.
-/
import Derived.Test.YtoonnbagppliaaaDoorDLines3
import Derived.Test.YtoonnbagppliaaaDoorDCheck
namespace Go.Proofs.YtoonnbagppliaaaDoor
open Go.RowKit

/-- What Parse answers: the definition, if it is one; the line; the error. -/
def parseP (t : ByteArray) : Option (ByteArray × List Nd) × Nat × Int :=
  if 16384 < t.size then (none, 0, 9)
  else match rlP t with
    | (none, line) => (none, line, 2)
    | (some (nm, ns, ls), _) => if (checkP nm ns).2 = 0 then (some (nm, ns), 0, 0) else (none, if 0 ≤ (checkP nm ns).1 then ls.getD (checkP nm ns).1.toNat 0 else 0, (checkP nm ns).2)

theorem rl_pos : ∀ (f : Nat) (s : ByteArray) (line : Nat) (b : Bool) (nm : ByteArray) (ns : List Nd) (ls : List Nat) (l : Nat), rlK f s line b nm ns ls = (none, l) → line ≤ l
  | 0, s, line, b, nm, ns, ls, l, h => by simp [rlK] at h; omega
  | f + 1, s, line, b, nm, ns, ls, l, h => by
    rw [rlK] at h
    split at h
    · split at h
      · cases h
      · simp at h; omega
    · split at h
      · have := rl_pos f _ _ _ _ _ _ _ h; omega
      · split at h
        · split at h
          · simp at h; omega
          · have := rl_pos f _ _ _ _ _ _ _ h; omega
        · split at h
          · simp at h; omega
          · have := rl_pos f _ _ _ _ _ _ _ h; omega

/-- Words that are small. -/
def SmallW (l : List ByteArray) : Prop := l.length ≤ 1000000 ∧ ∀ s ∈ l, s.size ≤ 1000000

theorem SmallW.tail {x : ByteArray} {l : List ByteArray} (h : SmallW (x :: l)) : SmallW l := ⟨by have := h.1; simp at this; omega, fun s hs => h.2 s (List.mem_cons_of_mem _ hs)⟩

theorem word_small {r : RS} (h : SmallW r.1) : (rWord r).1.size ≤ 1000000 ∧ SmallW (rWord r).2.1 := by
  obtain ⟨ws, b⟩ := r
  cases ws with
  | nil => exact ⟨by simp [rWord], by simp [rWord], fun s hs => by simp [rWord] at hs⟩
  | cons x t => exact ⟨h.2 x (by simp), h.tail⟩
theorem name_small {r : RS} (h : SmallW r.1) : (rName r).1.size ≤ 1000000 ∧ SmallW (rName r).2.1 := word_small h
theorem flow_small {r : RS} (h : SmallW r.1) : (rFlow r).1.size ≤ 1000000 ∧ SmallW (rFlow r).2.1 := word_small h
theorem take_small {s : ByteArray} {r : RS} (h : SmallW r.1) : SmallW (rTake s r).2.1 := by
  obtain ⟨ws, b⟩ := r
  cases ws with
  | nil => exact h
  | cons x t =>
    unfold rTake
    simp only []
    split
    · exact h.tail
    · exact h
theorem num_small {r : RS} (h : SmallW r.1) : isI64 (rNum r).1 ∧ SmallW (rNum r).2.1 := by
  have z0 : isI64 0 := isI64_of (by decide) (by decide)
  unfold rNum
  split
  · rename_i hn
    have hm : madeP (rWord r).1 digitsB 15 = true := by
      unfold numP at hn
      rw [Bool.and_eq_true] at hn
      exact hn.1
    have := num_atoi hm
    exact ⟨isI64_of (by omega) (by omega), (word_small h).2⟩
  · exact ⟨z0, (word_small h).2⟩

theorem names_small {r : RS} (h : SmallW r.1) : SmallW (rNames r).1 := by
  obtain ⟨ws, b⟩ := r
  unfold rNames
  have h1 := name_small h
  cases ws with
  | nil => refine ⟨by simp [rName, rWord], fun s hs => ?_⟩
           simp [rName, rWord] at hs
           subst hs
           exact h1.1
  | cons x t =>
    refine ⟨by have := h.1; simpa [rName, rWord] using this, fun s hs => ?_⟩
    simp only [List.mem_cons] at hs
    rcases hs with rfl | hs
    · exact h1.1
    · exact h1.2.2 s hs

theorem i64_small {z : Int} (h : 0 ≤ z ∧ z ≤ 10) : isI64 z := isI64_of (by omega) (by omega)

theorem kind_small {x : ByteArray} {r : RS} (h : SmallW r.1) : isI64 (rKind x r).1.1 ∧ (rKind x r).1.2.1.size ≤ 1000000 ∧ (rKind x r).1.2.2.1.size ≤ 1000000 ∧ isI64 (rKind x r).1.2.2.2.1 ∧ isI64 (rKind x r).1.2.2.2.2 ∧ SmallW (rKind x r).2.1 := by
  have z0 : isI64 0 := i64_small (by decide)
  have z1 : isI64 1 := i64_small (by decide)
  have z2 : isI64 2 := i64_small (by decide)
  have z3 : isI64 3 := i64_small (by decide)
  have z4 : isI64 4 := i64_small (by decide)
  have z5 : isI64 5 := i64_small (by decide)
  have e0 : (⟨#[]⟩ : ByteArray).size ≤ 1000000 := by decide
  unfold rKind
  split
  · have hn := name_small h
    have ht := take_small (s := triB) hn.2
    have hm : isI64 (if (rTake triB (rName r).2).1 then rNum (rTake triB (rName r).2).2 else (1, (rTake triB (rName r).2).2)).1 ∧ SmallW (if (rTake triB (rName r).2).1 then rNum (rTake triB (rName r).2).2 else (1, (rTake triB (rName r).2).2)).2.1 := by
      split
      · exact num_small ht
      · exact ⟨z1, ht⟩
    have hu := take_small (s := tmoB) hm.2
    simp only []
    generalize (if (rTake triB (rName r).2).1 then rNum (rTake triB (rName r).2).2 else (1, (rTake triB (rName r).2).2)) = n at *
    refine ⟨z1, hn.1, e0, ?_, hm.1, ?_⟩
    · split
      · exact (num_small hu).1
      · exact z0
    · split
      · exact (num_small hu).2
      · exact hu
  · split
    · exact ⟨z2, e0, e0, (num_small h).1, z0, (num_small h).2⟩
    · split
      · exact ⟨z3, (name_small h).1, e0, z0, z0, (name_small h).2⟩
      · split
        · exact ⟨z4, (name_small h).1, e0, z0, z0, (name_small h).2⟩
        · split
          · exact ⟨z5, (name_small (flow_small h).2).1, (flow_small h).1, z0, z0, (name_small (flow_small h).2).2⟩
          · exact ⟨z0, e0, e0, z0, z0, h⟩

theorem tail_small {r : RS} (h : SmallW r.1) : SmallW (rTail r).1 := by
  unfold rTail
  split
  · exact names_small (take_small h)
  · exact ⟨by simp, fun s hs => by simp at hs⟩

/-- A node that was read is one of memory. -/
def NdFine (n : Nd) : Prop := NdOk n ∧ ∀ s ∈ n.after, s.size ≤ maxLen

theorem node_small {r : RS} (h : SmallW r.1) : NdFine (rNode r).1 := by
  have h1 := name_small h
  have h2 := word_small h1.2
  have h3 := kind_small (x := (rWord (rName r).2).1) h2.2
  have h4 := tail_small h3.2.2.2.2.2
  have hm : 1000000 ≤ maxLen := by unfold maxLen; omega
  exact ⟨⟨Nat.le_trans h1.1 hm, Nat.le_trans h3.2.1 hm, Nat.le_trans h3.2.2.1 hm, h3.1, h3.2.2.2.1, h3.2.2.2.2.1, h4.1⟩, fun s hs => Nat.le_trans (h4.2 s hs) hm⟩

theorem rl_fine : ∀ (f : Nat) (s : ByteArray) (line : Nat) (b : Bool) (nm : ByteArray) (ns : List Nd) (ls : List Nat), s.size ≤ 1000000 → (∀ n ∈ ns, NdFine n) → ns.length = ls.length → ∀ nm' ns' ls' k, rlK f s line b nm ns ls = (some (nm', ns', ls'), k) → (∀ n ∈ ns', NdFine n) ∧ ns'.length = ls'.length ∧ ns'.length ≤ ns.length + f
  | 0, s, line, b, nm, ns, ls, _, _, _, nm', ns', ls', k, h => by simp [rlK] at h
  | f + 1, s, line, b, nm, ns, ls, hs, hn, hl, nm', ns', ls', k, h => by
    rw [rlK] at h
    split at h
    · split at h
      · simp only [Prod.mk.injEq, Option.some.injEq] at h
        obtain ⟨⟨_, rfl, rfl⟩, _⟩ := h
        exact ⟨hn, hl, by omega⟩
      · cases h
    · rename_i h0
      have hcb := cutB_size (t := s) (by omega)
      have hca := cutA_size s
      have hw := words_ok (cutA s)
      split at h
      · have := rl_fine f _ _ _ _ _ _ (by omega) hn hl _ _ _ _ h
        exact ⟨this.1, this.2.1, by omega⟩
      · split at h
        · split at h
          · cases h
          · have := rl_fine f _ _ _ _ _ _ (by omega) hn hl _ _ _ _ h
            exact ⟨this.1, this.2.1, by omega⟩
        · split at h
          · cases h
          · have := rl_fine f _ _ _ _ _ _ (by omega) (fun n hh => by
              rcases List.mem_append.1 hh with hh | hh
              · exact hn n hh
              · simp at hh; subst hh
                exact node_small ⟨by show (wordsP (cutA s)).length ≤ _; omega, fun x hx => by have := (hw.2 x hx).2; omega⟩) (by simp [hl]) _ _ _ _ h
            simp only [List.length_append, List.length_singleton] at this
            exact ⟨this.1, this.2.1, by omega⟩

theorem firstE_lt {f : Nat → Int} : ∀ {n : Nat} {x : Nat × Int}, firstE f n = some x → x.1 < n
  | 0, x, h => by simp [firstE] at h
  | n + 1, x, h => by
    rw [firstE] at h
    split at h
    · rename_i y hy
      cases h
      have := firstE_lt hy
      omega
    · split at h
      · cases h
      · cases h; simp

theorem checkP_lt (nm : ByteArray) (ns : List Nd) : 0 ≤ (checkP nm ns).1 → (checkP nm ns).1.toNat < ns.length := by
  rw [checkP_eq]
  intro h
  split at h
  · simp at h
  · split at h
    · simp at h
    · rename_i h1 h2
      rw [if_neg h1, if_neg h2]
      cases g1 : firstE (nodeAt ns) ns.length with
      | some x =>
        have := firstE_lt g1
        simpa using this
      | none =>
        rw [g1] at h
        simp only [] at h
        cases g2 : firstE (aftAt ns) ns.length with
        | some x =>
          have := firstE_lt g2
          simpa using this
        | none =>
          rw [g2] at h
          simp only [] at h
          split at h <;> simp at h

def ParsePost (w : World) (p : Option (ByteArray × List Nd) × Nat × Int) (e : Ending) (w' : World) : Prop :=
  (∀ l z, p = (none, l, z) → e = .returned (.tuple #[.agg #[.string ⟨#[]⟩, .slice none 0 0], .int .i64 (l : Nat), .int .i64 z])) ∧
  (∀ nm ns l z, p = (some (nm, ns), l, z) → ∃ a c, e = .returned (.tuple #[.agg #[.string nm, .slice a ns.length c], .int .i64 (l : Nat), .int .i64 z]) ∧ NodesAt w' a ns ∧ ns.length ≤ c) ∧ Kept (fun _ => False) w w'

/-- A node's line, read out of the row of lines. -/
theorem lines_at {w1 w3 : World} {b : Nat} {base : Nat} {v0 v1 : Value} {a3 : Option Addr} {c3 m z : Nat} {ls : List Nat} (K3 : Kept (fun _ => False) ((w1.setCell ⟨b, 0, none⟩ v0).setCell ⟨b, 1, none⟩ v1) w3) (O : w1.ownsRow (base + 1) 3 1 (.slice a3 ls.length c3) ls.length (natsV ls)) (hb : b ≤ base) (h : (natsV ls)[m]? = some (.int .i64 ((z : Nat) : Int))) :
    ∃ g, a3 = some ⟨g, 0, none⟩ ∧ w3.cell? ⟨g, m, none⟩ = some (.int .i64 ((z : Nat) : Int)) := by
  have KS : Kept (fun j => j = b) w1 ((w1.setCell ⟨b, 0, none⟩ v0).setCell ⟨b, 1, none⟩ v1) := (Kept.setCell (S := fun j => j = b) w1 ⟨b, 0, none⟩ v0 rfl).and (Kept.setCell (S := fun j => j = b) _ ⟨b, 1, none⟩ v1 rfl)
  have O2 := ownsRow_keep O (fun g hg => KS.block g (ownsRow_blk O hg) (by have := (O.lt g hg).1; omega))
  have O3 := ownsRow_keep O2 (fun g hg => K3.block g (ownsRow_blk O2 hg) (fun h => h))
  have hm : m < (natsV ls).length := (List.getElem?_eq_some_iff.1 h).1
  rw [natsV_len] at hm
  rcases O3.2 with ⟨e, h0⟩ | ⟨g, cap, cur, e, _⟩
  · omega
  · simp only [Value.slice.injEq] at e
    obtain ⟨rfl, _, rfl⟩ := e
    refine ⟨g, rfl, ?_⟩
    rw [O3.cellAt m (by omega)]
    exact h

set_option maxRecDepth 100000 in
set_option maxHeartbeats 1500000 in
theorem parse_any (w : World) (t : ByteArray) (hsz : t.size ≤ 1000000) :
    Calls Tryd.prog 16 #[.string t] w fun e w' => ParsePost w (parseP t) e w' := by
  generalize hP : parseP t = P
  have HP : Hid (parseP t = P) := hP
  clear hP
  by_cases hbig : 16384 < t.size
  · have e1 : (16384 : Int) < (t.size : Int) := by omega
    go_enter Tryd.func16, Tryd.ntmps16
    go_wp2
    refine bodyPost_ret (by simp [results, Tryd.results16, go_sem]; try rfl) rfl ?_
    have hq : P = (none, 0, 9) := by rw [← HP.out]; unfold parseP; rw [if_pos hbig]
    subst hq
    exact ⟨fun l z h => (by cases h; rfl), fun _ _ _ _ h => (by cases h), Kept.alloc _ _ _⟩
  · have e1 : ¬ (16384 : Int) < (t.size : Int) := by omega
    have hrl := readLines_any (w.alloc (.cells #[.string ⟨#[]⟩, .slice none 0 0] 25)) t (by omega)
    have hD0 : ∀ w1, Kept (fun _ => False) (w.alloc (.cells #[.string ⟨#[]⟩, .slice none 0 0] 25)) w1 → w1.heap[w.heap.size]? = some (.cells #[.string ⟨#[]⟩, .slice none 0 0] 25 (0, 0)) := fun w1 K => (K.block _ (by simp) (fun h => h)).trans (heap_alloc_new _ _)
    have HPP : Hid (P = match rlP t with
      | (none, line) => (none, line, 2)
      | (some (nm, ns, ls), _) => if (checkP nm ns).2 = 0 then (some (nm, ns), 0, 0) else (none, if 0 ≤ (checkP nm ns).1 then ls.getD (checkP nm ns).1.toNat 0 else 0, (checkP nm ns).2)) := by
      show _ = _
      rw [← HP.out]; unfold parseP; rw [if_neg hbig]
    cases hr : rlP t with
    | mk o k =>
    rw [hr] at hrl
    cases o with
    | none =>
      have hpos : 1 ≤ k := rl_pos _ _ _ _ _ _ _ _ hr
      have e2 : (0 : Int) < (k : Int) := by omega
      have HQ : Hid (P = (none, k, 2)) := by show _ = _; rw [HPP.out, hr]
      clear hr HPP HP
      go_enter Tryd.func16, Tryd.ntmps16
      go_wp2_with (first
        | (go_at_call 27; refine hrl.mono ?_; rintro e w1 ⟨hn, _, K1⟩; obtain rfl := hn k rfl; clear hrl hn; have b1 := hD0 w1 K1; obtain ⟨⟨c0, c1⟩, f0, f1⟩ := twoC b1)
        | fail)
      generalize hV : ((((w1.setCell ⟨w.heap.size, 0, none⟩ (.string ⟨#[]⟩)).setCell ⟨w.heap.size, 1, none⟩ (.slice none 0 0)).setCell ⟨w.heap.size, 0, none⟩ (.string ⟨#[]⟩)).setCell ⟨w.heap.size, 1, none⟩ (.slice none 0 0)) = V
      have K0 := (Kept.alloc (fun _ => False) w _).and K1
      have hp := put2 (put2 b1 (.string ⟨#[]⟩) (.slice none 0 0)) (.string ⟨#[]⟩) (.slice none 0 0)
      have hk := kept2 (kept2 K0 (.string ⟨#[]⟩) (.slice none 0 0)) (.string ⟨#[]⟩) (.slice none 0 0)
      rw [hV] at hp hk
      obtain ⟨⟨g0, g1⟩, _, _⟩ := twoC hp
      refine bodyPost_ret (by simp [results, Tryd.results16, go_sem, g0, g1]; try rfl) rfl ?_
      rw [HQ.out]
      exact ⟨fun l z h => (by cases h; rfl), fun _ _ _ _ h => (by cases h), hk⟩
    | some x =>
      obtain ⟨nm, ns, ls⟩ := x
      have hfine := rl_fine _ _ _ _ _ _ _ (by omega) (fun n h => by simp at h) rfl _ _ _ _ hr
      have hCk := fun (W : World) (a : Option Addr) (c : Nat) (h : NodesAt W a ns) => check_any W nm a ns.length c ns h rfl
      have HFi : Hid (∀ n ∈ ns, NdFine n) := hfine.1
      have HLen : Hid (ns.length = ls.length) := hfine.2.1
      have hln2 : ns.length ≤ 16386 := by have := hfine.2.2; simp at this; omega
      have HQ : Hid (P = if (checkP nm ns).2 = 0 then (some (nm, ns), 0, 0) else (none, if 0 ≤ (checkP nm ns).1 then ls.getD (checkP nm ns).1.toNat 0 else 0, (checkP nm ns).2)) := by show _ = _; rw [HPP.out, hr]
      have hidx := checkP_lt nm ns
      clear hr HPP HP hfine
      generalize (checkP nm ns).1 = kk at *
      generalize (checkP nm ns).2 = ee at *
      have setup : ∀ w1 (K1 : Kept (fun _ => False) (w.alloc (.cells #[.string ⟨#[]⟩, .slice none 0 0] 25)) w1) (a : Option Addr) (c : Nat), NodesRow w1 ((w.alloc (.cells #[.string ⟨#[]⟩, .slice none 0 0] 25)).heap.size + 1) (.slice a ns.length c) ns →
          NodesAt ((w1.setCell ⟨w.heap.size, 0, none⟩ (.string nm)).setCell ⟨w.heap.size, 1, none⟩ (.slice a ns.length c)) a ns ∧ ns.length ≤ c := fun w1 K1 a c N => by
        have KS : Kept (fun j => j = w.heap.size) w1 ((w1.setCell ⟨w.heap.size, 0, none⟩ (.string nm)).setCell ⟨w.heap.size, 1, none⟩ (.slice a ns.length c)) := (Kept.setCell (S := fun j => j = w.heap.size) w1 ⟨w.heap.size, 0, none⟩ (.string nm) rfl).and (Kept.setCell (S := fun j => j = w.heap.size) _ ⟨w.heap.size, 1, none⟩ (.slice a ns.length c) rfl)
        refine ⟨(N.kept KS (fun k hk _ => by rw [World.size_alloc] at hk; omega)).at HFi.out, ?_⟩
        obtain ⟨vs, _, h2, _⟩ := N
        rcases h2.2 with ⟨e, h0⟩ | ⟨g, cap, cur, e, _, _, h1, _⟩
        · omega
        · simp only [Value.slice.injEq] at e; omega
      by_cases hee : ee = 0
      · subst hee
        have HQ2 : Hid (P = (some (nm, ns), 0, 0)) := by show _ = _; rw [HQ.out, if_pos rfl]
        clear HQ
        go_enter Tryd.func16, Tryd.ntmps16
        go_wp2_with (first
          | (go_at_call 27; refine hrl.mono ?_; rintro e w1 ⟨_, hn, K1⟩; obtain ⟨a, c, v3, rfl, N1, O1⟩ := hn nm ns ls k rfl; clear hrl hn; obtain ⟨a3, c3, rfl⟩ := ownsRow_shape O1; have b1 := hD0 w1 K1; obtain ⟨⟨c0, c1⟩, f0, f1⟩ := twoC b1; obtain ⟨NA, hcap⟩ := setup w1 K1 a c N1; have b2 := put2 b1 (.string nm) (.slice a ns.length c); obtain ⟨⟨p0, p1⟩, r0, r1⟩ := twoC b2; have K2 : Hid (Kept (fun _ => False) w ((w1.setCell ⟨w.heap.size, 0, none⟩ (.string nm)).setCell ⟨w.heap.size, 1, none⟩ (.slice a ns.length c))) := kept2 ((Kept.alloc (fun _ => False) w _).and K1) (.string nm) (.slice a ns.length c); have HNA : Hid (NodesAt ((w1.setCell ⟨w.heap.size, 0, none⟩ (.string nm)).setCell ⟨w.heap.size, 1, none⟩ (.slice a ns.length c)) a ns) := NA; have HO1 : Hid (w1.ownsRow ((w.alloc (.cells #[.string ⟨#[]⟩, .slice none 0 0] 25)).heap.size + 1) 3 1 (.slice a3 ls.length c3) ls.length (natsV ls)) := O1; have HB2 : Hid _ := b2; have HN1 : Hid (NodesRow w1 ((w.alloc (.cells #[.string ⟨#[]⟩, .slice none 0 0] 25)).heap.size + 1) (.slice a ns.length c) ns) := N1; clear N1 O1 NA b2 setup)
          | (go_at_call 5; refine (hCk _ a c HNA.out).mono ?_; rintro e w3 ⟨rfl, K3⟩; clear hCk; have b3 := (K3.block w.heap.size (Array.getElem?_eq_some_iff.1 HB2.out).1 (fun h => h)).trans HB2.out; obtain ⟨⟨q0, q1⟩, s0, s1⟩ := twoC b3; have HB3 : Hid _ := b3; clear b3)
          | fail)
        generalize hV : ((w3.setCell ⟨w.heap.size, 0, none⟩ (.string nm)).setCell ⟨w.heap.size, 1, none⟩ (.slice a ns.length c)) = V
        have hp := put2 HB3.out (.string nm) (.slice a ns.length c)
        have hk := kept2 (K2.out.and K3) (.string nm) (.slice a ns.length c)
        have KS : Kept (fun j => j = w.heap.size) w3 V := by rw [← hV]; exact (Kept.setCell (S := fun j => j = w.heap.size) w3 ⟨w.heap.size, 0, none⟩ (.string nm) rfl).and (Kept.setCell (S := fun j => j = w.heap.size) _ ⟨w.heap.size, 1, none⟩ (.slice a ns.length c) rfl)
        rw [hV] at hp hk
        obtain ⟨⟨g0, g1⟩, _, _⟩ := twoC hp
        refine bodyPost_ret (by simp [results, Tryd.results16, go_sem, g0, g1]; try rfl) rfl ?_
        rw [HQ2.out]
        refine ⟨fun _ _ h => (by cases h), fun nm' ns' l z h => ?_, hk⟩
        cases h
        refine ⟨a, c, rfl, ?_, hcap⟩
        have hrow : NodesRow V ((w.alloc (.cells #[.string ⟨#[]⟩, .slice none 0 0] 25)).heap.size + 1) (.slice a ns.length c) ns := by
          have k1 : Kept (fun j => j = w.heap.size) w1 ((w1.setCell ⟨w.heap.size, 0, none⟩ (.string nm)).setCell ⟨w.heap.size, 1, none⟩ (.slice a ns.length c)) := (Kept.setCell (S := fun j => j = w.heap.size) w1 ⟨w.heap.size, 0, none⟩ (.string nm) rfl).and (Kept.setCell (S := fun j => j = w.heap.size) _ ⟨w.heap.size, 1, none⟩ (.slice a ns.length c) rfl)
          exact HN1.out.kept ((k1.and (K3.mono (fun _ h => h.elim))).and KS) (fun k hk _ => by rw [World.size_alloc] at hk; omega)
        exact hrow.at HFi.out
      · have hee2 : (ee == 0) = false := by simpa using hee
        by_cases hkk : 0 ≤ kk
        · have hi := hidx hkk
          obtain ⟨m, rfl⟩ : ∃ m : Nat, kk = (m : Int) := ⟨kk.toNat, by omega⟩
          rw [Int.toNat_natCast] at hi
          have HQ2 : Hid (P = (none, ls.getD m 0, ee)) := by show _ = _; rw [HQ.out, if_neg hee, if_pos hkk, Int.toNat_natCast]
          have e4 : (m : Int) < (ls.length : Int) := by have := HLen.out; omega
          have hgd : (natsV ls)[m]? = some (.int .i64 ((ls.getD m 0 : Nat) : Int)) := by
            have hm : m < ls.length := by omega
            simp [natsV, List.getD_eq_getElem?_getD, hm]
          generalize ls.getD m 0 = lm at *
          clear HQ hee
          go_enter Tryd.func16, Tryd.ntmps16
          go_wp2_with (first
            | (go_at_call 27; refine hrl.mono ?_; rintro e w1 ⟨_, hn, K1⟩; obtain ⟨a, c, v3, rfl, N1, O1⟩ := hn nm ns ls k rfl; clear hrl hn; obtain ⟨a3, c3, rfl⟩ := ownsRow_shape O1; have b1 := hD0 w1 K1; obtain ⟨⟨c0, c1⟩, f0, f1⟩ := twoC b1; obtain ⟨NA, hcap⟩ := setup w1 K1 a c N1; have b2 := put2 b1 (.string nm) (.slice a ns.length c); obtain ⟨⟨p0, p1⟩, r0, r1⟩ := twoC b2; have K2 : Hid (Kept (fun _ => False) w ((w1.setCell ⟨w.heap.size, 0, none⟩ (.string nm)).setCell ⟨w.heap.size, 1, none⟩ (.slice a ns.length c))) := kept2 ((Kept.alloc (fun _ => False) w _).and K1) (.string nm) (.slice a ns.length c); have HNA : Hid (NodesAt ((w1.setCell ⟨w.heap.size, 0, none⟩ (.string nm)).setCell ⟨w.heap.size, 1, none⟩ (.slice a ns.length c)) a ns) := NA; have HO1 : Hid (w1.ownsRow ((w.alloc (.cells #[.string ⟨#[]⟩, .slice none 0 0] 25)).heap.size + 1) 3 1 (.slice a3 ls.length c3) ls.length (natsV ls)) := O1; have HB2 : Hid _ := b2; have HN1 : Hid (NodesRow w1 ((w.alloc (.cells #[.string ⟨#[]⟩, .slice none 0 0] 25)).heap.size + 1) (.slice a ns.length c) ns) := N1; clear N1 O1 NA b2 setup)
            | (go_at_call 5; refine (hCk _ a c HNA.out).mono ?_; rintro e w3 ⟨rfl, K3⟩; clear hCk; have b3 := (K3.block w.heap.size (Array.getElem?_eq_some_iff.1 HB2.out).1 (fun h => h)).trans HB2.out; obtain ⟨⟨q0, q1⟩, s0, s1⟩ := twoC b3; have HB3 : Hid _ := b3; clear b3; have lrow := lines_at K3 HO1.out (by rw [World.size_alloc]; omega) hgd; obtain ⟨g3, rfl, lcell⟩ := lrow)
            | fail)
          generalize hV : ((w3.setCell ⟨w.heap.size, 0, none⟩ (.string ⟨#[]⟩)).setCell ⟨w.heap.size, 1, none⟩ (.slice none 0 0)) = V
          have hp := put2 HB3.out (.string ⟨#[]⟩) (.slice none 0 0)
          have hk := kept2 (K2.out.and K3) (.string ⟨#[]⟩) (.slice none 0 0)
          rw [hV] at hp hk
          obtain ⟨⟨g0, g1⟩, _, _⟩ := twoC hp
          refine bodyPost_ret (by simp [results, Tryd.results16, go_sem, g0, g1]; try rfl) rfl ?_
          rw [HQ2.out]
          exact ⟨fun l z h => (by cases h; rfl), fun _ _ _ _ h => (by cases h), hk⟩
        · have HQ2 : Hid (P = (none, 0, ee)) := by show _ = _; rw [HQ.out, if_neg hee, if_neg hkk]
          clear HQ hee
          go_enter Tryd.func16, Tryd.ntmps16
          go_wp2_with (first
            | (go_at_call 27; refine hrl.mono ?_; rintro e w1 ⟨_, hn, K1⟩; obtain ⟨a, c, v3, rfl, N1, O1⟩ := hn nm ns ls k rfl; clear hrl hn; obtain ⟨a3, c3, rfl⟩ := ownsRow_shape O1; have b1 := hD0 w1 K1; obtain ⟨⟨c0, c1⟩, f0, f1⟩ := twoC b1; obtain ⟨NA, hcap⟩ := setup w1 K1 a c N1; have b2 := put2 b1 (.string nm) (.slice a ns.length c); obtain ⟨⟨p0, p1⟩, r0, r1⟩ := twoC b2; have K2 : Hid (Kept (fun _ => False) w ((w1.setCell ⟨w.heap.size, 0, none⟩ (.string nm)).setCell ⟨w.heap.size, 1, none⟩ (.slice a ns.length c))) := kept2 ((Kept.alloc (fun _ => False) w _).and K1) (.string nm) (.slice a ns.length c); have HNA : Hid (NodesAt ((w1.setCell ⟨w.heap.size, 0, none⟩ (.string nm)).setCell ⟨w.heap.size, 1, none⟩ (.slice a ns.length c)) a ns) := NA; have HO1 : Hid (w1.ownsRow ((w.alloc (.cells #[.string ⟨#[]⟩, .slice none 0 0] 25)).heap.size + 1) 3 1 (.slice a3 ls.length c3) ls.length (natsV ls)) := O1; have HB2 : Hid _ := b2; have HN1 : Hid (NodesRow w1 ((w.alloc (.cells #[.string ⟨#[]⟩, .slice none 0 0] 25)).heap.size + 1) (.slice a ns.length c) ns) := N1; clear N1 O1 NA b2 setup)
            | (go_at_call 5; refine (hCk _ a c HNA.out).mono ?_; rintro e w3 ⟨rfl, K3⟩; clear hCk; have b3 := (K3.block w.heap.size (Array.getElem?_eq_some_iff.1 HB2.out).1 (fun h => h)).trans HB2.out; obtain ⟨⟨q0, q1⟩, s0, s1⟩ := twoC b3; have HB3 : Hid _ := b3; clear b3)
            | fail)
          generalize hV : ((w3.setCell ⟨w.heap.size, 0, none⟩ (.string ⟨#[]⟩)).setCell ⟨w.heap.size, 1, none⟩ (.slice none 0 0)) = V
          have hp := put2 HB3.out (.string ⟨#[]⟩) (.slice none 0 0)
          have hk := kept2 (K2.out.and K3) (.string ⟨#[]⟩) (.slice none 0 0)
          rw [hV] at hp hk
          obtain ⟨⟨g0, g1⟩, _, _⟩ := twoC hp
          refine bodyPost_ret (by simp [results, Tryd.results16, go_sem, g0, g1]; try rfl) rfl ?_
          rw [HQ2.out]
          exact ⟨fun l z h => (by cases h; rfl), fun _ _ _ _ h => (by cases h), hk⟩

end Go.Proofs.YtoonnbagppliaaaDoor
