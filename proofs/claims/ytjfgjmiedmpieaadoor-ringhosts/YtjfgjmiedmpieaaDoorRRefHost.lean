/-
  The document's Host: whose a shard is, by the document's list of spots.
-/
import Derived.Test.YtjfgjmiedmpieaaDoorRShards
import Derived.Test.YtjfgjmiedmpieaaDoorRText
import Derived.Test.YtjfgjmiedmpieaaDoorRRefMore
namespace Go.Proofs.YtjfgjmiedmpieaaDoor
open Go.RowKit Go.Sort

/-- The document's spots, three cells each. -/
def RSpAt (w : World) (a : Option Addr) (l : List Sp) : Prop :=
  (a = none ∧ l = []) ∨ ∃ g, a = some ⟨g, 0, none⟩ ∧ g < w.heap.size ∧ ∀ i (h : i < l.length), w.cell? ⟨g, i * 3, none⟩ = some (.int .i64 (l[i]'h).1.1) ∧ w.cell? ⟨g, i * 3 + 1, none⟩ = some (.int .i64 (l[i]'h).1.2) ∧ w.cell? ⟨g, i * 3 + 2, none⟩ = some (.int .i64 (l[i]'h).2)

theorem RSpAt.kept {w w' : World} {a : Option Addr} {l : List Sp} (h : RSpAt w a l) (K : Kept (fun _ => False) w w') : RSpAt w' a l := by
  rcases h with h | ⟨g, e, hg, hc⟩
  · exact .inl h
  · exact .inr ⟨g, e, Nat.lt_of_lt_of_le hg K.size, fun i hi => ⟨cellKept K (hc i hi).1, cellKept K (hc i hi).2.1, cellKept K (hc i hi).2.2⟩⟩

/-- The document's ring: its spots (the hosts besides). -/
structure RefAt (w : World) (rb : Nat) (l : List Sp) : Prop where
  ok : ∃ a c, w.cell? ⟨rb, 0, none⟩ = some (.slice a l.length c) ∧ RSpAt w a l
  few : l.length ≤ 1048576

theorem RefAt.kept {w w' : World} {rb : Nat} {l : List Sp} (R : RefAt w rb l) (K : Kept (fun _ => False) w w') : RefAt w' rb l := by
  obtain ⟨⟨a, c, h, hA⟩, hf⟩ := R
  exact ⟨⟨a, c, cellKept K h, hA.kept K⟩, hf⟩

theorem hostAt_here {l : List Sp} {z : Pt} (hs : l.Pairwise noLater) {i : Nat} (hi : i < l.length) (h : ∀ j (hj : j < l.length), j < i → ahead (l[j]'hj).1 z = true) (hn : ahead (l[i]'hi).1 z = false) : hostAt l z = some (l[i]'hi).2 := by
  have h1 := ahead_front z l hs i hi
  rw [hn] at h1
  have h2 : ¬ i < l.countP (fun x => ahead x.1 z) := by simpa using h1.symm
  have h3 : i ≤ l.countP (fun x => ahead x.1 z) := by
    rcases Nat.eq_zero_or_pos i with h0 | h0
    · omega
    · have h4 := ahead_front z l hs (i - 1) (by omega)
      rw [h (i - 1) (by omega) (by omega)] at h4
      have h5 : i - 1 < l.countP (fun x => ahead x.1 z) := by simpa using h4.symm
      omega
  have h4 : l.countP (fun x => ahead x.1 z) = i := by omega
  unfold hostAt
  rw [h4, Nat.mod_eq_of_lt hi, List.getElem?_eq_getElem hi]
  rfl

theorem hostAt_round {l : List Sp} {z : Pt} (h0 : 0 < l.length) (h : ∀ j (hj : j < l.length), ahead (l[j]'hj).1 z = true) : hostAt l z = some (l[0]'h0).2 := by
  have h4 : l.countP (fun x => ahead x.1 z) = l.length := List.countP_eq_length.2 (fun x hx => by
    obtain ⟨j, hj, rfl⟩ := List.mem_iff_getElem.1 hx
    exact h j hj)
  unfold hostAt
  rw [h4, Nat.mod_self, List.getElem?_eq_getElem h0]
  rfl

set_option maxRecDepth 100000 in
set_option maxHeartbeats 4000000 in
theorem refHost_any (w : World) (rb : Nat) (l : List Sp) (R : RefAt w rb l) (hs : l.Pairwise noLater) (n : Int) (hlo : -9223372036854775808 ≤ n) (hhi : n ≤ 9223372036854775807) :
    Calls Tryd.prog 11 #[.pointer (some ⟨rb, 0, none⟩), .int .i64 n] w fun e w' => e = .returned (.tuple #[.int .i64 ((hostAt l (shardPt n)).getD 0), .bool (hostAt l (shardPt n)).isSome]) ∧ Kept (fun _ => False) w w' := by
  obtain ⟨⟨a, c, h2, hA⟩, hfew⟩ := R
  by_cases h0 : l.length = 0
  · obtain rfl : l = [] := List.eq_nil_of_length_eq_zero h0
    simp only [List.length_nil] at h2
    rw [hostAt_nil]
    clear hA hs h0
    go_enter Tryd.func11, Tryd.ntmps11
    go_wp2
    go_ret2
    exact ⟨rfl, Kept.refl _ _⟩
  · rcases hA with ⟨_, e⟩ | ⟨g, rfl, hg, hcells⟩
    · subst e; simp at h0
    have hl0 : 0 < l.length := by omega
    have SG := signed_any w n hlo hhi
    have hil : (Lib.itoa n).length ≤ 20 := by
      unfold Lib.itoa
      split
      · have := dec_lt (u := n.natAbs) (by omega)
        simp only [List.length_cons]
        omega
      · have := dec_lt (u := n.toNat) (by omega)
        omega
    have c1 := fun W => run_cat W [115, 104, 97, 114, 100, 47] (Lib.itoa n) (by simp; omega)
    change ∀ W, (Op.stringOp .add ⟨#[115, 104, 97, 114, 100, 47]⟩ (bs (Lib.itoa n))).run Tryd.prog W = .ok (.string (bs (shardText n))) W at c1
    have PT := fun W => refPoint_any W (bs (shardText n)) (by rw [bs_size]; unfold shardText; simp; omega)
    rw [bs_list] at PT
    change ∀ W, Calls Tryd.prog 23 _ W (fun e w' => e = .returned (pv (shardPt n)) ∧ Kept (fun _ => False) W w') at PT
    generalize shardPt n = z at *
    generalize bs (shardText n) = s2 at *
    generalize bs (Lib.itoa n) = s1 at *
    unfold pv at PT
    have HC : Hid (∀ i (h : i < l.length), w.cell? ⟨g, i * 3, none⟩ = some (.int .i64 (l[i]'h).1.1) ∧ w.cell? ⟨g, i * 3 + 1, none⟩ = some (.int .i64 (l[i]'h).1.2) ∧ w.cell? ⟨g, i * 3 + 2, none⟩ = some (.int .i64 (l[i]'h).2)) := hcells
    have H2 : Hid (w.cell? ⟨rb, 0, none⟩ = some (.slice (some ⟨g, 0, none⟩) l.length c)) := h2
    have hl1 : ((l.length : Int) == 0) = false := by simpa using h0
    clear hcells hlo hhi
    go_enter Tryd.func11, Tryd.ntmps11
    go_wp2_with (first
      | (go_at_call 33; refine SG.mono ?_; rintro e w1 ⟨rfl, K1⟩; clear SG)
      | (go_at_call 23; refine (PT _).mono ?_; rintro e w2 ⟨rfl, K2⟩; clear PT)
      | fail)
    have KA := (K1.and K2).and (Kept.alloc (fun _ => False) w2 (.cells #[.int .i64 z.1, .int .i64 z.2] 47))
    have HP : Hid ((w2.alloc (.cells #[.int .i64 z.1, .int .i64 z.2] 47)).cell? ⟨w2.heap.size, 0, none⟩ = some (.int .i64 z.1) ∧ (w2.alloc (.cells #[.int .i64 z.1, .int .i64 z.2] 47)).cell? ⟨w2.heap.size, 1, none⟩ = some (.int .i64 z.2)) := ⟨(PAt.new w2 _ z.1 z.2).c0, (PAt.new w2 _ z.1 z.2).c1⟩
    generalize hV : w2.alloc (.cells #[.int .i64 z.1, .int .i64 z.2] 47) = V at *
    clear hV c1 h2
    go_loopw [7] (fun i wr => ∃ (k : Nat), k ≤ l.length ∧ i = .int .i64 k ∧ (∀ j (hj : j < l.length), j < k → ahead (l[j]'hj).1 z = true) ∧ Kept (fun _ => False) V wr) (fun i _ => l.length - (intOf i).toNat)
    case atStart => exact ⟨0, Nat.zero_le _, rfl, fun j hj h => by omega, Kept.refl _ _⟩
    case round =>
      obtain ⟨k, hk, rfl, hall, K⟩ := hrel
      have KW := KA.and K
      have x0 := cellKept KW H2.out
      by_cases hlt : k < l.length
      · have e0 : (k : Int) < (l.length : Int) := by omega
        obtain ⟨y1, y2, y3⟩ := HC.out k hlt
        have y1 := cellKept KW y1
        have y2 := cellKept KW y2
        have y3 := cellKept KW y3
        have p1 := cellKept K HP.out.1
        have p2 := cellKept K HP.out.2
        obtain ⟨x, hx⟩ : ∃ x, l[k] = x := ⟨_, rfl⟩
        have HX : Hid (l[k] = x) := hx
        have HALL : Hid (∀ j (hj : j < l.length), j < k → ahead (l[j]'hj).1 z = true) := hall
        rw [hx] at y1 y2 y3
        have KD : Kept (fun _ => False) wr wr.drew := Kept.drew _ wr
        have HS : Hid (∀ V, Kept (fun _ => False) wr.drew V → Kept (fun _ => False) wr.drew V ∧ V.cell? ⟨rb, 0, none⟩ = some (.slice (some ⟨g, 0, none⟩) l.length c) ∧ V.cell? ⟨g, k * 3, none⟩ = some (.int .i64 x.1.1) ∧ V.cell? ⟨g, k * 3 + 1, none⟩ = some (.int .i64 x.1.2) ∧ V.cell? ⟨w2.heap.size, 0, none⟩ = some (.int .i64 z.1) ∧ V.cell? ⟨w2.heap.size, 1, none⟩ = some (.int .i64 z.2)) := fun V K => ⟨K, cellKept (KD.and K) x0, cellKept (KD.and K) y1, cellKept (KD.and K) y2, cellKept (KD.and K) p1, cellKept (KD.and K) p2⟩
        have BF := fun V (K : Kept (fun _ => False) wr.drew V) => (refBefore_any V x.1 z).mono (fun e w' h => (⟨h.1, K.and h.2⟩ : _ ∧ Kept (fun _ => False) wr.drew w'))
        unfold pv at BF
        have HY3 : Hid (∀ V, Kept (fun _ => False) wr.drew V → V.cell? ⟨rb, 0, none⟩ = some (.slice (some ⟨g, 0, none⟩) l.length c) ∧ V.cell? ⟨g, k * 3 + 2, none⟩ = some (.int .i64 x.2)) := fun V K => ⟨cellKept (KD.and K) x0, cellKept (KD.and K) y3⟩
        clear hall hx y3 y1 y2 p1 p2 KD
        cases hA : ahead x.1 z
        · rw [hA] at BF
          have HQ : Hid (hostAt l z = some x.2) := by
            show _ = _
            rw [← HX.out]
            exact hostAt_here hs hlt HALL.out (by rw [HX.out]; exact hA)
          clear hA
          go_wp2
          first
          | (go_region_held (fun V => Kept (fun _ => False) wr.drew V ∧ V.cell? ⟨rb, 0, none⟩ = some (.slice (some ⟨g, 0, none⟩) l.length c) ∧ V.cell? ⟨g, k * 3, none⟩ = some (.int .i64 x.1.1) ∧ V.cell? ⟨g, k * 3 + 1, none⟩ = some (.int .i64 x.1.2) ∧ V.cell? ⟨w2.heap.size, 0, none⟩ = some (.int .i64 z.1) ∧ V.cell? ⟨w2.heap.size, 1, none⟩ = some (.int .i64 z.2)) (first | exact HS.out _ (Kept.refl _ _) | exact HS.out _ (by assumption)) (first
            | (go_at_call 34; refine (BF _ (by first | assumption | exact Kept.refl _ _)).mono ?_; rintro e w4 ⟨rfl, K4⟩)
            | fail))
          | fail
          all_goals
            obtain ⟨r0, r3⟩ := HY3.out w4 K4
            go_wp2
            go_ret2
            exact ⟨by rw [HQ.out]; rfl, (KW.and (Kept.drew _ _)).and K4⟩
        · rw [hA] at BF
          have HQ : Hid (∀ j (hj : j < l.length), j < k + 1 → ahead (l[j]'hj).1 z = true) := fun j hj h => by
            rcases Nat.lt_or_ge j k with h5 | h5
            · exact HALL.out j hj h5
            · obtain rfl : j = k := by omega
              rw [HX.out]; exact hA
          clear hA
          go_wp2
          first
          | (go_region_held (fun V => Kept (fun _ => False) wr.drew V ∧ V.cell? ⟨rb, 0, none⟩ = some (.slice (some ⟨g, 0, none⟩) l.length c) ∧ V.cell? ⟨g, k * 3, none⟩ = some (.int .i64 x.1.1) ∧ V.cell? ⟨g, k * 3 + 1, none⟩ = some (.int .i64 x.1.2) ∧ V.cell? ⟨w2.heap.size, 0, none⟩ = some (.int .i64 z.1) ∧ V.cell? ⟨w2.heap.size, 1, none⟩ = some (.int .i64 z.2)) (first | exact HS.out _ (Kept.refl _ _) | exact HS.out _ (by assumption)) (first
            | (go_at_call 34; refine (BF _ (by first | assumption | exact Kept.refl _ _)).mono ?_; rintro e w4 ⟨rfl, K4⟩)
            | fail))
          | fail
          all_goals
            go_wp2
            go_roundw
            case rel => exact ⟨k + 1, by omega, by go_num, HQ.out, (K.and (Kept.drew _ _)).and K4⟩
            case measure => simp [intOf]; omega
      · have e0 : ¬ (k : Int) < (l.length : Int) := by omega
        obtain ⟨_, _, y3⟩ := HC.out 0 hl0
        have y3 := cellKept KW y3
        obtain ⟨x, hx⟩ : ∃ x, l[0] = x := ⟨_, rfl⟩
        have HQ : Hid (hostAt l z = some x.2) := by
          show _ = _
          rw [← hx]
          exact hostAt_round hl0 (fun j hj => hall j hj (by omega))
        rw [hx] at y3
        simp only [Nat.zero_mul, Nat.zero_add] at y3
        have e1 : (0 : Int) < (l.length : Int) := by omega
        clear hall hx
        go_wp2
        go_ret2
        exact ⟨by rw [HQ.out]; rfl, KW⟩

end Go.Proofs.YtjfgjmiedmpieaaDoor
