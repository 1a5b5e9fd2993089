/-
  Host: whose a shard is.
-/
import Derived.Test.YtjfgjmiedmpieaaDoorRNew
namespace Go.Proofs.YtjfgjmiedmpieaaDoor
open Go.RowKit Go.Sort

theorem noLater_refl (x : Sp) : noLater x x := by rw [noLater_iff]; omega

/-- How many spots are ahead of p: those at the front, and no others. -/
theorem ahead_front (p : Pt) : ∀ (l : List Sp), l.Pairwise noLater → ∀ i (h : i < l.length), ahead (l[i]'h).1 p = decide (i < l.countP (fun x => ahead x.1 p)) := by
  intro l
  induction l with
  | nil => intro _ i h; simp at h
  | cons x r ih =>
    intro hs i h
    rw [List.pairwise_cons] at hs
    cases hx : ahead x.1 p
    · have h0 : ∀ y ∈ x :: r, ahead y.1 p = false := by
        intro y hy
        rcases List.mem_cons.1 hy with rfl | hy
        · exact hx
        · cases hya : ahead y.1 p
          · rfl
          · have := ahead_mono (hs.1 y hy) hya
            rw [hx] at this; cases this
      have hc : (x :: r).countP (fun x => ahead x.1 p) = 0 := List.countP_eq_zero.2 (fun y hy => by rw [h0 y hy]; simp)
      rw [hc, h0 _ (List.getElem_mem h)]
      simp
    · rw [List.countP_cons_of_pos (by simpa using hx)]
      cases i with
      | zero => simp [hx]
      | succ i =>
        have := ih hs.2 i (by simpa using h)
        simp only [List.getElem_cons_succ, this]
        simp

theorem isNext_at (p : Pt) (l : List Sp) (hs : l.Pairwise noLater) (h0 : 0 < l.length) (hlt : l.countP (fun x => ahead x.1 p) % l.length < l.length) :
    IsNext l p (l[l.countP (fun x => ahead x.1 p) % l.length]'hlt) := by
  have hf := ahead_front p l hs
  have hle : l.countP (fun x => ahead x.1 p) ≤ l.length := List.countP_le_length
  generalize l.countP (fun x => ahead x.1 p) = f at *
  rw [List.pairwise_iff_getElem] at hs
  refine ⟨List.getElem_mem hlt, ?_⟩
  by_cases h : f < l.length
  · have e : f % l.length = f := Nat.mod_eq_of_lt h
    simp only [e]
    refine .inl ⟨by rw [hf f h]; simp, fun y hy hya => ?_⟩
    obtain ⟨j, hj, rfl⟩ := List.getElem_of_mem hy
    rw [hf j hj] at hya
    have hj2 : f ≤ j := by simpa using hya
    rcases Nat.lt_or_ge f j with h2 | h2
    · exact hs f j h hj h2
    · obtain rfl : f = j := by omega
      exact noLater_refl _
  · obtain rfl : f = l.length := by omega
    simp only [Nat.mod_self]
    refine .inr ⟨fun y hy => ?_, fun y hy => ?_⟩
    · obtain ⟨j, hj, rfl⟩ := List.getElem_of_mem hy
      rw [hf j hj]; simpa using hj
    · obtain ⟨j, hj, rfl⟩ := List.getElem_of_mem hy
      rcases Nat.eq_zero_or_pos j with rfl | h2
      · exact noLater_refl _
      · exact hs 0 j h0 hj h2

set_option maxRecDepth 100000 in
set_option maxHeartbeats 1000000 in
theorem closure_any (w : World) (pb ab rb g n c i : Nat) (p q : Pt) (hp : InSq p) (hq : InSq q) (hi : i < n)
    (h1 : w.cell? ⟨pb, 0, none⟩ = some (.pointer (some ⟨rb, 0, none⟩))) (h2 : w.cell? ⟨rb, 0, none⟩ = some (.slice (some ⟨g, 0, none⟩) n c))
    (h3 : w.cell? ⟨g, i * 2, none⟩ = some (cx q)) (h4 : w.cell? ⟨ab, 0, none⟩ = some (cx p)) :
    Calls Tryd.prog 31 #[.int .i64 i, .pointer (some ⟨pb, 0, none⟩), .pointer (some ⟨ab, 0, none⟩)] w fun e w' => e = .returned (.bool (!ahead q p)) ∧ ∃ m, w' = w.drewN m := by
  have b1 := fun W => before_any W q p hq hp
  unfold cx at b1 h3 h4
  generalize fl q.1 = q1 at *
  generalize fl q.2 = q2 at *
  generalize fl p.1 = p1 at *
  generalize fl p.2 = p2 at *
  generalize ahead q p = r at *
  have e0 : (i : Int) < (n : Int) := by omega
  have e1 : (0 : Int) ≤ (i : Int) := by omega
  clear hp hq
  go_enter Tryd.func31, Tryd.ntmps31
  go_wp2
  go_quiet ((go_at_call 32; exact Calls.quiet_of_same (b1 _)))
  go_wp2
  go_ret
  exact ⟨rfl, _, rfl⟩

def shardText (s : Int) : List UInt8 := [115, 104, 97, 114, 100, 47] ++ Lib.itoa s
def shardPt (s : Int) : Pt := point (shardText s)

/-- What Host answers. -/
def HostPost (w : World) (l : List Sp) (p : Pt) (e : Ending) (w' : World) : Prop :=
  Kept (fun _ => False) w w' ∧ ((l = [] ∧ e = .returned (.tuple #[.int .i64 0, .bool false])) ∨ ∃ x, IsNext l p x ∧ e = .returned (.tuple #[.int .i64 x.2, .bool true]))

theorem cellKept {w w' : World} {a : Addr} {v : Value} (K : Kept (fun _ => False) w w') (h : w.cell? a = some v) : w'.cell? a = some v :=
  (World.cell?_of_block (K.block _ (World.block_lt_of_cell? w _ h) (fun h => h))).trans h

theorem kept_grow (w : World) (q : Nat) (os : Array Obj) : Kept (fun _ => False) w (grow (w.drewN q) os) :=
  ⟨rfl, rfl, rfl, by simp [grow], fun i hi _ => by
    show ((w.drewN q).heap ++ os)[i]? = _
    rw [Array.getElem?_append_left (by show i < w.heap.size; omega)]
    rfl⟩

set_option maxRecDepth 100000 in
set_option maxHeartbeats 1000000 in
theorem search_any (w : World) (pb ab rb g n c : Nat) (l : List Sp) (p : Pt) (hl : l.length = n) (hn : n < 4611686018427387904) (hp : InSq p) (hsq : ∀ x ∈ l, InSq x.1) (hs : l.Pairwise noLater)
    (h1 : w.cell? ⟨pb, 0, none⟩ = some (.pointer (some ⟨rb, 0, none⟩))) (h2 : w.cell? ⟨rb, 0, none⟩ = some (.slice (some ⟨g, 0, none⟩) n c))
    (h3 : ∀ i (h : i < l.length), w.cell? ⟨g, i * 2, none⟩ = some (cx (l[i]'h).1)) (h4 : w.cell? ⟨ab, 0, none⟩ = some (cx p)) :
    Calls Tryd.prog 30 #[.int .i64 n, .func (.func 31) #[] #[.pointer (some ⟨pb, 0, none⟩), .pointer (some ⟨ab, 0, none⟩)]] w fun e w' => e = .returned (.int .i64 ((l.countP (fun x => ahead x.1 p) : Nat) : Int)) ∧ Kept (fun _ => False) w w' := by
  subst hl
  have eg : ∀ args w, (callFunc 31 args).run Tryd.prog w = .ok (.enter 31 args) w := enters_of Tryd.func31 (by kernel_rfl) rfl
  have hcon := Any.sort_Search Tryd.searchL 31 #[.pointer (some ⟨pb, 0, none⟩), .pointer (some ⟨ab, 0, none⟩)] l.length (fun i => !ahead (l.toArray[i]!).1 p) w eg hn
    (fun m os i hi => by
      have K := kept_grow w m os
      have hg : l.toArray[i]! = l[i]'hi := by rw [getElem!_pos l.toArray i (by simpa using hi)]; simp
      rw [hg]
      refine (closure_any (grow (w.drewN m) os) pb ab rb g l.length c i p _ hp (hsq _ (List.getElem_mem hi)) hi (cellKept K h1) (cellKept K h2) (cellKept K (h3 i hi)) (cellKept K h4)).mono ?_
      rintro e w1 ⟨rfl, q, rfl⟩
      exact ⟨rfl, q, #[], by simp⟩)
    (fun a b hab hb => by
      have ha : a < l.length := by omega
      have ea : l.toArray[a]! = l[a]'ha := by rw [getElem!_pos l.toArray a (by simpa using ha)]; simp
      have eb : l.toArray[b]! = l[b]'hb := by rw [getElem!_pos l.toArray b (by simpa using hb)]; simp
      rw [ea, eb, ahead_front p l hs a ha, ahead_front p l hs b hb]
      simp
      omega)
  refine hcon.mono ?_
  rintro e w1 ⟨rfl, q, os, rfl⟩
  refine ⟨?_, kept_grow w q os⟩
  have := Lib.countP_range l.toArray (fun x => ahead x.1 p)
  simp only [Bool.not_not]
  rw [List.size_toArray] at this
  rw [this]

set_option maxRecDepth 100000 in
set_option maxHeartbeats 1000000 in
theorem host_any (w : World) (rb : Nat) (l : List Sp) (R : RingAt w rb l) (hs : l.Pairwise noLater) (s : Int) (hsl : (Lib.itoa s).length ≤ 100)
    (hI : ∀ W, Kept (fun _ => False) w W → Calls Tryd.prog 29 #[.int .i64 s] W fun e w' => e = .returned (.string (bs (Lib.itoa s))) ∧ Kept (fun _ => False) W w') :
    Calls Tryd.prog 10 #[.pointer (some ⟨rb, 0, none⟩), .int .i64 s] w fun e w' => HostPost w l (shardPt s) e w' := by
  obtain ⟨⟨a, c, h2, hA, _⟩, hsq, hfew⟩ := R
  have hrb := World.block_lt_of_cell? w _ h2
  by_cases h0 : l.length = 0
  · obtain rfl : l = [] := List.eq_nil_of_length_eq_zero h0
    simp only [List.length_nil] at h2
    have h2' := cellKept (Kept.alloc _ w (.cells #[.pointer (some ⟨rb, 0, none⟩)] 25)) h2
    clear hI
    go_enter Tryd.func10, Tryd.ntmps10
    go_wp2
    go_ret2
    exact ⟨Kept.alloc _ _ _, .inl ⟨rfl, rfl⟩⟩
  · rcases hA with ⟨_, e⟩ | ⟨g, rfl, hg, hcells⟩
    · subst e; simp at h0
    have KA := Kept.alloc (fun _ => False) w (.cells #[.pointer (some ⟨rb, 0, none⟩)] 25)
    have y0 : (w.alloc (.cells #[.pointer (some ⟨rb, 0, none⟩)] 25)).cell? ⟨w.heap.size, 0, none⟩ = some (.pointer (some ⟨rb, 0, none⟩)) := cell_new_sl w _ _
    have y1 := cellKept KA h2
    have HI := hI _ KA
    have c1 := fun W => run_cat W [115, 104, 97, 114, 100, 47] (Lib.itoa s) (by simp; omega)
    change ∀ W, (Op.stringOp .add ⟨#[115, 104, 97, 114, 100, 47]⟩ (bs (Lib.itoa s))).run Tryd.prog W = .ok (.string (bs (shardText s))) W at c1
    have PT := fun W => point_any W (bs (shardText s)) (by rw [bs_size]; unfold shardText; simp; omega)
    rw [bs_list] at PT
    change ∀ W, Calls Tryd.prog 25 _ W (fun e w' => e = .returned (cx (shardPt s)) ∧ w' = W) at PT
    have hps : InSq (shardPt s) := point_in _
    generalize shardPt s = p at *
    generalize bs (shardText s) = s2 at *
    generalize bs (Lib.itoa s) = s1 at *
    have HC : Hid (∀ i (h : i < l.length), w.cell? ⟨g, i * 2, none⟩ = some (cx (l[i]'h).1) ∧ w.cell? ⟨g, i * 2 + 1, none⟩ = some (.int .i64 (l[i]'h).2)) := hcells
    have HF : Hid (l.length ≤ 1048576) := hfew
    have hl0 : (l.length == 0) = false := by simpa using h0
    have hl1 : ((l.length : Int) == 0) = false := by simpa using h0
    have HD : Hid (cx p = .complex .f64 (fl p.1) (fl p.2)) := by show _ = _; rfl
    unfold cx at PT
    have hst := fun (W : World) (a : Addr) (x y : Nat) (m : Mode) => run_store Tryd.prog W a (.complex .f64 x y) m rfl
    clear hI hcells hfew hsl
    go_enter Tryd.func10, Tryd.ntmps10
    go_wp2_with (first
      | (go_at_call 29; refine HI.mono ?_; rintro e w1 ⟨rfl, K1⟩; have z0 := cellKept K1 y0; have z1 := cellKept K1 y1; clear y0 y1 HI h2)
      | (go_at_call 25; refine (PT _).mono ?_; rintro e w2 ⟨rfl, hw2⟩; subst w2; clear PT; have KB := Kept.alloc (fun _ => False) w1 (.cells #[.complex .f64 (fl p.1) (fl p.2)] 45); have v0 := cellKept KB z0; have v1 := cellKept KB z1; have v2 : (w1.alloc (.cells #[.complex .f64 (fl p.1) (fl p.2)] 45)).cell? ⟨w1.heap.size, 0, none⟩ = some (.complex .f64 (fl p.1) (fl p.2)) := cell_new_sl w1 _ _; have SE := search_any (w1.alloc (.cells #[.complex .f64 (fl p.1) (fl p.2)] 45)) w.heap.size w1.heap.size rb g l.length c l p rfl (by have := HF.out; omega) hps hsq hs v0 v1 (fun i h => cellKept KB (cellKept K1 (cellKept KA (HC.out i h).1))) v2)
      | (go_at_call 30; refine SE.mono ?_; rintro e w3 ⟨rfl, K3⟩; have u0 := cellKept K3 v0; have u1 := cellKept K3 v1; clear SE v0 v1 v2 z0 z1)
      | fail)
    have hpos : 0 < l.length := by omega
    have hjl : l.countP (fun x => ahead x.1 p) % l.length < l.length := Nat.mod_lt _ hpos
    have HX : Hid (IsNext l p (l[l.countP (fun x => ahead x.1 p) % l.length]'hjl)) := isNext_at p l hs hpos hjl
    have hx : w3.cell? ⟨g, l.countP (fun x => ahead x.1 p) % l.length * 2 + 1, none⟩ = some (.int .i64 (l[l.countP (fun x => ahead x.1 p) % l.length]'hjl).2) := cellKept K3 (cellKept KB (cellKept K1 (cellKept KA (HC.out _ hjl).2)))
    have hrem : ((l.countP (fun x => ahead x.1 p) : Nat) : Int).tmod (l.length : Int) = ((l.countP (fun x => ahead x.1 p) % l.length : Nat) : Int) := by
      rw [Int.tmod_eq_emod_of_nonneg (by omega), Int.natCast_emod]
    generalize l[l.countP (fun x => ahead x.1 p) % l.length]'hjl = x at *
    generalize l.countP (fun x => ahead x.1 p) % l.length = j at *
    generalize l.countP (fun x => ahead x.1 p) = f at *
    have e0 : (j : Int) < (l.length : Int) := by omega
    have e1 : (0 : Int) ≤ (j : Int) := by omega
    clear hst c1 hl0
    go_quiet (fail)
    go_wp2
    go_ret2
    exact ⟨((((KA.and K1).and KB).and K3).and (Kept.drewN _ _ _)), .inr ⟨x, HX.out, rfl⟩⟩

end Go.Proofs.YtjfgjmiedmpieaaDoor
