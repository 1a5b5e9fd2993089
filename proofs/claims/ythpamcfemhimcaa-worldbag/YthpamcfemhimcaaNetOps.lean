/-
  The program's net: NewNet, Len, full, has, Look, Send, Double.
-/
import Derived.Test.YthpamcfemhimcaaNet
namespace Go.Proofs.Ythpamcfemhimcaa
open Go.RowKit

/-- Is there an i-th of n? -/
def inB (n : Nat) (i : Int) : Bool := decide (0 ≤ i) && decide (i < n)

theorem inB_yes {n : Nat} {i : Int} (h : inB n i = true) : ∃ k : Nat, i = (k : Int) ∧ k < n := by
  simp only [inB, Bool.and_eq_true, decide_eq_true_eq] at h
  exact ⟨i.toNat, by omega, by omega⟩

theorem inB_no {n : Nat} {i : Int} (h : inB n i = false) : i < 0 ∨ (n : Int) ≤ i := by
  simp only [inB, Bool.and_eq_false_iff, decide_eq_false_iff_not] at h
  omega

theorem inB_k {n k : Nat} (h : k < n) : inB n (k : Int) = true := by
  simp only [inB, Bool.and_eq_true, decide_eq_true_eq]; omega

/-- What is found at a place. -/
def atX (l : List PX) (i : Int) : Option PX := if inB l.length i then l[i.toNat]? else none

def px0 : PX := (0, 0, [])

/-- A parcel of the caller's own, in blocks from B on, and whether there was one. -/
def CopyOf (B : Nat) (o : Option PX) (e : Ending) (w' : World) : Prop :=
  ∃ a c, e = .returned (.tuple #[.agg #[.int .i64 (o.getD px0).1, .int .i64 (o.getD px0).2.1, .slice a (o.getD px0).2.2.length c], .bool o.isSome]) ∧
    w'.ownsRow B 5 1 (.slice a (o.getD px0).2.2.length c) (o.getD px0).2.2.length ((o.getD px0).2.2.map (Value.int .u8)) ∧ (∀ y ∈ (o.getD px0).2.2, 0 ≤ y ∧ y ≤ 255) ∧ (o.getD px0).2.2.length ≤ 200

def Given (w : World) (o : Option PX) (e : Ending) (w' : World) : Prop := CopyOf w.heap.size o e w' ∧ Kept (fun _ => False) w w'

set_option maxRecDepth 100000 in
set_option maxHeartbeats 400000 in
theorem newNet_any (w : World) (most : Int) :
    Calls Try.prog 5 #[.int .i64 most] w fun e w' => e = .returned (.pointer (some ⟨w.heap.size, 0, none⟩)) ∧ NetW most w' (fun k => k = w.heap.size) w.heap.size (.slice none 0 0) [] ∧ Kept (fun _ => False) w w' ∧ w'.heap.size = w.heap.size + 1 := by
  go_enter Try.func5, Try.ntmps5
  go_wp2
  go_ret
  exact ⟨rfl, ⟨heap_alloc_new _ _, World.ownsRow_nil _ _ _ _, fun p hp => (by cases hp), rfl, fun k hk => (by cases hk), fun p hp => (by cases hp), fun k hk => (by simp; omega), by decide⟩, Kept.alloc _ _ _, by simp⟩

section
variable {w : World} {S : Nat → Prop} {d : Nat} {v : Value} {ps : List PV} {most : Int}

theorem NetIn.w0 (N : NetW most w S d v ps) : w.cell? ⟨d, 0, none⟩ = some v ∧ w.cell? ⟨d, 1, none⟩ = some (.int .i64 most) ∧ w.frozen? ⟨d, 0, none⟩ = false ∧ w.frozen? ⟨d, 1, none⟩ = false := two N.head

set_option maxRecDepth 100000 in
set_option maxHeartbeats 400000 in
theorem netLen_any (N : NetW most w S d v ps) :
    Calls Try.prog 23 #[.pointer (some ⟨d, 0, none⟩)] w fun e w' => e = .returned (.int .i64 ps.length) ∧ w' = w := by
  obtain ⟨h0, _⟩ := N.w0
  obtain ⟨a, c, rfl, _⟩ := N.shape
  clear N
  go_enter Try.func23, Try.ntmps23
  go_wp2
  go_ret
  exact ⟨rfl, rfl⟩

set_option maxRecDepth 100000 in
set_option maxHeartbeats 400000 in
theorem netHas_any (N : NetW most w S d v ps) (i : Int) :
    Calls Try.prog 29 #[.pointer (some ⟨d, 0, none⟩), .int .i64 i] w fun e w' => e = .returned (.bool (inB ps.length i)) ∧ w' = w := by
  obtain ⟨h0, _⟩ := N.w0
  obtain ⟨a, c, rfl, _⟩ := N.shape
  clear N
  by_cases hi : i < 0
  · have e1 : inB ps.length i = false := by simp [inB]; omega
    rw [e1]
    have hd : decide (0 ≤ i) = false := by simpa using hi
    clear e1
    go_enter Try.func29, Try.ntmps29
    go_wp2
    go_ret
    exact ⟨rfl, rfl⟩
  · have hi' : 0 ≤ i := by omega
    have e1 : inB ps.length i = decide (i < (ps.length : Int)) := by simp [inB, hi']
    rw [e1]
    clear e1
    go_enter Try.func29, Try.ntmps29
    go_wp2
    go_ret
    exact ⟨rfl, rfl⟩

set_option maxRecDepth 100000 in
set_option maxHeartbeats 400000 in
theorem netFull_any (N : NetW most w S d v ps) :
    Calls Try.prog 26 #[.pointer (some ⟨d, 0, none⟩)] w fun e w' => e = .returned (.bool (decide (most ≤ (ps.length : Int)))) ∧ ∃ n, w' = w.drewN n := by
  obtain ⟨h0, h1, _⟩ := N.w0
  obtain ⟨a, c, rfl, _⟩ := N.shape
  clear N
  go_enter Try.func26, Try.ntmps26
  go_wp2_with fail
  go_quiet (fail)
  go_wp2
  go_ret
  exact ⟨rfl, _, rfl⟩

/-- The copy of a parcel of the net. -/
theorem NetIn.copyW {T : TypeId} {hd : Value → Array Value} {w' : World} (N : NetIn T hd w S d v ps) {p : PV} (hp : p ∈ ps) (K : Kept (fun _ => False) w w') : ∃ a c, p.v = .slice a p.bs.length c ∧ BytesAt w' a p.bs.length c p.bs := by
  have h := ((N.keptN K).ok p hp)
  obtain ⟨a, c, e⟩ := ownsRow_shape h.row
  refine ⟨a, c, e, ?_⟩
  have hr := h.row
  rw [e] at hr
  exact BytesAt.ofRow hr h.byte

set_option maxRecDepth 100000 in
set_option maxHeartbeats 400000 in
theorem netLook_any (N : NetW most w S d v ps) (i : Int) :
    Calls Try.prog 21 #[.pointer (some ⟨d, 0, none⟩), .int .i64 i] w fun e w' => Given w (atX (ps.map PV.pure) i) e w' := by
  have K0 : Kept (fun _ => False) w (w.alloc (.cells #[.int .i64 0, .int .i64 0, .slice none 0 0] 29)) := Kept.alloc _ _ _
  have N0 := N.keptN K0
  have hH := netHas_any N0 i
  cases hb : inB ps.length i with
  | false =>
    have e1 : atX (ps.map PV.pure) i = none := by simp [atX, hb]
    rw [e1]
    rw [hb] at hH
    clear hb e1
    go_enter Try.func21, Try.ntmps21
    go_wp2_with (first
      | (go_at_call 29; refine hH.mono ?_; rintro e w1 ⟨rfl, rfl⟩; clear hH)
      | fail)
    refine bodyPost_ret (v := .tuple #[.agg #[.int .i64 0, .int .i64 0, .slice none 0 0], .bool false]) (by simp [results, Try.results21, go_sem]) rfl ?_
    exact ⟨⟨none, 0, rfl, World.ownsRow_nil _ _ _ _, fun y hy => (by cases hy), Nat.zero_le _⟩, K0⟩
  | true =>
    obtain ⟨k, rfl, hk⟩ := inB_yes hb
    have hp : ps[k]? = some ps[k] := List.getElem?_eq_getElem hk
    have e1 : atX (ps.map PV.pure) (k : Int) = some ps[k].pure := by simp [atX, hb, hk]
    rw [e1]
    rw [hb] at hH
    obtain ⟨g, cap, rfl, hcap, c0, c1, c2⟩ := N0.at hp
    obtain ⟨a, c, ev, B⟩ := N.copyW (List.getElem_mem hk) K0
    have okp := N.ok _ (List.getElem_mem hk)
    have hC := copiedW_any _ ps[k].fr ps[k].to a _ c _ B (by have := okp.short; omega)
    obtain ⟨h0, _⟩ := N0.w0
    rw [ev] at c2
    have HO : Hid (PvOk w ps[k]) := okp
    have hsz : ((w.alloc (.cells #[.int .i64 0, .int .i64 0, .slice none 0 0] 29))).heap.size = w.heap.size + 1 := by simp
    have hk2 := fun (w1 : World) (K1 : Kept (fun _ => False) _ w1) => three ((K1.block _ (by rw [hsz]; omega) (fun h => h)).trans (heap_alloc_new w (.cells #[.int .i64 0, .int .i64 0, .slice none 0 0] 29)))
    have HK2 : Hid _ := hk2
    have e2 : (k : Int) < (ps.length : Int) := by omega
    clear hb e1 N N0 B ev hp okp hk2
    generalize ps[k] = p at *
    go_enter Try.func21, Try.ntmps21
    go_wp2_with (first
      | (go_at_call 29; refine hH.mono ?_; rintro e w1 ⟨rfl, rfl⟩; clear hH)
      | (go_at_call 27; refine hC.mono ?_; rintro e w1 ⟨a1, c1, rfl, ho1, K1⟩; clear hC; obtain ⟨r0, r1, r2, g0, g1, g2⟩ := HK2.out w1 K1; clear HK2)
      | fail)
    refine bodyPost_ret (v := .tuple #[.agg #[.int .i64 p.fr, .int .i64 p.to, .slice a1 p.bs.length c1], .bool true]) (by simp [results, Try.results21, go_sem, r0, r1, r2]) rfl ?_
    have low := fun k hk => (ho1.lt k hk).1
    rw [hsz] at low
    refine ⟨⟨a1, c1, rfl, ?_, HO.out.byte, HO.out.short⟩, ?_⟩
    · have hb : ∀ k, (Value.slice a1 p.bs.length c1).ownBlock = some k → k ≠ w.heap.size := fun k hk => by have := low k hk; omega
      have h2 := ownsRow_blk ho1 (w' := _) (fun k hk => Below.heap_setCell _ ⟨w.heap.size, 0, none⟩ (.int .i64 p.fr) _ (hb k hk))
      have h3 := ownsRow_blk h2 (w' := _) (fun k hk => Below.heap_setCell _ ⟨w.heap.size, 1, none⟩ (.int .i64 p.to) _ (hb k hk))
      have h4 := ownsRow_blk h3 (w' := _) (fun k hk => Below.heap_setCell _ ⟨w.heap.size, 2, none⟩ (.slice a1 p.bs.length c1) _ (hb k hk))
      exact ⟨h4.1, h4.2.imp id (fun ⟨g, cap, cur, e, hg, r⟩ => ⟨g, cap, cur, e, by rw [hsz] at hg; omega, r⟩)⟩
    · refine Kept.fresh ?_
      have K01 : Kept (fun k => w.heap.size ≤ k) w w1 := (K0.and K1).mono (fun _ h => h.elim)
      exact (((K01.and (Kept.setCell _ _ _ (Nat.le_refl _))).and (Kept.setCell _ _ _ (Nat.le_refl _)))).and (Kept.setCell _ _ _ (Nat.le_refl _))

/-- A row behind which one parcel is put. -/
theorem NetIn.push {T : TypeId} {hd : Value → Array Value} (N : NetIn T hd w S d v ps) {w1 w2 : World} {v' : Value} {q : PV} (hT : T ≠ 29) (hT8 : T ≠ 5) (K : Kept (fun k => v.ownBlock = some k) w w1)
    (row : w1.ownsRow 0 29 3 v' (ps.length + 1) (netCells ps ++ pvCells q)) (hb : v'.ownBlock = v.ownBlock ∨ ∃ k, v'.ownBlock = some k ∧ w.heap.size ≤ k)
    (ok : PvOk w1 q) (hq : ∀ k, q.v.ownBlock = some k → S k ∨ w.heap.size ≤ k) (K2 : Kept (fun k => k = d) w1 w2) (head : w2.heap[d]? = some (.cells (hd v') T (0, 0))) (hl : ps.length < 1000) :
    NetTo T hd w S d (ps.map PV.pure ++ [q.pure]) w2 := by
  have hv : ∀ k, v'.ownBlock = some k → S k ∨ w.heap.size ≤ k := by
    intro k hk
    rcases hb with e | ⟨k2, e, hk2⟩
    · exact .inl (N.sr k (e ▸ hk))
    · rw [e] at hk; cases hk; exact .inr hk2
  have nd : ∀ k, v'.ownBlock = some k → k ≠ d := by
    intro k hk e
    rcases hb with e' | ⟨k2, e', hk2⟩
    · exact N.neR hT (e' ▸ hk) e
    · rw [e'] at hk; cases hk; have := N.bnd d N.sd; omega
  refine ⟨fun k => S k ∨ (w.heap.size ≤ k ∧ k < w2.heap.size), v', ps ++ [q], ?_, by simp, ?_, fun k hk => hk.imp id And.left⟩
  · refine ⟨head, ?_, ?_, .inl N.sd, fun k hk => (hv k hk).imp id (fun h => ⟨h, Nat.lt_of_lt_of_le (row.lt k hk).2 K2.size⟩), ?_, ?_, by simp; omega⟩
    · rw [List.length_append, netCells_append]
      have e : netCells [q] = pvCells q := by simp [netCells]
      rw [e]
      exact ownsRow_blk row (fun k hk => K2.block k (row.lt k hk).2 (nd k hk))
    · intro p hp
      rcases List.mem_append.1 hp with hp | hp
      · exact ((N.ok p hp).kept K (fun k hk e => N.neRP hp hk e)).kept K2 (fun k hk => N.neP hT8 hp hk)
      · obtain rfl : p = q := by simpa using hp
        refine ok.kept K2 (fun k hk e => ?_)
        subst e
        rcases hq k hk with h | h
        · obtain ⟨cur, hh⟩ := ownsRow_typ ok.row hk
          have := (K.block k (N.bnd k N.sd) (fun e => N.neR hT e rfl)).trans N.head
          rw [this] at hh
          simp at hh
          exact hT8 hh.2
        · have := N.bnd k N.sd; omega
    · intro p hp k hk
      rcases List.mem_append.1 hp with hp | hp
      · exact .inl (N.sp p hp k hk)
      · obtain rfl : p = q := by simpa using hp
        exact (hq k hk).imp id (fun h => ⟨h, Nat.lt_of_lt_of_le (ok.row.lt k hk).2 K2.size⟩)
    · intro k hk
      rcases hk with h | h
      · exact Nat.lt_of_lt_of_le (N.bnd k h) (Nat.le_trans K.size K2.size)
      · exact h.2
  · exact (K.mono (fun k hk => N.sr k hk)).and (K2.mono (fun k hk => hk ▸ N.sd))

end

end Go.Proofs.Ythpamcfemhimcaa
