/-
  New: the ring of hosts, or what is wrong.
-/
import Derived.Test.YtjfgjmiedmpieaaDoorRSort
namespace Go.Proofs.YtjfgjmiedmpieaaDoor
open Go.RowKit Go.Sort

set_option maxRecDepth 100000 in
set_option maxHeartbeats 400000 in
theorem there_any (w : World) (z : Int) :
    Calls Tryd.prog 17 #[.int .i64 z] w fun e w' => e = .returned (.bool (decide (0 ≤ z) && decide (z < 16))) ∧ w' = w := by
  by_cases h1 : 0 ≤ z
  · simp only [h1, decide_true, Bool.true_and]
    go_enter Tryd.func17, Tryd.ntmps17
    go_wp2
    go_ret
    exact ⟨rfl, rfl⟩
  · simp only [h1, decide_false, Bool.false_and]
    go_enter Tryd.func17, Tryd.ntmps17
    go_wp2
    go_ret
    exact ⟨rfl, rfl⟩

/-- Numbers that are handed in: they lie where a says. -/
structure IntsAt (w : World) (a : Option Addr) (m c : Nat) (zs : List Int) : Prop where
  len : zs.length = m
  cap : m ≤ c
  nil : a = none → m = 0
  cells : ∀ ad, a = some ad → ∀ j (h : j < zs.length), w.cell? (ad.add j) = some (.int .i64 (zs[j]'h))

theorem IntsAt.kept {S : Nat → Prop} {w w' : World} {a : Option Addr} {m c : Nat} {zs : List Int} (B : IntsAt w a m c zs) (K : Kept S w w') (hs : zs ≠ [] → ∀ ad, a = some ad → ¬ S ad.block) : IntsAt w' a m c zs :=
  ⟨B.len, B.cap, B.nil, fun ad h j hj => by
    have hc := B.cells ad h j hj
    rw [World.cell?_of_block (w := w) (K.block _ (World.block_lt_of_cell? w _ hc) (by rw [block_add]; exact hs (fun e => by subst e; simp at hj) ad h))]
    exact hc⟩

theorem IntsAt.at {w : World} {a : Option Addr} {m c : Nat} {zs : List Int} (B : IntsAt w a m c zs) {j : Nat} (hj : j < zs.length) : ∃ ba oa, a = some ⟨ba, oa, none⟩ ∧ ∀ j (h : j < zs.length), w.cell? ⟨ba, oa + j, none⟩ = some (.int .i64 (zs[j]'h)) := by
  have hlen := B.len
  cases a with
  | none => have := B.nil rfl; omega
  | some ad =>
    obtain ⟨ba, oa, rfl⟩ := addr_form (B.cells ad rfl 0 (by omega))
    exact ⟨ba, oa, rfl, fun j hj => by have := B.cells _ rfl j hj; rw [Addr.add_lit] at this; exact this⟩

theorem IntsAt.lt {w : World} {a : Option Addr} {m c : Nat} {zs : List Int} (B : IntsAt w a m c zs) {ad : Addr} (h : a = some ad) (hb : zs ≠ []) : ad.block < w.heap.size := by
  cases zs with
  | nil => exact absurd rfl hb
  | cons x r =>
    have := World.block_lt_of_cell? w _ (B.cells ad h 0 (by simp))
    rw [block_add] at this
    exact this

theorem IntsAt.take {w : World} {a : Option Addr} {m c : Nat} {zs : List Int} (B : IntsAt w a m c zs) {h : Nat} (hh : h ≤ m) : IntsAt w a h c (zs.take h) :=
  ⟨by rw [List.length_take, B.len]; omega, Nat.le_trans hh B.cap, fun e => by have := B.nil e; omega, fun ad e j hj => by
    rw [List.getElem_take]
    exact B.cells ad e j _⟩

/-- Sixteen marks in block tb. -/
def MarksAt (w : World) (tb : Nat) (f : Nat → Bool) : Prop := ∀ j, j < 16 → w.cell? ⟨tb, j, none⟩ = some (.bool (f j)) ∧ w.frozen? ⟨tb, j, none⟩ = false

theorem MarksAt.kept {w w' : World} {S : Nat → Prop} {tb : Nat} {f : Nat → Bool} (C : MarksAt w tb f) (K : Kept S w w') (h : ¬ S tb) : MarksAt w' tb f := fun j hj => by
  obtain ⟨c, z⟩ := C j hj
  have hb := K.block tb (World.block_lt_of_cell? w _ c) h
  exact ⟨(World.cell?_of_block hb).trans c, (World.frozen?_of_block hb).trans z⟩

theorem MarksAt.set {w : World} {tb : Nat} {f : Nat → Bool} (C : MarksAt w tb f) {b : Nat} : MarksAt (w.setCell ⟨tb, b, none⟩ (.bool true)) tb (fun j => f j || decide (j = b)) := fun j hj => by
  obtain ⟨c, z⟩ := C j hj
  refine ⟨?_, by rw [World.frozen?_setCell]; exact z⟩
  by_cases e : j = b
  · subst e
    rw [World.cell?_setCell_same' w ⟨tb, j, none⟩ _ (by rw [c]; rfl)]
    simp
  · rw [World.cell?_setCell_other _ _ _ _ (fun h => e (by cases h; rfl)), c]
    simp [e]

theorem marksNew (w : World) (T : TypeId) : MarksAt (w.alloc (.cells #[.bool false, .bool false, .bool false, .bool false, .bool false, .bool false, .bool false, .bool false, .bool false, .bool false, .bool false, .bool false, .bool false, .bool false, .bool false, .bool false] T)) w.heap.size (fun _ => false) := by
  intro j hj
  have h := heap_alloc_new w (.cells #[.bool false, .bool false, .bool false, .bool false, .bool false, .bool false, .bool false, .bool false, .bool false, .bool false, .bool false, .bool false, .bool false, .bool false, .bool false, .bool false] T)
  constructor
  · unfold World.cell?
    rw [h]
    match j, hj with
    | 0, _ | 1, _ | 2, _ | 3, _ | 4, _ | 5, _ | 6, _ | 7, _ | 8, _ | 9, _ | 10, _ | 11, _ | 12, _ | 13, _ | 14, _ | 15, _ => rfl
    | j + 16, h => omega
  · unfold World.frozen?
    rw [h]
    rfl

/-- The hosts are right: each there, none twice. -/
def Right (zs : List Int) : Prop := (∀ z ∈ zs, 0 ≤ z ∧ z < 16) ∧ zs.Nodup
/-- All hosts' spots, as they are given. -/
def allSpots (zs : List Int) (n : Nat) : List Sp := zs.flatMap fun z => spotsL z.toNat n

theorem allSpots_in (zs : List Int) (n : Nat) : ∀ x ∈ allSpots zs n, InSq x.1 := by
  intro x hx
  obtain ⟨z, _, hz⟩ := List.mem_flatMap.1 hx
  obtain ⟨k, _, rfl⟩ := List.mem_map.1 hz
  exact point_in _

theorem allSpots_len (zs : List Int) (n : Nat) : (allSpots zs n).length = zs.length * n := by
  induction zs with
  | nil => simp [allSpots]
  | cons z r ih =>
    have : (allSpots (z :: r) n).length = (spotsL z.toNat n ++ allSpots r n).length := rfl
    rw [this, List.length_append, ih]
    simp [spotsL, Nat.add_mul]
    omega

theorem allSpots_next (zs : List Int) (k n : Nat) (hk : k < zs.length) : allSpots (zs.take (k + 1)) n = allSpots (zs.take k) n ++ spotsL (zs[k]).toNat n := by
  unfold allSpots
  rw [List.take_add_one, List.getElem?_eq_getElem hk, List.flatMap_append]
  simp only [Option.toList_some, List.flatMap_cons, List.flatMap_nil, List.append_nil]

/-- A ring in memory: a block with a slice of spots. -/
structure RingAt (w : World) (rb : Nat) (l : List Sp) : Prop where
  ok : ∃ a c, w.cell? ⟨rb, 0, none⟩ = some (.slice a l.length c) ∧ SpotsAt w a l ∧ (∀ g, a = some ⟨g, 0, none⟩ → g ≠ rb)
  sq : ∀ x ∈ l, InSq x.1
  few : l.length ≤ 1048576

theorem Right.len {zs : List Int} (h : Right zs) : zs.length ≤ 16 := by
  have hs : zs.toArray.toList.length ≤ 16 := by
    have : ∀ (n : Nat) (l : List Int), (∀ z ∈ l, 0 ≤ z ∧ z < n) → l.Nodup → l.length ≤ n := by
      intro n
      induction n with
      | zero =>
        intro l hl _
        cases l with
        | nil => simp
        | cons x r => have := hl x (List.mem_cons_self ..); omega
      | succ n ih =>
        intro l hl hn
        have h2 := ih (l.filter (fun z => decide (z ≠ (n : Int)))) (fun z hz => by
          rw [List.mem_filter] at hz
          have h3 := hl z hz.1
          have h4 : z ≠ (n : Int) := by simpa using hz.2
          omega) (hn.filter _)
        have h5 : l.length ≤ (l.filter (fun z => decide (z ≠ (n : Int)))).length + 1 := by
          clear h2 ih
          have hc := List.nodup_iff_count.1 hn (n : Int)
          have h6 : l.length = (l.filter (fun z => decide (z ≠ (n : Int)))).length + l.count (n : Int) := by
            clear hc hn hl
            induction l with
            | nil => rfl
            | cons x r ih2 =>
              rw [List.length_cons, ih2, List.filter_cons, List.count_cons]
              by_cases hx : x = (n : Int)
              · subst hx; simp; omega
              · have : (x == (n : Int)) = false := by simpa using hx
                simp [hx]; omega
          omega
        omega
    exact this 16 zs (fun z hz => h.1 z hz) h.2
  simpa using hs

theorem rowKept {S : Nat → Prop} {w w' : World} {base n size : Nat} {e : TypeId} {v : Value} {xs : List Value} (h : w.ownsRow base e size v n xs) (K : Kept S w w') (hs : ∀ k, v.ownBlock = some k → ¬ S k) : w'.ownsRow base e size v n xs := by
  refine ⟨h.1, ?_⟩
  rcases h.2 with h0 | ⟨g, cap, cur, rfl, hb, hh, r⟩
  · exact .inl h0
  · refine .inr ⟨g, cap, cur, rfl, hb, ?_, r⟩
    have hg : g < w.heap.size := by
      rcases Nat.lt_or_ge g w.heap.size with h' | h'
      · exact h'
      · rw [Array.getElem?_eq_none h'] at hh; cases hh
    rw [K.block g hg (hs g rfl)]
    exact hh

theorem RingAt.kept {w w' : World} {rb : Nat} {l : List Sp} (R : RingAt w rb l) (K : Kept (fun _ => False) w w') : RingAt w' rb l := by
  obtain ⟨a, c, h1, h2, h3⟩ := R.ok
  exact ⟨⟨a, c, (World.cell?_of_block (K.block rb (World.block_lt_of_cell? w _ h1) (fun h => h))).trans h1, h2.kept K (fun _ _ h => h), h3⟩, R.sq, R.few⟩

/-- What New answers. -/
def NewPost (w : World) (zs : List Int) (p : Int) (e : Ending) (w' : World) : Prop :=
  Kept (fun _ => False) w w' ∧
  ((¬ (Right zs ∧ 1 ≤ p ∧ p ≤ 64) ∧ e = .returned (.tuple #[.pointer none, .int .i64 1])) ∨
   (Right zs ∧ 1 ≤ p ∧ p ≤ 64) ∧ ∃ rb l, e = .returned (.tuple #[.pointer (some ⟨rb, 0, none⟩), .int .i64 0]) ∧ l.Perm (allSpots zs p.toNat) ∧ l.Pairwise noLater ∧ RingAt w' rb l)

theorem newWrong {w w' : World} {zs : List Int} {p : Int} (h : ¬ (Right zs ∧ 1 ≤ p ∧ p ≤ 64)) (K : Kept (fun k => w.heap.size ≤ k) w w') : NewPost w zs p (.returned (.tuple #[.pointer none, .int .i64 1])) w' :=
  ⟨(Kept.refl (fun _ => False) w).trans K (fun _ h => .inr h), .inl ⟨h, rfl⟩⟩

theorem Right.of_take {zs : List Int} {k : Nat} (h : Right (zs.take (k + 1))) (hk : k < zs.length) : (0 ≤ zs[k] ∧ zs[k] < 16) ∧ zs[k] ∉ zs.take k := by
  have e : zs.take (k + 1) = zs.take k ++ [zs[k]] := by rw [List.take_add_one, List.getElem?_eq_getElem hk]; rfl
  rw [e] at h
  refine ⟨h.1 _ (List.mem_append_right _ (List.mem_singleton.2 rfl)), fun hm => ?_⟩
  have := (List.nodup_append.1 h.2).2.2 _ hm _ (List.mem_singleton.2 rfl)
  exact this rfl

theorem Right.next {zs : List Int} {k : Nat} (h : Right (zs.take k)) (hk : k < zs.length) (h1 : 0 ≤ zs[k] ∧ zs[k] < 16) (h2 : zs[k] ∉ zs.take k) : Right (zs.take (k + 1)) := by
  have e : zs.take (k + 1) = zs.take k ++ [zs[k]] := by rw [List.take_add_one, List.getElem?_eq_getElem hk]; rfl
  rw [e]
  refine ⟨fun z hz => ?_, ?_⟩
  · rcases List.mem_append.1 hz with hz | hz
    · exact h.1 z hz
    · rw [List.mem_singleton.1 hz]; exact h1
  · rw [List.nodup_append]
    exact ⟨h.2, by simp, fun a ha b hb => by rw [List.mem_singleton.1 hb]; intro e; subst e; exact h2 ha⟩

theorem Right.take {zs : List Int} (h : Right zs) (k : Nat) : Right (zs.take k) :=
  ⟨fun z hz => h.1 z (List.mem_of_mem_take hz), h.2.sublist (List.take_sublist k zs)⟩

theorem marks_next {zs : List Int} {k : Nat} (hk : k < zs.length) (h0 : 0 ≤ zs[k]) (j : Nat) : (decide ((j : Int) ∈ zs.take k) || decide (j = zs[k].toNat)) = decide ((j : Int) ∈ zs.take (k + 1)) := by
  have e : zs.take (k + 1) = zs.take k ++ [zs[k]] := by rw [List.take_add_one, List.getElem?_eq_getElem hk]; rfl
  have hm : ((j : Int) ∈ zs.take (k + 1)) ↔ ((j : Int) ∈ zs.take k ∨ (j : Int) = zs[k]) := by rw [e, List.mem_append, List.mem_singleton]
  rw [decide_eq_decide.2 hm, Bool.decide_or]
  congr 1
  exact decide_eq_decide.2 (by omega)

theorem allSpots_few {zs : List Int} (h : Right zs) {n : Nat} (hn : n ≤ 64) : zs.length * n ≤ 1024 := Nat.mul_le_mul h.len hn

set_option maxRecDepth 100000 in
set_option maxHeartbeats 2000000 in
theorem new_any (w : World) (a : Option Addr) (m c : Nat) (zs : List Int) (B : IntsAt w a m c zs) (p : Int) :
    Calls Tryd.prog 4 #[.slice a m c, .int .i64 p] w fun e w' => NewPost w zs p e w' := by
  have hlen := B.len
  have hcap := B.cap
  by_cases hp : p < 1
  · have hw : ¬ (Right zs ∧ 1 ≤ p ∧ p ≤ 64) := fun h => by omega
    go_enter Tryd.func4, Tryd.ntmps4
    go_wp2
    go_ret2
    exact newWrong hw (Kept.refl _ _)
  by_cases hp2 : 64 < p
  · have hw : ¬ (Right zs ∧ 1 ≤ p ∧ p ≤ 64) := fun h => by omega
    go_enter Tryd.func4, Tryd.ntmps4
    go_wp2
    go_ret2
    exact newWrong hw (Kept.refl _ _)
  obtain ⟨n, rfl⟩ : ∃ n : Nat, p = (n : Int) := ⟨p.toNat, by omega⟩
  have hn1 : 1 ≤ n := by omega
  have hn2 : n ≤ 64 := by omega
  obtain ⟨i0, hi, hz0, hz1, hz2⟩ := info_parts Tryd.info59
  have HL : Hid (zs.length = m) := hlen
  clear hlen
  go_enter Tryd.func4, Tryd.ntmps4
  go_wp2
  go_loopw [7, 18] (fun v i wr => ∃ (k : Nat), k ≤ m ∧ i = .int .i64 k ∧ (∃ a7 c7, v = .slice a7 (k * n) c7 ∧ wr.ownsRow (w.heap.size + 1) 59 2 (.slice a7 (k * n) c7) (k * n) (spCells (allSpots (zs.take k) n))) ∧ MarksAt wr w.heap.size (fun j => decide ((j : Int) ∈ zs.take k)) ∧ Right (zs.take k) ∧ Kept (fun k => w.heap.size ≤ k) w wr ∧ w.heap.size < wr.heap.size) (fun _ i _ => m - (intOf i).toNat)
  case atStart =>
    refine ⟨0, Nat.zero_le _, rfl, ⟨none, 0, by rw [Nat.zero_mul], by rw [Nat.zero_mul]; exact World.ownsRow_nil _ _ _ _⟩, ?_, ⟨fun z hz => (by simp at hz), by simp⟩, Kept.alloc _ _ _, by simp⟩
    have e : (fun j : Nat => decide ((j : Int) ∈ zs.take 0)) = fun _ => false := by funext j; simp
    rw [e]
    exact marksNew w _
  case round =>
    obtain ⟨k, hk, rfl, ⟨a7, c7, rfl, ho⟩, M, hR, K, hsz⟩ := hrel
    by_cases hlt : k < m
    · have hlz : k < zs.length := by rw [HL.out]; exact hlt
      obtain ⟨ba, oa, rfl, hcell⟩ := B.at hlz
      have hba := World.block_lt_of_cell? w _ (hcell k hlz)
      have hx : wr.cell? ⟨ba, oa + k, none⟩ = some (.int .i64 zs[k]) := (World.cell?_of_block (K.block ba hba (by simpa using hba))).trans (hcell k hlz)
      have e0 : (k : Int) < (m : Int) := by omega
      by_cases h0 : 0 ≤ zs[k] ∧ zs[k] < 16
      · obtain ⟨h, hh⟩ : ∃ h : Nat, zs[k] = (h : Int) := ⟨zs[k].toNat, by omega⟩
        have hh16 : h < 16 := by omega
        have T := there_any wr (h : Int)
        have e1 : (decide (0 ≤ (h : Int)) && decide ((h : Int) < 16)) = true := by simp; omega
        rw [e1] at T
        obtain ⟨m1, m2⟩ := M h hh16
        dsimp only at m1
        rw [hh] at hx
        by_cases hm : zs[k] ∈ zs.take k
        · have hw : ¬ (Right zs ∧ 1 ≤ (n : Int) ∧ (n : Int) ≤ 64) := fun hr => ((hr.1.take (k + 1)).of_take hlz).2 hm
          have e2 : decide ((h : Int) ∈ zs.take k) = true := by rw [← hh]; simpa using hm
          rw [e2] at m1
          clear hcell hm e2
          go_wp2_with (first
            | (go_at_call 17; refine T.mono ?_; rintro e w1 ⟨rfl, rfl⟩)
            | fail)
          go_ret2
          exact newWrong hw K
        · have e2 : decide ((h : Int) ∈ zs.take k) = false := by rw [← hh]; simpa using hm
          rw [e2] at m1
          have HR : Hid (Right (zs.take (k + 1))) := hR.next hlz h0 hm
          have hkl : (zs.take k).length = k := by rw [List.length_take]; omega
          have hkn : k * n ≤ 1024 := by have := allSpots_few hR hn2; rwa [hkl] at this
          have hk16 : k ≤ 16 := by have := hR.len; rwa [hkl] at this
          have HK1 : Hid ((k + 1) * n = k * n + n) := by show (k + 1) * n = k * n + n; rw [Nat.add_mul, Nat.one_mul]
          have HS : Hid (spCells (allSpots (zs.take (k + 1)) n) = spCells (allSpots (zs.take k) n) ++ spCells (spotsL h n)) := by
            show _ = _
            rw [allSpots_next zs k n hlz, spCells_append, hh]
            rfl
          have HM : Hid (MarksAt (wr.setCell ⟨w.heap.size, h, none⟩ (.bool true)) w.heap.size (fun j => decide ((j : Int) ∈ zs.take (k + 1)))) := by
            have h2 := M.set (b := h)
            have e : (fun j : Nat => decide ((j : Int) ∈ zs.take k) || decide (j = h)) = fun j : Nat => decide ((j : Int) ∈ zs.take (k + 1)) := by
              funext j
              have := marks_next hlz h0.1 j
              rw [hh] at this
              simpa using this
            rw [e] at h2
            exact h2
          have SP := spotsOf_any (wr.setCell ⟨w.heap.size, h, none⟩ (.bool true)) h n (by omega) (by omega)
          have KS : Kept (fun k => k = w.heap.size) wr (wr.setCell ⟨w.heap.size, h, none⟩ (.bool true)) := Kept.setCell _ _ _ rfl
          have ho1 := rowKept ho KS (fun j hj e => by have := (ho.lt j hj).1; omega)
          have hs1 : wr.heap.size ≤ (wr.setCell ⟨w.heap.size, h, none⟩ (.bool true)).heap.size := KS.size
          generalize spCells (allSpots (zs.take k) n) = xs at *
          clear hcell hm e2 hkl HL
          go_wp2_with (first
            | (go_at_call 17; refine T.mono ?_; rintro e w1 ⟨rfl, rfl⟩)
            | (go_at_call 18; refine SP.mono ?_; rintro e w1 ⟨a3, c3, rfl, ho3, K3⟩; have ho4 := rowKept ho1 K3 (fun _ _ h => h); obtain ⟨g3, cap3, e3, _, _⟩ := ho3.form (by omega); simp only [Value.slice.injEq] at e3; obtain ⟨rfl, _, rfl⟩ := e3; have src : Src w1 2 (.slice (some ⟨g3, 0, none⟩) n c3) n (spCells (spotsL h n)) := .inl ⟨_, _, rfl, ho3.1, ho3.cells rfl⟩; have hs3 := K3.size)
            | (at_builtin; refine wpList_append_src _ rfl _ _ 54 rfl (w.heap.size + 1) 59 i0 _ 2 24 Tryd.underlying54 hi hz0 hz1 hz2 rfl (by decide) (.slice a7 (k * n) c7) (k * n) _ rfl ho4 _ rfl n _ src (spCells_one _) (by unfold maxLen; omega) (by omega) (by omega) ?_; intro a5 cap5 w5 ho5 hg5 _ hl5)
            | fail)
          have K5 : Kept (fun j => (Value.slice a7 (k * n) c7).ownBlock = some j) w1 w5 := Kept.grown hg5 (fun j e => e.symm ▸ rfl)
          have hr7 : ∀ j, (Value.slice a7 (k * n) c7).ownBlock = some j → w.heap.size + 1 ≤ j := fun j hj => (ho.lt j hj).1
          go_roundw
          case rel =>
            refine ⟨k + 1, by omega, by go_num, ⟨a5, cap5, by rw [HK1.out], by rw [HK1.out, HS.out]; exact ho5⟩, (HM.out.kept K3 (fun h => h)).kept K5 (fun h => by have := hr7 _ h; omega), HR.out, ?_, by have := K5.size; omega⟩
            refine ((K.trans KS (fun i hi => .inl (by have hi' : i = w.heap.size := hi; show w.heap.size ≤ i; omega))).trans K3 (fun _ h => h.elim)).trans K5 (fun i hi => .inl (by have := hr7 i hi; show w.heap.size ≤ i; omega))
          case measure => simp [intOf]; omega
      · have hw : ¬ (Right zs ∧ 1 ≤ (n : Int) ∧ (n : Int) ≤ 64) := fun hr => h0 ((hr.1.take (k + 1)).of_take hlz).1
        have T := there_any wr zs[k]
        have e1 : (decide (0 ≤ zs[k]) && decide (zs[k] < 16)) = false := by
          simp
          omega
        rw [e1] at T
        generalize zs[k] = z at *
        clear hcell e1
        go_wp2_with (first
          | (go_at_call 17; refine T.mono ?_; rintro e w1 ⟨rfl, rfl⟩)
          | fail)
        go_ret2
        exact newWrong hw K
    · obtain rfl : k = m := by omega
      have hzk : zs.take k = zs := List.take_of_length_le (by rw [HL.out]; omega)
      rw [hzk] at hR ho
      have hkn : k * n ≤ 1024 := by have := allSpots_few hR hn2; rw [HL.out] at this; exact this
      have SO := sortSpots_any wr (w.heap.size + 1) a7 (k * n) c7 _ (allSpots_in zs n) ho (by omega)
      have hal : (allSpots zs n).length = k * n := by rw [allSpots_len, HL.out]
      have HA : Hid ((allSpots zs n).length = k * n) := hal
      clear hal hzk
      go_wp2_with (first
        | (go_at_call 19; refine SO.mono ?_; rintro e w1 ⟨rfl, l, hp, hs, hA, K1⟩)
        | fail)
      go_ret2
      have hll : l.length = k * n := by rw [hp.length_eq, HA.out]
      have KA := Kept.alloc (fun _ => False) w1 (.cells #[.slice a7 (k * n) c7] 62)
      refine ⟨((Kept.refl (fun _ => False) w).trans K (fun _ h => .inr h)).trans (K1.and (KA.mono (fun _ h => h.elim))) (fun i hi => .inr (by have hi' : w.heap.size + 1 ≤ i := hi; omega)), .inr ⟨⟨hR, by omega, by omega⟩, w1.heap.size, l, rfl, ?_, hs, ?_⟩⟩
      · simpa using hp
      · refine ⟨⟨a7, c7, by rw [hll]; exact cell_new_sl w1 _ _, hA.kept KA (fun _ _ h => h), fun g e => ?_⟩, fun x hx => allSpots_in zs n x (hp.mem_iff.1 hx), by omega⟩
        rcases hA with ⟨e', _⟩ | ⟨g', e', hg', _⟩
        · rw [e'] at e; cases e
        · rw [e'] at e; cases e; omega

end Go.Proofs.YtjfgjmiedmpieaaDoor
