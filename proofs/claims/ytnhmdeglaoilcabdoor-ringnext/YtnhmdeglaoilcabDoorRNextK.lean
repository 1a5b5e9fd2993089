/-
  What the walk of RingNext shares: digits, the marks at its end, what stands between the rounds of its range.
-/
import Derived.Test.YtnhmdeglaoilcabDoorRShards
import Derived.Test.YtnhmdeglaoilcabDoorRAll
import Derived.Sort.LoopGhostIn
namespace Go.Proofs.YtnhmdeglaoilcabDoor
open Go.RowKit Go.Sort Go.Shelf

theorem byte_s1 (w : World) (x : Int) (hx : 0 ≤ x ∧ x ≤ 255) : (convert 44 9 (.slice (some ⟨w.heap.size, 0, none⟩) 1 1)).run Tryd.prog (w.alloc (.cells #[.int .u8 x] 5)) = .ok (.string (strOfNums [x])) (w.alloc (.cells #[.int .u8 x] 5)) :=
  BytesAt.str (b := [x]) ⟨rfl, Nat.le_refl _, fun h => (by cases h), fun ad h => (by cases h; exact World.news_of_block (heap_alloc_new w _)), fun y hy => by simp at hy; omega⟩

theorem byte_s2 (w : World) (x y : Int) (hx : 0 ≤ x ∧ x ≤ 255) (hy : 0 ≤ y ∧ y ≤ 255) : (convert 44 9 (.slice (some ⟨w.heap.size, 0, none⟩) 2 2)).run Tryd.prog (w.alloc (.cells #[.int .u8 x, .int .u8 y] 5)) = .ok (.string (strOfNums [x, y])) (w.alloc (.cells #[.int .u8 x, .int .u8 y] 5)) :=
  BytesAt.str (b := [x, y]) ⟨rfl, Nat.le_refl _, fun h => (by cases h), fun ad h => (by cases h; exact World.news_of_block (heap_alloc_new w _)), fun u hu => by simp at hu; omega⟩

/-- A number below sixteen as a text. -/
def dig (s : Nat) : ByteArray := if s < 10 then strOfNums [(s : Int) + 48] else strOfNums [49, (s : Int) + 38]

theorem dig_itoa : ∀ s : Nat, s < 16 → (dig s).data.toList = Lib.itoa (s : Int) := by
  have h : ∀ s : Fin 16, (dig s.1).data.toList = Lib.itoa ((s.1 : Nat) : Int) := by decide +kernel
  exact fun s hs => h ⟨s, hs⟩

theorem dig_size (s : Nat) : (dig s).size ≤ 2 := by unfold dig; split <;> exact Nat.le_of_ble_eq_true rfl

set_option maxRecDepth 100000 in
set_option maxHeartbeats 4000000 in
theorem digits_any (w : World) (s : Nat) (hs : s < 16) :
    Calls Tryd.prog 14 #[.int .i64 (s : Int)] w fun e w' => e = .returned (.string (dig s)) ∧ Kept (fun _ => False) w w' := by
  have hd : s = 0 ∨ s = 1 ∨ s = 2 ∨ s = 3 ∨ s = 4 ∨ s = 5 ∨ s = 6 ∨ s = 7 ∨ s = 8 ∨ s = 9 ∨ s = 10 ∨ s = 11 ∨ s = 12 ∨ s = 13 ∨ s = 14 ∨ s = 15 := by omega
  rcases hd with rfl | rfl | rfl | rfl | rfl | rfl | rfl | rfl | rfl | rfl | rfl | rfl | rfl | rfl | rfl | rfl
  · have S1 := fun V => byte_s1 V 48 (by decide)
    go_enter Tryd.func14, Tryd.ntmps14
    go_wp2
    go_ret
    exact ⟨rfl, Kept.alloc _ _ _⟩
  · have S1 := fun V => byte_s1 V 49 (by decide)
    go_enter Tryd.func14, Tryd.ntmps14
    go_wp2
    go_ret
    exact ⟨rfl, Kept.alloc _ _ _⟩
  · have S1 := fun V => byte_s1 V 50 (by decide)
    go_enter Tryd.func14, Tryd.ntmps14
    go_wp2
    go_ret
    exact ⟨rfl, Kept.alloc _ _ _⟩
  · have S1 := fun V => byte_s1 V 51 (by decide)
    go_enter Tryd.func14, Tryd.ntmps14
    go_wp2
    go_ret
    exact ⟨rfl, Kept.alloc _ _ _⟩
  · have S1 := fun V => byte_s1 V 52 (by decide)
    go_enter Tryd.func14, Tryd.ntmps14
    go_wp2
    go_ret
    exact ⟨rfl, Kept.alloc _ _ _⟩
  · have S1 := fun V => byte_s1 V 53 (by decide)
    go_enter Tryd.func14, Tryd.ntmps14
    go_wp2
    go_ret
    exact ⟨rfl, Kept.alloc _ _ _⟩
  · have S1 := fun V => byte_s1 V 54 (by decide)
    go_enter Tryd.func14, Tryd.ntmps14
    go_wp2
    go_ret
    exact ⟨rfl, Kept.alloc _ _ _⟩
  · have S1 := fun V => byte_s1 V 55 (by decide)
    go_enter Tryd.func14, Tryd.ntmps14
    go_wp2
    go_ret
    exact ⟨rfl, Kept.alloc _ _ _⟩
  · have S1 := fun V => byte_s1 V 56 (by decide)
    go_enter Tryd.func14, Tryd.ntmps14
    go_wp2
    go_ret
    exact ⟨rfl, Kept.alloc _ _ _⟩
  · have S1 := fun V => byte_s1 V 57 (by decide)
    go_enter Tryd.func14, Tryd.ntmps14
    go_wp2
    go_ret
    exact ⟨rfl, Kept.alloc _ _ _⟩
  · have S1 := fun V => byte_s2 V 49 48 (by decide) (by decide)
    go_enter Tryd.func14, Tryd.ntmps14
    go_wp2
    go_ret
    exact ⟨rfl, Kept.alloc _ _ _⟩
  · have S1 := fun V => byte_s2 V 49 49 (by decide) (by decide)
    go_enter Tryd.func14, Tryd.ntmps14
    go_wp2
    go_ret
    exact ⟨rfl, Kept.alloc _ _ _⟩
  · have S1 := fun V => byte_s2 V 49 50 (by decide) (by decide)
    go_enter Tryd.func14, Tryd.ntmps14
    go_wp2
    go_ret
    exact ⟨rfl, Kept.alloc _ _ _⟩
  · have S1 := fun V => byte_s2 V 49 51 (by decide) (by decide)
    go_enter Tryd.func14, Tryd.ntmps14
    go_wp2
    go_ret
    exact ⟨rfl, Kept.alloc _ _ _⟩
  · have S1 := fun V => byte_s2 V 49 52 (by decide) (by decide)
    go_enter Tryd.func14, Tryd.ntmps14
    go_wp2
    go_ret
    exact ⟨rfl, Kept.alloc _ _ _⟩
  · have S1 := fun V => byte_s2 V 49 53 (by decide) (by decide)
    go_enter Tryd.func14, Tryd.ntmps14
    go_wp2
    go_ret
    exact ⟨rfl, Kept.alloc _ _ _⟩

theorem dig_bs (s : Nat) (hs : s < 16) : dig s = bs (Lib.itoa (s : Int)) := by
  rw [← dig_itoa s hs]
  rfl

theorem itoa_len (s : Nat) (hs : s < 16) : (Lib.itoa (s : Int)).length ≤ 2 := by
  rw [← dig_itoa s hs]
  exact dig_size s

theorem digitsBs_any (w : World) (s : Nat) (hs : s < 16) :
    Calls Tryd.prog 14 #[.int .i64 (s : Int)] w fun e w' => e = .returned (.string (bs (Lib.itoa (s : Int)))) ∧ Kept (fun _ => False) w w' := by
  rw [← dig_bs s hs]
  exact digits_any w s hs

/-- A loop of numbered rounds: what a round must hand on stands behind a variable. -/
theorem wpIn_loop_n {F : Fence} {n : Nat} {P : Program} {Q : Exit → Act → World → Prop} {a : Act} {w : World} {c : Code} (I : Nat → Act → World → Prop) (N : Nat) (h0 : I 0 a w) (hN : ∀ s a w, I s a w → s ≤ N)
    (round : ∀ s a w, I s a w → ∀ K : Act → World → Prop, (∀ a' w', I (s + 1) a' w' → K a' w') → c.wpIn F n P (Exit.then K Q) a w) : (Code.loop c).wpIn F n P Q a w := by
  refine wpIn_loop_ghost (fun j a w => ∃ s, s + j = N ∧ I s a w) N ⟨0, by omega, h0⟩ ?_
  rintro j a w ⟨s, hs, hI⟩
  refine round s a w hI _ (fun a' w' h' => ?_)
  have := hN _ _ _ h'
  exact ⟨N - (s + 1), by omega, s + 1, by omega, h'⟩

/-- The marks that ranges leave. -/
def marksOf (ms : List Nat) : List Deferred := ms.map fun b => { target := .collected b, args := #[] }

theorem leave_marks {n : Nat} {fn : Func} {tmps : Array Value} {v : Value} {R : Ending → World → Prop} {w0 : World} (hr : ∀ W : World, (results fn tmps).run Tryd.prog W = .ok v W) (hR : ∀ W, Kept (fun _ => False) w0 W → R (.returned v) W) :
    ∀ (ms : List Nat) (W : World), Kept (fun _ => False) w0 W → ms.Nodup → (∀ b ∈ ms, w0.heap.size ≤ b ∧ W.heap[b]? = some (.deferred (some []))) → LeavesInM Fence.wide n Tryd.prog fn tmps R (marksOf ms) .returning W
  | [], W, K, _, _ => ⟨v, hr W, hR W K⟩
  | b :: ms, W, K, hn, hm => by
    obtain ⟨h1, h2⟩ := hm b (List.mem_cons_self ..)
    have hnd := List.nodup_cons.1 hn
    refine ⟨by simp, .inl ⟨_, _, rfl, run_takeDeferred h2, ?_⟩⟩
    have KP : Kept (fun j => j = b) W (W.putObj b (.deferred none)) := Kept.putObj _ _ _ rfl
    refine leave_marks hr hR ms _ (K.trans KP (fun i h => .inr (by have h' : i = b := h; omega))) hnd.2 (fun c hc => ?_)
    obtain ⟨g1, g2⟩ := hm c (List.mem_cons_of_mem _ hc)
    refine ⟨g1, ?_⟩
    rw [KP.block c ((Array.getElem?_eq_some_iff.1 g2).1) (fun h => hnd.1 (by have h' : c = b := h; rw [← h']; exact hc))]
    exact g2

/-- The frame and the world ahead of round s. -/
def NI (w0 : World) (rb : Nat) (s : Nat) (a : Act) (W : World) : Prop :=
  ∃ (u0 u1 u2 u3 u4 u5 u7 u9 u10 u11 u12 u13 u14 u15 u16 u17 u18 u19 u20 u21 u22 u23 u24 u25 u26 u27 u28 u29 u30 u31 u32 u33 u34 u35 u36 u37 u38 u39 u40 u41 u42 u43 u44 u45 u46 u47 u48 u49 u50 u51 u52 u53 u54 u55 u56 u57 u58 u59 u60 u61 u62 u63 u64 u65 u66 u67 u68 u69 u70 u71 u72 u73 u74 u75 u76 u77 : Value) (ms : List Nat), a = ⟨List.toArray (u0 :: u1 :: u2 :: u3 :: u4 :: u5 :: .pointer (some ⟨rb, 0, none⟩) :: u7 :: .int .i64 (s : Int) :: u9 :: u10 :: u11 :: u12 :: u13 :: u14 :: u15 :: u16 :: u17 :: u18 :: u19 :: u20 :: u21 :: u22 :: u23 :: u24 :: u25 :: u26 :: u27 :: u28 :: u29 :: u30 :: u31 :: u32 :: u33 :: u34 :: u35 :: u36 :: u37 :: u38 :: u39 :: u40 :: u41 :: u42 :: u43 :: u44 :: u45 :: u46 :: u47 :: u48 :: u49 :: u50 :: u51 :: u52 :: u53 :: u54 :: u55 :: u56 :: u57 :: u58 :: u59 :: u60 :: u61 :: u62 :: u63 :: u64 :: u65 :: u66 :: u67 :: u68 :: u69 :: u70 :: u71 :: u72 :: u73 :: u74 :: u75 :: u76 :: u77 :: []), marksOf ms⟩ ∧ s ≤ 16 ∧ Kept (fun _ => False) w0 W ∧ ms.Nodup ∧ ∀ b ∈ ms, w0.heap.size ≤ b ∧ W.heap[b]? = some (.deferred (some []))

/-- How many points stand ahead. -/
def cntL (L : List Sp) (z : Pt) : Nat := L.countP (fun x => ahead x.1 z)
def wantK (L : List Sp) (z : Pt) (k : Nat) : Int := if cntL L z < k then ((L[cntL L z]?).map (·.2)).getD 0 else 0
def firstK (L : List Sp) (k : Nat) : Int := if k = 0 then -1 else ((L[0]?).map (·.2)).getD 0

theorem want_found {L : List Sp} {z : Pt} (h : cntL L z < L.length) : hostAt L z = some (wantK L z L.length) := by
  unfold hostAt wantK
  rw [if_pos h, show L.countP (fun x => ahead x.1 z) = cntL L z from rfl, Nat.mod_eq_of_lt h, List.getElem?_eq_getElem h]
  rfl

theorem want_first {L : List Sp} {z : Pt} (h0 : 0 < L.length) (h : ¬ cntL L z < L.length) : hostAt L z = some (firstK L L.length) := by
  have h1 : cntL L z ≤ L.length := List.countP_le_length
  have h2 : cntL L z = L.length := by omega
  unfold hostAt firstK
  rw [if_neg (by omega), show L.countP (fun x => ahead x.1 z) = cntL L z from rfl, h2, Nat.mod_self, List.getElem?_eq_getElem h0]
  rfl

theorem first_zero {L : List Sp} {x : Sp} (h : L[0]? = some x) : firstK L (0 + 1) = x.2 := by unfold firstK; rw [if_neg (by omega), h]; rfl
theorem first_succ {L : List Sp} {k : Nat} (hk : k ≠ 0) : firstK L (k + 1) = firstK L k := by unfold firstK; rw [if_neg (by omega), if_neg hk]
theorem first_pos {L : List Sp} {k : Nat} (hp : ∀ x ∈ L, 0 ≤ x.2) (h0 : 0 < L.length) (hk : k ≠ 0) : ¬ firstK L k < 0 := by
  unfold firstK
  rw [if_neg hk, List.getElem?_eq_getElem h0]
  have := hp _ (List.getElem_mem h0)
  simp only [Option.map_some, Option.getD_some]
  omega
theorem want_at {L : List Sp} {z : Pt} {k : Nat} {x : Sp} (h : L[k]? = some x) (hc : cntL L z = k) : wantK L z (k + 1) = x.2 := by unfold wantK; rw [hc, if_pos (by omega), h]; rfl
theorem want_no {L : List Sp} {z : Pt} {k : Nat} (hc : cntL L z ≠ k) : wantK L z (k + 1) = wantK L z k := by
  unfold wantK
  by_cases h : cntL L z < k
  · rw [if_pos h, if_pos (by omega)]
  · rw [if_neg h, if_neg (by omega)]
theorem dec_at {L : List Sp} {z : Pt} {k : Nat} (hc : cntL L z = k) : decide (cntL L z < k + 1) = true := by simp; omega
theorem dec_no {L : List Sp} {z : Pt} {k : Nat} (hc : cntL L z ≠ k) : decide (cntL L z < k + 1) = decide (cntL L z < k) := by
  by_cases h : cntL L z < k
  · rw [decide_eq_true h, decide_eq_true (by omega)]
  · rw [decide_eq_false h, decide_eq_false (by omega)]

theorem five_new (w : World) (o0 o1 o2 o3 o4 : Obj) {X : World} (hX : ((((w.alloc o0).alloc o1).alloc o2).alloc o3).alloc o4 = X) :
    X.heap[w.heap.size]? = some o0 ∧ X.heap[w.heap.size + 1]? = some o1 ∧ X.heap[w.heap.size + 1 + 1]? = some o2 ∧ X.heap[w.heap.size + 1 + 1 + 1]? = some o3 ∧ X.heap[w.heap.size + 1 + 1 + 1 + 1]? = some o4 ∧ X.heap.size = w.heap.size + 5 ∧ Kept (fun _ => False) w X := by
  subst hX
  have s1 : (w.alloc o0).heap.size = w.heap.size + 1 := by simp
  have s2 : ((w.alloc o0).alloc o1).heap.size = w.heap.size + 1 + 1 := by simp
  have s3 : (((w.alloc o0).alloc o1).alloc o2).heap.size = w.heap.size + 1 + 1 + 1 := by simp
  have s4 : ((((w.alloc o0).alloc o1).alloc o2).alloc o3).heap.size = w.heap.size + 1 + 1 + 1 + 1 := by simp
  have k0 := Kept.alloc (fun _ => False) w o0
  have k1 := Kept.alloc (fun _ => False) (w.alloc o0) o1
  have k2 := Kept.alloc (fun _ => False) ((w.alloc o0).alloc o1) o2
  have k3 := Kept.alloc (fun _ => False) (((w.alloc o0).alloc o1).alloc o2) o3
  have k4 := Kept.alloc (fun _ => False) ((((w.alloc o0).alloc o1).alloc o2).alloc o3) o4
  refine ⟨?_, ?_, ?_, ?_, ?_, by simp, (((k0.and k1).and k2).and k3).and k4⟩
  · rw [(((k1.and k2).and k3).and k4).block _ (by omega) (fun h => h), heap_alloc_new]
  · rw [((k2.and k3).and k4).block _ (by omega) (fun h => h), ← s1, heap_alloc_new]
  · rw [(k3.and k4).block _ (by omega) (fun h => h), ← s2, heap_alloc_new]
  · rw [k4.block _ (by omega) (fun h => h), ← s3, heap_alloc_new]
  · rw [← s4, heap_alloc_new]

/-- What stands between the rounds: the point, what is wanted, the first, whether it is found; the range's mark and the range. -/
structure NJ (w0 W : World) (b : Nat) (r : Loop) (z : Pt) (x y : Int) (d : Bool) : Prop where
  bz : W.heap[b]? = some (.cells #[cx z] 35 (0, 0))
  bw : W.heap[b + 1]? = some (.cells #[.int .i64 x] 3 (0, 0))
  bf : W.heap[b + 1 + 1]? = some (.cells #[.int .i64 y] 3 (0, 0))
  bd : W.heap[b + 1 + 1 + 1]? = some (.cells #[.bool d] 4 (0, 0))
  dm : W.heap[b + 5]? = some (.deferred (some []))
  lp : W.heap[b + 6]? = some (.loop r)
  K : Kept (fun _ => False) w0 W
  hb : w0.heap.size ≤ b

/-- What stands behind k points. -/
def NJk (w0 W : World) (b : Nat) (r : Loop) (z : Pt) (L : List Sp) (k : Nat) : Prop := NJ w0 W b r z (wantK L z k) (firstK L k) (decide (cntL L z < k))

section
variable {w0 W V : World} {b : Nat} {r r' : Loop} {z : Pt} {x y x' y' : Int} {d : Bool}

theorem NJ.keep (J : NJ w0 W b r z x y d) (K : Kept (fun _ => False) W V) : NJ w0 V b r z x y d := by
  have f : ∀ k o, W.heap[k]? = some o → V.heap[k]? = some o := fun k o h => (K.block k (Array.getElem?_eq_some_iff.1 h).1 (fun h => h)).trans h
  exact ⟨f _ _ J.bz, f _ _ J.bw, f _ _ J.bf, f _ _ J.bd, f _ _ J.dm, f _ _ J.lp, J.K.and K, J.hb⟩

theorem NJ.put (J : NJ w0 W b r z x y d) (r' : Loop) : NJ w0 (W.putObj (b + 6) (.loop r')) b r' z x y d := by
  have K : Kept (fun j => j = b + 6) W (W.putObj (b + 6) (.loop r')) := Kept.putObj _ _ _ rfl
  have f : ∀ k o, k ≠ b + 6 → W.heap[k]? = some o → (W.putObj (b + 6) (.loop r')).heap[k]? = some o := fun k o hk h => (K.block k (Array.getElem?_eq_some_iff.1 h).1 hk).trans h
  refine ⟨f _ _ (by omega) J.bz, f _ _ (by omega) J.bw, f _ _ (by omega) J.bf, f _ _ (by omega) J.bd, f _ _ (by omega) J.dm, ?_, J.K.trans K (fun i h => .inr (by have h' : i = b + 6 := h; have := J.hb; omega)), J.hb⟩
  have h := (Array.getElem?_eq_some_iff.1 J.lp).1
  simp [World.putObj, h]

theorem NJ.setF (J : NJ w0 W b r z x y d) (y' : Int) : NJ w0 (W.setCell ⟨b + 1 + 1, 0, none⟩ (.int .i64 y')) b r z x y' d := by
  have K : Kept (fun j => j = b + 1 + 1) W (W.setCell ⟨b + 1 + 1, 0, none⟩ (.int .i64 y')) := Kept.setCell _ _ _ rfl
  have f : ∀ k o, k ≠ b + 1 + 1 → W.heap[k]? = some o → (W.setCell ⟨b + 1 + 1, 0, none⟩ (.int .i64 y')).heap[k]? = some o := fun k o hk h => (K.block k (Array.getElem?_eq_some_iff.1 h).1 hk).trans h
  refine ⟨f _ _ (by omega) J.bz, f _ _ (by omega) J.bw, ?_, f _ _ (by omega) J.bd, f _ _ (by omega) J.dm, f _ _ (by omega) J.lp, J.K.trans K (fun i h => .inr (by have h' : i = b + 1 + 1 := h; have := J.hb; omega)), J.hb⟩
  simp [World.setCell, Array.getElem?_modify, J.bf]

theorem NJ.setX (J : NJ w0 W b r z x y d) (x' : Int) : NJ w0 (W.setCell ⟨b + 1, 0, none⟩ (.int .i64 x')) b r z x' y d := by
  have K : Kept (fun j => j = b + 1) W (W.setCell ⟨b + 1, 0, none⟩ (.int .i64 x')) := Kept.setCell _ _ _ rfl
  have f : ∀ k o, k ≠ b + 1 → W.heap[k]? = some o → (W.setCell ⟨b + 1, 0, none⟩ (.int .i64 x')).heap[k]? = some o := fun k o hk h => (K.block k (Array.getElem?_eq_some_iff.1 h).1 hk).trans h
  refine ⟨f _ _ (by omega) J.bz, ?_, f _ _ (by omega) J.bf, f _ _ (by omega) J.bd, f _ _ (by omega) J.dm, f _ _ (by omega) J.lp, J.K.trans K (fun i h => .inr (by have h' : i = b + 1 := h; have := J.hb; omega)), J.hb⟩
  simp [World.setCell, Array.getElem?_modify, J.bw]

theorem NJ.setD (J : NJ w0 W b r z x y d) (d' : Bool) : NJ w0 (W.setCell ⟨b + 1 + 1 + 1, 0, none⟩ (.bool d')) b r z x y d' := by
  have K : Kept (fun j => j = b + 1 + 1 + 1) W (W.setCell ⟨b + 1 + 1 + 1, 0, none⟩ (.bool d')) := Kept.setCell _ _ _ rfl
  have f : ∀ k o, k ≠ b + 1 + 1 + 1 → W.heap[k]? = some o → (W.setCell ⟨b + 1 + 1 + 1, 0, none⟩ (.bool d')).heap[k]? = some o := fun k o hk h => (K.block k (Array.getElem?_eq_some_iff.1 h).1 hk).trans h
  refine ⟨f _ _ (by omega) J.bz, f _ _ (by omega) J.bw, f _ _ (by omega) J.bf, ?_, f _ _ (by omega) J.dm, f _ _ (by omega) J.lp, J.K.trans K (fun i h => .inr (by have h' : i = b + 1 + 1 + 1 := h; have := J.hb; omega)), J.hb⟩
  simp [World.setCell, Array.getElem?_modify, J.bd]

theorem NJ.cells (J : NJ w0 W b r z x y d) :
    W.cell? ⟨b, 0, none⟩ = some (.complex .f64 (fl z.1) (fl z.2)) ∧ W.cell? ⟨b + 1, 0, none⟩ = some (.int .i64 x) ∧ W.cell? ⟨b + 1 + 1, 0, none⟩ = some (.int .i64 y) ∧ W.cell? ⟨b + 1 + 1 + 1, 0, none⟩ = some (.bool d) ∧
    W.frozen? ⟨b + 1, 0, none⟩ = false ∧ W.frozen? ⟨b + 1 + 1, 0, none⟩ = false ∧ W.frozen? ⟨b + 1 + 1 + 1, 0, none⟩ = false := by
  refine ⟨?_, ?_, ?_, ?_, ?_, ?_, ?_⟩
  · unfold World.cell?; rw [J.bz]; rfl
  · unfold World.cell?; rw [J.bw]; rfl
  · unfold World.cell?; rw [J.bf]; rfl
  · unfold World.cell?; rw [J.bd]; rfl
  · unfold World.frozen?; rw [J.bw]; rfl
  · unfold World.frozen?; rw [J.bf]; rfl
  · unfold World.frozen?; rw [J.bd]; rfl

/-- A spot's block below the round's start is as it was. -/
theorem NJ.same (J : NJ w0 W b r z x y d) {b' : Nat} {r' : Loop} {z' : Pt} {d' : Bool} (J' : NJ w0 V b' r' z' x' y' d') {g : Nat} (hg : g < w0.heap.size) : V.heap[g]? = W.heap[g]? :=
  (J'.K.block g hg (fun h => h)).trans (J.K.block g hg (fun h => h)).symm

end

end Go.Proofs.YtnhmdeglaoilcabDoor
