/-
  FrontObject: what stands between the rounds over the texts, and between those over Fields.
-/
import Derived.Test.YtfogkbdbncfleaaGreatDoorFFields
import Derived.Test.YtfogkbdbncfleaaGreatDoorFWakes
namespace Go.Proofs.YtfogkbdbncfleaaGreatDoor
open Go.RowKit Go.Shelf Go.Sort

def mrk (m : Nat) : Deferred := { target := .collected m, args := #[] }

/-- The marks that stand. -/
structure MarksAt (w W : World) (ms : List Nat) : Prop where
  nodup : ms.Nodup
  at' : ∀ m ∈ ms, W.heap[m]? = some (.deferred (some []))
  low : ∀ m ∈ ms, w.heap.size ≤ m

/-- The law's two boxes. -/
structure FoB (w W : World) (stop : Int) (b : Bool) : Prop where
  stp : W.heap[w.heap.size]? = some (.cells #[.int .i64 stop] 3 (0, 0))
  res : W.heap[w.heap.size + 1]? = some (.cells #[.bool b] 4 (0, 0))
  K : Kept (fun j => w.heap.size ≤ j) w W

section
variable {w w0 W V : World} {stop : Int} {b : Bool} {ms : List Nat}

theorem heap_kept (K : Kept (fun _ => False) W V) {i : Nat} {o : Obj} (h : W.heap[i]? = some o) : V.heap[i]? = some o := (K.block i (Array.getElem?_eq_some_iff.1 h).1 (fun h => h)).trans h

theorem FoB.kept (B : FoB w W stop b) (K : Kept (fun _ => False) W V) : FoB w V stop b := ⟨heap_kept K B.stp, heap_kept K B.res, B.K.and (K.mono (fun _ h => h.elim))⟩

theorem FoB.base (B : FoB w W stop b) : Kept (fun _ => False) w W := (Kept.refl (fun _ => False) w).trans B.K (fun _ h => .inr h)

theorem MarksAt.kept (M : MarksAt w W ms) (K : Kept (fun _ => False) W V) : MarksAt w V ms := ⟨M.nodup, fun m hm => heap_kept K (M.at' m hm), M.low⟩

theorem FoB.cells (B : FoB w W stop b) : W.cell? ⟨w.heap.size + 1, 0, none⟩ = some (.bool b) ∧ W.frozen? ⟨w.heap.size + 1, 0, none⟩ = false ∧ W.cell? ⟨w.heap.size, 0, none⟩ = some (.int .i64 stop) :=
  ⟨by unfold World.cell?; rw [B.res]; rfl, by unfold World.frozen?; rw [B.res]; rfl, by unfold World.cell?; rw [B.stp]; rfl⟩

/-- The answer is laid down. -/
theorem FoB.set (B : FoB w W stop b) (b' : Bool) : FoB w (W.setCell ⟨w.heap.size + 1, 0, none⟩ (.bool b')) stop b' := by
  have K : Kept (fun j => j = w.heap.size + 1) W (W.setCell ⟨w.heap.size + 1, 0, none⟩ (.bool b')) := Kept.setCell _ _ _ rfl
  refine ⟨(K.block _ (Array.getElem?_eq_some_iff.1 B.stp).1 (fun h => by have h' : w.heap.size = w.heap.size + 1 := h; omega)).trans B.stp, by simp [World.setCell, Array.getElem?_modify, B.res], B.K.and (K.mono (fun i h => by have h' : i = w.heap.size + 1 := h; show w.heap.size ≤ i; omega))⟩

theorem MarksAt.set (M : MarksAt w W ms) (B : FoB w W stop b) (b' : Bool) : MarksAt w (W.setCell ⟨w.heap.size + 1, 0, none⟩ (.bool b')) ms := by
  have K : Kept (fun j => j = w.heap.size + 1) W (W.setCell ⟨w.heap.size + 1, 0, none⟩ (.bool b')) := Kept.setCell _ _ _ rfl
  refine ⟨M.nodup, fun m hm => ?_, M.low⟩
  have h := M.at' m hm
  refine (K.block m (Array.getElem?_eq_some_iff.1 h).1 (fun e => ?_)).trans h
  have e' : m = w.heap.size + 1 := e
  rw [e', B.res] at h
  cases h

/-- The marks are taken, one by one; then the answer is read. -/
theorem leaves_marks {F : Fence} {n : Nat} {P : Program} {fn : Func} {tmps : Array Value} {R : Ending → World → Prop} : ∀ (ms : List Nat) (W : World), ms.Nodup → (∀ m ∈ ms, W.heap[m]? = some (.deferred (some []))) →
    (∀ W', Kept (fun j => j ∈ ms) W W' → ∃ v, (results fn tmps).run P W' = .ok v W' ∧ R (.returned v) W') → LeavesInM F n P fn tmps R (ms.map mrk) .returning W
  | [], W, _, _, h => by
    obtain ⟨v, h1, h2⟩ := h W (Kept.refl _ _)
    exact ⟨v, h1, h2⟩
  | m :: ms, W, hn, hm, h => by
    have hn' := List.nodup_cons.1 hn
    have K : Kept (fun j => j = m) W (W.putObj m (.deferred none)) := Kept.putObj _ _ _ rfl
    refine ⟨by simp, .inl ⟨m, _, rfl, run_takeDeferred (hm m List.mem_cons_self), leaves_marks ms _ hn'.2 (fun x hx => ?_) (fun W' K' => ?_)⟩⟩
    · have hx0 := hm x (List.mem_cons_of_mem _ hx)
      exact (K.block x (Array.getElem?_eq_some_iff.1 hx0).1 (fun e => hn'.1 ((show x = m from e) ▸ hx))).trans hx0
    · exact h W' ((K.mono (fun j e => by have e' : j = m := e; subst e'; exact List.mem_cons_self)).and (K'.mono (fun j hj => List.mem_cons_of_mem _ hj)))

theorem fo_leaves {F : Fence} {n : Nat} {P : Program} {fn : Func} {tmps : Array Value} (B : FoB w W stop b) (M : MarksAt w W ms) (hr : ∀ W', W'.cell? ⟨w.heap.size + 1, 0, none⟩ = some (.bool b) → (results fn tmps).run P W' = .ok (.bool b) W') :
    LeavesInM F n P fn tmps (fun e w' => e = .returned (.bool b) ∧ Below w.heap.size w w') (ms.map mrk) .returning W := by
  refine leaves_marks ms W M.nodup M.at' (fun W' K => ⟨.bool b, hr W' ?_, rfl, ?_⟩)
  · have h := (K.block (w.heap.size + 1) (Array.getElem?_eq_some_iff.1 B.res).1 (fun hm => by have h := M.at' _ hm; rw [B.res] at h; cases h)).trans B.res
    unfold World.cell?; rw [h]; rfl
  · exact ((Kept.refl (fun _ => False) w).trans (B.K.and (K.mono (fun j hj => M.low j hj))) (fun _ h => .inr h)).none

/-- Between the rounds over Fields: the counter, the text's box, the mark, the loop's record. -/
structure FoJ (w0 W : World) (r : Loop) (k : Nat) : Prop where
  nb : W.heap[w0.heap.size]? = some (.cells #[.int .i64 (k : Int)] 3 (0, 0))
  dm : W.heap[w0.heap.size + 2]? = some (.deferred (some []))
  lp : W.heap[w0.heap.size + 3]? = some (.loop r)
  K : Kept (fun _ => False) w0 W

variable {r : Loop} {k : Nat}

theorem FoJ.keep (J : FoJ w0 W r k) (K : Kept (fun _ => False) W V) : FoJ w0 V r k := ⟨heap_kept K J.nb, heap_kept K J.dm, heap_kept K J.lp, J.K.and K⟩

theorem FoJ.put (J : FoJ w0 W r k) (r' : Loop) : FoJ w0 (W.putObj (w0.heap.size + 3) (.loop r')) r' k := by
  have K : Kept (fun j => j = w0.heap.size + 3) W (W.putObj (w0.heap.size + 3) (.loop r')) := Kept.putObj _ _ _ rfl
  have hl := (Array.getElem?_eq_some_iff.1 J.lp).1
  have h : ∀ {i o}, i ≠ w0.heap.size + 3 → W.heap[i]? = some o → (W.putObj (w0.heap.size + 3) (.loop r')).heap[i]? = some o := fun {i o} hn hh => (K.block i (Array.getElem?_eq_some_iff.1 hh).1 hn).trans hh
  refine ⟨h (by omega) J.nb, h (by omega) J.dm, ?_, J.K.trans K (fun i h => .inr (by have h' : i = w0.heap.size + 3 := h; omega))⟩
  simp [World.putObj, hl]

theorem FoJ.set (J : FoJ w0 W r k) (k' : Nat) : FoJ w0 (W.setCell ⟨w0.heap.size, 0, none⟩ (.int .i64 (k' : Int))) r k' := by
  have K : Kept (fun j => j = w0.heap.size) W (W.setCell ⟨w0.heap.size, 0, none⟩ (.int .i64 (k' : Int))) := Kept.setCell _ _ _ rfl
  have h : ∀ {i o}, i ≠ w0.heap.size → W.heap[i]? = some o → (W.setCell ⟨w0.heap.size, 0, none⟩ (.int .i64 (k' : Int))).heap[i]? = some o := fun {i o} hn hh => (K.block i (Array.getElem?_eq_some_iff.1 hh).1 hn).trans hh
  exact ⟨by simp [World.setCell, Array.getElem?_modify, J.nb], h (by omega) J.dm, h (by omega) J.lp, J.K.trans K (fun i h => .inr (by have h' : i = w0.heap.size := h; omega))⟩

theorem FoJ.cells (J : FoJ w0 W r k) : W.cell? ⟨w0.heap.size, 0, none⟩ = some (.int .i64 (k : Int)) ∧ W.frozen? ⟨w0.heap.size, 0, none⟩ = false :=
  ⟨by unfold World.cell?; rw [J.nb]; rfl, by unfold World.frozen?; rw [J.nb]; rfl⟩

theorem MarksAt.more (M : MarksAt w w0 ms) (J : FoJ w0 W r k) (h : w.heap.size ≤ w0.heap.size) : MarksAt w W ((w0.heap.size + 2) :: ms) := by
  refine ⟨List.nodup_cons.2 ⟨fun hm => ?_, M.nodup⟩, fun m hm => ?_, fun m hm => ?_⟩
  · have := (Array.getElem?_eq_some_iff.1 (M.at' _ hm)).1
    omega
  · rcases List.mem_cons.1 hm with e | e
    · subst e; exact J.dm
    · exact heap_kept J.K (M.at' m e)
  · rcases List.mem_cons.1 hm with e | e
    · omega
    · exact M.low m e

theorem two_new (w : World) (o0 o1 : Obj) {X : World} (hX : (w.alloc o0).alloc o1 = X) :
    X.heap[w.heap.size]? = some o0 ∧ X.heap[w.heap.size + 1]? = some o1 ∧ X.heap.size = w.heap.size + 2 ∧ Kept (fun _ => False) w X := by
  subst hX
  have h1 : (w.alloc o0).heap.size = w.heap.size + 1 := by simp
  refine ⟨?_, ?_, by simp, (Kept.alloc _ _ _).and (Kept.alloc _ _ _)⟩
  · rw [(Kept.alloc (fun _ => False) (w.alloc o0) o1).block _ (by omega) (fun h => h), heap_alloc_new]
  · rw [← h1, heap_alloc_new]

end

/-- One round that may break off by an exit. -/
theorem yield_brk {F : Fence} {m : Nat} {P : Program} {l id : Nat} {r : Loop} {args tmps : Array Value} {ps : Array Tmp} {assign body : Code} {a1 : Act} {W W2 : World} {R : Ending → World → Prop} (hl : W.heap[l]? = some (.loop r)) (hst : r.state = .ready) (ht : r.tmps = tmps) (hp : r.params = ps) (ha : r.assign = assign) (hb : r.body = body) (hsz : args.size = ps.size) (hfn : F.fn r.fn) (hl2 : W2.heap[l]? = some (.loop r))
    (hA : ∀ K : Act → World → Prop, K a1 W2 → assign.wpIn (F.inRound l) m P (Exit.then K (fun _ _ _ => False)) { tmps := (ps.zip args).foldl (fun t (p, v) => t.setIfInBounds p v) tmps, defers := [] } W)
    (hB : body.wpIn (F.inRound l) m P (fun e _ V => V.heap[l]? = some (.loop { r with state := .busy }) ∧ ((e = .normal ∧ R (.returned (.bool true)) (V.putObj l (.loop { r with state := .ready, pending := none }))) ∨ (e = .exit id ∧ R (.returned (.bool false)) (V.putObj l (.loop { r with state := .done, pending := some (.exit id) }))))) a1 (W2.putObj l (.loop { r with state := .busy }))) :
    YieldAt F m P l args W R := by
  subst ht hp ha hb
  refine ⟨_, _, _, _, run_yield hl hsz, roundIn_of_wpIn hfn (hA _ ⟨_, run_beginRound hl2 hst, wpIn_mono hB ?_⟩)⟩
  rintro e a3 V ⟨hb, ⟨rfl, h⟩ | ⟨rfl, h⟩⟩
  · exact ⟨_, _, run_endRound none hb, h⟩
  · exact ⟨_, _, run_endRound (some (.exit id)) hb, h⟩

/-- The law's frame. -/
def foA (w : World) (a : Option Addr) (len cap : Nat) (a2 : Option Addr) (len2 cap2 : Nat) (stop : Int) (v7 : Value) (u : Nat → Value) (ds : List Deferred) : Act := { tmps := #[.slice a len cap, .slice a2 len2 cap2, .int .i64 stop, undef, undef, .pointer (some ⟨w.heap.size, 0, none⟩), .pointer (some ⟨w.heap.size + 1, 0, none⟩), v7, u 8, u 9, u 10, u 11, u 12, u 13, u 14, u 15, u 16, u 17, u 18, u 19, u 20, u 21, u 22, u 23, u 24, u 25, u 26, u 27, u 28, u 29, u 30, u 31, u 32, u 33, u 34, u 35, u 36, u 37, u 38, u 39, u 40, u 41, u 42, u 43, u 44, u 45, u 46, u 47, u 48, u 49, u 50, u 51, u 52, u 53, u 54, u 55, u 56, u 57, u 58, u 59, u 60, u 61, u 62, u 63, u 64, u 65, u 66, u 67, u 68, u 69, u 70, u 71, u 72, u 73, u 74, u 75, u 76, u 77, u 78, u 79, u 80, u 81, u 82, u 83, u 84, u 85, u 86, u 87, u 88, u 89, u 90, u 91, u 92, u 93, u 94, u 95, u 96, u 97, u 98, u 99, u 100, u 101, u 102, u 103, u 104, u 105, u 106, u 107, u 108, u 109, u 110, u 111, u 112, u 113, u 114, u 115, u 116, u 117, u 118, u 119, u 120, u 121, u 122, u 123, u 124, u 125, u 126, u 127, u 128, u 129, u 130, u 131, u 132, u 133, u 134, u 135, u 136, u 137, u 138, u 139, u 140, u 141, u 142, u 143, u 144, u 145, u 146, u 147, u 148, u 149, u 150, u 151, u 152, u 153, u 154, u 155, u 156, u 157, u 158, u 159, u 160, u 161, u 162, u 163, u 164, u 165, u 166, u 167, u 168, u 169, u 170, u 171, u 172, u 173, u 174, u 175, u 176, u 177, u 178, u 179, u 180, u 181, u 182, u 183, u 184, u 185, u 186, u 187, u 188, u 189, u 190, u 191, u 192, u 193, u 194, u 195, u 196, u 197, u 198, u 199, u 200, u 201, u 202, u 203, u 204, u 205, u 206, u 207, u 208, u 209, u 210, u 211, undef], defers := ds }

/-- Between the rounds over the texts. -/
def foI (w : World) (a : Option Addr) (len cap : Nat) (a2 : Option Addr) (len2 cap2 : Nat) (stop : Int) (a' : Act) (w' : World) : Prop :=
  ∃ (k : Nat) (u : Nat → Value) (ms : List Nat), a' = foA w a len cap a2 len2 cap2 stop (.int .i64 (k : Int)) u (ms.map mrk) ∧ k ≤ len ∧ FoB w w' stop false ∧ MarksAt w w' ms

theorem foI_of {w w' : World} {a a2 : Option Addr} {len cap len2 cap2 k : Nat} {stop : Int} {a' : Act} {ms : List Nat} (h : a' = foA w a len cap a2 len2 cap2 stop (.int .i64 (k : Int)) (fun i => a'.tmps.getD i undef) (ms.map mrk)) (hk : k ≤ len) (B : FoB w w' stop false) (M : MarksAt w w' ms) : foI w a len cap a2 len2 cap2 stop a' w' :=
  ⟨k, _, ms, h, hk, B, M⟩

theorem obj_pairs (w : World) (s : ByteArray) (hs : s.size ≤ 1000000000000) (T : Utf8At w) :
    Calls Tryz.prog 8 #[.string s] w fun e w' => ∃ a c, e = .returned (.tuple #[.slice a (objP s).1.length c, .int .i64 ((objP s).2.1 : Int), .int .i64 (objP s).2.2]) ∧ PairsAt w' a (objP s).1 ∧ Kept (fun _ => False) w w' := by
  refine (object_any w s hs T).mono fun e w' h1 => ?_
  obtain ⟨v, he, a, c, rfl, ho, K⟩ := h1
  exact ⟨a, c, he, PairsAt.of_row ho, K⟩

theorem robj_pairs (w : World) (s : ByteArray) (hs : s.size ≤ 1000000000000) :
    Calls Tryz.prog 9 #[.string s] w fun e w' => ∃ a c, e = .returned (.tuple #[.slice a (objP s).1.length c, .int .i64 ((objP s).2.1 : Int), .int .i64 (objP s).2.2]) ∧ PairsAt w' a (objP s).1 ∧ Kept (fun _ => False) w w' := by
  refine (robj_any w s hs).mono fun e w' h1 => ?_
  obtain ⟨v, he, a, c, rfl, ho, K⟩ := h1
  exact ⟨a, c, he, PairsAt.of_row ho, K⟩

/-- A value is no longer than four times the body. -/
theorem valP_len (s : ByteArray) (i : Nat) (h : (valP s i).2.2 = true) : (valP s i).1.length ≤ 4 * s.size + 16 := by
  rcases Nat.lt_or_ge i s.size with hi | hi
  · have h1 := textP_next s (Nat.le_of_lt hi)
    have h2 := numP_next s (Nat.le_of_lt hi)
    unfold valP
    split
    · split
      · simp only [List.length_cons]; omega
      · simp
    · omega
  · exfalso
    unfold valP numP at h
    have : digsP s i = 0 := by
      unfold digsP
      rw [List.drop_of_length_le (by simpa using hi)]
      simp
    simp [standsP_ge s hi, this] at h

theorem objF_len (s : ByteArray) : ∀ (n : Nat) (ps : List Pr) (i : Nat), (∀ p ∈ ps, p.2.length ≤ 4 * s.size + 16) → ∀ p ∈ (objF s n ps i).1, p.2.length ≤ 4 * s.size + 16
  | 0, ps, i, h => by unfold objF; intro p hp; cases hp
  | n + 1, ps, i, h => by
    have no : ∀ (a : Nat) (b : Int), ∀ p ∈ (([], a, b) : List Pr × Nat × Int).1, p.2.length ≤ 4 * s.size + 16 := fun a b p hp => by cases hp
    unfold objF
    simp only
    by_cases c0 : (!(textP s i).2.2) = true
    · rw [if_pos c0]; exact no _ _
    rw [if_neg c0]
    by_cases c1 : (fieldP ps (textP s i).1).isSome = true
    · rw [if_pos c1]; exact no _ _
    rw [if_neg c1]
    by_cases c2 : ps.length = 16
    · rw [if_pos c2]; exact no _ _
    rw [if_neg c2]
    by_cases c3 : (!standsP s (skipP s (textP s i).2.1) 58) = true
    · rw [if_pos c3]; exact no _ _
    rw [if_neg c3]
    by_cases c4 : (!(valP s (skipP s (skipP s (textP s i).2.1 + 1))).2.2) = true
    · rw [if_pos c4]; exact no _ _
    rw [if_neg c4]
    have hv := valP_len s (skipP s (skipP s (textP s i).2.1 + 1)) (by simpa using c4)
    generalize valP s (skipP s (skipP s (textP s i).2.1 + 1)) = v at *
    have hall : ∀ p ∈ ps ++ [((textP s i).1, v.1)], p.2.length ≤ 4 * s.size + 16 := fun p hp => by
      rcases List.mem_append.1 hp with hp | hp
      · exact h p hp
      · simp only [List.mem_singleton] at hp
        subst hp
        exact hv
    by_cases c5 : standsP s (skipP s v.2.1) 44 = true
    · rw [if_pos c5]
      exact objF_len s n _ _ hall
    rw [if_neg c5]
    by_cases c6 : standsP s (skipP s v.2.1) 125 = true
    · rw [if_pos c6]
      unfold closeP
      split
      · exact hall
      · exact no _ _
    rw [if_neg c6]
    exact no _ _

theorem objP_len (s : ByteArray) : ∀ p ∈ (objP s).1, p.2.length ≤ 4 * s.size + 16 := by
  have no : ∀ (a : Nat) (b : Int), ∀ p ∈ (([], a, b) : List Pr × Nat × Int).1, p.2.length ≤ 4 * s.size + 16 := fun a b p hp => by cases hp
  unfold objP
  simp only
  by_cases c0 : (!standsP s (skipP s 0) 123) = true
  · rw [if_pos c0]; exact no _ _
  rw [if_neg c0]
  by_cases c1 : standsP s (skipP s (skipP s 0 + 1)) 125 = true
  · rw [if_pos c1]
    unfold closeP
    split
    · exact no 0 0
    · exact no _ _
  rw [if_neg c1]
  exact objF_len s 17 [] _ (fun p hp => by cases hp)

theorem field_len {s : ByteArray} {k v : List UInt8} (h : fieldP (objP s).1 k = some v) : v.length ≤ 4 * s.size + 16 := by
  unfold fieldP at h
  cases hf : (objP s).1.find? (fun p => p.1 == k) with
  | none => rw [hf] at h; cases h
  | some p =>
    rw [hf] at h
    obtain rfl := Option.some.inj h
    exact objP_len s p (List.mem_of_find?_eq_some hf)

end Go.Proofs.YtfogkbdbncfleaaGreatDoor
