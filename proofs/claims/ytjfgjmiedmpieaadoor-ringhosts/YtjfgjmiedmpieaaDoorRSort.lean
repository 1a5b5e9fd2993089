/-
  Spots held against each other, and put into their order.
-/
import Derived.Test.YtjfgjmiedmpieaaDoorRSpots
import Derived.Test.YtjfgjmiedmpieaaDoorRLayF
namespace Go.Proofs.YtjfgjmiedmpieaaDoor
open Go.RowKit Go.Sort

theorem compare_any (w : World) (x y : Int) : Calls Tryd.prog 38 #[.int .i64 x, .int .i64 y] w fun e w' => e = .returned (.int .i64 (Lib.compareInt x y)) ∧ w' = w :=
  Any.cmp_Compare_int Tryd.compareL x y w

theorem grown2 (w : World) (o1 o2 : Obj) : ∃ q os', (w.alloc o1).alloc o2 = grow (w.drewN q) os' := ⟨0, _, by rw [alloc_eq_grow, alloc_eq_grow, grow_grow]; rfl⟩

set_option maxRecDepth 100000 in
set_option maxHeartbeats 1000000 in
theorem order_any (w : World) (x y : Sp) (hx : InSq x.1) (hy : InSq y.1) :
    Calls Tryd.prog 20 #[.agg #[cx x.1, .int .i64 x.2], .agg #[cx y.1, .int .i64 y.2]] w fun e w' => e = .returned (.int .i64 (spCmp x y)) ∧ ∃ q os', w' = grow (w.drewN q) os' := by
  have b1 := fun W => before_any W x.1 y.1 hx hy
  have b2 := fun W => before_any W y.1 x.1 hy hx
  have c1 := fun W => compare_any W x.2 y.2
  unfold spCmp
  generalize Lib.compareInt x.2 y.2 = r at *
  unfold cx at b1 b2 ⊢
  generalize fl x.1.1 = p1 at *
  generalize fl x.1.2 = p2 at *
  generalize fl y.1.1 = q1 at *
  generalize fl y.1.2 = q2 at *
  generalize x.2 = xh at *
  generalize y.2 = yh at *
  clear hx hy
  cases h1 : ahead x.1 y.1
  · cases h2 : ahead y.1 x.1
    · rw [h1] at b1; rw [h2] at b2
      simp only [Bool.false_eq_true, if_false]
      go_enter Tryd.func20, Tryd.ntmps20
      go_wp2_with (first
        | (go_at_call 32; have _t := b1 w; refine (b1 _).mono ?_; rintro e w1 ⟨rfl, rfl⟩; clear b1)
        | (go_at_call 32; refine (b2 _).mono ?_; rintro e w1 ⟨rfl, rfl⟩)
        | (go_at_call 38; refine (c1 _).mono ?_; rintro e w1 ⟨rfl, rfl⟩)
        | fail)
      go_ret
      exact ⟨rfl, grown2 _ _ _⟩
    · rw [h1] at b1; rw [h2] at b2
      simp only [Bool.false_eq_true, if_false, if_true]
      go_enter Tryd.func20, Tryd.ntmps20
      go_wp2_with (first
        | (go_at_call 32; have _t := b1 w; refine (b1 _).mono ?_; rintro e w1 ⟨rfl, rfl⟩; clear b1)
        | (go_at_call 32; refine (b2 _).mono ?_; rintro e w1 ⟨rfl, rfl⟩)
        | fail)
      go_ret
      exact ⟨rfl, grown2 _ _ _⟩
  · rw [h1] at b1
    simp only [if_true]
    go_enter Tryd.func20, Tryd.ntmps20
    go_wp2_with (first
      | (go_at_call 32; refine (b1 _).mono ?_; rintro e w1 ⟨rfl, rfl⟩)
      | fail)
    go_ret
    exact ⟨rfl, grown2 _ _ _⟩

/-- A spot whose point lies in the square. -/
abbrev Spt := { x : Sp // InSq x.1 }
instance : Inhabited Spt := ⟨⟨((0, 0), 0), ⟨by decide, by decide⟩, by decide, by decide⟩⟩
def encT (x : Spt) : List Value := encSp x.1
def cmpT (x y : Spt) : Int := spCmp x.1 y.1

theorem swoT : SWO (ltOf cmpT) where
  irrefl x := spSwo.irrefl x.1
  trans x y z := spSwo.trans x.1 y.1 z.1
  ntrans x y z := spSwo.ntrans x.1 y.1 z.1

theorem cmpLaysT (blk off size : Nat) (w : World) : CmpLays Tryd.prog 20 #[] encT 2 cmpT blk off size w :=
  fun _ _ _ _ x y => order_any _ x.1 y.1 x.2 y.2

/-- Where spots lie: nil, or one behind the other from the front of a block. -/
def SpotsAt (w : World) (a : Option Addr) (l : List Sp) : Prop :=
  (a = none ∧ l = []) ∨ ∃ g, a = some ⟨g, 0, none⟩ ∧ g < w.heap.size ∧ ∀ i (h : i < l.length), w.cell? ⟨g, i * 2, none⟩ = some (cx (l[i]'h).1) ∧ w.cell? ⟨g, i * 2 + 1, none⟩ = some (.int .i64 (l[i]'h).2)

theorem SpotsAt.kept {S : Nat → Prop} {w w' : World} {a : Option Addr} {l : List Sp} (h : SpotsAt w a l) (K : Kept S w w') (hs : ∀ g, a = some ⟨g, 0, none⟩ → ¬ S g) : SpotsAt w' a l := by
  rcases h with h | ⟨g, e, hg, hc⟩
  · exact .inl h
  · refine .inr ⟨g, e, Nat.lt_of_lt_of_le hg K.size, fun i hi => ?_⟩
    have hb := K.block g hg (hs g e)
    obtain ⟨c1, c2⟩ := hc i hi
    exact ⟨(World.cell?_of_block hb).trans c1, (World.cell?_of_block hb).trans c2⟩

theorem spCells_get (l : List Sp) : ∀ (j : Nat) (h : j / 2 < l.length), (spCells l)[j]? = some ((encSp (l[j / 2]'h))[j % 2]!) := by
  induction l with
  | nil => intro j h; simp at h
  | cons x r ih =>
    intro j h
    match j, h with
    | 0, _ => rfl
    | 1, _ => rfl
    | j + 2, h =>
      have e1 : (j + 2) / 2 = j / 2 + 1 := by omega
      have e2 : (j + 2) % 2 = j % 2 := by omega
      have h' : j / 2 < r.length := by rw [e1, List.length_cons] at h; omega
      have : (spCells (x :: r))[j + 2]? = (spCells r)[j]? := rfl
      rw [this, ih j h', e2]
      have e3 : (x :: r)[(j + 2) / 2]'h = r[j / 2]'h' := by
        simp only [e1, List.getElem_cons_succ]
      rw [e3]

theorem kept_sorted {α : Type} [Inhabited α] (enc : α → List Value) (k : Nat) (w : World) (blk off n : Nat) (d : Array α) (os : Array Obj) : Kept (fun i => i = blk) w (sortWorldK enc k w blk off n d os) := by
  refine ⟨rfl, rfl, rfl, ?_, fun i hi hn => ?_⟩
  · show w.heap.size ≤ ((w.heap.modify blk _) ++ os).size
    simp
  · show ((w.heap.modify blk _) ++ os)[i]? = _
    rw [Array.getElem?_append_left (by simpa using hi), Array.getElem?_modify, if_neg (fun e => hn e.symm)]

theorem pmap_val (l : List Sp) (hl : ∀ x ∈ l, InSq x.1) : (l.pmap (fun x h => (⟨x, h⟩ : Spt)) hl).map Subtype.val = l := by
  rw [List.map_pmap]
  simp

/-- slices.SortFunc of spots: a permutation of them, in their order. -/
theorem sortSpots_any (w : World) (base : Nat) (a : Option Addr) (n c : Nat) (l : List Sp) (hl : ∀ x ∈ l, InSq x.1) (ho : w.ownsRow base 59 2 (.slice a n c) n (spCells l)) (hn : n < 4611686018427387904) :
    Calls Tryd.prog 19 #[.slice a n c, .func (.func 20) #[] #[]] w fun e w' => e = .returned (.tuple #[]) ∧ ∃ l', l'.Perm l ∧ l'.Pairwise noLater ∧ SpotsAt w' a l' ∧ Kept (fun k => base ≤ k) w w' := by
  have hlen : l.length = n := by have := ho.1; rw [spCells_len] at this; omega
  rcases ho.2 with ⟨e, h0⟩ | ⟨g, cap, cur, e, hg, hh, h1, h2, h3, h4⟩
  · simp only [Value.slice.injEq] at e
    obtain ⟨rfl, rfl, rfl⟩ := e
    obtain rfl : l = [] := List.eq_nil_of_length_eq_zero hlen
    refine (AnyF.slices_SortFunc_none Tryd.sortFL none 0 (.func (.func 20) #[] #[]) w).mono ?_
    rintro e w1 ⟨rfl, rfl⟩
    exact ⟨rfl, [], List.Perm.refl _, List.Pairwise.nil, .inl ⟨rfl, rfl⟩, Kept.refl _ _⟩
  · simp only [Value.slice.injEq] at e
    obtain ⟨rfl, _, rfl⟩ := e
    have hgl : g < w.heap.size := by
      rcases Nat.lt_or_ge g w.heap.size with h | h
      · exact h
      · rw [Array.getElem?_eq_none h] at hh; cases hh
    have eg : ∀ args w, (callFunc 20 args).run Tryd.prog w = .ok (.enter 20 args) w := enters_of Tryd.func20 (by kernel_rfl) rfl
    have hd : (l.pmap (fun x h => (⟨x, h⟩ : Spt)) hl).toArray.size = n := by simp [hlen]
    have hv := pmap_val l hl
    have hH : HoldsK encT 2 w g 0 (l.pmap (fun x h => (⟨x, h⟩ : Spt)) hl).toArray := by
      intro j hj
      rw [size_flatK, hd] at hj
      rw [get_flatK _ _ _ _ (by rw [hd]; exact hj)]
      have hj2 : j / 2 < l.length := by omega
      have hq : (l.pmap (fun x h => (⟨x, h⟩ : Spt)) hl).toArray[j / 2]! = ⟨l[j / 2]'hj2, hl _ (List.getElem_mem hj2)⟩ := by
        rw [getElem!_pos _ _ (by rw [hd]; omega)]
        simp
      rw [hq]
      constructor
      · have := ho.cells (g := g) rfl j _ (spCells_get l j hj2)
        simpa [Addr.add_lit, encT] using this
      · simp [World.frozen?, hh]
    generalize (l.pmap (fun x h => (⟨x, h⟩ : Spt)) hl) = L at *
    have hcon := AnyQ.slices_SortFunc Tryd.sortFL 2 Tryd.isAgg59 Tryd.sizeOf59 encT (fun _ => rfl) (fun x v hv => encSp_one x.1 v hv) cmpT swoT 20 #[] g 0 c L.toArray w eg (cmpLaysT g 0 _ w) hH hgl (by rw [hd]; exact hn)
    rw [hd] at hcon
    refine hcon.mono ?_
    rintro e w1 ⟨rfl, d', m, os, ⟨hs, _, hp⟩, hsd, rfl⟩
    have hsz : d'.size = n := by rw [hs, hd]
    refine ⟨rfl, d'.toList.map Subtype.val, ?_, ?_, ?_, (kept_sorted _ _ _ _ _ _ _ _).mono (fun i e => by subst e; exact hg)⟩
    · have e1 : d'.extract 0 n = d' := by rw [← hsz]; simp
      have e2 : L.toArray.extract 0 n = L.toArray := by rw [← hd]; simp
      rw [e1, e2] at hp
      rw [← hv]
      exact hp.map _
    · rw [List.pairwise_iff_getElem]
      intro i j hi hj hij
      have hj' : j < n := by simpa [hsz] using hj
      have := hsd i j (Nat.zero_le _) hij hj'
      rw [getElem!_pos d' j (by omega), getElem!_pos d' i (by omega)] at this
      simp only [List.getElem_map, Array.getElem_toList]
      exact this
    · refine .inr ⟨g, rfl, by have := (kept_sorted encT 2 w g 0 m d' os).size; omega, fun i hi => ?_⟩
      have hi' : i < d'.size := by simpa using hi
      have HK := holdsK_sortWorldK_c encT 2 w g 0 L.toArray d' m os hH hgl hs
      have k1 := (HK.cell hi' (show 0 < 2 by decide)).1
      have k2 := (HK.cell hi' (show 1 < 2 by decide)).1
      rw [getElem!_pos d' i hi'] at k1 k2
      rw [Nat.zero_add] at k1 k2
      refine ⟨?_, ?_⟩
      · rw [Nat.add_zero] at k1
        rw [k1]
        simp [encT, encSp]
      · rw [k2]
        simp [encT, encSp]

end Go.Proofs.YtjfgjmiedmpieaaDoor
