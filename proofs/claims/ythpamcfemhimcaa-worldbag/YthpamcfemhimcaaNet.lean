/-
  A net in memory, the program's and the document's: what it is; bytes.Clone and copied.
-/
import Derived.Test.YthpamcfemhimcaaKeepMore
import Derived.Deep.RegionHeld3
import Derived.Deep.RegionLaw
namespace Go.Proofs.Ythpamcfemhimcaa
open Go.RowKit

theorem ownsRow_blk {w w' : World} {base n size : Nat} {e : TypeId} {v : Value} {xs : List Value} (h : w.ownsRow base e size v n xs) (hb : ∀ k, v.ownBlock = some k → w'.heap[k]? = w.heap[k]?) : w'.ownsRow base e size v n xs := by
  refine ⟨h.1, ?_⟩
  rcases h.2 with h0 | ⟨g, cap, cur, rfl, hb2, hh, r⟩
  · exact .inl h0
  · exact .inr ⟨g, cap, cur, rfl, hb2, (hb g rfl).trans hh, r⟩

theorem ownsRow_typ {w : World} {base n size : Nat} {e : TypeId} {v : Value} {xs : List Value} (h : w.ownsRow base e size v n xs) {k : Nat} (hk : v.ownBlock = some k) : ∃ cur, w.heap[k]? = some (.cells cur e (0, 0)) := by
  rcases h.2 with ⟨rfl, _⟩ | ⟨g, cap, cur, rfl, hb2, hh, r⟩
  · cases hk
  · cases hk; exact ⟨cur, hh⟩

/-- A parcel in memory. -/
structure PV where
  fr : Int
  to : Int
  v : Value
  bs : List Int

abbrev PX := Int × Int × List Int

def PV.pure (p : PV) : PX := (p.fr, p.to, p.bs)

def pvCells (p : PV) : List Value := [.int .i64 p.fr, .int .i64 p.to, p.v]

def netCells (ps : List PV) : List Value := ps.flatMap pvCells

theorem netCells_length : ∀ ps : List PV, (netCells ps).length = ps.length * 3
  | [] => rfl
  | p :: r => by
    show (pvCells p ++ netCells r).length = _
    rw [List.length_append, netCells_length r, List.length_cons]
    simp only [pvCells, List.length_cons, List.length_nil]
    omega

theorem netCells_append (l m : List PV) : netCells (l ++ m) = netCells l ++ netCells m := by simp [netCells]

theorem netCells_get : ∀ (ps : List PV) (i : Nat) (p : PV), ps[i]? = some p → (netCells ps)[i * 3]? = some (.int .i64 p.fr) ∧ (netCells ps)[i * 3 + 1]? = some (.int .i64 p.to) ∧ (netCells ps)[i * 3 + 2]? = some p.v
  | [], i, p, h => by simp at h
  | q :: r, 0, p, h => by
    have e : q = p := by simpa using h
    subst e
    exact ⟨rfl, rfl, rfl⟩
  | q :: r, i + 1, p, h => by
    obtain ⟨h1, h2, h3⟩ := netCells_get r i p (by simpa using h)
    have e : ∀ j, (netCells (q :: r))[(i + 1) * 3 + j]? = (netCells r)[i * 3 + j]? := by
      intro j
      rw [show (i + 1) * 3 + j = (i * 3 + j) + 3 by omega]
      rfl
    exact ⟨(e 0).trans h1, (e 1).trans h2, (e 2).trans h3⟩

theorem netCells_take (l : List PV) (k : Nat) : (netCells l).take (k * 3) = netCells (l.take k) := by
  induction l generalizing k with
  | nil => simp [netCells]
  | cons p r ih =>
    cases k with
    | zero => simp [netCells]
    | succ k =>
      rw [show (k + 1) * 3 = k * 3 + 3 by omega]
      show List.take (k * 3 + 3) (_ :: _ :: _ :: netCells r) = _ :: _ :: _ :: netCells (r.take k)
      simp [ih]

theorem netCells_drop (l : List PV) (k : Nat) : (netCells l).drop (k * 3) = netCells (l.drop k) := by
  induction l generalizing k with
  | nil => simp [netCells]
  | cons p r ih =>
    cases k with
    | zero => simp
    | succ k =>
      rw [show (k + 1) * 3 = k * 3 + 3 by omega]
      show List.drop (k * 3 + 3) (_ :: _ :: _ :: netCells r) = netCells (r.drop k)
      simp [ih]

/-- A parcel's bytes lie in a block of their own. -/
structure PvOk (w : World) (p : PV) : Prop where
  row : w.ownsRow 0 5 1 p.v p.bs.length (p.bs.map (Value.int .u8))
  byte : ∀ y ∈ p.bs, 0 ≤ y ∧ y ≤ 255
  short : p.bs.length ≤ 200

theorem PvOk.one {w : World} {p : PV} (h : PvOk w p) : ∀ u ∈ pvCells p, u.oneCell' = true := by
  obtain ⟨a, c, e⟩ := ownsRow_shape h.row
  intro u hu
  simp only [pvCells, List.mem_cons, List.not_mem_nil, or_false] at hu
  rcases hu with rfl | rfl | rfl
  · rfl
  · rfl
  · rw [e]; rfl

theorem netCells_one {w : World} {ps : List PV} (h : ∀ p ∈ ps, PvOk w p) : ∀ u ∈ netCells ps, u.oneCell' = true := by
  intro u hu
  simp only [netCells, List.mem_flatMap] at hu
  obtain ⟨p, hp, hu⟩ := hu
  exact (h p hp).one u hu

/-- Block d, of type T, is a net whose head has these cells; in S lies all that is its. -/
structure NetIn (T : TypeId) (hd : Value → Array Value) (w : World) (S : Nat → Prop) (d : Nat) (v : Value) (ps : List PV) : Prop where
  head : w.heap[d]? = some (.cells (hd v) T (0, 0))
  row : w.ownsRow 0 29 3 v ps.length (netCells ps)
  ok : ∀ p ∈ ps, PvOk w p
  sd : S d
  sr : ∀ k, v.ownBlock = some k → S k
  sp : ∀ p ∈ ps, ∀ k, p.v.ownBlock = some k → S k
  bnd : ∀ k, S k → k < w.heap.size
  few : ps.length ≤ 1000

abbrev hdW (most : Int) (v : Value) : Array Value := #[v, .int .i64 most]
abbrev hdR (most : Int) (v : Value) : Array Value := #[.int .i64 most, v]
abbrev NetW (most : Int) := NetIn 53 (hdW most)
abbrev NetR (most : Int) := NetIn 44 (hdR most)

section
variable {T : TypeId} {hd : Value → Array Value} {w w' : World} {S : Nat → Prop} {d : Nat} {v : Value} {ps : List PV}

theorem PvOk.kept {p : PV} {S' : Nat → Prop} (h : PvOk w p) (K : Kept S' w w') (hn : ∀ k, p.v.ownBlock = some k → ¬ S' k) : PvOk w' p :=
  ⟨ownsRow_blk h.row (fun k hk => K.block k (h.row.lt k hk).2 (hn k hk)), h.byte, h.short⟩

theorem NetIn.kept {S' : Nat → Prop} (N : NetIn T hd w S d v ps) (K : Kept S' w w') (hn : ∀ k, S k → ¬ S' k) : NetIn T hd w' S d v ps where
  head := (K.block d (N.bnd d N.sd) (hn d N.sd)).trans N.head
  row := ownsRow_blk N.row (fun k hk => K.block k (N.bnd k (N.sr k hk)) (hn k (N.sr k hk)))
  ok := fun p hp => (N.ok p hp).kept K (fun k hk => hn k (N.sp p hp k hk))
  sd := N.sd
  sr := N.sr
  sp := N.sp
  bnd := fun k hk => Nat.lt_of_lt_of_le (N.bnd k hk) K.size
  few := N.few

theorem NetIn.keptN (N : NetIn T hd w S d v ps) (K : Kept (fun _ => False) w w') : NetIn T hd w' S d v ps := N.kept K (fun _ _ h => h)

theorem NetIn.neR (N : NetIn T hd w S d v ps) (hT : T ≠ 29) {k : Nat} (h : v.ownBlock = some k) : k ≠ d := by
  intro e; obtain ⟨cur, hh⟩ := ownsRow_typ N.row h; rw [e, N.head] at hh; simp at hh; exact hT hh.2
theorem NetIn.neP (N : NetIn T hd w S d v ps) (hT : T ≠ 5) {p : PV} (hp : p ∈ ps) {k : Nat} (h : p.v.ownBlock = some k) : k ≠ d := by
  intro e; obtain ⟨cur, hh⟩ := ownsRow_typ (N.ok p hp).row h; rw [e, N.head] at hh; simp at hh; exact hT hh.2
theorem NetIn.neRP (N : NetIn T hd w S d v ps) {p : PV} (hp : p ∈ ps) {k : Nat} (h : p.v.ownBlock = some k) : v.ownBlock ≠ some k := by
  intro e; obtain ⟨cur, hh⟩ := ownsRow_typ (N.ok p hp).row h; obtain ⟨cur2, hh2⟩ := ownsRow_typ N.row e; rw [hh] at hh2; simp at hh2

/-- The cells of the i-th parcel. -/
theorem NetIn.at (N : NetIn T hd w S d v ps) {i : Nat} {p : PV} (hp : ps[i]? = some p) : ∃ g cap, v = .slice (some ⟨g, 0, none⟩) ps.length cap ∧ ps.length ≤ cap ∧ w.cell? ⟨g, i * 3, none⟩ = some (.int .i64 p.fr) ∧ w.cell? ⟨g, i * 3 + 1, none⟩ = some (.int .i64 p.to) ∧ w.cell? ⟨g, i * 3 + 2, none⟩ = some p.v := by
  have hi := (List.getElem?_eq_some_iff.1 hp).1
  rcases N.row.2 with ⟨_, h0⟩ | ⟨g, cap, cur, rfl, _, hh, h1, _⟩
  · omega
  · refine ⟨g, cap, rfl, h1, ?_⟩
    obtain ⟨a, b, c⟩ := netCells_get ps i p hp
    have f := fun q u hq => N.row.cells (g := g) rfl q u hq
    have ad : ∀ q, (⟨g, 0, none⟩ : Addr).add q = ⟨g, q, none⟩ := fun q => by rw [Addr.add_lit]; simp
    exact ⟨by have := f _ _ a; rw [ad] at this; exact this, by have := f _ _ b; rw [ad] at this; exact this, by have := f _ _ c; rw [ad] at this; exact this⟩

theorem NetIn.shape (N : NetIn T hd w S d v ps) : ∃ a c, v = .slice a ps.length c ∧ ps.length ≤ c := by
  rcases N.row.2 with ⟨rfl, h0⟩ | ⟨g, cap, cur, rfl, _, hh, h1, _⟩
  · exact ⟨_, 0, by rw [h0], by omega⟩
  · exact ⟨_, _, rfl, h1⟩

end

/-- What a call makes of a net. -/
def NetTo (T : TypeId) (hd : Value → Array Value) (w : World) (S : Nat → Prop) (d : Nat) (l : List PX) (w' : World) : Prop :=
  ∃ S' v ps, NetIn T hd w' S' d v ps ∧ ps.map PV.pure = l ∧ Kept S w w' ∧ ∀ k, S' k → S k ∨ w.heap.size ≤ k

theorem Kept.fresh {w w' : World} (h : Kept (fun k => w.heap.size ≤ k) w w') : Kept (fun _ => False) w w' :=
  ⟨h.os, h.tape, h.output, h.size, fun k hk _ => h.block k hk (by omega)⟩

/-- A block of three cells. -/
theorem three {w : World} {d : Nat} {T : TypeId} {a b c : Value} (h : w.heap[d]? = some (.cells #[a, b, c] T (0, 0))) : w.cell? ⟨d, 0, none⟩ = some a ∧ w.cell? ⟨d, 1, none⟩ = some b ∧ w.cell? ⟨d, 2, none⟩ = some c ∧ w.frozen? ⟨d, 0, none⟩ = false ∧ w.frozen? ⟨d, 1, none⟩ = false ∧ w.frozen? ⟨d, 2, none⟩ = false := by
  simp [World.cell?, World.frozen?, h]

theorem two {w : World} {d : Nat} {T : TypeId} {a b : Value} (h : w.heap[d]? = some (.cells #[a, b] T (0, 0))) : w.cell? ⟨d, 0, none⟩ = some a ∧ w.cell? ⟨d, 1, none⟩ = some b ∧ w.frozen? ⟨d, 0, none⟩ = false ∧ w.frozen? ⟨d, 1, none⟩ = false := by
  simp [World.cell?, World.frozen?, h]

theorem heap_two (w : World) (o o' : Obj) : ((w.alloc o).alloc o').heap[w.heap.size]? = some o ∧ ((w.alloc o).alloc o').heap[w.heap.size + 1]? = some o' := by
  refine ⟨(Below.heap_alloc _ _ _ (by simp)).trans (heap_alloc_new w o), ?_⟩
  have := heap_alloc_new (w.alloc o) o'
  rwa [World.size_alloc] at this

theorem srcNew3 (w : World) (x y z : Value) (T : TypeId) : Src (w.alloc (.cells #[x, y, z] T)) 3 (.slice (some ⟨w.heap.size, 0, none⟩) 1 1) 1 [x, y, z] := by
  refine .inl ⟨_, _, rfl, rfl, fun j u hu => ?_⟩
  obtain ⟨h0, h1, h2, _⟩ := three (heap_alloc_new w (.cells #[x, y, z] T))
  rw [Addr.add_lit, Nat.zero_add]
  match j with
  | 0 => exact h0.trans hu
  | 1 => exact h1.trans hu
  | 2 => exact h2.trans hu
  | j + 3 => simp at hu

theorem Try.info29w : (Try.prog.info? 29).map (fun i => (i.zero, i.size, i.bytes)) = some (some (.agg #[.int .i64 0, .int .i64 0, .slice none 0 0]), 3, 40) := by kernel_rfl

theorem lend_kn (w w1 : World) (T : TypeId) (h : (w.alloc (.cells #[] T)).grownBy w1 (Value.slice (some ⟨w.heap.size, 0, none⟩) 0 0).ownBlock) : Kept (fun _ => False) w w1 :=
  (Kept.alloc _ w _).trans (Kept.grown (S := fun k => w.heap.size ≤ k) h (fun _ e => Nat.le_of_eq (Option.some.inj e))) (fun _ h => .inr h)

set_option maxRecDepth 100000 in
set_option maxHeartbeats 400000 in
/-- Bytes are cloned. -/
theorem cloneN (w : World) (a : Option Addr) (m c : Nat) (b : List Int) (B : BytesAt w a m c b) (hm : m ≤ 1099511627776) :
    Calls Try.prog 41 #[.slice a m c] w fun e w' => ∃ a' c', e = .returned (.slice a' m c') ∧ w'.ownsRow w.heap.size 5 1 (.slice a' m c') m (b.map (Value.int .u8)) ∧ Kept (fun _ => False) w w' := by
  obtain ⟨i0, hi, hz0, hz1, hz2⟩ := info_parts Try.info5
  have hq : ∀ (a : Option Addr) (n c : Nat) w, (binOp .eql 27 (.slice a n c) (.slice none 0 0)).run Try.prog w = .ok (.bool a.isNone) w := fun a n c w => Lib.run_eql_slice_nil w _ _ a n c 0 0 Try.underlying27
  cases a with
  | none =>
    have hm0 := B.nil rfl
    subst hm0
    obtain rfl : b = [] := List.eq_nil_of_length_eq_zero B.len
    go_enter Try.func41, Try.ntmps41
    go_wp2
    go_ret
    exact ⟨none, 0, rfl, World.ownsRow_nil _ _ _ _, Kept.refl _ _⟩
  | some ad =>
    have hown := ownsRow_empty w w.heap.size 5 1 (Nat.le_refl _)
    have src := (B.kept (Kept.alloc (fun _ => False) w (.cells #[] 5)) (fun _ _ _ h => h)).src
    go_enter Try.func41, Try.ntmps41
    go_wp2_with (first
      | (at_builtin; refine wpList_append_src _ rfl _ _ 27 rfl w.heap.size 5 i0 (.int .u8 0) 1 1 Try.underlying27 hi hz0 hz1 hz2 rfl (by decide) (.slice (some ⟨w.heap.size, 0, none⟩) 0 0) 0 [] rfl hown _ rfl m _ src (oneCells _) (by unfold maxLen; omega) (by omega) (by simp) ?_; intro a1 c1 w1 ho1 hg1 _ _; simp only [Nat.zero_add, List.nil_append] at ho1 ⊢)
      | fail)
    go_ret
    exact ⟨a1, c1, rfl, ho1, lend_kn w w1 _ hg1⟩

set_option maxRecDepth 100000 in
set_option maxHeartbeats 400000 in
theorem copiedW_any (w : World) (fr to : Int) (a : Option Addr) (m c : Nat) (b : List Int) (B : BytesAt w a m c b) (hm : m ≤ 1099511627776) :
    Calls Try.prog 27 #[.agg #[.int .i64 fr, .int .i64 to, .slice a m c]] w fun e w' => ∃ a' c', e = .returned (.agg #[.int .i64 fr, .int .i64 to, .slice a' m c']) ∧ w'.ownsRow w.heap.size 5 1 (.slice a' m c') m (b.map (Value.int .u8)) ∧ Kept (fun _ => False) w w' := by
  have K0 : Kept (fun _ => False) w ((w.alloc (.cells #[.int .i64 fr, .int .i64 to, .slice a m c] 29)).alloc (.cells #[.int .i64 0, .int .i64 0, .slice none 0 0] 29)) := (Kept.alloc _ _ _).and (Kept.alloc _ _ _)
  have hC := cloneN _ a m c b (B.kept K0 (fun _ _ _ h => h)) hm
  obtain ⟨q0, q1⟩ := heap_two w (.cells #[.int .i64 fr, .int .i64 to, .slice a m c] 29) (.cells #[.int .i64 0, .int .i64 0, .slice none 0 0] 29)
  have hz : ((w.alloc (.cells #[.int .i64 fr, .int .i64 to, .slice a m c] 29)).alloc (.cells #[.int .i64 0, .int .i64 0, .slice none 0 0] 29)).heap.size = w.heap.size + 2 := by simp
  have hk := fun (w1 : World) (K1 : Kept (fun _ => False) _ w1) => three ((K1.block _ (by rw [hz]; omega) (fun h => h)).trans q0)
  have hk2 := fun (w1 : World) (K1 : Kept (fun _ => False) _ w1) => three ((K1.block _ (by rw [hz]; omega) (fun h => h)).trans q1)
  have HK : Hid _ := hk
  have HK2 : Hid _ := hk2
  clear hk hk2 q0 q1
  go_enter Try.func27, Try.ntmps27
  go_wp2_with (first
    | (go_at_call 41; refine hC.mono ?_; rintro e w1 ⟨a1, c1, rfl, ho1, K1⟩; clear hC; obtain ⟨p0, p1, p2, f0, f1, f2⟩ := HK.out w1 K1; obtain ⟨r0, r1, r2, g0, g1, g2⟩ := HK2.out w1 K1; clear HK HK2)
    | fail)
  refine bodyPost_ret (v := .agg #[.int .i64 fr, .int .i64 to, .slice a1 m c1]) (by simp [results, Try.results27, go_sem, r0, r1, r2]) rfl ?_
  have low := fun k hk => (ho1.lt k hk).1
  rw [hz] at low
  refine ⟨a1, c1, rfl, ?_, ?_⟩
  · have hb : ∀ k, (Value.slice a1 m c1).ownBlock = some k → k ≠ w.heap.size ∧ k ≠ w.heap.size + 1 := fun k hk => by have := low k hk; omega
    have h1 := ownsRow_blk ho1 (w' := w1.setCell ⟨w.heap.size, 2, none⟩ (.slice a1 m c1)) (fun k hk => Below.heap_setCell _ _ _ _ (hb k hk).1)
    have h2 := ownsRow_blk h1 (w' := _) (fun k hk => Below.heap_setCell _ ⟨w.heap.size + 1, 0, none⟩ (.int .i64 fr) _ (hb k hk).2)
    have h3 := ownsRow_blk h2 (w' := _) (fun k hk => Below.heap_setCell _ ⟨w.heap.size + 1, 1, none⟩ (.int .i64 to) _ (hb k hk).2)
    have h4 := ownsRow_blk h3 (w' := _) (fun k hk => Below.heap_setCell _ ⟨w.heap.size + 1, 2, none⟩ (.slice a1 m c1) _ (hb k hk).2)
    exact ⟨h4.1, h4.2.imp id (fun ⟨g, cap, cur, e, hg, r⟩ => ⟨g, cap, cur, e, by rw [hz] at hg; omega, r⟩)⟩
  · refine Kept.fresh ?_
    have K01 : Kept (fun k => w.heap.size ≤ k) w w1 := (K0.and K1).mono (fun _ h => h.elim)
    exact (((K01.and (Kept.setCell _ _ _ (Nat.le_refl _))).and (Kept.setCell _ _ _ (Nat.le_succ _))).and (Kept.setCell _ _ _ (Nat.le_succ _))).and (Kept.setCell _ _ _ (Nat.le_succ _))

end Go.Proofs.Ythpamcfemhimcaa
