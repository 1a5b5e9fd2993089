/-
  Walk: a node is copied and put behind the others, as a region that draws its order.
-/
import Derived.Test.YtdecceekodpjiaaDoorHStep
import Derived.Test.YtdecceekodpjiaaDoorDBeh
import Derived.Test.YtdecceekodpjiaaDoorDFind
import Derived.Test.YtdecceekodpjiaaDoorCBase
import Derived.ScopeJumps
import Derived.RangeFuncNested
import Derived.RangeFuncBound
import Derived.RangeFuncCalls
import Derived.RangeFuncLeaves
import Derived.RangeFuncWrites
import Derived.Shelf.Abstract
import Derived.Shelf.RegionOpen
import Derived.WalkKit
import Derived.OwnWalkIn
import Derived.TacticsInMore
import Derived.LoopNIn
import Derived.LoopIn
import Derived.Deep.RegionHeld
import Derived.RegionIn
namespace Go.Proofs.YtdecceekodpjiaaDoor
open Go.RowKit

end Go.Proofs.YtdecceekodpjiaaDoor

/-
  waits: for how many each node waits, and who waits for it.
-/
namespace Go.Proofs.YtdecceekodpjiaaDoor
open Go.RowKit

/-- What waits counts, when the first i nodes were gone through. -/
def openF (ns : List Nd) (i x : Nat) : Value := .int .i64 (if x < i then (match ns[x]? with | some n => (n.after.length : Int) | none => 0) else 0)

theorem openF_next {ns : List Nd} {i : Nat} (hi : i < ns.length) (q : Nat) : (if q = i then Value.int .i64 ((ns[i]).after.length : Int) else openF ns i q) = openF ns (i + 1) q := by
  unfold openF
  by_cases e : q = i
  · subst e
    rw [if_pos rfl, if_pos (Nat.lt_succ_self _), List.getElem?_eq_getElem hi]
  · rw [if_neg e]
    by_cases h : q < i
    · rw [if_pos h, if_pos (by omega)]
    · rw [if_neg h, if_neg (by omega)]

end Go.Proofs.YtdecceekodpjiaaDoor

/-
  checkAfter: what is wrong with a node's After.
-/
namespace Go.Proofs.YtdecceekodpjiaaDoor
open Go.RowKit

/-- Thirty-two counts in block tb. -/
def TimesAt (w : World) (tb : Nat) (f : Nat → Nat) : Prop := ∀ j, j < 32 → w.cell? ⟨tb, j, none⟩ = some (.int .i64 (f j : Nat)) ∧ w.frozen? ⟨tb, j, none⟩ = false

theorem TimesAt.kept {w w' : World} {S : Nat → Prop} {tb : Nat} {f : Nat → Nat} (C : TimesAt w tb f) (K : Kept S w w') (h : ¬ S tb) : TimesAt w' tb f := fun j hj => by
  obtain ⟨c, z⟩ := C j hj
  have hb := K.block tb (World.block_lt_of_cell? w _ c) h
  exact ⟨(World.cell?_of_block hb).trans c, (World.frozen?_of_block hb).trans z⟩

theorem TimesAt.inc {w : World} {tb : Nat} {f : Nat → Nat} (C : TimesAt w tb f) {b : Nat} {z : Int} (hz : z = ((f b + 1 : Nat) : Int)) : TimesAt (w.setCell ⟨tb, b, none⟩ (.int .i64 z)) tb (fun j => if j = b then f j + 1 else f j) := fun j hj => by
  obtain ⟨c, q⟩ := C j hj
  refine ⟨?_, by rw [World.frozen?_setCell]; exact q⟩
  by_cases e : j = b
  · subst e
    rw [World.cell?_setCell_same' w ⟨tb, j, none⟩ _ (by rw [c]; rfl), hz]
    simp
  · rw [World.cell?_setCell_other _ _ _ _ (fun h => e (by cases h; rfl)), c]
    simp [e]

theorem timesNew (w : World) (T : TypeId) : TimesAt (w.alloc (.cells #[.int .i64 0, .int .i64 0, .int .i64 0, .int .i64 0, .int .i64 0, .int .i64 0, .int .i64 0, .int .i64 0, .int .i64 0, .int .i64 0, .int .i64 0, .int .i64 0, .int .i64 0, .int .i64 0, .int .i64 0, .int .i64 0, .int .i64 0, .int .i64 0, .int .i64 0, .int .i64 0, .int .i64 0, .int .i64 0, .int .i64 0, .int .i64 0, .int .i64 0, .int .i64 0, .int .i64 0, .int .i64 0, .int .i64 0, .int .i64 0, .int .i64 0, .int .i64 0] T)) w.heap.size (fun _ => 0) := by
  intro j hj
  have h := heap_alloc_new w (.cells #[.int .i64 0, .int .i64 0, .int .i64 0, .int .i64 0, .int .i64 0, .int .i64 0, .int .i64 0, .int .i64 0, .int .i64 0, .int .i64 0, .int .i64 0, .int .i64 0, .int .i64 0, .int .i64 0, .int .i64 0, .int .i64 0, .int .i64 0, .int .i64 0, .int .i64 0, .int .i64 0, .int .i64 0, .int .i64 0, .int .i64 0, .int .i64 0, .int .i64 0, .int .i64 0, .int .i64 0, .int .i64 0, .int .i64 0, .int .i64 0, .int .i64 0, .int .i64 0] T)
  constructor
  · unfold World.cell?
    rw [h]
    match j, hj with
    | 0, _ | 1, _ | 2, _ | 3, _ | 4, _ | 5, _ | 6, _ | 7, _ | 8, _ | 9, _ | 10, _ | 11, _ | 12, _ | 13, _ | 14, _ | 15, _ | 16, _ | 17, _ | 18, _ | 19, _ | 20, _ | 21, _ | 22, _ | 23, _ | 24, _ | 25, _ | 26, _ | 27, _ | 28, _ | 29, _ | 30, _ | 31, _ => rfl
    | j + 32, h => omega
  · unfold World.frozen?
    rw [h]
    rfl

theorem nodup_snoc (l : List ByteArray) (s : ByteArray) : (l ++ [s]).Nodup ↔ l.Nodup ∧ s ∉ l := by
  rw [List.nodup_append]
  constructor
  · rintro ⟨h1, _, h3⟩
    exact ⟨h1, fun h => h3 s h s (by simp) rfl⟩
  · rintro ⟨h1, h2⟩
    exact ⟨h1, by simp, fun a ha b hb e => by simp at hb; subst hb; subst e; exact h2 ha⟩

/-- How many of some names mean node j. -/
def tim (ns : List Nd) (l : List ByteArray) (j : Nat) : Nat := l.countP (fun s => decide (findP ns s = some j))

theorem tim_pos {ns : List Nd} {l : List ByteArray} {s : ByteArray} {j : Nat} (h : findP ns s = some j) : 0 < tim ns l j ↔ s ∈ l := by
  unfold tim
  rw [List.countP_pos_iff]
  constructor
  · rintro ⟨x, hx, hd⟩
    have h2 := of_decide_eq_true hd
    have := findP_name h2
    rw [findP_name h] at this
    rw [this]; exact hx
  · intro hs
    exact ⟨s, hs, by simpa using h⟩

theorem tim_snoc {ns : List Nd} {l : List ByteArray} {s : ByteArray} {j : Nat} (h : findP ns s = some j) : tim ns (l ++ [s]) = fun k => if k = j then tim ns l k + 1 else tim ns l k := by
  funext k
  unfold tim
  rw [List.countP_append, List.countP_singleton, h]
  by_cases e : k = j
  · subst e; simp
  · have : ¬ j = k := fun h => e h.symm
    simp [e, this]

theorem take_snoc {α : Type} {l : List α} {k : Nat} (h : k < l.length) : l.take (k + 1) = l.take k ++ [l[k]] := by rw [List.take_add_one, List.getElem?_eq_getElem h]; rfl

end Go.Proofs.YtdecceekodpjiaaDoor

/-
  Order: the nodes, each behind those ahead of it.
-/
namespace Go.Proofs.YtdecceekodpjiaaDoor
open Go.RowKit

theorem jump_weaken {l : Nat} {J J' : Act → World → Prop} {Q : Exit → Act → World → Prop} (h : ∀ a w, J a w → J' a w) : ∀ e a w, Exit.jump l J Q e a w → Exit.jump l J' Q e a w := by
  intro e a w hj
  cases e <;> simp only [Exit.jump] at hj ⊢ <;> first | exact hj | exact ⟨hj.1, h _ _ hj.2⟩

/-- A scope whose code jumps back to one label: one walk of what lies behind the label serves both the first coming and each jump. -/
theorem wp_scope_loop {P : Program} {a : Act} {w : World} {Q : Exit → Act → World → Prop} {c y : Code} (l : Nat) (J : Act → World → Prop) (μ : Act → World → Nat) (hf : findLabel c l = some (Code.skip.seq y))
    (pass : ∀ a w, J a w → y.wp P (Exit.jump l (fun a' w' => J a' w' ∧ μ a' w' < μ a w) Q) a w)
    (first : (∀ a w, J a w → y.wp P (Exit.jump l J Q) a w) → c.wp P (Exit.jump l J Q) a w) : (Code.scope c).wp P Q a w :=
  wp_scope_jumps l J μ hf (first fun a w h => Code.wp_mono (jump_weaken fun _ _ h => h.1) (pass a w h)) (fun a w h => wp_seq (wp_skip (pass a w h)))

theorem getD_set {fo : List Int} {x : Nat} (hx : x < fo.length) (z : Int) (j : Nat) : (fo.set x z).getD j 0 = if j = x then z else fo.getD j 0 := by
  rw [List.getD_eq_getElem?_getD, List.getD_eq_getElem?_getD, List.getElem?_set]
  by_cases e : x = j
  · subst e; simp [hx]
  · have : ¬ j = x := fun h => e h.symm
    simp [e, this]

theorem getD_at {fo : List Int} {x : Nat} (hx : x < fo.length) : fo.getD x 0 = fo[x] := by
  rw [List.getD_eq_getElem?_getD, List.getElem?_eq_getElem hx]; rfl

theorem open_may {ns : List Nd} {T : List Nat} {fo : List Int} (O : OpenIs ns T fo) {i : Nat} (hi : i < ns.length) : (fo.getD i 0 = 0) ↔ mayB ns T i = true := by
  rw [getD_at (by rw [O.1]; exact hi)]
  exact openIs_may O hi

theorem open_step {ns : List Nd} {T : List Nat} {i p : Nat} {fo : List Int} (hs : ∀ n ∈ ns, n.after.length ≤ 1000000) (R : Runs ns T) (hm : mayB ns T i = true) (O : OpenAt ns T i p fo) (hp : p < (bhL ns i ns.length).length) :
    (bhL ns i ns.length)[p] < ns.length ∧ 1 ≤ fo.getD (bhL ns i ns.length)[p] 0 ∧ fo.getD (bhL ns i ns.length)[p] 0 ≤ 1000000 ∧ OpenAt ns T i (p + 1) (fo.set (bhL ns i ns.length)[p] (fo.getD (bhL ns i ns.length)[p] 0 - 1)) := by
  obtain ⟨h, h1, h2⟩ := openAt_step R hm O hp
  have hx : (bhL ns i ns.length)[p] ∈ bhL ns i ns.length := List.getElem_mem hp
  obtain ⟨hT, n, hn, hc⟩ := bh_free R hm hx
  have hv := O.2 _ n hn
  rw [if_neg hT, List.getElem?_eq_getElem h] at hv
  have hv2 := Option.some.inj hv
  have hle := need_le ns T n
  have hfew := hs n (List.mem_of_getElem? hn)
  rw [getD_at h]
  exact ⟨bh_lt hx, h1, by rw [hv2]; omega, h2⟩

/-- Where the order stands between two rounds. -/
structure OrdSt (w1 : World) (ns : List Nd) (ob : Nat) (wr : World) (T : List Nat) (fo : List Int) (v6 : Value) : Prop where
  row : wr.rowIs ob 3 ns.length (fun x => .int .i64 (fo.getD x 0))
  ord : wr.ownsRow w1.heap.size 3 1 v6 T.length (natsV T)
  kept : Kept (fun j => j = ob ∨ w1.heap.size ≤ j) w1 wr
  run : Runs ns T
  opn : OpenIs ns T fo

/-- What waits has laid. -/
structure OrdFix (w w1 : World) (name : ByteArray) (a : Option Addr) (c : Nat) (ns : List Nd) (ob : Nat) (vs : Nat → Value) : Prop where
  lo : w.heap.size + 1 ≤ ob
  hi : ob + 1 < w1.heap.size
  beh : BehAt w1 (ob + 2) (fun g => ob + 2 ≤ g ∧ g < w1.heap.size) (ob + 1) ns.length (fun j => bhL ns j ns.length) vs
  kept : Kept (fun _ => False) (w.alloc (.cells #[.string name, .slice a ns.length c] 28)) w1

def ordJ (w w1 : World) (name : ByteArray) (a : Option Addr) (c : Nat) (ns : List Nd) (ob : Nat) (a' : Act) (w' : World) : Prop :=
  ∃ (T : List Nat) (fo : List Int) (a6 : Option Addr) (c6 fr : Nat) (u : Nat → Value),
    a' = { tmps := #[.agg #[.string name, .slice a ns.length c], .pointer (some ⟨w.heap.size, 0, none⟩), .slice none 0 0, .bool false, .slice (some ⟨ob, 0, none⟩) ns.length ns.length, .slice (some ⟨ob + 1, 0, none⟩) ns.length ns.length, .slice a6 T.length c6, .int .i64 (fr : Nat), u 8, u 9, u 10, u 11, u 12, u 13, u 14, u 15, u 16, u 17, u 18, u 19, u 20, u 21, u 22, u 23, u 24, u 25, u 26, u 27, u 28, u 29, u 30, u 31, u 32, u 33, u 34, u 35, u 36, u 37, u 38, u 39, u 40, u 41, u 42, u 43, u 44, u 45, u 46, u 47, u 48, u 49, u 50, u 51, u 52, u 53, u 54, u 55, u 56, u 57, u 58, u 59, u 60, u 61, u 62, u 63, u 64, u 65, u 66, u 67, u 68, u 69], defers := [] } ∧
      OrdSt w1 ns ob w' T fo (.slice a6 T.length c6) ∧ fr ≤ ns.length ∧ ∀ y, y < fr → mayB ns T y = false

theorem ordJ_of {w w1 w' : World} {name : ByteArray} {a a6 : Option Addr} {c ob c6 fr : Nat} {ns : List Nd} {a' : Act} {T : List Nat} {fo : List Int}
    (h : a' = { tmps := #[.agg #[.string name, .slice a ns.length c], .pointer (some ⟨w.heap.size, 0, none⟩), .slice none 0 0, .bool false, .slice (some ⟨ob, 0, none⟩) ns.length ns.length, .slice (some ⟨ob + 1, 0, none⟩) ns.length ns.length, .slice a6 T.length c6, .int .i64 (fr : Nat), a'.tmps.getD 8 undef, a'.tmps.getD 9 undef, a'.tmps.getD 10 undef, a'.tmps.getD 11 undef, a'.tmps.getD 12 undef, a'.tmps.getD 13 undef, a'.tmps.getD 14 undef, a'.tmps.getD 15 undef, a'.tmps.getD 16 undef, a'.tmps.getD 17 undef, a'.tmps.getD 18 undef, a'.tmps.getD 19 undef, a'.tmps.getD 20 undef, a'.tmps.getD 21 undef, a'.tmps.getD 22 undef, a'.tmps.getD 23 undef, a'.tmps.getD 24 undef, a'.tmps.getD 25 undef, a'.tmps.getD 26 undef, a'.tmps.getD 27 undef, a'.tmps.getD 28 undef, a'.tmps.getD 29 undef, a'.tmps.getD 30 undef, a'.tmps.getD 31 undef, a'.tmps.getD 32 undef, a'.tmps.getD 33 undef, a'.tmps.getD 34 undef, a'.tmps.getD 35 undef, a'.tmps.getD 36 undef, a'.tmps.getD 37 undef, a'.tmps.getD 38 undef, a'.tmps.getD 39 undef, a'.tmps.getD 40 undef, a'.tmps.getD 41 undef, a'.tmps.getD 42 undef, a'.tmps.getD 43 undef, a'.tmps.getD 44 undef, a'.tmps.getD 45 undef, a'.tmps.getD 46 undef, a'.tmps.getD 47 undef, a'.tmps.getD 48 undef, a'.tmps.getD 49 undef, a'.tmps.getD 50 undef, a'.tmps.getD 51 undef, a'.tmps.getD 52 undef, a'.tmps.getD 53 undef, a'.tmps.getD 54 undef, a'.tmps.getD 55 undef, a'.tmps.getD 56 undef, a'.tmps.getD 57 undef, a'.tmps.getD 58 undef, a'.tmps.getD 59 undef, a'.tmps.getD 60 undef, a'.tmps.getD 61 undef, a'.tmps.getD 62 undef, a'.tmps.getD 63 undef, a'.tmps.getD 64 undef, a'.tmps.getD 65 undef, a'.tmps.getD 66 undef, a'.tmps.getD 67 undef, a'.tmps.getD 68 undef, a'.tmps.getD 69 undef], defers := [] })
    (O : OrdSt w1 ns ob w' T fo (.slice a6 T.length c6)) (hfr : fr ≤ ns.length) (hl : ∀ y, y < fr → mayB ns T y = false) : ordJ w w1 name a c ns ob a' w' :=
  ⟨T, fo, a6, c6, fr, fun i => a'.tmps.getD i undef, h, O, hfr, hl⟩

def sliceLen : Value → Nat
  | .slice _ m _ => m
  | _ => 0

theorem ordSt_start {w1 : World} {ns : List Nd} {ob : Nat} (R : w1.rowIs ob 3 ns.length (openF ns ns.length)) : OrdSt w1 ns ob w1 [] (ns.map (fun n => (n.after.length : Int))) (.slice none 0 0) := by
  refine ⟨R.congr (fun i hi => ?_), World.ownsRow_nil _ _ _ _, Kept.refl _ _, Runs.zero ns, by simp, fun x n hn => ?_⟩
  · unfold openF
    rw [if_pos hi, List.getElem?_eq_getElem hi, List.getD_eq_getElem?_getD, List.getElem?_map, List.getElem?_eq_getElem hi]
    rfl
  · rw [List.getElem?_map, hn, need_nil]
    simp

end Go.Proofs.YtdecceekodpjiaaDoor

/-
  Walk: the order and a copy of the nodes, kept for the function that tells them.
-/
namespace Go.Proofs.YtdecceekodpjiaaDoor
open Go.RowKit

end Go.Proofs.YtdecceekodpjiaaDoor

/-
  A range over a function whose rounds are told what they are handed; the loop's variables may lie in blocks of their own.
-/
namespace Go.Proofs.YtdecceekodpjiaaDoor
open Go.RowKit Go.Shelf

/-- No operation is a defer statement. -/
def plainOp (o : Oper) : Bool := match o.op with
  | .defer _ => false
  | _ => true

theorem plainOp_ne {o : Oper} (h : plainOp o = true) (c : Call) : o.op ≠ .defer c := by
  intro e
  simp [plainOp, e] at h

theorem operIn_round {F : Fence} {n : Nat} {P : Program} {o : Oper} {a : Act} {w : World} {K : Act → World → Prop} {Q : Exit → Act → World → Prop} (l : Nat) (h : plainOp o = true) (hh : o.wpIn F n P a w K Q) : o.wpIn (F.inRound l) n P a w K Q := by
  unfold Oper.wpIn at *
  rw [Oper.semAt_plain F _ _ (plainOp_ne h)] at hh
  rw [Oper.semAt_plain (F.inRound l) _ _ (plainOp_ne h)]
  exact hh

theorem wpAnyIn_round {F : Fence} {n : Nat} {P : Program} {md : Region.Mode} {ops : Array Oper} {Q : Exit → Act → World → Prop} (l : Nat) (hp : ∀ (i : Nat) o, ops[i]? = some o → plainOp o = true) : ∀ (fuel : Nat) (listed : Array Bool) (a : Act) (w : World), wpAnyIn F n P md ops Q fuel listed a w → wpAnyIn (F.inRound l) n P md ops Q fuel listed a w
  | 0, _, _, _, h => h
  | fuel + 1, listed, a, w, h => by
    refine ⟨h.1, fun i hi => ?_⟩
    have h2 := wpOpIn_mono (fun a w hh => wpAnyIn_round l hp fuel (listed.setIfInBounds i true) a w hh) (h.2 i hi)
    unfold wpOpIn at h2 ⊢
    split
    · rename_i ho
      simpa [ho] using h2
    · rename_i o ho
      simp only [ho] at h2
      split
      · rename_i hw
        simp only [hw, if_true] at h2
        exact operIn_round l (hp i o ho) h2
      · rename_i hw
        simp only [hw] at h2
        exact h2

/-- A region that draws its order, within a round: one walk of the lexical order serves every order. -/
theorem region_round {F : Fence} {n : Nat} {P : Program} {id r : Nat} {Q : Exit → Act → World → Prop} {a : Act} {w : World} {l : List Oper} (hro : F.round = none) (hm : P.follows .mixedOrders = true) (hB : Region.lexB .any l.toArray = true) (hp : l.all plainOp = true)
    (h : wpQuietIn F n P l.toArray (fun w' => ∃ n, w' = w.drewN n) (fun a' => ∀ w', (∃ n, w' = w.drewN n) → Q .normal a' w') l a) : (Code.region id l.toArray true).wpIn (F.inRound r) n P Q a w := by
  simp only [Region.lexB, Bool.and_eq_true] at hB
  refine wpIn_region_any hm (wpAnyIn_round r ?_ _ _ _ _ (wpAnyIn_of_quiet (Q := fun a' => ∀ w', (∃ n, w' = w.drewN n) → Q .normal a' w') hro (fun _ w' hw' h => h w' hw') _ _ _ _ ⟨1, rfl⟩ ?_))
  · intro i o ho
    rw [List.all_eq_true] at hp
    exact hp o (List.mem_of_getElem? (by simpa using ho))
  · have := wpAnyQIn_lex (F := F) (n := n) (C := fun w' => ∃ n, w' = w.drewN n) (md := .any) hB.1 l 0 (Array.replicate l.toArray.size false) a (by simp) (by simpa using hB.2) h
    simpa using this

/-- One round: where the loop's record is ready ahead of it and behind the assignment, and the body keeps it. -/
theorem yield_gen {F : Fence} {m : Nat} {P : Program} {l : Nat} {r : Loop} {args tmps : Array Value} {ps : Array Tmp} {assign body : Code} {a1 : Act} {W W2 : World} {R : Ending → World → Prop} (hl : W.heap[l]? = some (.loop r)) (hst : r.state = .ready) (ht : r.tmps = tmps) (hp : r.params = ps) (ha : r.assign = assign) (hb : r.body = body) (hsz : args.size = ps.size) (hfn : F.fn r.fn) (hl2 : W2.heap[l]? = some (.loop r))
    (hA : ∀ K : Act → World → Prop, K a1 W2 → assign.wpIn (F.inRound l) m P (Exit.then K (fun _ _ _ => False)) { tmps := (ps.zip args).foldl (fun t (p, v) => t.setIfInBounds p v) tmps, defers := [] } W)
    (hB : body.wpIn (F.inRound l) m P (fun e _ V => V.heap[l]? = some (.loop { r with state := .busy }) ∧ ((e = .normal ∧ R (.returned (.bool true)) (V.putObj l (.loop { r with state := .ready, pending := none }))) ∨ (e = .ret ∧ R (.returned (.bool false)) (V.putObj l (.loop { r with state := .done, pending := some .ret }))))) a1 (W2.putObj l (.loop { r with state := .busy }))) :
    YieldAt F m P l args W R := by
  subst ht hp ha hb
  refine ⟨_, _, _, _, run_yield hl hsz, roundIn_of_wpIn hfn (hA _ ⟨_, run_beginRound hl2 hst, wpIn_mono hB ?_⟩)⟩
  rintro e a3 V ⟨hb, ⟨rfl, h⟩ | ⟨rfl, h⟩⟩
  · exact ⟨_, _, run_endRound none hb, h⟩
  · exact ⟨_, _, run_endRound (some .ret) hb, h⟩

/-- At the wide fence the depth is nothing. -/
theorem YieldAt.wide {m m' : Nat} {P : Program} {l : Nat} {args : Array Value} {W : World} {R : Ending → World → Prop} (h : YieldAt Fence.wide m P l args W R) : YieldAt Fence.wide m' P l args W R := by
  obtain ⟨fn, tmps, assign, body, hy, hR⟩ := h
  exact ⟨fn, tmps, assign, body, hy, hR.1, fun c cs _ => hR.2 c cs (room_wide _)⟩

theorem YieldAt.inRound {F : Fence} {m : Nat} {P : Program} {l : Nat} {args : Array Value} {W : World} {R : Ending → World → Prop} (k : Nat) (h : YieldAt F m P l args W R) : YieldAt (F.inRound k) m P l args W R := h

theorem Kept.putObj {S : Nat → Prop} (W : World) (l : Nat) (o : Obj) (h : S l) : Kept S W (W.putObj l o) :=
  ⟨rfl, rfl, rfl, by simp [World.putObj], fun b _ hs => World.putObj_heap_other (fun e => hs (e ▸ h))⟩

/-- The loop: the function that is ranged over is called with the loop's own yield. -/
theorem range_of {F : Fence} {n : Nat} {P : Program} {g : Operand} {ps : Array Tmp} {assign body : Code} {Q : Exit → Act → World → Prop} {a : Act} {w : World} (hro : F.round = none) (h1 : 1 ≤ n) {gf : Nat} {lb : Array Value} (hg : a.eval g = .func (.func gf) #[] lb) (hF : F.fn gf) (he : ∀ args w, (callFunc gf args).run P w = .ok (.enter gf args) w)
    (h : ∀ r : Loop, F.fn r.fn → r.state = .ready → r.pending = none → r.tmps = a.tmps → r.params = ps → r.assign = assign → r.body = body → CallsIn F (n - 1) P gf (#[.func (.yield (w.heap.size + 1)) #[] #[]] ++ lb) ((w.alloc (.deferred (some []))).alloc (.loop r)) fun e W => (∃ v, e = .returned v) ∧ ∃ r : Loop, W.heap[w.heap.size + 1]? = some (.loop r) ∧ r.state ≠ .busy ∧
      ((r.pending = none ∧ Q .normal { a with defers := { target := .collected w.heap.size, args := #[] } :: a.defers } (W.putObj (w.heap.size + 1) (.loop { r with state := .exhausted }))) ∨ (∃ c, r.pending = some c ∧ c.wpIn F n P Q { a with defers := { target := .collected w.heap.size, args := #[] } :: a.defers } (W.putObj (w.heap.size + 1) (.loop { r with state := .exhausted }))))) :
    (Code.rangeFunc g ps assign body).wpIn F n P Q a w := by
  refine wpIn_rangeFunc (fun fn hfn => ?_)
  refine ⟨w.heap.size + 1, [{ target := .collected w.heap.size, args := #[] }], _, { target := .fn (.func gf) lb, args := #[.func (.yield (w.heap.size + 1)) #[] #[]] }, ((w.alloc (.deferred (some []))).alloc (.loop { state := .ready, pending := none, fn, tmps := a.tmps, params := ps, assign, body, defers := w.heap.size })), gf, _, _, by rw [hro]; exact run_enterLoop_outer _ _ _ _ _, ?_, ?_, ?_, fun _ => h1, (h { state := .ready, pending := none, fn, tmps := a.tmps, params := ps, assign, body, defers := w.heap.size } hfn rfl rfl rfl rfl rfl rfl).mono ?_⟩
  · simp only [resolve, hg]
    simp [go_sem]
  · intro f hf
    simp [Target.leads] at hf
    exact hf ▸ hF
  · simp [invoke, go_sem, he]
  · rintro e W ⟨⟨v, rfl⟩, r, hr, hb, hq⟩
    have hend := run_endLoop (P := P) hr hb
    rcases hq with ⟨hp, q⟩ | ⟨c, hp, q⟩
    · rw [hp] at hend q
      exact ⟨none, _, hend, q⟩
    · rw [hp] at hend q
      exact ⟨some c, _, hend, q⟩

/-! A region that draws its order, within a round, by the laws of a region whose worlds meet a condition. -/

theorem operIn_wide {n : Nat} {P : Program} {o : Oper} {a : Act} {w : World} {K : Act → World → Prop} {Q : Exit → Act → World → Prop} (h : o.wp P a w K Q) : o.wpIn Fence.wide n P a w K Q := by
  refine ⟨fun _ _ => trivial, ?_⟩
  unfold Oper.wp at h
  show o.uponIn Fence.wide n P a K Q ((o.semAt none a.eval).run P w)
  rw [Oper.semAt_none]
  generalize (execOp a.eval o).run P w = res at *
  cases res with
  | ok nx w' =>
    cases nx with
    | enter f args => exact ⟨fun h => by simp [Fence.wide] at h, callsIn_wide.2 h⟩
    | row row args =>
      refine ⟨fun h => by simp [Fence.wide] at h, fun c cs _ => ?_⟩
      obtain ⟨v, w'', r, s⟩ := h c cs
      exact ⟨v, w'', r, stepsIn_wide.2 s⟩
    | _ => first | exact h | exact h.elim
  | halt hh w' =>
    cases hh <;> first | exact h | exact h.elim

theorem anyIn_wide {n : Nat} {P : Program} {md : Region.Mode} {ops : Array Oper} {Q : Exit → Act → World → Prop} (hQ : ¬ LetsOut Q) : ∀ (fuel : Nat) (listed : Array Bool) (a : Act) (w : World), wpAny P md ops Q fuel listed a w → wpAnyIn Fence.wide n P md ops Q fuel listed a w
  | 0, _, _, _, h => h
  | fuel + 1, listed, a, w, h => by
    refine ⟨h.1, fun i hi => ?_⟩
    have h2 := h.2 i hi
    unfold wpOp at h2
    unfold wpOpIn
    split
    · rename_i ho
      simp only [ho] at h2
      exact anyIn_wide hQ fuel _ a w h2
    · rename_i o ho
      simp only [ho] at h2
      split
      · rename_i hw
        simp only [hw, if_true] at h2
        rcases h2 with h2 | h2
        · exact operIn_wide (Oper.wp_mono (fun a w hh => anyIn_wide hQ fuel _ a w hh) h2)
        · exact absurd h2.2 hQ
      · rename_i hw
        simp only [hw] at h2
        exact ⟨fun _ _ => trivial, anyIn_wide hQ fuel _ _ w h2⟩

theorem region_round_held {n : Nat} {P : Program} {id r : Nat} {Q : Exit → Act → World → Prop} {a : Act} {w : World} {l : List Oper} (S : World → Prop) (hm : P.follows .mixedOrders = true) (hp : l.all plainOp = true) (hQ : ¬ LetsOut Q)
    (h : wpAnyH P .any l.toArray Q S l.toArray.size (Array.replicate l.toArray.size false) a w.drew) : (Code.region id l.toArray true).wpIn (Fence.wide.inRound r) n P Q a w := by
  refine wpIn_region_any hm (wpAnyIn_round r ?_ _ _ _ _ (anyIn_wide hQ _ _ _ _ (wpAny_of_held _ _ _ _ h)))
  intro i o ho
  rw [List.all_eq_true] at hp
  exact hp o (List.mem_of_getElem? (by simpa using ho))

/-- A post that no way out but the normal one meets. -/
def nrm (K : Act → World → Prop) : Exit → Act → World → Prop
  | .normal, a, w => K a w
  | _, _, _ => False

theorem wp_nrm {P : Program} {c : Code} {Q : Exit → Act → World → Prop} {a : Act} {w : World} (h : c.wp P (nrm (fun a w => Q .normal a w)) a w) : c.wp P Q a w :=
  Code.wp_mono (fun e a w h => by cases e <;> first | exact h | exact (h : False).elim) h

theorem wpIn_nrm {F : Fence} {n : Nat} {P : Program} {c : Code} {Q : Exit → Act → World → Prop} {a : Act} {w : World} (h : c.wpIn F n P (nrm (fun a w => Q .normal a w)) a w) : c.wpIn F n P Q a w :=
  wpIn_mono h (fun e a w h => by cases e <;> first | exact h | exact (h : False).elim)

theorem nrm_out (K : Act → World → Prop) : ¬ LetsOut (nrm K) := fun ⟨_, _, h⟩ => h

end Go.Proofs.YtdecceekodpjiaaDoor

/-
  The function that Walk makes: it tells the nodes in order, each a copy.
-/
namespace Go.Proofs.YtdecceekodpjiaaDoor
open Go.RowKit Go.Shelf
attribute [local go_sem] Oper.semAt_some

/-- Nodes of memory are fine. -/
theorem NodesAt.fine {w : World} {a : Option Addr} {ns : List Nd} (C : NodesAt w a ns) : ∀ n ∈ ns, NdOk n ∧ ∀ s ∈ n.after, s.size ≤ maxLen := by
  intro n hn
  refine ⟨C.1 n hn, ?_⟩
  rcases C.2 with h | ⟨b, o, h, hc⟩
  · subst h; simp at hn
  · obtain ⟨i, hi, rfl⟩ := List.mem_iff_getElem.1 hn
    obtain ⟨v, ⟨_, _, _, _, _, _, h5⟩, _⟩ := hc i hi
    exact h5

end Go.Proofs.YtdecceekodpjiaaDoor

/-
  Depth: rows of nodes as data, and what stands between the rounds over Walk.
-/
namespace Go.Proofs.YtdecceekodpjiaaDoor
open Go.RowKit Go.Shelf

/-- The number that a name stands for in the table of the first nodes (0: of none). -/
def fj (ns : List Nd) (s : ByteArray) : Nat := (findP ns s).getD 0
/-- The longest row that ends with one of some names, and none shorter than a. -/
def curP (ns : List Nd) (row : Nat → Nat) (i a : Nat) (l : List ByteArray) : Nat := l.foldl (fun a s => max a (if fj ns s = i then a else row (fj ns s))) a

/-- One node more is told. -/
def depStep (ns : List Nd) (st : (Nat → Nat) × Nat) (i : Nat) : (Nat → Nat) × Nat := match ns[i]? with
  | none => st
  | some n => (fun x => if x = i then curP ns st.1 i (st.1 i) n.after + 1 else st.1 x, max st.2 (curP ns st.1 i (st.1 i) n.after + 1))

def depK (ns : List Nd) (od : List Nat) : (Nat → Nat) × Nat := od.foldl (depStep ns) (fun _ => 0, 0)
/-- How many nodes the longest row has. -/
def depP (ns : List Nd) : Nat := (depK ns (ordP ns)).2

theorem curP_snoc (ns : List Nd) (row : Nat → Nat) (i a : Nat) (l : List ByteArray) (s : ByteArray) : curP ns row i a (l ++ [s]) = max (curP ns row i a l) (if fj ns s = i then curP ns row i a l else row (fj ns s)) := by
  unfold curP
  rw [List.foldl_append]
  rfl

theorem curP_le {ns : List Nd} {row : Nat → Nat} {i m : Nat} (h : ∀ x, row x ≤ m) : ∀ (l : List ByteArray) (a : Nat), a ≤ m → curP ns row i a l ≤ m
  | [], a, ha => ha
  | s :: l, a, ha => by
    show curP ns row i (max a (if fj ns s = i then a else row (fj ns s))) l ≤ m
    refine curP_le h l _ ?_
    have := h (fj ns s)
    split <;> omega

theorem depK_snoc (ns : List Nd) (od : List Nat) (i : Nat) : depK ns (od ++ [i]) = depStep ns (depK ns od) i := by
  unfold depK
  rw [List.foldl_append]
  rfl

theorem depK_le (ns : List Nd) (od : List Nat) : ∀ k, (∀ x, (depK ns (od.take k)).1 x ≤ k) ∧ (depK ns (od.take k)).2 ≤ k
  | 0 => by simp [depK]
  | k + 1 => by
    obtain ⟨h1, h2⟩ := depK_le ns od k
    by_cases hk : k < od.length
    · rw [List.take_add_one, List.getElem?_eq_getElem hk, Option.toList_some, depK_snoc]
      unfold depStep
      cases ns[od[k]]? with
      | none => exact ⟨fun x => Nat.le_succ_of_le (h1 x), Nat.le_succ_of_le h2⟩
      | some n =>
        have hc := curP_le (ns := ns) (i := od[k]) h1 n.after _ (h1 od[k])
        refine ⟨fun x => ?_, by show max _ _ ≤ _; omega⟩
        show (if x = od[k] then _ else _) ≤ _
        have := h1 x
        split <;> omega
    · rw [List.take_of_length_le (by omega)]
      rw [List.take_of_length_le (by omega)] at h1 h2
      exact ⟨fun x => by have := h1 x; omega, by omega⟩

/-- Between the rounds: the table's box, the row and its box, the longest, the mark, the loop's record. -/
structure DJ (w1 w2 : World) (ns : List Nd) (mb : Nat) (r : Loop) (W : World) (row : Nat → Nat) (lng : Nat) : Prop where
  fb : W.heap[w1.heap.size]? = some (.cells #[.map (some mb)] 110 (0, 0))
  row : W.rowIs (w1.heap.size + 1) 3 ns.length (fun x => .int .i64 (row x : Nat))
  rc : W.heap[w1.heap.size + 2]? = some (.cells #[.slice (some ⟨w1.heap.size + 1, 0, none⟩) ns.length ns.length] 85 (0, 0))
  lb : W.heap[w1.heap.size + 3]? = some (.cells #[.int .i64 (lng : Nat)] 3 (0, 0))
  dm : W.heap[w2.heap.size]? = some (.deferred (some []))
  lp : W.heap[w2.heap.size + 1]? = some (.loop r)
  kp : Kept (fun j => w1.heap.size ≤ j) w1 W
  mid : ∀ g, w1.heap.size + 4 ≤ g → g < w2.heap.size → W.heap[g]? = w2.heap[g]?
  big : w1.heap.size + 4 ≤ w2.heap.size
  sz : w2.heap.size + 2 ≤ W.heap.size

section
variable {w1 w2 W V : World} {ns : List Nd} {mb : Nat} {r : Loop} {row : Nat → Nat} {lng : Nat}

theorem DJ.keep (J : DJ w1 w2 ns mb r W row lng) (K : Kept (fun _ => False) W V) : DJ w1 w2 ns mb r V row lng := by
  have h : ∀ {i o}, W.heap[i]? = some o → V.heap[i]? = some o := fun {i o} hh => (K.block i (Array.getElem?_eq_some_iff.1 hh).1 (fun h => h)).trans hh
  have hb := J.big
  have hs := J.sz
  exact ⟨h J.fb, J.row.of_block (K.block _ J.row.lt (fun h => h)), h J.rc, h J.lb, h J.dm, h J.lp, J.kp.and (K.mono (fun _ h => h.elim)), fun g h1 h2 => (K.block g (by omega) (fun h => h)).trans (J.mid g h1 h2), J.big, Nat.le_trans J.sz K.size⟩

theorem DJ.put (J : DJ w1 w2 ns mb r W row lng) (r' : Loop) : DJ w1 w2 ns mb r' (W.putObj (w2.heap.size + 1) (.loop r')) row lng := by
  have K : Kept (fun j => j = w2.heap.size + 1) W (W.putObj (w2.heap.size + 1) (.loop r')) := Kept.putObj _ _ _ rfl
  have hl := (Array.getElem?_eq_some_iff.1 J.lp).1
  have hb := J.big
  have h : ∀ {i o}, i ≠ w2.heap.size + 1 → W.heap[i]? = some o → (W.putObj (w2.heap.size + 1) (.loop r')).heap[i]? = some o := fun {i o} hn hh => (K.block i (Array.getElem?_eq_some_iff.1 hh).1 hn).trans hh
  refine ⟨h (by omega) J.fb, J.row.of_block (K.block _ J.row.lt (by omega)), h (by omega) J.rc, h (by omega) J.lb, h (by omega) J.dm, ?_, J.kp.and (K.mono (fun j h => by omega)), fun g h1 h2 => (K.block g (by have := J.sz; omega) (by omega)).trans (J.mid g h1 h2), J.big, by simpa [World.putObj] using J.sz⟩
  simp [World.putObj, hl]

theorem DJ.setRow (J : DJ w1 w2 ns mb r W row lng) (i z : Nat) {zi : Int} (hz : zi = ((z : Nat) : Int)) : DJ w1 w2 ns mb r (W.setCell ⟨w1.heap.size + 1, i, none⟩ (.int .i64 zi)) (fun x => if x = i then z else row x) lng := by
  subst hz
  have K : Kept (fun j => j = w1.heap.size + 1) W (W.setCell ⟨w1.heap.size + 1, i, none⟩ (.int .i64 (z : Nat))) := Kept.setCell _ _ _ rfl
  have hb := J.big
  have h : ∀ {k o}, k ≠ w1.heap.size + 1 → W.heap[k]? = some o → (W.setCell ⟨w1.heap.size + 1, i, none⟩ (.int .i64 (z : Nat))).heap[k]? = some o := fun {k o} hn hh => (K.block k (Array.getElem?_eq_some_iff.1 hh).1 hn).trans hh
  exact ⟨h (by omega) J.fb, (J.row.set i _).congr (fun q _ => by split <;> rfl), h (by omega) J.rc, h (by omega) J.lb, h (by omega) J.dm, h (by omega) J.lp, J.kp.and (K.mono (fun j h => by omega)), fun g h1 h2 => (K.block g (by have := J.sz; omega) (by omega)).trans (J.mid g h1 h2), J.big, by simpa [World.setCell] using J.sz⟩

theorem DJ.setLng (J : DJ w1 w2 ns mb r W row lng) (z : Nat) {zi : Int} (hz : zi = ((z : Nat) : Int)) : DJ w1 w2 ns mb r (W.setCell ⟨w1.heap.size + 3, 0, none⟩ (.int .i64 zi)) row z := by
  subst hz
  have K : Kept (fun j => j = w1.heap.size + 3) W (W.setCell ⟨w1.heap.size + 3, 0, none⟩ (.int .i64 (z : Nat))) := Kept.setCell _ _ _ rfl
  have hb := J.big
  have h : ∀ {k o}, k ≠ w1.heap.size + 3 → W.heap[k]? = some o → (W.setCell ⟨w1.heap.size + 3, 0, none⟩ (.int .i64 (z : Nat))).heap[k]? = some o := fun {k o} hn hh => (K.block k (Array.getElem?_eq_some_iff.1 hh).1 hn).trans hh
  exact ⟨h (by omega) J.fb, J.row.of_block (K.block _ J.row.lt (by omega)), h (by omega) J.rc, by simp [World.setCell, Array.getElem?_modify, J.lb], h (by omega) J.dm, h (by omega) J.lp, J.kp.and (K.mono (fun j h => by omega)), fun g h1 h2 => (K.block g (by have := J.sz; omega) (by omega)).trans (J.mid g h1 h2), J.big, by simpa [World.setCell] using J.sz⟩

theorem DJ.is (J : DJ w1 w2 ns mb r W row lng) {row' : Nat → Nat} {lng' : Nat} (h1 : ∀ x, row x = row' x) (h2 : lng = lng') : DJ w1 w2 ns mb r W row' lng' := by
  have : row = row' := funext h1
  subst this h2
  exact J

/-- Texts stay where they are while numbers, the longest and the record are written. -/
theorem texts_stay {W1 : World} (J : DJ w1 w2 ns mb r W1 row lng) {a : Option Addr} {c : Nat} {l : List ByteArray} (h : TextsAt W1 (.slice a l.length c) l) (hV : ∀ g, g < W1.heap.size → g ≠ w1.heap.size + 1 → g ≠ w1.heap.size + 3 → g ≠ w2.heap.size + 1 → V.heap[g]? = W1.heap[g]?) : TextsAt V (.slice a l.length c) l := by
  obtain ⟨a', c', e, h1, h2, h3, h4⟩ := h
  refine ⟨a', c', e, h1, h2, ?_, h4⟩
  rcases h3 with h | ⟨b, o, rfl, hc⟩
  · exact .inl h
  · refine .inr ⟨b, o, rfl, fun j u hu => ?_⟩
    have hcell := hc j u hu
    have hlt := World.block_lt_of_cell? W1 _ hcell
    have hu2 : ∃ s, u = .string s := by
      rw [List.getElem?_map] at hu
      cases hs : l[j]? with
      | none => rw [hs] at hu; cases hu
      | some s => rw [hs] at hu; exact ⟨s, (Option.some.inj hu).symm⟩
    obtain ⟨s, rfl⟩ := hu2
    have e1 : b ≠ w1.heap.size + 1 := by
      intro e
      subst e
      by_cases hj : o + j < ns.length
      · rw [J.row.cell hj] at hcell; cases hcell
      · obtain ⟨cs, hb, hn, _⟩ := J.row
        simp [World.cell?, hb] at hcell
        have := (Array.getElem?_eq_some_iff.1 hcell).1
        omega
    have e2 : b ≠ w1.heap.size + 3 := by
      intro e
      subst e
      rw [World.cell?] at hcell
      simp only [J.lb] at hcell
      cases ho : o + j with
      | zero => rw [ho] at hcell; simp at hcell
      | succ q => rw [ho] at hcell; simp at hcell
    have e3 : b ≠ w2.heap.size + 1 := by
      intro e
      subst e
      simp [World.cell?, J.lp] at hcell
    rw [World.cell?_of_block (w := W1) (hV b hlt e1 e2 e3)]
    exact hcell

end

end Go.Proofs.YtdecceekodpjiaaDoor

/-
  Depth: the longest row so far.
-/
namespace Go.Proofs.YtdecceekodpjiaaDoor
open Go.RowKit Go.Shelf
attribute [local go_sem] Oper.semAt_some

set_option maxRecDepth 100000 in
set_option maxHeartbeats 2000000 in
theorem dep13 {W : World} {lb rc rb n i x y : Nat} {m r : Nat} {ds : List Deferred} {u0 u1 u2 u3 u7 u8 u9 u10 u11 u12 u13 u14 u15 u16 u17 u18 u19 u20 u21 u22 u23 u24 u25 u26 u27 u28 u29 u30 u31 u32 u33 u34 u35 u36 u37 u38 u39 u40 u41 u42 u43 u44 u45 u46 u47 u48 u49 u50 u51 u52 u53 u54 : Value} (K : Act → World → Prop) (hc : W.drew.cell? ⟨rc, 0, none⟩ = some (.slice (some ⟨rb, 0, none⟩) n n)) (hx : W.drew.cell? ⟨lb, 0, none⟩ = some (.int .i64 (x : Nat))) (hy : W.drew.cell? ⟨rb, i, none⟩ = some (.int .i64 (y : Nat))) (hz : W.drew.frozen? ⟨lb, 0, none⟩ = false) (hi : (i : Int) < (n : Int))
    (h : ∀ (v48 v49 v50 v51 v52 v53 : Value), K { tmps := #[u0, u1, u2, u3, .pointer (some ⟨rc, 0, none⟩), .pointer (some ⟨lb, 0, none⟩), .int .i64 (i : Nat), u7, u8, u9, u10, u11, u12, u13, u14, u15, u16, u17, u18, u19, u20, u21, u22, u23, u24, u25, u26, u27, u28, u29, u30, u31, u32, u33, u34, u35, u36, u37, u38, u39, u40, u41, u42, u43, u44, u45, u46, u47, v48, v49, v50, v51, v52, v53, u54], defers := ds } (W.drew.setCell ⟨lb, 0, none⟩ (.int .i64 (max (x : Int) (y : Int))))) :
    (Code.region 13 #[{ dst := some 48, op := Op.load 3 (Operand.tmp 5), type := 3, pos := "order.go:108", after := #[], guard := none }, { dst := some 49, op := Op.load 85 (Operand.tmp 4), type := 85, pos := "order.go:108", after := #[], guard := none }, { dst := some 50, op := Op.move (Operand.tmp 6), type := 3, pos := "order.go:108", after := #[], guard := none }, { dst := some 51, op := Op.indexAddr 85 (Operand.tmp 49) (Operand.tmp 50), type := 0, pos := "order.go:108", after := #[{ on := 1, ground := Ground.data }, { on := 2, ground := Ground.data }], guard := none }, { dst := some 52, op := Op.load 3 (Operand.tmp 51), type := 3, pos := "order.go:108", after := #[{ on := 3, ground := Ground.data }], guard := none }, { dst := some 53, op := Op.call { callee := Callee.builtin Builtin.max, args := #[Operand.tmp 48, Operand.tmp 52], argTypes := #[3, 3] }, type := 3, pos := "order.go:108", after := #[{ on := 0, ground := Ground.data }, { on := 4, ground := Ground.data }], guard := none }, { dst := none, op := Op.store 3 (Operand.tmp 5) (Operand.tmp 53), type := 0, pos := "order.go:108", after := #[{ on := 5, ground := Ground.data }, { on := 0, ground := Ground.phase }, { on := 1, ground := Ground.phase }, { on := 2, ground := Ground.phase }, { on := 3, ground := Ground.phase }, { on := 4, ground := Ground.phase }, { on := 5, ground := Ground.phase }], guard := none }] true).wpIn (Fence.wide.inRound r) m Tryd.prog (nrm K) { tmps := #[u0, u1, u2, u3, .pointer (some ⟨rc, 0, none⟩), .pointer (some ⟨lb, 0, none⟩), .int .i64 (i : Nat), u7, u8, u9, u10, u11, u12, u13, u14, u15, u16, u17, u18, u19, u20, u21, u22, u23, u24, u25, u26, u27, u28, u29, u30, u31, u32, u33, u34, u35, u36, u37, u38, u39, u40, u41, u42, u43, u44, u45, u46, u47, u48, u49, u50, u51, u52, u53, u54], defers := ds } W := by
  have HH : Hid _ := h
  clear h
  gi_region
  all_goals exact HH.out _ _ _ _ _ _

end Go.Proofs.YtdecceekodpjiaaDoor

/-
  Depth: a row that ends with a node ahead is held against the longest so far.
-/
namespace Go.Proofs.YtdecceekodpjiaaDoor
open Go.RowKit Go.Shelf

set_option maxRecDepth 100000 in
set_option maxHeartbeats 2000000 in
theorem dep10 {W : World} {fb rc rb mb n i j x y : Nat} {s : ByteArray} {m r : Nat} {ds : List Deferred} {u0 u1 u2 u5 u7 u8 u10 u11 u12 u13 u14 u15 u16 u17 u18 u19 u20 u21 u22 u23 u24 u25 u26 u27 u28 u29 u30 u31 u32 u33 u34 u35 u36 u37 u38 u39 u40 u41 u42 u43 u44 u45 u46 u47 u48 u49 u50 u51 u52 u53 u54 : Value} (K : Act → World → Prop)
    (hS : ∀ V, V = W.drew ∨ V = W.drew.setCell ⟨rb, i, none⟩ (.int .i64 (max (x : Int) (y : Int))) → V.cell? ⟨rc, 0, none⟩ = some (.slice (some ⟨rb, 0, none⟩) n n) ∧ V.cell? ⟨fb, 0, none⟩ = some (.map (some mb)) ∧ (Instr.lookup 110 (.map (some mb)) (.string s) false).run Tryd.prog V = .ok (.int .i64 (j : Nat)) V)
    (hx : W.drew.cell? ⟨rb, i, none⟩ = some (.int .i64 (x : Nat))) (hy : W.drew.cell? ⟨rb, j, none⟩ = some (.int .i64 (y : Nat))) (hz : W.drew.frozen? ⟨rb, i, none⟩ = false) (hi : (i : Int) < (n : Int)) (hj : (j : Int) < (n : Int))
    (h : ∀ (v27 v28 v29 v30 v31 v32 v33 v34 v35 v36 v37 v38 v39 v40 : Value), K { tmps := #[u0, u1, u2, .pointer (some ⟨fb, 0, none⟩), .pointer (some ⟨rc, 0, none⟩), u5, .int .i64 (i : Nat), u7, u8, .string s, u10, u11, u12, u13, u14, u15, u16, u17, u18, u19, u20, u21, u22, u23, u24, u25, u26, v27, v28, v29, v30, v31, v32, v33, v34, v35, v36, v37, v38, v39, v40, u41, u42, u43, u44, u45, u46, u47, u48, u49, u50, u51, u52, u53, u54], defers := ds } (W.drew.setCell ⟨rb, i, none⟩ (.int .i64 (max (x : Int) (y : Int))))) :
    (Code.region 10 #[{ dst := some 27, op := Op.load 85 (Operand.tmp 4), type := 85, pos := "order.go:105", after := #[], guard := none }, { dst := some 28, op := Op.move (Operand.tmp 6), type := 3, pos := "order.go:105", after := #[], guard := none }, { dst := some 29, op := Op.load 85 (Operand.tmp 4), type := 85, pos := "order.go:105", after := #[], guard := none }, { dst := some 30, op := Op.move (Operand.tmp 6), type := 3, pos := "order.go:105", after := #[], guard := none }, { dst := some 31, op := Op.indexAddr 85 (Operand.tmp 29) (Operand.tmp 30), type := 0, pos := "order.go:105", after := #[{ on := 2, ground := Ground.data }, { on := 3, ground := Ground.data }], guard := none }, { dst := some 32, op := Op.load 3 (Operand.tmp 31), type := 3, pos := "order.go:105", after := #[{ on := 4, ground := Ground.data }], guard := none }, { dst := some 33, op := Op.load 85 (Operand.tmp 4), type := 85, pos := "order.go:105", after := #[], guard := none }, { dst := some 34, op := Op.load 110 (Operand.tmp 3), type := 110, pos := "order.go:105", after := #[], guard := none }, { dst := some 35, op := Op.move (Operand.tmp 9), type := 9, pos := "order.go:105", after := #[], guard := none }, { dst := some 36, op := Op.lookup 110 (Operand.tmp 34) (Operand.tmp 35) false, type := 3, pos := "order.go:105", after := #[{ on := 7, ground := Ground.data }, { on := 8, ground := Ground.data }], guard := none }, { dst := some 37, op := Op.indexAddr 85 (Operand.tmp 33) (Operand.tmp 36), type := 0, pos := "order.go:105", after := #[{ on := 6, ground := Ground.data }, { on := 9, ground := Ground.data }], guard := none }, { dst := some 38, op := Op.load 3 (Operand.tmp 37), type := 3, pos := "order.go:105", after := #[{ on := 10, ground := Ground.data }], guard := none }, { dst := some 39, op := Op.call { callee := Callee.builtin Builtin.max, args := #[Operand.tmp 32, Operand.tmp 38], argTypes := #[3, 3] }, type := 3, pos := "order.go:105", after := #[{ on := 5, ground := Ground.data }, { on := 11, ground := Ground.data }], guard := none }, { dst := some 40, op := Op.indexAddr 85 (Operand.tmp 27) (Operand.tmp 28), type := 0, pos := "order.go:105", after := #[{ on := 0, ground := Ground.data }, { on := 1, ground := Ground.data }, { on := 0, ground := Ground.phase }, { on := 1, ground := Ground.phase }, { on := 2, ground := Ground.phase }, { on := 3, ground := Ground.phase }, { on := 4, ground := Ground.phase }, { on := 5, ground := Ground.phase }, { on := 6, ground := Ground.phase }, { on := 7, ground := Ground.phase }, { on := 8, ground := Ground.phase }, { on := 9, ground := Ground.phase }, { on := 10, ground := Ground.phase }, { on := 11, ground := Ground.phase }, { on := 12, ground := Ground.phase }], guard := none }, { dst := none, op := Op.store 3 (Operand.tmp 40) (Operand.tmp 39), type := 0, pos := "order.go:105", after := #[{ on := 13, ground := Ground.data }, { on := 12, ground := Ground.data }, { on := 0, ground := Ground.phase }, { on := 1, ground := Ground.phase }, { on := 2, ground := Ground.phase }, { on := 3, ground := Ground.phase }, { on := 4, ground := Ground.phase }, { on := 5, ground := Ground.phase }, { on := 6, ground := Ground.phase }, { on := 7, ground := Ground.phase }, { on := 8, ground := Ground.phase }, { on := 9, ground := Ground.phase }, { on := 10, ground := Ground.phase }, { on := 11, ground := Ground.phase }, { on := 12, ground := Ground.phase }], guard := none }] true).wpIn (Fence.wide.inRound r) m Tryd.prog (nrm K) { tmps := #[u0, u1, u2, .pointer (some ⟨fb, 0, none⟩), .pointer (some ⟨rc, 0, none⟩), u5, .int .i64 (i : Nat), u7, u8, .string s, u10, u11, u12, u13, u14, u15, u16, u17, u18, u19, u20, u21, u22, u23, u24, u25, u26, u27, u28, u29, u30, u31, u32, u33, u34, u35, u36, u37, u38, u39, u40, u41, u42, u43, u44, u45, u46, u47, u48, u49, u50, u51, u52, u53, u54], defers := ds } W := by
  have HH : Hid _ := h
  have HS : Hid _ := hS
  have g1 : (0 : Int) ≤ (i : Int) := by omega
  have g2 : (0 : Int) ≤ (j : Int) := by omega
  clear h hS
  refine region_round_held (fun V => V = W.drew ∨ V = W.drew.setCell ⟨rb, i, none⟩ (.int .i64 (max (x : Int) (y : Int)))) (by kernel_rfl) (by kernel_rfl) (nrm_out _) ?_
  refine wpAnyH_take (i := 0) (oi := { dst := some 27, op := Op.load 85 (Operand.tmp 4), type := 85, pos := "order.go:105", after := #[], guard := none }) (v := ?vvt0) rfl (by kernel_rfl) (by kernel_rfl) (by kernel_rfl) (fun _ _ _ h => h) (Or.inl ⟨by rfl, ?hyt0⟩) (Or.inl rfl) ?restt0
  case hyt0 =>
    intro V hV
    obtain ⟨hc, hf, hl⟩ := HS.out V hV
    go_simp
    all_goals rfl
  simp only [Act.put, List.setIfInBounds_toArray, List.set_cons_zero, List.set_cons_succ]
  refine wpAnyH_take (i := 1) (oi := { dst := some 28, op := Op.move (Operand.tmp 6), type := 3, pos := "order.go:105", after := #[], guard := none }) (v := ?vvt1) rfl (by kernel_rfl) (by kernel_rfl) (by kernel_rfl) (fun _ _ _ h => h) (Or.inl ⟨by rfl, ?hyt1⟩) (Or.inl rfl) ?restt1
  case hyt1 =>
    intro V hV
    obtain ⟨hc, hf, hl⟩ := HS.out V hV
    go_simp
    all_goals rfl
  simp only [Act.put, List.setIfInBounds_toArray, List.set_cons_zero, List.set_cons_succ]
  refine wpAnyH_take (i := 2) (oi := { dst := some 29, op := Op.load 85 (Operand.tmp 4), type := 85, pos := "order.go:105", after := #[], guard := none }) (v := ?vvt2) rfl (by kernel_rfl) (by kernel_rfl) (by kernel_rfl) (fun _ _ _ h => h) (Or.inl ⟨by rfl, ?hyt2⟩) (Or.inl rfl) ?restt2
  case hyt2 =>
    intro V hV
    obtain ⟨hc, hf, hl⟩ := HS.out V hV
    go_simp
    all_goals rfl
  simp only [Act.put, List.setIfInBounds_toArray, List.set_cons_zero, List.set_cons_succ]
  refine wpAnyH_take (i := 3) (oi := { dst := some 30, op := Op.move (Operand.tmp 6), type := 3, pos := "order.go:105", after := #[], guard := none }) (v := ?vvt3) rfl (by kernel_rfl) (by kernel_rfl) (by kernel_rfl) (fun _ _ _ h => h) (Or.inl ⟨by rfl, ?hyt3⟩) (Or.inl rfl) ?restt3
  case hyt3 =>
    intro V hV
    obtain ⟨hc, hf, hl⟩ := HS.out V hV
    go_simp
    all_goals rfl
  simp only [Act.put, List.setIfInBounds_toArray, List.set_cons_zero, List.set_cons_succ]
  refine wpAnyH_take (i := 4) (oi := { dst := some 31, op := Op.indexAddr 85 (Operand.tmp 29) (Operand.tmp 30), type := 0, pos := "order.go:105", after := #[{ on := 2, ground := Ground.data }, { on := 3, ground := Ground.data }], guard := none }) (v := ?vvt4) rfl (by kernel_rfl) (by kernel_rfl) (by kernel_rfl) (fun _ _ _ h => h) (Or.inl ⟨by rfl, ?hyt4⟩) (Or.inl rfl) ?restt4
  case hyt4 =>
    intro V hV
    obtain ⟨hc, hf, hl⟩ := HS.out V hV
    go_simp
    all_goals rfl
  simp only [Act.put, List.setIfInBounds_toArray, List.set_cons_zero, List.set_cons_succ]
  refine wpAnyH_take (i := 6) (oi := { dst := some 33, op := Op.load 85 (Operand.tmp 4), type := 85, pos := "order.go:105", after := #[], guard := none }) (v := ?vvt6) rfl (by kernel_rfl) (by kernel_rfl) (by kernel_rfl) (fun _ _ _ h => h) (Or.inl ⟨by rfl, ?hyt6⟩) (Or.inl rfl) ?restt6
  case hyt6 =>
    intro V hV
    obtain ⟨hc, hf, hl⟩ := HS.out V hV
    go_simp
    all_goals rfl
  simp only [Act.put, List.setIfInBounds_toArray, List.set_cons_zero, List.set_cons_succ]
  refine wpAnyH_take (i := 7) (oi := { dst := some 34, op := Op.load 110 (Operand.tmp 3), type := 110, pos := "order.go:105", after := #[], guard := none }) (v := ?vvt7) rfl (by kernel_rfl) (by kernel_rfl) (by kernel_rfl) (fun _ _ _ h => h) (Or.inl ⟨by rfl, ?hyt7⟩) (Or.inl rfl) ?restt7
  case hyt7 =>
    intro V hV
    obtain ⟨hc, hf, hl⟩ := HS.out V hV
    go_simp
    all_goals rfl
  simp only [Act.put, List.setIfInBounds_toArray, List.set_cons_zero, List.set_cons_succ]
  refine wpAnyH_take (i := 8) (oi := { dst := some 35, op := Op.move (Operand.tmp 9), type := 9, pos := "order.go:105", after := #[], guard := none }) (v := ?vvt8) rfl (by kernel_rfl) (by kernel_rfl) (by kernel_rfl) (fun _ _ _ h => h) (Or.inl ⟨by rfl, ?hyt8⟩) (Or.inl rfl) ?restt8
  case hyt8 =>
    intro V hV
    obtain ⟨hc, hf, hl⟩ := HS.out V hV
    go_simp
    all_goals rfl
  simp only [Act.put, List.setIfInBounds_toArray, List.set_cons_zero, List.set_cons_succ]
  refine wpAnyH_take (i := 9) (oi := { dst := some 36, op := Op.lookup 110 (Operand.tmp 34) (Operand.tmp 35) false, type := 3, pos := "order.go:105", after := #[{ on := 7, ground := Ground.data }, { on := 8, ground := Ground.data }], guard := none }) (v := ?vvt9) rfl (by kernel_rfl) (by kernel_rfl) (by kernel_rfl) (fun _ _ _ h => h) (Or.inl ⟨by rfl, ?hyt9⟩) (Or.inl rfl) ?restt9
  case hyt9 =>
    intro V hV
    obtain ⟨hc, hf, hl⟩ := HS.out V hV
    go_simp
    all_goals rfl
  simp only [Act.put, List.setIfInBounds_toArray, List.set_cons_zero, List.set_cons_succ]
  refine wpAnyH_take (i := 10) (oi := { dst := some 37, op := Op.indexAddr 85 (Operand.tmp 33) (Operand.tmp 36), type := 0, pos := "order.go:105", after := #[{ on := 6, ground := Ground.data }, { on := 9, ground := Ground.data }], guard := none }) (v := ?vvt10) rfl (by kernel_rfl) (by kernel_rfl) (by kernel_rfl) (fun _ _ _ h => h) (Or.inl ⟨by rfl, ?hyt10⟩) (Or.inl rfl) ?restt10
  case hyt10 =>
    intro V hV
    obtain ⟨hc, hf, hl⟩ := HS.out V hV
    go_simp
    all_goals rfl
  simp only [Act.put, List.setIfInBounds_toArray, List.set_cons_zero, List.set_cons_succ]
  refine wpAnyH_ready (rs := [5, 11]) (by kernel_rfl) (by simp) (AllReadyH.cons (o := { dst := some 32, op := Op.load 3 (Operand.tmp 31), type := 3, pos := "order.go:105", after := #[{ on := 4, ground := Ground.data }], guard := none }) rfl (fun K' hK => ?ra) (AllReadyH.cons (o := { dst := some 38, op := Op.load 3 (Operand.tmp 37), type := 3, pos := "order.go:105", after := #[{ on := 10, ground := Ground.data }], guard := none }) rfl (fun K' hK => ?rb) AllReadyH.nil))
  case ra =>
    rw [if_pos (by simp [Region.wanted])]
    unfold Oper.wp
    go_simp
    refine hK.out _ _ (Or.inl rfl) (fun _ => ?_)
    clear hK K'
    try simp only [Act.put, List.setIfInBounds_toArray, List.set_cons_zero, List.set_cons_succ]
    refine wpAnyH_ready (rs := [11]) (by kernel_rfl) (by simp) (AllReadyH.cons (o := { dst := some 38, op := Op.load 3 (Operand.tmp 37), type := 3, pos := "order.go:105", after := #[{ on := 10, ground := Ground.data }], guard := none }) rfl (fun K' hK => ?_) AllReadyH.nil)
    rw [if_pos (by simp [Region.wanted])]
    unfold Oper.wp
    go_simp
    refine hK.out _ _ (Or.inl rfl) (fun _ => ?_)
    clear hK K'
    try simp only [Act.put, List.setIfInBounds_toArray, List.set_cons_zero, List.set_cons_succ]
    refine wpAnyH_take (i := 12) (oi := { dst := some 39, op := Op.call { callee := Callee.builtin Builtin.max, args := #[Operand.tmp 32, Operand.tmp 38], argTypes := #[3, 3] }, type := 3, pos := "order.go:105", after := #[{ on := 5, ground := Ground.data }, { on := 11, ground := Ground.data }], guard := none }) (v := ?vvma) rfl (by kernel_rfl) (by kernel_rfl) (by kernel_rfl) (fun _ _ _ h => h) (Or.inl ⟨by rfl, ?hyma⟩) (Or.inl rfl) ?restma
    case hyma =>
      intro V hV
      obtain ⟨hc, hf, hl⟩ := HS.out V hV
      go_simp
      all_goals rfl
    simp only [Act.put, List.setIfInBounds_toArray, List.set_cons_zero, List.set_cons_succ]
    refine wpAnyH_take (i := 13) (oi := { dst := some 40, op := Op.indexAddr 85 (Operand.tmp 27) (Operand.tmp 28), type := 0, pos := "order.go:105", after := #[{ on := 0, ground := Ground.data }, { on := 1, ground := Ground.data }, { on := 0, ground := Ground.phase }, { on := 1, ground := Ground.phase }, { on := 2, ground := Ground.phase }, { on := 3, ground := Ground.phase }, { on := 4, ground := Ground.phase }, { on := 5, ground := Ground.phase }, { on := 6, ground := Ground.phase }, { on := 7, ground := Ground.phase }, { on := 8, ground := Ground.phase }, { on := 9, ground := Ground.phase }, { on := 10, ground := Ground.phase }, { on := 11, ground := Ground.phase }, { on := 12, ground := Ground.phase }], guard := none }) (v := ?vvna) rfl (by kernel_rfl) (by kernel_rfl) (by kernel_rfl) (fun _ _ _ h => h) (Or.inl ⟨by rfl, ?hyna⟩) (Or.inl rfl) ?restna
    case hyna =>
      intro V hV
      obtain ⟨hc, hf, hl⟩ := HS.out V hV
      go_simp
      all_goals rfl
    simp only [Act.put, List.setIfInBounds_toArray, List.set_cons_zero, List.set_cons_succ]
    refine wpAnyH_ready (rs := [14]) (by kernel_rfl) (by simp) (AllReadyH.cons (o := { dst := none, op := Op.store 3 (Operand.tmp 40) (Operand.tmp 39), type := 0, pos := "order.go:105", after := #[{ on := 13, ground := Ground.data }, { on := 12, ground := Ground.data }, { on := 0, ground := Ground.phase }, { on := 1, ground := Ground.phase }, { on := 2, ground := Ground.phase }, { on := 3, ground := Ground.phase }, { on := 4, ground := Ground.phase }, { on := 5, ground := Ground.phase }, { on := 6, ground := Ground.phase }, { on := 7, ground := Ground.phase }, { on := 8, ground := Ground.phase }, { on := 9, ground := Ground.phase }, { on := 10, ground := Ground.phase }, { on := 11, ground := Ground.phase }, { on := 12, ground := Ground.phase }], guard := none }) rfl (fun K' hK => ?_) AllReadyH.nil)
    rw [if_pos (by simp [Region.wanted])]
    unfold Oper.wp
    go_simp
    refine hK.out _ _ (Or.inr rfl) (fun _ => ?_)
    clear hK K'
    try simp only [Act.put, List.setIfInBounds_toArray, List.set_cons_zero, List.set_cons_succ]
    refine wpAnyH_done (by kernel_rfl) ?_ _
    exact HH.out _ _ _ _ _ _ _ _ _ _ _ _ _ _
  case rb =>
    rw [if_pos (by simp [Region.wanted])]
    unfold Oper.wp
    go_simp
    refine hK.out _ _ (Or.inl rfl) (fun _ => ?_)
    clear hK K'
    try simp only [Act.put, List.setIfInBounds_toArray, List.set_cons_zero, List.set_cons_succ]
    refine wpAnyH_ready (rs := [5]) (by kernel_rfl) (by simp) (AllReadyH.cons (o := { dst := some 32, op := Op.load 3 (Operand.tmp 31), type := 3, pos := "order.go:105", after := #[{ on := 4, ground := Ground.data }], guard := none }) rfl (fun K' hK => ?_) AllReadyH.nil)
    rw [if_pos (by simp [Region.wanted])]
    unfold Oper.wp
    go_simp
    refine hK.out _ _ (Or.inl rfl) (fun _ => ?_)
    clear hK K'
    try simp only [Act.put, List.setIfInBounds_toArray, List.set_cons_zero, List.set_cons_succ]
    refine wpAnyH_take (i := 12) (oi := { dst := some 39, op := Op.call { callee := Callee.builtin Builtin.max, args := #[Operand.tmp 32, Operand.tmp 38], argTypes := #[3, 3] }, type := 3, pos := "order.go:105", after := #[{ on := 5, ground := Ground.data }, { on := 11, ground := Ground.data }], guard := none }) (v := ?vvmb) rfl (by kernel_rfl) (by kernel_rfl) (by kernel_rfl) (fun _ _ _ h => h) (Or.inl ⟨by rfl, ?hymb⟩) (Or.inl rfl) ?restmb
    case hymb =>
      intro V hV
      obtain ⟨hc, hf, hl⟩ := HS.out V hV
      go_simp
      all_goals rfl
    simp only [Act.put, List.setIfInBounds_toArray, List.set_cons_zero, List.set_cons_succ]
    refine wpAnyH_take (i := 13) (oi := { dst := some 40, op := Op.indexAddr 85 (Operand.tmp 27) (Operand.tmp 28), type := 0, pos := "order.go:105", after := #[{ on := 0, ground := Ground.data }, { on := 1, ground := Ground.data }, { on := 0, ground := Ground.phase }, { on := 1, ground := Ground.phase }, { on := 2, ground := Ground.phase }, { on := 3, ground := Ground.phase }, { on := 4, ground := Ground.phase }, { on := 5, ground := Ground.phase }, { on := 6, ground := Ground.phase }, { on := 7, ground := Ground.phase }, { on := 8, ground := Ground.phase }, { on := 9, ground := Ground.phase }, { on := 10, ground := Ground.phase }, { on := 11, ground := Ground.phase }, { on := 12, ground := Ground.phase }], guard := none }) (v := ?vvnb) rfl (by kernel_rfl) (by kernel_rfl) (by kernel_rfl) (fun _ _ _ h => h) (Or.inl ⟨by rfl, ?hynb⟩) (Or.inl rfl) ?restnb
    case hynb =>
      intro V hV
      obtain ⟨hc, hf, hl⟩ := HS.out V hV
      go_simp
      all_goals rfl
    simp only [Act.put, List.setIfInBounds_toArray, List.set_cons_zero, List.set_cons_succ]
    refine wpAnyH_ready (rs := [14]) (by kernel_rfl) (by simp) (AllReadyH.cons (o := { dst := none, op := Op.store 3 (Operand.tmp 40) (Operand.tmp 39), type := 0, pos := "order.go:105", after := #[{ on := 13, ground := Ground.data }, { on := 12, ground := Ground.data }, { on := 0, ground := Ground.phase }, { on := 1, ground := Ground.phase }, { on := 2, ground := Ground.phase }, { on := 3, ground := Ground.phase }, { on := 4, ground := Ground.phase }, { on := 5, ground := Ground.phase }, { on := 6, ground := Ground.phase }, { on := 7, ground := Ground.phase }, { on := 8, ground := Ground.phase }, { on := 9, ground := Ground.phase }, { on := 10, ground := Ground.phase }, { on := 11, ground := Ground.phase }, { on := 12, ground := Ground.phase }], guard := none }) rfl (fun K' hK => ?_) AllReadyH.nil)
    rw [if_pos (by simp [Region.wanted])]
    unfold Oper.wp
    go_simp
    refine hK.out _ _ (Or.inr rfl) (fun _ => ?_)
    clear hK K'
    try simp only [Act.put, List.setIfInBounds_toArray, List.set_cons_zero, List.set_cons_succ]
    refine wpAnyH_done (by kernel_rfl) ?_ _
    exact HH.out _ _ _ _ _ _ _ _ _ _ _ _ _ _

end Go.Proofs.YtdecceekodpjiaaDoor

/-
  Depth: how many nodes the longest row has.
-/
namespace Go.Proofs.YtdecceekodpjiaaDoor
open Go.RowKit Go.Shelf
attribute [local go_sem] Oper.semAt_some

theorem ordK_lt {ns : List Nd} : ∀ (k : Nat) (T : List Nat), (∀ i ∈ T, i < ns.length) → ∀ i ∈ ordK ns k T, i < ns.length
  | 0, T, h => h
  | k + 1, T, h => by
    unfold ordK
    cases hn : nextP ns T with
    | none => exact h
    | some j =>
      refine ordK_lt k (T ++ [j]) (fun i hi => ?_)
      rcases List.mem_append.1 hi with hi | hi
      · exact h i hi
      · simp at hi; subst hi; exact mayB_lt (nextP_is hn).1
theorem ordP_lt (ns : List Nd) : ∀ i ∈ ordP ns, i < ns.length := ordK_lt _ _ (fun i h => by simp at h)

theorem ordK_len {ns : List Nd} : ∀ (k : Nat) (T : List Nat), (ordK ns k T).length ≤ T.length + k
  | 0, T => Nat.le_refl _
  | k + 1, T => by
    unfold ordK
    cases nextP ns T with
    | none => simp only []; omega
    | some j => have := ordK_len (ns := ns) k (T ++ [j]); simp at this ⊢; omega
theorem ordP_len (ns : List Nd) : (ordP ns).length ≤ ns.length := by have := ordK_len (ns := ns) ns.length []; simpa [ordP] using this

end Go.Proofs.YtdecceekodpjiaaDoor

/-
  fits: a node has what its kind allows.
-/
namespace Go.Proofs.YtdecceekodpjiaaDoor
open Go.RowKit

end Go.Proofs.YtdecceekodpjiaaDoor

/-
  checkNode: what is wrong with a node, but for its After.
-/
namespace Go.Proofs.YtdecceekodpjiaaDoor
open Go.RowKit

theorem findP_some_self {ns : List Nd} {i : Nat} (hi : i < ns.length) : ∃ j, findP ns (ns[i]).name = some j ∧ j ≤ i := by
  cases h : findP ns (ns[i]).name with
  | none => exact absurd rfl (findP_none.1 h _ (List.getElem_mem hi))
  | some j =>
    refine ⟨j, rfl, ?_⟩
    apply Nat.le_of_not_lt
    intro hlt
    exact findP_first h hlt rfl

end Go.Proofs.YtdecceekodpjiaaDoor

/-
  Check: what is wrong with a definition.
-/
namespace Go.Proofs.YtdecceekodpjiaaDoor
open Go.RowKit

theorem firstE_mono {f : Nat → Int} {k : Nat} {x : Nat × Int} (h : firstE f k = some x) : ∀ {n}, k ≤ n → firstE f n = some x := by
  intro n hn
  induction n with
  | zero => obtain rfl : k = 0 := by omega
            exact h
  | succ n ih =>
    by_cases e : k = n + 1
    · subst e; exact h
    · rw [firstE, ih (by omega)]

theorem firstE_hit {f : Nat → Int} {k n : Nat} (h : firstE f k = none) (hk : k < n) (hf : f k ≠ 0) : firstE f n = some (k, f k) :=
  firstE_mono (k := k + 1) (by rw [firstE, h]; simp [hf]) (by omega)

theorem firstE_next {f : Nat → Int} {k : Nat} (h : firstE f k = none) (hf : f k = 0) : firstE f (k + 1) = none := by
  rw [firstE, h]; simp [hf]

/-- What is wrong with node i by itself; with its After. -/
def nodeAt (ns : List Nd) (i : Nat) : Int := match ns[i]? with | some n => nodeE ns i n | none => 0
def aftAt (ns : List Nd) (i : Nat) : Int := match ns[i]? with | some n => afterE ns n | none => 0

theorem checkP_eq (name : ByteArray) (ns : List Nd) : checkP name ns =
    if nameP name = false then ((-1 : Int), (17 : Int))
    else if ns.length < 1 ∨ 32 < ns.length then ((-1 : Int), (10 : Int))
    else match firstE (nodeAt ns) ns.length with
      | some (i, e) => ((i : Int), e)
      | none => match firstE (aftAt ns) ns.length with
        | some (i, e) => ((i : Int), e)
        | none => if (ordP ns).length = ns.length then ((-1 : Int), (0 : Int)) else ((-1 : Int), (15 : Int)) := rfl

end Go.Proofs.YtdecceekodpjiaaDoor

/-
  The rows of an order; definitions that are taken; one node more; rings: in which round a node is told when all that may be are told at once. Nothing here speaks of a program.
-/
namespace Go.Proofs.YtdecceekodpjiaaDoor
open Go.RowKit

/-- Each of T was told at its turn. -/
def Ordd (ns : List Nd) (T : List Nat) : Prop := ∀ k (h : k < T.length), mayB ns (T.take k) (T[k]'h) = true

theorem Ordd.nil (ns : List Nd) : Ordd ns [] := fun k h => by simp at h

theorem Ordd.snoc {ns : List Nd} {T : List Nat} (O : Ordd ns T) {i : Nat} (h : mayB ns T i = true) : Ordd ns (T ++ [i]) := by
  intro k hk
  by_cases e : k < T.length
  · rw [List.getElem_append_left e, List.take_append_of_le_length (by omega)]
    exact O k e
  · have e2 : k = T.length := by simp at hk; omega
    subst e2
    simp only [List.getElem_append_right (Nat.le_refl _), Nat.sub_self, List.getElem_cons_zero, List.take_left]
    exact h

theorem ordK_ordd {ns : List Nd} : ∀ (k : Nat) (T : List Nat), Ordd ns T → Ordd ns (ordK ns k T)
  | 0, T, h => h
  | k + 1, T, h => by
    unfold ordK
    cases hn : nextP ns T with
    | none => exact h
    | some j => exact ordK_ordd k (T ++ [j]) (h.snoc (nextP_is hn).1)

theorem ordP_ordd (ns : List Nd) : Ordd ns (ordP ns) := ordK_ordd _ _ (Ordd.nil ns)

theorem mayB_out {ns : List Nd} {T : List Nat} {i : Nat} (h : mayB ns T i = true) : i ∉ T ∧ ∀ n, ns[i]? = some n → ∀ s ∈ n.after, ∃ j, aheadP ns n s = some j ∧ j ∈ T := by
  have hl := mayB_lt h
  unfold mayB at h
  rw [List.getElem?_eq_getElem hl] at h
  simp only [Bool.and_eq_true, Bool.not_eq_true', decide_eq_true_eq] at h
  refine ⟨by simpa using h.1, fun n hn s hs => ?_⟩
  rw [List.getElem?_eq_getElem hl] at hn
  obtain rfl := Option.some.inj hn
  have h2 := h.2
  unfold need at h2
  rw [List.countP_eq_zero] at h2
  have h3 := h2 s hs
  cases ha : aheadP ns ns[i] s with
  | none => rw [ha] at h3; simp at h3
  | some j => rw [ha] at h3; exact ⟨j, rfl, by simpa using h3⟩

theorem mayB_of {ns : List Nd} {T : List Nat} {i : Nat} (hi : i ∉ T) {n : Nd} (hn : ns[i]? = some n) (h : ∀ s ∈ n.after, ∃ j, aheadP ns n s = some j ∧ j ∈ T) : mayB ns T i = true := by
  unfold mayB
  rw [hn]
  simp only [Bool.and_eq_true, Bool.not_eq_true', decide_eq_true_eq]
  refine ⟨by simpa using hi, ?_⟩
  unfold need
  rw [List.countP_eq_zero]
  intro s hs
  obtain ⟨j, hj, hT⟩ := h s hs
  rw [hj]
  simpa using hT

theorem Ordd.nodup {ns : List Nd} {T : List Nat} (O : Ordd ns T) : T.Nodup := by
  rw [List.nodup_iff_pairwise_ne, List.pairwise_iff_getElem]
  intro i j hi hj hij e
  have := (mayB_out (O j hj)).1
  rw [← e] at this
  exact this (List.mem_take_iff_getElem.2 ⟨i, by omega, rfl⟩)

theorem aheadP_fj {ns : List Nd} {n : Nd} {s : ByteArray} {j : Nat} (h : aheadP ns n s = some j) : fj ns s = j := by
  unfold aheadP at h
  split at h
  · cases h
  · unfold fj; rw [h]; rfl

/-- The rows of the first nodes of an order. -/
structure LevOk (ns : List Nd) (T : List Nat) (R : Nat → Nat) (L : Nat) : Prop where
  none : ∀ x, x ∉ T → R x = 0
  pos : ∀ x, x ∈ T → 1 ≤ R x
  aft : ∀ x, x ∈ T → ∀ n, ns[x]? = some n → ∀ s ∈ n.after, ∃ j, aheadP ns n s = some j ∧ j ∈ T ∧ R j < R x
  top : ∀ x, x ∈ T → R x = 1 ∨ ∃ n, ns[x]? = some n ∧ ∃ s ∈ n.after, ∃ j, aheadP ns n s = some j ∧ R j + 1 = R x
  le : ∀ x, R x ≤ L
  some : L = 0 ∨ ∃ x, x ∈ T ∧ R x = L

theorem curP_new {ns : List Nd} {R : Nat → Nat} {i : Nat} : ∀ (l : List ByteArray) (a : Nat), (∀ s ∈ l, fj ns s ≠ i) →
    a ≤ curP ns R i a l ∧ (∀ s ∈ l, R (fj ns s) ≤ curP ns R i a l) ∧ (curP ns R i a l = a ∨ ∃ s ∈ l, curP ns R i a l = R (fj ns s))
  | [], a, _ => ⟨Nat.le_refl _, fun s h => (by cases h), .inl rfl⟩
  | s :: l, a, h => by
    have hs := h s (List.mem_cons_self ..)
    have ih := curP_new (R := R) l (max a (R (fj ns s))) (fun t ht => h t (List.mem_cons_of_mem _ ht))
    have e : curP ns R i a (s :: l) = curP ns R i (max a (R (fj ns s))) l := by
      show curP ns R i (max a (if fj ns s = i then a else R (fj ns s))) l = _
      rw [if_neg hs]
    rw [e]
    obtain ⟨h1, h2, h3⟩ := ih
    refine ⟨by omega, fun t ht => ?_, ?_⟩
    · rcases List.mem_cons.1 ht with rfl | ht
      · omega
      · exact h2 t ht
    · rcases h3 with h3 | ⟨t, ht, h3⟩
      · by_cases c : a ≤ R (fj ns s)
        · exact .inr ⟨s, List.mem_cons_self .., by rw [h3]; omega⟩
        · left; rw [h3]; omega
      · exact .inr ⟨t, List.mem_cons_of_mem _ ht, h3⟩

theorem LevOk.step {ns : List Nd} {T : List Nat} {R : Nat → Nat} {L i : Nat} (O : LevOk ns T R L) (h : mayB ns T i = true) : LevOk ns (T ++ [i]) (depStep ns (R, L) i).1 (depStep ns (R, L) i).2 := by
  have hl := mayB_lt h
  have hn := List.getElem?_eq_getElem hl
  obtain ⟨hi, ha⟩ := mayB_out h
  have ha := ha _ hn
  unfold depStep
  rw [hn]
  simp only []
  have h0 := O.none i hi
  rw [h0]
  have hne : ∀ s ∈ (ns[i]).after, fj ns s ≠ i := fun s hs e => by
    obtain ⟨j, hj, hT⟩ := ha s hs
    rw [aheadP_fj hj] at e
    subst e
    exact hi hT
  obtain ⟨c1, c2, c3⟩ := curP_new (R := R) (ns[i]).after 0 hne
  have hcL : curP ns R i 0 (ns[i]).after ≤ L := curP_le O.le _ _ (Nat.zero_le _)
  have mi : ∀ x, x ∈ T → x ≠ i := fun x hx e => hi (e ▸ hx)
  refine ⟨fun x hx => ?_, fun x hx => ?_, fun x hx n hxn s hs => ?_, fun x hx => ?_, fun x => ?_, ?_⟩
  · simp at hx
    show (if x = i then _ else _) = _
    rw [if_neg hx.2]
    exact O.none x hx.1
  · show 1 ≤ (if x = i then _ else _)
    split
    · omega
    · rename_i e
      rcases List.mem_append.1 hx with hx | hx
      · exact O.pos x hx
      · simp at hx; exact absurd hx e
  · rcases List.mem_append.1 hx with hx | hx
    · obtain ⟨j, hj, hT, hlt⟩ := O.aft x hx n hxn s hs
      refine ⟨j, hj, List.mem_append_left _ hT, ?_⟩
      rw [if_neg (mi _ hT), if_neg (mi _ hx)]
      exact hlt
    · simp at hx; subst hx
      rw [hn] at hxn
      obtain rfl := Option.some.inj hxn
      obtain ⟨j, hj, hT⟩ := ha s hs
      refine ⟨j, hj, List.mem_append_left _ hT, ?_⟩
      rw [if_neg (mi _ hT), if_pos rfl]
      have := c2 s hs
      rw [aheadP_fj hj] at this
      omega
  · rcases List.mem_append.1 hx with hx | hx
    · rw [if_neg (mi _ hx)]
      rcases O.top x hx with h1 | ⟨n, hxn, s, hs, j, hj, h1⟩
      · exact .inl h1
      · obtain ⟨j', hj', hT', _⟩ := O.aft x hx n hxn s hs
        rw [hj] at hj'
        obtain rfl := Option.some.inj hj'
        exact .inr ⟨n, hxn, s, hs, j, hj, by rw [if_neg (mi _ hT')]; exact h1⟩
    · simp at hx; subst hx
      rw [if_pos rfl]
      rcases c3 with c3 | ⟨s, hs, c3⟩
      · left; omega
      · obtain ⟨j, hj, hT⟩ := ha s hs
        rw [aheadP_fj hj] at c3
        exact .inr ⟨_, hn, s, hs, j, hj, by rw [if_neg (mi _ hT), c3]⟩
  · show (if x = i then _ else _) ≤ max _ _
    have := O.le x
    split <;> omega
  · right
    by_cases c : L ≤ curP ns R i 0 (ns[i]).after + 1
    · exact ⟨i, by simp, by show (if i = i then _ else _) = max _ _; rw [if_pos rfl]; omega⟩
    · rcases O.some with e | ⟨x, hx, e⟩
      · omega
      · refine ⟨x, List.mem_append_left _ hx, ?_⟩
        show (if x = i then _ else _) = max _ _
        rw [if_neg (mi _ hx)]
        omega

theorem lev_take {ns : List Nd} {T : List Nat} (O : Ordd ns T) : ∀ k, k ≤ T.length → LevOk ns (T.take k) (depK ns (T.take k)).1 (depK ns (T.take k)).2
  | 0, _ => ⟨fun _ _ => rfl, fun x h => by simp at h, fun x h => by simp at h, fun x h => by simp at h, fun _ => Nat.zero_le _, .inl rfl⟩
  | k + 1, h => by
    have hk : k < T.length := by omega
    have e : T.take (k + 1) = T.take k ++ [T[k]] := by rw [List.take_add_one, List.getElem?_eq_getElem hk]; rfl
    rw [e, depK_snoc]
    exact (lev_take O k (by omega)).step (O k hk)

theorem lev_all {ns : List Nd} {T : List Nat} (O : Ordd ns T) : LevOk ns T (depK ns T).1 (depK ns T).2 := by
  have := lev_take O T.length (Nat.le_refl _)
  rwa [List.take_length] at this

/-- In which round a node is told when all that may be are told at once. -/
def rowP (ns : List Nd) (x : Nat) : Nat := (depK ns (ordP ns)).1 x

theorem mem_full : ∀ {n : Nat} {l : List Nat}, l.Nodup → (∀ i ∈ l, i < n) → l.length = n → ∀ i, i < n → i ∈ l := by
  intro n l h1 h2 h3 i hi
  by_cases hm : i ∈ l
  · exact hm
  · exfalso
    have h4 : (i :: l).Nodup := List.nodup_cons.2 ⟨hm, h1⟩
    have h5 := nodup_le h4 (fun j hj => by rcases List.mem_cons.1 hj with rfl | hj; exact hi; exact h2 j hj)
    simp at h5
    omega

theorem lev_ord (ns : List Nd) : LevOk ns (ordP ns) (rowP ns) (depP ns) := lev_all (ordP_ordd ns)

theorem ord_all {ns : List Nd} (h : (ordP ns).length = ns.length) : ∀ i, i < ns.length → i ∈ ordP ns := mem_full (ordP_ordd ns).nodup (ordP_lt ns) h

/-- The nodes that may begin when those with a mark are over, and have begun. -/
def readyB (ns : List Nd) (over begun : Nat → Bool) (i : Nat) : Bool := !begun i && match ns[i]? with | some n => n.after.all (fun s => match aheadP ns n s with | some j => over j | none => false) | none => false
def readyP (ns : List Nd) (over begun : Nat → Bool) : List Nat := (List.range ns.length).filter (readyB ns over begun)

theorem readyB_row {ns : List Nd} (h : (ordP ns).length = ns.length) (r : Nat) {i : Nat} (hi : i < ns.length) : readyB ns (fun x => decide (rowP ns x ≤ r)) (fun x => decide (rowP ns x ≤ r)) i = decide (rowP ns i = r + 1) := by
  have O := lev_ord ns
  have hm := ord_all h i hi
  have hn := List.getElem?_eq_getElem hi
  unfold readyB
  rw [hn]
  by_cases c : rowP ns i = r + 1
  · simp only [c, decide_true, Bool.and_eq_true, List.all_eq_true]
    refine ⟨by simp, fun s hs => ?_⟩
    obtain ⟨j, hj, _, hlt⟩ := O.aft i hm _ hn s hs
    rw [hj]
    simp only [decide_eq_true_eq]
    omega
  · simp only [c, decide_false, Bool.and_eq_false_iff, Bool.not_eq_false', decide_eq_true_eq]
    by_cases c2 : rowP ns i ≤ r
    · exact .inl c2
    · right
      rw [List.all_eq_false]
      have := O.pos i hm
      rcases O.top i hm with h1 | ⟨n, hxn, s, hs, j, hj, h1⟩
      · omega
      · rw [hn] at hxn
        obtain rfl := Option.some.inj hxn
        refine ⟨s, hs, ?_⟩
        rw [hj]
        simp only [decide_eq_true_eq]
        omega

theorem readyP_row {ns : List Nd} (h : (ordP ns).length = ns.length) (r : Nat) : readyP ns (fun x => decide (rowP ns x ≤ r)) (fun x => decide (rowP ns x ≤ r)) = (List.range ns.length).filter (fun i => decide (rowP ns i = r + 1)) := by
  unfold readyP
  apply List.filter_congr
  intro x hx
  exact readyB_row h r (List.mem_range.1 hx)

/-- No row is left out. -/
theorem row_each {ns : List Nd} (h : (ordP ns).length = ns.length) : ∀ d r, r + d + 1 = depP ns → ∃ x, x < ns.length ∧ rowP ns x = r + 1
  | 0, r, e => by
    rcases (lev_ord ns).some with h0 | ⟨x, hx, h1⟩
    · omega
    · exact ⟨x, ordP_lt ns x hx, by omega⟩
  | d + 1, r, e => by
    obtain ⟨x, hx, h1⟩ := row_each h d (r + 1) (by omega)
    have O := lev_ord ns
    have hm := ord_all h x hx
    rcases O.top x hm with h2 | ⟨n, hxn, s, hs, j, hj, h2⟩
    · omega
    · obtain ⟨j', hj', hT', _⟩ := O.aft x hm n hxn s hs
      rw [hj] at hj'
      obtain rfl := Option.some.inj hj'
      exact ⟨j, ordP_lt ns j hT', by omega⟩

theorem ready_some {ns : List Nd} (h : (ordP ns).length = ns.length) {r : Nat} (hr : r < depP ns) : 0 < ((List.range ns.length).filter (fun i => decide (rowP ns i = r + 1))).length := by
  obtain ⟨x, hx, h1⟩ := row_each h (depP ns - r - 1) r (by omega)
  exact List.length_pos_of_mem (List.mem_filter.2 ⟨List.mem_range.2 hx, by simpa using h1⟩)

/-- How many have been told. -/
def cntP (ns : List Nd) (r : Nat) : Nat := (List.range ns.length).countP (fun i => decide (rowP ns i ≤ r))

theorem cntP_zero {ns : List Nd} (h : (ordP ns).length = ns.length) : cntP ns 0 = 0 := by
  unfold cntP
  rw [List.countP_eq_zero]
  intro x hx
  have := (lev_ord ns).pos x (ord_all h x (List.mem_range.1 hx))
  simp only [decide_eq_true_eq]
  omega

theorem cntP_next (ns : List Nd) (r : Nat) : cntP ns (r + 1) = cntP ns r + ((List.range ns.length).filter (fun i => decide (rowP ns i = r + 1))).length := by
  unfold cntP
  rw [← List.countP_eq_length_filter]
  induction List.range ns.length with
  | nil => rfl
  | cons x l ih =>
    simp only [List.countP_cons, ih, decide_eq_true_eq]
    split <;> split <;> split <;> omega

theorem cntP_all (ns : List Nd) : cntP ns (depP ns) = ns.length := by
  unfold cntP
  rw [List.countP_eq_length.2, List.length_range]
  intro x _
  simpa using (lev_ord ns).le x

theorem cntP_le (ns : List Nd) (r : Nat) : cntP ns r ≤ ns.length := by
  unfold cntP
  have := List.countP_le_length (p := fun i => decide (rowP ns i ≤ r)) (l := List.range ns.length)
  simpa using this


/-- A definition that is taken. -/
structure Taken (name : ByteArray) (ns : List Nd) : Prop where
  name : nameP name = true
  lo : 1 ≤ ns.length
  hi : ns.length ≤ 32
  nod : ∀ i (h : i < ns.length), nodeE ns i (ns[i]'h) = 0
  aft : ∀ i (h : i < ns.length), afterE ns (ns[i]'h) = 0
  ord : (ordP ns).length = ns.length

theorem firstE_none {f : Nat → Int} : ∀ {n}, firstE f n = none → ∀ i, i < n → f i = 0
  | 0, _, i, hi => by omega
  | n + 1, h, i, hi => by
    unfold firstE at h
    cases hn : firstE f n with
    | some x => rw [hn] at h; cases h
    | none =>
      rw [hn] at h
      by_cases e : f n = 0
      · by_cases e2 : i = n
        · subst e2; exact e
        · exact firstE_none hn i (by omega)
      · simp [e] at h

theorem firstE_some {f : Nat → Int} : ∀ {n} {x : Nat × Int}, firstE f n = some x → x.2 ≠ 0
  | 0, x, h => by cases h
  | n + 1, x, h => by
    unfold firstE at h
    cases hn : firstE f n with
    | some y => rw [hn] at h; cases h; exact firstE_some hn
    | none =>
      rw [hn] at h
      by_cases e : f n = 0
      · simp [e] at h
      · simp [e] at h; subst h; exact e

theorem firstE_zero {f : Nat → Int} : ∀ {n}, (∀ i, i < n → f i = 0) → firstE f n = none
  | 0, _ => rfl
  | n + 1, h => by
    unfold firstE
    rw [firstE_zero (fun i hi => h i (by omega))]
    simp [h n (by omega)]

theorem taken_of {name : ByteArray} {ns : List Nd} (h : (checkP name ns).2 = 0) : Taken name ns := by
  rw [checkP_eq] at h
  cases g0 : nameP name with
  | false => rw [if_pos g0] at h; simp at h
  | true =>
    rw [if_neg (by rw [g0]; simp)] at h
    by_cases c : ns.length < 1 ∨ 32 < ns.length
    · rw [if_pos c] at h; simp at h
    · rw [if_neg c] at h
      cases h1 : firstE (nodeAt ns) ns.length with
      | some x => rw [h1] at h; exact absurd h (firstE_some h1)
      | none =>
        rw [h1] at h
        cases h2 : firstE (aftAt ns) ns.length with
        | some x => rw [h2] at h; exact absurd h (firstE_some h2)
        | none =>
          rw [h2] at h
          by_cases h3 : (ordP ns).length = ns.length
          · refine ⟨g0, by omega, by omega, fun i hi => ?_, fun i hi => ?_, h3⟩
            · have := firstE_none h1 i hi
              unfold nodeAt at this
              rw [List.getElem?_eq_getElem hi] at this
              exact this
            · have := firstE_none h2 i hi
              unfold aftAt at this
              rw [List.getElem?_eq_getElem hi] at this
              exact this
          · simp [h3] at h

theorem Taken.check {name : ByteArray} {ns : List Nd} (T : Taken name ns) : checkP name ns = (-1, 0) := by
  have h1 : firstE (nodeAt ns) ns.length = none := firstE_zero (fun i hi => by
    unfold nodeAt; rw [List.getElem?_eq_getElem hi]; exact T.nod i hi)
  have h2 : firstE (aftAt ns) ns.length = none := firstE_zero (fun i hi => by
    unfold aftAt; rw [List.getElem?_eq_getElem hi]; exact T.aft i hi)
  have := T.lo
  have := T.hi
  rw [checkP_eq, if_neg (by rw [T.name]; simp), if_neg (by omega), h1, h2]
  simp only []
  rw [if_pos T.ord]

/-- What is wrong but for the order. -/
theorem check_loop {name : ByteArray} {ns : List Nd} (h0 : nameP name = true) (hl : 1 ≤ ns.length) (hh : ns.length ≤ 32) (hn : ∀ i (h : i < ns.length), nodeE ns i (ns[i]'h) = 0) (ha : ∀ i (h : i < ns.length), afterE ns (ns[i]'h) = 0)
    (ho : (ordP ns).length ≠ ns.length) : checkP name ns = (-1, 15) := by
  have h1 : firstE (nodeAt ns) ns.length = none := firstE_zero (fun i hi => by
    unfold nodeAt; rw [List.getElem?_eq_getElem hi]; exact hn i hi)
  have h2 : firstE (aftAt ns) ns.length = none := firstE_zero (fun i hi => by
    unfold aftAt; rw [List.getElem?_eq_getElem hi]; exact ha i hi)
  rw [checkP_eq, if_neg (by rw [h0]; simp), if_neg (by omega), h1, h2]
  simp only []
  rw [if_neg ho]

theorem nodeE_ok {ns : List Nd} {i : Nat} {n : Nd} (h : nodeE ns i n = 0) : namedP n = true ∧ i ≤ (findP ns n.name).getD 0 ∧ fitsP n = true := by
  unfold nodeE at h
  split at h
  · rename_i h1
    split at h
    · simp at h
    · rename_i h2
      split at h
      · rename_i h3; exact ⟨h1, by omega, h3⟩
      · simp at h
  · simp at h

theorem nodeE_of {ns : List Nd} {i : Nat} {n : Nd} (h1 : namedP n = true) (h2 : i ≤ (findP ns n.name).getD 0) (h3 : fitsP n = true) : nodeE ns i n = 0 := by
  unfold nodeE
  rw [if_pos h1, if_neg (by omega), if_pos h3]

theorem afterE_ok {ns : List Nd} {n : Nd} (h : afterE ns n = 0) : (∀ s ∈ n.after, (findP ns s).isSome = true) ∧ n.after.Nodup := by
  unfold afterE at h
  split at h
  · rename_i h1
    split at h
    · rename_i h2; exact ⟨by simpa using h1, h2⟩
    · simp at h
  · simp at h

theorem afterE_of {ns : List Nd} {n : Nd} (h1 : ∀ s ∈ n.after, (findP ns s).isSome = true) (h2 : n.after.Nodup) : afterE ns n = 0 := by
  unfold afterE
  rw [if_pos (by simpa using h1), if_pos h2]

theorem findP_mem {ns : List Nd} {n : Nd} (h : n ∈ ns) : (findP ns n.name).isSome = true := by
  cases hf : findP ns n.name with
  | none => exact absurd rfl (findP_none.1 hf n h)
  | some _ => rfl

theorem Taken.self {name : ByteArray} {ns : List Nd} (T : Taken name ns) {i : Nat} (hi : i < ns.length) : findP ns (ns[i]).name = some i := by
  have h1 := findP_mem (List.getElem_mem hi)
  obtain ⟨j, hj⟩ := Option.isSome_iff_exists.1 h1
  have h2 := (nodeE_ok (T.nod i hi)).2.1
  rw [hj] at h2
  simp at h2
  by_cases e : j = i
  · rw [hj, e]
  · exact absurd rfl (findP_first hj (j := i) (by omega))

theorem Taken.inj {name : ByteArray} {ns : List Nd} (T : Taken name ns) {i j : Nat} (hi : i < ns.length) (hj : j < ns.length) (h : (ns[i]).name = (ns[j]).name) : i = j := by
  have h1 := T.self hi
  rw [h, T.self hj] at h1
  exact (Option.some.inj h1).symm

/-- One node more. -/
theorem findP_snoc (ns : List Nd) (z : Nd) (s : ByteArray) : findP (ns ++ [z]) s = (findP ns s).or (if z.name = s then some ns.length else none) := by
  unfold findP
  rw [List.findIdx?_append]
  congr 1
  by_cases h : z.name = s <;> simp [h]

theorem findP_snoc_some {ns : List Nd} (z : Nd) {s : ByteArray} (h : (findP ns s).isSome = true) : findP (ns ++ [z]) s = findP ns s := by
  rw [findP_snoc]
  obtain ⟨j, hj⟩ := Option.isSome_iff_exists.1 h
  rw [hj]; rfl

theorem aheadP_snoc {ns : List Nd} (z n : Nd) {s : ByteArray} (h : (findP ns s).isSome = true) : aheadP (ns ++ [z]) n s = aheadP ns n s := by
  unfold aheadP
  rw [findP_snoc_some z h]

theorem need_snoc {ns : List Nd} (z n : Nd) (T : List Nat) (h : ∀ s ∈ n.after, (findP ns s).isSome = true) : need (ns ++ [z]) T n = need ns T n := by
  unfold need
  apply List.countP_congr
  intro s hs
  rw [aheadP_snoc z n (h s hs)]

theorem mayB_snoc {ns : List Nd} (z : Nd) (T : List Nat) {i : Nat} (hi : i < ns.length) (h : ∀ s ∈ (ns[i]).after, (findP ns s).isSome = true) : mayB (ns ++ [z]) T i = mayB ns T i := by
  unfold mayB
  rw [List.getElem?_append_left hi, List.getElem?_eq_getElem hi]
  simp only []
  rw [need_snoc z _ T h]

theorem nextP_snoc {ns : List Nd} (z : Nd) {T : List Nat} (h : ∀ i (hi : i < ns.length), ∀ s ∈ (ns[i]).after, (findP ns s).isSome = true) {j : Nat} (hj : nextP ns T = some j) : nextP (ns ++ [z]) T = some j := by
  obtain ⟨h1, h2⟩ := nextP_is hj
  have hl := mayB_lt h1
  refine nextP_some (by rw [mayB_snoc z T hl (h j hl)]; exact h1) (fun k hk => ?_)
  have hkl : k < ns.length := by omega
  rw [mayB_snoc z T hkl (h k hkl)]
  exact h2 k hk

theorem ordK_snoc {ns : List Nd} (z : Nd) (h : ∀ i (hi : i < ns.length), ∀ s ∈ (ns[i]).after, (findP ns s).isSome = true) (m : Nat) : ∀ (k : Nat) (T : List Nat), (ordK ns k T).length = T.length + k → ordK (ns ++ [z]) (k + m) T = ordK (ns ++ [z]) m (ordK ns k T)
  | 0, T, _ => by simp [ordK]
  | k + 1, T, hlen => by
    rw [show k + 1 + m = (k + m) + 1 by omega]
    unfold ordK at hlen
    cases hn : nextP ns T with
    | none => rw [hn] at hlen; simp only [] at hlen; omega
    | some j =>
      rw [hn] at hlen
      simp only [] at hlen
      have e1 : ordK (ns ++ [z]) ((k + m) + 1) T = ordK (ns ++ [z]) (k + m) (T ++ [j]) := by
        rw [ordK, nextP_snoc z h hn]
      have e2 : ordK ns (k + 1) T = ordK ns k (T ++ [j]) := by rw [ordK, hn]
      rw [e1, e2]
      exact ordK_snoc z h m k (T ++ [j]) (by rw [hlen]; simp; omega)

/-- A node that stands behind all others is the last one. -/
theorem ordP_grow {name : ByteArray} {ns : List Nd} (T : Taken name ns) (z : Nd) (hz : z.after = ns.map (·.name)) (hf : findP ns z.name = none) : ordP (ns ++ [z]) = ordP ns ++ [ns.length] := by
  have ha : ∀ i (hi : i < ns.length), ∀ s ∈ (ns[i]).after, (findP ns s).isSome = true := fun i hi => (afterE_ok (T.aft i hi)).1
  have e : ordP (ns ++ [z]) = ordK (ns ++ [z]) 1 (ordP ns) := by
    unfold ordP
    rw [List.length_append]
    exact ordK_snoc z ha 1 ns.length [] (by have := T.ord; unfold ordP at this; rw [this]; simp)
  rw [e]
  have hall := ord_all T.ord
  have hnx : nextP (ns ++ [z]) (ordP ns) = some ns.length := by
    refine nextP_some ?_ (fun j hj => ?_)
    · refine mayB_of (n := z) (fun hm => absurd (ordP_lt ns _ hm) (Nat.lt_irrefl _)) (by simp) (fun s hs => ?_)
      rw [hz] at hs
      obtain ⟨n, hn, rfl⟩ := List.mem_map.1 hs
      have h1 := findP_mem hn
      obtain ⟨j, hj⟩ := Option.isSome_iff_exists.1 h1
      refine ⟨j, ?_, hall j (findP_lt hj)⟩
      unfold aheadP
      rw [if_neg (fun e => by rw [e, hf] at h1; cases h1), findP_snoc_some z h1, hj]
    · rw [mayB_snoc z _ hj (ha j hj)]
      unfold mayB
      simp [hall j hj]
  rw [ordK, hnx]
  rfl

theorem depK_snocNs {ns : List Nd} (z : Nd) (h : ∀ i (hi : i < ns.length), ∀ s ∈ (ns[i]).after, (findP ns s).isSome = true) : ∀ (od : List Nat), (∀ i ∈ od, i < ns.length) → ∀ st, od.foldl (depStep (ns ++ [z])) st = od.foldl (depStep ns) st
  | [], _, _ => rfl
  | i :: od, hod, st => by
    have hi := hod i (List.mem_cons_self ..)
    have hc : ∀ (l : List ByteArray) (R : Nat → Nat) (a : Nat), (∀ s ∈ l, (findP ns s).isSome = true) → curP (ns ++ [z]) R i a l = curP ns R i a l := by
      intro l R
      induction l with
      | nil => intro a _; rfl
      | cons s l ih =>
        intro a hs
        have e : fj (ns ++ [z]) s = fj ns s := by unfold fj; rw [findP_snoc_some z (hs s (List.mem_cons_self ..))]
        show curP (ns ++ [z]) R i (max a (if fj (ns ++ [z]) s = i then a else R (fj (ns ++ [z]) s))) l = curP ns R i (max a (if fj ns s = i then a else R (fj ns s))) l
        rw [e]
        exact ih _ (fun t ht => hs t (List.mem_cons_of_mem _ ht))
    have e : depStep (ns ++ [z]) st i = depStep ns st i := by
      unfold depStep
      rw [List.getElem?_append_left hi, List.getElem?_eq_getElem hi]
      simp only []
      rw [hc _ _ _ (h i hi)]
    rw [List.foldl_cons, List.foldl_cons, e]
    exact depK_snocNs z h od (fun k hk => hod k (List.mem_cons_of_mem _ hk)) _

theorem depP_grow {name : ByteArray} {ns : List Nd} (T : Taken name ns) (z : Nd) (hz : z.after = ns.map (·.name)) (hf : findP ns z.name = none) : depP (ns ++ [z]) = depP ns + 1 := by
  have ha : ∀ i (hi : i < ns.length), ∀ s ∈ (ns[i]).after, (findP ns s).isSome = true := fun i hi => (afterE_ok (T.aft i hi)).1
  have e : depK (ns ++ [z]) (ordP ns) = depK ns (ordP ns) := depK_snocNs z ha (ordP ns) (ordP_lt ns) _
  unfold depP
  rw [ordP_grow T z hz hf, depK_snoc, e]
  have O := lev_ord ns
  unfold depStep
  rw [show (ns ++ [z])[ns.length]? = some z by simp]
  simp only []
  have h0 : (depK ns (ordP ns)).1 ns.length = 0 := O.none ns.length (fun hm => absurd (ordP_lt ns _ hm) (Nat.lt_irrefl _))
  rw [h0]
  have hfj : ∀ s ∈ z.after, ∃ j, j < ns.length ∧ fj (ns ++ [z]) s = j := fun s hs => by
    rw [hz] at hs
    obtain ⟨n, hn, rfl⟩ := List.mem_map.1 hs
    have h1 := findP_mem hn
    obtain ⟨j, hj⟩ := Option.isSome_iff_exists.1 h1
    exact ⟨j, findP_lt hj, by unfold fj; rw [findP_snoc_some z h1, hj]; rfl⟩
  obtain ⟨c1, c2, c3⟩ := curP_new (ns := ns ++ [z]) (R := (depK ns (ordP ns)).1) (i := ns.length) z.after 0 (fun s hs e => by obtain ⟨j, hj, he⟩ := hfj s hs; omega)
  have hL : ∀ x, (depK ns (ordP ns)).1 x ≤ (depK ns (ordP ns)).2 := O.le
  have hle : curP (ns ++ [z]) (depK ns (ordP ns)).1 ns.length 0 z.after ≤ (depK ns (ordP ns)).2 := curP_le hL _ _ (Nat.zero_le _)
  have hge : (depK ns (ordP ns)).2 ≤ curP (ns ++ [z]) (depK ns (ordP ns)).1 ns.length 0 z.after := by
    rcases O.some with h | ⟨x, hx, hxe⟩
    · have h' : (depK ns (ordP ns)).2 = 0 := h
      omega
    · have hxl := ordP_lt ns x hx
      have hm : (ns[x]).name ∈ z.after := by rw [hz]; exact List.mem_map.2 ⟨_, List.getElem_mem hxl, rfl⟩
      have h1 := c2 _ hm
      have h2 : fj (ns ++ [z]) (ns[x]).name = x := by
        unfold fj
        rw [findP_snoc_some z (findP_mem (List.getElem_mem hxl)), T.self hxl]; rfl
      rw [h2] at h1
      have hxe' : (depK ns (ordP ns)).1 x = (depK ns (ordP ns)).2 := hxe
      omega
  omega

theorem taken_grow {name : ByteArray} {ns : List Nd} (T : Taken name ns) (h9 : ns.length ≤ 9) (z : Nd) (hz : z.after = ns.map (·.name)) (hf : findP ns z.name = none) (hn : namedP z = true) (hfit : fitsP z = true) : Taken name (ns ++ [z]) := by
  have ho := ordP_grow T z hz hf
  refine ⟨T.name, by simp, by simp; omega, fun i hi => ?_, fun i hi => ?_, by rw [ho]; simp [T.ord]⟩
  · by_cases e : i < ns.length
    · rw [List.getElem_append_left e]
      obtain ⟨h1, h2, h3⟩ := nodeE_ok (T.nod i e)
      exact nodeE_of h1 (by rw [findP_snoc_some z (findP_mem (List.getElem_mem e))]; exact h2) h3
    · have e2 : i = ns.length := by simp at hi; omega
      subst e2
      simp only [List.getElem_append_right (Nat.le_refl _), Nat.sub_self, List.getElem_cons_zero]
      exact nodeE_of hn (by rw [findP_snoc, hf]; simp) hfit
  · by_cases e : i < ns.length
    · rw [List.getElem_append_left e]
      obtain ⟨h1, h2⟩ := afterE_ok (T.aft i e)
      exact afterE_of (fun s hs => by rw [findP_snoc_some z (h1 s hs)]; exact h1 s hs) h2
    · have e2 : i = ns.length := by simp at hi; omega
      subst e2
      simp only [List.getElem_append_right (Nat.le_refl _), Nat.sub_self, List.getElem_cons_zero]
      refine afterE_of (fun s hs => ?_) ?_
      · rw [hz] at hs
        obtain ⟨n, hn, rfl⟩ := List.mem_map.1 hs
        rw [findP_snoc_some z (findP_mem hn)]
        exact findP_mem hn
      · rw [hz, List.nodup_iff_pairwise_ne, List.pairwise_iff_getElem]
        intro i j hi hj hij e
        simp only [List.getElem_map] at e
        simp at hi hj
        have := T.inj hi hj e
        omega

/-- No name in its After means itself. -/
theorem Taken.few {name : ByteArray} {ns : List Nd} (T : Taken name ns) {i : Nat} (hi : i < ns.length) : (ns[i]).after.length ≤ ns.length := by
  obtain ⟨h1, h2⟩ := afterE_ok (T.aft i hi)
  have h3 : ((ns[i]).after.map (fj ns)).Nodup := by
    rw [List.nodup_iff_pairwise_ne, List.pairwise_iff_getElem]
    intro p q hp hq hpq e
    simp only [List.getElem_map] at e
    simp at hp hq
    have f1 := h1 _ (List.getElem_mem hp)
    have f2 := h1 _ (List.getElem_mem hq)
    obtain ⟨j1, g1⟩ := Option.isSome_iff_exists.1 f1
    obtain ⟨j2, g2⟩ := Option.isSome_iff_exists.1 f2
    unfold fj at e
    rw [g1, g2] at e
    simp at e
    subst e
    have n1 := findP_name g1
    have n2 := findP_name g2
    rw [n1] at n2
    have := (List.nodup_iff_pairwise_ne.1 h2)
    rw [List.pairwise_iff_getElem] at this
    exact this p q hp hq hpq n2
  have h4 := nodup_le h3 (n := ns.length) (fun k hk => by
    obtain ⟨s, hs, rfl⟩ := List.mem_map.1 hk
    obtain ⟨j, hj⟩ := Option.isSome_iff_exists.1 (h1 s hs)
    unfold fj; rw [hj]; exact findP_lt hj)
  simpa using h4


/-- From b one comes to a by going to what stands ahead. -/
inductive Path (ns : List Nd) (b : Nat) : Nat → Prop
  | refl : Path ns b b
  | step {i j : Nat} {n : Nd} {s : ByteArray} : Path ns b i → ns[i]? = some n → s ∈ n.after → findP ns s = some j → Path ns b j

/-- Node a gets one more name in its After. -/
def addA (n : Nd) (s : ByteArray) : Nd := { n with after := n.after ++ [s] }
def loopNs (ns : List Nd) (a : Nat) (s : ByteArray) : List Nd := ns.modify a (fun n => addA n s)

theorem loopNs_len (ns : List Nd) (a : Nat) (s : ByteArray) : (loopNs ns a s).length = ns.length := by unfold loopNs; simp

theorem loopNs_at {ns : List Nd} {a : Nat} {s : ByteArray} {i : Nat} : (loopNs ns a s)[i]? = (ns[i]?).map (fun n => if a = i then addA n s else n) := by
  unfold loopNs
  rw [List.getElem?_modify]
  cases ns[i]? <;> rfl

theorem findP_names : ∀ {l m : List Nd}, l.map (·.name) = m.map (·.name) → ∀ s, findP l s = findP m s := by
  intro l m h s
  have e : ∀ (l : List Nd), findP l s = (l.map (·.name)).findIdx? (fun n => decide (n = s)) := fun l => by
    unfold findP
    rw [List.findIdx?_map]
    rfl
  rw [e, e, h]

theorem loopNs_names (ns : List Nd) (a : Nat) (s : ByteArray) : (loopNs ns a s).map (·.name) = ns.map (·.name) := by
  apply List.ext_getElem?
  intro i
  rw [List.getElem?_map, List.getElem?_map, loopNs_at]
  cases ns[i]? with
  | none => rfl
  | some n => by_cases e : a = i <;> simp [e, addA]

theorem loopNs_find (ns : List Nd) (a : Nat) (s t : ByteArray) : findP (loopNs ns a s) t = findP ns t := findP_names (loopNs_names ns a s) t

theorem aheadP_find {ns : List Nd} {n : Nd} {s : ByteArray} {j : Nat} (h : aheadP ns n s = some j) : findP ns s = some j := by
  unfold aheadP at h
  split at h
  · cases h
  · exact h

theorem loop_not {name : ByteArray} {ns : List Nd} (T : Taken name ns) {a b : Nat} (ha : a < ns.length) (hb : b < ns.length) (P : Path ns b a) : (ordP (loopNs ns a (ns[b]).name)).length ≠ (loopNs ns a (ns[b]).name).length := by
  intro hf
  have O := lev_ord (loopNs ns a (ns[b]).name)
  have hall := ord_all hf
  rw [loopNs_len] at hall
  have hle : ∀ j, Path ns b j → j < ns.length ∧ rowP (loopNs ns a (ns[b]).name) j ≤ rowP (loopNs ns a (ns[b]).name) b := by
    intro j p
    induction p with
    | refl => exact ⟨hb, Nat.le_refl _⟩
    | @step i j n s p hn hs hj ih =>
      obtain ⟨hi, hle⟩ := ih
      have hm := hall i hi
      have hn' : (loopNs ns a (ns[b]).name)[i]? = some (if a = i then addA n (ns[b]).name else n) := by rw [loopNs_at, hn]; rfl
      obtain ⟨j', hj', _, hlt⟩ := O.aft i hm _ hn' s (by split; (exact List.mem_append_left _ hs); exact hs)
      have e : j' = j := by
        have hj'' := aheadP_find hj'
        rw [loopNs_find, hj] at hj''
        exact (Option.some.inj hj'').symm
      subst e
      exact ⟨findP_lt hj, by omega⟩
  have h1 := (hle a P).2
  have hn' : (loopNs ns a (ns[b]).name)[a]? = some (addA ns[a] (ns[b]).name) := by rw [loopNs_at, List.getElem?_eq_getElem ha]; simp
  obtain ⟨j', hj', _, hlt⟩ := O.aft a (hall a ha) _ hn' (ns[b]).name (List.mem_append_right _ (by simp))
  have e : j' = b := by
    have hj'' := aheadP_find hj'
    rw [loopNs_find, T.self hb] at hj''
    exact (Option.some.inj hj'').symm
  subst e
  omega

theorem loop_check {name : ByteArray} {ns : List Nd} (T : Taken name ns) {a b : Nat} (ha : a < ns.length) (hb : b < ns.length) (P : Path ns b a) (hm : (ns[b]).name ∉ (ns[a]).after) : checkP name (loopNs ns a (ns[b]).name) = (-1, 15) := by
  have hl := loopNs_len ns a (ns[b]).name
  have hat : ∀ i (h : i < (loopNs ns a (ns[b]).name).length), ∃ hi : i < ns.length, (loopNs ns a (ns[b]).name)[i] = if a = i then addA ns[i] (ns[b]).name else ns[i] := fun i h => by
    have hi : i < ns.length := by omega
    refine ⟨hi, ?_⟩
    have := loopNs_at (ns := ns) (a := a) (s := (ns[b]).name) (i := i)
    rw [List.getElem?_eq_getElem h, List.getElem?_eq_getElem hi] at this
    exact Option.some.inj this
  refine check_loop T.name (by have := T.lo; omega) (by have := T.hi; omega) (fun i h => ?_) (fun i h => ?_) (loop_not T ha hb P)
  · obtain ⟨hi, e⟩ := hat i h
    obtain ⟨h1, h2, h3⟩ := nodeE_ok (T.nod i hi)
    rw [e]
    refine nodeE_of ?_ ?_ ?_
    · split; (exact h1); exact h1
    · rw [loopNs_find]; split; (exact h2); exact h2
    · split; (exact h3); exact h3
  · obtain ⟨hi, e⟩ := hat i h
    obtain ⟨h1, h2⟩ := afterE_ok (T.aft i hi)
    rw [e]
    by_cases c : a = i
    · subst c
      rw [if_pos rfl]
      refine afterE_of (fun s hs => ?_) ?_
      · rw [loopNs_find]
        rcases List.mem_append.1 hs with hs | hs
        · exact h1 s hs
        · simp at hs; subst hs; exact findP_mem (List.getElem_mem hb)
      · show ((ns[a]).after ++ [(ns[b]).name]).Nodup
        rw [List.nodup_append]
        exact ⟨h2, by simp, fun x hx y hy e => by simp at hy; subst hy; subst e; exact hm hx⟩
    · rw [if_neg c]
      exact afterE_of (fun s hs => by rw [loopNs_find]; exact h1 s hs) h2

end Go.Proofs.YtdecceekodpjiaaDoor
