/-
  HistorySignals as data: a row of waits, signals of two names; what each step comes to.
-/
import Derived.Test.YtdecceekodpjiaaDoorHM3
import Derived.Test.YtdecceekodpjiaaDoorHN5
import Derived.Test.YtdecceekodpjiaaDoorHM1
namespace Go.Proofs.YtdecceekodpjiaaDoor
open Go.RowKit

def sgName (i : Nat) : ByteArray := ⟨#[UInt8.ofNat (97 + i)]⟩
def sgN (i : Nat) : Nd := ⟨sgName i, 4, ⟨#[115]⟩, ⟨#[]⟩, 0, 0, if i = 0 then [] else [sgName (i - 1)]⟩
def sgNs (n : Nat) : List Nd := (List.range n).map sgN
def sgNode (g i : Nat) : Ns := if i < g then ⟨3, 0, sgName i⟩ else if i = g then ⟨2, 0, ⟨#[]⟩⟩ else ⟨0, 0, ⟨#[]⟩⟩
def otherB : ByteArray := ⟨#[111, 116, 104, 101, 114]⟩

/-- The state of n waits of which g are over, with t signals kept. -/
def sgSt (n g t : Nat) : St := ⟨⟨#[119]⟩, ⟨#[102]⟩, ⟨#[]⟩, ⟨#[]⟩, if g = n then 2 else 1, if g = n then sgName (n - 1) else ⟨#[]⟩, (List.range n).map (sgNode g), List.replicate t ⟨⟨#[116]⟩, otherB⟩, ((2 + 2 * g + t : Nat) : Int)⟩

def sgQ0 : Inp := ⟨1, ⟨#[]⟩, ⟨#[102]⟩, ⟨#[]⟩, 0, 0, 0, ⟨#[]⟩, ⟨#[]⟩⟩
def sgQ (g : Nat) : Inp := ⟨2, ⟨#[]⟩, ⟨#[115]⟩, sgName g, 0, 0, 0, ⟨#[]⟩, ⟨#[]⟩⟩
def sgQt : Inp := ⟨2, ⟨#[]⟩, ⟨#[116]⟩, otherB, 0, 0, 0, ⟨#[]⟩, ⟨#[]⟩⟩

def nsE (a b : Ns) : Bool := decide (a.status = b.status) && decide (a.tr = b.tr) && decide (a.text = b.text)
def sgE (a b : Sg) : Bool := decide (a.name = b.name) && decide (a.text = b.text)
def listE {α : Type} (f : α → α → Bool) : List α → List α → Bool
  | [], [] => true
  | x :: l, y :: m => f x y && listE f l m
  | _, _ => false
def stE (a b : St) : Bool := decide (a.dfn = b.dfn) && decide (a.id = b.id) && decide (a.par = b.par) && decide (a.pnode = b.pnode) && decide (a.status = b.status) && decide (a.text = b.text) && listE nsE a.nodes b.nodes && listE sgE a.sigs b.sigs && decide (a.events = b.events)

theorem listE_eq {α : Type} {f : α → α → Bool} (hf : ∀ x y, f x y = true → x = y) : ∀ {l m : List α}, listE f l m = true → l = m
  | [], [], _ => rfl
  | x :: l, y :: m, h => by
    unfold listE at h
    rw [Bool.and_eq_true] at h
    rw [hf x y h.1, listE_eq hf h.2]
  | [], _ :: _, h => by cases h
  | _ :: _, [], h => by cases h

theorem nsE_eq (x y : Ns) (h : nsE x y = true) : x = y := by
  unfold nsE at h
  simp only [Bool.and_eq_true, decide_eq_true_eq] at h
  obtain ⟨⟨h1, h2⟩, h3⟩ := h
  cases x; cases y
  simp_all

theorem sgE_eq (x y : Sg) (h : sgE x y = true) : x = y := by
  unfold sgE at h
  simp only [Bool.and_eq_true, decide_eq_true_eq] at h
  obtain ⟨h1, h2⟩ := h
  cases x; cases y
  simp_all

theorem stE_eq {a b : St} (h : stE a b = true) : a = b := by
  unfold stE at h
  simp only [Bool.and_eq_true, decide_eq_true_eq] at h
  obtain ⟨⟨⟨⟨⟨⟨⟨⟨h1, h2⟩, h3⟩, h4⟩, h5⟩, h6⟩, h7⟩, h8⟩, h9⟩ := h
  have h7 := listE_eq nsE_eq h7
  have h8 := listE_eq sgE_eq h8
  cases a; cases b
  simp_all

def chk0 (n : Nat) : Bool := decide ((stepP ⟨#[119]⟩ (sgNs n) zeroSt sgQ0).2 = 0) && stE (stepP ⟨#[119]⟩ (sgNs n) zeroSt sgQ0).1.st (sgSt n 0 0)
def chk1 (n g t : Nat) : Bool := decide ((stepP ⟨#[119]⟩ (sgNs n) (sgSt n g t) (sgQ g)).2 = 0) && stE (stepP ⟨#[119]⟩ (sgNs n) (sgSt n g t) (sgQ g)).1.st (sgSt n (g + 1) t)
def chk2 (n g t : Nat) : Bool := if t < 32 then decide ((stepP ⟨#[119]⟩ (sgNs n) (sgSt n g t) sgQt).2 = 0) && stE (stepP ⟨#[119]⟩ (sgNs n) (sgSt n g t) sgQt).1.st (sgSt n g (t + 1)) else decide ((stepP ⟨#[119]⟩ (sgNs n) (sgSt n g t) sgQt).2 = 8)

set_option maxRecDepth 100000 in
theorem chk0_all : ∀ n : Fin 10, chk0 (n.1 + 1) = true := by decide +kernel

set_option maxRecDepth 100000 in
theorem chk1_all : ∀ n : Fin 10, ∀ g : Fin (n.1 + 1), ∀ t : Fin 33, chk1 (n.1 + 1) g.1 t.1 = true := by decide +kernel

set_option maxRecDepth 100000 in
theorem chk2_all : ∀ n : Fin 10, ∀ g : Fin (n.1 + 1), ∀ t : Fin 33, chk2 (n.1 + 1) g.1 t.1 = true := by decide +kernel

theorem sig_start {n : Nat} (h1 : 1 ≤ n) (h2 : n ≤ 10) : ∃ r, stepP ⟨#[119]⟩ (sgNs n) zeroSt sgQ0 = (r, 0) ∧ r.st = sgSt n 0 0 := by
  have h := chk0_all ⟨n - 1, by omega⟩
  dsimp only at h
  rw [show n - 1 + 1 = n by omega] at h
  unfold chk0 at h
  rw [Bool.and_eq_true, decide_eq_true_eq] at h
  exact ⟨_, Prod.ext rfl h.1, stE_eq h.2⟩

theorem sig_got {n g t : Nat} (h2 : n ≤ 10) (hg : g < n) (ht : t ≤ 32) : ∃ r, stepP ⟨#[119]⟩ (sgNs n) (sgSt n g t) (sgQ g) = (r, 0) ∧ r.st = sgSt n (g + 1) t := by
  have h := chk1_all ⟨n - 1, by omega⟩ ⟨g, by show g < n - 1 + 1; omega⟩ ⟨t, by omega⟩
  dsimp only at h
  rw [show n - 1 + 1 = n by omega] at h
  unfold chk1 at h
  rw [Bool.and_eq_true, decide_eq_true_eq] at h
  exact ⟨_, Prod.ext rfl h.1, stE_eq h.2⟩

theorem sig_kept {n g t : Nat} (h2 : n ≤ 10) (hg : g < n) (ht : t < 32) : ∃ r, stepP ⟨#[119]⟩ (sgNs n) (sgSt n g t) sgQt = (r, 0) ∧ r.st = sgSt n g (t + 1) := by
  have h := chk2_all ⟨n - 1, by omega⟩ ⟨g, by show g < n - 1 + 1; omega⟩ ⟨t, by omega⟩
  dsimp only at h
  rw [show n - 1 + 1 = n by omega] at h
  unfold chk2 at h
  rw [if_pos ht, Bool.and_eq_true, decide_eq_true_eq] at h
  exact ⟨_, Prod.ext rfl h.1, stE_eq h.2⟩

theorem sig_full {n g : Nat} (h2 : n ≤ 10) (hg : g < n) : ∃ r, stepP ⟨#[119]⟩ (sgNs n) (sgSt n g 32) sgQt = (r, 8) := by
  have h := chk2_all ⟨n - 1, by omega⟩ ⟨g, by show g < n - 1 + 1; omega⟩ ⟨32, by omega⟩
  dsimp only at h
  rw [show n - 1 + 1 = n by omega] at h
  unfold chk2 at h
  rw [if_neg (by decide), decide_eq_true_eq] at h
  exact ⟨_, Prod.ext rfl h⟩

end Go.Proofs.YtdecceekodpjiaaDoor

/-
  A definition that a law builds, node by node.
-/
namespace Go.Proofs.YtdecceekodpjiaaDoor
open Go.RowKit

theorem byte_s1 (w : World) (x : Int) (hx : 0 ≤ x ∧ x ≤ 255) : (convert 29 9 (.slice (some ⟨w.heap.size, 0, none⟩) 1 1)).run Tryd.prog (w.alloc (.cells #[.int .u8 x] 5)) = .ok (.string (strOfNums [x])) (w.alloc (.cells #[.int .u8 x] 5)) :=
  BytesAt.str (b := [x]) ⟨rfl, Nat.le_refl _, fun h => (by cases h), fun ad h => (by cases h; exact World.news_of_block (heap_alloc_new w _)), fun y hy => by simp at hy; omega⟩

theorem sgName_str : ∀ k : Nat, k < 20 → strOfNums [97 + (k : Int)] = sgName k := by
  have h : ∀ k : Fin 20, strOfNums [97 + ((k.1 : Nat) : Int)] = sgName k.1 := by decide +kernel
  exact fun k hk => h ⟨k, hk⟩

theorem ndC_one (n : Nd) (a : Option Addr) (m c : Nat) : ∀ u ∈ ndC n (.slice a m c), u.oneCell' = true := by
  intro u hu
  simp only [ndC, List.mem_cons, List.not_mem_nil, or_false] at hu
  rcases hu with rfl | rfl | rfl | rfl | rfl | rfl | rfl <;> rfl

/-- Nodes as a flat row. -/
def flatB (ns : List Nd) (vs : List Value) : List Value := (ns.zip vs).flatMap (fun p => ndC p.1 p.2)

theorem flatB_snoc {ns : List Nd} {vs : List Value} (h : vs.length = ns.length) (n : Nd) (v : Value) : flatB (ns ++ [n]) (vs ++ [v]) = flatB ns vs ++ ndC n v := by
  unfold flatB
  rw [List.zip_append h.symm, List.flatMap_append]
  simp

theorem flatB_at {ns : List Nd} {vs : List Value} {i : Nat} (h1 : i < ns.length) (h2 : i < vs.length) (j : Nat) (hj : j < 7) : (flatB ns vs)[i * 7 + j]? = (ndC ns[i] vs[i])[j]? := by
  have hz : (ns.zip vs)[i]? = some (ns[i], vs[i]) := by
    rw [List.getElem?_zip_eq_some]
    exact ⟨List.getElem?_eq_getElem h1, List.getElem?_eq_getElem h2⟩
  exact flatMap_at (f := fun p : Nd × Value => ndC p.1 p.2) (k := 7) (fun _ => rfl) hz j hj

/-- Nodes that stand in a row of their own; each After is none, or one text in a block of its own. -/
structure Bld (w : World) (B : Nat) (a : Option Addr) (c : Nat) (ns : List Nd) (vs : List Value) : Prop where
  len : vs.length = ns.length
  row : w.ownsRow B 32 7 (.slice a ns.length c) ns.length (flatB ns vs)
  txt : ∀ j (h1 : j < ns.length) (h2 : j < vs.length), (ns[j].after = [] ∧ vs[j] = .slice none 0 0) ∨ ∃ b s, ns[j].after = [s] ∧ s.size ≤ 100 ∧ vs[j] = .slice (some ⟨b, 0, none⟩) 1 1 ∧ w.heap[b]? = some (.cells #[.string s] 9 (0, 0))

section
variable {w w' : World} {B : Nat} {a : Option Addr} {c : Nat} {ns : List Nd} {vs : List Value}

theorem Bld.nil (w : World) (B : Nat) : Bld w B none 0 [] [] := ⟨rfl, World.ownsRow_nil _ _ _ _, fun j h => by simp at h⟩

theorem Bld.new (X : Bld w B a c ns vs) (K : Kept (fun _ => False) w w') : Bld w' B a c ns vs := by
  refine ⟨X.len, ownsRow_keep X.row (fun g hg => K.block g (ownsRow_blk X.row hg) (fun h => h)), fun j h1 h2 => ?_⟩
  rcases X.txt j h1 h2 with h | ⟨b, s, h, hs, hv, hb⟩
  · exact .inl h
  · exact .inr ⟨b, s, h, hs, hv, (K.block b (Array.getElem?_eq_some_iff.1 hb).1 (fun h => h)).trans hb⟩

theorem Bld.nodes (X : Bld w B a c ns vs) (ok : ∀ n ∈ ns, NdOk n) : NodesAt w a ns := by
  refine ⟨ok, ?_⟩
  by_cases h0 : ns = []
  · exact .inl h0
  · have hp : 0 < ns.length := List.length_pos_iff.2 h0
    obtain ⟨g, cg, hv, _, _, hrow⟩ := row_at X.row hp
    simp only [Value.slice.injEq, true_and] at hv
    obtain ⟨rfl, rfl⟩ := hv
    refine .inr ⟨g, 0, rfl, fun i hi => ?_⟩
    have h2 : i < vs.length := by rw [X.len]; exact hi
    refine ⟨vs[i], ?_, fun j u hu => ?_⟩
    · rcases X.txt i hi h2 with ⟨h, hv⟩ | ⟨b, s, h, hs, hv, hb⟩
      · rw [h, hv]
        exact ⟨none, 0, rfl, Nat.le_refl _, Nat.zero_le _, .inl rfl, fun s hs => by cases hs⟩
      · rw [h, hv]
        refine ⟨some ⟨b, 0, none⟩, 1, rfl, Nat.le_refl _, by decide, .inr ⟨b, 0, rfl, fun j u hu => ?_⟩, fun t ht => by rw [List.mem_singleton] at ht; subst ht; unfold maxLen; omega⟩
        simp only [World.cell?, hb, Nat.zero_add]
        simpa using hu
    · have hj : j < 7 := (List.getElem?_eq_some_iff.1 hu).1
      rw [Nat.zero_add]
      exact (hrow (i * 7 + j) u (by rw [flatB_at hi h2 j hj]; exact hu)).1

/-- A cell of a node that stands there. -/
theorem Bld.cell (X : Bld w B a c ns vs) {i : Nat} (hi : i < ns.length) : ns.length ≤ c ∧ ∃ g, a = some ⟨g, 0, none⟩ ∧ w.cell? ⟨g, i * 7, none⟩ = some (.string ns[i].name) := by
  obtain ⟨g, cg, hv, _, hc, hrow⟩ := row_at X.row (by omega)
  simp only [Value.slice.injEq, true_and] at hv
  obtain ⟨rfl, rfl⟩ := hv
  exact ⟨hc, g, rfl, (hrow (i * 7) _ (by have := flatB_at hi (show i < vs.length by rw [X.len]; exact hi) 0 (by decide); rw [Nat.add_zero] at this; rw [this]; rfl)).1⟩

/-- One more. -/
theorem Bld.push {w3 : World} {a3 : Option Addr} {c3 : Nat} {n : Nd} {v : Value} (X : Bld w B a c ns vs) (ho : w3.ownsRow B 32 7 (.slice a3 (ns.length + 1) c3) (ns.length + 1) (flatB ns vs ++ ndC n v)) (hg : w.grownBy w3 (Value.slice a ns.length c).ownBlock)
    (hv : (n.after = [] ∧ v = .slice none 0 0) ∨ ∃ b s, n.after = [s] ∧ s.size ≤ 100 ∧ v = .slice (some ⟨b, 0, none⟩) 1 1 ∧ w.heap[b]? = some (.cells #[.string s] 9 (0, 0))) : Bld w3 B a3 c3 (ns ++ [n]) (vs ++ [v]) := by
  have KG : Kept (fun j => (Value.slice a ns.length c).ownBlock = some j) w w3 := Kept.grown hg (fun _ e => e)
  have keep : ∀ {b : Nat} {s : ByteArray}, w.heap[b]? = some (.cells #[.string s] 9 (0, 0)) → w3.heap[b]? = some (.cells #[.string s] 9 (0, 0)) := fun {b s} hb => by
    refine (KG.block b (Array.getElem?_eq_some_iff.1 hb).1 (fun e => ?_)).trans hb
    rcases X.row.2 with ⟨h0, _⟩ | ⟨g, cap, cur, hs, _, hg', _⟩
    · rw [h0] at e; cases e
    · rw [hs] at e
      obtain rfl : g = b := Option.some.inj e
      rw [hb] at hg'
      simp at hg'
  refine ⟨by simp [X.len], ?_, fun j h1 h2 => ?_⟩
  · rw [flatB_snoc X.len, List.length_append, List.length_singleton]
    exact ho
  · by_cases e : j < ns.length
    · have e2 : j < vs.length := by rw [X.len]; exact e
      rw [List.getElem_append_left e, List.getElem_append_left e2]
      rcases X.txt j e e2 with h | ⟨b, s, h, hs, hv', hb⟩
      · exact .inl h
      · exact .inr ⟨b, s, h, hs, hv', keep hb⟩
    · have hj : j = ns.length := by simp at h1; omega
      subst hj
      rw [List.getElem_append_right (Nat.le_refl _), List.getElem_append_right (by rw [X.len]; exact Nat.le_refl _)]
      simp only [Nat.sub_self, X.len, List.getElem_cons_zero]
      rcases hv with h | ⟨b, s, h, hs, hv', hb⟩
      · exact .inl h
      · exact .inr ⟨b, s, h, hs, hv', keep hb⟩

end

theorem sgNs_snoc (k : Nat) : sgNs (k + 1) = sgNs k ++ [sgN k] := by
  unfold sgNs
  rw [List.range_succ, List.map_append]
  rfl

theorem sgNs_len (k : Nat) : (sgNs k).length = k := by unfold sgNs; simp

theorem sgNs_at (n : Nat) {i : Nat} (h : i < (sgNs n).length) : (sgNs n)[i] = sgN i := by
  have h' : i < n := by rw [sgNs_len] at h; exact h
  have e : (sgNs n)[i]? = some (sgN i) := by
    unfold sgNs
    rw [List.getElem?_map, List.getElem?_range h']
    rfl
  rw [List.getElem?_eq_getElem h] at e
  exact Option.some.inj e

theorem sgN_ok (i : Nat) : NdOk (sgN i) := ⟨by show (1 : Nat) ≤ maxLen; decide, by show (1 : Nat) ≤ maxLen; decide, by show (0 : Nat) ≤ maxLen; decide, by show isI64 4; unfold isI64; decide, by show isI64 0; unfold isI64; decide, by show isI64 0; unfold isI64; decide, by unfold sgN; dsimp only; split <;> simp⟩

theorem sgNs_ok (n : Nat) : ∀ x ∈ sgNs n, NdOk x := fun x hx => by
  unfold sgNs at hx
  obtain ⟨i, _, rfl⟩ := List.mem_map.1 hx
  exact sgN_ok i

theorem sgNs_names (n : Nat) : ∀ x ∈ sgNs n, x.name.size ≤ 100000000 := fun x hx => by
  unfold sgNs at hx
  obtain ⟨i, _, rfl⟩ := List.mem_map.1 hx
  show (1 : Nat) ≤ _
  decide

end Go.Proofs.YtdecceekodpjiaaDoor

/-
  A state's box that is filled anew, again and again; a definition's box while it is built.
-/
namespace Go.Proofs.YtdecceekodpjiaaDoor
open Go.RowKit

theorem Tryd.info32 : (Tryd.prog.info? 32).map (fun i => (i.zero, i.size, i.bytes)) = some (some (.agg #[.string ⟨#[]⟩, .int .i64 0, .string ⟨#[]⟩, .string ⟨#[]⟩, .int .i64 0, .int .i64 0, .slice none 0 0]), 7, 96) := by kernel_rfl

theorem pairFz {w : World} {b : Nat} {T : TypeId} {u0 u1 : Value} (h : w.heap[b]? = some (.cells #[u0, u1] T (0, 0))) : (w.cell? ⟨b, 0, none⟩ = some u0 ∧ w.cell? ⟨b, 1, none⟩ = some u1) ∧ w.frozen? ⟨b, 0, none⟩ = false ∧ w.frozen? ⟨b, 1, none⟩ = false := by
  simp [World.cell?, World.frozen?, h]

theorem pairSet {w : World} {b : Nat} {T : TypeId} {u0 u1 : Value} (h : w.heap[b]? = some (.cells #[u0, u1] T (0, 0))) (v : Value) : (w.setCell ⟨b, 1, none⟩ v).heap[b]? = some (.cells #[u0, v] T (0, 0)) := by
  simp [World.setCell, Array.getElem?_modify, h]

/-- A state's box at g; its rows do not lie in sb. -/
structure SBox (w : World) (sb g : Nat) (s : St) (a6 : Option Addr) (c6 : Nat) (a7 : Option Addr) (c7 : Nat) : Prop where
  blk : w.heap[g]? = some (.cells #[.string s.dfn, .string s.id, .string s.par, .string s.pnode, .int .i64 s.status, .string s.text, .slice a6 s.nodes.length c6, .slice a7 s.sigs.length c7, .int .i64 s.events] 39 (0, 0))
  nodes : w.ownsRow 0 54 3 (.slice a6 s.nodes.length c6) s.nodes.length (nsF s.nodes)
  sigs : w.ownsRow 0 78 2 (.slice a7 s.sigs.length c7) s.sigs.length (sgF s.sigs)
  ap6 : ∀ g, (Value.slice a6 s.nodes.length c6).ownBlock = some g → g ≠ sb
  ap7 : ∀ g, (Value.slice a7 s.sigs.length c7).ownBlock = some g → g ≠ sb

section
variable {w w' : World} {sb g : Nat} {s : St} {a6 : Option Addr} {c6 : Nat} {a7 : Option Addr} {c7 : Nat}

theorem SBox.rd (X : SBox w sb g s a6 c6 a7 c7) (Z : Small s) : StRd w s (.slice a6 s.nodes.length c6) (.slice a7 s.sigs.length c7) := ⟨flat_of_owns X.nodes, flat_of_owns X.sigs, by have := Z.nodes; omega, by have := Z.sigs; omega⟩

theorem SBox.new (X : SBox w sb g s a6 c6 a7 c7) (K : Kept (fun _ => False) w w') : SBox w' sb g s a6 c6 a7 c7 :=
  ⟨(K.block _ (Array.getElem?_eq_some_iff.1 X.blk).1 (fun h => h)).trans X.blk, ownsRow_keep X.nodes (fun g hg => K.block g (ownsRow_blk X.nodes hg) (fun h => h)), ownsRow_keep X.sigs (fun g hg => K.block g (ownsRow_blk X.sigs hg) (fun h => h)), X.ap6, X.ap7⟩

/-- What an answer's box holds is put into the box. -/
theorem SBox.put {u0 u1 u2 u3 u4 u5 u6 u7 u8 : Value} (X : SBox w sb g s a6 c6 a7 c7) (hb : w.heap[sb]? = some (.cells #[u0, u1, u2, u3, u4, u5, u6, u7, u8] 39 (0, 0))) :
    SBox (((((((((w.setCell ⟨sb, 0, none⟩ (.string s.dfn)).setCell ⟨sb, 1, none⟩ (.string s.id)).setCell ⟨sb, 2, none⟩ (.string s.par)).setCell ⟨sb, 3, none⟩ (.string s.pnode)).setCell ⟨sb, 4, none⟩ (.int .i64 s.status)).setCell ⟨sb, 5, none⟩ (.string s.text)).setCell ⟨sb, 6, none⟩ (.slice a6 s.nodes.length c6)).setCell ⟨sb, 7, none⟩ (.slice a7 s.sigs.length c7)).setCell ⟨sb, 8, none⟩ (.int .i64 s.events)) sb sb s a6 c6 a7 c7 ∧
    Kept (fun j => j = sb) w (((((((((w.setCell ⟨sb, 0, none⟩ (.string s.dfn)).setCell ⟨sb, 1, none⟩ (.string s.id)).setCell ⟨sb, 2, none⟩ (.string s.par)).setCell ⟨sb, 3, none⟩ (.string s.pnode)).setCell ⟨sb, 4, none⟩ (.int .i64 s.status)).setCell ⟨sb, 5, none⟩ (.string s.text)).setCell ⟨sb, 6, none⟩ (.slice a6 s.nodes.length c6)).setCell ⟨sb, 7, none⟩ (.slice a7 s.sigs.length c7)).setCell ⟨sb, 8, none⟩ (.int .i64 s.events)) := by
  have K := kept9 (S := fun j => j = sb) w rfl (.string s.dfn) (.string s.id) (.string s.par) (.string s.pnode) (.int .i64 s.status) (.string s.text) (.slice a6 s.nodes.length c6) (.slice a7 s.sigs.length c7) (.int .i64 s.events)
  exact ⟨⟨put9 hb _ _ _ _ _ _ _ _ _, ownsRow_keep X.nodes (fun g hg => K.block g (ownsRow_blk X.nodes hg) (X.ap6 g hg)), ownsRow_keep X.sigs (fun g hg => K.block g (ownsRow_blk X.sigs hg) (X.ap7 g hg)), X.ap6, X.ap7⟩, K⟩

end

theorem ans_sbox {w2 : World} {B sb : Nat} {r : Rn} {ve vt : Value} {a6 : Option Addr} {c6 : Nat} {a7 : Option Addr} {c7 : Nat} (A : AnsAt w2 B r ve (.slice a6 r.st.nodes.length c6) (.slice a7 r.st.sigs.length c7) vt) (hap : ∀ g, B ≤ g → g < w2.heap.size → g ≠ sb) :
    SBox (w2.alloc (.cells #[.string r.st.dfn, .string r.st.id, .string r.st.par, .string r.st.pnode, .int .i64 r.st.status, .string r.st.text, .slice a6 r.st.nodes.length c6, .slice a7 r.st.sigs.length c7, .int .i64 r.st.events] 39)) sb w2.heap.size r.st a6 c6 a7 c7 := by
  have K := Kept.alloc (fun _ => False) w2 (.cells #[.string r.st.dfn, .string r.st.id, .string r.st.par, .string r.st.pnode, .int .i64 r.st.status, .string r.st.text, .slice a6 r.st.nodes.length c6, .slice a7 r.st.sigs.length c7, .int .i64 r.st.events] 39)
  exact ⟨heap_alloc_new _ _, ownsRow_low (ownsRow_keep A.nodes (fun g hg => K.block g (ownsRow_blk A.nodes hg) (fun h => h))) (Nat.zero_le _), ownsRow_low (ownsRow_keep A.sigs (fun g hg => K.block g (ownsRow_blk A.sigs hg) (fun h => h))) (Nat.zero_le _), fun g hg => hap g (A.nodes.lt g hg).1 (ownsRow_blk A.nodes hg), fun g hg => hap g (A.sigs.lt g hg).1 (ownsRow_blk A.sigs hg)⟩

/-- A definition on its way: its box at db, its nodes. -/
structure BJ (w0 w : World) (db : Nat) (a : Option Addr) (c : Nat) (ns : List Nd) (vs : List Value) : Prop where
  box : w.heap[db]? = some (.cells #[.string ⟨#[119]⟩, .slice a ns.length c] 28 (0, 0))
  bld : Bld w (db + 1) a c ns vs
  kept : Kept (fun _ => False) w0 w
  new : w0.heap.size ≤ db

section
variable {w0 w w' : World} {db : Nat} {a : Option Addr} {c : Nat} {ns : List Nd} {vs : List Value}

theorem BJ.new' (J : BJ w0 w db a c ns vs) (K : Kept (fun _ => False) w w') : BJ w0 w' db a c ns vs := ⟨(K.block _ (Array.getElem?_eq_some_iff.1 J.box).1 (fun h => h)).trans J.box, J.bld.new K, J.kept.and K, J.new⟩

/-- Behind an append its box still holds what it held. -/
theorem BJ.grown {w3 : World} (J : BJ w0 w db a c ns vs) (hg : w.grownBy w3 (Value.slice a ns.length c).ownBlock) : w3.heap[db]? = some (.cells #[.string ⟨#[119]⟩, .slice a ns.length c] 28 (0, 0)) :=
  ((Kept.grown (S := fun j => (Value.slice a ns.length c).ownBlock = some j) hg (fun _ e => e)).block db (Array.getElem?_eq_some_iff.1 J.box).1 (fun e => by have := (J.bld.row.lt db e).1; omega)).trans J.box

theorem BJ.push {w3 : World} {a3 : Option Addr} {c3 : Nat} {n : Nd} {v : Value} (J : BJ w0 w db a c ns vs) (ho : w3.ownsRow (db + 1) 32 7 (.slice a3 (ns.length + 1) c3) (ns.length + 1) (flatB ns vs ++ ndC n v)) (hg : w.grownBy w3 (Value.slice a ns.length c).ownBlock)
    (hv : (n.after = [] ∧ v = .slice none 0 0) ∨ ∃ b s, n.after = [s] ∧ s.size ≤ 100 ∧ v = .slice (some ⟨b, 0, none⟩) 1 1 ∧ w.heap[b]? = some (.cells #[.string s] 9 (0, 0))) : BJ w0 (w3.setCell ⟨db, 1, none⟩ (.slice a3 (ns.length + 1) c3)) db a3 c3 (ns ++ [n]) (vs ++ [v]) := by
  have X := J.bld.push ho hg hv
  have hb := J.grown hg
  have KG : Kept (fun j => (Value.slice a ns.length c).ownBlock = some j) w w3 := Kept.grown hg (fun _ e => e)
  have K := Kept.setCell (S := fun j => j = db) w3 ⟨db, 1, none⟩ (.slice a3 (ns.length + 1) c3) rfl
  refine ⟨?_, ⟨X.len, ownsRow_keep X.row (fun g hg => K.block g (ownsRow_blk X.row hg) (fun e => by have := (X.row.lt g hg).1; omega)), fun j h1 h2 => ?_⟩, ?_, J.new⟩
  · rw [List.length_append, List.length_singleton]
    exact pairSet hb _
  · rcases X.txt j h1 h2 with h | ⟨b, s, h, hs, hv', hb'⟩
    · exact .inl h
    · refine .inr ⟨b, s, h, hs, hv', (K.block b (Array.getElem?_eq_some_iff.1 hb').1 (fun e => ?_)).trans hb'⟩
      subst e
      rw [hb] at hb'
      simp at hb'
  · have h1 := J.new
    exact (J.kept.trans KG (fun g e => .inr (by have := (J.bld.row.lt g e).1; omega))).trans K (fun g e => .inr (by omega))

end

theorem sgSt_small {n g t : Nat} (hn : n ≤ 10) (hg : g ≤ n) (ht : t ≤ 32) : Small (sgSt n g t) := ⟨by show ((List.range n).map (sgNode g)).length ≤ 64; simp; omega, by show (List.replicate t _).length ≤ 100000; simp; omega, by show (0 : Int) ≤ ((2 + 2 * g + t : Nat) : Int); omega, by show ((2 + 2 * g + t : Nat) : Int) ≤ 100000; omega, by show (1 : Nat) ≤ 100000000; decide⟩

end Go.Proofs.YtdecceekodpjiaaDoor

/-
  Apply as the document has it, as data; it is the program's, where what is not over has no text.
-/
namespace Go.Proofs.YtdecceekodpjiaaDoor
open Go.RowKit

/-- What an event makes of a node: how it stands, its text, the signals that are kept. -/
def moveR (sg : List Sg) (e : Ev) (n : Nd) (y : Ns) : Option (Int × ByteArray × List Sg) :=
  if e.kind = 2 ∧ n.kind = 1 ∧ y.status = 0 then some (1, ⟨#[]⟩, sg)
  else if e.kind = 3 ∧ n.kind = 1 ∧ y.status = 1 then some (2, ⟨#[]⟩, sg)
  else if e.kind = 5 ∧ n.kind = 1 ∧ y.status = 2 then some (1, ⟨#[]⟩, sg)
  else if e.kind = 4 ∧ n.kind = 1 ∧ y.status = 2 then some (3, e.text, sg)
  else if e.kind = 6 ∧ (y.status = 2 ∨ n.kind = 3 ∧ y.status = 0) then some (4, e.text, sg)
  else if e.kind = 7 ∧ n.kind = 2 ∧ y.status = 0 then some (2, ⟨#[]⟩, sg)
  else if e.kind = 8 ∧ n.kind = 2 ∧ y.status = 2 then some (3, ⟨#[]⟩, sg)
  else if e.kind = 9 ∧ n.kind = 3 ∧ y.status = 0 then some (2, ⟨#[]⟩, sg)
  else if e.kind = 10 ∧ n.kind = 3 ∧ y.status = 2 then some (3, e.text, sg)
  else if e.kind = 11 ∧ n.kind = 4 ∧ y.status = 0 then some (2, ⟨#[]⟩, sg)
  else if e.kind = 12 ∧ n.kind = 4 ∧ e.num = 0 ∧ y.status = 2 then some (3, e.text, sg)
  else if e.kind = 12 ∧ n.kind = 4 ∧ e.num = 1 ∧ y.status = 0 then (match keptP sg n.arg with | some k => some (3, e.text, sg.eraseIdx k) | none => none)
  else if e.kind = 14 ∧ n.kind = 5 ∧ y.status = 0 then some (3, ⟨#[]⟩, sg)
  else none

def applyR (nm : ByteArray) (ns : List Nd) (s : St) (e : Ev) : Option St :=
  if e.kind = 1 then (if s.status ≠ 0 then none else some { s with status := 1, dfn := nm, par := e.text, pnode := e.node, nodes := List.replicate ns.length ⟨0, 0, ⟨#[]⟩⟩, events := s.events + 1 })
  else if s.status ≠ 1 then none
  else if e.kind = 13 then some { s with sigs := s.sigs ++ [⟨e.node, e.text⟩], events := s.events + 1 }
  else if e.kind = 15 then (if e.num < 2 ∨ 4 < e.num then none else some { s with status := e.num, text := e.text, events := s.events + 1 })
  else match findP ns e.node with
    | none => none
    | some i => match ns[i]?, s.nodes[i]? with
      | some n, some y => (moveR s.sigs e n y).map (fun (p : Int × ByteArray × List Sg) => { s with nodes := s.nodes.modify i (fun x => ⟨p.1, if e.kind = 3 then e.num else x.tr, if p.2.1 ≠ ⟨#[]⟩ ∨ p.1 = 3 ∨ p.1 = 4 then p.2.1 else x.text⟩), sigs := p.2.2, events := s.events + 1 })
      | _, _ => none

/-- What is not over has no text. -/
def Bare (s : St) : Prop := ∀ y ∈ s.nodes, y.status = 0 ∨ y.status = 1 ∨ y.status = 2 → y.text = ⟨#[]⟩

theorem moveP_is (e k s : Int) : moveP e k s =
    if e = 2 ∧ s = 0 ∧ k = 1 then some ⟨2, 1, 0, 1, false⟩ else if e = 3 ∧ s = 1 ∧ k = 1 then some ⟨3, 1, 1, 2, false⟩ else if e = 5 ∧ s = 2 ∧ k = 1 then some ⟨5, 1, 2, 1, false⟩ else if e = 4 ∧ s = 2 ∧ k = 1 then some ⟨4, 1, 2, 3, true⟩
    else if e = 6 ∧ s = 2 then some ⟨6, 0, 2, 4, true⟩ else if e = 6 ∧ s = 0 ∧ k = 3 then some ⟨6, 3, 0, 4, true⟩ else if e = 7 ∧ s = 0 ∧ k = 2 then some ⟨7, 2, 0, 2, false⟩ else if e = 8 ∧ s = 2 ∧ k = 2 then some ⟨8, 2, 2, 3, false⟩
    else if e = 9 ∧ s = 0 ∧ k = 3 then some ⟨9, 3, 0, 2, false⟩ else if e = 10 ∧ s = 2 ∧ k = 3 then some ⟨10, 3, 2, 3, true⟩ else if e = 11 ∧ s = 0 ∧ k = 4 then some ⟨11, 4, 0, 2, false⟩ else if e = 12 ∧ s = 2 ∧ k = 4 then some ⟨12, 4, 2, 3, true⟩
    else if e = 12 ∧ s = 0 ∧ k = 4 then some ⟨12, 4, 0, 3, true⟩ else if e = 14 ∧ s = 0 ∧ k = 5 then some ⟨14, 5, 0, 3, false⟩ else none := by
  have hf : ∀ (m : Mv) (l : List Mv), (m :: l).find? (fun m => m.fits e k s) = if e = m.event ∧ s = m.src ∧ (k = m.kind ∨ m.kind = 0) then some m else l.find? (fun m => m.fits e k s) := fun m l => by
    rw [List.find?_cons]
    have hb : m.fits e k s = decide (e = m.event ∧ s = m.src ∧ (k = m.kind ∨ m.kind = 0)) := by
      unfold Mv.fits
      rw [Bool.eq_iff_iff]
      simp
      constructor
      · rintro ⟨rfl, rfl, h⟩; exact ⟨rfl, rfl, h.imp Eq.symm id⟩
      · rintro ⟨rfl, rfl, h⟩; exact ⟨rfl, rfl, h.imp Eq.symm id⟩
    rw [hb]
    by_cases h : e = m.event ∧ s = m.src ∧ (k = m.kind ∨ m.kind = 0)
    · rw [decide_eq_true h, if_pos h]
    · rw [decide_eq_false h, if_neg h]
  unfold moveP movesL
  rw [hf, hf, hf, hf, hf, hf, hf, hf, hf, hf, hf, hf, hf, hf, List.find?_nil]
  simp

theorem apply_same {nm : ByteArray} {ns : List Nd} {s : St} (hB : Bare s) (e : Ev) : applyR nm ns s e = changeP nm ns s e := by
  unfold applyR changeP
  by_cases h1 : e.kind = 1
  · rw [if_pos h1, if_pos h1, if_pos h1]
  · rw [if_neg h1, if_neg h1, if_neg h1]
    by_cases hs : s.status ≠ 1
    · rw [if_pos hs, if_pos hs]
    · rw [if_neg hs, if_neg hs]
      by_cases h13 : e.kind = 13
      · rw [if_pos h13, if_pos h13]
      · rw [if_neg h13, if_neg h13]
        by_cases h15 : e.kind = 15
        · rw [if_pos h15, if_pos h15]
          by_cases hn : e.num < 2 ∨ 4 < e.num
          · rw [if_pos hn, if_neg (by omega)]
          · rw [if_neg hn, if_pos (by omega)]
        · rw [if_neg h15, if_neg h15]
          unfold changeNodeP nodeMove argAt
          cases hf : findP ns e.node with
          | none => rfl
          | some i =>
            dsimp only
            cases hn : ns[i]? with
            | none => rfl
            | some n =>
              cases hy : s.nodes[i]? with
              | none => rfl
              | some y =>
                dsimp only
                have hb := hB y (List.mem_of_getElem? hy)
                have hset : ∀ (st : Int) (tx : ByteArray) (b : Bool) (m : Mv), m.dst = st → m.txt = b → ((b = true ∧ (tx = e.text) ∧ (st = 3 ∨ st = 4)) ∨ (b = false ∧ tx = ⟨#[]⟩ ∧ y.text = ⟨#[]⟩)) →
                    s.nodes.modify i (fun x => ⟨st, if e.kind = 3 then e.num else x.tr, if tx ≠ ⟨#[]⟩ ∨ st = 3 ∨ st = 4 then tx else x.text⟩) = setNode s.nodes i m e := fun st tx b m hm hb2 h => by
                  unfold setNode
                  subst hm hb2
                  apply List.ext_getElem?
                  intro j
                  rw [List.getElem?_modify, List.getElem?_modify]
                  by_cases hj : i = j
                  · subst hj
                    rw [hy]
                    simp only [if_true, Option.map_eq_map, Option.map_some, Option.some.injEq, Ns.mk.injEq, true_and]
                    rcases h with ⟨h1, h2, h3⟩ | ⟨h1, h2, h3⟩
                    · rw [h1, h2, if_pos (.inr h3), if_pos rfl]
                    · rw [h1, h2, h3]
                      by_cases hh : ((⟨#[]⟩ : ByteArray) ≠ ⟨#[]⟩) ∨ m.dst = 3 ∨ m.dst = 4
                      · rw [if_pos hh]; simp
                      · rw [if_neg hh]; simp
                  · simp [hj]
                rw [moveP_is]
                unfold moveR
                by_cases c1 : e.kind = 2 ∧ n.kind = 1 ∧ y.status = 0
                · rw [if_pos c1, if_pos (c := e.kind = 2 ∧ y.status = 0 ∧ n.kind = 1) ⟨c1.1, c1.2.2, c1.2.1⟩]
                  dsimp only [Option.map_some]
                  rw [if_neg (by rw [c1.1]; decide)]
                  dsimp only [Option.map_some]
                  rw [hset 1 ⟨#[]⟩ false ⟨2, 1, 0, 1, false⟩ rfl rfl (.inr ⟨rfl, rfl, hb (.inl c1.2.2)⟩)]
                rw [if_neg c1, if_neg (c := e.kind = 2 ∧ y.status = 0 ∧ n.kind = 1) (fun h => c1 ⟨h.1, h.2.2, h.2.1⟩)]
                by_cases c2 : e.kind = 3 ∧ n.kind = 1 ∧ y.status = 1
                · rw [if_pos c2, if_pos (c := e.kind = 3 ∧ y.status = 1 ∧ n.kind = 1) ⟨c2.1, c2.2.2, c2.2.1⟩]
                  dsimp only [Option.map_some]
                  rw [if_neg (by rw [c2.1]; decide)]
                  dsimp only [Option.map_some]
                  rw [hset 2 ⟨#[]⟩ false ⟨3, 1, 1, 2, false⟩ rfl rfl (.inr ⟨rfl, rfl, hb (.inr (.inl c2.2.2))⟩)]
                rw [if_neg c2, if_neg (c := e.kind = 3 ∧ y.status = 1 ∧ n.kind = 1) (fun h => c2 ⟨h.1, h.2.2, h.2.1⟩)]
                by_cases c3 : e.kind = 5 ∧ n.kind = 1 ∧ y.status = 2
                · rw [if_pos c3, if_pos (c := e.kind = 5 ∧ y.status = 2 ∧ n.kind = 1) ⟨c3.1, c3.2.2, c3.2.1⟩]
                  dsimp only [Option.map_some]
                  rw [if_neg (by rw [c3.1]; decide)]
                  dsimp only [Option.map_some]
                  rw [hset 1 ⟨#[]⟩ false ⟨5, 1, 2, 1, false⟩ rfl rfl (.inr ⟨rfl, rfl, hb (.inr (.inr c3.2.2))⟩)]
                rw [if_neg c3, if_neg (c := e.kind = 5 ∧ y.status = 2 ∧ n.kind = 1) (fun h => c3 ⟨h.1, h.2.2, h.2.1⟩)]
                by_cases c4 : e.kind = 4 ∧ n.kind = 1 ∧ y.status = 2
                · rw [if_pos c4, if_pos (c := e.kind = 4 ∧ y.status = 2 ∧ n.kind = 1) ⟨c4.1, c4.2.2, c4.2.1⟩]
                  dsimp only [Option.map_some]
                  rw [if_neg (by rw [c4.1]; decide)]
                  dsimp only [Option.map_some]
                  rw [hset 3 e.text true ⟨4, 1, 2, 3, true⟩ rfl rfl (.inl ⟨rfl, rfl, .inl rfl⟩)]
                rw [if_neg c4, if_neg (c := e.kind = 4 ∧ y.status = 2 ∧ n.kind = 1) (fun h => c4 ⟨h.1, h.2.2, h.2.1⟩)]
                by_cases c5 : e.kind = 6 ∧ (y.status = 2 ∨ n.kind = 3 ∧ y.status = 0)
                · rw [if_pos c5]
                  dsimp only [Option.map_some]
                  rcases c5.2 with c | c
                  · rw [if_pos (c := e.kind = 6 ∧ y.status = 2) ⟨c5.1, c⟩]
                    dsimp only [Option.map_some]
                    rw [if_neg (by rw [c5.1]; decide)]
                    dsimp only [Option.map_some]
                    rw [hset 4 e.text true ⟨6, 0, 2, 4, true⟩ rfl rfl (.inl ⟨rfl, rfl, .inr rfl⟩)]
                  · rw [if_neg (c := e.kind = 6 ∧ y.status = 2) (fun h => by have := h.2; rw [c.2] at this; cases this), if_pos (c := e.kind = 6 ∧ y.status = 0 ∧ n.kind = 3) ⟨c5.1, c.2, c.1⟩]
                    dsimp only [Option.map_some]
                    rw [if_neg (by rw [c5.1]; decide)]
                    dsimp only [Option.map_some]
                    rw [hset 4 e.text true ⟨6, 3, 0, 4, true⟩ rfl rfl (.inl ⟨rfl, rfl, .inr rfl⟩)]
                rw [if_neg c5, if_neg (c := e.kind = 6 ∧ y.status = 2) (fun h => c5 ⟨h.1, .inl h.2⟩), if_neg (c := e.kind = 6 ∧ y.status = 0 ∧ n.kind = 3) (fun h => c5 ⟨h.1, .inr ⟨h.2.2, h.2.1⟩⟩)]
                by_cases c6 : e.kind = 7 ∧ n.kind = 2 ∧ y.status = 0
                · rw [if_pos c6, if_pos (c := e.kind = 7 ∧ y.status = 0 ∧ n.kind = 2) ⟨c6.1, c6.2.2, c6.2.1⟩]
                  dsimp only [Option.map_some]
                  rw [if_neg (by rw [c6.1]; decide)]
                  dsimp only [Option.map_some]
                  rw [hset 2 ⟨#[]⟩ false ⟨7, 2, 0, 2, false⟩ rfl rfl (.inr ⟨rfl, rfl, hb (.inl c6.2.2)⟩)]
                rw [if_neg c6, if_neg (c := e.kind = 7 ∧ y.status = 0 ∧ n.kind = 2) (fun h => c6 ⟨h.1, h.2.2, h.2.1⟩)]
                by_cases c7 : e.kind = 8 ∧ n.kind = 2 ∧ y.status = 2
                · rw [if_pos c7, if_pos (c := e.kind = 8 ∧ y.status = 2 ∧ n.kind = 2) ⟨c7.1, c7.2.2, c7.2.1⟩]
                  dsimp only [Option.map_some]
                  rw [if_neg (by rw [c7.1]; decide)]
                  dsimp only [Option.map_some]
                  rw [hset 3 ⟨#[]⟩ false ⟨8, 2, 2, 3, false⟩ rfl rfl (.inr ⟨rfl, rfl, hb (.inr (.inr c7.2.2))⟩)]
                rw [if_neg c7, if_neg (c := e.kind = 8 ∧ y.status = 2 ∧ n.kind = 2) (fun h => c7 ⟨h.1, h.2.2, h.2.1⟩)]
                by_cases c8 : e.kind = 9 ∧ n.kind = 3 ∧ y.status = 0
                · rw [if_pos c8, if_pos (c := e.kind = 9 ∧ y.status = 0 ∧ n.kind = 3) ⟨c8.1, c8.2.2, c8.2.1⟩]
                  dsimp only [Option.map_some]
                  rw [if_neg (by rw [c8.1]; decide)]
                  dsimp only [Option.map_some]
                  rw [hset 2 ⟨#[]⟩ false ⟨9, 3, 0, 2, false⟩ rfl rfl (.inr ⟨rfl, rfl, hb (.inl c8.2.2)⟩)]
                rw [if_neg c8, if_neg (c := e.kind = 9 ∧ y.status = 0 ∧ n.kind = 3) (fun h => c8 ⟨h.1, h.2.2, h.2.1⟩)]
                by_cases c9 : e.kind = 10 ∧ n.kind = 3 ∧ y.status = 2
                · rw [if_pos c9, if_pos (c := e.kind = 10 ∧ y.status = 2 ∧ n.kind = 3) ⟨c9.1, c9.2.2, c9.2.1⟩]
                  dsimp only [Option.map_some]
                  rw [if_neg (by rw [c9.1]; decide)]
                  dsimp only [Option.map_some]
                  rw [hset 3 e.text true ⟨10, 3, 2, 3, true⟩ rfl rfl (.inl ⟨rfl, rfl, .inl rfl⟩)]
                rw [if_neg c9, if_neg (c := e.kind = 10 ∧ y.status = 2 ∧ n.kind = 3) (fun h => c9 ⟨h.1, h.2.2, h.2.1⟩)]
                by_cases c10 : e.kind = 11 ∧ n.kind = 4 ∧ y.status = 0
                · rw [if_pos c10, if_pos (c := e.kind = 11 ∧ y.status = 0 ∧ n.kind = 4) ⟨c10.1, c10.2.2, c10.2.1⟩]
                  dsimp only [Option.map_some]
                  rw [if_neg (by rw [c10.1]; decide)]
                  dsimp only [Option.map_some]
                  rw [hset 2 ⟨#[]⟩ false ⟨11, 4, 0, 2, false⟩ rfl rfl (.inr ⟨rfl, rfl, hb (.inl c10.2.2)⟩)]
                rw [if_neg c10, if_neg (c := e.kind = 11 ∧ y.status = 0 ∧ n.kind = 4) (fun h => c10 ⟨h.1, h.2.2, h.2.1⟩)]
                by_cases c11 : e.kind = 12 ∧ y.status = 2 ∧ n.kind = 4
                · rw [if_neg (fun h => by have := h.2.2.2; rw [c11.2.1] at this; cases this) (c := e.kind = 12 ∧ n.kind = 4 ∧ e.num = 1 ∧ y.status = 0), if_neg (fun h => by have := h.1; rw [c11.1] at this; cases this) (c := e.kind = 14 ∧ n.kind = 5 ∧ y.status = 0), if_pos c11]
                  dsimp only [Option.map_some]
                  rw [if_pos c11.1]
                  unfold receiveP
                  rw [if_pos rfl]
                  by_cases hz : e.num = 0
                  · rw [if_pos (c := e.kind = 12 ∧ n.kind = 4 ∧ e.num = 0 ∧ y.status = 2) ⟨c11.1, c11.2.2, hz, c11.2.1⟩, if_pos hz]
                    dsimp only [Option.map_some]
                    rw [hset 3 e.text true ⟨12, 4, 2, 3, true⟩ rfl rfl (.inl ⟨rfl, rfl, .inl rfl⟩)]
                  · rw [if_neg (c := e.kind = 12 ∧ n.kind = 4 ∧ e.num = 0 ∧ y.status = 2) (fun h => hz h.2.2.1), if_neg hz]
                    rfl
                rw [if_neg c11, if_neg (fun h => c11 ⟨h.1, h.2.2.2, h.2.1⟩) (c := e.kind = 12 ∧ n.kind = 4 ∧ e.num = 0 ∧ y.status = 2)]
                by_cases c12 : e.kind = 12 ∧ y.status = 0 ∧ n.kind = 4
                · rw [if_neg (fun h => by have := h.1; rw [c12.1] at this; cases this) (c := e.kind = 14 ∧ n.kind = 5 ∧ y.status = 0), if_pos c12]
                  dsimp only [Option.map_some]
                  rw [if_pos c12.1]
                  unfold receiveP
                  rw [if_neg (c := (0 : Int) = 2) (by decide)]
                  by_cases hz : e.num = 1
                  · rw [if_pos (c := e.kind = 12 ∧ n.kind = 4 ∧ e.num = 1 ∧ y.status = 0) ⟨c12.1, c12.2.2, hz, c12.2.1⟩]
                    cases keptP s.sigs n.arg with
                    | none => rfl
                    | some j =>
                      dsimp only [Option.map_some]
                      rw [if_pos hz]
                      dsimp only [Option.map_some]
                      rw [hset 3 e.text true ⟨12, 4, 0, 3, true⟩ rfl rfl (.inl ⟨rfl, rfl, .inl rfl⟩)]
                  · rw [if_neg (c := e.kind = 12 ∧ n.kind = 4 ∧ e.num = 1 ∧ y.status = 0) (fun h => hz h.2.2.1)]
                    cases keptP s.sigs n.arg with
                    | none => rfl
                    | some j =>
                      dsimp only
                      rw [if_neg hz]
                      rfl
                rw [if_neg c12, if_neg (fun h => c12 ⟨h.1, h.2.2.2, h.2.1⟩) (c := e.kind = 12 ∧ n.kind = 4 ∧ e.num = 1 ∧ y.status = 0)]
                by_cases c13 : e.kind = 14 ∧ n.kind = 5 ∧ y.status = 0
                · rw [if_pos c13, if_pos (c := e.kind = 14 ∧ y.status = 0 ∧ n.kind = 5) ⟨c13.1, c13.2.2, c13.2.1⟩]
                  dsimp only [Option.map_some]
                  rw [if_neg (by rw [c13.1]; decide)]
                  dsimp only [Option.map_some]
                  rw [hset 3 ⟨#[]⟩ false ⟨14, 5, 0, 3, false⟩ rfl rfl (.inr ⟨rfl, rfl, hb (.inl c13.2.2)⟩)]
                · rw [if_neg c13, if_neg (c := e.kind = 14 ∧ y.status = 0 ∧ n.kind = 5) (fun h => c13 ⟨h.1, h.2.2, h.2.1⟩)]
                  rfl

end Go.Proofs.YtdecceekodpjiaaDoor

/-
  How the document lets a node begin and closes a workflow, as data: it is what the program does, where the node is idle.
-/
namespace Go.Proofs.YtdecceekodpjiaaDoor
open Go.RowKit

/-- An event happens; a task comes to be. -/
def evR (nm : ByteArray) (ns : List Nd) (r : Rn) (e : Ev) : Rn := { r with st := (applyR nm ns r.st e).getD r.st, evs := r.evs ++ [e] }
def taskR (r : Rn) (t : Tk) : Rn := { r with tks := r.tks ++ [flowT r.st.id t] }
def mailR (r : Rn) (m : Ml) : Rn := taskR r (msgP r.st.id m)

def closedR (nm : ByteArray) (ns : List Nd) (r : Rn) (st : Int) (tx : ByteArray) : Rn :=
  { evR nm ns r ⟨15, ⟨#[]⟩, tx, st⟩ with tks := r.tks ++ (mailsP ns (evR nm ns r ⟨15, ⟨#[]⟩, tx, st⟩).st st tx).map (flowT (evR nm ns r ⟨15, ⟨#[]⟩, tx, st⟩).st.id) }

def beginR (nm : ByteArray) (ns : List Nd) (r : Rn) (x : Nd) : Rn :=
  if x.kind = 1 then taskR (evR nm ns r ⟨2, x.name, ⟨#[]⟩, 0⟩) ⟨1, ⟨#[]⟩, x.name, 1, 0, zeroMl⟩
  else if x.kind = 2 then taskR (evR nm ns r ⟨7, x.name, ⟨#[]⟩, IntKind.i64.wrap (r.now + x.delay)⟩) ⟨2, ⟨#[]⟩, x.name, 0, IntKind.i64.wrap (r.now + x.delay), zeroMl⟩
  else if x.kind = 3 then (if 256 < (childP r.st.id x.name).size then closedR nm ns (evR nm ns r ⟨6, x.name, longB, 0⟩) 3 longB
    else mailR (evR nm ns r ⟨9, x.name, ⟨#[]⟩, 0⟩) ⟨1, childP r.st.id x.name, ⟨#[]⟩, x.name, x.arg, ⟨#[]⟩, 0⟩)
  else if x.kind = 4 then (match keptP r.st.sigs x.arg with
    | some k => evR nm ns r ⟨12, x.name, ((r.st.sigs[k]?).map (fun s => s.text)).getD ⟨#[]⟩, 1⟩
    | none => evR nm ns r ⟨11, x.name, ⟨#[]⟩, 0⟩)
  else mailR (evR nm ns r ⟨14, x.name, ⟨#[]⟩, 0⟩) ⟨3, x.«to», ⟨#[]⟩, x.name, x.arg, ⟨#[]⟩, 0⟩

section
variable {nm : ByteArray} {ns : List Nd} {r : Rn} {s : St} {e : Ev}

theorem ev_tell0 (hB : Bare r.st) {t : St} (h : changeP nm ns r.st e = some t) : evR nm ns r e = tellP nm ns r e [] := by
  unfold evR tellP
  rw [apply_same hB, h]
  simp

theorem ev_tell1 (hB : Bare r.st) {t : St} (h : changeP nm ns r.st e = some t) (k : Tk) : taskR (evR nm ns r e) k = tellP nm ns r e [k] := by
  unfold taskR evR tellP
  rw [apply_same hB, h]
  rfl

theorem ev_mail (hB : Bare r.st) {t : St} (h : changeP nm ns r.st e = some t) (he : e.kind ≠ 1) (m : Ml) : mailR (evR nm ns r e) m = tellP nm ns r e [msgP r.st.id m] := by
  have hid : (evR nm ns r e).st.id = r.st.id := by
    unfold evR
    rw [apply_same hB, h]
    exact (changeP_grow h he).id
  unfold mailR
  rw [hid]
  exact ev_tell1 hB h _

theorem changeP_close (hs : s.status = 1) (st : Int) (tx : ByteArray) (hst : st = 2 ∨ st = 3 ∨ st = 4) : changeP nm ns s ⟨15, ⟨#[]⟩, tx, st⟩ = some { s with status := st, text := tx, events := s.events + 1 } := by
  unfold changeP
  simp [hs, hst]

theorem closed_same (hB : Bare r.st) (hs : r.st.status = 1) {st : Int} {tx : ByteArray} (hst : st = 2 ∨ st = 3 ∨ st = 4) : closedR nm ns r st tx = endP nm ns r st tx := by
  have hc := changeP_close (nm := nm) (ns := ns) hs st tx hst
  unfold closedR endP tellP evR
  rw [apply_same hB, hc]
  rfl

theorem changeP_fit1 (hs : s.status = 1) {i : Nat} {n : Nd} {y : Ns} {m : Mv} (hf : findP ns e.node = some i) (hn : ns[i]? = some n) (hy : s.nodes[i]? = some y) (hm : moveP e.kind n.kind y.status = some m) (h1 : e.kind ≠ 1) (h12 : e.kind ≠ 12) (h13 : e.kind ≠ 13) (h15 : e.kind ≠ 15) :
    changeP nm ns s e = some { s with nodes := setNode s.nodes i m e, events := s.events + 1 } := by
  have hc : changeNodeP ns s e = some { s with nodes := setNode s.nodes i m e } := by
    unfold changeNodeP
    rw [hf]
    dsimp only
    have hmv : nodeMove ns s e i = some m := by unfold nodeMove; rw [hn, hy]; exact hm
    rw [hmv]
    dsimp only
    rw [if_neg h12]
  unfold changeP
  rw [if_neg (c := s.status ≠ (if e.kind = 1 then 0 else 1)) (by rw [if_neg h1]; simp [hs]), if_neg h1, if_neg h13, if_neg h15, hc]
  rfl

theorem changeP_fit12 (hs : s.status = 1) {i k : Nat} {n : Nd} {y : Ns} (he : e.kind = 12) (hf : findP ns e.node = some i) (hn : ns[i]? = some n) (hk : n.kind = 4) (hy : s.nodes[i]? = some y) (hy0 : y.status = 0) (hz : e.num = 1) (hp : keptP s.sigs n.arg = some k) :
    changeP nm ns s e = some { s with nodes := setNode s.nodes i ⟨12, 4, 0, 3, true⟩ e, sigs := s.sigs.eraseIdx k, events := s.events + 1 } := by
  have hc : changeNodeP ns s e = some { s with nodes := setNode s.nodes i ⟨12, 4, 0, 3, true⟩ e, sigs := s.sigs.eraseIdx k } := by
    unfold changeNodeP
    rw [hf]
    dsimp only
    have hmv : nodeMove ns s e i = some ⟨12, 4, 0, 3, true⟩ := by unfold nodeMove; rw [hn, hy]; dsimp only; rw [he, hk, hy0]; rfl
    rw [hmv]
    dsimp only
    rw [if_pos he]
    have hr : receiveP s.sigs (argAt ns i) 0 e.num = some (s.sigs.eraseIdx k) := by
      unfold receiveP argAt
      rw [hn, if_neg (c := (0 : Int) = 2) (by decide)]
      dsimp only
      rw [hp]
      dsimp only
      rw [if_pos hz]
    rw [hr]
  have h1 : e.kind ≠ 1 := by rw [he]; decide
  unfold changeP
  rw [if_neg (c := s.status ≠ (if e.kind = 1 then 0 else 1)) (by rw [if_neg h1]; simp [hs]), if_neg h1, if_neg (c := e.kind = 13) (by rw [he]; decide), if_neg (c := e.kind = 15) (by rw [he]; decide), hc]
  rfl

theorem setNode_bare {l : List Ns} {i : Nat} {m : Mv} {e : Ev} {s : St} (hB : Bare s) (hl : s.nodes = l) (hm : m.txt = true → m.dst = 3 ∨ m.dst = 4) (hxt : ∀ x, s.nodes[i]? = some x → x.text = ⟨#[]⟩) : ∀ y ∈ setNode l i m e, y.status = 0 ∨ y.status = 1 ∨ y.status = 2 → y.text = ⟨#[]⟩ := by
  subst hl
  intro y hy h
  unfold setNode at hy
  obtain ⟨j, hj⟩ := List.mem_iff_getElem?.1 hy
  rw [List.getElem?_modify] at hj
  by_cases hij : i = j
  · subst hij
    cases hx : s.nodes[i]? with
    | none => rw [hx] at hj; simp at hj
    | some x =>
      rw [hx] at hj
      simp at hj
      subst hj
      dsimp only at h ⊢
      cases ht : m.txt with
      | true => have := hm ht; omega
      | false => simpa [ht] using hxt x hx
  · simp [hij] at hj
    exact hB y (List.mem_of_getElem? hj) h

theorem begin_same (hB : Bare r.st) (hs : r.st.status = 1) {i : Nat} {x : Nd} {y : Ns} (hf : findP ns x.name = some i) (hx : ns[i]? = some x) (hy : r.st.nodes[i]? = some y) (hy0 : y.status = 0) (hk0 : 1 ≤ x.kind) (hk1 : x.kind ≤ 5) : beginR nm ns r x = beginP nm ns r x := by
  unfold beginR beginP
  by_cases h1 : x.kind = 1
  · rw [if_pos h1, if_pos h1]
    exact ev_tell1 hB (changeP_fit1 (m := ⟨2, 1, 0, 1, false⟩) hs hf hx hy (by rw [h1, hy0]; rfl) (by simp) (by simp) (by simp) (by simp)) _
  rw [if_neg h1, if_neg h1]
  by_cases h2 : x.kind = 2
  · rw [if_pos h2, if_pos h2]
    exact ev_tell1 hB (changeP_fit1 (m := ⟨7, 2, 0, 2, false⟩) hs hf hx hy (by rw [h2, hy0]; rfl) (by simp) (by simp) (by simp) (by simp)) _
  rw [if_neg h2, if_neg h2]
  by_cases h3 : x.kind = 3
  · rw [if_pos h3, if_pos h3]
    unfold askP
    have hsz : (childP r.st.id x.name).size = r.st.id.size + 1 + x.name.size := by unfold childP; rw [ByteArray.size_append, ByteArray.size_append]; rfl
    rw [hsz]
    by_cases hl : 256 < r.st.id.size + 1 + x.name.size
    · rw [if_pos hl, if_pos hl]
      have hc := changeP_fit1 (nm := nm) (e := ⟨6, x.name, longB, 0⟩) (m := ⟨6, 3, 0, 4, true⟩) hs hf hx hy (by rw [h3, hy0]; rfl) (by simp) (by simp) (by simp) (by simp)
      rw [ev_tell0 hB hc]
      unfold breakP
      refine closed_same ?_ ?_ (.inr (.inl rfl))
      · unfold tellP
        rw [hc]
        exact fun z hz h => setNode_bare hB rfl (fun _ => .inr rfl) (fun w hw => by rw [hy] at hw; cases hw; exact hB y (List.mem_of_getElem? hy) (.inl hy0)) z hz h
      · unfold tellP
        rw [hc]
        exact hs
    · rw [if_neg hl, if_neg hl]
      exact ev_mail hB (changeP_fit1 (m := ⟨9, 3, 0, 2, false⟩) hs hf hx hy (by rw [h3, hy0]; rfl) (by simp) (by simp) (by simp) (by simp)) (by simp) _
  rw [if_neg h3, if_neg h3]
  by_cases h4 : x.kind = 4
  · rw [if_pos h4, if_pos h4]
    unfold waitP
    cases hk : keptP r.st.sigs x.arg with
    | none => exact ev_tell0 hB (changeP_fit1 (m := ⟨11, 4, 0, 2, false⟩) hs hf hx hy (by rw [h4, hy0]; rfl) (by simp) (by simp) (by simp) (by simp))
    | some k => exact ev_tell0 hB (changeP_fit12 hs rfl hf hx h4 hy hy0 rfl hk)
  rw [if_neg h4, if_neg h4, if_pos (show x.kind = 5 by omega)]
  exact ev_mail hB (changeP_fit1 (m := ⟨14, 5, 0, 3, false⟩) hs hf hx hy (by rw [show x.kind = 5 by omega, hy0]; rfl) (by simp) (by simp) (by simp) (by simp)) (by simp) _

end

end Go.Proofs.YtdecceekodpjiaaDoor

/-
  HistoryCancels: its region that draws its order.
-/
namespace Go.Proofs.YtdecceekodpjiaaDoor
open Go.RowKit

set_option maxRecDepth 100000 in
set_option maxHeartbeats 8000000 in
theorem cn21 {W : World} {db sb nb no n c i : Nat} {nm x : ByteArray} {r : Rn} {A0 A1 A2 A3 A4 A5 A6 A7 A8 : Value} {ds : List Deferred} {u0 u1 u2 u3 u4 u5 u6 u8 u9 u10 u12 u13 u14 u15 u17 u18 u19 u20 u21 u22 u23 u24 u25 u26 u27 u28 u29 u30 u31 u32 u33 u34 u35 u36 u37 u38 u39 u40 u41 u42 u43 u44 u45 u46 u47 u48 u49 u50 u51 u52 u53 u54 u55 u56 u57 u58 u59 u60 u61 u62 u63 u64 u65 u66 u67 u68 u69 u70 u71 u72 u73 u74 u75 u76 u77 u78 u79 u80 u81 u82 u83 u84 u85 u86 u87 u88 u89 u90 u91 u92 u93 u94 u95 u96 u97 u98 u99 u100 u101 u102 u103 u104 u105 u106 u107 u108 u109 u110 u111 u112 u113 u114 u115 u116 u117 u118 u119 u120 u121 u122 u123 u124 u125 u126 u127 u128 u129 u130 u131 u132 u133 u134 u135 u136 u137 u138 u139 u140 u141 u142 u143 u144 u145 u146 u147 u148 u149 u150 u151 u152 u153 u154 u155 u156 u157 u158 u159 u160 u161 u162 u163 u164 u165 u166 u167 u168 u169 u170 u171 u172 u173 u174 u175 u176 u177 u178 u179 u180 u181 u182 u183 u184 u185 u186 u187 u188 u189 u190 u191 u192 u193 u194 u195 u196 u197 u198 u199 u200 u201 u202 u203 u204 u205 u206 u207 u208 u209 u210 u211 u212 u213 u214 : Value} (K : Act → World → Prop)
    (x0 : W.cell? ⟨db, 0, none⟩ = some (.string nm)) (x1 : W.cell? ⟨db, 1, none⟩ = some (.slice (some ⟨nb, no, none⟩) n c)) (x2 : W.cell? ⟨nb, no + i * 7, none⟩ = some (.string x))
    (hmb0 : W.heap[sb]? = some (.cells #[A0, A1, A2, A3, A4, A5, A6, A7, A8] 39 (0, 0))) (hd : db ≠ sb) (hn : nb ≠ sb) (hin : i < n)
    (hC : Calls Tryd.prog 8 #[.agg #[.string nm, .slice (some ⟨nb, no, none⟩) n c], .agg #[A0, A1, A2, A3, A4, A5, A6, A7, A8], .agg #[.int .i64 7, .string x, .string ⟨#[]⟩, .string ⟨#[]⟩, .int .i64 0, .int .i64 2, .int .i64 0, .string ⟨#[]⟩, .string ⟨#[]⟩]] W.drew (OkPost W.drew r))
    (h : ∀ (v92 v93 v94 v95 v96 v97 v98 v99 v100 v101 v102 v103 v104 v105 v106 : Value) (a6 : Option Addr) (c6 : Nat) (a7 : Option Addr) (c7 : Nat) (W' : World), SBox W' sb sb r.st a6 c6 a7 c7 → Kept (fun j => j = sb) W W' → K { tmps := #[u0, u1, u2, u3, u4, u5, u6, .pointer (some ⟨db, 0, none⟩), u8, u9, u10, .pointer (some ⟨sb, 0, none⟩), u12, .int .i64 0, u14, u15, .int .i64 (i : Nat), u17, u18, u19, u20, u21, u22, u23, u24, u25, u26, u27, u28, u29, u30, u31, u32, u33, u34, u35, u36, u37, u38, u39, u40, u41, u42, u43, u44, u45, u46, u47, u48, u49, u50, u51, u52, u53, u54, u55, u56, u57, u58, u59, u60, u61, u62, u63, u64, u65, u66, u67, u68, u69, u70, u71, u72, u73, u74, u75, u76, u77, u78, u79, u80, u81, u82, u83, u84, u85, u86, u87, u88, u89, u90, u91, v92, v93, v94, v95, v96, v97, v98, v99, v100, v101, v102, v103, v104, v105, v106, u107, u108, u109, u110, u111, u112, u113, u114, u115, u116, u117, u118, u119, u120, u121, u122, u123, u124, u125, u126, u127, u128, u129, u130, u131, u132, u133, u134, u135, u136, u137, u138, u139, u140, u141, u142, u143, u144, u145, u146, u147, u148, u149, u150, u151, u152, u153, u154, u155, u156, u157, u158, u159, u160, u161, u162, u163, u164, u165, u166, u167, u168, u169, u170, u171, u172, u173, u174, u175, u176, u177, u178, u179, u180, u181, u182, u183, u184, u185, u186, u187, u188, u189, u190, u191, u192, u193, u194, u195, u196, u197, u198, u199, u200, u201, u202, u203, u204, u205, u206, u207, u208, u209, u210, u211, u212, u213, u214], defers := ds } W') :
    (Code.region 21 #[{ dst := some 93, op := Op.load 28 (Operand.tmp 7), type := 28, pos := "more.go:73", after := #[], guard := none }, { dst := some 94, op := Op.load 39 (Operand.tmp 11), type := 39, pos := "more.go:73", after := #[], guard := none }, { dst := some 95, op := Op.fieldAddr 28 (Operand.tmp 7) 1, type := 0, pos := "more.go:73", after := #[], guard := none }, { dst := some 96, op := Op.load 26 (Operand.tmp 95), type := 26, pos := "more.go:73", after := #[{ on := 2, ground := Ground.data }], guard := none }, { dst := some 97, op := Op.move (Operand.tmp 16), type := 3, pos := "more.go:73", after := #[], guard := none }, { dst := some 98, op := Op.indexAddr 26 (Operand.tmp 96) (Operand.tmp 97), type := 0, pos := "more.go:73", after := #[{ on := 3, ground := Ground.data }, { on := 4, ground := Ground.data }], guard := none }, { dst := some 99, op := Op.fieldAddr 32 (Operand.tmp 98) 0, type := 0, pos := "more.go:73", after := #[{ on := 5, ground := Ground.data }], guard := none }, { dst := some 100, op := Op.load 9 (Operand.tmp 99), type := 9, pos := "more.go:73", after := #[{ on := 6, ground := Ground.data }], guard := none }, { dst := some 101, op := Op.build 34 #[(0, Operand.const (Value.int IntKind.i64 7)), (1, Operand.tmp 100), (5, Operand.const (Value.int IntKind.i64 2))], type := 34, pos := "more.go:73", after := #[{ on := 7, ground := Ground.data }], guard := none }, { dst := some 102, op := Op.call { callee := Callee.value (Operand.func 8), args := #[Operand.tmp 93, Operand.tmp 94, Operand.tmp 101], argTypes := #[28, 39, 34] }, type := 42, pos := "more.go:73", after := #[{ on := 0, ground := Ground.data }, { on := 1, ground := Ground.data }, { on := 8, ground := Ground.data }], guard := none }, { dst := some 92, op := Op.move (Operand.tmp 102), type := 42, pos := "more.go:73", after := #[{ on := 9, ground := Ground.data }], guard := none }, { dst := some 103, op := Op.extract (Operand.tmp 92) 0, type := 35, pos := "more.go:73", after := #[{ on := 10, ground := Ground.data }], guard := none }, { dst := some 104, op := Op.extract (Operand.tmp 92) 1, type := 39, pos := "more.go:73", after := #[{ on := 10, ground := Ground.data }], guard := none }, { dst := some 105, op := Op.extract (Operand.tmp 92) 2, type := 40, pos := "more.go:73", after := #[{ on := 10, ground := Ground.data }, { on := 15, ground := Ground.gcOnly Departure.lateStores }], guard := none }, { dst := some 106, op := Op.extract (Operand.tmp 92) 3, type := 41, pos := "more.go:73", after := #[{ on := 10, ground := Ground.data }, { on := 15, ground := Ground.gcOnly Departure.lateStores }], guard := none }, { dst := none, op := Op.store 39 (Operand.tmp 11) (Operand.tmp 104), type := 0, pos := "more.go:73", after := #[{ on := 12, ground := Ground.data }, { on := 9, ground := Ground.chain }, { on := 0, ground := Ground.phase }, { on := 1, ground := Ground.phase }, { on := 2, ground := Ground.phase }, { on := 3, ground := Ground.phase }, { on := 4, ground := Ground.phase }, { on := 5, ground := Ground.phase }, { on := 6, ground := Ground.phase }, { on := 7, ground := Ground.phase }, { on := 8, ground := Ground.phase }, { on := 9, ground := Ground.phase }, { on := 10, ground := Ground.phase }, { on := 11, ground := Ground.phase }, { on := 12, ground := Ground.phase }, { on := 13, ground := Ground.textOnly Departure.lateStores }, { on := 14, ground := Ground.textOnly Departure.lateStores }], guard := none }, { dst := some 13, op := Op.assign (Operand.tmp 106), type := 41, pos := "more.go:73", after := #[{ on := 14, ground := Ground.data }, { on := 15, ground := Ground.chain }, { on := 0, ground := Ground.phase }, { on := 1, ground := Ground.phase }, { on := 2, ground := Ground.phase }, { on := 3, ground := Ground.phase }, { on := 4, ground := Ground.phase }, { on := 5, ground := Ground.phase }, { on := 6, ground := Ground.phase }, { on := 7, ground := Ground.phase }, { on := 8, ground := Ground.phase }, { on := 9, ground := Ground.phase }, { on := 10, ground := Ground.phase }, { on := 11, ground := Ground.phase }, { on := 12, ground := Ground.phase }, { on := 13, ground := Ground.phase }, { on := 14, ground := Ground.phase }, { on := 15, ground := Ground.phase }], guard := none }] true).wp Tryd.prog (onlyN K) { tmps := #[u0, u1, u2, u3, u4, u5, u6, .pointer (some ⟨db, 0, none⟩), u8, u9, u10, .pointer (some ⟨sb, 0, none⟩), u12, u13, u14, u15, .int .i64 (i : Nat), u17, u18, u19, u20, u21, u22, u23, u24, u25, u26, u27, u28, u29, u30, u31, u32, u33, u34, u35, u36, u37, u38, u39, u40, u41, u42, u43, u44, u45, u46, u47, u48, u49, u50, u51, u52, u53, u54, u55, u56, u57, u58, u59, u60, u61, u62, u63, u64, u65, u66, u67, u68, u69, u70, u71, u72, u73, u74, u75, u76, u77, u78, u79, u80, u81, u82, u83, u84, u85, u86, u87, u88, u89, u90, u91, u92, u93, u94, u95, u96, u97, u98, u99, u100, u101, u102, u103, u104, u105, u106, u107, u108, u109, u110, u111, u112, u113, u114, u115, u116, u117, u118, u119, u120, u121, u122, u123, u124, u125, u126, u127, u128, u129, u130, u131, u132, u133, u134, u135, u136, u137, u138, u139, u140, u141, u142, u143, u144, u145, u146, u147, u148, u149, u150, u151, u152, u153, u154, u155, u156, u157, u158, u159, u160, u161, u162, u163, u164, u165, u166, u167, u168, u169, u170, u171, u172, u173, u174, u175, u176, u177, u178, u179, u180, u181, u182, u183, u184, u185, u186, u187, u188, u189, u190, u191, u192, u193, u194, u195, u196, u197, u198, u199, u200, u201, u202, u203, u204, u205, u206, u207, u208, u209, u210, u211, u212, u213, u214], defers := ds } W := by
  have HH : Hid _ := h
  have KD := Kept.drew (fun j => j = sb) W
  have hmb : Hid (W.drew.heap[sb]? = some (.cells #[A0, A1, A2, A3, A4, A5, A6, A7, A8] 39 (0, 0))) := hmb0
  have hh : ∀ {V : World} {g k : Nat} {v : Value}, Kept (fun j => j = sb) W V → W.cell? ⟨g, k, none⟩ = some v → g ≠ sb → V.cell? ⟨g, k, none⟩ = some v := fun {V g k v} KV hc hg => by
    rw [World.cell?_of_block (w := W) (KV.block _ (World.block_lt_of_cell? W _ hc) hg)]
    exact hc
  have HS : Hid (∀ V, Kept (fun j => j = sb) W.drew V → V.cell? ⟨db, 0, none⟩ = some (.string nm) ∧ V.cell? ⟨db, 1, none⟩ = some (.slice (some ⟨nb, no, none⟩) n c) ∧ V.cell? ⟨nb, no + i * 7, none⟩ = some (.string x)) := fun V KV => ⟨hh (KD.and KV) x0 hd, hh (KD.and KV) x1 hd, hh (KD.and KV) x2 hn⟩
  have HKD : Hid (Kept (fun j => j = sb) W W.drew) := KD
  have hS0 := HS.out W.drew (Kept.refl _ _)
  clear h KD hh hmb0 x0 x1 x2
  refine wp_region_held_drew (S := fun V => V.cell? ⟨db, 0, none⟩ = some (.string nm) ∧ V.cell? ⟨db, 1, none⟩ = some (.slice (some ⟨nb, no, none⟩) n c) ∧ V.cell? ⟨nb, no + i * 7, none⟩ = some (.string x)) (by kernel_rfl) hS0 (fun _ => ?_)
  have e0 : (i : Int) < (n : Int) := by omega
  generalize W.drew = V0 at *
  refine wpAnyH_take (i := 0) (oi := { dst := some 93, op := Op.load 28 (Operand.tmp 7), type := 28, pos := "more.go:73", after := #[], guard := none }) (v := ?vv1) rfl (by kernel_rfl) (by kernel_rfl) (by kernel_rfl) (fun _ _ _ h => h) (Or.inl ⟨by rfl, ?hy1⟩) hS0 ?rest1
  case hy1 =>
    intro V hV
    obtain ⟨y0, y1, y2⟩ := hV
    go_simp
    all_goals rfl
  simp only [Act.put, List.setIfInBounds_toArray, List.set_cons_zero, List.set_cons_succ]
  refine wpAnyH_take (i := 2) (oi := { dst := some 95, op := Op.fieldAddr 28 (Operand.tmp 7) 1, type := 0, pos := "more.go:73", after := #[], guard := none }) (v := ?vv2) rfl (by kernel_rfl) (by kernel_rfl) (by kernel_rfl) (fun _ _ _ h => h) (Or.inl ⟨by rfl, ?hy2⟩) hS0 ?rest2
  case hy2 =>
    intro V hV
    obtain ⟨y0, y1, y2⟩ := hV
    go_simp
    all_goals rfl
  simp only [Act.put, List.setIfInBounds_toArray, List.set_cons_zero, List.set_cons_succ]
  refine wpAnyH_take (i := 3) (oi := { dst := some 96, op := Op.load 26 (Operand.tmp 95), type := 26, pos := "more.go:73", after := #[{ on := 2, ground := Ground.data }], guard := none }) (v := ?vv3) rfl (by kernel_rfl) (by kernel_rfl) (by kernel_rfl) (fun _ _ _ h => h) (Or.inl ⟨by rfl, ?hy3⟩) hS0 ?rest3
  case hy3 =>
    intro V hV
    obtain ⟨y0, y1, y2⟩ := hV
    go_simp
    all_goals rfl
  simp only [Act.put, List.setIfInBounds_toArray, List.set_cons_zero, List.set_cons_succ]
  refine wpAnyH_take (i := 4) (oi := { dst := some 97, op := Op.move (Operand.tmp 16), type := 3, pos := "more.go:73", after := #[], guard := none }) (v := ?vv4) rfl (by kernel_rfl) (by kernel_rfl) (by kernel_rfl) (fun _ _ _ h => h) (Or.inl ⟨by rfl, ?hy4⟩) hS0 ?rest4
  case hy4 =>
    intro V hV
    obtain ⟨y0, y1, y2⟩ := hV
    go_simp
    all_goals rfl
  simp only [Act.put, List.setIfInBounds_toArray, List.set_cons_zero, List.set_cons_succ]
  refine wpAnyH_take (i := 5) (oi := { dst := some 98, op := Op.indexAddr 26 (Operand.tmp 96) (Operand.tmp 97), type := 0, pos := "more.go:73", after := #[{ on := 3, ground := Ground.data }, { on := 4, ground := Ground.data }], guard := none }) (v := ?vv5) rfl (by kernel_rfl) (by kernel_rfl) (by kernel_rfl) (fun _ _ _ h => h) (Or.inl ⟨by rfl, ?hy5⟩) hS0 ?rest5
  case hy5 =>
    intro V hV
    obtain ⟨y0, y1, y2⟩ := hV
    go_simp
    all_goals rfl
  simp only [Act.put, List.setIfInBounds_toArray, List.set_cons_zero, List.set_cons_succ]
  refine wpAnyH_take (i := 6) (oi := { dst := some 99, op := Op.fieldAddr 32 (Operand.tmp 98) 0, type := 0, pos := "more.go:73", after := #[{ on := 5, ground := Ground.data }], guard := none }) (v := ?vv6) rfl (by kernel_rfl) (by kernel_rfl) (by kernel_rfl) (fun _ _ _ h => h) (Or.inl ⟨by rfl, ?hy6⟩) hS0 ?rest6
  case hy6 =>
    intro V hV
    obtain ⟨y0, y1, y2⟩ := hV
    go_simp
    all_goals rfl
  simp only [Act.put, List.setIfInBounds_toArray, List.set_cons_zero, List.set_cons_succ]
  refine wpAnyH_take (i := 7) (oi := { dst := some 100, op := Op.load 9 (Operand.tmp 99), type := 9, pos := "more.go:73", after := #[{ on := 6, ground := Ground.data }], guard := none }) (v := ?vv7) rfl (by kernel_rfl) (by kernel_rfl) (by kernel_rfl) (fun _ _ _ h => h) (Or.inl ⟨by rfl, ?hy7⟩) hS0 ?rest7
  case hy7 =>
    intro V hV
    obtain ⟨y0, y1, y2⟩ := hV
    go_simp
    all_goals rfl
  simp only [Act.put, List.setIfInBounds_toArray, List.set_cons_zero, List.set_cons_succ]
  refine wpAnyH_take (i := 8) (oi := { dst := some 101, op := Op.build 34 #[(0, Operand.const (Value.int IntKind.i64 7)), (1, Operand.tmp 100), (5, Operand.const (Value.int IntKind.i64 2))], type := 34, pos := "more.go:73", after := #[{ on := 7, ground := Ground.data }], guard := none }) (v := ?vv8) rfl (by kernel_rfl) (by kernel_rfl) (by kernel_rfl) (fun _ _ _ h => h) (Or.inl ⟨by rfl, ?hy8⟩) hS0 ?rest8
  case hy8 =>
    intro V hV
    obtain ⟨y0, y1, y2⟩ := hV
    go_simp
    all_goals rfl
  simp only [Act.put, List.setIfInBounds_toArray, List.set_cons_zero, List.set_cons_succ]
  refine wpAnyH_ready (rs := [1]) (by kernel_rfl) (by simp) (AllReadyH.cons (o := { dst := some 94, op := Op.load 39 (Operand.tmp 11), type := 39, pos := "more.go:73", after := #[], guard := none }) rfl (fun K' hK => ?_) AllReadyH.nil)
  obtain ⟨⟨g0, g1, g2, g3, g4, g5, g6, g7, g8⟩, _⟩ := nine hmb.out
  go_simp
  refine hK.out _ _ hS0 (fun _ => ?_)
  clear g0 g1 g2 g3 g4 g5 g6 g7 g8
  clear hK K'
  try (simp only [Act.put, List.setIfInBounds_toArray, List.set_cons_zero, List.set_cons_succ])
  refine wpAnyH_ready (rs := [9]) (by kernel_rfl) (by simp) (AllReadyH.cons (o := { dst := some 102, op := Op.call { callee := Callee.value (Operand.func 8), args := #[Operand.tmp 93, Operand.tmp 94, Operand.tmp 101], argTypes := #[28, 39, 34] }, type := 42, pos := "more.go:73", after := #[{ on := 0, ground := Ground.data }, { on := 1, ground := Ground.data }, { on := 8, ground := Ground.data }], guard := none }) rfl (fun K' hK => ?_) AllReadyH.nil)
  refine step_call3 _ (by rfl) 8 _ _ _ _ _ _ (by rfl) (enters_of Tryd.func8 (by kernel_rfl) rfl) _ _ _ (by rfl) (by rfl) (by rfl) hC ?_
  rintro e w5 ⟨ae, ce, a6, c6, a7, c7, at_, ct, rfl, A5, K5⟩
  have KS5 := K5.mono (S' := fun j => j = sb) (fun _ h => h.elim)
  have HM5 := hid ((K5.block sb (Array.getElem?_eq_some_iff.1 hmb.out).1 (fun h => h)).trans hmb.out)
  refine ⟨_, rfl, ?_⟩
  refine hK.out _ _ (HS.out _ KS5) (fun _ => ?_)
  clear hK K'
  try (simp only [Act.put, List.setIfInBounds_toArray, List.set_cons_zero, List.set_cons_succ])
  refine wpAnyH_take (i := 10) (oi := { dst := some 92, op := Op.move (Operand.tmp 102), type := 42, pos := "more.go:73", after := #[{ on := 9, ground := Ground.data }], guard := none }) (v := ?vv9) rfl (by kernel_rfl) (by kernel_rfl) (by kernel_rfl) (fun _ _ _ h => h) (Or.inl ⟨by rfl, ?hy9⟩) (HS.out _ KS5) ?rest9
  case hy9 =>
    intro V hV
    obtain ⟨y0, y1, y2⟩ := hV
    go_simp
    all_goals rfl
  simp only [Act.put, List.setIfInBounds_toArray, List.set_cons_zero, List.set_cons_succ]
  refine wpAnyH_take (i := 11) (oi := { dst := some 103, op := Op.extract (Operand.tmp 92) 0, type := 35, pos := "more.go:73", after := #[{ on := 10, ground := Ground.data }], guard := none }) (v := ?vv10) rfl (by kernel_rfl) (by kernel_rfl) (by kernel_rfl) (fun _ _ _ h => h) (Or.inl ⟨by rfl, ?hy10⟩) (HS.out _ KS5) ?rest10
  case hy10 =>
    intro V hV
    obtain ⟨y0, y1, y2⟩ := hV
    go_simp
    all_goals rfl
  simp only [Act.put, List.setIfInBounds_toArray, List.set_cons_zero, List.set_cons_succ]
  refine wpAnyH_take (i := 12) (oi := { dst := some 104, op := Op.extract (Operand.tmp 92) 1, type := 39, pos := "more.go:73", after := #[{ on := 10, ground := Ground.data }], guard := none }) (v := ?vv11) rfl (by kernel_rfl) (by kernel_rfl) (by kernel_rfl) (fun _ _ _ h => h) (Or.inl ⟨by rfl, ?hy11⟩) (HS.out _ KS5) ?rest11
  case hy11 =>
    intro V hV
    obtain ⟨y0, y1, y2⟩ := hV
    go_simp
    all_goals rfl
  simp only [Act.put, List.setIfInBounds_toArray, List.set_cons_zero, List.set_cons_succ]
  refine wpAnyH_take (i := 13) (oi := { dst := some 105, op := Op.extract (Operand.tmp 92) 2, type := 40, pos := "more.go:73", after := #[{ on := 10, ground := Ground.data }, { on := 15, ground := Ground.gcOnly Departure.lateStores }], guard := none }) (v := ?vv12) rfl (by kernel_rfl) (by kernel_rfl) (by kernel_rfl) (fun _ _ _ h => h) (Or.inl ⟨by rfl, ?hy12⟩) (HS.out _ KS5) ?rest12
  case hy12 =>
    intro V hV
    obtain ⟨y0, y1, y2⟩ := hV
    go_simp
    all_goals rfl
  simp only [Act.put, List.setIfInBounds_toArray, List.set_cons_zero, List.set_cons_succ]
  refine wpAnyH_take (i := 14) (oi := { dst := some 106, op := Op.extract (Operand.tmp 92) 3, type := 41, pos := "more.go:73", after := #[{ on := 10, ground := Ground.data }, { on := 15, ground := Ground.gcOnly Departure.lateStores }], guard := none }) (v := ?vv13) rfl (by kernel_rfl) (by kernel_rfl) (by kernel_rfl) (fun _ _ _ h => h) (Or.inl ⟨by rfl, ?hy13⟩) (HS.out _ KS5) ?rest13
  case hy13 =>
    intro V hV
    obtain ⟨y0, y1, y2⟩ := hV
    go_simp
    all_goals rfl
  simp only [Act.put, List.setIfInBounds_toArray, List.set_cons_zero, List.set_cons_succ]
  refine wpAnyH_ready (rs := [15]) (by kernel_rfl) (by simp) (AllReadyH.cons (o := { dst := none, op := Op.store 39 (Operand.tmp 11) (Operand.tmp 104), type := 0, pos := "more.go:73", after := #[{ on := 12, ground := Ground.data }, { on := 9, ground := Ground.chain }, { on := 0, ground := Ground.phase }, { on := 1, ground := Ground.phase }, { on := 2, ground := Ground.phase }, { on := 3, ground := Ground.phase }, { on := 4, ground := Ground.phase }, { on := 5, ground := Ground.phase }, { on := 6, ground := Ground.phase }, { on := 7, ground := Ground.phase }, { on := 8, ground := Ground.phase }, { on := 9, ground := Ground.phase }, { on := 10, ground := Ground.phase }, { on := 11, ground := Ground.phase }, { on := 12, ground := Ground.phase }, { on := 13, ground := Ground.textOnly Departure.lateStores }, { on := 14, ground := Ground.textOnly Departure.lateStores }], guard := none }) rfl (fun K' hK => ?_) AllReadyH.nil)
  obtain ⟨⟨p0, p1, p2, p3, p4, p5, p6, p7, p8⟩, f0, f1, f2, f3, f4, f5, f6, f7, f8⟩ := nine HM5.out
  have HB := hid (put9 HM5.out (.string r.st.dfn) (.string r.st.id) (.string r.st.par) (.string r.st.pnode) (.int .i64 r.st.status) (.string r.st.text) (.slice a6 r.st.nodes.length c6) (.slice a7 r.st.sigs.length c7) (.int .i64 r.st.events))
  have K6 := kept9 (S := fun j => j = sb) w5 rfl (.string r.st.dfn) (.string r.st.id) (.string r.st.par) (.string r.st.pnode) (.int .i64 r.st.status) (.string r.st.text) (.slice a6 r.st.nodes.length c6) (.slice a7 r.st.sigs.length c7) (.int .i64 r.st.events)
  have KS6 := KS5.and K6
  have HK6 := hid K6
  go_simp
  refine hK.out _ _ (HS.out _ KS6) (fun _ => ?_)
  clear p0 p1 p2 p3 p4 p5 p6 p7 p8 f0 f1 f2 f3 f4 f5 f6 f7 f8
  clear hK K'
  try (simp only [Act.put, List.setIfInBounds_toArray, List.set_cons_zero, List.set_cons_succ])
  refine wpAnyH_take (i := 16) (oi := { dst := some 13, op := Op.assign (Operand.tmp 106), type := 41, pos := "more.go:73", after := #[{ on := 14, ground := Ground.data }, { on := 15, ground := Ground.chain }, { on := 0, ground := Ground.phase }, { on := 1, ground := Ground.phase }, { on := 2, ground := Ground.phase }, { on := 3, ground := Ground.phase }, { on := 4, ground := Ground.phase }, { on := 5, ground := Ground.phase }, { on := 6, ground := Ground.phase }, { on := 7, ground := Ground.phase }, { on := 8, ground := Ground.phase }, { on := 9, ground := Ground.phase }, { on := 10, ground := Ground.phase }, { on := 11, ground := Ground.phase }, { on := 12, ground := Ground.phase }, { on := 13, ground := Ground.phase }, { on := 14, ground := Ground.phase }, { on := 15, ground := Ground.phase }], guard := none }) (v := ?vv14) rfl (by kernel_rfl) (by kernel_rfl) (by kernel_rfl) (fun _ _ _ h => h) (Or.inl ⟨by rfl, ?hy14⟩) (HS.out _ KS6) ?rest14
  case hy14 =>
    intro V hV
    obtain ⟨y0, y1, y2⟩ := hV
    go_simp
    all_goals rfl
  simp only [Act.put, List.setIfInBounds_toArray, List.set_cons_zero, List.set_cons_succ]
  refine wpAnyH_done (by kernel_rfl) ?_ _
  exact HH.out _ _ _ _ _ _ _ _ _ _ _ _ _ _ _ a6 c6 a7 c7 _ ⟨HB.out, ownsRow_low (ownsRow_keep A5.nodes (fun g hg => HK6.out.block g (ownsRow_blk A5.nodes hg) (fun e => by have h1 := (A5.nodes.lt g hg).1; have h2 := (Array.getElem?_eq_some_iff.1 hmb.out).1; omega))) (Nat.zero_le _), ownsRow_low (ownsRow_keep A5.sigs (fun g hg => HK6.out.block g (ownsRow_blk A5.sigs hg) (fun e => by have h1 := (A5.sigs.lt g hg).1; have h2 := (Array.getElem?_eq_some_iff.1 hmb.out).1; omega))) (Nat.zero_le _), fun g hg e => by have h1 := (A5.nodes.lt g hg).1; have h2 := (Array.getElem?_eq_some_iff.1 hmb.out).1; omega, fun g hg e => by have h1 := (A5.sigs.lt g hg).1; have h2 := (Array.getElem?_eq_some_iff.1 hmb.out).1; omega⟩ (HKD.out.and KS6)

end Go.Proofs.YtdecceekodpjiaaDoor

/-
  HistoryCancels as data: a row of children, some of which have ended; what each step comes to.
-/
namespace Go.Proofs.YtdecceekodpjiaaDoor
open Go.RowKit

def cnN (i : Nat) : Nd := ⟨sgName i, 3, ⟨#[120]⟩, ⟨#[]⟩, 0, 0, []⟩
def cnNs (n : Nat) : List Nd := (List.range n).map cnN
def cnNode (b : Bool) : Ns := if b then ⟨2, 0, ⟨#[]⟩⟩ else ⟨3, 0, ⟨#[]⟩⟩
def whyB : ByteArray := ⟨#[119, 104, 121]⟩

/-- The state of n children, of which some are busy. -/
def cnSt (n : Nat) (busy : Nat → Bool) (par pn : ByteArray) (ev : Int) : St := ⟨⟨#[119]⟩, ⟨#[102]⟩, par, pn, 1, ⟨#[]⟩, (List.range n).map (fun i => cnNode (busy i)), [], ev⟩

def cnP : Bool → ByteArray
  | true => ⟨#[112]⟩
  | false => ⟨#[]⟩
def cnM : Bool → ByteArray
  | true => ⟨#[109]⟩
  | false => ⟨#[]⟩
def cnQ0 (p : Bool) : Inp := ⟨1, ⟨#[]⟩, ⟨#[102]⟩, ⟨#[]⟩, 0, 0, 0, cnP p, cnM p⟩
def cnQd (i : Nat) : Inp := ⟨7, sgName i, ⟨#[]⟩, ⟨#[]⟩, 0, 2, 0, ⟨#[]⟩, ⟨#[]⟩⟩
def cnQf (i : Nat) : Inp := ⟨7, sgName i, ⟨#[]⟩, whyB, 0, 3, 0, ⟨#[]⟩, ⟨#[]⟩⟩
def cnQc : Inp := ⟨8, ⟨#[]⟩, ⟨#[]⟩, whyB, 0, 0, 0, ⟨#[]⟩, ⟨#[]⟩⟩

def chkC (n : Nat) (p : Bool) : Bool := decide ((stepP ⟨#[119]⟩ (cnNs n) zeroSt (cnQ0 p)).2 = 0) && decide ((stepP ⟨#[119]⟩ (cnNs n) zeroSt (cnQ0 p)).1.tks.length = n) && stE (stepP ⟨#[119]⟩ (cnNs n) zeroSt (cnQ0 p)).1.st (cnSt n (fun _ => true) (cnP p) (cnM p) ((1 + n : Nat) : Int))

set_option maxRecDepth 100000 in
theorem chkC_all : ∀ n : Fin 12, ∀ p : Bool, chkC (n.1 + 1) p = true := by decide +kernel

theorem can_start {n : Nat} (h1 : 1 ≤ n) (h2 : n ≤ 12) (p : Bool) : ∃ r, stepP ⟨#[119]⟩ (cnNs n) zeroSt (cnQ0 p) = (r, 0) ∧ r.tks.length = n ∧ r.st = cnSt n (fun _ => true) (cnP p) (cnM p) ((1 + n : Nat) : Int) := by
  have h := chkC_all ⟨n - 1, by omega⟩ p
  dsimp only at h
  rw [show n - 1 + 1 = n by omega] at h
  unfold chkC at h
  rw [Bool.and_eq_true, Bool.and_eq_true, decide_eq_true_eq, decide_eq_true_eq] at h
  exact ⟨_, Prod.ext rfl h.1.1, h.1.2, stE_eq h.2⟩

set_option maxRecDepth 100000 in
theorem cn_find_all : ∀ n : Fin 13, ∀ i : Fin n.1, findP (cnNs n.1) (sgName i.1) = some i.1 := by decide +kernel

theorem cn_find {n i : Nat} (h2 : n ≤ 12) (hi : i < n) : findP (cnNs n) (sgName i) = some i := cn_find_all ⟨n, by omega⟩ ⟨i, hi⟩

theorem cnNs_len (n : Nat) : (cnNs n).length = n := by unfold cnNs; simp
theorem cnNs_get {n i : Nat} (hi : i < n) : (cnNs n)[i]? = some (cnN i) := by
  unfold cnNs
  rw [List.getElem?_map, List.getElem?_range hi]
  rfl

theorem do_kid {nm : ByteArray} {ns : List Nd} {r : Rn} {q : Inp} (hs : r.st.status = 1) (hk : q.kind = 7) : doP nm ns r q = kidP nm ns r q := by
  unfold doP
  rw [if_neg (by rw [hk]; decide), if_neg (by rw [hs]; decide), if_neg (by rw [hs]; simp), if_neg (by rw [hk]; decide), if_neg (by rw [hk]; decide), if_neg (by rw [hk]; decide), if_neg (by rw [hk]; decide), if_neg (by rw [hk]; decide), if_pos hk]

theorem do_cancel {nm : ByteArray} {ns : List Nd} {r : Rn} {q : Inp} (hs : r.st.status = 1) (hk : q.kind = 8) : doP nm ns r q = cancelP nm ns r q := by
  unfold doP
  rw [if_neg (by rw [hk]; decide), if_neg (by rw [hs]; decide), if_neg (by rw [hs]; simp), if_neg (by rw [hk]; decide), if_neg (by rw [hk]; decide), if_neg (by rw [hk]; decide), if_neg (by rw [hk]; decide), if_neg (by rw [hk]; decide), if_neg (by rw [hk]; decide), if_pos hk]

section
variable {n : Nat} {busy : Nat → Bool} {par pn : ByteArray} {ev : Int}

theorem cnSt_len : (cnSt n busy par pn ev).nodes.length = n := by show ((List.range n).map _).length = n; simp

theorem cnSt_get {i : Nat} (hi : i < n) : (cnSt n busy par pn ev).nodes[i]? = some (cnNode (busy i)) := by
  show ((List.range n).map (fun i => cnNode (busy i)))[i]? = _
  rw [List.getElem?_map, List.getElem?_range hi]
  rfl

theorem cn_busy (h2 : n ≤ 12) {i : Nat} (hi : i < n) (hb : busy i = true) (q : Inp) (hq : q.node = sgName i) : busyP (cnNs n) (cnSt n busy par pn ev) q [3] = (i, 0) := by
  unfold busyP findK
  rw [hq, cn_find h2 hi]
  dsimp only
  rw [cnNs_get hi]
  dsimp only
  rw [if_pos ⟨by rw [cnSt_len]; exact hi, rfl⟩]
  dsimp only
  unfold busyB
  rw [cnNs_get hi, cnSt_get hi, hb]
  rfl

/-- Nothing begins where all have begun. -/
theorem cn_stay {r : Rn} (hr : r.st.nodes = (List.range n).map (fun i => cnNode (busy i))) {j : Nat} (hj : j < n) (hb : busy j = true) : goOnP ⟨#[119]⟩ (cnNs n) r = r := by
  have hz : goReady (cnNs n) r = [] := by
    unfold goReady rdyL
    rw [List.filter_eq_nil_iff]
    intro i hi
    have hi : i < n := by rw [cnNs_len] at hi; exact List.mem_range.1 hi
    unfold rdyB
    have : (begunL r.st.nodes (cnNs n).length).getD i false = true := by
      unfold begunL
      rw [cnNs_len, List.getD_eq_getElem?_getD, List.getElem?_map, List.getElem?_range hi]
      show begunB _ i = true
      unfold begunB
      rw [hr, List.getElem?_map, List.getElem?_range hi]
      show ((cnNode (busy i)).status != 0) = true
      cases busy i <;> rfl
    rw [this]
    simp
  have hc : restC r.st.nodes ≠ 0 := by
    unfold restC
    intro h0
    rw [List.countP_eq_zero] at h0
    have := h0 (cnNode (busy j)) (by rw [hr]; exact List.mem_map.2 ⟨j, List.mem_range.2 hj, rfl⟩)
    rw [hb] at this
    simp [cnNode] at this
  unfold goOnP goP
  rw [hz]
  unfold goRow
  dsimp only
  rw [if_neg hc]

theorem cn_set {i : Nat} (hb : busy i = true) (m : Mv) (e : Ev) (hm : m.dst = 3) (hk : e.kind ≠ 3) (ht : e.text = ⟨#[]⟩) : setNode (cnSt n busy par pn ev).nodes i m e = (List.range n).map (fun j => cnNode (busy j && !(j == i))) := by
  unfold setNode
  apply List.ext_getElem?
  intro j
  rw [List.getElem?_modify]
  by_cases hj : j < n
  · rw [cnSt_get hj, List.getElem?_map, List.getElem?_range hj]
    by_cases e1 : i = j
    · subst e1
      simp only [if_true, Option.map_some, hb, beq_self_eq_true, Bool.not_true, Bool.and_false]
      show some (Ns.mk m.dst (if e.kind = 3 then e.num else 0) (if m.txt = true then e.text else ⟨#[]⟩)) = some (Ns.mk 3 0 ⟨#[]⟩)
      rw [hm, if_neg hk, ht]
      cases m.txt <;> rfl
    · have e2 : (j == i) = false := by simp; omega
      simp [e1, e2]
  · rw [List.getElem?_eq_none (by rw [cnSt_len]; omega), List.getElem?_eq_none (by simp; omega)]
    rfl

theorem can_done (h2 : n ≤ 12) {i j : Nat} (hi : i < n) (hb : busy i = true) (hj : j < n) (hbj : busy j = true) (hij : j ≠ i) :
    ∃ r, stepP ⟨#[119]⟩ (cnNs n) (cnSt n busy par pn ev) (cnQd i) = (r, 0) ∧ r.st = cnSt n (fun j => busy j && !(j == i)) par pn (ev + 1) := by
  have hc := changeP_fit1 (nm := ⟨#[119]⟩) (ns := cnNs n) (s := cnSt n busy par pn ev) (e := ⟨10, sgName i, ⟨#[]⟩, 0⟩) (m := ⟨10, 3, 2, 3, true⟩) rfl (cn_find h2 hi) (cnNs_get hi) (cnSt_get hi) (by rw [hb]; rfl) (by simp) (by simp) (by simp) (by simp)
  have ht : tellP ⟨#[119]⟩ (cnNs n) (⟨cnSt n busy par pn ev, 0, [], []⟩ : Rn) ⟨10, sgName i, ⟨#[]⟩, 0⟩ [] = ⟨cnSt n (fun j => busy j && !(j == i)) par pn (ev + 1), 0, [⟨10, sgName i, ⟨#[]⟩, 0⟩], []⟩ := by
    unfold tellP
    rw [hc]
    dsimp only
    rw [cn_set hb _ _ rfl (by simp) rfl]
    rfl
  refine ⟨⟨cnSt n (fun j => busy j && !(j == i)) par pn (ev + 1), 0, [⟨10, sgName i, ⟨#[]⟩, 0⟩], []⟩, ?_, rfl⟩
  unfold stepP
  rw [do_kid rfl rfl]
  unfold kidP
  rw [cn_busy h2 hi hb (cnQd i) rfl]
  dsimp only
  rw [if_neg (by decide), if_neg (by show ¬ (2 : Int) ≠ 2; decide)]
  show (goOnP _ _ (tellP _ _ ⟨cnSt n busy par pn ev, 0, [], []⟩ ⟨10, sgName i, ⟨#[]⟩, 0⟩ []), 0) = _
  rw [ht, cn_stay (busy := fun j => busy j && !(j == i)) rfl hj (by simp [hbj, hij])]

/-- The mail that cancels a child. -/
def cnMl (i : Nat) : Ml := ⟨4, ⟨#[102, 47]⟩ ++ sgName i, ⟨#[102]⟩, sgName i, ⟨#[]⟩, whyB, 0⟩
/-- The mails of a workflow that is closed. -/
def cnMs (n : Nat) (busy : Nat → Bool) (par pn : ByteArray) (st : Int) : List Ml := ((List.range n).filter busy).map cnMl ++ if par = ⟨#[]⟩ then [] else [⟨2, par, ⟨#[102]⟩, pn, ⟨#[]⟩, whyB, st⟩]

def tkM (m : Ml) : Tk := ⟨3, ⟨#[102]⟩, ⟨#[]⟩, 0, 0, m⟩

theorem cn_child (i : Nat) : childP ⟨#[102]⟩ (sgName i) = ⟨#[102, 47]⟩ ++ sgName i := by
  unfold childP
  rw [show (⟨#[102]⟩ ++ ⟨#[47]⟩ : ByteArray) = ⟨#[102, 47]⟩ from rfl]

theorem mails_of {s : St} {b : Nat → Bool} (hid : s.id = ⟨#[102]⟩) (hl : s.nodes.length = n) (hb : ∀ i, i < n → ∃ y, s.nodes[i]? = some y ∧ (y.status == 2) = b i) (st : Int) : (mailsP (cnNs n) s st whyB).map (flowT s.id) = (cnMs n b s.par s.pnode st).map tkM := by
  unfold mailsP cnMs
  rw [List.map_append, List.map_append, cnNs_len, hl, Nat.min_self]
  congr 1
  · unfold cancelL
    have hf : (List.range n).filter (cancelB (cnNs n) s) = (List.range n).filter b := by
      apply List.filter_congr
      intro i hi
      obtain ⟨y, hy, hyb⟩ := hb i (List.mem_range.1 hi)
      unfold cancelB
      rw [cnNs_get (List.mem_range.1 hi), hy]
      show ((3 : Int) == 3 && (y.status == 2)) = b i
      rw [hyb]
      simp
    rw [hf, List.map_map, List.map_map]
    apply List.map_congr_left
    intro i hi
    have hi : i < n := List.mem_range.1 (List.mem_filter.1 hi).1
    show flowT s.id (cancelT (cnNs n) s whyB i) = tkM (cnMl i)
    unfold cancelT
    rw [cnNs_get hi, hid]
    show flowT _ (msgP _ ⟨4, childP ⟨#[102]⟩ (sgName i), ⟨#[]⟩, sgName i, ⟨#[]⟩, whyB, 0⟩) = _
    rw [cn_child]
    rfl
  · by_cases hp : s.par = ⟨#[]⟩
    · rw [if_pos hp, if_pos hp]
      rfl
    · rw [if_neg hp, if_neg hp, hid]
      rfl

theorem can_cancel : ∃ r, stepP ⟨#[119]⟩ (cnNs n) (cnSt n busy par pn ev) cnQc = (r, 0) ∧ r.st.status = 4 ∧ r.st.text = whyB ∧ r.tks = (cnMs n busy par pn 4).map tkM := by
  have hc := changeP_close (nm := ⟨#[119]⟩) (ns := cnNs n) (s := cnSt n busy par pn ev) rfl 4 whyB (.inr (.inr rfl))
  have hm := mails_of (n := n) (s := cnSt n busy par pn ev) (b := busy) rfl cnSt_len (fun i hi => ⟨_, cnSt_get hi, by cases busy i <;> rfl⟩) 4
  refine ⟨endP ⟨#[119]⟩ (cnNs n) ⟨cnSt n busy par pn ev, 0, [], []⟩ 4 whyB, ?_, ?_, ?_, ?_⟩
  · unfold stepP
    rw [do_cancel rfl rfl]
    unfold cancelP
    rw [if_neg (by decide)]
    rfl
  · unfold endP tellP
    rw [hc]
  · unfold endP tellP
    rw [hc]
  · unfold endP tellP
    rw [hc]
    dsimp only
    rw [List.nil_append]
    exact hm

theorem can_fail (h2 : n ≤ 12) {i : Nat} (hi : i < n) (hb : busy i = true) : ∃ r, stepP ⟨#[119]⟩ (cnNs n) (cnSt n busy par pn ev) (cnQf i) = (r, 0) ∧ r.st.status = 3 ∧ r.st.text = whyB ∧ r.tks = (cnMs n (fun j => busy j && !(j == i)) par pn 3).map tkM := by
  have hc := changeP_fit1 (nm := ⟨#[119]⟩) (ns := cnNs n) (s := cnSt n busy par pn ev) (e := ⟨6, sgName i, whyB, 0⟩) (m := ⟨6, 0, 2, 4, true⟩) rfl (cn_find h2 hi) (cnNs_get hi) (cnSt_get hi) (by rw [hb]; rfl) (by simp) (by simp) (by simp) (by simp)
  obtain ⟨s1, hs1⟩ : ∃ s1 : St, s1 = { cnSt n busy par pn ev with nodes := setNode (cnSt n busy par pn ev).nodes i ⟨6, 0, 2, 4, true⟩ ⟨6, sgName i, whyB, 0⟩, events := ev + 1 } := ⟨_, rfl⟩
  have hc1 : changeP ⟨#[119]⟩ (cnNs n) (cnSt n busy par pn ev) ⟨6, sgName i, whyB, 0⟩ = some s1 := by rw [hc, hs1]; rfl
  have hst : s1.status = 1 := by rw [hs1]; rfl
  have hid : s1.id = ⟨#[102]⟩ := by rw [hs1]; rfl
  have hpar : s1.par = par := by rw [hs1]; rfl
  have hpn : s1.pnode = pn := by rw [hs1]; rfl
  have hl : s1.nodes.length = n := by
    rw [hs1]
    show (setNode _ _ _ _).length = n
    unfold setNode
    rw [List.length_modify, cnSt_len]
  have hnd : ∀ j, j < n → ∃ y, s1.nodes[j]? = some y ∧ (y.status == 2) = (busy j && !(j == i)) := fun j hj => by
    rw [hs1]
    show ∃ y, (setNode _ _ _ _)[j]? = some y ∧ _
    unfold setNode
    rw [List.getElem?_modify, cnSt_get hj]
    by_cases e1 : i = j
    · subst e1
      refine ⟨⟨4, 0, whyB⟩, ?_, ?_⟩
      · rw [hb]
        simp only [if_true]
        rfl
      · simp
    · have e2 : (j == i) = false := by simp; omega
      refine ⟨cnNode (busy j), by simp [e1], ?_⟩
      rw [e2]
      cases busy j <;> rfl
  have hm := mails_of (n := n) (s := s1) hid hl hnd 3
  rw [hpar, hpn] at hm
  have hc2 := changeP_close (nm := ⟨#[119]⟩) (ns := cnNs n) (s := s1) hst 3 whyB (.inr (.inl rfl))
  have ht : tellP ⟨#[119]⟩ (cnNs n) (⟨cnSt n busy par pn ev, 0, [], []⟩ : Rn) ⟨6, sgName i, whyB, 0⟩ [] = ⟨s1, 0, [⟨6, sgName i, whyB, 0⟩], []⟩ := by
    unfold tellP
    rw [hc1]
    rfl
  refine ⟨endP ⟨#[119]⟩ (cnNs n) ⟨s1, 0, [⟨6, sgName i, whyB, 0⟩], []⟩ 3 whyB, ?_, ?_, ?_, ?_⟩
  · unfold stepP
    rw [do_kid rfl rfl]
    unfold kidP
    rw [cn_busy h2 hi hb (cnQf i) rfl]
    dsimp only
    rw [if_neg (by decide), if_pos (by show (3 : Int) ≠ 2; decide)]
    show (breakP _ _ ⟨cnSt n busy par pn ev, 0, [], []⟩ (sgName i) whyB, 0) = _
    unfold breakP
    rw [ht]
  · unfold endP tellP
    rw [hc2]
  · unfold endP tellP
    rw [hc2]
  · unfold endP tellP
    rw [hc2]
    dsimp only
    rw [List.nil_append]
    exact hm

end

end Go.Proofs.YtdecceekodpjiaaDoor

/-
  What the walk of HistoryCancels shares: what is handed in, twelve marks, how many are busy, mails in a row.
-/
namespace Go.Proofs.YtdecceekodpjiaaDoor
open Go.ChangeShapes Go.WideShapes Go.ChangeAt Go.RowKit Go.Deep

theorem heap_alloc_new2 (w : World) (o o' : Obj) : ((w.alloc o).alloc o').heap[w.heap.size + 1]? = some o' := by
  have h := heap_alloc_new (w.alloc o) o'
  rw [World.size_alloc] at h
  exact h

theorem array4 {α : Type} {cs : Array α} (h : cs.size = 4) : ∃ c0 c1 c2 c3, cs = #[c0, c1, c2, c3] := by
  obtain ⟨l⟩ := cs
  match l, h with
  | [c0, c1, c2, c3], _ => exact ⟨c0, c1, c2, c3, rfl⟩

set_option maxRecDepth 100000 in
theorem can_open {H : Type} {enc : TypeId × Value → H} {W : World} {base b0 : Nat} {r : Reach} {held : Bool} {v : Value} {d : DataW H} {p : List MemPlace}
    (hv : Value.okWide Tryd.prog W r b0 24 v) (h : DataW.Trod enc Tryd.prog W base (fun _ => true) held 24 v d p) :
    ∃ (many : Int) (a : Option Addr) (len cap : Nat) (B : Nat → Bool) (fails par : Bool), v = .agg #[.int .i64 many, .slice a len cap, .bool fails, .bool par] ∧ BoolsAt W a len B := by
  obtain ⟨cs, rfl, hsz⟩ := okWide_struct Tryd.underlying24 hv
  obtain ⟨c0, c1, c2, c3, rfl⟩ := array4 (hsz.trans (by kernel_rfl))
  obtain ⟨fuel, hf⟩ := h
  have hf : DataW.trod enc Tryd.prog W base (fun _ => true) held fuel 24 [c0, c1, c2, c3] = some (d, p) := hf
  obtain ⟨ys, n, _, hx, hl, hlen, hall⟩ := DataW.trod_struct Tryd.underlying24 hf
  have kI : Tryd.prog.cellsOf 3 = 1 := by kernel_rfl
  have kB : Tryd.prog.cellsOf 4 = 1 := by kernel_rfl
  have kL : Tryd.prog.cellsOf 22 = 1 := by kernel_rfl
  match ys, hlen with
  | [z0, z1, z2, z3], _ =>
    have t0 : DataW.trod enc Tryd.prog W base (fun _ => true) held n 3 [c0] = some z0 := by simpa [kI] using hall 0 _ rfl
    have t1 : DataW.trod enc Tryd.prog W base (fun _ => true) held n 22 [c1] = some z1 := by simpa [kL] using hall 1 _ rfl
    have t2 : DataW.trod enc Tryd.prog W base (fun _ => true) held n 4 [c2] = some z2 := by simpa [kB] using hall 2 _ rfl
    have t3 : DataW.trod enc Tryd.prog W base (fun _ => true) held n 4 [c3] = some z3 := by simpa [kB] using hall 3 _ rfl
    obtain ⟨x0, e0, _⟩ := DataW.trod_int Tryd.underlying3 t0
    obtain ⟨x2, e2, _⟩ := DataW.trod_bool Tryd.underlying4 t2
    obtain ⟨x3, e3, _⟩ := DataW.trod_bool Tryd.underlying4 t3
    obtain ⟨a, len, cap, B, e1, hB⟩ := bools_open Tryd.underlying22 Tryd.underlying4 (by kernel_rfl) t1
    simp only [List.cons.injEq, and_true] at e0 e2 e3
    subst e0 e1 e2 e3
    exact ⟨x0, a, len, cap, B, x2, x3, rfl, hB⟩

/-- Twelve marks in block mb. -/
structure BArr (w : World) (mb : Nat) (f : Nat → Bool) : Prop where
  blk : ∃ arr, w.heap[mb]? = some (.cells arr 44 (0, 0))
  cell : ∀ j, j < 12 → w.cell? ⟨mb, j, none⟩ = some (.bool (f j)) ∧ w.frozen? ⟨mb, j, none⟩ = false

theorem BArr.kept {w w' : World} {S : Nat → Prop} {mb : Nat} {f : Nat → Bool} (C : BArr w mb f) (K : Kept S w w') (h : ¬ S mb) : BArr w' mb f :=
  ⟨by obtain ⟨arr, hb⟩ := C.blk; exact ⟨arr, (K.block mb (Array.getElem?_eq_some_iff.1 hb).1 h).trans hb⟩, fun j hj => by
    obtain ⟨c, z⟩ := C.cell j hj
    have hb := K.block mb (World.block_lt_of_cell? w _ c) h
    exact ⟨(World.cell?_of_block hb).trans c, (World.frozen?_of_block hb).trans z⟩⟩

theorem BArr.lt {w : World} {mb : Nat} {f : Nat → Bool} (C : BArr w mb f) : mb < w.heap.size := World.block_lt_of_cell? w _ (C.cell 0 (by decide)).1

theorem BArr.set {w : World} {mb : Nat} {f : Nat → Bool} (C : BArr w mb f) (b : Nat) (v : Bool) : BArr (w.setCell ⟨mb, b, none⟩ (.bool v)) mb (fun j => if j = b then v else f j) :=
  ⟨by obtain ⟨arr, hb⟩ := C.blk; exact ⟨arr.setIfInBounds b (.bool v), by simp [World.setCell, Array.getElem?_modify, hb]⟩, fun j hj => by
    obtain ⟨c, z⟩ := C.cell j hj
    refine ⟨?_, by rw [World.frozen?_setCell]; exact z⟩
    by_cases e : j = b
    · subst e
      rw [if_pos rfl]
      exact World.cell?_setCell_same' w ⟨mb, j, none⟩ _ (by rw [c]; rfl)
    · rw [World.cell?_setCell_other _ _ _ _ (fun h => e (by cases h; rfl)), c, if_neg e]⟩

theorem BArr.same {w : World} {mb : Nat} {f g : Nat → Bool} (C : BArr w mb f) (h : ∀ j, j < 12 → f j = g j) : BArr w mb g := ⟨C.blk, fun j hj => by rw [← h j hj]; exact C.cell j hj⟩

theorem barrNew (w : World) : BArr (w.alloc (.cells #[.bool false, .bool false, .bool false, .bool false, .bool false, .bool false, .bool false, .bool false, .bool false, .bool false, .bool false, .bool false] 44)) w.heap.size (fun _ => false) := by
  have h := heap_alloc_new w (.cells #[.bool false, .bool false, .bool false, .bool false, .bool false, .bool false, .bool false, .bool false, .bool false, .bool false, .bool false, .bool false] 44)
  refine ⟨⟨_, h⟩, fun j hj => ?_⟩
  constructor
  · unfold World.cell?
    rw [h]
    match j, hj with
    | 0, _ | 1, _ | 2, _ | 3, _ | 4, _ | 5, _ | 6, _ | 7, _ | 8, _ | 9, _ | 10, _ | 11, _ => rfl
    | j + 12, h => omega
  · unfold World.frozen?
    rw [h]
    rfl

/-- A mark is set: the state's box stays. -/
theorem SBox.mark {w w' : World} {sb g mb : Nat} {s : St} {a6 : Option Addr} {c6 : Nat} {a7 : Option Addr} {c7 : Nat} {f : Nat → Bool} (X : SBox w sb g s a6 c6 a7 c7) (C : BArr w mb f) (K : Kept (fun j => j = mb) w w') : SBox w' sb g s a6 c6 a7 c7 := by
  obtain ⟨arr, hb⟩ := C.blk
  have other : ∀ {q : Nat} {cs : Array Value} {T : TypeId}, w.heap[q]? = some (.cells cs T (0, 0)) → T ≠ 44 → q ≠ mb := fun {q cs T} h hT e => by
    subst e
    rw [hb] at h
    simp only [Option.some.injEq, Obj.cells.injEq] at h
    exact hT h.2.1.symm
  have row : ∀ {T sz n : Nat} {v : Value} {xs : List Value}, w.ownsRow 0 T sz v n xs → T ≠ 44 → w'.ownsRow 0 T sz v n xs := fun {T sz n v xs} h hT => by
    refine ownsRow_keep h (fun q hq => K.block q (ownsRow_blk h hq) (fun e => ?_))
    rcases h.2 with ⟨h0, _⟩ | ⟨g', cap, cur, hv, _, hg', _⟩
    · rw [h0] at hq; cases hq
    · rw [hv] at hq
      obtain rfl : g' = q := Option.some.inj hq
      exact other hg' hT e
  exact ⟨(K.block g (Array.getElem?_eq_some_iff.1 X.blk).1 (fun e => other X.blk (by decide) e)).trans X.blk, row X.nodes (by decide), row X.sigs (by decide), X.ap6, X.ap7⟩

/-- How many of the first n are busy. -/
def cntB (n : Nat) (b : Nat → Bool) : Nat := ((List.range n).filter b).length

theorem cntB_succ (n : Nat) (b : Nat → Bool) : cntB (n + 1) b = cntB n b + if b n = true then 1 else 0 := by
  unfold cntB
  rw [List.range_succ, List.filter_append, List.length_append]
  congr 1
  cases h : b n <;> simp [h]

theorem cntB_le (n : Nat) (b : Nat → Bool) : cntB n b ≤ n := by
  unfold cntB
  exact Nat.le_trans (List.length_filter_le _ _) (by simp)

theorem cntB_all (n : Nat) : cntB n (fun _ => true) = n := by
  unfold cntB
  rw [List.filter_eq_self.2 (fun _ _ => rfl)]
  simp

theorem cntB_less (i : Nat) (b : Nat → Bool) : ∀ n, cntB n b ≤ cntB n (fun j => b j && !(j == i)) + if i < n then 1 else 0
  | 0 => by simp [cntB]
  | n + 1 => by
    have ih := cntB_less i b n
    rw [cntB_succ, cntB_succ]
    by_cases e : n = i
    · subst e
      simp only [Nat.lt_irrefl, if_false] at ih
      have : n < n + 1 := Nat.lt_succ_self n
      simp only [this, if_true, beq_self_eq_true, Bool.not_true, Bool.and_false]
      cases b n <;> simp <;> omega
    · have e2 : (n == i) = false := by simpa using e
      simp only [e2, Bool.not_false, Bool.and_true]
      by_cases h : i < n
      · have h' : i < n + 1 := by omega
        rw [if_pos h] at ih
        rw [if_pos h']
        omega
      · have h' : ¬ i < n + 1 := by omega
        rw [if_neg h] at ih
        rw [if_neg h']
        omega

theorem other_busy {n i : Nat} {b : Nat → Bool} (h : 1 < cntB n b) : ∃ j, j < n ∧ b j = true ∧ j ≠ i := by
  have h1 : 0 < cntB n (fun j => b j && !(j == i)) := by
    have := cntB_less i b n
    split at this <;> omega
  obtain ⟨j, hj⟩ := List.exists_mem_of_length_pos h1
  rw [List.mem_filter] at hj
  have h2 := hj.2
  simp only [Bool.and_eq_true, Bool.not_eq_true', beq_eq_false_iff_ne, ne_eq] at h2
  exact ⟨j, List.mem_range.1 hj.1, h2.1, h2.2⟩

theorem cntB_same {n : Nat} {b b' : Nat → Bool} (h : ∀ j, j < n → b j = b' j) : cntB n b = cntB n b' := by
  unfold cntB
  rw [List.filter_congr (fun j hj => h j (List.mem_range.1 hj))]

/-- The mail of a busy child stands where it should. -/
theorem mail_at {n i : Nat} {b : Nat → Bool} (hi : i < n) (hb : b i = true) (par pn : ByteArray) (st : Int) : (cnMs n b par pn st)[cntB i b]? = some (cnMl i) := by
  have hr : List.range n = List.range i ++ i :: (List.range' (i + 1) (n - i - 1)) := by
    rw [List.range_eq_range', List.range_eq_range', show n = i + (1 + (n - i - 1)) by omega, List.range'_append_1.symm]
    congr 1
    rw [Nat.zero_add, show i + (1 + (n - i - 1)) - i - 1 = n - i - 1 by omega, Nat.add_comm 1, List.range'_succ]
  unfold cnMs
  rw [hr, List.filter_append, List.map_append, List.append_assoc, List.getElem?_append_right (by rw [List.length_map]; exact Nat.le_refl _)]
  rw [List.length_map]
  show (List.map cnMl (List.filter b (i :: _)) ++ _)[cntB i b - cntB i b]? = _
  rw [Nat.sub_self, List.filter_cons_of_pos hb]
  rfl

theorem cnMs_len (n : Nat) (b : Nat → Bool) (par pn : ByteArray) (st : Int) : (cnMs n b par pn st).length = cntB n b + if par = ⟨#[]⟩ then 0 else 1 := by
  unfold cnMs
  rw [List.length_append, List.length_map]
  congr 1
  split <;> rfl

theorem par_at (n : Nat) (b : Nat → Bool) {par : ByteArray} (pn : ByteArray) (st : Int) (hp : par ≠ ⟨#[]⟩) : (cnMs n b par pn st)[cntB n b]? = some ⟨2, par, ⟨#[102]⟩, pn, ⟨#[]⟩, whyB, st⟩ := by
  unfold cnMs
  rw [List.getElem?_append_right (by rw [List.length_map]; exact Nat.le_refl _), List.length_map, if_neg hp]
  show [_][cntB n b - cntB n b]? = _
  rw [Nat.sub_self]
  rfl

/-- The mail's cells of a task in a row. -/
theorem tk_mail {w : World} {B : Nat} {a : Option Addr} {c : Nat} {l : List Tk} {m : Ml} {k : Nat} (h : w.ownsRow B 50 13 (.slice a l.length c) l.length (tkF l)) (hk : k < l.length) (hm : l[k]? = some (tkM m)) : l.length ≤ c ∧ ∃ b o, a = some ⟨b, o, none⟩ ∧
    w.cell? ⟨b, o + k * 13 + 6, none⟩ = some (.int .i64 m.kind) ∧ w.cell? ⟨b, o + k * 13 + 6 + 1, none⟩ = some (.string m.dst) ∧ w.cell? ⟨b, o + k * 13 + 6 + 2, none⟩ = some (.string m.src) ∧ w.cell? ⟨b, o + k * 13 + 6 + 3, none⟩ = some (.string m.node) ∧ w.cell? ⟨b, o + k * 13 + 6 + 4, none⟩ = some (.string m.name) ∧ w.cell? ⟨b, o + k * 13 + 6 + 5, none⟩ = some (.string m.text) ∧ w.cell? ⟨b, o + k * 13 + 6 + 6, none⟩ = some (.int .i64 m.status) := by
  obtain ⟨_, a', c', e, hc, _, hr⟩ := flat_of_owns h
  obtain ⟨rfl, rfl⟩ : a = a' ∧ c = c' := by simpa using e
  rcases hr with h0 | ⟨b, o, rfl, hcell⟩
  · omega
  · have at_ : ∀ j, j < 7 → ∀ u, (mlC m)[j]? = some u → w.cell? ⟨b, o + k * 13 + 6 + j, none⟩ = some u := fun j hj u hu => by
      rw [Nat.add_assoc, Nat.add_assoc]
      refine hcell _ u ?_
      have hf : (tkF l)[k * 13 + (6 + j)]? = (tkC (tkM m))[6 + j]? := flatMap_at (f := tkC) (k := 13) (fun _ => rfl) hm (6 + j) (by omega)
      rw [hf]
      unfold tkC
      rw [List.getElem?_append_right (by show 6 ≤ 6 + j; omega)]
      show (mlC m)[6 + j - 6]? = _
      rw [Nat.add_sub_cancel_left]
      exact hu
    exact ⟨hc, b, o, rfl, at_ 0 (by decide) _ rfl, at_ 1 (by decide) _ rfl, at_ 2 (by decide) _ rfl, at_ 3 (by decide) _ rfl, at_ 4 (by decide) _ rfl, at_ 5 (by decide) _ rfl, at_ 6 (by decide) _ rfl⟩

theorem cnNs_snoc (k : Nat) : cnNs (k + 1) = cnNs k ++ [cnN k] := by
  unfold cnNs
  rw [List.range_succ, List.map_append]
  rfl

theorem cnNs_ok (n : Nat) : ∀ x ∈ cnNs n, NdOk x := fun x hx => by
  unfold cnNs at hx
  obtain ⟨i, _, rfl⟩ := List.mem_map.1 hx
  exact ⟨by show (1 : Nat) ≤ maxLen; decide, by show (1 : Nat) ≤ maxLen; decide, by show (0 : Nat) ≤ maxLen; decide, by show isI64 3; unfold isI64; decide, by show isI64 0; unfold isI64; decide, by show isI64 0; unfold isI64; decide, Nat.zero_le _⟩

theorem cnNs_names (n : Nat) : ∀ x ∈ cnNs n, x.name.size ≤ 100000000 := fun x hx => by
  unfold cnNs at hx
  obtain ⟨i, _, rfl⟩ := List.mem_map.1 hx
  show (1 : Nat) ≤ _
  decide

theorem cnSt_small {n : Nat} {b : Nat → Bool} {P M : ByteArray} {ev : Int} (hn : n ≤ 12) (h0 : 0 ≤ ev) (h1 : ev ≤ 100) : Small (cnSt n b P M ev) := ⟨by rw [cnSt_len]; omega, Nat.zero_le _, h0, by show ev ≤ 100000; omega, by show (1 : Nat) ≤ 100000000; decide⟩

end Go.Proofs.YtdecceekodpjiaaDoor
