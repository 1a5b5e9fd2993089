/-
  What the tied cards of history's laws share: the table of moves as the card lists it, the start of a call.
-/
import Derived.Test.YtdecceekodpjiaaDoorRows
import Derived.Test.YtdecceekodpjiaaDoorCards
import Derived.Test.YtdecceekodpjiaaDoorTie
import Derived.Test.YtdecceekodpjiaaDoorHM3
import Derived.Deep.Strs
import Derived.ProofKit
import Derived.LaidMore
import Derived.OpenShut
import Derived.SevenTiedAt
import Derived.Lib.LaidU8
import Derived.Deep.Grids
namespace Go.Proofs.YtdecceekodpjiaaDoor
open Go.ChangeShapes Go.WideShapes Go.ChangeAt Go.RowKit Go.Deep

/-- The variables that the rows list. -/
def laidL {H : Type} : List (String × DataW H) := [("tiller/history.moves", Rows.laid_tiller_history_moves)]

theorem door_met (os : Os) (args : Array Value) : laidMetH Tryd.prog laidL ((World.doorLaid Tryd.prog 28 os).forCall (fun _ _ => 0) ⟨#[], args, []⟩).memory :=
  laidMetH_of_parts3 (fuel := 8) (laidMet_of_run' 8 (by kernel_rfl) (by kernel_rfl)) (by kernel_rfl) (by kernel_rfl)

def mvD {H : Type} (m : Mv) : DataW H := .agg [.lit (.int .i64 m.event), .lit (.int .i64 m.kind), .lit (.int .i64 m.src), .lit (.int .i64 m.dst), .lit (.bool m.txt)]

theorem laid_is {H : Type} : (Rows.laid_tiller_history_moves : DataW H) = .agg (movesL.map mvD) := rfl

theorem take1 {l : List Value} {k : Nat} {u : Value} (h : (l.drop k).take 1 = [u]) : l[k]? = some u := by
  have := congrArg (·[0]?) h
  simpa [List.getElem?_take, List.getElem?_drop] using this

theorem move_cells {H : Type} {enc : TypeId × Value → H} {w : World} {base : Nat} {sp : Nat → Bool} {held : Bool} {fuel : Nat} {cs : List Value} {m : Mv} {p : List MemPlace}
    (h : DataW.trod enc Tryd.prog w base sp held fuel 116 cs = some (mvD m, p)) : cs = mvC m := by
  obtain ⟨xs, n, rfl, hx, hl, hxl, hall⟩ := DataW.trod_struct Tryd.underlying116 h
  have hxs : xs.map (·.1) = [.lit (.int .i64 m.event), .lit (.int .i64 m.kind), .lit (.int .i64 m.src), .lit (.int .i64 m.dst), .lit (.bool m.txt)] := by
    have := congrArg Prod.fst hx
    unfold mvD at this
    simpa using this.symm
  have c3 : Tryd.prog.cellsOf 3 = 1 := by kernel_rfl
  have c4 : Tryd.prog.cellsOf 4 = 1 := by kernel_rfl
  have ct : Tryd.prog.cellsOf 116 = 5 := by kernel_rfl
  rw [ct] at hl
  have at_ : ∀ k, k < 5 → ∃ b, xs[k]? = some b ∧ (xs.map (·.1))[k]? = some b.1 := fun k hk => by
    have hlt : k < xs.length := by rw [hxl]; exact hk
    exact ⟨xs[k], List.getElem?_eq_getElem hlt, by simp [hlt]⟩
  have one : ∀ k, k < 4 → ∀ z, (xs.map (·.1))[k]? = some (DataW.lit (.int .i64 z) : DataW H) → DataW.trod enc Tryd.prog w base sp held n 3 ((cs.drop k).take (Tryd.prog.cellsOf 3)) = xs[k]? → cs[k]? = some (.int .i64 z) := fun k hk z hz ht => by
    obtain ⟨b, hb, hb1⟩ := at_ k (by omega)
    rw [hb] at ht
    obtain ⟨z', hc, hbe, _⟩ := DataW.trod_int Tryd.underlying3 ht
    rw [hz, hbe] at hb1
    simp only [Option.some.injEq, DataW.lit.injEq, Lit.int.injEq, true_and] at hb1
    rw [c3] at hc
    rw [take1 hc, hb1]
  have e0 := one 0 (by decide) m.event (by rw [hxs]; rfl) (hall 0 _ rfl)
  have e1 := one 1 (by decide) m.kind (by rw [hxs]; rfl) (hall 1 _ rfl)
  have e2 := one 2 (by decide) m.src (by rw [hxs]; rfl) (hall 2 _ rfl)
  have e3 := one 3 (by decide) m.dst (by rw [hxs]; rfl) (hall 3 _ rfl)
  have e4 : cs[4]? = some (.bool m.txt) := by
    obtain ⟨b, hb, hb1⟩ := at_ 4 (by decide)
    have ht : DataW.trod enc Tryd.prog w base sp held n 4 ((cs.drop 4).take (Tryd.prog.cellsOf 4)) = xs[4]? := hall 4 _ rfl
    rw [hb] at ht
    obtain ⟨z', hc, hbe⟩ := DataW.trod_bool Tryd.underlying4 ht
    rw [hxs, hbe] at hb1
    have hz : m.txt = z' := by simpa using hb1
    rw [c4] at hc
    rw [take1 hc, hz]
  unfold mvC
  apply List.ext_getElem?
  intro i
  match i with
  | 0 => exact e0
  | 1 => exact e1
  | 2 => exact e2
  | 3 => exact e3
  | 4 => exact e4
  | i + 5 => rw [List.getElem?_eq_none (by omega)]; rfl

theorem chunks {l m : List Value} (h1 : l.length = 70) (h2 : m.length = 70) (h : ∀ i, i < 14 → (l.drop (i * 5)).take 5 = (m.drop (i * 5)).take 5) : l = m := by
  apply List.ext_getElem?
  intro j
  by_cases hj : j < 70
  · have := congrArg (·[j % 5]?) (h (j / 5) (by omega))
    simp only [List.getElem?_take, List.getElem?_drop, if_pos (show j % 5 < 5 by omega)] at this
    rwa [show j / 5 * 5 + j % 5 = j by omega] at this
  · rw [List.getElem?_eq_none (by omega), List.getElem?_eq_none (by omega)]

theorem moves_laid {W : World} (h : laidMetH Tryd.prog laidL W) : MovesAt W := by
  have h1 : laidMet Tryd.prog [("tiller/history.moves", Rows.laid_tiller_history_moves)] W := h
  obtain ⟨g, t, cs, fuel, p, hg, hty, hvar, hd⟩ := Lib.laidMet.reads h1 (.head _)
  obtain rfl := Option.some.inj ((show Tryd.prog.globalNamed "tiller/history.moves" = some 0 by kernel_rfl).symm.trans hg)
  obtain rfl := Option.some.inj ((show (Tryd.prog.globals[0]?).map (·.type) = some 123 by kernel_rfl).symm.trans hty)
  rw [laid_is] at hd
  obtain ⟨xs, m, rfl, hx, hl, hxl, hall⟩ := DataW.trod_array Tryd.underlying123 hd
  have hxs : xs.map (·.1) = movesL.map mvD := by
    have := congrArg Prod.fst hx
    simpa using this.symm
  have ct : Tryd.prog.cellsOf 123 = 70 := by kernel_rfl
  have ce : Tryd.prog.cellsOf 116 = 5 := by kernel_rfl
  rw [ct] at hl
  have hcs : cs.toList = movesA.toList := by
    refine chunks hl rfl (fun i hi => ?_)
    have ht := hall i hi
    rw [ce] at ht
    have hlt : i < xs.length := by rw [hxl]; exact hi
    have hlm : i < movesL.length := hi
    rw [List.getElem?_eq_getElem hlt] at ht
    have hd1 : (xs[i]).1 = mvD movesL[i] := by
      have := congrArg (·[i]?) hxs
      simpa [hlt, hlm] using this
    rw [show xs[i] = (mvD movesL[i], (xs[i]).2) from Prod.ext hd1 rfl] at ht
    rw [move_cells ht, movesA_is]
    match i, hi with
    | 0, _ => rfl
    | 1, _ => rfl
    | 2, _ => rfl
    | 3, _ => rfl
    | 4, _ => rfl
    | 5, _ => rfl
    | 6, _ => rfl
    | 7, _ => rfl
    | 8, _ => rfl
    | 9, _ => rfl
    | 10, _ => rfl
    | 11, _ => rfl
    | 12, _ => rfl
    | 13, _ => rfl
    | i + 14, h => omega
  have hca : cs = movesA := Array.toList_inj.1 hcs
  subst hca
  unfold World.var? at hvar
  rw [hg] at hvar
  simp only [Option.bind_some] at hvar
  split at hvar
  · rename_i c t' fr hh
    obtain rfl := Option.some.inj hvar
    exact ⟨t', fr, hh⟩
  · cases hvar

end Go.Proofs.YtdecceekodpjiaaDoor

/-
  Step for the laws: answers whose shape is known; one node in a row; wakes.
-/
namespace Go.Proofs.YtdecceekodpjiaaDoor
open Go.RowKit

/-- One node in a new row. -/
theorem node_new (w : World) (x : Nd) (ok : NdOk x) (ha : x.after = []) : NodesAt (w.alloc (.cells #[.string x.name, .int .i64 x.kind, .string x.arg, .string x.«to», .int .i64 x.delay, .int .i64 x.tries, .slice none 0 0] 32)) (some ⟨w.heap.size, 0, none⟩) [x] := by
  refine ⟨fun y hy => by rw [List.mem_singleton] at hy; subst hy; exact ok, .inr ⟨w.heap.size, 0, rfl, fun i hi => ?_⟩⟩
  obtain rfl : i = 0 := by simpa using hi
  refine ⟨.slice none 0 0, ⟨none, 0, by rw [show ([x][0]).after = [] from ha]; rfl, by rw [show ([x][0]).after = [] from ha]; exact Nat.le_refl _, Nat.zero_le _, by rw [show ([x][0]).after = [] from ha]; exact .inl rfl, fun s hs => by rw [show ([x][0]).after = [] from ha] at hs; cases hs⟩, fun j u hu => ?_⟩
  have h := heap_alloc_new w (.cells #[.string x.name, .int .i64 x.kind, .string x.arg, .string x.«to», .int .i64 x.delay, .int .i64 x.tries, .slice none 0 0] 32)
  unfold World.cell?
  rw [h]
  simpa [ndC] using hu

def OkPost (w : World) (r : Rn) (e : Ending) (w' : World) : Prop := ∃ ae ce a6 c6 a7 c7 at_ ct, e = .returned (.tuple #[.slice ae r.evs.length ce, .agg #[.string r.st.dfn, .string r.st.id, .string r.st.par, .string r.st.pnode, .int .i64 r.st.status, .string r.st.text, .slice a6 r.st.nodes.length c6, .slice a7 r.st.sigs.length c7, .int .i64 r.st.events], .slice at_ r.tks.length ct, .int .i64 0]) ∧ AnsAt w' w.heap.size r (.slice ae r.evs.length ce) (.slice a6 r.st.nodes.length c6) (.slice a7 r.st.sigs.length c7) (.slice at_ r.tks.length ct) ∧ Kept (fun _ => False) w w'

def NoPost (w : World) (ee : Int) (e : Ending) (w' : World) : Prop := ∃ ae ce a6 c6 a7 c7 at_ ct, e = .returned (.tuple #[.slice ae 0 ce, .agg #[.string ⟨#[]⟩, .string ⟨#[]⟩, .string ⟨#[]⟩, .string ⟨#[]⟩, .int .i64 0, .string ⟨#[]⟩, .slice a6 0 c6, .slice a7 0 c7, .int .i64 0], .slice at_ 0 ct, .int .i64 ee]) ∧ Kept (fun _ => False) w w'

theorem StepPost.ok {w w' : World} {r : Rn} {e : Ending} (P : StepPost w (r, 0) e w') : OkPost w r e w' := by
  obtain ⟨ve, u6, u7, vt, he, A, K⟩ := P
  have A' : AnsAt w' w.heap.size r ve u6 u7 vt := A
  obtain ⟨ae, ce, rfl⟩ := ownsRow_shape A'.evs
  obtain ⟨a6, c6, rfl⟩ := ownsRow_shape A'.nodes
  obtain ⟨a7, c7, rfl⟩ := ownsRow_shape A'.sigs
  obtain ⟨at_, ct, rfl⟩ := ownsRow_shape A'.tks
  exact ⟨ae, ce, a6, c6, a7, c7, at_, ct, he, A', K⟩

theorem StepPost.no {w w' : World} {r : Rn} {e : Ending} {ee : Int} (h : ee ≠ 0) (P : StepPost w (r, ee) e w') : NoPost w ee e w' := by
  obtain ⟨ve, u6, u7, vt, he, A, K⟩ := P
  have hz : ansP (r, ee) = ⟨zeroSt, 0, [], []⟩ := by unfold ansP; rw [if_neg h]
  rw [hz] at he A
  obtain ⟨ae, ce, rfl⟩ := ownsRow_shape A.evs
  obtain ⟨a6, c6, rfl⟩ := ownsRow_shape A.nodes
  obtain ⟨a7, c7, rfl⟩ := ownsRow_shape A.sigs
  obtain ⟨at_, ct, rfl⟩ := ownsRow_shape A.tks
  exact ⟨ae, ce, a6, c6, a7, c7, at_, ct, he, K⟩

/-- A definition that lies in memory, with the moves: what Step asks. -/
structure DefAt (w : World) (a : Option Addr) (ns : List Nd) : Prop where
  nodes : NodesAt w a ns
  few : ns.length ≤ 64
  low : ∀ b o, a = some ⟨b, o, none⟩ → b < w.heap.size
  names : ∀ x ∈ ns, x.name.size ≤ 100000000
  moves : MovesAt w

theorem DefAt.new {w w' : World} {a : Option Addr} {ns : List Nd} (D : DefAt w a ns) (K : Kept (fun _ => False) w w') : DefAt w' a ns :=
  ⟨keptNew K D.nodes, D.few, fun b o h => Nat.lt_of_lt_of_le (D.low b o h) K.size, D.names, D.moves.kept K (fun h => h)⟩

section
variable {w : World} {nm : ByteArray} {a : Option Addr} {c n : Nat} {ns : List Nd} {s : St} {v6 v7 : Value} {q : Inp} {r : Rn}

theorem step_ok (D : DefAt w a ns) (hl : ns.length = n) (S : StRd w s v6 v7) (Z : Small s) (hq : q.name.size ≤ 100000000) (ht : q.text.size ≤ maxLen) (h : stepP nm ns s q = (r, 0)) :
    Calls Tryd.prog 8 #[.agg #[.string nm, .slice a n c], .agg #[.string s.dfn, .string s.id, .string s.par, .string s.pnode, .int .i64 s.status, .string s.text, v6, v7, .int .i64 s.events], .agg #[.int .i64 q.kind, .string q.node, .string q.name, .string q.text, .int .i64 q.tr, .int .i64 q.status, .int .i64 q.now, .string q.par, .string q.pnode]] w (OkPost w r) := by
  subst hl
  have hS := step_any w nm a c ns D.nodes D.few D.low D.names D.moves s v6 v7 S Z q hq ht
  rw [h] at hS
  exact hS.mono (fun e w' P => P.ok)

theorem step_no {ee : Int} (D : DefAt w a ns) (hl : ns.length = n) (S : StRd w s v6 v7) (Z : Small s) (hq : q.name.size ≤ 100000000) (ht : q.text.size ≤ maxLen) (h : stepP nm ns s q = (r, ee)) (he : ee ≠ 0) :
    Calls Tryd.prog 8 #[.agg #[.string nm, .slice a n c], .agg #[.string s.dfn, .string s.id, .string s.par, .string s.pnode, .int .i64 s.status, .string s.text, v6, v7, .int .i64 s.events], .agg #[.int .i64 q.kind, .string q.node, .string q.name, .string q.text, .int .i64 q.tr, .int .i64 q.status, .int .i64 q.now, .string q.par, .string q.pnode]] w (NoPost w ee) := by
  subst hl
  have hS := step_any w nm a c ns D.nodes D.few D.low D.names D.moves s v6 v7 S Z q hq ht
  rw [h] at hS
  exact hS.mono (fun e w' P => P.no he)

end

/-- The node of the wake workflow. -/
def wakeN : Nd := ⟨⟨#[97]⟩, 4, ⟨#[115]⟩, ⟨#[]⟩, 0, 0, []⟩
def wakeS : St := ⟨⟨#[119]⟩, ⟨#[102]⟩, ⟨#[]⟩, ⟨#[]⟩, 1, ⟨#[]⟩, [⟨2, 0, ⟨#[]⟩⟩], [], 2⟩
def wakeE : St := ⟨⟨#[119]⟩, ⟨#[102]⟩, ⟨#[]⟩, ⟨#[]⟩, 2, ⟨#[104, 105]⟩, [⟨3, 0, ⟨#[104, 105]⟩⟩], [], 4⟩
def wakeQ1 : Inp := ⟨1, ⟨#[]⟩, ⟨#[102]⟩, ⟨#[]⟩, 0, 0, 0, ⟨#[]⟩, ⟨#[]⟩⟩
def wakeQ2 : Inp := ⟨2, ⟨#[]⟩, ⟨#[115]⟩, ⟨#[104, 105]⟩, 0, 0, 0, ⟨#[]⟩, ⟨#[]⟩⟩

theorem wake1 : stepP ⟨#[119]⟩ [wakeN] zeroSt wakeQ1 = (⟨wakeS, 0, [⟨1, ⟨#[]⟩, ⟨#[]⟩, 0⟩, ⟨11, ⟨#[97]⟩, ⟨#[]⟩, 0⟩], []⟩, 0) := by kernel_rfl
theorem wake2 : stepP ⟨#[119]⟩ [wakeN] wakeS wakeQ2 = (⟨wakeE, 0, [⟨12, ⟨#[97]⟩, ⟨#[104, 105]⟩, 0⟩, ⟨15, ⟨#[]⟩, ⟨#[104, 105]⟩, 2⟩], []⟩, 0) := by kernel_rfl

theorem wakeN_ok : NdOk wakeN := ⟨by decide, by decide, by decide, by unfold isI64; decide, by unfold isI64; decide, by unfold isI64; decide, by decide⟩

theorem zeroSt_rd (w : World) : StRd w zeroSt (.slice none 0 0) (.slice none 0 0) := ⟨⟨rfl, none, 0, rfl, Nat.le_refl _, Nat.zero_le _, .inl rfl⟩, ⟨rfl, none, 0, rfl, Nat.le_refl _, Nat.zero_le _, .inl rfl⟩, Nat.zero_le _, Nat.zero_le _⟩

theorem zeroSt_small : Small zeroSt := ⟨Nat.zero_le _, Nat.zero_le _, by decide, by decide, by decide⟩

theorem AnsAt.rd {w' : World} {B : Nat} {r : Rn} {ve u6 u7 vt : Value} (A : AnsAt w' B r ve u6 u7 vt) (h6 : r.st.nodes.length ≤ 1000000) (h7 : r.st.sigs.length ≤ 1000000) : StRd w' r.st u6 u7 := ⟨flat_of_owns A.nodes, flat_of_owns A.sigs, h6, h7⟩

/-- A state's box that is filled anew. -/
structure BoxS (w : World) (sb B : Nat) (s : St) (a6 : Option Addr) (c6 : Nat) (a7 : Option Addr) (c7 : Nat) : Prop where
  blk : w.heap[sb]? = some (.cells #[.string s.dfn, .string s.id, .string s.par, .string s.pnode, .int .i64 s.status, .string s.text, .slice a6 s.nodes.length c6, .slice a7 s.sigs.length c7, .int .i64 s.events] 39 (0, 0))
  nodes : w.ownsRow B 54 3 (.slice a6 s.nodes.length c6) s.nodes.length (nsF s.nodes)
  sigs : w.ownsRow B 78 2 (.slice a7 s.sigs.length c7) s.sigs.length (sgF s.sigs)
  lt : sb < B

theorem BoxS.rd {w : World} {sb B : Nat} {s : St} {a6 : Option Addr} {c6 : Nat} {a7 : Option Addr} {c7 : Nat} (X : BoxS w sb B s a6 c6 a7 c7) (Z : Small s) : StRd w s (.slice a6 s.nodes.length c6) (.slice a7 s.sigs.length c7) := ⟨flat_of_owns X.nodes, flat_of_owns X.sigs, by have := Z.nodes; omega, by have := Z.sigs; omega⟩

theorem BoxS.new {w w' : World} {sb B : Nat} {s : St} {a6 : Option Addr} {c6 : Nat} {a7 : Option Addr} {c7 : Nat} (X : BoxS w sb B s a6 c6 a7 c7) (K : Kept (fun _ => False) w w') : BoxS w' sb B s a6 c6 a7 c7 :=
  ⟨(K.block _ (Array.getElem?_eq_some_iff.1 X.blk).1 (fun h => h)).trans X.blk, ownsRow_keep X.nodes (fun g hg => K.block g (ownsRow_blk X.nodes hg) (fun h => h)), ownsRow_keep X.sigs (fun g hg => K.block g (ownsRow_blk X.sigs hg) (fun h => h)), X.lt⟩

theorem wake_r1 : ∃ r1, stepP ⟨#[119]⟩ [wakeN] zeroSt wakeQ1 = (r1, 0) ∧ ((r1.evs.length : Int) != 2) = false ∧ (r1.st.status != 1) = false ∧ Small r1.st ∧ ∃ r2, stepP ⟨#[119]⟩ [wakeN] r1.st wakeQ2 = (r2, 0) ∧ ((r2.evs.length : Int) == 2) = true ∧ (r2.st.status == 2) = true ∧ r2.st.text.toList = [104, 105] ∧ overC r2.st.nodes = 1 ∧ restC r2.st.nodes = 0 ∧ Small r2.st :=
  ⟨_, wake1, rfl, rfl, ⟨by decide, by decide, by decide, by decide, by decide⟩, _, wake2, rfl, rfl, (Lib.toList_data _).trans rfl, rfl, rfl, ⟨by decide, by decide, by decide, by decide, by decide⟩⟩

set_option maxRecDepth 100000 in
set_option maxHeartbeats 8000000 in
theorem wakes_any (w : World) (M : MovesAt w) :
    Calls Tryd.prog 9 #[] w fun e w' => e = .returned (.bool true) ∧ Kept (fun _ => False) w w' := by
  obtain ⟨r1, hp1, hev1, hst1, Z1, r2, hp2, hev2, hst2, htx2, hov2, hre2, Z2⟩ := wake_r1
  have K1 : Kept (fun _ => False) w ((w.alloc (.cells #[.string ⟨#[97]⟩, .int .i64 4, .string ⟨#[115]⟩, .string ⟨#[]⟩, .int .i64 0, .int .i64 0, .slice none 0 0] 32)).alloc (.cells #[.string ⟨#[119]⟩, .slice (some ⟨w.heap.size, 0, none⟩) 1 1] 28)) := (Kept.alloc _ _ _).and (Kept.alloc _ _ _)
  have hb := heap_alloc_new (w.alloc (.cells #[.string ⟨#[97]⟩, .int .i64 4, .string ⟨#[115]⟩, .string ⟨#[]⟩, .int .i64 0, .int .i64 0, .slice none 0 0] 32)) (.cells #[.string ⟨#[119]⟩, .slice (some ⟨w.heap.size, 0, none⟩) 1 1] 28)
  rw [World.size_alloc] at hb
  have hlow : w.heap.size + 1 < ((w.alloc (.cells #[.string ⟨#[97]⟩, .int .i64 4, .string ⟨#[115]⟩, .string ⟨#[]⟩, .int .i64 0, .int .i64 0, .slice none 0 0] 32)).alloc (.cells #[.string ⟨#[119]⟩, .slice (some ⟨w.heap.size, 0, none⟩) 1 1] 28)).heap.size := (Array.getElem?_eq_some_iff.1 hb).1
  have D : DefAt ((w.alloc (.cells #[.string ⟨#[97]⟩, .int .i64 4, .string ⟨#[115]⟩, .string ⟨#[]⟩, .int .i64 0, .int .i64 0, .slice none 0 0] 32)).alloc (.cells #[.string ⟨#[119]⟩, .slice (some ⟨w.heap.size, 0, none⟩) 1 1] 28)) (some ⟨w.heap.size, 0, none⟩) [wakeN] := ⟨keptNew (Kept.alloc _ _ _) (node_new w wakeN wakeN_ok rfl), by decide, fun b o h => by simp only [Option.some.injEq, Addr.mk.injEq] at h; omega, fun x hx => by rw [List.mem_singleton] at hx; subst hx; decide, M.kept K1 (fun h => h)⟩
  have hS := step_ok (c := 1) (n := 1) D rfl (zeroSt_rd _) zeroSt_small (by decide) (by decide) hp1
  dsimp only [zeroSt, wakeQ1] at hS
  have HD := hid D
  have HK1 := hid K1
  have HB := hid hb
  have HP2 := hid hp2
  have HZ1 := hid Z1
  have HZ2 := hid Z2
  have Hov := hid hov2
  have Hre := hid hre2
  clear D K1 M hb hp1 hp2 Z1 Z2 hov2 hre2
  go_enter Tryd.func9, Tryd.ntmps9
  go_upto_region 5 with (first
    | (go_at_call 8; refine hS.mono ?_; rintro e w2 ⟨ae, ce, a6, c6, a7, c7, at_, ct, rfl, A2, K2⟩; clear hS)
    | fail)
  have KV := K2.and (Kept.alloc (fun _ => False) w2 (.cells #[.string r1.st.dfn, .string r1.st.id, .string r1.st.par, .string r1.st.pnode, .int .i64 r1.st.status, .string r1.st.text, .slice a6 r1.st.nodes.length c6, .slice a7 r1.st.sigs.length c7, .int .i64 r1.st.events] 39))
  have bV := heap_alloc_new w2 (.cells #[.string r1.st.dfn, .string r1.st.id, .string r1.st.par, .string r1.st.pnode, .int .i64 r1.st.status, .string r1.st.text, .slice a6 r1.st.nodes.length c6, .slice a7 r1.st.sigs.length c7, .int .i64 r1.st.events] 39)
  have dV := pairC ((KV.block _ (Array.getElem?_eq_some_iff.1 HB.out).1 (fun h => h)).trans HB.out)
  have tV := (nine bV).1
  have hS2 := step_ok (c := 1) (n := 1) (HD.out.new KV) rfl (StRd.new ⟨flat_of_owns A2.nodes, flat_of_owns A2.sigs, by have := HZ1.out.nodes; omega, by have := HZ1.out.sigs; omega⟩ (Kept.alloc _ _ _)) HZ1.out (by decide) (by decide) HP2.out
  dsimp only [wakeQ2] at hS2
  have hsz : w2.heap.size < (w2.alloc (.cells #[.string r1.st.dfn, .string r1.st.id, .string r1.st.par, .string r1.st.pnode, .int .i64 r1.st.status, .string r1.st.text, .slice a6 r1.st.nodes.length c6, .slice a7 r1.st.sigs.length c7, .int .i64 r1.st.events] 39)).heap.size := by rw [World.size_alloc]; omega
  have HKV := hid (HK1.out.and KV)
  have hz2 : w.heap.size ≤ w2.heap.size := Nat.le_trans HK1.out.size K2.size
  have HBV := hid bV
  clear A2 KV bV K2
  generalize w2.alloc (.cells #[.string r1.st.dfn, .string r1.st.id, .string r1.st.par, .string r1.st.pnode, .int .i64 r1.st.status, .string r1.st.text, .slice a6 r1.st.nodes.length c6, .slice a7 r1.st.sigs.length c7, .int .i64 r1.st.events] 39) = V at *
  generalize w2.heap.size = sb at *
  obtain ⟨d0, d1⟩ := dV
  obtain ⟨t0, t1, t2, t3, t4, t5, t6, t7, t8⟩ := tV
  go_upto_region 6 with (first
    | (go_at_call 8; refine hS2.mono ?_; rintro e w3 ⟨ae2, ce2, b6, e6, b7, e7, bt, et, rfl, A3, K3⟩; clear hS2 t0 t1 t2 t3 t4 t5 t6 t7 t8 d0 d1; have h3 := (K3.block _ (Array.getElem?_eq_some_iff.1 HBV.out).1 (fun h => h)).trans HBV.out; obtain ⟨⟨p0, p1, p2, p3, p4, p5, p6, p7, p8⟩, f0, f1, f2, f3, f4, f5, f6, f7, f8⟩ := nine h3; have HB3 := hid h3; clear h3)
    | fail)
  have b4 := put9 HB3.out (.string r2.st.dfn) (.string r2.st.id) (.string r2.st.par) (.string r2.st.pnode) (.int .i64 r2.st.status) (.string r2.st.text) (.slice b6 r2.st.nodes.length e6) (.slice b7 r2.st.sigs.length e7) (.int .i64 r2.st.events)
  have K4 := kept9 (S := fun j => j = sb) w3 rfl (.string r2.st.dfn) (.string r2.st.id) (.string r2.st.par) (.string r2.st.pnode) (.int .i64 r2.st.status) (.string r2.st.text) (.slice b6 r2.st.nodes.length e6) (.slice b7 r2.st.sigs.length e7) (.int .i64 r2.st.events)
  have n4 := ownsRow_keep A3.nodes (fun g hg => K4.block g (ownsRow_blk A3.nodes hg) (fun e => by have := (A3.nodes.lt g hg).1; omega))
  have s4 := ownsRow_keep A3.sigs (fun g hg => K4.block g (ownsRow_blk A3.sigs hg) (fun e => by have := (A3.sigs.lt g hg).1; omega))
  have HK4 := hid ((HKV.out.and K3).trans K4 (fun g h => .inr (by omega)))
  generalize (((((((((w3.setCell ⟨sb, 0, none⟩ (.string r2.st.dfn)).setCell ⟨sb, 1, none⟩ (.string r2.st.id)).setCell ⟨sb, 2, none⟩ (.string r2.st.par)).setCell ⟨sb, 3, none⟩ (.string r2.st.pnode)).setCell ⟨sb, 4, none⟩ (.int .i64 r2.st.status)).setCell ⟨sb, 5, none⟩ (.string r2.st.text)).setCell ⟨sb, 6, none⟩ (.slice b6 r2.st.nodes.length e6)).setCell ⟨sb, 7, none⟩ (.slice b7 r2.st.sigs.length e7)).setCell ⟨sb, 8, none⟩ (.int .i64 r2.st.events)) = W4 at *
  obtain ⟨⟨y0, y1, y2, y3, y4, y5, y6, y7, y8⟩, _⟩ := nine b4
  have hC := count_any W4 r2.st _ _ ⟨flat_of_owns n4, flat_of_owns s4, by have := HZ2.out.nodes; omega, by have := HZ2.out.sigs; omega⟩
  have Hq1 : Hid (∀ x, IsF x (overC r2.st.nodes : Nat) → (FloatKind.f64.format.order x 4607182418800017408 == some .eq) = true) := fun x h => by rw [isF_eq h isF_one, Hov.out]; rfl
  have Hq2 : Hid (∀ x, IsF x (restC r2.st.nodes : Nat) → (FloatKind.f64.format.order x 0 == some .eq) = true) := fun x h => by rw [isF_eq h isF_zero, Hre.out]; rfl
  clear p0 p1 p2 p3 p4 p5 p6 p7 p8 f0 f1 f2 f3 f4 f5 f6 f7 f8 b4 K4 n4 s4 A3 K3
  go_wp2_with (first
    | (go_at_call 16; refine hC.mono ?_; rintro e w5 ⟨⟨x, y, rfl, hx, hy⟩, K5⟩; clear hC; have hx1 := Hq1.out x hx; have hy1 := Hq2.out y hy; clear hx hy)
    | fail)
  go_ret
  exact ⟨rfl, HK4.out.and K5⟩

end Go.Proofs.YtdecceekodpjiaaDoor

/-
  A row of truth values that is handed in, opened.
-/
namespace Go.Proofs.YtdecceekodpjiaaDoor
open Go.ChangeShapes Go.WideShapes Go.ChangeAt Go.RowKit Go.Deep

/-- Marks that are handed in. -/
def BoolsAt (w : World) (a : Option Addr) (len : Nat) (B : Nat → Bool) : Prop :=
  len = 0 ∨ ∃ b o, a = some ⟨b, o, none⟩ ∧ ∀ i, i < len → w.cell? ⟨b, o + i, none⟩ = some (.bool (B i))

theorem bools_open {H : Type} {enc : TypeId × Value → H} {P : Program} {w : World} {base : Nat} {held : Bool} {t e : TypeId} {fuel : Nat} {v : Value} {x : DataW H × List MemPlace} (ht : P.underlying t = some (.slice e)) (he : P.underlying e = some .bool) (hc : P.cellsOf e = 1)
    (h : DataW.trod enc P w base (fun _ => true) held fuel t [v] = some x) : ∃ a len cap B, v = .slice a len cap ∧ BoolsAt w a len B := by
  rcases open_bools ht he hc h with ⟨hcs, _⟩ | ⟨a, l, c, B, hcs, _, hl, hm, _, hcell⟩
  · simp only [List.cons.injEq, and_true] at hcs
    exact ⟨_, _, _, fun _ => false, hcs, .inl rfl⟩
  · simp only [List.cons.injEq, and_true] at hcs
    rcases Nat.eq_zero_or_pos l with h0 | h0
    · exact ⟨_, _, _, B, hcs, .inl h0⟩
    · obtain ⟨b, o, rfl⟩ := addr_form (hcell 0 (by omega))
      exact ⟨_, _, _, B, hcs, .inr ⟨b, o, rfl, fun i hi => by have := hcell i (by omega); rw [Addr.add_lit] at this; exact this⟩⟩

theorem BoolsAt.new {w w' : World} {a : Option Addr} {len : Nat} {B : Nat → Bool} (X : BoolsAt w a len B) (K : Kept (fun _ => False) w w') : BoolsAt w' a len B := by
  rcases X with h | ⟨b, o, h, hc⟩
  · exact .inl h
  · exact .inr ⟨b, o, h, fun i hi => keepC K (hc i hi) (fun _ _ h => h)⟩

end Go.Proofs.YtdecceekodpjiaaDoor
