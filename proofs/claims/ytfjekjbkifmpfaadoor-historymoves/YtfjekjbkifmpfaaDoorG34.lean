/-
  What the tied cards of history's laws share: the table of moves as the card lists it, the start of a call.
-/
import Derived.Test.YtfjekjbkifmpfaaDoorRows
import Derived.Test.YtfjekjbkifmpfaaDoorCards
import Derived.Test.YtfjekjbkifmpfaaDoorTie
import Derived.Test.YtfjekjbkifmpfaaDoorG32
import Derived.Test.YtfjekjbkifmpfaaDoorG28
import Derived.Test.YtfjekjbkifmpfaaDoorG25
import Derived.Test.YtfjekjbkifmpfaaDoorG19
import Derived.Test.YtfjekjbkifmpfaaDoorG26
import Derived.Test.YtfjekjbkifmpfaaDoorG29
import Derived.Deep.Strs
import Derived.ProofKit
import Derived.LaidMore
import Derived.OpenShut
import Derived.SevenTiedAt
import Derived.Lib.LaidU8
import Derived.Deep.Slices
namespace Go.Proofs.YtfjekjbkifmpfaaDoor
open Go.ChangeShapes Go.WideShapes Go.ChangeAt Go.RowKit Go.Deep

/-- The variables that the rows list. -/
def laidL {H : Type} : List (String × DataW H) := [("tiller/history.moves", Rows.laid_tiller_history_moves)]

theorem door_met (os : Os) (args : Array Value) : laidMetH Tryd.prog laidL ((World.doorLaid Tryd.prog 28 os).forCall (fun _ _ => 0) ⟨#[], args, []⟩).memory :=
  laidMetH_of_parts3 (fuel := 8) (laidMet_of_run' 8 (by kernel_rfl) (by kernel_rfl)) (by kernel_rfl) (by kernel_rfl)

def mvD {H : Type} (m : Mv) : DataW H := .agg [.lit (.int .i64 m.event), .lit (.int .i64 m.kind), .lit (.int .i64 m.src), .lit (.int .i64 m.dst), .lit (.bool m.txt)]

theorem laid_is {H : Type} : (Rows.laid_tiller_history_moves : DataW H) = .agg (movesL.map mvD) := rfl

theorem take1 {l : List Value} {k : Nat} {u : Value} (h : (l.drop k).take 1 = [u]) : l[k]? = some u := by
  have := congrArg (·[0]?) h
  simpa [List.getElem?_take, List.getElem?_drop] using this

theorem move_cells {H : Type} {enc : TypeId × Value → H} {w : World} {base : Nat} {sp : Nat → Bool} {held : Bool} {fuel : Nat} {cs : List Value} {m : Mv} {p : List MemPlace}
    (h : DataW.trod enc Tryd.prog w base sp held fuel 116 cs = some (mvD m, p)) : cs = mvC m := by
  obtain ⟨xs, n, rfl, hx, hl, hxl, hall⟩ := DataW.trod_struct Tryd.underlying116 h
  have hxs : xs.map (·.1) = [.lit (.int .i64 m.event), .lit (.int .i64 m.kind), .lit (.int .i64 m.src), .lit (.int .i64 m.dst), .lit (.bool m.txt)] := by
    have := congrArg Prod.fst hx
    unfold mvD at this
    simpa using this.symm
  have c3 : Tryd.prog.cellsOf 3 = 1 := by kernel_rfl
  have c4 : Tryd.prog.cellsOf 4 = 1 := by kernel_rfl
  have ct : Tryd.prog.cellsOf 116 = 5 := by kernel_rfl
  rw [ct] at hl
  have at_ : ∀ k, k < 5 → ∃ b, xs[k]? = some b ∧ (xs.map (·.1))[k]? = some b.1 := fun k hk => by
    have hlt : k < xs.length := by rw [hxl]; exact hk
    exact ⟨xs[k], List.getElem?_eq_getElem hlt, by simp [hlt]⟩
  have one : ∀ k, k < 4 → ∀ z, (xs.map (·.1))[k]? = some (DataW.lit (.int .i64 z) : DataW H) → DataW.trod enc Tryd.prog w base sp held n 3 ((cs.drop k).take (Tryd.prog.cellsOf 3)) = xs[k]? → cs[k]? = some (.int .i64 z) := fun k hk z hz ht => by
    obtain ⟨b, hb, hb1⟩ := at_ k (by omega)
    rw [hb] at ht
    obtain ⟨z', hc, hbe, _⟩ := DataW.trod_int Tryd.underlying3 ht
    rw [hz, hbe] at hb1
    simp only [Option.some.injEq, DataW.lit.injEq, Lit.int.injEq, true_and] at hb1
    rw [c3] at hc
    rw [take1 hc, hb1]
  have e0 := one 0 (by decide) m.event (by rw [hxs]; rfl) (hall 0 _ rfl)
  have e1 := one 1 (by decide) m.kind (by rw [hxs]; rfl) (hall 1 _ rfl)
  have e2 := one 2 (by decide) m.src (by rw [hxs]; rfl) (hall 2 _ rfl)
  have e3 := one 3 (by decide) m.dst (by rw [hxs]; rfl) (hall 3 _ rfl)
  have e4 : cs[4]? = some (.bool m.txt) := by
    obtain ⟨b, hb, hb1⟩ := at_ 4 (by decide)
    have ht : DataW.trod enc Tryd.prog w base sp held n 4 ((cs.drop 4).take (Tryd.prog.cellsOf 4)) = xs[4]? := hall 4 _ rfl
    rw [hb] at ht
    obtain ⟨z', hc, hbe⟩ := DataW.trod_bool Tryd.underlying4 ht
    rw [hxs, hbe] at hb1
    have hz : m.txt = z' := by simpa using hb1
    rw [c4] at hc
    rw [take1 hc, hz]
  unfold mvC
  apply List.ext_getElem?
  intro i
  match i with
  | 0 => exact e0
  | 1 => exact e1
  | 2 => exact e2
  | 3 => exact e3
  | 4 => exact e4
  | i + 5 => rw [List.getElem?_eq_none (by omega)]; rfl

theorem chunks {l m : List Value} (h1 : l.length = 70) (h2 : m.length = 70) (h : ∀ i, i < 14 → (l.drop (i * 5)).take 5 = (m.drop (i * 5)).take 5) : l = m := by
  apply List.ext_getElem?
  intro j
  by_cases hj : j < 70
  · have := congrArg (·[j % 5]?) (h (j / 5) (by omega))
    simp only [List.getElem?_take, List.getElem?_drop, if_pos (show j % 5 < 5 by omega)] at this
    rwa [show j / 5 * 5 + j % 5 = j by omega] at this
  · rw [List.getElem?_eq_none (by omega), List.getElem?_eq_none (by omega)]

theorem moves_laid {W : World} (h : laidMetH Tryd.prog laidL W) : MovesAt W := by
  have h1 : laidMet Tryd.prog [("tiller/history.moves", Rows.laid_tiller_history_moves)] W := h
  obtain ⟨g, t, cs, fuel, p, hg, hty, hvar, hd⟩ := Lib.laidMet.reads h1 (.head _)
  obtain rfl := Option.some.inj ((show Tryd.prog.globalNamed "tiller/history.moves" = some 0 by kernel_rfl).symm.trans hg)
  obtain rfl := Option.some.inj ((show (Tryd.prog.globals[0]?).map (·.type) = some 135 by kernel_rfl).symm.trans hty)
  rw [laid_is] at hd
  obtain ⟨xs, m, rfl, hx, hl, hxl, hall⟩ := DataW.trod_array Tryd.underlying135 hd
  have hxs : xs.map (·.1) = movesL.map mvD := by
    have := congrArg Prod.fst hx
    simpa using this.symm
  have ct : Tryd.prog.cellsOf 135 = 70 := by kernel_rfl
  have ce : Tryd.prog.cellsOf 116 = 5 := by kernel_rfl
  rw [ct] at hl
  have hcs : cs.toList = movesA.toList := by
    refine chunks hl rfl (fun i hi => ?_)
    have ht := hall i hi
    rw [ce] at ht
    have hlt : i < xs.length := by rw [hxl]; exact hi
    have hlm : i < movesL.length := hi
    rw [List.getElem?_eq_getElem hlt] at ht
    have hd1 : (xs[i]).1 = mvD movesL[i] := by
      have := congrArg (·[i]?) hxs
      simpa [hlt, hlm] using this
    rw [show xs[i] = (mvD movesL[i], (xs[i]).2) from Prod.ext hd1 rfl] at ht
    rw [move_cells ht, movesA_is]
    match i, hi with
    | 0, _ => rfl
    | 1, _ => rfl
    | 2, _ => rfl
    | 3, _ => rfl
    | 4, _ => rfl
    | 5, _ => rfl
    | 6, _ => rfl
    | 7, _ => rfl
    | 8, _ => rfl
    | 9, _ => rfl
    | 10, _ => rfl
    | 11, _ => rfl
    | 12, _ => rfl
    | 13, _ => rfl
    | i + 14, h => omega
  have hca : cs = movesA := Array.toList_inj.1 hcs
  subst hca
  unfold World.var? at hvar
  rw [hg] at hvar
  simp only [Option.bind_some] at hvar
  split at hvar
  · rename_i c t' fr hh
    obtain rfl := Option.some.inj hvar
    exact ⟨t', fr, hh⟩
  · cases hvar

end Go.Proofs.YtfjekjbkifmpfaaDoor

/-
  HistoryTwins as data: how much a state holds behind each input, and that two stay alike.
-/
namespace Go.Proofs.YtfjekjbkifmpfaaDoor
open Go.RowKit

section
variable {nm : ByteArray} {ns : List Nd}

theorem tellP_evs {r : Rn} {e : Ev} {ts : List Tk} : (tellP nm ns r e ts).evs.length ≤ r.evs.length + 1 := by
  unfold tellP
  split
  · omega
  · simp

theorem endP_evs {r : Rn} {st : Int} {tx : ByteArray} : (endP nm ns r st tx).evs.length ≤ r.evs.length + 1 := tellP_evs
theorem breakP_evs {r : Rn} {x tx : ByteArray} : (breakP nm ns r x tx).evs.length ≤ r.evs.length + 2 := Nat.le_trans endP_evs (Nat.succ_le_succ tellP_evs)

theorem beginP_evs {r : Rn} {x : Nd} : (beginP nm ns r x).evs.length ≤ r.evs.length + 2 := by
  unfold beginP askP waitP
  repeat' split
  all_goals first
    | exact breakP_evs
    | exact Nat.le_succ_of_le tellP_evs
    | omega

theorem goRow_evs : ∀ (l : List Nat) (r : Rn), (goRow nm ns r l).1.evs.length ≤ r.evs.length + 2 * l.length
  | [], r => by unfold goRow; simp
  | i :: l, r => by
    unfold goRow
    rw [List.length_cons]
    split
    · dsimp only; omega
    · rename_i x _
      have hb := beginP_evs (nm := nm) (ns := ns) (r := r) (x := x)
      split
      · dsimp only; omega
      · split
        · dsimp only; omega
        · have := goRow_evs l (beginP nm ns r x)
          omega

theorem goReady_len (r : Rn) : (goReady ns r).length ≤ ns.length := by
  unfold goReady rdyL
  exact Nat.le_trans (List.length_filter_le _ _) (by simp)

theorem goP_evs : ∀ (f : Nat) (r : Rn), (goP nm ns f r).evs.length ≤ r.evs.length + f * (2 * ns.length) + 1
  | 0, r => by unfold goP; omega
  | f + 1, r => by
    unfold goP
    have g1 := goRow_evs (nm := nm) (ns := ns) (goReady ns r) r
    have g2 := goReady_len (ns := ns) r
    have g3 : (f + 1) * (2 * ns.length) = f * (2 * ns.length) + 2 * ns.length := Nat.succ_mul _ _
    cases hg : goRow nm ns r (goReady ns r) with
    | mk r1 w =>
      rw [hg] at g1
      dsimp only at g1
      cases w with
      | stop => dsimp only; omega
      | again =>
        have := goP_evs f r1
        dsimp only
        omega
      | through =>
        dsimp only
        split
        · have := endP_evs (nm := nm) (ns := ns) (r := r1) (st := 2) (tx := lastP r1.st.nodes)
          omega
        · omega

theorem goOnP_evs {r : Rn} (hl : r.st.nodes.length ≤ 32) (hn : ns.length ≤ 32) : (goOnP nm ns r).evs.length ≤ r.evs.length + 2113 := by
  have h := goP_evs (nm := nm) (ns := ns) (restC r.st.nodes + 1) r
  have h1 : restC r.st.nodes ≤ r.st.nodes.length := List.countP_le_length
  have h2 : (restC r.st.nodes + 1) * (2 * ns.length) ≤ 33 * 64 := Nat.mul_le_mul (by omega) (by omega)
  unfold goOnP
  omega

theorem tellGo_both {r : Rn} {e : Ev} (he : e.kind ≠ 1) (hl : r.st.nodes.length ≤ 32) (hn : ns.length ≤ 32) : Tolds nm ns r (goOnP nm ns (tellP nm ns r e [])) ∧ (goOnP nm ns (tellP nm ns r e [])).evs.length ≤ r.evs.length + 2114 := by
  refine ⟨(told1 he).trans goOnP_told, ?_⟩
  have h := goOnP_evs (nm := nm) (ns := ns) (r := tellP nm ns r e []) (by rw [(tellP_grow he).len]; exact hl) hn
  have h2 := tellP_evs (nm := nm) (ns := ns) (r := r) (e := e) (ts := [])
  omega

theorem failTry_both {r : Rn} {i : Nat} {tx : ByteArray} : Tolds nm ns r (failTryP nm ns r i tx) ∧ (failTryP nm ns r i tx).evs.length ≤ r.evs.length + 2114 := by
  unfold failTryP
  repeat' split
  · exact ⟨breakP_told, Nat.le_trans breakP_evs (by omega)⟩
  · exact ⟨told1 (by simp), Nat.le_trans tellP_evs (by omega)⟩
  · exact ⟨.none, by omega⟩

/-- What an input that is no start tells, and how much. -/
theorem doP_both {r : Rn} (q : Inp) (hq : q.kind ≠ 1) (hl : r.st.nodes.length ≤ 32) (hn : ns.length ≤ 32) : Tolds nm ns r (doP nm ns r q).1 ∧ (doP nm ns r q).1.evs.length ≤ r.evs.length + 2114 := by
  have stay : Tolds nm ns r r ∧ r.evs.length ≤ r.evs.length + 2114 := ⟨.none, by omega⟩
  unfold doP
  rw [if_neg hq]
  split
  · exact stay
  split
  · exact stay
  split
  · unfold signalP
    repeat' split
    · exact stay
    · exact stay
    · exact tellGo_both (by simp) hl hn
    · exact stay
    · exact ⟨told1 (by simp), Nat.le_trans tellP_evs (by omega)⟩
  split
  · unfold takeP
    repeat' split
    · exact stay
    · exact ⟨told1 (by simp), Nat.le_trans tellP_evs (by omega)⟩
    · exact stay
    · exact stay
  split
  · unfold completeP
    repeat' split
    · exact stay
    · exact stay
    · exact tellGo_both (by simp) hl hn
  split
  · unfold failP
    repeat' split
    · exact stay
    · exact stay
    · exact failTry_both
  split
  · unfold fireP
    repeat' split
    · exact stay
    · exact failTry_both
    · exact tellGo_both (by simp) hl hn
  split
  · unfold kidP
    repeat' split
    · exact stay
    · exact ⟨breakP_told, Nat.le_trans breakP_evs (by omega)⟩
    · exact tellGo_both (by simp) hl hn
  split
  · unfold cancelP
    split
    · exact stay
    · exact ⟨endP_told, Nat.le_trans endP_evs (by omega)⟩
  · exact stay

/-- How much a state holds behind a start and k inputs. -/
structure TOk (ns : List Nd) (k : Nat) (s : St) : Prop where
  bare : Bare s
  len : s.nodes.length = ns.length
  ev0 : 0 ≤ s.events
  ev1 : s.events ≤ 2200 * ((k : Int) + 1)
  sg : (s.sigs.length : Int) ≤ 2200 * ((k : Int) + 1)
  id : s.id.size ≤ 64

theorem TOk.next {k : Nat} {s : St} (h : TOk ns k s) : TOk ns (k + 1) s := ⟨h.bare, h.len, h.ev0, by have := h.ev1; omega, by have := h.sg; omega, h.id⟩

theorem TOk.small {k : Nat} {s : St} (h : TOk ns k s) (hk : k ≤ 40) (hn : ns.length ≤ 32) : Small s := ⟨by rw [h.len]; omega, by have := h.sg; omega, h.ev0, by have := h.ev1; omega, by have := h.id; omega⟩

theorem TOk.start (hn : ns.length ≤ 32) (q : Inp) (hq : q.name.size ≤ 64) : TOk ns 0 (goOnP nm ns (startR nm ns q)).st := by
  have hK := goP_keeps (nm := nm) (ns := ns) (restC (startR nm ns q).st.nodes + 1) (startR nm ns q) (startR_fine q).bare
  have hC := (goOnP_told (nm := nm) (ns := ns) (r := startR nm ns q)).count
  have hL := goOnP_evs (nm := nm) (ns := ns) (r := startR nm ns q) (by rw [(startR_fine q).len]; exact hn) hn
  have e1 : (startR nm ns q).st.events = 1 := rfl
  have e2 : (startR nm ns q).evs.length = 1 := rfl
  have e3 : (startR nm ns q).st.sigs.length = 0 := rfl
  rw [e1, e2, e3] at hC
  rw [e2] at hL
  obtain ⟨c1, c2, c3⟩ := hC
  exact ⟨hK.1, hK.2.len.trans (startR_fine q).len, by omega, by omega, by omega, by have := hK.2.id; show (goP nm ns (restC (startR nm ns q).st.nodes + 1) (startR nm ns q)).st.id.size ≤ 64; rw [this]; exact hq⟩

theorem TOk.step {k : Nat} {s : St} (h : TOk ns k s) (hn : ns.length ≤ 32) (q : Inp) (hq : q.kind ≠ 1) : TOk ns (k + 1) (stepP nm ns s q).1.st := by
  have hB := doP_both (nm := nm) (ns := ns) (r := ⟨s, q.now, [], []⟩) q hq (by show s.nodes.length ≤ 32; rw [h.len]; exact hn) hn
  have hK := doP_keeps (nm := nm) (ns := ns) (r := ⟨s, q.now, [], []⟩) q hq h.bare
  obtain ⟨c1, c2, c3⟩ := hB.1.count
  have hl := hB.2
  have e0 : (⟨s, q.now, [], []⟩ : Rn).evs.length = 0 := rfl
  rw [e0] at c1 c2 hl
  have h1 := h.ev0
  have h2 := h.ev1
  have h3 := h.sg
  have c1' : (stepP nm ns s q).1.st.events - (stepP nm ns s q).1.evs.length = s.events - ((0 : Nat) : Int) := c1
  have c2' : ((stepP nm ns s q).1.st.sigs.length : Int) - (stepP nm ns s q).1.evs.length ≤ (s.sigs.length : Int) - ((0 : Nat) : Int) := c2
  have hl' : (stepP nm ns s q).1.evs.length ≤ 0 + 2114 := hl
  refine ⟨hK.1, hK.2.len.trans h.len, by omega, by omega, by omega, ?_⟩
  have := hK.2.id
  show (doP nm ns ⟨s, q.now, [], []⟩ q).1.st.id.size ≤ 64
  rw [this]
  exact h.id

def ghB : ByteArray := ⟨#[103, 47, 104]⟩
def gB : ByteArray := ⟨#[103]⟩
def hB : ByteArray := ⟨#[104]⟩

/-- Two states that stand alike. -/
structure Pair (ns : List Nd) (k : Nat) (s s' : St) : Prop where
  ok : TOk ns k s
  twin : s' = twinS ghB gB hB s

theorem Pair.next {k : Nat} {s s' : St} (h : Pair ns k s s') : Pair ns (k + 1) s s' := ⟨h.ok.next, h.twin⟩

theorem Pair.two {k : Nat} {s s' : St} (h : Pair ns k s s') : TOk ns k s' := by
  rw [h.twin]
  exact ⟨h.ok.bare, h.ok.len, h.ok.ev0, h.ok.ev1, h.ok.sg, by show ghB.size ≤ 64; decide⟩

theorem Pair.step (hn : ns.length ≤ 32) (hm : ∀ x ∈ ns, x.name.size ≤ 64) {k : Nat} {s s' : St} (h : Pair ns k s s') (q : Inp) (hq : q.kind ≠ 1) :
    (stepP nm ns s' q).2 = (stepP nm ns s q).2 ∧ (stepP nm ns s' q).1.evs = (stepP nm ns s q).1.evs ∧ ((stepP nm ns s q).1.st.status = 1 → (stepP nm ns s' q).1.tks.length = (stepP nm ns s q).1.tks.length) ∧ Pair ns (k + 1) (stepP nm ns s q).1.st (stepP nm ns s' q).1.st := by
  have T : Twin ghB gB hB [] [] (⟨s, q.now, [], []⟩ : Rn) ⟨s', q.now, [], []⟩ := ⟨h.twin, rfl, ⟨[], rfl, rfl⟩, fun _ => rfl⟩
  obtain ⟨D, e⟩ := T.does (nm := nm) (ns := ns) ⟨hm, h.ok.id, by show s'.id.size ≤ 64; rw [h.twin]; show ghB.size ≤ 64; decide⟩ q hq
  obtain ⟨l, l1, l2⟩ := D.evs
  refine ⟨e, ?_, D.tks, h.ok.step hn q hq, D.st⟩
  show (doP nm ns ⟨s', q.now, [], []⟩ q).1.evs = (doP nm ns ⟨s, q.now, [], []⟩ q).1.evs
  rw [l1, l2]

def twQ1 : Inp := ⟨1, ⟨#[]⟩, ⟨#[102]⟩, ⟨#[]⟩, 0, 0, 0, ⟨#[]⟩, ⟨#[]⟩⟩
def twQ2 : Inp := ⟨1, ⟨#[]⟩, ghB, ⟨#[]⟩, 0, 0, 0, gB, hB⟩

theorem Pair.start (hn : ns.length ≤ 32) (hm : ∀ x ∈ ns, x.name.size ≤ 64) : Pair ns 0 (goOnP nm ns (startR nm ns twQ1)).st (goOnP nm ns (startR nm ns twQ2)).st :=
  ⟨TOk.start hn twQ1 (by decide), (Twin.goOn (nm := nm) (ns := ns) (i := ghB) (p := gB) (n := hB) (u := [⟨1, ⟨#[]⟩, ⟨#[]⟩, 0⟩]) (u' := [⟨1, hB, gB, 0⟩]) (r := startR nm ns twQ1) (r' := startR nm ns twQ2) ⟨rfl, rfl, ⟨[], rfl, rfl⟩, fun _ => rfl⟩ ⟨hm, by show (1 : Nat) ≤ 64; decide, by show ghB.size ≤ 64; decide⟩).st⟩

end

end Go.Proofs.YtfjekjbkifmpfaaDoor

/-
  Step for the laws: answers whose shape is known; one node in a row; wakes.
-/
namespace Go.Proofs.YtfjekjbkifmpfaaDoor
open Go.RowKit

/-- One node in a new row. -/
theorem node_new (w : World) (x : Nd) (ok : NdOk x) (ha : x.after = []) : NodesAt (w.alloc (.cells #[.string x.name, .int .i64 x.kind, .string x.arg, .string x.«to», .int .i64 x.delay, .int .i64 x.tries, .slice none 0 0] 64)) (some ⟨w.heap.size, 0, none⟩) [x] := by
  refine ⟨fun y hy => by rw [List.mem_singleton] at hy; subst hy; exact ok, .inr ⟨w.heap.size, 0, rfl, fun i hi => ?_⟩⟩
  obtain rfl : i = 0 := by simpa using hi
  refine ⟨.slice none 0 0, ⟨none, 0, by rw [show ([x][0]).after = [] from ha]; rfl, by rw [show ([x][0]).after = [] from ha]; exact Nat.le_refl _, Nat.zero_le _, by rw [show ([x][0]).after = [] from ha]; exact .inl rfl, fun s hs => by rw [show ([x][0]).after = [] from ha] at hs; cases hs⟩, fun j u hu => ?_⟩
  have h := heap_alloc_new w (.cells #[.string x.name, .int .i64 x.kind, .string x.arg, .string x.«to», .int .i64 x.delay, .int .i64 x.tries, .slice none 0 0] 64)
  unfold World.cell?
  rw [h]
  simpa [ndC] using hu

def OkPost (w : World) (r : Rn) (e : Ending) (w' : World) : Prop := ∃ ae ce a6 c6 a7 c7 at_ ct, e = .returned (.tuple #[.slice ae r.evs.length ce, .agg #[.string r.st.dfn, .string r.st.id, .string r.st.par, .string r.st.pnode, .int .i64 r.st.status, .string r.st.text, .slice a6 r.st.nodes.length c6, .slice a7 r.st.sigs.length c7, .int .i64 r.st.events], .slice at_ r.tks.length ct, .int .i64 0]) ∧ AnsAt w' w.heap.size r (.slice ae r.evs.length ce) (.slice a6 r.st.nodes.length c6) (.slice a7 r.st.sigs.length c7) (.slice at_ r.tks.length ct) ∧ Kept (fun _ => False) w w'

def NoPost (w : World) (ee : Int) (e : Ending) (w' : World) : Prop := ∃ ae ce a6 c6 a7 c7 at_ ct, e = .returned (.tuple #[.slice ae 0 ce, .agg #[.string ⟨#[]⟩, .string ⟨#[]⟩, .string ⟨#[]⟩, .string ⟨#[]⟩, .int .i64 0, .string ⟨#[]⟩, .slice a6 0 c6, .slice a7 0 c7, .int .i64 0], .slice at_ 0 ct, .int .i64 ee]) ∧ Kept (fun _ => False) w w'

theorem StepPost.ok {w w' : World} {r : Rn} {e : Ending} (P : StepPost w (r, 0) e w') : OkPost w r e w' := by
  obtain ⟨ve, u6, u7, vt, he, A, K⟩ := P
  have A' : AnsAt w' w.heap.size r ve u6 u7 vt := A
  obtain ⟨ae, ce, rfl⟩ := ownsRow_shape A'.evs
  obtain ⟨a6, c6, rfl⟩ := ownsRow_shape A'.nodes
  obtain ⟨a7, c7, rfl⟩ := ownsRow_shape A'.sigs
  obtain ⟨at_, ct, rfl⟩ := ownsRow_shape A'.tks
  exact ⟨ae, ce, a6, c6, a7, c7, at_, ct, he, A', K⟩

theorem StepPost.no {w w' : World} {r : Rn} {e : Ending} {ee : Int} (h : ee ≠ 0) (P : StepPost w (r, ee) e w') : NoPost w ee e w' := by
  obtain ⟨ve, u6, u7, vt, he, A, K⟩ := P
  have hz : ansP (r, ee) = ⟨zeroSt, 0, [], []⟩ := by unfold ansP; rw [if_neg h]
  rw [hz] at he A
  obtain ⟨ae, ce, rfl⟩ := ownsRow_shape A.evs
  obtain ⟨a6, c6, rfl⟩ := ownsRow_shape A.nodes
  obtain ⟨a7, c7, rfl⟩ := ownsRow_shape A.sigs
  obtain ⟨at_, ct, rfl⟩ := ownsRow_shape A.tks
  exact ⟨ae, ce, a6, c6, a7, c7, at_, ct, he, K⟩

/-- A definition that lies in memory, with the moves: what Step asks. -/
structure DefAt (w : World) (a : Option Addr) (ns : List Nd) : Prop where
  nodes : NodesAt w a ns
  few : ns.length ≤ 64
  low : ∀ b o, a = some ⟨b, o, none⟩ → b < w.heap.size
  names : ∀ x ∈ ns, x.name.size ≤ 100000000
  moves : MovesAt w

theorem DefAt.new {w w' : World} {a : Option Addr} {ns : List Nd} (D : DefAt w a ns) (K : Kept (fun _ => False) w w') : DefAt w' a ns :=
  ⟨keptNew K D.nodes, D.few, fun b o h => Nat.lt_of_lt_of_le (D.low b o h) K.size, D.names, D.moves.kept K (fun h => h)⟩

section
variable {w : World} {nm : ByteArray} {a : Option Addr} {c n : Nat} {ns : List Nd} {s : St} {v6 v7 : Value} {q : Inp} {r : Rn}

theorem step_ok (D : DefAt w a ns) (hl : ns.length = n) (S : StRd w s v6 v7) (Z : Small s) (hq : q.name.size ≤ 100000000) (ht : q.text.size ≤ maxLen) (h : stepP nm ns s q = (r, 0)) :
    Calls Tryd.prog 22 #[.agg #[.string nm, .slice a n c], .agg #[.string s.dfn, .string s.id, .string s.par, .string s.pnode, .int .i64 s.status, .string s.text, v6, v7, .int .i64 s.events], .agg #[.int .i64 q.kind, .string q.node, .string q.name, .string q.text, .int .i64 q.tr, .int .i64 q.status, .int .i64 q.now, .string q.par, .string q.pnode]] w (OkPost w r) := by
  subst hl
  have hS := step_any w nm a c ns D.nodes D.few D.low D.names D.moves s v6 v7 S Z q hq ht
  rw [h] at hS
  exact hS.mono (fun e w' P => P.ok)

theorem step_no {ee : Int} (D : DefAt w a ns) (hl : ns.length = n) (S : StRd w s v6 v7) (Z : Small s) (hq : q.name.size ≤ 100000000) (ht : q.text.size ≤ maxLen) (h : stepP nm ns s q = (r, ee)) (he : ee ≠ 0) :
    Calls Tryd.prog 22 #[.agg #[.string nm, .slice a n c], .agg #[.string s.dfn, .string s.id, .string s.par, .string s.pnode, .int .i64 s.status, .string s.text, v6, v7, .int .i64 s.events], .agg #[.int .i64 q.kind, .string q.node, .string q.name, .string q.text, .int .i64 q.tr, .int .i64 q.status, .int .i64 q.now, .string q.par, .string q.pnode]] w (NoPost w ee) := by
  subst hl
  have hS := step_any w nm a c ns D.nodes D.few D.low D.names D.moves s v6 v7 S Z q hq ht
  rw [h] at hS
  exact hS.mono (fun e w' P => P.no he)

end

/-- The node of the wake workflow. -/
def wakeN : Nd := ⟨⟨#[97]⟩, 4, ⟨#[115]⟩, ⟨#[]⟩, 0, 0, []⟩
def wakeS : St := ⟨⟨#[119]⟩, ⟨#[102]⟩, ⟨#[]⟩, ⟨#[]⟩, 1, ⟨#[]⟩, [⟨2, 0, ⟨#[]⟩⟩], [], 2⟩
def wakeE : St := ⟨⟨#[119]⟩, ⟨#[102]⟩, ⟨#[]⟩, ⟨#[]⟩, 2, ⟨#[104, 105]⟩, [⟨3, 0, ⟨#[104, 105]⟩⟩], [], 4⟩
def wakeQ1 : Inp := ⟨1, ⟨#[]⟩, ⟨#[102]⟩, ⟨#[]⟩, 0, 0, 0, ⟨#[]⟩, ⟨#[]⟩⟩
def wakeQ2 : Inp := ⟨2, ⟨#[]⟩, ⟨#[115]⟩, ⟨#[104, 105]⟩, 0, 0, 0, ⟨#[]⟩, ⟨#[]⟩⟩

theorem wake1 : stepP ⟨#[119]⟩ [wakeN] zeroSt wakeQ1 = (⟨wakeS, 0, [⟨1, ⟨#[]⟩, ⟨#[]⟩, 0⟩, ⟨11, ⟨#[97]⟩, ⟨#[]⟩, 0⟩], []⟩, 0) := by kernel_rfl
theorem wake2 : stepP ⟨#[119]⟩ [wakeN] wakeS wakeQ2 = (⟨wakeE, 0, [⟨12, ⟨#[97]⟩, ⟨#[104, 105]⟩, 0⟩, ⟨15, ⟨#[]⟩, ⟨#[104, 105]⟩, 2⟩], []⟩, 0) := by kernel_rfl

theorem wakeN_ok : NdOk wakeN := ⟨by decide, by decide, by decide, by unfold isI64; decide, by unfold isI64; decide, by unfold isI64; decide, by decide⟩

theorem zeroSt_rd (w : World) : StRd w zeroSt (.slice none 0 0) (.slice none 0 0) := ⟨⟨rfl, none, 0, rfl, Nat.le_refl _, Nat.zero_le _, .inl rfl⟩, ⟨rfl, none, 0, rfl, Nat.le_refl _, Nat.zero_le _, .inl rfl⟩, Nat.zero_le _, Nat.zero_le _⟩

theorem zeroSt_small : Small zeroSt := ⟨Nat.zero_le _, Nat.zero_le _, by decide, by decide, by decide⟩

theorem AnsAt.rd {w' : World} {B : Nat} {r : Rn} {ve u6 u7 vt : Value} (A : AnsAt w' B r ve u6 u7 vt) (h6 : r.st.nodes.length ≤ 1000000) (h7 : r.st.sigs.length ≤ 1000000) : StRd w' r.st u6 u7 := ⟨flat_of_owns A.nodes, flat_of_owns A.sigs, h6, h7⟩

/-- A state's box that is filled anew. -/
structure BoxS (w : World) (sb B : Nat) (s : St) (a6 : Option Addr) (c6 : Nat) (a7 : Option Addr) (c7 : Nat) : Prop where
  blk : w.heap[sb]? = some (.cells #[.string s.dfn, .string s.id, .string s.par, .string s.pnode, .int .i64 s.status, .string s.text, .slice a6 s.nodes.length c6, .slice a7 s.sigs.length c7, .int .i64 s.events] 33 (0, 0))
  nodes : w.ownsRow B 61 3 (.slice a6 s.nodes.length c6) s.nodes.length (nsF s.nodes)
  sigs : w.ownsRow B 88 2 (.slice a7 s.sigs.length c7) s.sigs.length (sgF s.sigs)
  lt : sb < B

theorem BoxS.rd {w : World} {sb B : Nat} {s : St} {a6 : Option Addr} {c6 : Nat} {a7 : Option Addr} {c7 : Nat} (X : BoxS w sb B s a6 c6 a7 c7) (Z : Small s) : StRd w s (.slice a6 s.nodes.length c6) (.slice a7 s.sigs.length c7) := ⟨flat_of_owns X.nodes, flat_of_owns X.sigs, by have := Z.nodes; omega, by have := Z.sigs; omega⟩

theorem BoxS.new {w w' : World} {sb B : Nat} {s : St} {a6 : Option Addr} {c6 : Nat} {a7 : Option Addr} {c7 : Nat} (X : BoxS w sb B s a6 c6 a7 c7) (K : Kept (fun _ => False) w w') : BoxS w' sb B s a6 c6 a7 c7 :=
  ⟨(K.block _ (Array.getElem?_eq_some_iff.1 X.blk).1 (fun h => h)).trans X.blk, ownsRow_keep X.nodes (fun g hg => K.block g (ownsRow_blk X.nodes hg) (fun h => h)), ownsRow_keep X.sigs (fun g hg => K.block g (ownsRow_blk X.sigs hg) (fun h => h)), X.lt⟩

theorem wake_r1 : ∃ r1, stepP ⟨#[119]⟩ [wakeN] zeroSt wakeQ1 = (r1, 0) ∧ ((r1.evs.length : Int) != 2) = false ∧ (r1.st.status != 1) = false ∧ Small r1.st ∧ ∃ r2, stepP ⟨#[119]⟩ [wakeN] r1.st wakeQ2 = (r2, 0) ∧ ((r2.evs.length : Int) == 2) = true ∧ (r2.st.status == 2) = true ∧ r2.st.text.toList = [104, 105] ∧ overC r2.st.nodes = 1 ∧ restC r2.st.nodes = 0 ∧ Small r2.st :=
  ⟨_, wake1, rfl, rfl, ⟨by decide, by decide, by decide, by decide, by decide⟩, _, wake2, rfl, rfl, (Lib.toList_data _).trans rfl, rfl, rfl, ⟨by decide, by decide, by decide, by decide, by decide⟩⟩

set_option maxRecDepth 100000 in
set_option maxHeartbeats 8000000 in
theorem wakes_any (w : World) (M : MovesAt w) :
    Calls Tryd.prog 11 #[] w fun e w' => e = .returned (.bool true) ∧ Kept (fun _ => False) w w' := by
  obtain ⟨r1, hp1, hev1, hst1, Z1, r2, hp2, hev2, hst2, htx2, hov2, hre2, Z2⟩ := wake_r1
  have K1 : Kept (fun _ => False) w ((w.alloc (.cells #[.string ⟨#[97]⟩, .int .i64 4, .string ⟨#[115]⟩, .string ⟨#[]⟩, .int .i64 0, .int .i64 0, .slice none 0 0] 64)).alloc (.cells #[.string ⟨#[119]⟩, .slice (some ⟨w.heap.size, 0, none⟩) 1 1] 24)) := (Kept.alloc _ _ _).and (Kept.alloc _ _ _)
  have hb := heap_alloc_new (w.alloc (.cells #[.string ⟨#[97]⟩, .int .i64 4, .string ⟨#[115]⟩, .string ⟨#[]⟩, .int .i64 0, .int .i64 0, .slice none 0 0] 64)) (.cells #[.string ⟨#[119]⟩, .slice (some ⟨w.heap.size, 0, none⟩) 1 1] 24)
  rw [World.size_alloc] at hb
  have hlow : w.heap.size + 1 < ((w.alloc (.cells #[.string ⟨#[97]⟩, .int .i64 4, .string ⟨#[115]⟩, .string ⟨#[]⟩, .int .i64 0, .int .i64 0, .slice none 0 0] 64)).alloc (.cells #[.string ⟨#[119]⟩, .slice (some ⟨w.heap.size, 0, none⟩) 1 1] 24)).heap.size := (Array.getElem?_eq_some_iff.1 hb).1
  have D : DefAt ((w.alloc (.cells #[.string ⟨#[97]⟩, .int .i64 4, .string ⟨#[115]⟩, .string ⟨#[]⟩, .int .i64 0, .int .i64 0, .slice none 0 0] 64)).alloc (.cells #[.string ⟨#[119]⟩, .slice (some ⟨w.heap.size, 0, none⟩) 1 1] 24)) (some ⟨w.heap.size, 0, none⟩) [wakeN] := ⟨keptNew (Kept.alloc _ _ _) (node_new w wakeN wakeN_ok rfl), by decide, fun b o h => by simp only [Option.some.injEq, Addr.mk.injEq] at h; omega, fun x hx => by rw [List.mem_singleton] at hx; subst hx; decide, M.kept K1 (fun h => h)⟩
  have hS := step_ok (c := 1) (n := 1) D rfl (zeroSt_rd _) zeroSt_small (by decide) (by decide) hp1
  dsimp only [zeroSt, wakeQ1] at hS
  have HD := hid D
  have HK1 := hid K1
  have HB := hid hb
  have HP2 := hid hp2
  have HZ1 := hid Z1
  have HZ2 := hid Z2
  have Hov := hid hov2
  have Hre := hid hre2
  clear D K1 M hb hp1 hp2 Z1 Z2 hov2 hre2
  go_enter Tryd.func11, Tryd.ntmps11
  go_upto_region 5 with (first
    | (go_at_call 22; refine hS.mono ?_; rintro e w2 ⟨ae, ce, a6, c6, a7, c7, at_, ct, rfl, A2, K2⟩; clear hS)
    | fail)
  have KV := K2.and (Kept.alloc (fun _ => False) w2 (.cells #[.string r1.st.dfn, .string r1.st.id, .string r1.st.par, .string r1.st.pnode, .int .i64 r1.st.status, .string r1.st.text, .slice a6 r1.st.nodes.length c6, .slice a7 r1.st.sigs.length c7, .int .i64 r1.st.events] 33))
  have bV := heap_alloc_new w2 (.cells #[.string r1.st.dfn, .string r1.st.id, .string r1.st.par, .string r1.st.pnode, .int .i64 r1.st.status, .string r1.st.text, .slice a6 r1.st.nodes.length c6, .slice a7 r1.st.sigs.length c7, .int .i64 r1.st.events] 33)
  have dV := pairC ((KV.block _ (Array.getElem?_eq_some_iff.1 HB.out).1 (fun h => h)).trans HB.out)
  have tV := (nine bV).1
  have hS2 := step_ok (c := 1) (n := 1) (HD.out.new KV) rfl (StRd.new ⟨flat_of_owns A2.nodes, flat_of_owns A2.sigs, by have := HZ1.out.nodes; omega, by have := HZ1.out.sigs; omega⟩ (Kept.alloc _ _ _)) HZ1.out (by decide) (by decide) HP2.out
  dsimp only [wakeQ2] at hS2
  have hsz : w2.heap.size < (w2.alloc (.cells #[.string r1.st.dfn, .string r1.st.id, .string r1.st.par, .string r1.st.pnode, .int .i64 r1.st.status, .string r1.st.text, .slice a6 r1.st.nodes.length c6, .slice a7 r1.st.sigs.length c7, .int .i64 r1.st.events] 33)).heap.size := by rw [World.size_alloc]; omega
  have HKV := hid (HK1.out.and KV)
  have hz2 : w.heap.size ≤ w2.heap.size := Nat.le_trans HK1.out.size K2.size
  have HBV := hid bV
  clear A2 KV bV K2
  generalize w2.alloc (.cells #[.string r1.st.dfn, .string r1.st.id, .string r1.st.par, .string r1.st.pnode, .int .i64 r1.st.status, .string r1.st.text, .slice a6 r1.st.nodes.length c6, .slice a7 r1.st.sigs.length c7, .int .i64 r1.st.events] 33) = V at *
  generalize w2.heap.size = sb at *
  obtain ⟨d0, d1⟩ := dV
  obtain ⟨t0, t1, t2, t3, t4, t5, t6, t7, t8⟩ := tV
  go_upto_region 6 with (first
    | (go_at_call 22; refine hS2.mono ?_; rintro e w3 ⟨ae2, ce2, b6, e6, b7, e7, bt, et, rfl, A3, K3⟩; clear hS2 t0 t1 t2 t3 t4 t5 t6 t7 t8 d0 d1; have h3 := (K3.block _ (Array.getElem?_eq_some_iff.1 HBV.out).1 (fun h => h)).trans HBV.out; obtain ⟨⟨p0, p1, p2, p3, p4, p5, p6, p7, p8⟩, f0, f1, f2, f3, f4, f5, f6, f7, f8⟩ := nine h3; have HB3 := hid h3; clear h3)
    | fail)
  have b4 := put9 HB3.out (.string r2.st.dfn) (.string r2.st.id) (.string r2.st.par) (.string r2.st.pnode) (.int .i64 r2.st.status) (.string r2.st.text) (.slice b6 r2.st.nodes.length e6) (.slice b7 r2.st.sigs.length e7) (.int .i64 r2.st.events)
  have K4 := kept9 (S := fun j => j = sb) w3 rfl (.string r2.st.dfn) (.string r2.st.id) (.string r2.st.par) (.string r2.st.pnode) (.int .i64 r2.st.status) (.string r2.st.text) (.slice b6 r2.st.nodes.length e6) (.slice b7 r2.st.sigs.length e7) (.int .i64 r2.st.events)
  have n4 := ownsRow_keep A3.nodes (fun g hg => K4.block g (ownsRow_blk A3.nodes hg) (fun e => by have := (A3.nodes.lt g hg).1; omega))
  have s4 := ownsRow_keep A3.sigs (fun g hg => K4.block g (ownsRow_blk A3.sigs hg) (fun e => by have := (A3.sigs.lt g hg).1; omega))
  have HK4 := hid ((HKV.out.and K3).trans K4 (fun g h => .inr (by omega)))
  generalize (((((((((w3.setCell ⟨sb, 0, none⟩ (.string r2.st.dfn)).setCell ⟨sb, 1, none⟩ (.string r2.st.id)).setCell ⟨sb, 2, none⟩ (.string r2.st.par)).setCell ⟨sb, 3, none⟩ (.string r2.st.pnode)).setCell ⟨sb, 4, none⟩ (.int .i64 r2.st.status)).setCell ⟨sb, 5, none⟩ (.string r2.st.text)).setCell ⟨sb, 6, none⟩ (.slice b6 r2.st.nodes.length e6)).setCell ⟨sb, 7, none⟩ (.slice b7 r2.st.sigs.length e7)).setCell ⟨sb, 8, none⟩ (.int .i64 r2.st.events)) = W4 at *
  obtain ⟨⟨y0, y1, y2, y3, y4, y5, y6, y7, y8⟩, _⟩ := nine b4
  have hC := count_any W4 r2.st _ _ ⟨flat_of_owns n4, flat_of_owns s4, by have := HZ2.out.nodes; omega, by have := HZ2.out.sigs; omega⟩
  have Hq1 : Hid (∀ x, IsF x (overC r2.st.nodes : Nat) → (FloatKind.f64.format.order x 4607182418800017408 == some .eq) = true) := fun x h => by rw [isF_eq h isF_one, Hov.out]; rfl
  have Hq2 : Hid (∀ x, IsF x (restC r2.st.nodes : Nat) → (FloatKind.f64.format.order x 0 == some .eq) = true) := fun x h => by rw [isF_eq h isF_zero, Hre.out]; rfl
  clear p0 p1 p2 p3 p4 p5 p6 p7 p8 f0 f1 f2 f3 f4 f5 f6 f7 f8 b4 K4 n4 s4 A3 K3
  go_wp2_with (first
    | (go_at_call 25; refine hC.mono ?_; rintro e w5 ⟨⟨x, y, rfl, hx, hy⟩, K5⟩; clear hC; have hx1 := Hq1.out x hx; have hy1 := Hq2.out y hy; clear hx hy)
    | fail)
  go_ret
  exact ⟨rfl, HK4.out.and K5⟩

end Go.Proofs.YtfjekjbkifmpfaaDoor

/-
  A row of inputs that is handed in, opened.
-/
namespace Go.Proofs.YtfjekjbkifmpfaaDoor
open Go.ChangeShapes Go.WideShapes Go.ChangeAt Go.RowKit Go.Deep

def inC (q : Inp) : List Value := [.int .i64 q.kind, .string q.node, .string q.name, .string q.text, .int .i64 q.tr, .int .i64 q.status, .int .i64 q.now, .string q.par, .string q.pnode]

/-- Inputs that lie in a row at a. -/
def InsAt (w : World) (a : Option Addr) (l : List Inp) : Prop := l = [] ∨ ∃ b o, a = some ⟨b, o, none⟩ ∧ ∀ i (h : i < l.length), ∀ j u, (inC (l[i]'h))[j]? = some u → w.cell? ⟨b, o + i * 9 + j, none⟩ = some u

theorem InsAt.at {w : World} {a : Option Addr} {l : List Inp} (C : InsAt w a l) {i : Nat} (hi : i < l.length) : ∃ b o, a = some ⟨b, o, none⟩ ∧ ∀ V, Kept (fun _ => False) w V →
    V.cell? ⟨b, o + i * 9, none⟩ = some (.int .i64 (l[i]).kind) ∧ V.cell? ⟨b, o + i * 9 + 1, none⟩ = some (.string (l[i]).node) ∧ V.cell? ⟨b, o + i * 9 + 2, none⟩ = some (.string (l[i]).name) ∧ V.cell? ⟨b, o + i * 9 + 3, none⟩ = some (.string (l[i]).text) ∧ V.cell? ⟨b, o + i * 9 + 4, none⟩ = some (.int .i64 (l[i]).tr) ∧ V.cell? ⟨b, o + i * 9 + 5, none⟩ = some (.int .i64 (l[i]).status) ∧ V.cell? ⟨b, o + i * 9 + 6, none⟩ = some (.int .i64 (l[i]).now) ∧ V.cell? ⟨b, o + i * 9 + 7, none⟩ = some (.string (l[i]).par) ∧ V.cell? ⟨b, o + i * 9 + 8, none⟩ = some (.string (l[i]).pnode) := by
  rcases C with h | ⟨b, o, h, hc⟩
  · subst h; simp at hi
  · have k := fun (j : Nat) (u : Value) (hu : (inC l[i])[j]? = some u) (V : World) (K : Kept (fun _ => False) w V) => keepC K (hc i hi j u hu) (fun _ _ h => h)
    exact ⟨b, o, h, fun V K => ⟨k 0 _ rfl V K, k 1 _ rfl V K, k 2 _ rfl V K, k 3 _ rfl V K, k 4 _ rfl V K, k 5 _ rfl V K, k 6 _ rfl V K, k 7 _ rfl V K, k 8 _ rfl V K⟩⟩

variable {H : Type} {enc : TypeId × Value → H} {W : World} {base : Nat} {held : Bool}

set_option maxRecDepth 100000 in
theorem in_open {fuel : Nat} {cs : List Value} {x : DataW H × List MemPlace} (h : DataW.trod enc Tryd.prog W base (fun _ => true) held fuel 39 cs = some x) (hl : cs.length = 9) : ∃ q, cs = inC q := by
  match cs, hl with
  | [c0, c1, c2, c3, c4, c5, c6, c7, c8], _ =>
    have kS : Tryd.prog.cellsOf 9 = 1 := by kernel_rfl
    have kI : Tryd.prog.cellsOf 3 = 1 := by kernel_rfl
    obtain ⟨ys, n, _, rfl, hl, hlen, hf⟩ := DataW.trod_struct Tryd.underlying39 h
    match ys, hlen with
    | [z0, z1, z2, z3, z4, z5, z6, z7, z8], _ =>
      have t0 : DataW.trod enc Tryd.prog W base (fun _ => true) held n 3 [c0] = some z0 := by simpa [kI] using hf 0 _ rfl
      have t1 : DataW.trod enc Tryd.prog W base (fun _ => true) held n 9 [c1] = some z1 := by simpa [kS] using hf 1 _ rfl
      have t2 : DataW.trod enc Tryd.prog W base (fun _ => true) held n 9 [c2] = some z2 := by simpa [kS] using hf 2 _ rfl
      have t3 : DataW.trod enc Tryd.prog W base (fun _ => true) held n 9 [c3] = some z3 := by simpa [kS] using hf 3 _ rfl
      have t4 : DataW.trod enc Tryd.prog W base (fun _ => true) held n 3 [c4] = some z4 := by simpa [kI] using hf 4 _ rfl
      have t5 : DataW.trod enc Tryd.prog W base (fun _ => true) held n 3 [c5] = some z5 := by simpa [kI] using hf 5 _ rfl
      have t6 : DataW.trod enc Tryd.prog W base (fun _ => true) held n 3 [c6] = some z6 := by simpa [kI] using hf 6 _ rfl
      have t7 : DataW.trod enc Tryd.prog W base (fun _ => true) held n 9 [c7] = some z7 := by simpa [kS] using hf 7 _ rfl
      have t8 : DataW.trod enc Tryd.prog W base (fun _ => true) held n 9 [c8] = some z8 := by simpa [kS] using hf 8 _ rfl
      obtain ⟨x0, e0, _⟩ := DataW.trod_int Tryd.underlying3 t0
      obtain ⟨x1, e1, _⟩ := DataW.trod_string Tryd.underlying9 t1
      obtain ⟨x2, e2, _⟩ := DataW.trod_string Tryd.underlying9 t2
      obtain ⟨x3, e3, _⟩ := DataW.trod_string Tryd.underlying9 t3
      obtain ⟨x4, e4, _⟩ := DataW.trod_int Tryd.underlying3 t4
      obtain ⟨x5, e5, _⟩ := DataW.trod_int Tryd.underlying3 t5
      obtain ⟨x6, e6, _⟩ := DataW.trod_int Tryd.underlying3 t6
      obtain ⟨x7, e7, _⟩ := DataW.trod_string Tryd.underlying9 t7
      obtain ⟨x8, e8, _⟩ := DataW.trod_string Tryd.underlying9 t8
      simp only [List.cons.injEq, and_true] at e0 e1 e2 e3 e4 e5 e6 e7 e8
      subst e0 e1 e2 e3 e4 e5 e6 e7 e8
      exact ⟨⟨x0, x1, x2, x3, x4, x5, x6, x7, x8⟩, rfl⟩

set_option maxRecDepth 100000 in
theorem ins_open {fuel : Nat} {v : Value} {x : DataW H × List MemPlace} (h : DataW.trod enc Tryd.prog W base (fun _ => true) held fuel 25 [v] = some x) :
    ∃ a c l, v = .slice a l.length c ∧ l.length ≤ c ∧ c ≤ maxLen ∧ InsAt W a l := by
  have kO : Tryd.prog.cellsOf 39 = 9 := by kernel_rfl
  rcases Deep.open_slice Tryd.underlying25 h with ⟨hcs, hx⟩ | ⟨a, len, cap, m, n, D, Pl, hcs, hb, hl, hm, hmm, hx, hel⟩
  · simp only [List.cons.injEq, and_true] at hcs
    subst hcs
    exact ⟨none, 0, [], rfl, Nat.le_refl _, Nat.zero_le _, .inl rfl⟩
  · simp only [List.cons.injEq, and_true] at hcs
    subst hcs
    have hlm : len ≤ m := by rw [hmm]; split <;> omega
    have each : ∀ i, i < len → ∃ q : Inp, ∀ j, j < 9 → W.cell? (a.add (i * 9 + j)) = (inC q)[j]? := by
      intro i hi
      obtain ⟨cs', h1, h2⟩ := hel i (by omega)
      rw [kO] at h1
      obtain ⟨_, hlen, hcell⟩ := World.cells?_some h1
      obtain ⟨q, rfl⟩ := in_open h2 hlen
      refine ⟨q, fun j hj => ?_⟩
      rw [← Deep.add_add]
      exact hcell j hj
    haveI : Inhabited Inp := ⟨⟨0, ⟨#[]⟩, ⟨#[]⟩, ⟨#[]⟩, 0, 0, 0, ⟨#[]⟩, ⟨#[]⟩⟩⟩
    obtain ⟨q, hq⟩ := Deep.choose_lt each
    rcases Nat.eq_zero_or_pos len with h0 | h0
    · subst h0
      exact ⟨some a, cap, [], rfl, Nat.zero_le _, hm, .inl rfl⟩
    · have h00 := hq 0 h0 0 (by decide)
      obtain ⟨u0, hu0⟩ : ∃ u, (inC (q 0))[0]? = some u := ⟨_, rfl⟩
      rw [hu0] at h00
      obtain ⟨b, off, rfl⟩ := addr_form (v := u0) (by simpa using h00)
      refine ⟨some ⟨b, off, none⟩, cap, (List.range len).map q, by simp, by simpa using hl, hm, .inr ⟨b, off, rfl, fun i hi j u hu => ?_⟩⟩
      have hi' : i < len := by simpa using hi
      have e : ((List.range len).map q)[i] = q i := by simp
      rw [e] at hu
      have hj : j < 9 := (List.getElem?_eq_some_iff.1 hu).1
      have := hq i hi' j hj
      rw [Addr.add_lit, hu] at this
      rw [← this]
      congr 2
      omega

end Go.Proofs.YtfjekjbkifmpfaaDoor

/-
  A definition by value, and rows of them, opened: what a law is handed.
-/
namespace Go.Proofs.YtfjekjbkifmpfaaDoor
open Go.ChangeShapes Go.WideShapes Go.ChangeAt Go.RowKit Go.Deep

/-- Texts that are handed in. -/
def StrsAt (w : World) (a : Option Addr) (len : Nat) (S : Nat → ByteArray) : Prop :=
  len = 0 ∨ ∃ b o, a = some ⟨b, o, none⟩ ∧ ∀ i, i < len → w.cell? ⟨b, o + i, none⟩ = some (.string (S i)) ∧ (S i).size ≤ maxLen

theorem StrsAt.at {w : World} {a : Option Addr} {len : Nat} {S : Nat → ByteArray} (h : StrsAt w a len S) {j : Nat} (hj : j < len) : ∃ b o, a = some ⟨b, o, none⟩ ∧ ∀ i, i < len → w.cell? ⟨b, o + i, none⟩ = some (.string (S i)) ∧ (S i).size ≤ maxLen := by
  rcases h with h0 | h
  · omega
  · exact h

theorem strs_open {H : Type} {enc : TypeId × Value → H} {P : Program} {w : World} {base : Nat} {held : Bool} {t e : TypeId} {fuel : Nat} {v : Value} {x : DataW H × List MemPlace} (ht : P.underlying t = some (.slice e)) (he : P.underlying e = some .string) (hc : P.cellsOf e = 1)
    (h : DataW.trod enc P w base (fun _ => true) held fuel t [v] = some x) : ∃ a len cap S, v = .slice a len cap ∧ len ≤ cap ∧ cap ≤ maxLen ∧ StrsAt w a len S := by
  rcases open_strs ht he hc h with ⟨hcs, _⟩ | ⟨a, l, c, m, S, hcs, _, hl, hm, hmm, _, hcell⟩
  · simp only [List.cons.injEq, and_true] at hcs
    exact ⟨_, _, _, fun _ => ByteArray.empty, hcs, Nat.le_refl _, Nat.zero_le _, .inl rfl⟩
  · simp only [List.cons.injEq, and_true] at hcs
    simp only [if_true] at hmm
    subst hmm
    rcases Nat.eq_zero_or_pos l with h0 | h0
    · exact ⟨_, _, _, S, hcs, hl, hm, .inl h0⟩
    · obtain ⟨b, o, rfl⟩ := addr_form (hcell 0 (by omega)).1
      exact ⟨_, _, _, S, hcs, hl, hm, .inr ⟨b, o, rfl, fun i hi => by have := hcell i (by omega); rw [Addr.add_lit] at this; exact this⟩⟩

/-- A definition's two cells. -/
def RawDef (w : World) (c0 c1 : Value) (name : ByteArray) (ns : List Nd) : Prop := c0 = .string name ∧ name.size ≤ maxLen ∧ ∃ a c, c1 = .slice a ns.length c ∧ ns.length ≤ c ∧ c ≤ maxLen ∧ RawAt w a ns

variable {H : Type} {enc : TypeId × Value → H} {W : World} {base : Nat} {held : Bool}

theorem texts_open {fuel : Nat} {v : Value} {x : DataW H × List MemPlace} (h : DataW.trod enc Tryd.prog W base (fun _ => true) held fuel 62 [v] = some x) : ∃ l, TextsAt W v l := by
  obtain ⟨a, len, cap, S, rfl, h1, h2, h3⟩ := strs_open Tryd.underlying62 Tryd.underlying9 (by kernel_rfl) h
  rcases h3 with rfl | ⟨b, o, rfl, hc⟩
  · exact ⟨[], a, cap, rfl, Nat.zero_le _, h2, .inl rfl, fun s hs => by cases hs⟩
  · refine ⟨(List.range len).map S, some ⟨b, o, none⟩, cap, by simp, by simpa using h1, h2, .inr ⟨b, o, rfl, fun j u hu => ?_⟩, fun s hs => ?_⟩
    · by_cases hj : j < len
      · simp [hj] at hu
        rw [← hu]
        exact (hc j hj).1
      · simp [hj] at hu
    · obtain ⟨i, hi, rfl⟩ := List.mem_map.1 hs
      exact (hc i (List.mem_range.1 hi)).2

set_option maxRecDepth 100000 in
theorem nd_open {fuel : Nat} {cs : List Value} {x : DataW H × List MemPlace} (h : DataW.trod enc Tryd.prog W base (fun _ => true) held fuel 64 cs = some x) (hl : cs.length = 7) :
    ∃ n v, cs = ndC n v ∧ TextsAt W v n.after ∧ NdOk { n with after := [] } := by
  match cs, hl with
  | [c0, c1, c2, c3, c4, c5, c6], _ =>
    have kS : Tryd.prog.cellsOf 9 = 1 := by kernel_rfl
    have kI : Tryd.prog.cellsOf 3 = 1 := by kernel_rfl
    have kL : Tryd.prog.cellsOf 62 = 1 := by kernel_rfl
    obtain ⟨ys, n, _, rfl, hl, hlen, hf⟩ := DataW.trod_struct Tryd.underlying64 h
    match ys, hlen with
    | [z0, z1, z2, z3, z4, z5, z6], _ =>
      have t0 : DataW.trod enc Tryd.prog W base (fun _ => true) held n 9 [c0] = some z0 := by simpa [kS] using hf 0 _ rfl
      have t1 : DataW.trod enc Tryd.prog W base (fun _ => true) held n 3 [c1] = some z1 := by simpa [kI] using hf 1 _ rfl
      have t2 : DataW.trod enc Tryd.prog W base (fun _ => true) held n 9 [c2] = some z2 := by simpa [kS] using hf 2 _ rfl
      have t3 : DataW.trod enc Tryd.prog W base (fun _ => true) held n 9 [c3] = some z3 := by simpa [kS] using hf 3 _ rfl
      have t4 : DataW.trod enc Tryd.prog W base (fun _ => true) held n 3 [c4] = some z4 := by simpa [kI] using hf 4 _ rfl
      have t5 : DataW.trod enc Tryd.prog W base (fun _ => true) held n 3 [c5] = some z5 := by simpa [kI] using hf 5 _ rfl
      have t6 : DataW.trod enc Tryd.prog W base (fun _ => true) held n 62 [c6] = some z6 := by simpa [kL] using hf 6 _ rfl
      obtain ⟨x0, e0, rfl, s0⟩ := DataW.trod_string Tryd.underlying9 t0
      obtain ⟨x1, e1, rfl, s1⟩ := DataW.trod_int Tryd.underlying3 t1
      obtain ⟨x2, e2, rfl, s2⟩ := DataW.trod_string Tryd.underlying9 t2
      obtain ⟨x3, e3, rfl, s3⟩ := DataW.trod_string Tryd.underlying9 t3
      obtain ⟨x4, e4, rfl, s4⟩ := DataW.trod_int Tryd.underlying3 t4
      obtain ⟨x5, e5, rfl, s5⟩ := DataW.trod_int Tryd.underlying3 t5
      obtain ⟨l, T⟩ := texts_open t6
      simp only [List.cons.injEq, and_true] at e0 e1 e2 e3 e4 e5
      subst e0 e1 e2 e3 e4 e5
      exact ⟨⟨x0, x1, x2, x3, x4, x5, l⟩, c6, rfl, T, ⟨s0, s2, s3, s1, s4, s5, Nat.zero_le _⟩⟩

set_option maxRecDepth 100000 in
theorem nds_open {fuel : Nat} {v : Value} {x : DataW H × List MemPlace} (h : DataW.trod enc Tryd.prog W base (fun _ => true) held fuel 22 [v] = some x) :
    ∃ a c ns, v = .slice a ns.length c ∧ ns.length ≤ c ∧ c ≤ maxLen ∧ RawAt W a ns := by
  have kO : Tryd.prog.cellsOf 64 = 7 := by kernel_rfl
  rcases Deep.open_slice Tryd.underlying22 h with ⟨hcs, hx⟩ | ⟨a, len, cap, m, n, D, Pl, hcs, hb, hl, hm, hmm, hx, hel⟩
  · simp only [List.cons.injEq, and_true] at hcs
    subst hcs
    exact ⟨none, 0, [], rfl, Nat.le_refl _, Nat.zero_le _, fun n h => (by cases h), .inl rfl⟩
  · simp only [List.cons.injEq, and_true] at hcs
    subst hcs
    have hlm : len ≤ m := by rw [hmm]; split <;> omega
    have each : ∀ i, i < len → ∃ o : Nd × Value, (TextsAt W o.2 o.1.after ∧ NdOk { o.1 with after := [] }) ∧ ∀ j, j < 7 → W.cell? (a.add (i * 7 + j)) = (ndC o.1 o.2)[j]? := by
      intro i hi
      obtain ⟨cs', h1, h2⟩ := hel i (by omega)
      rw [kO] at h1
      obtain ⟨_, hlen, hcell⟩ := World.cells?_some h1
      obtain ⟨o, v, rfl, T, O⟩ := nd_open h2 hlen
      refine ⟨(o, v), ⟨T, O⟩, fun j hj => ?_⟩
      rw [← Deep.add_add]
      exact hcell j hj
    haveI : Inhabited (Nd × Value) := ⟨(⟨⟨#[]⟩, 0, ⟨#[]⟩, ⟨#[]⟩, 0, 0, []⟩, undef)⟩
    obtain ⟨q, hq⟩ := Deep.choose_lt each
    rcases Nat.eq_zero_or_pos len with h0 | h0
    · subst h0
      exact ⟨some a, cap, [], rfl, Nat.zero_le _, hm, fun n h => (by cases h), .inl rfl⟩
    · have h00 := (hq 0 h0).2 0 (by decide)
      obtain ⟨u0, hu0⟩ : ∃ u, (ndC (q 0).1 (q 0).2)[0]? = some u := ⟨_, rfl⟩
      rw [hu0] at h00
      obtain ⟨b, off, rfl⟩ := addr_form (v := u0) (by simpa using h00)
      refine ⟨some ⟨b, off, none⟩, cap, (List.range len).map (fun i => (q i).1), by simp, by simpa using hl, hm, fun n h => ?_, .inr ⟨b, off, rfl, fun i hi => ?_⟩⟩
      · obtain ⟨i, hi, rfl⟩ := List.mem_map.1 h
        exact (hq i (List.mem_range.1 hi)).1.2
      · have hi' : i < len := by simpa using hi
        have e : ((List.range len).map (fun i => (q i).1))[i] = (q i).1 := by simp
        rw [e]
        refine ⟨(q i).2, (hq i hi').1.1, fun j u hu => ?_⟩
        have hj : j < 7 := (List.getElem?_eq_some_iff.1 hu).1
        have := (hq i hi').2 j hj
        rw [Addr.add_lit, hu] at this
        rw [← this]
        congr 2
        omega

set_option maxRecDepth 100000 in
theorem def_open {fuel : Nat} {cs : List Value} {x : DataW H × List MemPlace} (h : DataW.trod enc Tryd.prog W base (fun _ => true) held fuel 24 cs = some x) (hl : cs.length = 2) :
    ∃ c0 c1 name ns, cs = [c0, c1] ∧ RawDef W c0 c1 name ns := by
  match cs, hl with
  | [c0, c1], _ =>
    have kS : Tryd.prog.cellsOf 9 = 1 := by kernel_rfl
    have kL : Tryd.prog.cellsOf 22 = 1 := by kernel_rfl
    obtain ⟨y0, y1, n, hx, hl, h0, h1⟩ := trod_struct2 Tryd.underlying24 h
    have t0 : DataW.trod enc Tryd.prog W base (fun _ => true) held n 9 [c0] = some y0 := by simpa [kS] using h0
    have t1 : DataW.trod enc Tryd.prog W base (fun _ => true) held n 22 [c1] = some y1 := by simpa [kL] using h1
    obtain ⟨x0, e0, rfl, s0⟩ := DataW.trod_string Tryd.underlying9 t0
    obtain ⟨a, c, ns, rfl, q1, q2, R⟩ := nds_open t1
    simp only [List.cons.injEq, and_true] at e0
    subst e0
    exact ⟨_, _, x0, ns, rfl, rfl, s0, a, c, rfl, q1, q2, R⟩

theorem array2 {α : Type} {cs : Array α} (h : cs.size = 2) : ∃ c0 c1, cs = #[c0, c1] := by
  obtain ⟨l⟩ := cs
  match l, h with
  | [c0, c1], _ => exact ⟨c0, c1, rfl⟩

set_option maxRecDepth 100000 in
theorem dv_open {H : Type} {enc : TypeId × Value → H} {W : World} {base b0 : Nat} {r : Reach} {held : Bool} {v : Value} {d : DataW H} {p : List MemPlace}
    (hv : Value.okWide Tryd.prog W r b0 24 v) (h : DataW.Trod enc Tryd.prog W base (fun _ => true) held 24 v d p) :
    ∃ (name : ByteArray) (a : Option Addr) (c : Nat) (ns : List Nd), v = .agg #[.string name, .slice a ns.length c] ∧ name.size ≤ maxLen ∧ ns.length ≤ c ∧ c ≤ maxLen ∧ RawAt W a ns := by
  obtain ⟨cs, rfl, hsz⟩ := okWide_struct Tryd.underlying24 hv
  obtain ⟨c0, c1, rfl⟩ := array2 (hsz.trans (by kernel_rfl))
  obtain ⟨fuel, hf⟩ := h
  obtain ⟨e0, e1, name, ns, e, R⟩ := def_open (cs := [c0, c1]) hf rfl
  obtain ⟨rfl, hn, a, c, rfl, h1, h2, h3⟩ := R
  simp only [List.cons.injEq, and_true] at e
  obtain ⟨rfl, rfl⟩ := e
  exact ⟨name, a, c, ns, rfl, hn, h1, h2, h3⟩

end Go.Proofs.YtfjekjbkifmpfaaDoor

/-
  How many events an input tells of a definition that is taken: two for each node, and some.
-/
namespace Go.Proofs.YtfjekjbkifmpfaaDoor
open Go.RowKit

def idleC (l : List Ns) : Nat := l.countP (fun y => y.status == 0)

theorem idleC_le (l : List Ns) : idleC l ≤ l.length := List.countP_le_length

theorem idle_set {l : List Ns} {i : Nat} {y : Ns} {m : Mv} {e : Ev} (hy : l[i]? = some y) (hy0 : y.status = 0) (hm : m.dst ≠ 0) : idleC (setNode l i m e) + 1 ≤ idleC l := by
  obtain ⟨hi, rfl⟩ := List.getElem?_eq_some_iff.1 hy
  rw [setNode_set hi]
  unfold idleC
  have hp : 0 < l.countP (fun y => y.status == 0) := List.countP_pos_iff.2 ⟨l[i], List.getElem_mem hi, by simp [hy0]⟩
  rw [List.countP_set hi]
  have h1 : (l[i].status == 0) = true := by simp [hy0]
  have h2 : (m.dst == 0) = false := by simpa using hm
  simp only [h1, h2, if_true, Bool.false_eq_true, if_false]
  omega

section
variable {nm : ByteArray} {ns : List Nd}

theorem on_evs (S : Sound ns) {r r' : Rn} (h : On nm ns r r') : Fine ns r.st → r'.evs.length ≤ r.evs.length + 2 * idleC r.st.nodes + 2 := by
  induction h with
  | stop hs => intro _; omega
  | @step r r' i x hs hh hx hon ih =>
    intro F
    have hi : i ∈ goReady ns r := List.mem_of_mem_head? (by rw [hh]; rfl)
    obtain ⟨hin, y, hy, hy0⟩ := goReady_idle hi
    have hk := S.kind x (List.mem_of_getElem? hx)
    have hf := S.find i x hx
    have hb := begin_same (nm := nm) F.bare hs hf hx hy hy0 hk.1 hk.2
    rw [hb] at ih
    have h1 := ih (begin_fine F hs hf hx hy hy0 hk.1 hk.2)
    obtain ⟨m, e0, hm0, _, hn⟩ := begin_nodes (nm := nm) hs hf hx hy hy0 hk.1 hk.2
    have h2 := beginP_evs (nm := nm) (ns := ns) (r := r) (x := x)
    have h3 := idle_set (e := e0) hy hy0 hm0
    rw [← hn] at h3
    omega
  | @done r hs hz hc =>
    intro F
    rw [closed_same F.bare hs (.inl rfl)]
    have := endP_evs (nm := nm) (ns := ns) (r := r) (st := 2) (tx := lastP r.st.nodes)
    omega
  | rest hs hz hc => intro _; omega

theorem told_closed {r r' : Rn} (h : Tolds nm ns r r') : r.st.status ≠ 1 → r' = r := by
  induction h with
  | none => exact fun _ => rfl
  | @tell r r' e ts he _ ih =>
    intro hs
    have ht : tellP nm ns r e ts = r := by
      unfold tellP
      have hc : changeP nm ns r.st e = none := by
        unfold changeP
        rw [if_pos]
        rw [if_neg he]
        exact hs
      rw [hc]
    rw [ht] at ih
    exact ih hs

theorem goOnP_few (S : Sound ns) {r : Rn} (F : Fine ns r.st) : (goOnP nm ns r).evs.length ≤ r.evs.length + 2 * ns.length + 2 := by
  rcases goOn_on (nm := nm) S F with h | h
  · have h1 := on_evs S h F
    have h2 := idleC_le r.st.nodes
    rw [F.len] at h2
    omega
  · rw [told_closed goOnP_told h]
    omega

theorem tellGo_few (S : Sound ns) {r : Rn} {e : Ev} (he : e.kind ≠ 1) (F : Fine ns r.st) : Tolds nm ns r (goOnP nm ns (tellP nm ns r e [])) ∧ (goOnP nm ns (tellP nm ns r e [])).evs.length ≤ r.evs.length + 2 * ns.length + 3 := by
  refine ⟨(told1 he).trans goOnP_told, ?_⟩
  have h := goOnP_few (nm := nm) S (r := tellP nm ns r e []) ⟨(tellP_grow he).len.trans F.len, tellP_bare F.bare⟩
  have h2 := tellP_evs (nm := nm) (ns := ns) (r := r) (e := e) (ts := [])
  omega

theorem failTry_few {r : Rn} {i : Nat} {tx : ByteArray} : Tolds nm ns r (failTryP nm ns r i tx) ∧ (failTryP nm ns r i tx).evs.length ≤ r.evs.length + 2 * ns.length + 3 := by
  unfold failTryP
  repeat' split
  · exact ⟨breakP_told, Nat.le_trans breakP_evs (by omega)⟩
  · exact ⟨told1 (by simp), Nat.le_trans tellP_evs (by omega)⟩
  · exact ⟨.none, by omega⟩

/-- What an input that is no start tells, and how much, of a definition that is sound. -/
theorem doP_few (S : Sound ns) {r : Rn} (q : Inp) (hq : q.kind ≠ 1) (F : r.st.status ≠ 0 → Fine ns r.st) : Tolds nm ns r (doP nm ns r q).1 ∧ (doP nm ns r q).1.evs.length ≤ r.evs.length + 2 * ns.length + 3 := by
  have stay : Tolds nm ns r r ∧ r.evs.length ≤ r.evs.length + 2 * ns.length + 3 := ⟨.none, by omega⟩
  unfold doP
  rw [if_neg hq]
  split
  · exact stay
  rename_i h0
  have F := F h0
  split
  · exact stay
  split
  · unfold signalP
    repeat' split
    · exact stay
    · exact stay
    · exact tellGo_few S (by simp) F
    · exact stay
    · exact ⟨told1 (by simp), Nat.le_trans tellP_evs (by omega)⟩
  split
  · unfold takeP
    repeat' split
    · exact stay
    · exact ⟨told1 (by simp), Nat.le_trans tellP_evs (by omega)⟩
    · exact stay
    · exact stay
  split
  · unfold completeP
    repeat' split
    · exact stay
    · exact stay
    · exact tellGo_few S (by simp) F
  split
  · unfold failP
    repeat' split
    · exact stay
    · exact stay
    · exact failTry_few
  split
  · unfold fireP
    repeat' split
    · exact stay
    · exact failTry_few
    · exact tellGo_few S (by simp) F
  split
  · unfold kidP
    repeat' split
    · exact stay
    · exact ⟨breakP_told, Nat.le_trans breakP_evs (by omega)⟩
    · exact tellGo_few S (by simp) F
  split
  · unfold cancelP
    split
    · exact stay
    · exact ⟨endP_told, Nat.le_trans endP_evs (by omega)⟩
  · exact stay

/-- How much a state holds behind k inputs, of which any may be a start. -/
structure MOk (ns : List Nd) (k : Nat) (s : St) : Prop where
  met : Met ns s
  nod : s.nodes.length ≤ 32
  ev0 : 0 ≤ s.events
  ev1 : s.events ≤ 100 * (k : Int)
  sg : (s.sigs.length : Int) ≤ 100 * (k : Int)
  id : s.id.size ≤ 300

theorem MOk.next {k : Nat} {s : St} (h : MOk ns k s) : MOk ns (k + 1) s := ⟨h.met, h.nod, h.ev0, by have := h.ev1; omega, by have := h.sg; omega, h.id⟩

theorem MOk.small {k : Nat} {s : St} (h : MOk ns k s) (hk : k ≤ 200) : Small s := ⟨by have := h.nod; omega, by have := h.sg; omega, h.ev0, by have := h.ev1; omega, by have := h.id; omega⟩

theorem MOk.zero (ns : List Nd) : MOk ns 0 zeroSt := ⟨⟨fun y hy => (by cases hy), fun h => absurd rfl h⟩, by show 0 ≤ 32; omega, Int.le_refl _, Int.le_refl _, Int.le_refl _, by show 0 ≤ 300; omega⟩

theorem MOk.step (S : Sound ns) (hn : ns.length ≤ 32) {k : Nat} {s : St} (h : MOk ns k s) (q : Inp) (hq : q.name.size ≤ 300) : MOk ns (k + 1) (stepP nm ns s q).1.st := by
  have hM := doP_met (nm := nm) (ns := ns) (r := ⟨s, q.now, [], []⟩) q h.met
  by_cases h1 : q.kind = 1
  · by_cases h0 : s.status = 0
    · obtain ⟨s1, hs1⟩ : ∃ s1 : Rn, s1 = ⟨⟨nm, q.name, q.par, q.pnode, 1, s.text, List.replicate ns.length ⟨0, 0, ⟨#[]⟩⟩, s.sigs, s.events + 1⟩, q.now, [⟨1, q.pnode, q.par, 0⟩], []⟩ := ⟨_, rfl⟩
      have he : (stepP nm ns s q) = (goOnP nm ns s1, 0) := by
        unfold stepP doP
        rw [if_pos h1]
        unfold startP
        rw [if_neg (by show ¬ s.status ≠ 0; simp [h0])]
        have ht : tellP nm ns ({ (⟨s, q.now, [], []⟩ : Rn) with st := { s with id := q.name } }) ⟨1, q.pnode, q.par, 0⟩ [] = s1 := by
          rw [hs1]
          unfold tellP changeP
          rw [if_neg (by simp [h0])]
          rfl
        rw [ht]
      have F : Fine ns s1.st := by
        rw [hs1]
        refine ⟨by show (List.replicate ns.length _).length = _; simp, fun y hy _ => ?_⟩
        have : y ∈ List.replicate ns.length (⟨0, 0, ⟨#[]⟩⟩ : Ns) := hy
        rw [List.mem_replicate] at this
        rw [this.2]
      have hC := (goOnP_told (nm := nm) (ns := ns) (r := s1)).count
      have hL := goOnP_few (nm := nm) S F
      have hG := (goP_keeps (nm := nm) (ns := ns) (restC s1.st.nodes + 1) s1 F.bare).2
      have e1 : s1.st.events = s.events + 1 := by rw [hs1]
      have e2 : s1.evs.length = 1 := by rw [hs1]; rfl
      have e3 : s1.st.sigs = s.sigs := by rw [hs1]
      have e4 : s1.st.id = q.name := by rw [hs1]
      rw [e1, e2, e3] at hC
      rw [e2] at hL
      obtain ⟨c1, c2, c3⟩ := hC
      have a1 := h.ev0
      have a2 := h.ev1
      have a3 := h.sg
      have hM' : Met ns (goOnP nm ns s1).st := by have h := hM; show Met ns (goOnP nm ns s1).st; have e := congrArg (fun p => p.1.st) he; have e' : (doP nm ns ⟨s, q.now, [], []⟩ q).1.st = (goOnP nm ns s1).st := e; rw [e'] at h; exact h
      rw [he]
      refine ⟨hM', ?_, by show 0 ≤ (goOnP nm ns s1).st.events; omega, by show (goOnP nm ns s1).st.events ≤ _; omega, by show ((goOnP nm ns s1).st.sigs.length : Int) ≤ _; omega, ?_⟩
      · have hl : (goOnP nm ns s1).st.nodes.length = s1.st.nodes.length := hG.len
        show (goOnP nm ns s1).st.nodes.length ≤ 32
        rw [hl, F.len]
        exact hn
      · have hi : (goOnP nm ns s1).st.id = s1.st.id := hG.id
        show (goOnP nm ns s1).st.id.size ≤ 300
        rw [hi, e4]
        exact hq
    · have he : stepP nm ns s q = (⟨s, q.now, [], []⟩, 7) := by
        unfold stepP doP
        rw [if_pos h1]
        unfold startP
        rw [if_pos h0]
      rw [he]
      exact h.next
  · have hB := doP_few (nm := nm) S (r := ⟨s, q.now, [], []⟩) q h1 (fun h0 => ⟨h.met.2 h0, h.met.1⟩)
    have hK := doP_keeps (nm := nm) (ns := ns) (r := ⟨s, q.now, [], []⟩) q h1 h.met.1
    obtain ⟨c1, c2, c3⟩ := hB.1.count
    have hl : (stepP nm ns s q).1.evs.length ≤ 0 + 2 * ns.length + 3 := hB.2
    have c1' : (stepP nm ns s q).1.st.events - (stepP nm ns s q).1.evs.length = s.events - ((0 : Nat) : Int) := c1
    have c2' : ((stepP nm ns s q).1.st.sigs.length : Int) - (stepP nm ns s q).1.evs.length ≤ (s.sigs.length : Int) - ((0 : Nat) : Int) := c2
    have a1 := h.ev0
    have a2 := h.ev1
    have a3 := h.sg
    have hlen : (stepP nm ns s q).1.st.nodes.length = s.nodes.length := hK.2.len
    have hid : (stepP nm ns s q).1.st.id = s.id := hK.2.id
    exact ⟨hM, by rw [hlen]; exact h.nod, by omega, by omega, by omega, by rw [hid]; exact h.id⟩

end

end Go.Proofs.YtfjekjbkifmpfaaDoor

/-
  What the laws of history do with a definition ahead of all: it is cut, and checked.
-/
namespace Go.Proofs.YtfjekjbkifmpfaaDoor
open Go.RowKit

set_option maxRecDepth 100000 in
set_option maxHeartbeats 400000 in
theorem within_wide (w : World) (k m : Int) (hm : 0 < m) (hm2 : m ≤ 4503599627370496) :
    Calls Tryd.prog 18 #[.int .i64 k, .int .i64 m] w fun e w' => e = .returned (.int .i64 (k % m)) ∧ w' = w := by
  have h1 := Int.emod_nonneg k (by omega : m ≠ 0)
  have h2 := Int.emod_lt_of_pos k hm
  have hmz : (m == 0) = false := by simp; omega
  by_cases h : k.tmod m < 0
  · have e := tmod_emod_neg hm h
    have HE : Hid (k.tmod m + m = k % m) := e
    have hlo : -m ≤ k.tmod m := by omega
    clear e h1 h2
    go_enter Tryd.func18, Tryd.ntmps18
    go_wp2
    go_ret
    exact ⟨ret_int HE.out, rfl⟩
  · have e := tmod_emod_pos (n := k) hm (by omega)
    have HE : Hid (k.tmod m = k % m) := e
    clear e h1 h2
    go_enter Tryd.func18, Tryd.ntmps18
    go_wp2
    go_ret
    exact ⟨ret_int HE.out, rfl⟩

theorem RawAt.take {w : World} {a : Option Addr} {ns : List Nd} (C : RawAt w a ns) (k : Nat) : RawAt w a (ns.take k) := by
  refine ⟨fun n h => C.1 n (List.mem_of_mem_take h), ?_⟩
  rcases C.2 with h | ⟨b, o, h, hc⟩
  · exact .inl (by rw [h]; simp)
  · refine .inr ⟨b, o, h, fun i hi => ?_⟩
    have hi' : i < ns.length := by rw [List.length_take] at hi; omega
    have e : (ns.take k)[i] = ns[i] := List.getElem_take
    rw [e]
    exact hc i hi'

theorem pairF {w : World} {b : Nat} {T : TypeId} {u0 u1 : Value} (h : w.heap[b]? = some (.cells #[u0, u1] T (0, 0))) : (w.cell? ⟨b, 0, none⟩ = some u0 ∧ w.cell? ⟨b, 1, none⟩ = some u1) ∧ w.frozen? ⟨b, 0, none⟩ = false ∧ w.frozen? ⟨b, 1, none⟩ = false := by
  simp [World.cell?, World.frozen?, h]

theorem pairPut {w : World} {b : Nat} {T : TypeId} {u0 u1 : Value} (h : w.heap[b]? = some (.cells #[u0, u1] T (0, 0))) (v0 v1 : Value) : ((w.setCell ⟨b, 0, none⟩ v0).setCell ⟨b, 1, none⟩ v1).heap[b]? = some (.cells #[v0, v1] T (0, 0)) := by
  simp [World.setCell, Array.getElem?_modify, h]

set_option maxRecDepth 100000 in
set_option maxHeartbeats 1000000 in
theorem hcut_any (w : World) (name : ByteArray) (a : Option Addr) (n c : Nat) (ns : List Nd) (hl : ns.length = n) (hc : n ≤ c) :
    Calls Tryd.prog 9 #[.agg #[.string name, .slice a n c]] w fun e w' => e = .returned (.agg #[.string name, .slice a (ns.take 32).length c]) ∧ Kept (fun _ => False) w w' := by
  subst hl
  by_cases h : 32 < ns.length
  · have e : (ns.take 32).length = 32 := by rw [List.length_take]; omega
    rw [e]
    have e1 : (32 : Int) < (ns.length : Int) := by omega
    have e2 : (32 : Int) ≤ (c : Int) := by omega
    go_enter Tryd.func9, Tryd.ntmps9
    go_wp2
    refine bodyPost_ret (by simp [results, Tryd.results9, go_sem]; try rfl) rfl ?_
    exact ⟨rfl, (Kept.alloc _ _ _).and (Kept.alloc _ _ _)⟩
  · have e : ns.take 32 = ns := List.take_of_length_le (by omega)
    rw [e]
    have e1 : ¬ (32 : Int) < (ns.length : Int) := by omega
    go_enter Tryd.func9, Tryd.ntmps9
    go_wp2
    refine bodyPost_ret (by simp [results, Tryd.results9, go_sem]; try rfl) rfl ?_
    exact ⟨rfl, (Kept.alloc _ _ _).and (Kept.alloc _ _ _)⟩

set_option maxRecDepth 100000 in
set_option maxHeartbeats 1000000 in
theorem taken_any (w : World) (name : ByteArray) (a : Option Addr) (n c : Nat) (ns : List Nd) (hN : RawAt w a ns) (hl : ns.length = n) (hn : n ≤ 32) (hnm : name.size ≤ maxLen) (b : Bool) (hb : decide ((checkP name ns).2 = 0) = b) :
    Calls Tryd.prog 10 #[.agg #[.string name, .slice a n c]] w fun e w' => e = .returned (.bool b) ∧ Kept (fun _ => False) w w' := by
  subst hl
  have hC := refCheck_wide (w.alloc (.cells #[.string name, .slice a ns.length c] 24)) name a c ns (keptRaw (Kept.alloc _ _ _) hN) (by omega) hnm
  have hb2 : ((checkP name ns).2 == 0) = b := by rw [← hb]; by_cases h : (checkP name ns).2 = 0 <;> simp [h]
  clear hb
  generalize (checkP name ns).1 = z at *
  generalize (checkP name ns).2 = e0 at *
  go_enter Tryd.func10, Tryd.ntmps10
  go_wp2_with (first
    | (go_at_call 30; refine hC.mono ?_; rintro e w1 ⟨rfl, K1⟩; clear hC)
    | fail)
  go_ret
  exact ⟨rfl, (Kept.alloc _ _ _).and K1⟩

/-- The law's own box of its definition, filled with the cut one. -/
theorem cut_box {w w1 : World} {name : ByteArray} {a : Option Addr} {n c n' : Nat} {ns : List Nd} (K1 : Kept (fun _ => False) (w.alloc (.cells #[.string name, .slice a n c] 24)) w1) (R : RawAt w a ns) :
    ((w1.setCell ⟨w.heap.size, 0, none⟩ (.string name)).setCell ⟨w.heap.size, 1, none⟩ (.slice a n' c)).heap[w.heap.size]? = some (.cells #[.string name, .slice a n' c] 24 (0, 0)) ∧
    Kept (fun _ => False) w ((w1.setCell ⟨w.heap.size, 0, none⟩ (.string name)).setCell ⟨w.heap.size, 1, none⟩ (.slice a n' c)) ∧ RawAt ((w1.setCell ⟨w.heap.size, 0, none⟩ (.string name)).setCell ⟨w.heap.size, 1, none⟩ (.slice a n' c)) a ns := by
  have K : Kept (fun _ => False) w ((w1.setCell ⟨w.heap.size, 0, none⟩ (.string name)).setCell ⟨w.heap.size, 1, none⟩ (.slice a n' c)) := ((Kept.alloc _ _ _).and K1).trans (S' := fun j => j = w.heap.size) ((Kept.setCell (S := fun j => j = w.heap.size) w1 ⟨w.heap.size, 0, none⟩ _ rfl).and (Kept.setCell (S := fun j => j = w.heap.size) _ ⟨w.heap.size, 1, none⟩ _ rfl)) (fun i h => .inr (by omega))
  refine ⟨pairPut ((K1.block w.heap.size (by simp) (fun h => h)).trans (heap_alloc_new _ _)) _ _, K, keptRaw K R⟩

/-- What is taken, is sound. -/
theorem Taken.sound {name : ByteArray} {ns : List Nd} (T : Taken name ns) : Sound ns := by
  refine ⟨fun i x hx => ?_, fun x hx => ?_⟩
  · obtain ⟨hi, rfl⟩ := List.getElem?_eq_some_iff.1 hx
    have h2 := (nodeE_ok (T.nod i hi)).2.1
    obtain ⟨j, hj⟩ := Option.isSome_iff_exists.1 (findP_mem (List.getElem_mem hi))
    rw [hj] at h2
    simp at h2
    by_cases e : j = i
    · rw [hj, e]
    · exact absurd rfl (findP_first hj (j := i) (by omega))
  · obtain ⟨i, hi, rfl⟩ := List.mem_iff_getElem.1 hx
    have h3 := (nodeE_ok (T.nod i hi)).2.2
    unfold fitsP at h3
    split at h3
    · cases h3
    split at h3
    · rename_i h; have := eq_of_beq h; omega
    split at h3
    · rename_i h; have := eq_of_beq h; omega
    split at h3
    · rename_i h
      rw [Bool.or_eq_true] at h
      rcases h with h | h <;> (have := eq_of_beq h; omega)
    split at h3
    · rename_i h; have := eq_of_beq h; omega
    · cases h3

theorem madeP_size {s l : ByteArray} {m : Int} (h : madeP s l m = true) : (s.size : Int) ≤ m := by
  unfold madeP at h
  simp only [Bool.and_eq_true, decide_eq_true_eq] at h
  exact h.1.2

theorem Taken.names {name : ByteArray} {ns : List Nd} (T : Taken name ns) : ∀ x ∈ ns, x.name.size ≤ 64 := by
  intro x hx
  obtain ⟨i, hi, rfl⟩ := List.mem_iff_getElem.1 hx
  have h1 := (nodeE_ok (T.nod i hi)).1
  unfold namedP at h1
  simp only [Bool.and_eq_true] at h1
  have h2 := madeP_size h1.1.1
  omega

theorem Taken.afters {name : ByteArray} {ns : List Nd} (T : Taken name ns) : ∀ n ∈ ns, n.after.length ≤ 1000000 := by
  intro n hn
  obtain ⟨i, hi, rfl⟩ := List.mem_iff_getElem.1 hn
  have h1 := afterE_ok (T.aft i hi)
  have h2 := few_found h1.1 h1.2
  have h3 := T.hi
  omega

/-- The definition that is taken, for Step. -/
theorem Taken.at {w : World} {name : ByteArray} {a : Option Addr} {ns : List Nd} (T : Taken name ns) (R : RawAt w a ns) (M : MovesAt w) : DefAt w a ns := by
  refine ⟨R.nodes T.afters, by have := T.hi; omega, fun b o h => ?_, fun x hx => by have := T.names x hx; omega, M⟩
  obtain ⟨b', o', av, cv, e, _, h0, _⟩ := R.at (i := 0) (by have := T.lo; omega)
  rw [h] at e
  simp only [Option.some.injEq, Addr.mk.injEq, and_true] at e
  obtain ⟨rfl, rfl⟩ := e
  exact World.block_lt_of_cell? w _ h0

end Go.Proofs.YtfjekjbkifmpfaaDoor

/-
  How much a run holds behind an input: events, tasks, nodes, signals.
-/
namespace Go.Proofs.YtfjekjbkifmpfaaDoor.Rf
open Go.RowKit

section
variable {nm : ByteArray} {ns : List Nd}

theorem goP_fit (hn : ns.length ≤ 1000000) : ∀ (f : Nat) (r : Rn) (m : Nat), Fit r m → Fit (goP nm ns f r) (m + f * (ns.length * (ns.length + 3)) + ns.length + 2)
  | 0, r, m, F => fit_more F (by omega)
  | f + 1, r, m, F => by
    have hl : (goReady ns r).length ≤ ns.length := rdyL_len _ _ _ _
    have hR := goRow_fit (nm := nm) hn (goReady ns r) r m F
    have hm : (goReady ns r).length * (ns.length + 3) ≤ ns.length * (ns.length + 3) := Nat.mul_le_mul_right _ hl
    have hs : (f + 1) * (ns.length * (ns.length + 3)) = f * (ns.length * (ns.length + 3)) + ns.length * (ns.length + 3) := Nat.succ_mul _ _
    unfold goP
    cases hg : goRow nm ns r (goReady ns r) with
    | mk r1 w =>
      rw [hg] at hR
      cases w with
      | stop => exact fit_more hR (by omega)
      | again => exact fit_more (goP_fit hn f r1 _ hR) (by omega)
      | through =>
        dsimp only
        split
        · exact fit_more (endP_fit hR hn _ _) (by omega)
        · exact fit_more hR (by omega)

theorem tellGo_fit (hn : ns.length ≤ 64) {r : Rn} {m : Nat} (F : Fit r m) (h6 : r.st.nodes.length ≤ 64) (e : Ev) : Fit (goOnP nm ns (tellP nm ns r e [])) (m + 300000) := by
  have F1 := tellP_fit (nm := nm) (ns := ns) F (by omega) e []
  have hl := tellP_len (nm := nm) (r := r) (e := e) (ts := []) hn h6
  have hr := restC_len (tellP nm ns r e []).st.nodes
  have hb : (restC (tellP nm ns r e []).st.nodes + 1) * (ns.length * (ns.length + 3)) ≤ 65 * (64 * 67) := Nat.mul_le_mul (by omega) (Nat.mul_le_mul hn (by omega))
  exact fit_more (goP_fit (nm := nm) (by omega) _ _ _ F1) (by simp only [List.length_nil]; omega)

theorem failTry_fit (hn : ns.length ≤ 64) {r : Rn} {m : Nat} (F : Fit r m) {i : Nat} {tx : ByteArray} : Fit (failTryP nm ns r i tx) (m + 300000) := by
  unfold failTryP
  repeat' split
  · exact fit_more (breakP_fit F (by omega) _ _) (by omega)
  · exact fit_more (tellP_fit F (by omega) _ _) (by simp only [List.length_cons, List.length_nil]; omega)
  · exact fit_more F (by omega)

theorem doP_fit (hn : ns.length ≤ 64) {r : Rn} {m : Nat} (F : Fit r m) (h6 : r.st.nodes.length ≤ 64) (q : Inp) (hq : q.name.size ≤ 100000000) : Fit (doP nm ns r q).1 (m + 300000) := by
  have stay : Fit r (m + 300000) := fit_more F (by omega)
  unfold doP
  split
  · unfold startP
    split
    · exact stay
    · exact tellGo_fit (r := { r with st := { r.st with id := q.name } }) hn ⟨hq, F.nodes, F.sigs, F.ev0, F.ev1, F.evs, F.tks⟩ h6 _
  split
  · exact stay
  split
  · exact stay
  split
  · unfold signalP
    repeat' split
    · exact stay
    · exact stay
    · exact tellGo_fit hn F h6 _
    · exact stay
    · exact fit_more (tellP_fit F (by omega) _ _) (by simp only [List.length_nil]; omega)
  split
  · unfold takeP
    repeat' split
    · exact stay
    · refine fit_more (tellP_fit F (by omega) _ _) ?_
      unfold alarmL
      split <;> simp only [List.length_cons, List.length_nil] <;> omega
    · exact stay
    · exact stay
  split
  · unfold completeP
    repeat' split
    · exact stay
    · exact stay
    · exact tellGo_fit hn F h6 _
  split
  · unfold failP
    repeat' split
    · exact stay
    · exact stay
    · exact failTry_fit hn F
  split
  · unfold fireP
    repeat' split
    · exact stay
    · exact failTry_fit hn F
    · exact tellGo_fit hn F h6 _
  split
  · unfold kidP
    repeat' split
    · exact stay
    · exact fit_more (breakP_fit F (by omega) _ _) (by omega)
    · exact tellGo_fit hn F h6 _
  split
  · unfold cancelP
    split
    · exact stay
    · exact fit_more (endP_fit F (by omega) _ _) (by omega)
  · exact stay

theorem stepP_fit (hn : ns.length ≤ 64) {s : St} (Z : Small s) (q : Inp) (hq : q.name.size ≤ 100000000) : Fit (stepP nm ns s q).1 400000 :=
  doP_fit (r := ⟨s, q.now, [], []⟩) (m := 100000) hn ⟨Z.idsz, by show s.nodes.length ≤ _; have := Z.nodes; omega, Z.sigs, Z.ev0, by show s.events ≤ _; have := Z.ev1; omega, Nat.zero_le _, Nat.zero_le _⟩ Z.nodes q hq

end

end Go.Proofs.YtfjekjbkifmpfaaDoor.Rf
