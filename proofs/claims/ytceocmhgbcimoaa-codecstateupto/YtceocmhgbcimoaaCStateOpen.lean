/-
  A state by value, opened.
-/
import Derived.Test.YtceocmhgbcimoaaCStateW
import Derived.Test.YtceocmhgbcimoaaRows
import Derived.Lib.SmallJoins
import Derived.JoinedCond
import Derived.Deep.Slices
namespace Go.Proofs.Ytceocmhgbcimoaa
open Go.ChangeShapes Go.WideShapes Go.ChangeAt Go.RowKit

def nodeData (H : Type) (x : NodeD) : DataW H := .agg [.lit (.int .i64 x.1), .lit (.int .i64 x.2.1), .lit (.string x.2.2.data.toList)]

set_option maxRecDepth 100000 in
theorem open_node {H : Type} {enc : TypeId × Value → H} {W : World} {base : Nat} {spare : TypeId → Bool} {held : Bool} {fuel : Nat} {cs : List Value} {x : DataW H × List MemPlace} (h : DataW.trod enc Try.prog W base spare held fuel 122 cs = some x) (hl : cs.length = 3) : ∃ o : NodeD, cs = nodeC o ∧ x.1 = nodeData H o := by
  match cs, hl with
  | [c0, c1, c2], _ =>
    have kS : Try.prog.cellsOf 9 = 1 := by kernel_rfl
    have kI : Try.prog.cellsOf 3 = 1 := by kernel_rfl
    obtain ⟨ys, n, _, rfl, hl, hlen, hf⟩ := DataW.trod_struct Try.underlying122 h
    match ys, hlen with
    | [z0, z1, z2], _ =>
      have t0 : DataW.trod enc Try.prog W base spare held n 3 [c0] = some z0 := by simpa [kI] using hf 0 _ rfl
      have t1 : DataW.trod enc Try.prog W base spare held n 3 [c1] = some z1 := by simpa [kI] using hf 1 _ rfl
      have t2 : DataW.trod enc Try.prog W base spare held n 9 [c2] = some z2 := by simpa [kS] using hf 2 _ rfl
      obtain ⟨x0, e0, rfl, _⟩ := DataW.trod_int Try.underlying3 t0
      obtain ⟨x1, e1, rfl, _⟩ := DataW.trod_int Try.underlying3 t1
      obtain ⟨x2, e2, rfl, _⟩ := DataW.trod_string Try.underlying9 t2
      simp only [List.cons.injEq, and_true] at e0 e1 e2
      subst e0 e1 e2
      exact ⟨(x0, x1, x2), rfl, rfl⟩

theorem bulk_nodes {H : Type} (l : List NodeD) : bulkL nodeB l ≤ 8 * Rows.uptoBulkAll (l.map (nodeData H)) ∧ 4 * l.length ≤ Rows.uptoBulkAll (l.map (nodeData H)) ∧ ∀ o ∈ l, o.2.2.size ≤ Rows.uptoBulkAll (l.map (nodeData H)) := by
  induction l with
  | nil => exact ⟨Nat.zero_le _, Nat.zero_le _, fun o h => by cases h⟩
  | cons o l ih =>
    obtain ⟨h1, h2, h3⟩ := ih
    have e : Rows.uptoBulkAll ((o :: l).map (nodeData H)) = (o.2.2.size + 4) + Rows.uptoBulkAll (l.map (nodeData H)) := by
      have e0 : o.2.2.data.toList.length = o.2.2.size := Array.length_toList
      simp only [List.map_cons, Rows.uptoBulkAll, nodeData, Rows.uptoBulk, e0]
      omega
    rw [e]
    refine ⟨?_, ?_, ?_⟩
    · simp only [bulkL, nodeB]; omega
    · rw [List.length_cons]; omega
    · intro q hq
      rcases List.mem_cons.1 hq with rfl | hq
      · omega
      · have := h3 q hq
        omega

set_option maxRecDepth 100000 in
theorem open_nodes {H : Type} {enc : TypeId × Value → H} {W : World} {base : Nat} {spare : TypeId → Bool} {held : Bool} {fuel : Nat} {v : Value} {x : DataW H × List MemPlace} (hf : DataW.trod enc Try.prog W base spare held fuel 69 [v] = some x) :
    ∃ a n c xs, v = .slice a n c ∧ RowAt 3 nodeC W a n c xs ∧ bulkL nodeB xs ≤ 8 * Rows.uptoBulk x.1 ∧ 4 * n ≤ Rows.uptoBulk x.1 ∧ ∀ o ∈ xs, o.2.2.size ≤ Rows.uptoBulk x.1 := by
  have kO : Try.prog.cellsOf 122 = 3 := by kernel_rfl
  rcases Deep.open_slice Try.underlying69 hf with ⟨hcs, hx⟩ | ⟨a, len, cap, m, n, D, Pl, hcs, hb, hl, hm, hmm, hx, hel⟩
  · simp only [List.cons.injEq, and_true] at hcs
    subst hcs
    exact ⟨none, 0, 0, [], rfl, rowAt_nil _, Nat.zero_le _, Nat.zero_le _, fun o h => by cases h⟩
  · simp only [List.cons.injEq, and_true] at hcs
    subst hcs
    have hlm : len ≤ m := by rw [hmm]; split <;> omega
    have each : ∀ i, i < len → ∃ o : NodeD, D i = nodeData H o ∧ ∀ j, j < 3 → W.cell? (a.add (i * 3 + j)) = (nodeC o)[j]? := by
      intro i hi
      obtain ⟨cs', h1, h2⟩ := hel i (by omega)
      rw [kO] at h1
      obtain ⟨_, hlen, hcell⟩ := World.cells?_some h1
      obtain ⟨o, rfl, e⟩ := open_node h2 hlen
      refine ⟨o, e, fun j hj => ?_⟩
      rw [← Deep.add_add]
      exact hcell j hj
    haveI : Inhabited NodeD := ⟨(0, 0, ⟨#[]⟩)⟩
    obtain ⟨q, hq⟩ := Deep.choose_lt each
    have hmap : (List.range len).map D = ((List.range len).map q).map (nodeData H) := by
      rw [List.map_map]
      exact List.map_congr_left (fun i hi => (hq i (List.mem_range.1 hi)).1)
    have hd : x.1 = .slice (((List.range len).map q).map (nodeData H)) ((List.range (m - len)).map fun j => D (len + j)) := by
      rw [hx, hmap]
    obtain ⟨b1, b2, b3⟩ := bulk_nodes (H := H) ((List.range len).map q)
    have hle : Rows.uptoBulkAll (((List.range len).map q).map (nodeData H)) ≤ Rows.uptoBulk x.1 := by rw [hd]; simp only [Rows.uptoBulk]; omega
    refine ⟨some a, len, cap, (List.range len).map q, rfl, ⟨by simp, hl, ?_, fun e => by cases e⟩, by omega, ?_, ?_⟩
    · intro ad e hn
      cases e
      have h00 := (hq 0 hn).2 0 (by decide)
      obtain ⟨u0, hu0⟩ : ∃ u, (nodeC (q 0))[0]? = some u := ⟨_, rfl⟩
      rw [hu0] at h00
      obtain ⟨b, off, rfl⟩ := addr_form (v := u0) (by simpa using h00)
      refine ⟨rfl, fun i o ho j u hu => ?_⟩
      obtain ⟨hi, rfl⟩ : i < len ∧ q i = o := by
        rw [List.getElem?_map] at ho
        by_cases hi : i < len
        · rw [List.getElem?_range hi] at ho
          exact ⟨hi, Option.some.inj ho⟩
        · rw [List.getElem?_eq_none (by simpa using hi)] at ho
          cases ho
      have hj : j < 3 := by rw [← nodeC_len (q i)]; exact (List.getElem?_eq_some_iff.1 hu).1
      have g := (hq i hi).2 j hj
      rw [Addr.add_lit, hu] at g
      rw [Nat.add_assoc]
      exact g
    · rw [List.length_map, List.length_range] at b2
      omega
    · intro o ho
      have := b3 o ho
      omega

def signalData (H : Type) (x : SignalD) : DataW H := .agg [.lit (.string x.1.data.toList), .lit (.string x.2.data.toList)]

set_option maxRecDepth 100000 in
theorem open_signal {H : Type} {enc : TypeId × Value → H} {W : World} {base : Nat} {spare : TypeId → Bool} {held : Bool} {fuel : Nat} {cs : List Value} {x : DataW H × List MemPlace} (h : DataW.trod enc Try.prog W base spare held fuel 128 cs = some x) (hl : cs.length = 2) : ∃ o : SignalD, cs = signalC o ∧ x.1 = signalData H o := by
  match cs, hl with
  | [c0, c1], _ =>
    have kS : Try.prog.cellsOf 9 = 1 := by kernel_rfl
    obtain ⟨ys, n, _, rfl, hl, hlen, hf⟩ := DataW.trod_struct Try.underlying128 h
    match ys, hlen with
    | [z0, z1], _ =>
      have t0 : DataW.trod enc Try.prog W base spare held n 9 [c0] = some z0 := by simpa [kS] using hf 0 _ rfl
      have t1 : DataW.trod enc Try.prog W base spare held n 9 [c1] = some z1 := by simpa [kS] using hf 1 _ rfl
      obtain ⟨x0, e0, rfl, _⟩ := DataW.trod_string Try.underlying9 t0
      obtain ⟨x1, e1, rfl, _⟩ := DataW.trod_string Try.underlying9 t1
      simp only [List.cons.injEq, and_true] at e0 e1
      subst e0 e1
      exact ⟨(x0, x1), rfl, rfl⟩

theorem bulk_signals {H : Type} (l : List SignalD) : bulkL signalB l ≤ 8 * Rows.uptoBulkAll (l.map (signalData H)) ∧ 3 * l.length ≤ Rows.uptoBulkAll (l.map (signalData H)) ∧ ∀ o ∈ l, o.1.size ≤ Rows.uptoBulkAll (l.map (signalData H)) ∧ o.2.size ≤ Rows.uptoBulkAll (l.map (signalData H)) := by
  induction l with
  | nil => exact ⟨Nat.zero_le _, Nat.zero_le _, fun o h => by cases h⟩
  | cons o l ih =>
    obtain ⟨h1, h2, h3⟩ := ih
    have e : Rows.uptoBulkAll ((o :: l).map (signalData H)) = (o.1.size + o.2.size + 3) + Rows.uptoBulkAll (l.map (signalData H)) := by
      have e0 : o.1.data.toList.length = o.1.size := Array.length_toList
      have e1 : o.2.data.toList.length = o.2.size := Array.length_toList
      simp only [List.map_cons, Rows.uptoBulkAll, signalData, Rows.uptoBulk, e0, e1]
      omega
    rw [e]
    refine ⟨?_, ?_, ?_⟩
    · simp only [bulkL, signalB]; omega
    · rw [List.length_cons]; omega
    · intro q hq
      rcases List.mem_cons.1 hq with rfl | hq
      · omega
      · have := h3 q hq
        omega

set_option maxRecDepth 100000 in
theorem open_signals {H : Type} {enc : TypeId × Value → H} {W : World} {base : Nat} {spare : TypeId → Bool} {held : Bool} {fuel : Nat} {v : Value} {x : DataW H × List MemPlace} (hf : DataW.trod enc Try.prog W base spare held fuel 70 [v] = some x) :
    ∃ a n c xs, v = .slice a n c ∧ RowAt 2 signalC W a n c xs ∧ bulkL signalB xs ≤ 8 * Rows.uptoBulk x.1 ∧ 3 * n ≤ Rows.uptoBulk x.1 ∧ ∀ o ∈ xs, o.1.size ≤ Rows.uptoBulk x.1 ∧ o.2.size ≤ Rows.uptoBulk x.1 := by
  have kO : Try.prog.cellsOf 128 = 2 := by kernel_rfl
  rcases Deep.open_slice Try.underlying70 hf with ⟨hcs, hx⟩ | ⟨a, len, cap, m, n, D, Pl, hcs, hb, hl, hm, hmm, hx, hel⟩
  · simp only [List.cons.injEq, and_true] at hcs
    subst hcs
    exact ⟨none, 0, 0, [], rfl, rowAt_nil _, Nat.zero_le _, Nat.zero_le _, fun o h => by cases h⟩
  · simp only [List.cons.injEq, and_true] at hcs
    subst hcs
    have hlm : len ≤ m := by rw [hmm]; split <;> omega
    have each : ∀ i, i < len → ∃ o : SignalD, D i = signalData H o ∧ ∀ j, j < 2 → W.cell? (a.add (i * 2 + j)) = (signalC o)[j]? := by
      intro i hi
      obtain ⟨cs', h1, h2⟩ := hel i (by omega)
      rw [kO] at h1
      obtain ⟨_, hlen, hcell⟩ := World.cells?_some h1
      obtain ⟨o, rfl, e⟩ := open_signal h2 hlen
      refine ⟨o, e, fun j hj => ?_⟩
      rw [← Deep.add_add]
      exact hcell j hj
    haveI : Inhabited SignalD := ⟨(⟨#[]⟩, ⟨#[]⟩)⟩
    obtain ⟨q, hq⟩ := Deep.choose_lt each
    have hmap : (List.range len).map D = ((List.range len).map q).map (signalData H) := by
      rw [List.map_map]
      exact List.map_congr_left (fun i hi => (hq i (List.mem_range.1 hi)).1)
    have hd : x.1 = .slice (((List.range len).map q).map (signalData H)) ((List.range (m - len)).map fun j => D (len + j)) := by
      rw [hx, hmap]
    obtain ⟨b1, b2, b3⟩ := bulk_signals (H := H) ((List.range len).map q)
    have hle : Rows.uptoBulkAll (((List.range len).map q).map (signalData H)) ≤ Rows.uptoBulk x.1 := by rw [hd]; simp only [Rows.uptoBulk]; omega
    refine ⟨some a, len, cap, (List.range len).map q, rfl, ⟨by simp, hl, ?_, fun e => by cases e⟩, by omega, ?_, ?_⟩
    · intro ad e hn
      cases e
      have h00 := (hq 0 hn).2 0 (by decide)
      obtain ⟨u0, hu0⟩ : ∃ u, (signalC (q 0))[0]? = some u := ⟨_, rfl⟩
      rw [hu0] at h00
      obtain ⟨b, off, rfl⟩ := addr_form (v := u0) (by simpa using h00)
      refine ⟨rfl, fun i o ho j u hu => ?_⟩
      obtain ⟨hi, rfl⟩ : i < len ∧ q i = o := by
        rw [List.getElem?_map] at ho
        by_cases hi : i < len
        · rw [List.getElem?_range hi] at ho
          exact ⟨hi, Option.some.inj ho⟩
        · rw [List.getElem?_eq_none (by simpa using hi)] at ho
          cases ho
      have hj : j < 2 := by rw [← signalC_len (q i)]; exact (List.getElem?_eq_some_iff.1 hu).1
      have g := (hq i hi).2 j hj
      rw [Addr.add_lit, hu] at g
      rw [Nat.add_assoc]
      exact g
    · rw [List.length_map, List.length_range] at b2
      omega
    · intro o ho
      have := b3 o ho
      omega

theorem array9 {α : Type} {cs : Array α} (h : cs.size = 9) : ∃ c0 c1 c2 c3 c4 c5 c6 c7 c8, cs = #[c0, c1, c2, c3, c4, c5, c6, c7, c8] := by
  obtain ⟨l⟩ := cs
  match l, h with
  | [c0, c1, c2, c3, c4, c5, c6, c7, c8], _ => exact ⟨c0, c1, c2, c3, c4, c5, c6, c7, c8, rfl⟩

set_option maxRecDepth 100000 in
theorem open_state {H : Type} {enc : TypeId × Value → H} {W : World} {base b0 : Nat} {r : Reach} {spare : TypeId → Bool} {held : Bool} {v : Value} {d : DataW H} {p : List MemPlace}
    (hv : Value.okWide Try.prog W r b0 72 v) (h : DataW.Trod enc Try.prog W base spare held 72 v d p) :
    ∃ (s0 s1 s2 s3 : ByteArray) (s4 : Int) (s5 : ByteArray) (an : Option Addr) (nn cn : Nat) (ns : List NodeD) (ag : Option Addr) (ng cg : Nat) (gs : List SignalD) (s8 : Int) (bn bg : Nat), v = .agg #[.string s0, .string s1, .string s2, .string s3, .int .i64 s4, .string s5, .slice an nn cn, .slice ag ng cg, .int .i64 s8] ∧ RowAt 3 nodeC W an nn cn ns ∧ RowAt 2 signalC W ag ng cg gs ∧ s0.size + s1.size + s2.size + s3.size + s5.size + bn + bg ≤ Rows.uptoBulk d ∧ bulkL nodeB ns ≤ 8 * bn ∧ bulkL signalB gs ≤ 8 * bg ∧ 4 * nn ≤ bn ∧ 3 * ng ≤ bg ∧ (∀ o ∈ ns, o.2.2.size ≤ bn) ∧ (∀ o ∈ gs, o.1.size ≤ bg ∧ o.2.size ≤ bg) := by
  obtain ⟨cs, rfl, hsz⟩ := okWide_struct Try.underlying72 hv
  obtain ⟨c0, c1, c2, c3, c4, c5, c6, c7, c8, rfl⟩ := array9 (hsz.trans (by kernel_rfl))
  have kI : Try.prog.cellsOf 3 = 1 := by kernel_rfl
  have kS : Try.prog.cellsOf 9 = 1 := by kernel_rfl
  have kN : Try.prog.cellsOf 69 = 1 := by kernel_rfl
  have kG : Try.prog.cellsOf 70 = 1 := by kernel_rfl
  obtain ⟨fuel, hf0⟩ := h
  obtain ⟨ys, n, _, hx, hl, hlen, hf⟩ := DataW.trod_struct Try.underlying72 hf0
  match ys, hlen with
  | [z0, z1, z2, z3, z4, z5, z6, z7, z8], _ =>
    have t0 : DataW.trod enc Try.prog W base spare held n 9 [c0] = some z0 := by simpa [Value.cells, kS] using hf 0 _ rfl
    have t1 : DataW.trod enc Try.prog W base spare held n 9 [c1] = some z1 := by simpa [Value.cells, kS] using hf 1 _ rfl
    have t2 : DataW.trod enc Try.prog W base spare held n 9 [c2] = some z2 := by simpa [Value.cells, kS] using hf 2 _ rfl
    have t3 : DataW.trod enc Try.prog W base spare held n 9 [c3] = some z3 := by simpa [Value.cells, kS] using hf 3 _ rfl
    have t4 : DataW.trod enc Try.prog W base spare held n 3 [c4] = some z4 := by simpa [Value.cells, kI] using hf 4 _ rfl
    have t5 : DataW.trod enc Try.prog W base spare held n 9 [c5] = some z5 := by simpa [Value.cells, kS] using hf 5 _ rfl
    have t6 : DataW.trod enc Try.prog W base spare held n 69 [c6] = some z6 := by simpa [Value.cells, kN] using hf 6 _ rfl
    have t7 : DataW.trod enc Try.prog W base spare held n 70 [c7] = some z7 := by simpa [Value.cells, kG] using hf 7 _ rfl
    have t8 : DataW.trod enc Try.prog W base spare held n 3 [c8] = some z8 := by simpa [Value.cells, kI] using hf 8 _ rfl
    obtain ⟨x0, e0, rfl, _⟩ := DataW.trod_string Try.underlying9 t0
    obtain ⟨x1, e1, rfl, _⟩ := DataW.trod_string Try.underlying9 t1
    obtain ⟨x2, e2, rfl, _⟩ := DataW.trod_string Try.underlying9 t2
    obtain ⟨x3, e3, rfl, _⟩ := DataW.trod_string Try.underlying9 t3
    obtain ⟨x4, e4, rfl, _⟩ := DataW.trod_int Try.underlying3 t4
    obtain ⟨x5, e5, rfl, _⟩ := DataW.trod_string Try.underlying9 t5
    obtain ⟨an, nn, cn, ns, rfl, ON, q1, q2, q3⟩ := open_nodes t6
    obtain ⟨ag, ng, cg, gs, rfl, OG, g1, g2, g3⟩ := open_signals t7
    obtain ⟨x8, e8, rfl, _⟩ := DataW.trod_int Try.underlying3 t8
    simp only [List.cons.injEq, and_true] at e0 e1 e2 e3 e4 e5 e8
    subst e0 e1 e2 e3 e4 e5 e8
    have hd : d = .agg [.lit (.string x0.data.toList), .lit (.string x1.data.toList), .lit (.string x2.data.toList), .lit (.string x3.data.toList), .lit (.int .i64 x4), .lit (.string x5.data.toList), z6.1, z7.1, .lit (.int .i64 x8)] := congrArg Prod.fst hx
    refine ⟨x0, x1, x2, x3, x4, x5, an, nn, cn, ns, ag, ng, cg, gs, x8, Rows.uptoBulk z6.1, Rows.uptoBulk z7.1, rfl, ON, OG, ?_, q1, g1, q2, g2, q3, g3⟩
    rw [hd]
    have e0 : x0.data.toList.length = x0.size := Array.length_toList
    have e1 : x1.data.toList.length = x1.size := Array.length_toList
    have e2 : x2.data.toList.length = x2.size := Array.length_toList
    have e3 : x3.data.toList.length = x3.size := Array.length_toList
    have e5 : x5.data.toList.length = x5.size := Array.length_toList
    simp only [Rows.uptoBulk, Rows.uptoBulkAll, e0, e1, e2, e3, e5]
    omega

end Go.Proofs.Ytceocmhgbcimoaa
