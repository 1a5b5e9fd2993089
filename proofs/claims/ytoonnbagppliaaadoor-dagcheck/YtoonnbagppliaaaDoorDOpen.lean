/-
  A definition by value, and rows of them, opened: what a law is handed.
-/
import Derived.Test.YtoonnbagppliaaaDoorDCard
import Derived.Deep.Slices
namespace Go.Proofs.YtoonnbagppliaaaDoor
open Go.ChangeShapes Go.WideShapes Go.ChangeAt Go.RowKit Go.Deep

/-- Nodes that lie in a row at a; their Afters may be of any length. -/
def RawAt (w : World) (a : Option Addr) (ns : List Nd) : Prop := (∀ n ∈ ns, NdOk { n with after := [] }) ∧ (ns = [] ∨ ∃ b o, a = some ⟨b, o, none⟩ ∧ ∀ i (h : i < ns.length), ∃ v, TextsAt w v (ns[i]'h).after ∧ ∀ j u, (ndC (ns[i]'h) v)[j]? = some u → w.cell? ⟨b, o + i * 7 + j, none⟩ = some u)

theorem RawAt.kept {S : Nat → Prop} {w w' : World} {a : Option Addr} {ns : List Nd} (C : RawAt w a ns) (K : Kept S w w') (hS : ∀ k, k < w.heap.size → ¬ S k) : RawAt w' a ns := by
  refine ⟨C.1, ?_⟩
  rcases C.2 with h | ⟨b, o, h, hc⟩
  · exact .inl h
  · refine .inr ⟨b, o, h, fun i hi => ?_⟩
    obtain ⟨v, hv, hw⟩ := hc i hi
    refine ⟨v, hv.kept K hS, fun j u hu => ?_⟩
    exact keepC K (hw j u hu) hS

theorem RawAt.at {w : World} {a : Option Addr} {ns : List Nd} (C : RawAt w a ns) {i : Nat} (hi : i < ns.length) : ∃ b o av cv, a = some ⟨b, o, none⟩ ∧ TextsAt w (.slice av (ns[i]).after.length cv) (ns[i]).after ∧
    w.cell? ⟨b, o + i * 7, none⟩ = some (.string (ns[i]).name) ∧ w.cell? ⟨b, o + i * 7 + 1, none⟩ = some (.int .i64 (ns[i]).kind) ∧ w.cell? ⟨b, o + i * 7 + 2, none⟩ = some (.string (ns[i]).arg) ∧ w.cell? ⟨b, o + i * 7 + 3, none⟩ = some (.string (ns[i]).to) ∧
    w.cell? ⟨b, o + i * 7 + 4, none⟩ = some (.int .i64 (ns[i]).delay) ∧ w.cell? ⟨b, o + i * 7 + 5, none⟩ = some (.int .i64 (ns[i]).tries) ∧ w.cell? ⟨b, o + i * 7 + 6, none⟩ = some (.slice av (ns[i]).after.length cv) := by
  rcases C.2 with h | ⟨b, o, h, hc⟩
  · subst h; simp at hi
  · obtain ⟨v, hv, hw⟩ := hc i hi
    have hv2 := hv
    obtain ⟨av, cv, rfl, _⟩ := hv2
    exact ⟨b, o, av, cv, h, hv, hw 0 _ rfl, hw 1 _ rfl, hw 2 _ rfl, hw 3 _ rfl, hw 4 _ rfl, hw 5 _ rfl, hw 6 _ rfl⟩

/-- A definition's two cells. -/
def RawDef (w : World) (c0 c1 : Value) (name : ByteArray) (ns : List Nd) : Prop := c0 = .string name ∧ name.size ≤ maxLen ∧ ∃ a c, c1 = .slice a ns.length c ∧ ns.length ≤ c ∧ c ≤ maxLen ∧ RawAt w a ns

variable {H : Type} {enc : TypeId × Value → H} {W : World} {base : Nat} {held : Bool}

theorem texts_open {fuel : Nat} {v : Value} {x : DataW H × List MemPlace} (h : DataW.trod enc Tryd.prog W base (fun _ => true) held fuel 32 [v] = some x) : ∃ l, TextsAt W v l := by
  obtain ⟨a, len, cap, S, rfl, h1, h2, h3⟩ := strs_open Tryd.underlying32 Tryd.underlying9 (by kernel_rfl) h
  rcases h3 with rfl | ⟨b, o, rfl, hc⟩
  · exact ⟨[], a, cap, rfl, Nat.zero_le _, h2, .inl rfl, fun s hs => by cases hs⟩
  · refine ⟨(List.range len).map S, some ⟨b, o, none⟩, cap, by simp, by simpa using h1, h2, .inr ⟨b, o, rfl, fun j u hu => ?_⟩, fun s hs => ?_⟩
    · by_cases hj : j < len
      · simp [hj] at hu
        rw [← hu]
        exact (hc j hj).1
      · simp [hj] at hu
    · obtain ⟨i, hi, rfl⟩ := List.mem_map.1 hs
      exact (hc i (List.mem_range.1 hi)).2

set_option maxRecDepth 100000 in
theorem nd_open {fuel : Nat} {cs : List Value} {x : DataW H × List MemPlace} (h : DataW.trod enc Tryd.prog W base (fun _ => true) held fuel 34 cs = some x) (hl : cs.length = 7) :
    ∃ n v, cs = ndC n v ∧ TextsAt W v n.after ∧ NdOk { n with after := [] } := by
  match cs, hl with
  | [c0, c1, c2, c3, c4, c5, c6], _ =>
    have kS : Tryd.prog.cellsOf 9 = 1 := by kernel_rfl
    have kI : Tryd.prog.cellsOf 3 = 1 := by kernel_rfl
    have kL : Tryd.prog.cellsOf 32 = 1 := by kernel_rfl
    obtain ⟨ys, n, _, rfl, hl, hlen, hf⟩ := DataW.trod_struct Tryd.underlying34 h
    match ys, hlen with
    | [z0, z1, z2, z3, z4, z5, z6], _ =>
      have t0 : DataW.trod enc Tryd.prog W base (fun _ => true) held n 9 [c0] = some z0 := by simpa [kS] using hf 0 _ rfl
      have t1 : DataW.trod enc Tryd.prog W base (fun _ => true) held n 3 [c1] = some z1 := by simpa [kI] using hf 1 _ rfl
      have t2 : DataW.trod enc Tryd.prog W base (fun _ => true) held n 9 [c2] = some z2 := by simpa [kS] using hf 2 _ rfl
      have t3 : DataW.trod enc Tryd.prog W base (fun _ => true) held n 9 [c3] = some z3 := by simpa [kS] using hf 3 _ rfl
      have t4 : DataW.trod enc Tryd.prog W base (fun _ => true) held n 3 [c4] = some z4 := by simpa [kI] using hf 4 _ rfl
      have t5 : DataW.trod enc Tryd.prog W base (fun _ => true) held n 3 [c5] = some z5 := by simpa [kI] using hf 5 _ rfl
      have t6 : DataW.trod enc Tryd.prog W base (fun _ => true) held n 32 [c6] = some z6 := by simpa [kL] using hf 6 _ rfl
      obtain ⟨x0, e0, rfl, s0⟩ := DataW.trod_string Tryd.underlying9 t0
      obtain ⟨x1, e1, rfl, s1⟩ := DataW.trod_int Tryd.underlying3 t1
      obtain ⟨x2, e2, rfl, s2⟩ := DataW.trod_string Tryd.underlying9 t2
      obtain ⟨x3, e3, rfl, s3⟩ := DataW.trod_string Tryd.underlying9 t3
      obtain ⟨x4, e4, rfl, s4⟩ := DataW.trod_int Tryd.underlying3 t4
      obtain ⟨x5, e5, rfl, s5⟩ := DataW.trod_int Tryd.underlying3 t5
      obtain ⟨l, T⟩ := texts_open t6
      simp only [List.cons.injEq, and_true] at e0 e1 e2 e3 e4 e5
      subst e0 e1 e2 e3 e4 e5
      exact ⟨⟨x0, x1, x2, x3, x4, x5, l⟩, c6, rfl, T, ⟨s0, s2, s3, s1, s4, s5, Nat.zero_le _⟩⟩

set_option maxRecDepth 100000 in
theorem nds_open {fuel : Nat} {v : Value} {x : DataW H × List MemPlace} (h : DataW.trod enc Tryd.prog W base (fun _ => true) held fuel 23 [v] = some x) :
    ∃ a c ns, v = .slice a ns.length c ∧ ns.length ≤ c ∧ c ≤ maxLen ∧ RawAt W a ns := by
  have kO : Tryd.prog.cellsOf 34 = 7 := by kernel_rfl
  rcases Deep.open_slice Tryd.underlying23 h with ⟨hcs, hx⟩ | ⟨a, len, cap, m, n, D, Pl, hcs, hb, hl, hm, hmm, hx, hel⟩
  · simp only [List.cons.injEq, and_true] at hcs
    subst hcs
    exact ⟨none, 0, [], rfl, Nat.le_refl _, Nat.zero_le _, fun n h => (by cases h), .inl rfl⟩
  · simp only [List.cons.injEq, and_true] at hcs
    subst hcs
    have hlm : len ≤ m := by rw [hmm]; split <;> omega
    have each : ∀ i, i < len → ∃ o : Nd × Value, (TextsAt W o.2 o.1.after ∧ NdOk { o.1 with after := [] }) ∧ ∀ j, j < 7 → W.cell? (a.add (i * 7 + j)) = (ndC o.1 o.2)[j]? := by
      intro i hi
      obtain ⟨cs', h1, h2⟩ := hel i (by omega)
      rw [kO] at h1
      obtain ⟨_, hlen, hcell⟩ := World.cells?_some h1
      obtain ⟨o, v, rfl, T, O⟩ := nd_open h2 hlen
      refine ⟨(o, v), ⟨T, O⟩, fun j hj => ?_⟩
      rw [← Deep.add_add]
      exact hcell j hj
    haveI : Inhabited (Nd × Value) := ⟨(⟨⟨#[]⟩, 0, ⟨#[]⟩, ⟨#[]⟩, 0, 0, []⟩, undef)⟩
    obtain ⟨q, hq⟩ := Deep.choose_lt each
    rcases Nat.eq_zero_or_pos len with h0 | h0
    · subst h0
      exact ⟨some a, cap, [], rfl, Nat.zero_le _, hm, fun n h => (by cases h), .inl rfl⟩
    · have h00 := (hq 0 h0).2 0 (by decide)
      obtain ⟨u0, hu0⟩ : ∃ u, (ndC (q 0).1 (q 0).2)[0]? = some u := ⟨_, rfl⟩
      rw [hu0] at h00
      obtain ⟨b, off, rfl⟩ := addr_form (v := u0) (by simpa using h00)
      refine ⟨some ⟨b, off, none⟩, cap, (List.range len).map (fun i => (q i).1), by simp, by simpa using hl, hm, fun n h => ?_, .inr ⟨b, off, rfl, fun i hi => ?_⟩⟩
      · obtain ⟨i, hi, rfl⟩ := List.mem_map.1 h
        exact (hq i (List.mem_range.1 hi)).1.2
      · have hi' : i < len := by simpa using hi
        have e : ((List.range len).map (fun i => (q i).1))[i] = (q i).1 := by simp
        rw [e]
        refine ⟨(q i).2, (hq i hi').1.1, fun j u hu => ?_⟩
        have hj : j < 7 := (List.getElem?_eq_some_iff.1 hu).1
        have := (hq i hi').2 j hj
        rw [Addr.add_lit, hu] at this
        rw [← this]
        congr 2
        omega

set_option maxRecDepth 100000 in
theorem def_open {fuel : Nat} {cs : List Value} {x : DataW H × List MemPlace} (h : DataW.trod enc Tryd.prog W base (fun _ => true) held fuel 25 cs = some x) (hl : cs.length = 2) :
    ∃ c0 c1 name ns, cs = [c0, c1] ∧ RawDef W c0 c1 name ns := by
  match cs, hl with
  | [c0, c1], _ =>
    have kS : Tryd.prog.cellsOf 9 = 1 := by kernel_rfl
    have kL : Tryd.prog.cellsOf 23 = 1 := by kernel_rfl
    obtain ⟨y0, y1, n, hx, hl, h0, h1⟩ := trod_struct2 Tryd.underlying25 h
    have t0 : DataW.trod enc Tryd.prog W base (fun _ => true) held n 9 [c0] = some y0 := by simpa [kS] using h0
    have t1 : DataW.trod enc Tryd.prog W base (fun _ => true) held n 23 [c1] = some y1 := by simpa [kL] using h1
    obtain ⟨x0, e0, rfl, s0⟩ := DataW.trod_string Tryd.underlying9 t0
    obtain ⟨a, c, ns, rfl, q1, q2, R⟩ := nds_open t1
    simp only [List.cons.injEq, and_true] at e0
    subst e0
    exact ⟨_, _, x0, ns, rfl, rfl, s0, a, c, rfl, q1, q2, R⟩

end Go.Proofs.YtoonnbagppliaaaDoor
