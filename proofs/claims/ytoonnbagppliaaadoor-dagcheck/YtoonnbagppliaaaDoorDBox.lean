/-
  A definition handed in by value; its box, written over by the cut one.
-/
import Derived.Test.YtoonnbagppliaaaDoorDLawCut2
namespace Go.Proofs.YtoonnbagppliaaaDoor
open Go.ChangeShapes Go.WideShapes Go.ChangeAt Go.RowKit Go.Deep

theorem array2 {α : Type} {cs : Array α} (h : cs.size = 2) : ∃ c0 c1, cs = #[c0, c1] := by
  obtain ⟨l⟩ := cs
  match l, h with
  | [c0, c1], _ => exact ⟨c0, c1, rfl⟩

set_option maxRecDepth 100000 in
theorem dv_open {H : Type} {enc : TypeId × Value → H} {W : World} {base b0 : Nat} {r : Reach} {held : Bool} {v : Value} {d : DataW H} {p : List MemPlace}
    (hv : Value.okWide Tryd.prog W r b0 25 v) (h : DataW.Trod enc Tryd.prog W base (fun _ => true) held 25 v d p) :
    ∃ (name : ByteArray) (a : Option Addr) (c : Nat) (ns : List Nd), v = .agg #[.string name, .slice a ns.length c] ∧ name.size ≤ maxLen ∧ ns.length ≤ c ∧ c ≤ maxLen ∧ RawAt W a ns := by
  obtain ⟨cs, rfl, hsz⟩ := okWide_struct Tryd.underlying25 hv
  obtain ⟨c0, c1, rfl⟩ := array2 (hsz.trans (by kernel_rfl))
  obtain ⟨fuel, hf⟩ := h
  obtain ⟨e0, e1, name, ns, e, R⟩ := def_open (cs := [c0, c1]) hf rfl
  obtain ⟨rfl, hn, a, c, rfl, h1, h2, h3⟩ := R
  simp only [List.cons.injEq, and_true] at e
  obtain ⟨rfl, rfl⟩ := e
  exact ⟨name, a, c, ns, rfl, hn, h1, h2, h3⟩

/-- The box of a definition is written over. -/
theorem NodesAt.boxed {w : World} {g n c n' c' : Nat} {name : ByteArray} {a a' : Option Addr} {ms : List Nd} (hb : w.heap[g]? = some (.cells #[.string name, .slice a n c] 25 (0, 0))) (N : NodesAt w a' ms) :
    NodesAt ((w.setCell ⟨g, 0, none⟩ (.string name)).setCell ⟨g, 1, none⟩ (.slice a' n' c')) a' ms := by
  have hcell : ∀ o, w.cell? ⟨g, o, none⟩ = (#[Value.string name, .slice a n c] : Array Value)[o]? := fun o => by simp [World.cell?, hb]
  have hb2 := put2 hb (.string name) (.slice a' n' c')
  have hnew : ((w.setCell ⟨g, 0, none⟩ (.string name)).setCell ⟨g, 1, none⟩ (.slice a' n' c')).cell? ⟨g, 0, none⟩ = some (.string name) := by simp [World.cell?, hb2]
  have hne : ∀ b o, b ≠ g → ((w.setCell ⟨g, 0, none⟩ (.string name)).setCell ⟨g, 1, none⟩ (.slice a' n' c')).cell? ⟨b, o, none⟩ = w.cell? ⟨b, o, none⟩ := fun b o h => World.cell?_of_block (((Below.heap_setCell _ _ _ _ (fun e => h e)).trans (Below.heap_setCell _ _ _ _ (fun e => h e))))
  refine ⟨N.1, ?_⟩
  rcases N.2 with h | ⟨b, o, h, hc⟩
  · exact .inl h
  · refine .inr ⟨b, o, h, fun i hi => ?_⟩
    obtain ⟨v, hv, hw⟩ := hc i hi
    have hbg : b ≠ g := by
      intro e
      subst e
      have h6 := hw 6 v rfl
      rw [hcell] at h6
      have := (Array.getElem?_eq_some_iff.1 h6).1
      simp at this
      omega
    refine ⟨v, ?_, fun j u hu => by rw [hne _ _ hbg]; exact hw j u hu⟩
    obtain ⟨a2, c2, e, h1, h2, h3, h4⟩ := hv
    refine ⟨a2, c2, e, h1, h2, ?_, h4⟩
    rcases h3 with h | ⟨b2, o2, h, hc2⟩
    · exact .inl h
    · refine .inr ⟨b2, o2, h, fun j u hu => ?_⟩
      have hx := hc2 j u hu
      by_cases e : b2 = g
      · subst e
        obtain ⟨s, rfl⟩ : ∃ s, u = .string s := by
          rw [List.getElem?_map] at hu
          cases hs : ((ms[i]).after)[j]? with
          | none => rw [hs] at hu; cases hu
          | some s => rw [hs] at hu; exact ⟨s, (Option.some.inj hu).symm⟩
        rw [hcell] at hx
        have hlt := (Array.getElem?_eq_some_iff.1 hx).1
        simp at hlt
        rcases Nat.eq_zero_or_pos (o2 + j) with e0 | e0
        · rw [e0] at hx ⊢
          rw [hnew]
          simpa using hx
        · obtain e1 : o2 + j = 1 := by omega
          rw [e1] at hx
          simp at hx
      · rw [hne _ _ e]; exact hx

/-- What the cut leaves behind it. -/
structure BoxSt (w W : World) (name : ByteArray) (a' : Option Addr) (m c' : Nat) (ms : List Nd) : Prop where
  b0 : W.heap[w.heap.size]? = some (.cells #[.string name, .slice a' m c'] 25 (0, 0))
  nodes : NodesAt W a' ms
  kept : Kept (fun _ => False) w W

theorem BoxSt.mk' {w w1 : World} {name : ByteArray} {a a' : Option Addr} {n c m c' : Nat} {ms : List Nd} (K : Kept (fun _ => False) (w.alloc (.cells #[.string name, .slice a n c] 25)) w1) (N : NodesAt w1 a' ms) :
    BoxSt w ((w1.setCell ⟨w.heap.size, 0, none⟩ (.string name)).setCell ⟨w.heap.size, 1, none⟩ (.slice a' m c')) name a' m c' ms := by
  have hb : w1.heap[w.heap.size]? = some (.cells #[.string name, .slice a n c] 25 (0, 0)) := by
    rw [K.block w.heap.size (by simp) (fun h => h)]
    exact heap_alloc_new _ _
  refine ⟨put2 hb _ _, N.boxed hb, ?_⟩
  have k2 : Kept (fun j => j = w.heap.size) w1 ((w1.setCell ⟨w.heap.size, 0, none⟩ (.string name)).setCell ⟨w.heap.size, 1, none⟩ (.slice a' m c')) := (Kept.setCell (S := fun j => j = w.heap.size) w1 ⟨w.heap.size, 0, none⟩ (.string name) rfl).and (Kept.setCell (S := fun j => j = w.heap.size) _ ⟨w.heap.size, 1, none⟩ _ rfl)
  exact ((Kept.alloc (fun _ => False) _ _).and K).trans k2 (fun i h => .inr (by omega))

end Go.Proofs.YtoonnbagppliaaaDoor
