/-
  Apply as the document has it, as data; it is the program's, where what is not over has no text.
-/
import Derived.Test.YtdecceekodpjiaaDoorHM1
import Derived.Test.YtdecceekodpjiaaDoorDM3
import Derived.Test.YtdecceekodpjiaaDoorHM5
namespace Go.Proofs.YtdecceekodpjiaaDoor
open Go.RowKit

/-- What an event makes of a node: how it stands, its text, the signals that are kept. -/
def moveR (sg : List Sg) (e : Ev) (n : Nd) (y : Ns) : Option (Int × ByteArray × List Sg) :=
  if e.kind = 2 ∧ n.kind = 1 ∧ y.status = 0 then some (1, ⟨#[]⟩, sg)
  else if e.kind = 3 ∧ n.kind = 1 ∧ y.status = 1 then some (2, ⟨#[]⟩, sg)
  else if e.kind = 5 ∧ n.kind = 1 ∧ y.status = 2 then some (1, ⟨#[]⟩, sg)
  else if e.kind = 4 ∧ n.kind = 1 ∧ y.status = 2 then some (3, e.text, sg)
  else if e.kind = 6 ∧ (y.status = 2 ∨ n.kind = 3 ∧ y.status = 0) then some (4, e.text, sg)
  else if e.kind = 7 ∧ n.kind = 2 ∧ y.status = 0 then some (2, ⟨#[]⟩, sg)
  else if e.kind = 8 ∧ n.kind = 2 ∧ y.status = 2 then some (3, ⟨#[]⟩, sg)
  else if e.kind = 9 ∧ n.kind = 3 ∧ y.status = 0 then some (2, ⟨#[]⟩, sg)
  else if e.kind = 10 ∧ n.kind = 3 ∧ y.status = 2 then some (3, e.text, sg)
  else if e.kind = 11 ∧ n.kind = 4 ∧ y.status = 0 then some (2, ⟨#[]⟩, sg)
  else if e.kind = 12 ∧ n.kind = 4 ∧ e.num = 0 ∧ y.status = 2 then some (3, e.text, sg)
  else if e.kind = 12 ∧ n.kind = 4 ∧ e.num = 1 ∧ y.status = 0 then (match keptP sg n.arg with | some k => some (3, e.text, sg.eraseIdx k) | none => none)
  else if e.kind = 14 ∧ n.kind = 5 ∧ y.status = 0 then some (3, ⟨#[]⟩, sg)
  else none

def applyR (nm : ByteArray) (ns : List Nd) (s : St) (e : Ev) : Option St :=
  if e.kind = 1 then (if s.status ≠ 0 then none else some { s with status := 1, dfn := nm, par := e.text, pnode := e.node, nodes := List.replicate ns.length ⟨0, 0, ⟨#[]⟩⟩, events := s.events + 1 })
  else if s.status ≠ 1 then none
  else if e.kind = 13 then some { s with sigs := s.sigs ++ [⟨e.node, e.text⟩], events := s.events + 1 }
  else if e.kind = 15 then (if e.num < 2 ∨ 4 < e.num then none else some { s with status := e.num, text := e.text, events := s.events + 1 })
  else match findP ns e.node with
    | none => none
    | some i => match ns[i]?, s.nodes[i]? with
      | some n, some y => (moveR s.sigs e n y).map (fun (p : Int × ByteArray × List Sg) => { s with nodes := s.nodes.modify i (fun x => ⟨p.1, if e.kind = 3 then e.num else x.tr, if p.2.1 ≠ ⟨#[]⟩ ∨ p.1 = 3 ∨ p.1 = 4 then p.2.1 else x.text⟩), sigs := p.2.2, events := s.events + 1 })
      | _, _ => none

/-- What is not over has no text. -/
def Bare (s : St) : Prop := ∀ y ∈ s.nodes, y.status = 0 ∨ y.status = 1 ∨ y.status = 2 → y.text = ⟨#[]⟩

theorem moveP_is (e k s : Int) : moveP e k s =
    if e = 2 ∧ s = 0 ∧ k = 1 then some ⟨2, 1, 0, 1, false⟩ else if e = 3 ∧ s = 1 ∧ k = 1 then some ⟨3, 1, 1, 2, false⟩ else if e = 5 ∧ s = 2 ∧ k = 1 then some ⟨5, 1, 2, 1, false⟩ else if e = 4 ∧ s = 2 ∧ k = 1 then some ⟨4, 1, 2, 3, true⟩
    else if e = 6 ∧ s = 2 then some ⟨6, 0, 2, 4, true⟩ else if e = 6 ∧ s = 0 ∧ k = 3 then some ⟨6, 3, 0, 4, true⟩ else if e = 7 ∧ s = 0 ∧ k = 2 then some ⟨7, 2, 0, 2, false⟩ else if e = 8 ∧ s = 2 ∧ k = 2 then some ⟨8, 2, 2, 3, false⟩
    else if e = 9 ∧ s = 0 ∧ k = 3 then some ⟨9, 3, 0, 2, false⟩ else if e = 10 ∧ s = 2 ∧ k = 3 then some ⟨10, 3, 2, 3, true⟩ else if e = 11 ∧ s = 0 ∧ k = 4 then some ⟨11, 4, 0, 2, false⟩ else if e = 12 ∧ s = 2 ∧ k = 4 then some ⟨12, 4, 2, 3, true⟩
    else if e = 12 ∧ s = 0 ∧ k = 4 then some ⟨12, 4, 0, 3, true⟩ else if e = 14 ∧ s = 0 ∧ k = 5 then some ⟨14, 5, 0, 3, false⟩ else none := by
  have hf : ∀ (m : Mv) (l : List Mv), (m :: l).find? (fun m => m.fits e k s) = if e = m.event ∧ s = m.src ∧ (k = m.kind ∨ m.kind = 0) then some m else l.find? (fun m => m.fits e k s) := fun m l => by
    rw [List.find?_cons]
    have hb : m.fits e k s = decide (e = m.event ∧ s = m.src ∧ (k = m.kind ∨ m.kind = 0)) := by
      unfold Mv.fits
      rw [Bool.eq_iff_iff]
      simp
      constructor
      · rintro ⟨rfl, rfl, h⟩; exact ⟨rfl, rfl, h.imp Eq.symm id⟩
      · rintro ⟨rfl, rfl, h⟩; exact ⟨rfl, rfl, h.imp Eq.symm id⟩
    rw [hb]
    by_cases h : e = m.event ∧ s = m.src ∧ (k = m.kind ∨ m.kind = 0)
    · rw [decide_eq_true h, if_pos h]
    · rw [decide_eq_false h, if_neg h]
  unfold moveP movesL
  rw [hf, hf, hf, hf, hf, hf, hf, hf, hf, hf, hf, hf, hf, hf, List.find?_nil]
  simp

theorem apply_same {nm : ByteArray} {ns : List Nd} {s : St} (hB : Bare s) (e : Ev) : applyR nm ns s e = changeP nm ns s e := by
  unfold applyR changeP
  by_cases h1 : e.kind = 1
  · rw [if_pos h1, if_pos h1, if_pos h1]
  · rw [if_neg h1, if_neg h1, if_neg h1]
    by_cases hs : s.status ≠ 1
    · rw [if_pos hs, if_pos hs]
    · rw [if_neg hs, if_neg hs]
      by_cases h13 : e.kind = 13
      · rw [if_pos h13, if_pos h13]
      · rw [if_neg h13, if_neg h13]
        by_cases h15 : e.kind = 15
        · rw [if_pos h15, if_pos h15]
          by_cases hn : e.num < 2 ∨ 4 < e.num
          · rw [if_pos hn, if_neg (by omega)]
          · rw [if_neg hn, if_pos (by omega)]
        · rw [if_neg h15, if_neg h15]
          unfold changeNodeP nodeMove argAt
          cases hf : findP ns e.node with
          | none => rfl
          | some i =>
            dsimp only
            cases hn : ns[i]? with
            | none => rfl
            | some n =>
              cases hy : s.nodes[i]? with
              | none => rfl
              | some y =>
                dsimp only
                have hb := hB y (List.mem_of_getElem? hy)
                have hset : ∀ (st : Int) (tx : ByteArray) (b : Bool) (m : Mv), m.dst = st → m.txt = b → ((b = true ∧ (tx = e.text) ∧ (st = 3 ∨ st = 4)) ∨ (b = false ∧ tx = ⟨#[]⟩ ∧ y.text = ⟨#[]⟩)) →
                    s.nodes.modify i (fun x => ⟨st, if e.kind = 3 then e.num else x.tr, if tx ≠ ⟨#[]⟩ ∨ st = 3 ∨ st = 4 then tx else x.text⟩) = setNode s.nodes i m e := fun st tx b m hm hb2 h => by
                  unfold setNode
                  subst hm hb2
                  apply List.ext_getElem?
                  intro j
                  rw [List.getElem?_modify, List.getElem?_modify]
                  by_cases hj : i = j
                  · subst hj
                    rw [hy]
                    simp only [if_true, Option.map_eq_map, Option.map_some, Option.some.injEq, Ns.mk.injEq, true_and]
                    rcases h with ⟨h1, h2, h3⟩ | ⟨h1, h2, h3⟩
                    · rw [h1, h2, if_pos (.inr h3), if_pos rfl]
                    · rw [h1, h2, h3]
                      by_cases hh : ((⟨#[]⟩ : ByteArray) ≠ ⟨#[]⟩) ∨ m.dst = 3 ∨ m.dst = 4
                      · rw [if_pos hh]; simp
                      · rw [if_neg hh]; simp
                  · simp [hj]
                rw [moveP_is]
                unfold moveR
                by_cases c1 : e.kind = 2 ∧ n.kind = 1 ∧ y.status = 0
                · rw [if_pos c1, if_pos (c := e.kind = 2 ∧ y.status = 0 ∧ n.kind = 1) ⟨c1.1, c1.2.2, c1.2.1⟩]
                  dsimp only [Option.map_some]
                  rw [if_neg (by rw [c1.1]; decide)]
                  dsimp only [Option.map_some]
                  rw [hset 1 ⟨#[]⟩ false ⟨2, 1, 0, 1, false⟩ rfl rfl (.inr ⟨rfl, rfl, hb (.inl c1.2.2)⟩)]
                rw [if_neg c1, if_neg (c := e.kind = 2 ∧ y.status = 0 ∧ n.kind = 1) (fun h => c1 ⟨h.1, h.2.2, h.2.1⟩)]
                by_cases c2 : e.kind = 3 ∧ n.kind = 1 ∧ y.status = 1
                · rw [if_pos c2, if_pos (c := e.kind = 3 ∧ y.status = 1 ∧ n.kind = 1) ⟨c2.1, c2.2.2, c2.2.1⟩]
                  dsimp only [Option.map_some]
                  rw [if_neg (by rw [c2.1]; decide)]
                  dsimp only [Option.map_some]
                  rw [hset 2 ⟨#[]⟩ false ⟨3, 1, 1, 2, false⟩ rfl rfl (.inr ⟨rfl, rfl, hb (.inr (.inl c2.2.2))⟩)]
                rw [if_neg c2, if_neg (c := e.kind = 3 ∧ y.status = 1 ∧ n.kind = 1) (fun h => c2 ⟨h.1, h.2.2, h.2.1⟩)]
                by_cases c3 : e.kind = 5 ∧ n.kind = 1 ∧ y.status = 2
                · rw [if_pos c3, if_pos (c := e.kind = 5 ∧ y.status = 2 ∧ n.kind = 1) ⟨c3.1, c3.2.2, c3.2.1⟩]
                  dsimp only [Option.map_some]
                  rw [if_neg (by rw [c3.1]; decide)]
                  dsimp only [Option.map_some]
                  rw [hset 1 ⟨#[]⟩ false ⟨5, 1, 2, 1, false⟩ rfl rfl (.inr ⟨rfl, rfl, hb (.inr (.inr c3.2.2))⟩)]
                rw [if_neg c3, if_neg (c := e.kind = 5 ∧ y.status = 2 ∧ n.kind = 1) (fun h => c3 ⟨h.1, h.2.2, h.2.1⟩)]
                by_cases c4 : e.kind = 4 ∧ n.kind = 1 ∧ y.status = 2
                · rw [if_pos c4, if_pos (c := e.kind = 4 ∧ y.status = 2 ∧ n.kind = 1) ⟨c4.1, c4.2.2, c4.2.1⟩]
                  dsimp only [Option.map_some]
                  rw [if_neg (by rw [c4.1]; decide)]
                  dsimp only [Option.map_some]
                  rw [hset 3 e.text true ⟨4, 1, 2, 3, true⟩ rfl rfl (.inl ⟨rfl, rfl, .inl rfl⟩)]
                rw [if_neg c4, if_neg (c := e.kind = 4 ∧ y.status = 2 ∧ n.kind = 1) (fun h => c4 ⟨h.1, h.2.2, h.2.1⟩)]
                by_cases c5 : e.kind = 6 ∧ (y.status = 2 ∨ n.kind = 3 ∧ y.status = 0)
                · rw [if_pos c5]
                  dsimp only [Option.map_some]
                  rcases c5.2 with c | c
                  · rw [if_pos (c := e.kind = 6 ∧ y.status = 2) ⟨c5.1, c⟩]
                    dsimp only [Option.map_some]
                    rw [if_neg (by rw [c5.1]; decide)]
                    dsimp only [Option.map_some]
                    rw [hset 4 e.text true ⟨6, 0, 2, 4, true⟩ rfl rfl (.inl ⟨rfl, rfl, .inr rfl⟩)]
                  · rw [if_neg (c := e.kind = 6 ∧ y.status = 2) (fun h => by have := h.2; rw [c.2] at this; cases this), if_pos (c := e.kind = 6 ∧ y.status = 0 ∧ n.kind = 3) ⟨c5.1, c.2, c.1⟩]
                    dsimp only [Option.map_some]
                    rw [if_neg (by rw [c5.1]; decide)]
                    dsimp only [Option.map_some]
                    rw [hset 4 e.text true ⟨6, 3, 0, 4, true⟩ rfl rfl (.inl ⟨rfl, rfl, .inr rfl⟩)]
                rw [if_neg c5, if_neg (c := e.kind = 6 ∧ y.status = 2) (fun h => c5 ⟨h.1, .inl h.2⟩), if_neg (c := e.kind = 6 ∧ y.status = 0 ∧ n.kind = 3) (fun h => c5 ⟨h.1, .inr ⟨h.2.2, h.2.1⟩⟩)]
                by_cases c6 : e.kind = 7 ∧ n.kind = 2 ∧ y.status = 0
                · rw [if_pos c6, if_pos (c := e.kind = 7 ∧ y.status = 0 ∧ n.kind = 2) ⟨c6.1, c6.2.2, c6.2.1⟩]
                  dsimp only [Option.map_some]
                  rw [if_neg (by rw [c6.1]; decide)]
                  dsimp only [Option.map_some]
                  rw [hset 2 ⟨#[]⟩ false ⟨7, 2, 0, 2, false⟩ rfl rfl (.inr ⟨rfl, rfl, hb (.inl c6.2.2)⟩)]
                rw [if_neg c6, if_neg (c := e.kind = 7 ∧ y.status = 0 ∧ n.kind = 2) (fun h => c6 ⟨h.1, h.2.2, h.2.1⟩)]
                by_cases c7 : e.kind = 8 ∧ n.kind = 2 ∧ y.status = 2
                · rw [if_pos c7, if_pos (c := e.kind = 8 ∧ y.status = 2 ∧ n.kind = 2) ⟨c7.1, c7.2.2, c7.2.1⟩]
                  dsimp only [Option.map_some]
                  rw [if_neg (by rw [c7.1]; decide)]
                  dsimp only [Option.map_some]
                  rw [hset 3 ⟨#[]⟩ false ⟨8, 2, 2, 3, false⟩ rfl rfl (.inr ⟨rfl, rfl, hb (.inr (.inr c7.2.2))⟩)]
                rw [if_neg c7, if_neg (c := e.kind = 8 ∧ y.status = 2 ∧ n.kind = 2) (fun h => c7 ⟨h.1, h.2.2, h.2.1⟩)]
                by_cases c8 : e.kind = 9 ∧ n.kind = 3 ∧ y.status = 0
                · rw [if_pos c8, if_pos (c := e.kind = 9 ∧ y.status = 0 ∧ n.kind = 3) ⟨c8.1, c8.2.2, c8.2.1⟩]
                  dsimp only [Option.map_some]
                  rw [if_neg (by rw [c8.1]; decide)]
                  dsimp only [Option.map_some]
                  rw [hset 2 ⟨#[]⟩ false ⟨9, 3, 0, 2, false⟩ rfl rfl (.inr ⟨rfl, rfl, hb (.inl c8.2.2)⟩)]
                rw [if_neg c8, if_neg (c := e.kind = 9 ∧ y.status = 0 ∧ n.kind = 3) (fun h => c8 ⟨h.1, h.2.2, h.2.1⟩)]
                by_cases c9 : e.kind = 10 ∧ n.kind = 3 ∧ y.status = 2
                · rw [if_pos c9, if_pos (c := e.kind = 10 ∧ y.status = 2 ∧ n.kind = 3) ⟨c9.1, c9.2.2, c9.2.1⟩]
                  dsimp only [Option.map_some]
                  rw [if_neg (by rw [c9.1]; decide)]
                  dsimp only [Option.map_some]
                  rw [hset 3 e.text true ⟨10, 3, 2, 3, true⟩ rfl rfl (.inl ⟨rfl, rfl, .inl rfl⟩)]
                rw [if_neg c9, if_neg (c := e.kind = 10 ∧ y.status = 2 ∧ n.kind = 3) (fun h => c9 ⟨h.1, h.2.2, h.2.1⟩)]
                by_cases c10 : e.kind = 11 ∧ n.kind = 4 ∧ y.status = 0
                · rw [if_pos c10, if_pos (c := e.kind = 11 ∧ y.status = 0 ∧ n.kind = 4) ⟨c10.1, c10.2.2, c10.2.1⟩]
                  dsimp only [Option.map_some]
                  rw [if_neg (by rw [c10.1]; decide)]
                  dsimp only [Option.map_some]
                  rw [hset 2 ⟨#[]⟩ false ⟨11, 4, 0, 2, false⟩ rfl rfl (.inr ⟨rfl, rfl, hb (.inl c10.2.2)⟩)]
                rw [if_neg c10, if_neg (c := e.kind = 11 ∧ y.status = 0 ∧ n.kind = 4) (fun h => c10 ⟨h.1, h.2.2, h.2.1⟩)]
                by_cases c11 : e.kind = 12 ∧ y.status = 2 ∧ n.kind = 4
                · rw [if_neg (fun h => by have := h.2.2.2; rw [c11.2.1] at this; cases this) (c := e.kind = 12 ∧ n.kind = 4 ∧ e.num = 1 ∧ y.status = 0), if_neg (fun h => by have := h.1; rw [c11.1] at this; cases this) (c := e.kind = 14 ∧ n.kind = 5 ∧ y.status = 0), if_pos c11]
                  dsimp only [Option.map_some]
                  rw [if_pos c11.1]
                  unfold receiveP
                  rw [if_pos rfl]
                  by_cases hz : e.num = 0
                  · rw [if_pos (c := e.kind = 12 ∧ n.kind = 4 ∧ e.num = 0 ∧ y.status = 2) ⟨c11.1, c11.2.2, hz, c11.2.1⟩, if_pos hz]
                    dsimp only [Option.map_some]
                    rw [hset 3 e.text true ⟨12, 4, 2, 3, true⟩ rfl rfl (.inl ⟨rfl, rfl, .inl rfl⟩)]
                  · rw [if_neg (c := e.kind = 12 ∧ n.kind = 4 ∧ e.num = 0 ∧ y.status = 2) (fun h => hz h.2.2.1), if_neg hz]
                    rfl
                rw [if_neg c11, if_neg (fun h => c11 ⟨h.1, h.2.2.2, h.2.1⟩) (c := e.kind = 12 ∧ n.kind = 4 ∧ e.num = 0 ∧ y.status = 2)]
                by_cases c12 : e.kind = 12 ∧ y.status = 0 ∧ n.kind = 4
                · rw [if_neg (fun h => by have := h.1; rw [c12.1] at this; cases this) (c := e.kind = 14 ∧ n.kind = 5 ∧ y.status = 0), if_pos c12]
                  dsimp only [Option.map_some]
                  rw [if_pos c12.1]
                  unfold receiveP
                  rw [if_neg (c := (0 : Int) = 2) (by decide)]
                  by_cases hz : e.num = 1
                  · rw [if_pos (c := e.kind = 12 ∧ n.kind = 4 ∧ e.num = 1 ∧ y.status = 0) ⟨c12.1, c12.2.2, hz, c12.2.1⟩]
                    cases keptP s.sigs n.arg with
                    | none => rfl
                    | some j =>
                      dsimp only [Option.map_some]
                      rw [if_pos hz]
                      dsimp only [Option.map_some]
                      rw [hset 3 e.text true ⟨12, 4, 0, 3, true⟩ rfl rfl (.inl ⟨rfl, rfl, .inl rfl⟩)]
                  · rw [if_neg (c := e.kind = 12 ∧ n.kind = 4 ∧ e.num = 1 ∧ y.status = 0) (fun h => hz h.2.2.1)]
                    cases keptP s.sigs n.arg with
                    | none => rfl
                    | some j =>
                      dsimp only
                      rw [if_neg hz]
                      rfl
                rw [if_neg c12, if_neg (fun h => c12 ⟨h.1, h.2.2.2, h.2.1⟩) (c := e.kind = 12 ∧ n.kind = 4 ∧ e.num = 1 ∧ y.status = 0)]
                by_cases c13 : e.kind = 14 ∧ n.kind = 5 ∧ y.status = 0
                · rw [if_pos c13, if_pos (c := e.kind = 14 ∧ y.status = 0 ∧ n.kind = 5) ⟨c13.1, c13.2.2, c13.2.1⟩]
                  dsimp only [Option.map_some]
                  rw [if_neg (by rw [c13.1]; decide)]
                  dsimp only [Option.map_some]
                  rw [hset 3 ⟨#[]⟩ false ⟨14, 5, 0, 3, false⟩ rfl rfl (.inr ⟨rfl, rfl, hb (.inl c13.2.2)⟩)]
                · rw [if_neg c13, if_neg (c := e.kind = 14 ∧ y.status = 0 ∧ n.kind = 5) (fun h => c13 ⟨h.1, h.2.2, h.2.1⟩)]
                  rfl

end Go.Proofs.YtdecceekodpjiaaDoor

/-
  How the document lets a node begin and closes a workflow, as data: it is what the program does, where the node is idle.
-/
namespace Go.Proofs.YtdecceekodpjiaaDoor
open Go.RowKit

/-- An event happens; a task comes to be. -/
def evR (nm : ByteArray) (ns : List Nd) (r : Rn) (e : Ev) : Rn := { r with st := (applyR nm ns r.st e).getD r.st, evs := r.evs ++ [e] }
def taskR (r : Rn) (t : Tk) : Rn := { r with tks := r.tks ++ [flowT r.st.id t] }
def mailR (r : Rn) (m : Ml) : Rn := taskR r (msgP r.st.id m)

def closedR (nm : ByteArray) (ns : List Nd) (r : Rn) (st : Int) (tx : ByteArray) : Rn :=
  { evR nm ns r ⟨15, ⟨#[]⟩, tx, st⟩ with tks := r.tks ++ (mailsP ns (evR nm ns r ⟨15, ⟨#[]⟩, tx, st⟩).st st tx).map (flowT (evR nm ns r ⟨15, ⟨#[]⟩, tx, st⟩).st.id) }

def beginR (nm : ByteArray) (ns : List Nd) (r : Rn) (x : Nd) : Rn :=
  if x.kind = 1 then taskR (evR nm ns r ⟨2, x.name, ⟨#[]⟩, 0⟩) ⟨1, ⟨#[]⟩, x.name, 1, 0, zeroMl⟩
  else if x.kind = 2 then taskR (evR nm ns r ⟨7, x.name, ⟨#[]⟩, IntKind.i64.wrap (r.now + x.delay)⟩) ⟨2, ⟨#[]⟩, x.name, 0, IntKind.i64.wrap (r.now + x.delay), zeroMl⟩
  else if x.kind = 3 then (if 256 < (childP r.st.id x.name).size then closedR nm ns (evR nm ns r ⟨6, x.name, longB, 0⟩) 3 longB
    else mailR (evR nm ns r ⟨9, x.name, ⟨#[]⟩, 0⟩) ⟨1, childP r.st.id x.name, ⟨#[]⟩, x.name, x.arg, ⟨#[]⟩, 0⟩)
  else if x.kind = 4 then (match keptP r.st.sigs x.arg with
    | some k => evR nm ns r ⟨12, x.name, ((r.st.sigs[k]?).map (fun s => s.text)).getD ⟨#[]⟩, 1⟩
    | none => evR nm ns r ⟨11, x.name, ⟨#[]⟩, 0⟩)
  else mailR (evR nm ns r ⟨14, x.name, ⟨#[]⟩, 0⟩) ⟨3, x.«to», ⟨#[]⟩, x.name, x.arg, ⟨#[]⟩, 0⟩

section
variable {nm : ByteArray} {ns : List Nd} {r : Rn} {s : St} {e : Ev}

theorem ev_tell0 (hB : Bare r.st) {t : St} (h : changeP nm ns r.st e = some t) : evR nm ns r e = tellP nm ns r e [] := by
  unfold evR tellP
  rw [apply_same hB, h]
  simp

theorem ev_tell1 (hB : Bare r.st) {t : St} (h : changeP nm ns r.st e = some t) (k : Tk) : taskR (evR nm ns r e) k = tellP nm ns r e [k] := by
  unfold taskR evR tellP
  rw [apply_same hB, h]
  rfl

theorem ev_mail (hB : Bare r.st) {t : St} (h : changeP nm ns r.st e = some t) (he : e.kind ≠ 1) (m : Ml) : mailR (evR nm ns r e) m = tellP nm ns r e [msgP r.st.id m] := by
  have hid : (evR nm ns r e).st.id = r.st.id := by
    unfold evR
    rw [apply_same hB, h]
    exact (changeP_grow h he).id
  unfold mailR
  rw [hid]
  exact ev_tell1 hB h _

theorem changeP_close (hs : s.status = 1) (st : Int) (tx : ByteArray) (hst : st = 2 ∨ st = 3 ∨ st = 4) : changeP nm ns s ⟨15, ⟨#[]⟩, tx, st⟩ = some { s with status := st, text := tx, events := s.events + 1 } := by
  unfold changeP
  simp [hs, hst]

theorem closed_same (hB : Bare r.st) (hs : r.st.status = 1) {st : Int} {tx : ByteArray} (hst : st = 2 ∨ st = 3 ∨ st = 4) : closedR nm ns r st tx = endP nm ns r st tx := by
  have hc := changeP_close (nm := nm) (ns := ns) hs st tx hst
  unfold closedR endP tellP evR
  rw [apply_same hB, hc]
  rfl

theorem changeP_fit1 (hs : s.status = 1) {i : Nat} {n : Nd} {y : Ns} {m : Mv} (hf : findP ns e.node = some i) (hn : ns[i]? = some n) (hy : s.nodes[i]? = some y) (hm : moveP e.kind n.kind y.status = some m) (h1 : e.kind ≠ 1) (h12 : e.kind ≠ 12) (h13 : e.kind ≠ 13) (h15 : e.kind ≠ 15) :
    changeP nm ns s e = some { s with nodes := setNode s.nodes i m e, events := s.events + 1 } := by
  have hc : changeNodeP ns s e = some { s with nodes := setNode s.nodes i m e } := by
    unfold changeNodeP
    rw [hf]
    dsimp only
    have hmv : nodeMove ns s e i = some m := by unfold nodeMove; rw [hn, hy]; exact hm
    rw [hmv]
    dsimp only
    rw [if_neg h12]
  unfold changeP
  rw [if_neg (c := s.status ≠ (if e.kind = 1 then 0 else 1)) (by rw [if_neg h1]; simp [hs]), if_neg h1, if_neg h13, if_neg h15, hc]
  rfl

theorem changeP_fit12 (hs : s.status = 1) {i k : Nat} {n : Nd} {y : Ns} (he : e.kind = 12) (hf : findP ns e.node = some i) (hn : ns[i]? = some n) (hk : n.kind = 4) (hy : s.nodes[i]? = some y) (hy0 : y.status = 0) (hz : e.num = 1) (hp : keptP s.sigs n.arg = some k) :
    changeP nm ns s e = some { s with nodes := setNode s.nodes i ⟨12, 4, 0, 3, true⟩ e, sigs := s.sigs.eraseIdx k, events := s.events + 1 } := by
  have hc : changeNodeP ns s e = some { s with nodes := setNode s.nodes i ⟨12, 4, 0, 3, true⟩ e, sigs := s.sigs.eraseIdx k } := by
    unfold changeNodeP
    rw [hf]
    dsimp only
    have hmv : nodeMove ns s e i = some ⟨12, 4, 0, 3, true⟩ := by unfold nodeMove; rw [hn, hy]; dsimp only; rw [he, hk, hy0]; rfl
    rw [hmv]
    dsimp only
    rw [if_pos he]
    have hr : receiveP s.sigs (argAt ns i) 0 e.num = some (s.sigs.eraseIdx k) := by
      unfold receiveP argAt
      rw [hn, if_neg (c := (0 : Int) = 2) (by decide)]
      dsimp only
      rw [hp]
      dsimp only
      rw [if_pos hz]
    rw [hr]
  have h1 : e.kind ≠ 1 := by rw [he]; decide
  unfold changeP
  rw [if_neg (c := s.status ≠ (if e.kind = 1 then 0 else 1)) (by rw [if_neg h1]; simp [hs]), if_neg h1, if_neg (c := e.kind = 13) (by rw [he]; decide), if_neg (c := e.kind = 15) (by rw [he]; decide), hc]
  rfl

theorem setNode_bare {l : List Ns} {i : Nat} {m : Mv} {e : Ev} {s : St} (hB : Bare s) (hl : s.nodes = l) (hm : m.txt = true → m.dst = 3 ∨ m.dst = 4) (hxt : ∀ x, s.nodes[i]? = some x → x.text = ⟨#[]⟩) : ∀ y ∈ setNode l i m e, y.status = 0 ∨ y.status = 1 ∨ y.status = 2 → y.text = ⟨#[]⟩ := by
  subst hl
  intro y hy h
  unfold setNode at hy
  obtain ⟨j, hj⟩ := List.mem_iff_getElem?.1 hy
  rw [List.getElem?_modify] at hj
  by_cases hij : i = j
  · subst hij
    cases hx : s.nodes[i]? with
    | none => rw [hx] at hj; simp at hj
    | some x =>
      rw [hx] at hj
      simp at hj
      subst hj
      dsimp only at h ⊢
      cases ht : m.txt with
      | true => have := hm ht; omega
      | false => simpa [ht] using hxt x hx
  · simp [hij] at hj
    exact hB y (List.mem_of_getElem? hj) h

theorem begin_same (hB : Bare r.st) (hs : r.st.status = 1) {i : Nat} {x : Nd} {y : Ns} (hf : findP ns x.name = some i) (hx : ns[i]? = some x) (hy : r.st.nodes[i]? = some y) (hy0 : y.status = 0) (hk0 : 1 ≤ x.kind) (hk1 : x.kind ≤ 5) : beginR nm ns r x = beginP nm ns r x := by
  unfold beginR beginP
  by_cases h1 : x.kind = 1
  · rw [if_pos h1, if_pos h1]
    exact ev_tell1 hB (changeP_fit1 (m := ⟨2, 1, 0, 1, false⟩) hs hf hx hy (by rw [h1, hy0]; rfl) (by simp) (by simp) (by simp) (by simp)) _
  rw [if_neg h1, if_neg h1]
  by_cases h2 : x.kind = 2
  · rw [if_pos h2, if_pos h2]
    exact ev_tell1 hB (changeP_fit1 (m := ⟨7, 2, 0, 2, false⟩) hs hf hx hy (by rw [h2, hy0]; rfl) (by simp) (by simp) (by simp) (by simp)) _
  rw [if_neg h2, if_neg h2]
  by_cases h3 : x.kind = 3
  · rw [if_pos h3, if_pos h3]
    unfold askP
    have hsz : (childP r.st.id x.name).size = r.st.id.size + 1 + x.name.size := by unfold childP; rw [ByteArray.size_append, ByteArray.size_append]; rfl
    rw [hsz]
    by_cases hl : 256 < r.st.id.size + 1 + x.name.size
    · rw [if_pos hl, if_pos hl]
      have hc := changeP_fit1 (nm := nm) (e := ⟨6, x.name, longB, 0⟩) (m := ⟨6, 3, 0, 4, true⟩) hs hf hx hy (by rw [h3, hy0]; rfl) (by simp) (by simp) (by simp) (by simp)
      rw [ev_tell0 hB hc]
      unfold breakP
      refine closed_same ?_ ?_ (.inr (.inl rfl))
      · unfold tellP
        rw [hc]
        exact fun z hz h => setNode_bare hB rfl (fun _ => .inr rfl) (fun w hw => by rw [hy] at hw; cases hw; exact hB y (List.mem_of_getElem? hy) (.inl hy0)) z hz h
      · unfold tellP
        rw [hc]
        exact hs
    · rw [if_neg hl, if_neg hl]
      exact ev_mail hB (changeP_fit1 (m := ⟨9, 3, 0, 2, false⟩) hs hf hx hy (by rw [h3, hy0]; rfl) (by simp) (by simp) (by simp) (by simp)) (by simp) _
  rw [if_neg h3, if_neg h3]
  by_cases h4 : x.kind = 4
  · rw [if_pos h4, if_pos h4]
    unfold waitP
    cases hk : keptP r.st.sigs x.arg with
    | none => exact ev_tell0 hB (changeP_fit1 (m := ⟨11, 4, 0, 2, false⟩) hs hf hx hy (by rw [h4, hy0]; rfl) (by simp) (by simp) (by simp) (by simp))
    | some k => exact ev_tell0 hB (changeP_fit12 hs rfl hf hx h4 hy hy0 rfl hk)
  rw [if_neg h4, if_neg h4, if_pos (show x.kind = 5 by omega)]
  exact ev_mail hB (changeP_fit1 (m := ⟨14, 5, 0, 3, false⟩) hs hf hx hy (by rw [show x.kind = 5 by omega, hy0]; rfl) (by simp) (by simp) (by simp) (by simp)) (by simp) _

end

end Go.Proofs.YtdecceekodpjiaaDoor

/-
  The document's going on: one node after another; it comes to what goOn comes to.
-/
namespace Go.Proofs.YtdecceekodpjiaaDoor
open Go.RowKit

/-- A definition whose names are different and whose kinds are right. -/
structure Sound (ns : List Nd) : Prop where
  find : ∀ (i : Nat) (x : Nd), ns[i]? = some x → findP ns x.name = some i
  kind : ∀ x ∈ ns, 1 ≤ x.kind ∧ x.kind ≤ 5

/-- A state as it is reached. -/
structure Fine (ns : List Nd) (s : St) : Prop where
  len : s.nodes.length = ns.length
  bare : Bare s

/-- The document's going on, step by step. -/
inductive On (nm : ByteArray) (ns : List Nd) : Rn → Rn → Prop where
  | stop {r : Rn} : r.st.status ≠ 1 → On nm ns r r
  | step {r r' : Rn} {i : Nat} {x : Nd} : r.st.status = 1 → (goReady ns r).head? = some i → ns[i]? = some x → On nm ns (beginR nm ns r x) r' → On nm ns r r'
  | done {r : Rn} : r.st.status = 1 → goReady ns r = [] → restC r.st.nodes = 0 → On nm ns r (closedR nm ns r 2 (lastP r.st.nodes))
  | rest {r : Rn} : r.st.status = 1 → goReady ns r = [] → restC r.st.nodes ≠ 0 → On nm ns r r

section
variable {nm : ByteArray} {ns : List Nd} {r : Rn}

theorem tell_fit {e : Ev} {ts : List Tk} {t : St} (h : changeP nm ns r.st e = some t) : (tellP nm ns r e ts).st = t := by
  unfold tellP
  rw [h]

/-- What a beginning makes of the nodes: just that one is changed, and it is idle no more. -/
theorem begin_nodes (hs : r.st.status = 1) {i : Nat} {x : Nd} {y : Ns} (hf : findP ns x.name = some i) (hx : ns[i]? = some x) (hy : r.st.nodes[i]? = some y) (hy0 : y.status = 0) (hk0 : 1 ≤ x.kind) (hk1 : x.kind ≤ 5) :
    ∃ (m : Mv) (e : Ev), m.dst ≠ 0 ∧ (m.txt = true → m.dst = 3 ∨ m.dst = 4) ∧ (beginP nm ns r x).st.nodes = setNode r.st.nodes i m e := by
  unfold beginP
  by_cases h1 : x.kind = 1
  · rw [if_pos h1]
    exact ⟨⟨2, 1, 0, 1, false⟩, _, by decide, by simp, by rw [tell_fit (changeP_fit1 (m := ⟨2, 1, 0, 1, false⟩) hs hf hx hy (by rw [h1, hy0]; rfl) (by simp) (by simp) (by simp) (by simp))]⟩
  rw [if_neg h1]
  by_cases h2 : x.kind = 2
  · rw [if_pos h2]
    exact ⟨⟨7, 2, 0, 2, false⟩, _, by decide, by simp, by rw [tell_fit (changeP_fit1 (m := ⟨7, 2, 0, 2, false⟩) hs hf hx hy (by rw [h2, hy0]; rfl) (by simp) (by simp) (by simp) (by simp))]⟩
  rw [if_neg h2]
  by_cases h3 : x.kind = 3
  · rw [if_pos h3]
    unfold askP
    by_cases hl : 256 < r.st.id.size + 1 + x.name.size
    · rw [if_pos hl]
      have hc := changeP_fit1 (nm := nm) (e := ⟨6, x.name, longB, 0⟩) (m := ⟨6, 3, 0, 4, true⟩) hs hf hx hy (by rw [h3, hy0]; rfl) (by simp) (by simp) (by simp) (by simp)
      unfold breakP endP
      have hst : (tellP nm ns r ⟨6, x.name, longB, 0⟩ []).st.status = 1 := by rw [tell_fit hc]; exact hs
      refine ⟨⟨6, 3, 0, 4, true⟩, ⟨6, x.name, longB, 0⟩, by decide, by simp, ?_⟩
      rw [tell_fit (changeP_close hst 3 longB (.inr (.inl rfl)))]
      show (tellP nm ns r ⟨6, x.name, longB, 0⟩ []).st.nodes = _
      rw [tell_fit hc]
    · rw [if_neg hl]
      exact ⟨⟨9, 3, 0, 2, false⟩, _, by decide, by simp, by rw [tell_fit (changeP_fit1 (m := ⟨9, 3, 0, 2, false⟩) hs hf hx hy (by rw [h3, hy0]; rfl) (by simp) (by simp) (by simp) (by simp))]⟩
  rw [if_neg h3]
  by_cases h4 : x.kind = 4
  · rw [if_pos h4]
    unfold waitP
    cases hk : keptP r.st.sigs x.arg with
    | none => exact ⟨⟨11, 4, 0, 2, false⟩, _, by decide, by simp, by rw [tell_fit (changeP_fit1 (m := ⟨11, 4, 0, 2, false⟩) hs hf hx hy (by rw [h4, hy0]; rfl) (by simp) (by simp) (by simp) (by simp))]⟩
    | some k => exact ⟨⟨12, 4, 0, 3, true⟩, _, by decide, by simp, by rw [tell_fit (changeP_fit12 hs rfl hf hx h4 hy hy0 rfl hk)]⟩
  rw [if_neg h4, if_pos (show x.kind = 5 by omega)]
  exact ⟨⟨14, 5, 0, 3, false⟩, _, by decide, by simp, by rw [tell_fit (changeP_fit1 (m := ⟨14, 5, 0, 3, false⟩) hs hf hx hy (by rw [show x.kind = 5 by omega, hy0]; rfl) (by simp) (by simp) (by simp) (by simp))]⟩

theorem begin_fine (F : Fine ns r.st) (hs : r.st.status = 1) {i : Nat} {x : Nd} {y : Ns} (hf : findP ns x.name = some i) (hx : ns[i]? = some x) (hy : r.st.nodes[i]? = some y) (hy0 : y.status = 0) (hk0 : 1 ≤ x.kind) (hk1 : x.kind ≤ 5) : Fine ns (beginP nm ns r x).st := by
  obtain ⟨m, e, _, ht, hn⟩ := begin_nodes (nm := nm) hs hf hx hy hy0 hk0 hk1
  refine ⟨by rw [hn, setNode_len]; exact F.len, fun z hz h => ?_⟩
  rw [hn] at hz
  exact setNode_bare F.bare rfl ht (fun w hw => by rw [hy] at hw; cases hw; exact F.bare y (List.mem_of_getElem? hy) (.inl hy0)) z hz h

theorem filter_drop {p q : Nat → Bool} {n i : Nat} {l : List Nat} (h : (List.range n).filter p = i :: l) (hq : q i = false) (hj : ∀ j, j ≠ i → q j = p j) : (List.range n).filter q = l := by
  have hnd : ((List.range n).filter p).Nodup := List.Nodup.sublist List.filter_sublist List.nodup_range
  rw [h, List.nodup_cons] at hnd
  have e1 : (List.range n).filter q = ((List.range n).filter p).filter (fun j => decide (j ≠ i)) := by
    rw [List.filter_filter]
    apply List.filter_congr
    intro j _
    by_cases hji : j = i
    · subst hji; simp [hq]
    · simp [hji, hj j hji]
  rw [e1, h, List.filter_cons]
  simp only [ne_eq, not_true, decide_false, Bool.false_eq_true, if_false]
  rw [List.filter_eq_self]
  intro j hjl
  have : j ≠ i := fun h => hnd.1 (h ▸ hjl)
  simp [this]

/-- Behind a beginning that leaves its node under way, the other nodes that may begin may begin. -/
theorem ready_next (hs : r.st.status = 1) {i : Nat} {l : List Nat} {x : Nd} {y : Ns} (hL : goReady ns r = i :: l) (hf : findP ns x.name = some i) (hx : ns[i]? = some x) (hy : r.st.nodes[i]? = some y) (hy0 : y.status = 0) (hk0 : 1 ≤ x.kind) (hk1 : x.kind ≤ 5)
    (hno : ((beginP nm ns r x).st.nodes[i]?.map (fun y => y.status)) ≠ some 3) : goReady ns (beginP nm ns r x) = l := by
  obtain ⟨m, e, hm0, _, hn⟩ := begin_nodes (nm := nm) hs hf hx hy hy0 hk0 hk1
  have hi : i < r.st.nodes.length := (List.getElem?_eq_some_iff.1 hy).1
  rw [hn] at hno
  have hm3 : m.dst ≠ 3 := fun h => hno (by unfold setNode; rw [List.getElem?_modify, hy]; simp [h])
  have hov : overL (beginP nm ns r x).st.nodes = overL r.st.nodes := by
    rw [hn]
    unfold overL setNode
    apply List.ext_getElem?
    intro j
    rw [List.getElem?_map, List.getElem?_map, List.getElem?_modify]
    by_cases hij : i = j
    · subst hij
      rw [hy]
      simp [hy0, hm3]
    · simp [hij]
  have hbe : ∀ j, begunB (beginP nm ns r x).st.nodes j = if j = i then true else begunB r.st.nodes j := fun j => by
    rw [hn]
    unfold begunB setNode
    rw [List.getElem?_modify]
    by_cases hij : i = j
    · subst hij
      rw [hy]
      simp [hm0]
    · rw [if_neg (fun h => hij h.symm)]
      simp [hij]
  unfold goReady rdyL at hL ⊢
  rw [hov]
  have hlt : i < ns.length := (List.getElem?_eq_some_iff.1 hx).1
  refine filter_drop hL ?_ (fun j hj => ?_)
  · unfold rdyB begunL
    rw [List.getD_eq_getElem?_getD, List.getElem?_map, List.getElem?_range hlt]
    simp [hbe]
  · unfold rdyB begunL
    by_cases hjn : j < ns.length
    · rw [List.getD_eq_getElem?_getD, List.getD_eq_getElem?_getD, List.getElem?_map, List.getElem?_map, List.getElem?_range hjn]
      simp [hbe, hj]
    · rw [List.getD_eq_getElem?_getD, List.getD_eq_getElem?_getD, List.getElem?_map, List.getElem?_map, List.getElem?_eq_none (by simpa using hjn)]
      rfl

theorem row_on (S : Sound ns) : ∀ (l : List Nat) (r : Rn), goReady ns r = l → Fine ns r.st → r.st.status = 1 → ∀ r', (match goRow nm ns r l with
    | (r1, .stop) => r' = r1
    | (r1, .again) => Fine ns r1.st → r1.st.status = 1 → On nm ns r1 r'
    | (r1, .through) => r' = if restC r1.st.nodes = 0 then endP nm ns r1 2 (lastP r1.st.nodes) else r1) → On nm ns r r'
  | [], r, hL, F, hs, r', h => by
    unfold goRow at h
    dsimp only at h
    by_cases hz : restC r.st.nodes = 0
    · rw [if_pos hz, ← closed_same F.bare hs (.inl rfl)] at h
      rw [h]
      exact .done hs hL hz
    · rw [if_neg hz] at h
      rw [h]
      exact .rest hs hL hz
  | i :: l, r, hL, F, hs, r', h => by
    obtain ⟨hi, y, hy, hy0⟩ := goReady_idle (ns := ns) (r := r) (i := i) (by rw [hL]; exact List.mem_cons_self)
    have hx := List.getElem?_eq_getElem hi
    have hk := S.kind _ (List.getElem_mem hi)
    have hf := S.find i _ hx
    have hb := begin_same (nm := nm) F.bare hs hf hx hy hy0 hk.1 hk.2
    refine .step hs (by rw [hL]; rfl) hx ?_
    rw [hb]
    have hF := begin_fine (nm := nm) F hs hf hx hy hy0 hk.1 hk.2
    have hnext := ready_next (nm := nm) hs hL hf hx hy hy0 hk.1 hk.2
    unfold goRow at h
    rw [hx] at h
    dsimp only at h
    generalize beginP nm ns r ns[i] = r1 at *
    by_cases h1 : r1.st.status ≠ 1
    · rw [if_pos h1] at h
      dsimp only at h
      rw [h]
      exact .stop h1
    · rw [if_neg h1] at h
      by_cases h3 : (r1.st.nodes[i]?.map (fun y => y.status)) = some 3
      · rw [if_pos h3] at h
        dsimp only at h
        exact h hF (by omega)
      · rw [if_neg h3] at h
        exact row_on S l r1 (hnext h3) hF (by omega) r' h

theorem go_on (S : Sound ns) : ∀ (f : Nat) (r : Rn), restC r.st.nodes < f → Fine ns r.st → r.st.status = 1 → On nm ns r (goP nm ns f r)
  | 0, r, hf, _, _ => absurd hf (Nat.not_lt_zero _)
  | f + 1, r, hf, F, hs => by
    refine row_on S (goReady ns r) r rfl F hs _ ?_
    unfold goP
    cases hg : goRow nm ns r (goReady ns r) with
    | mk r1 w =>
      cases w with
      | stop => rfl
      | again =>
        intro F1 hs1
        exact go_on S f r1 (by have := goRow_less hg; omega) F1 hs1
      | through => rfl

theorem goOn_on (S : Sound ns) (F : Fine ns r.st) : On nm ns r (goOnP nm ns r) ∨ r.st.status ≠ 1 := by
  by_cases hs : r.st.status = 1
  · exact .inl (go_on S _ r (Nat.lt_succ_self _) F hs)
  · exact .inr hs

end

end Go.Proofs.YtdecceekodpjiaaDoor

/-
  What the laws of history do with a definition ahead of all: it is cut, and checked.
-/
namespace Go.Proofs.YtdecceekodpjiaaDoor
open Go.RowKit

set_option maxRecDepth 100000 in
set_option maxHeartbeats 400000 in
theorem within_wide (w : World) (k m : Int) (hm : 0 < m) (hm2 : m ≤ 4503599627370496) :
    Calls Tryd.prog 7 #[.int .i64 k, .int .i64 m] w fun e w' => e = .returned (.int .i64 (k % m)) ∧ w' = w := by
  have h1 := Int.emod_nonneg k (by omega : m ≠ 0)
  have h2 := Int.emod_lt_of_pos k hm
  have hmz : (m == 0) = false := by simp; omega
  by_cases h : k.tmod m < 0
  · have e := tmod_emod_neg hm h
    have HE : Hid (k.tmod m + m = k % m) := e
    have hlo : -m ≤ k.tmod m := by omega
    clear e h1 h2
    go_enter Tryd.func7, Tryd.ntmps7
    go_wp2
    go_ret
    exact ⟨ret_int HE.out, rfl⟩
  · have e := tmod_emod_pos (n := k) hm (by omega)
    have HE : Hid (k.tmod m = k % m) := e
    clear e h1 h2
    go_enter Tryd.func7, Tryd.ntmps7
    go_wp2
    go_ret
    exact ⟨ret_int HE.out, rfl⟩

theorem RawAt.take {w : World} {a : Option Addr} {ns : List Nd} (C : RawAt w a ns) (k : Nat) : RawAt w a (ns.take k) := by
  refine ⟨fun n h => C.1 n (List.mem_of_mem_take h), ?_⟩
  rcases C.2 with h | ⟨b, o, h, hc⟩
  · exact .inl (by rw [h]; simp)
  · refine .inr ⟨b, o, h, fun i hi => ?_⟩
    have hi' : i < ns.length := by rw [List.length_take] at hi; omega
    have e : (ns.take k)[i] = ns[i] := List.getElem_take
    rw [e]
    exact hc i hi'

theorem pairF {w : World} {b : Nat} {T : TypeId} {u0 u1 : Value} (h : w.heap[b]? = some (.cells #[u0, u1] T (0, 0))) : (w.cell? ⟨b, 0, none⟩ = some u0 ∧ w.cell? ⟨b, 1, none⟩ = some u1) ∧ w.frozen? ⟨b, 0, none⟩ = false ∧ w.frozen? ⟨b, 1, none⟩ = false := by
  simp [World.cell?, World.frozen?, h]

theorem pairPut {w : World} {b : Nat} {T : TypeId} {u0 u1 : Value} (h : w.heap[b]? = some (.cells #[u0, u1] T (0, 0))) (v0 v1 : Value) : ((w.setCell ⟨b, 0, none⟩ v0).setCell ⟨b, 1, none⟩ v1).heap[b]? = some (.cells #[v0, v1] T (0, 0)) := by
  simp [World.setCell, Array.getElem?_modify, h]

set_option maxRecDepth 100000 in
set_option maxHeartbeats 1000000 in
theorem hcut_any (w : World) (name : ByteArray) (a : Option Addr) (n c : Nat) (ns : List Nd) (hl : ns.length = n) (hc : n ≤ c) :
    Calls Tryd.prog 10 #[.agg #[.string name, .slice a n c]] w fun e w' => e = .returned (.agg #[.string name, .slice a (ns.take 32).length c]) ∧ Kept (fun _ => False) w w' := by
  subst hl
  by_cases h : 32 < ns.length
  · have e : (ns.take 32).length = 32 := by rw [List.length_take]; omega
    rw [e]
    have e1 : (32 : Int) < (ns.length : Int) := by omega
    have e2 : (32 : Int) ≤ (c : Int) := by omega
    go_enter Tryd.func10, Tryd.ntmps10
    go_wp2
    refine bodyPost_ret (by simp [results, Tryd.results10, go_sem]; try rfl) rfl ?_
    exact ⟨rfl, (Kept.alloc _ _ _).and (Kept.alloc _ _ _)⟩
  · have e : ns.take 32 = ns := List.take_of_length_le (by omega)
    rw [e]
    have e1 : ¬ (32 : Int) < (ns.length : Int) := by omega
    go_enter Tryd.func10, Tryd.ntmps10
    go_wp2
    refine bodyPost_ret (by simp [results, Tryd.results10, go_sem]; try rfl) rfl ?_
    exact ⟨rfl, (Kept.alloc _ _ _).and (Kept.alloc _ _ _)⟩

set_option maxRecDepth 100000 in
set_option maxHeartbeats 1000000 in
theorem taken_any (w : World) (name : ByteArray) (a : Option Addr) (n c : Nat) (ns : List Nd) (hN : RawAt w a ns) (hl : ns.length = n) (hn : n ≤ 32) (hnm : name.size ≤ maxLen) (b : Bool) (hb : decide ((checkP name ns).2 = 0) = b) :
    Calls Tryd.prog 11 #[.agg #[.string name, .slice a n c]] w fun e w' => e = .returned (.bool b) ∧ Kept (fun _ => False) w w' := by
  subst hl
  have hC := refCheck_wide (w.alloc (.cells #[.string name, .slice a ns.length c] 28)) name a c ns (keptRaw (Kept.alloc _ _ _) hN) (by omega) hnm
  have hb2 : ((checkP name ns).2 == 0) = b := by rw [← hb]; by_cases h : (checkP name ns).2 = 0 <;> simp [h]
  clear hb
  generalize (checkP name ns).1 = z at *
  generalize (checkP name ns).2 = e0 at *
  go_enter Tryd.func11, Tryd.ntmps11
  go_wp2_with (first
    | (go_at_call 19; refine hC.mono ?_; rintro e w1 ⟨rfl, K1⟩; clear hC)
    | fail)
  go_ret
  exact ⟨rfl, (Kept.alloc _ _ _).and K1⟩

/-- The law's own box of its definition, filled with the cut one. -/
theorem cut_box {w w1 : World} {name : ByteArray} {a : Option Addr} {n c n' : Nat} {ns : List Nd} (K1 : Kept (fun _ => False) (w.alloc (.cells #[.string name, .slice a n c] 28)) w1) (R : RawAt w a ns) :
    ((w1.setCell ⟨w.heap.size, 0, none⟩ (.string name)).setCell ⟨w.heap.size, 1, none⟩ (.slice a n' c)).heap[w.heap.size]? = some (.cells #[.string name, .slice a n' c] 28 (0, 0)) ∧
    Kept (fun _ => False) w ((w1.setCell ⟨w.heap.size, 0, none⟩ (.string name)).setCell ⟨w.heap.size, 1, none⟩ (.slice a n' c)) ∧ RawAt ((w1.setCell ⟨w.heap.size, 0, none⟩ (.string name)).setCell ⟨w.heap.size, 1, none⟩ (.slice a n' c)) a ns := by
  have K : Kept (fun _ => False) w ((w1.setCell ⟨w.heap.size, 0, none⟩ (.string name)).setCell ⟨w.heap.size, 1, none⟩ (.slice a n' c)) := ((Kept.alloc _ _ _).and K1).trans (S' := fun j => j = w.heap.size) ((Kept.setCell (S := fun j => j = w.heap.size) w1 ⟨w.heap.size, 0, none⟩ _ rfl).and (Kept.setCell (S := fun j => j = w.heap.size) _ ⟨w.heap.size, 1, none⟩ _ rfl)) (fun i h => .inr (by omega))
  refine ⟨pairPut ((K1.block w.heap.size (by simp) (fun h => h)).trans (heap_alloc_new _ _)) _ _, K, keptRaw K R⟩

/-- What is taken, is sound. -/
theorem Taken.sound {name : ByteArray} {ns : List Nd} (T : Taken name ns) : Sound ns := by
  refine ⟨fun i x hx => ?_, fun x hx => ?_⟩
  · obtain ⟨hi, rfl⟩ := List.getElem?_eq_some_iff.1 hx
    have h2 := (nodeE_ok (T.nod i hi)).2.1
    obtain ⟨j, hj⟩ := Option.isSome_iff_exists.1 (findP_mem (List.getElem_mem hi))
    rw [hj] at h2
    simp at h2
    by_cases e : j = i
    · rw [hj, e]
    · exact absurd rfl (findP_first hj (j := i) (by omega))
  · obtain ⟨i, hi, rfl⟩ := List.mem_iff_getElem.1 hx
    have h3 := (nodeE_ok (T.nod i hi)).2.2
    unfold fitsP at h3
    split at h3
    · cases h3
    split at h3
    · rename_i h; have := eq_of_beq h; omega
    split at h3
    · rename_i h; have := eq_of_beq h; omega
    split at h3
    · rename_i h
      rw [Bool.or_eq_true] at h
      rcases h with h | h <;> (have := eq_of_beq h; omega)
    split at h3
    · rename_i h; have := eq_of_beq h; omega
    · cases h3

theorem madeP_size {s l : ByteArray} {m : Int} (h : madeP s l m = true) : (s.size : Int) ≤ m := by
  unfold madeP at h
  simp only [Bool.and_eq_true, decide_eq_true_eq] at h
  exact h.1.2

theorem Taken.names {name : ByteArray} {ns : List Nd} (T : Taken name ns) : ∀ x ∈ ns, x.name.size ≤ 64 := by
  intro x hx
  obtain ⟨i, hi, rfl⟩ := List.mem_iff_getElem.1 hx
  have h1 := (nodeE_ok (T.nod i hi)).1
  unfold namedP at h1
  simp only [Bool.and_eq_true] at h1
  have h2 := madeP_size h1.1.1
  omega

theorem Taken.afters {name : ByteArray} {ns : List Nd} (T : Taken name ns) : ∀ n ∈ ns, n.after.length ≤ 1000000 := by
  intro n hn
  obtain ⟨i, hi, rfl⟩ := List.mem_iff_getElem.1 hn
  have h1 := afterE_ok (T.aft i hi)
  have h2 := few_found h1.1 h1.2
  have h3 := T.hi
  omega

/-- The definition that is taken, for Step. -/
theorem Taken.at {w : World} {name : ByteArray} {a : Option Addr} {ns : List Nd} (T : Taken name ns) (R : RawAt w a ns) (M : MovesAt w) : DefAt w a ns := by
  refine ⟨R.nodes T.afters, by have := T.hi; omega, fun b o h => ?_, fun x hx => by have := T.names x hx; omega, M⟩
  obtain ⟨b', o', av, cv, e, _, h0, _⟩ := R.at (i := 0) (by have := T.lo; omega)
  rw [h] at e
  simp only [Option.some.injEq, Addr.mk.injEq, and_true] at e
  obtain ⟨rfl, rfl⟩ := e
  exact World.block_lt_of_cell? w _ h0

end Go.Proofs.YtdecceekodpjiaaDoor

/-
  HistoryRoots as data: what stands behind a start.
-/
namespace Go.Proofs.YtdecceekodpjiaaDoor
open Go.RowKit

section
variable {nm : ByteArray} {ns : List Nd} {r : Rn}

theorem tell_evs {e : Ev} {ts : List Tk} {t : St} (h : changeP nm ns r.st e = some t) : (tellP nm ns r e ts).evs = r.evs ++ [e] := by
  unfold tellP
  rw [h]

/-- The event by which a node begins. -/
theorem begin_evs (hs : r.st.status = 1) {i : Nat} {x : Nd} {y : Ns} (hf : findP ns x.name = some i) (hx : ns[i]? = some x) (hy : r.st.nodes[i]? = some y) (hy0 : y.status = 0) (hk0 : 1 ≤ x.kind) (hk1 : x.kind ≤ 5) (hr : (beginP nm ns r x).st.status = 1) :
    ∃ e : Ev, (beginP nm ns r x).evs = r.evs ++ [e] ∧ e.node = x.name ∧ e.kind ≠ 1 ∧ (e.kind = 7 → e.num = IntKind.i64.wrap (r.now + x.delay)) := by
  unfold beginP at hr ⊢
  by_cases h1 : x.kind = 1
  · rw [if_pos h1]
    exact ⟨_, tell_evs (changeP_fit1 (m := ⟨2, 1, 0, 1, false⟩) hs hf hx hy (by rw [h1, hy0]; rfl) (by simp) (by simp) (by simp) (by simp)), rfl, by simp, by simp⟩
  rw [if_neg h1] at hr ⊢
  by_cases h2 : x.kind = 2
  · rw [if_pos h2]
    exact ⟨_, tell_evs (changeP_fit1 (m := ⟨7, 2, 0, 2, false⟩) hs hf hx hy (by rw [h2, hy0]; rfl) (by simp) (by simp) (by simp) (by simp)), rfl, by simp, fun _ => rfl⟩
  rw [if_neg h2] at hr ⊢
  by_cases h3 : x.kind = 3
  · rw [if_pos h3] at hr ⊢
    unfold askP at hr ⊢
    by_cases hl : 256 < r.st.id.size + 1 + x.name.size
    · rw [if_pos hl] at hr
      have hc := changeP_fit1 (nm := nm) (e := ⟨6, x.name, longB, 0⟩) (m := ⟨6, 3, 0, 4, true⟩) hs hf hx hy (by rw [h3, hy0]; rfl) (by simp) (by simp) (by simp) (by simp)
      have hst : (tellP nm ns r ⟨6, x.name, longB, 0⟩ []).st.status = 1 := by rw [tell_fit hc]; exact hs
      unfold breakP endP at hr
      rw [tell_fit (changeP_close hst 3 longB (.inr (.inl rfl)))] at hr
      cases hr
    · rw [if_neg hl]
      exact ⟨_, tell_evs (changeP_fit1 (m := ⟨9, 3, 0, 2, false⟩) hs hf hx hy (by rw [h3, hy0]; rfl) (by simp) (by simp) (by simp) (by simp)), rfl, by simp, by simp⟩
  rw [if_neg h3] at hr ⊢
  by_cases h4 : x.kind = 4
  · rw [if_pos h4]
    unfold waitP
    cases hk : keptP r.st.sigs x.arg with
    | none => exact ⟨_, tell_evs (changeP_fit1 (m := ⟨11, 4, 0, 2, false⟩) hs hf hx hy (by rw [h4, hy0]; rfl) (by simp) (by simp) (by simp) (by simp)), rfl, by simp, by simp⟩
    | some k => exact ⟨_, tell_evs (changeP_fit12 hs rfl hf hx h4 hy hy0 rfl hk), rfl, by simp, by simp⟩
  rw [if_neg h4, if_pos (show x.kind = 5 by omega)]
  exact ⟨_, tell_evs (changeP_fit1 (m := ⟨14, 5, 0, 3, false⟩) hs hf hx hy (by rw [show x.kind = 5 by omega, hy0]; rfl) (by simp) (by simp) (by simp) (by simp)), rfl, by simp, by simp⟩

/-- How often a node began, by the events. -/
def beganC (evs : List Ev) (name : ByteArray) : Nat := evs.countP (fun e => decide (e.node = name) && decide (e.kind ≠ 1))

/-- What stands while nodes begin. -/
structure Roots (now : Int) (ns : List Nd) (r : Rn) : Prop where
  fine : Fine ns r.st
  tick : r.now = now
  free : ∀ (i : Nat) (x : Nd) (y : Ns), ns[i]? = some x → r.st.nodes[i]? = some y → y.status ≠ 0 → overP ns x (overL r.st.nodes) = true
  once : ∀ (i : Nat) (x : Nd) (y : Ns), ns[i]? = some x → r.st.nodes[i]? = some y → beganC r.evs x.name = if y.status = 0 then 0 else 1
  time : ∀ e ∈ r.evs, e.kind = 7 → ∀ x ∈ ns, e.node = x.name → e.num = IntKind.i64.wrap (now + x.delay)

theorem over_mono {l l' : List Ns} (h : ∀ (i : Nat) (x : Ns), l[i]? = some x → x.status = 3 → l'[i]? = some x) {x : Nd} (ho : overP ns x (overL l) = true) : overP ns x (overL l') = true := by
  unfold overP at ho ⊢
  rw [List.all_eq_true] at ho ⊢
  intro s hs
  have := ho s hs
  unfold oneP at this ⊢
  split at this
  · rename_i j hj
    unfold overL at this ⊢
    rw [List.getD_eq_getElem?_getD, List.getElem?_map] at this ⊢
    cases hl : l[j]? with
    | none => rw [hl] at this; simp at this
    | some z =>
      rw [hl] at this
      have hz : z.status = 3 := by simpa using this
      rw [h j z hl hz]
      simp [hz]
  · cases this

theorem Roots.step (S : Sound ns) {now : Int} (R : Roots now ns r) (hs : r.st.status = 1) {i : Nat} {x : Nd} (hi : i ∈ goReady ns r) (hx : ns[i]? = some x) (hr : (beginP nm ns r x).st.status = 1) : Roots now ns (beginP nm ns r x) := by
  obtain ⟨hin, y, hy, hy0⟩ := goReady_idle hi
  have hk := S.kind x (List.mem_of_getElem? hx)
  have hf := S.find i x hx
  obtain ⟨m, e0, hm0, _, hn⟩ := begin_nodes (nm := nm) hs hf hx hy hy0 hk.1 hk.2
  obtain ⟨e, he, hen, hek, het⟩ := begin_evs (nm := nm) hs hf hx hy hy0 hk.1 hk.2 hr
  have hg := beginP_grow (nm := nm) (ns := ns) (r := r) (x := x)
  have hfr : overP ns x (overL r.st.nodes) = true := by
    unfold goReady rdyL at hi
    rw [List.mem_filter] at hi
    have h2 := hi.2
    unfold rdyB at h2
    rw [Bool.and_eq_true, hx] at h2
    exact h2.2
  have hat : ∀ (j : Nat) (z : Ns), (beginP nm ns r x).st.nodes[j]? = some z → (j = i ∧ z.status ≠ 0) ∨ (j ≠ i ∧ r.st.nodes[j]? = some z) := fun j z hz => by
    rw [hn] at hz
    unfold setNode at hz
    rw [List.getElem?_modify] at hz
    by_cases hij : i = j
    · subst hij
      rw [hy] at hz
      simp at hz
      subst hz
      exact .inl ⟨rfl, hm0⟩
    · simp [hij] at hz
      exact .inr ⟨fun h => hij h.symm, hz⟩
  refine ⟨begin_fine R.fine hs hf hx hy hy0 hk.1 hk.2, beginP_now.trans R.tick, fun j z q hz hq h0 => ?_, fun j z q hz hq => ?_, fun e' he' h7 z hz hnm => ?_⟩
  · rcases hat j q hq with ⟨rfl, _⟩ | ⟨_, hq'⟩
    · rw [hx] at hz
      cases hz
      exact over_mono hg.over hfr
    · exact over_mono hg.over (R.free j z q hz hq' h0)
  · have hc : beganC (beginP nm ns r x).evs z.name = beganC r.evs z.name + if z.name = x.name then 1 else 0 := by
      unfold beganC
      rw [he, List.countP_append, List.countP_cons, List.countP_nil, Nat.zero_add, hen]
      by_cases hzx : z.name = x.name
      · rw [if_pos hzx]
        simp [hzx, hek]
      · have : ¬ x.name = z.name := fun h => hzx h.symm
        simp [hzx, this]
    rw [hc]
    rcases hat j q hq with ⟨rfl, hq0⟩ | ⟨hji, hq'⟩
    · rw [hx] at hz
      cases hz
      rw [if_pos rfl, if_neg hq0, R.once j x y hx hy, if_pos hy0]
    · have hne : ¬ z.name = x.name := fun h => hji (by have h1 := S.find j z hz; rw [h, hf] at h1; exact (Option.some.inj h1).symm)
      rw [if_neg hne, Nat.add_zero]
      exact R.once j z q hz hq'
  · rw [he, List.mem_append, List.mem_singleton] at he'
    rcases he' with he' | rfl
    · exact R.time e' he' h7 z hz hnm
    · have hzx : z = x := by
        obtain ⟨j, hj⟩ := List.mem_iff_getElem?.1 hz
        have h1 := S.find j z hj
        rw [← hnm, hen, hf] at h1
        have h2 : i = j := Option.some.inj h1
        subst h2
        rw [hx] at hj
        exact (Option.some.inj hj).symm
      rw [hzx, het h7, R.tick]

theorem roots_on (S : Sound ns) {now : Int} {r r' : Rn} (h : On nm ns r r') : Roots now ns r → r'.st.status = 1 → Roots now ns r' ∧ goReady ns r' = [] := by
  induction h with
  | stop hs => exact fun _ h => absurd h hs
  | @step r r' i x hs hh hx hon ih =>
    intro R h1
    have hi : i ∈ goReady ns r := List.mem_of_mem_head? (by rw [hh]; rfl)
    obtain ⟨hin, y, hy, hy0⟩ := goReady_idle hi
    have hk := S.kind x (List.mem_of_getElem? hx)
    have hb := begin_same (nm := nm) R.fine.bare hs (S.find i x hx) hx hy hy0 hk.1 hk.2
    rw [hb] at ih hon
    by_cases hr : (beginP nm ns r x).st.status = 1
    · exact ih (R.step S hs hi hx hr) h1
    · cases hon with
      | stop _ => exact absurd h1 hr
      | step hs' => exact absurd hs' hr
      | done hs' => exact absurd hs' hr
      | rest hs' => exact absurd hs' hr
  | @done r hs hz hc =>
    intro R h1
    rw [closed_same R.fine.bare hs (.inl rfl)] at h1
    unfold endP at h1
    rw [tell_fit (changeP_close hs 2 _ (.inl rfl))] at h1
    cases h1
  | rest hs hz hc => exact fun R _ => ⟨R, hz⟩

end

end Go.Proofs.YtdecceekodpjiaaDoor

/-
  What an input makes of a workflow, as the document has it, as data: it is what the program makes of it.
-/
namespace Go.Proofs.YtdecceekodpjiaaDoor
open Go.RowKit

/-- A try of an activity fails. -/
def failR (nm : ByteArray) (ns : List Nd) (r : Rn) (i : Nat) (tx : ByteArray) : Rn := match ns[i]?, r.st.nodes[i]? with
  | some n, some y => if y.tr < n.tries then taskR (evR nm ns r ⟨5, n.name, tx, y.tr⟩) ⟨1, ⟨#[]⟩, n.name, IntKind.i64.wrap (y.tr + 1), 0, zeroMl⟩ else closedR nm ns (evR nm ns r ⟨6, n.name, tx, 0⟩) 3 tx
  | _, _ => r

/-- InTake, InComplete, InFail. (Going on is goOn: HRefO.) -/
def activityR (nm : ByteArray) (ns : List Nd) (r : Rn) (q : Inp) : Rn × Int := match findK ns r.st q.node [1] with
  | none => (r, 6)
  | some i => match ns[i]?, r.st.nodes[i]? with
    | some n, some y =>
      if q.kind = 3 then (if y.status ≠ 1 then (r, 12) else
        (if 0 < n.delay then taskR (evR nm ns r ⟨3, n.name, ⟨#[]⟩, IntKind.i64.wrap (y.tr + 1)⟩) ⟨2, ⟨#[]⟩, n.name, IntKind.i64.wrap (y.tr + 1), IntKind.i64.wrap (q.now + n.delay), zeroMl⟩ else evR nm ns r ⟨3, n.name, ⟨#[]⟩, IntKind.i64.wrap (y.tr + 1)⟩, 0))
      else if y.status ≠ 2 ∨ y.tr ≠ q.tr then (r, 12)
      else if 256 < q.text.size then (r, 9)
      else if q.kind = 5 then (failR nm ns r i q.text, 0)
      else (goOnP nm ns (evR nm ns r ⟨4, n.name, q.text, 0⟩), 0)
    | _, _ => (r, 6)

def fireR (nm : ByteArray) (ns : List Nd) (r : Rn) (q : Inp) : Rn × Int := match findK ns r.st q.node [2] with
  | some i => match ns[i]?, r.st.nodes[i]? with
    | some n, some y => if y.status ≠ 2 then (r, 12) else (goOnP nm ns (evR nm ns r ⟨8, n.name, ⟨#[]⟩, 0⟩), 0)
    | _, _ => (r, 6)
  | none => match findK ns r.st q.node [1] with
    | none => (r, 6)
    | some i => match r.st.nodes[i]? with
      | some y => if y.status ≠ 2 ∨ y.tr ≠ q.tr then (r, 12) else (failR nm ns r i timeoutB, 0)
      | none => (r, 6)

def childR (nm : ByteArray) (ns : List Nd) (r : Rn) (q : Inp) : Rn × Int := match findK ns r.st q.node [3] with
  | none => (r, 6)
  | some i => match ns[i]?, r.st.nodes[i]? with
    | some n, some y => if y.status ≠ 2 then (r, 12) else if q.status = 2 then (goOnP nm ns (evR nm ns r ⟨10, n.name, q.text, 0⟩), 0) else (closedR nm ns (evR nm ns r ⟨6, n.name, q.text, 0⟩) 3 q.text, 0)
    | _, _ => (r, 6)

section
variable {nm : ByteArray} {ns : List Nd} {r : Rn}

/-- A node that was found: itself, its standing, its name. -/
theorem found {s : St} {x : ByteArray} {ks : List Int} {i : Nat} (h : findK ns s x ks = some i) : ∃ n y, ns[i]? = some n ∧ s.nodes[i]? = some y ∧ n.name = x ∧ findP ns n.name = some i ∧ ks.contains n.kind = true := by
  obtain ⟨h1, h2, h3, h4⟩ := findK_some h
  have hn := findP_name h3
  exact ⟨ns[i], s.nodes[i], List.getElem?_eq_getElem h1, List.getElem?_eq_getElem h2, hn, by rw [hn]; exact h3, h4⟩

theorem closed_behind (F : Fine ns r.st) (hs : r.st.status = 1) {e : Ev} {i : Nat} {n : Nd} {y : Ns} {m : Mv} (hf : findP ns e.node = some i) (hn : ns[i]? = some n) (hy : r.st.nodes[i]? = some y) (hm : moveP e.kind n.kind y.status = some m) (hk : e.kind = 6) (hd : m.txt = true → m.dst = 3 ∨ m.dst = 4) (hyt : y.text = ⟨#[]⟩) {st : Int} {tx : ByteArray} (hst : st = 2 ∨ st = 3 ∨ st = 4) :
    closedR nm ns (evR nm ns r e) st tx = endP nm ns (tellP nm ns r e []) st tx := by
  have hc := changeP_fit1 (nm := nm) hs hf hn hy hm (by rw [hk]; decide) (by rw [hk]; decide) (by rw [hk]; decide) (by rw [hk]; decide)
  rw [ev_tell0 F.bare hc]
  refine closed_same ?_ ?_ hst
  · rw [tell_fit hc]
    exact fun z hz h => setNode_bare F.bare rfl hd (fun w hw => by rw [hy] at hw; cases hw; exact hyt) z hz h
  · rw [tell_fit hc]; exact hs

theorem fail_same (F : Fine ns r.st) (hs : r.st.status = 1) {i : Nat} {n : Nd} {y : Ns} (hf : findP ns n.name = some i) (hn : ns[i]? = some n) (hk : n.kind = 1) (hy : r.st.nodes[i]? = some y) (hy2 : y.status = 2) (tx : ByteArray) : failR nm ns r i tx = failTryP nm ns r i tx := by
  unfold failR failTryP
  rw [hn, hy]
  dsimp only
  by_cases h : y.tr < n.tries
  · rw [if_pos h, if_neg (by omega)]
    exact ev_tell1 F.bare (changeP_fit1 (m := ⟨5, 1, 2, 1, false⟩) hs hf hn hy (by rw [hk, hy2]; rfl) (by simp) (by simp) (by simp) (by simp)) _
  · rw [if_neg h, if_pos (by omega)]
    unfold breakP
    exact closed_behind F hs hf hn hy (m := ⟨6, 0, 2, 4, true⟩) (by rw [hy2, moveP_is]; simp) rfl (fun _ => .inr rfl) (F.bare y (List.mem_of_getElem? hy) (.inr (.inr hy2))) (.inr (.inl rfl))

theorem child_same (F : Fine ns r.st) (hs : r.st.status = 1) (q : Inp) : childR nm ns r q = kidP nm ns r q := by
  unfold childR kidP busyP
  cases h : findK ns r.st q.node [3] with
  | none => rfl
  | some i =>
    obtain ⟨n, y, hn, hy, hnm, hf, hk⟩ := found h
    have hk3 : n.kind = 3 := by simpa using hk
    dsimp only
    rw [hn, hy]
    dsimp only
    have hb : busyB ns r.st i q.tr = (y.status == 2) := by unfold busyB; rw [hn, hy]; simp [hk3]
    rw [hb]
    by_cases h2 : y.status = 2
    · rw [if_neg (c := y.status ≠ 2) (by simp [h2]), if_pos (c := (y.status == 2) = true) (by simp [h2])]
      dsimp only
      rw [if_neg (c := (0 : Int) ≠ 0) (by decide)]
      by_cases hq : q.status = 2
      · rw [if_pos hq, if_neg (c := q.status ≠ 2) (by simp [hq]), ev_tell0 F.bare (changeP_fit1 (m := ⟨10, 3, 2, 3, true⟩) hs (e := ⟨10, n.name, q.text, 0⟩) hf hn hy (by rw [hk3, h2]; rfl) (by simp) (by simp) (by simp) (by simp)), hnm]
      · rw [if_neg hq, if_pos hq]
        have := closed_behind (nm := nm) F hs (e := ⟨6, n.name, q.text, 0⟩) hf hn hy (m := ⟨6, 0, 2, 4, true⟩) (by rw [h2, moveP_is]; simp) rfl (fun _ => .inr rfl) (F.bare y (List.mem_of_getElem? hy) (.inr (.inr h2))) (st := 3) (tx := q.text) (.inr (.inl rfl))
        rw [this]
        unfold breakP
        rw [hnm]
    · rw [if_pos h2, if_neg (c := (y.status == 2) = true) (by simp [h2])]
      rfl

theorem activity_same (F : Fine ns r.st) (hs : r.st.status = 1) (q : Inp) (hw : r.now = q.now) : (q.kind = 3 → activityR nm ns r q = takeP nm ns r q) ∧ (q.kind = 4 → activityR nm ns r q = completeP nm ns r q) ∧ (q.kind = 5 → activityR nm ns r q = failP nm ns r q) := by
  unfold activityR takeP completeP failP busyP
  cases h : findK ns r.st q.node [1] with
  | none => exact ⟨fun _ => rfl, fun _ => rfl, fun _ => rfl⟩
  | some i =>
    obtain ⟨n, y, hn, hy, hnm, hf, hk⟩ := found h
    have hk1 : n.kind = 1 := by simpa using hk
    dsimp only
    rw [hn, hy]
    dsimp only
    have hb : busyB ns r.st i q.tr = ((y.status == 2) && (y.tr == q.tr)) := by unfold busyB; rw [hn, hy]; simp [hk1]
    rw [hb]
    refine ⟨fun hq => ?_, fun hq => ?_, fun hq => ?_⟩
    · rw [if_pos hq]
      by_cases h1 : y.status = 1
      · rw [if_neg (c := y.status ≠ 1) (by simp [h1]), if_pos h1]
        unfold alarmL
        have hc := changeP_fit1 (nm := nm) (m := ⟨3, 1, 1, 2, false⟩) hs (e := ⟨3, n.name, ⟨#[]⟩, IntKind.i64.wrap (y.tr + 1)⟩) hf hn hy (by rw [hk1, h1]; rfl) (by simp) (by simp) (by simp) (by simp)
        by_cases hd : 0 < n.delay
        · rw [if_pos hd, if_pos hd, ev_tell1 F.bare hc, hnm, hw]
        · rw [if_neg hd, if_neg hd, ev_tell0 F.bare hc, hnm]
      · rw [if_pos h1, if_neg h1]
    · rw [if_neg (show ¬ q.kind = 3 by omega)]
      by_cases hz : y.status = 2 ∧ y.tr = q.tr
      · rw [if_neg (c := y.status ≠ 2 ∨ y.tr ≠ q.tr) (by simp [hz.1, hz.2]), if_pos (c := ((y.status == 2) && (y.tr == q.tr)) = true) (by simp [hz.1, hz.2])]
        dsimp only
        rw [if_neg (c := (0 : Int) ≠ 0) (by decide)]
        by_cases hl : 256 < q.text.size
        · rw [if_pos hl, if_pos hl]
        · rw [if_neg hl, if_neg hl, if_neg (show ¬ q.kind = 5 by omega), ev_tell0 F.bare (changeP_fit1 (m := ⟨4, 1, 2, 3, true⟩) hs (e := ⟨4, n.name, q.text, 0⟩) hf hn hy (by rw [hk1, hz.1]; rfl) (by simp) (by simp) (by simp) (by simp)), hnm]
      · have hz1 : y.status ≠ 2 ∨ y.tr ≠ q.tr := by omega
        have hz2 : ¬ ((y.status == 2) && (y.tr == q.tr)) = true := by simp; omega
        rw [if_pos hz1, if_neg hz2]
        rfl
    · rw [if_neg (show ¬ q.kind = 3 by omega)]
      by_cases hz : y.status = 2 ∧ y.tr = q.tr
      · rw [if_neg (c := y.status ≠ 2 ∨ y.tr ≠ q.tr) (by simp [hz.1, hz.2]), if_pos (c := ((y.status == 2) && (y.tr == q.tr)) = true) (by simp [hz.1, hz.2])]
        dsimp only
        rw [if_neg (c := (0 : Int) ≠ 0) (by decide)]
        by_cases hl : 256 < q.text.size
        · rw [if_pos hl, if_pos hl]
        · rw [if_neg hl, if_neg hl, if_pos hq, fail_same F hs hf hn hk1 hy hz.1]
      · have hz1 : y.status ≠ 2 ∨ y.tr ≠ q.tr := by omega
        have hz2 : ¬ ((y.status == 2) && (y.tr == q.tr)) = true := by simp; omega
        rw [if_pos hz1, if_neg hz2]
        rfl

end

end Go.Proofs.YtdecceekodpjiaaDoor

/-
  The document's Step, as data: it is the program's.
-/
namespace Go.Proofs.YtdecceekodpjiaaDoor
open Go.RowKit

def signalR (nm : ByteArray) (ns : List Nd) (r : Rn) (q : Inp) : Rn × Int :=
  if nameP q.name = false then (r, 17)
  else if 256 < q.text.size then (r, 9)
  else match busyWaitP ns r.st q.name with
    | some i => (goOnP nm ns (evR nm ns r ⟨12, nmAt ns i, q.text, 0⟩), 0)
    | none => if 32 ≤ r.st.sigs.length then (r, 8) else (evR nm ns r ⟨13, q.name, q.text, 0⟩, 0)

def doesR (nm : ByteArray) (ns : List Nd) (r : Rn) (q : Inp) : Rn × Int :=
  if q.kind = 1 then (if r.st.status ≠ 0 then (r, 7) else (goOnP nm ns (evR nm ns { r with st := { r.st with id := q.name } } ⟨1, q.pnode, q.par, 0⟩), 0))
  else if r.st.status = 0 then (r, 6)
  else if r.st.status ≠ 1 then (r, 11)
  else if q.kind = 2 then signalR nm ns r q
  else if q.kind = 3 ∨ q.kind = 4 ∨ q.kind = 5 then activityR nm ns r q
  else if q.kind = 6 then fireR nm ns r q
  else if q.kind = 7 then childR nm ns r q
  else if q.kind = 8 then (if 256 < q.text.size then (r, 9) else (closedR nm ns r 4 q.text, 0))
  else (r, 1)

section
variable {nm : ByteArray} {ns : List Nd} {r : Rn}

/-- A node of one of two kinds. -/
theorem find_two {s : St} {x : ByteArray} {a b : Int} : findK ns s x [a, b] = (match findK ns s x [b] with | some i => some i | none => findK ns s x [a]) := by
  unfold findK
  cases findP ns x with
  | none => rfl
  | some i =>
    dsimp only
    cases ns[i]? with
    | none => rfl
    | some n =>
      dsimp only
      by_cases hl : i < s.nodes.length
      · by_cases hb : n.kind = b
        · simp [hl, hb]
        · by_cases ha : n.kind = a
          · have hab : ¬ a = b := fun h => hb (ha.trans h)
            simp [hl, ha, hab]
          · simp [hl, ha, hb]
      · simp [hl]

theorem fire_same (F : Fine ns r.st) (hs : r.st.status = 1) (q : Inp) : fireR nm ns r q = fireP nm ns r q := by
  unfold fireR fireP
  cases h : findK ns r.st q.node [2] with
  | some i =>
    obtain ⟨n, y, hn, hy, hnm, hf, hk⟩ := found h
    have hk2 : n.kind = 2 := by simpa using hk
    have hb : busyB ns r.st i q.tr = (y.status == 2) := by unfold busyB; rw [hn, hy]; simp [hk2]
    have hbp : busyP ns r.st q [1, 2] = if (y.status == 2) = true then (i, 0) else (0, 12) := by unfold busyP; rw [find_two, h]; dsimp only; rw [hb]
    rw [hbp]
    dsimp only
    rw [hn, hy]
    dsimp only
    by_cases h2 : y.status = 2
    · rw [if_neg (c := y.status ≠ 2) (by simp [h2]), if_pos (c := (y.status == 2) = true) (by simp [h2])]
      dsimp only
      rw [if_neg (c := (0 : Int) ≠ 0) (by decide), if_neg (c := kindAt ns i = 1) (by unfold kindAt; rw [hn]; dsimp only; rw [hk2]; decide),
        ev_tell0 F.bare (changeP_fit1 (m := ⟨8, 2, 2, 3, false⟩) hs (e := ⟨8, n.name, ⟨#[]⟩, 0⟩) hf hn hy (by rw [hk2, h2]; rfl) (by simp) (by simp) (by simp) (by simp)), hnm]
    · rw [if_pos h2, if_neg (c := (y.status == 2) = true) (by simp [h2])]
      rfl
  | none =>
    cases h1 : findK ns r.st q.node [1] with
    | none =>
      have hbp : busyP ns r.st q [1, 2] = (0, 6) := by unfold busyP; rw [find_two, h]; dsimp only; rw [h1]
      rw [hbp]
      rfl
    | some i =>
      obtain ⟨n, y, hn, hy, hnm, hf, hk⟩ := found h1
      have hk1 : n.kind = 1 := by simpa using hk
      have hb : busyB ns r.st i q.tr = ((y.status == 2) && (y.tr == q.tr)) := by unfold busyB; rw [hn, hy]; simp [hk1]
      have hbp : busyP ns r.st q [1, 2] = if ((y.status == 2) && (y.tr == q.tr)) = true then (i, 0) else (0, 12) := by unfold busyP; rw [find_two, h]; dsimp only; rw [h1]; dsimp only; rw [hb]
      rw [hbp]
      dsimp only
      rw [hy]
      dsimp only
      by_cases hz : y.status = 2 ∧ y.tr = q.tr
      · rw [if_neg (c := y.status ≠ 2 ∨ y.tr ≠ q.tr) (by simp [hz.1, hz.2]), if_pos (c := ((y.status == 2) && (y.tr == q.tr)) = true) (by simp [hz.1, hz.2])]
        dsimp only
        rw [if_neg (c := (0 : Int) ≠ 0) (by decide), if_pos (c := kindAt ns i = 1) (by unfold kindAt; rw [hn]; exact hk1), fail_same F hs hf hn hk1 hy hz.1]
      · have hz1 : y.status ≠ 2 ∨ y.tr ≠ q.tr := by omega
        have hz2 : ¬ ((y.status == 2) && (y.tr == q.tr)) = true := by simp; omega
        rw [if_pos hz1, if_neg hz2]
        rfl

theorem changeP_busy (hs : r.st.status = 1) {i : Nat} {n : Nd} {y : Ns} (hf : findP ns n.name = some i) (hn : ns[i]? = some n) (hk : n.kind = 4) (hy : r.st.nodes[i]? = some y) (hy2 : y.status = 2) (tx : ByteArray) :
    changeP nm ns r.st ⟨12, n.name, tx, 0⟩ = some { r.st with nodes := setNode r.st.nodes i ⟨12, 4, 2, 3, true⟩ ⟨12, n.name, tx, 0⟩, events := r.st.events + 1 } := by
  have hc : changeNodeP ns r.st ⟨12, n.name, tx, 0⟩ = some { r.st with nodes := setNode r.st.nodes i ⟨12, 4, 2, 3, true⟩ ⟨12, n.name, tx, 0⟩ } := by
    unfold changeNodeP
    dsimp only
    rw [hf]
    dsimp only
    have hmv : nodeMove ns r.st ⟨12, n.name, tx, 0⟩ i = some ⟨12, 4, 2, 3, true⟩ := by unfold nodeMove; rw [hn, hy]; dsimp only; rw [hk, hy2]; rfl
    rw [hmv]
    rfl
  unfold changeP
  dsimp only
  rw [if_neg (c := r.st.status ≠ (if (12 : Int) = 1 then 0 else 1)) (by rw [hs]; decide), if_neg (c := (12 : Int) = 1) (by decide), if_neg (c := (12 : Int) = 13) (by decide), if_neg (c := (12 : Int) = 15) (by decide), hc]
  rfl

theorem signal_same (S : Sound ns) (F : Fine ns r.st) (hs : r.st.status = 1) (q : Inp) : signalR nm ns r q = signalP nm ns r q := by
  unfold signalR signalP
  by_cases h1 : nameP q.name = false
  · rw [if_pos h1, if_pos h1]
  rw [if_neg h1, if_neg h1]
  by_cases h2 : 256 < q.text.size
  · rw [if_pos h2, if_pos h2]
  rw [if_neg h2, if_neg h2]
  cases hb : busyWaitP ns r.st q.name with
  | some i =>
    have hw := List.find?_some hb
    unfold waitB at hw
    split at hw
    · rename_i n y hn hy
      rw [Bool.and_eq_true, Bool.and_eq_true] at hw
      obtain ⟨a1, _, a3⟩ := hw
      have hnm : nmAt ns i = n.name := by unfold nmAt; rw [hn]
      dsimp only
      rw [hnm, ev_tell0 F.bare (changeP_busy hs (S.find i n hn) hn (by simpa using a1) hy (by simpa using a3) q.text)]
    · cases hw
  | none =>
    dsimp only
    by_cases h3 : 32 ≤ r.st.sigs.length
    · rw [if_pos h3, if_pos h3]
    · rw [if_neg h3, if_neg h3]
      have hc : changeP nm ns r.st ⟨13, q.name, q.text, 0⟩ = some { r.st with sigs := r.st.sigs ++ [⟨q.name, q.text⟩], events := r.st.events + 1 } := by
        unfold changeP
        dsimp only
        rw [if_neg (c := r.st.status ≠ (if (13 : Int) = 1 then 0 else 1)) (by rw [hs]; decide), if_neg (c := (13 : Int) = 1) (by decide), if_pos (c := (13 : Int) = 13) rfl]
      rw [ev_tell0 F.bare hc]

/-- The document's answer to an input is the program's: of a state that is reached, or none. -/
theorem does_same (S : Sound ns) (F : r.st.status = 1 → Fine ns r.st) (hB : Bare r.st) (q : Inp) (hw : r.now = q.now) : doesR nm ns r q = doP nm ns r q := by
  unfold doesR doP
  by_cases k1 : q.kind = 1
  · rw [if_pos k1, if_pos k1]
    unfold startP
    by_cases h0 : r.st.status ≠ 0
    · rw [if_pos h0, if_pos h0]
    · rw [if_neg h0, if_neg h0]
      have h0' : r.st.status = 0 := Classical.not_not.1 h0
      have hc : changeP nm ns { r.st with id := q.name } ⟨1, q.pnode, q.par, 0⟩ = some { r.st with id := q.name, status := 1, dfn := nm, par := q.par, pnode := q.pnode, nodes := List.replicate ns.length ⟨0, 0, ⟨#[]⟩⟩, events := r.st.events + 1 } := by
        unfold changeP
        dsimp only
        rw [if_neg (c := r.st.status ≠ (if (1 : Int) = 1 then 0 else 1)) (by rw [h0']; decide), if_pos (c := (1 : Int) = 1) rfl]
      rw [ev_tell0 (r := { r with st := { r.st with id := q.name } }) hB hc]
  rw [if_neg k1, if_neg k1]
  by_cases h0 : r.st.status = 0
  · rw [if_pos h0, if_pos h0]
  rw [if_neg h0, if_neg h0]
  by_cases h1 : r.st.status ≠ 1
  · rw [if_pos h1, if_pos h1]
  rw [if_neg h1, if_neg h1]
  have hs : r.st.status = 1 := Classical.not_not.1 h1
  have F1 := F hs
  by_cases k2 : q.kind = 2
  · rw [if_pos k2, if_pos k2]; exact signal_same S F1 hs q
  rw [if_neg k2, if_neg k2]
  obtain ⟨a3, a4, a5⟩ := activity_same (nm := nm) F1 hs q hw
  by_cases k3 : q.kind = 3
  · rw [if_pos (.inl k3), if_pos k3]; exact a3 k3
  by_cases k4 : q.kind = 4
  · rw [if_pos (.inr (.inl k4)), if_neg k3, if_pos k4]; exact a4 k4
  by_cases k5 : q.kind = 5
  · rw [if_pos (.inr (.inr k5)), if_neg k3, if_neg k4, if_pos k5]; exact a5 k5
  rw [if_neg (by omega), if_neg k3, if_neg k4, if_neg k5]
  by_cases k6 : q.kind = 6
  · rw [if_pos k6, if_pos k6]; exact fire_same F1 hs q
  rw [if_neg k6, if_neg k6]
  by_cases k7 : q.kind = 7
  · rw [if_pos k7, if_pos k7]; exact child_same F1 hs q
  rw [if_neg k7, if_neg k7]
  by_cases k8 : q.kind = 8
  · rw [if_pos k8, if_pos k8]
    unfold cancelP
    by_cases hl : 256 < q.text.size
    · rw [if_pos hl, if_pos hl]
    · rw [if_neg hl, if_neg hl, closed_same F1.bare hs (.inr (.inr rfl))]
  · rw [if_neg k8, if_neg k8]

end

end Go.Proofs.YtdecceekodpjiaaDoor

/-
  What is reached stays fine: a state behind an input is one that is reached.
-/
namespace Go.Proofs.YtdecceekodpjiaaDoor
open Go.RowKit

section
variable {nm : ByteArray} {ns : List Nd} {r : Rn}

theorem moves_txt : ∀ m ∈ movesL, (m.txt = true → m.dst = 3 ∨ m.dst = 4) ∧ (m.src = 0 ∨ m.src = 1 ∨ m.src = 2) := by
  intro m hm
  simp only [movesL, List.mem_cons, List.not_mem_nil, or_false] at hm
  rcases hm with rfl | rfl | rfl | rfl | rfl | rfl | rfl | rfl | rfl | rfl | rfl | rfl | rfl | rfl <;> decide

theorem changeP_bare {s t : St} {e : Ev} (hB : Bare s) (h : changeP nm ns s e = some t) : Bare t := by
  unfold changeP at h
  by_cases hst : s.status ≠ (if e.kind = 1 then 0 else 1)
  · rw [if_pos hst] at h
    cases h
  rw [if_neg hst] at h
  split at h
  · cases h
    intro y hy _
    have hy2 := (List.mem_replicate.1 hy).2
    rw [hy2]
  split at h
  · cases h; exact hB
  split at h
  · split at h
    · cases h; exact hB
    · cases h
  · cases hc : changeNodeP ns s e with
    | none => rw [hc] at h; cases h
    | some u =>
      rw [hc] at h
      cases h
      unfold changeNodeP at hc
      split at hc
      · cases hc
      split at hc
      · cases hc
      split at hc
      · cases hc
      · rename_i i _ _ m hm _ l hl
        cases hc
        have hmv : m ∈ movesL ∧ ∀ x, s.nodes[i]? = some x → x.status = m.src := by
          unfold nodeMove at hm
          split at hm
          · rename_i n y hn hy
            obtain ⟨h1, h2⟩ := moveP_src hm
            exact ⟨h1, fun x hx => by rw [hy] at hx; cases hx; exact h2.symm⟩
          · cases hm
        obtain ⟨g1, g2⟩ := moves_txt m hmv.1
        exact setNode_bare hB rfl g1 (fun x hx => hB x (List.mem_of_getElem? hx) (by rw [hmv.2 x hx]; exact g2))

theorem tellP_bare {e : Ev} {ts : List Tk} (hB : Bare r.st) : Bare (tellP nm ns r e ts).st := by
  unfold tellP
  split
  · exact hB
  · rename_i t ht
    exact changeP_bare hB ht

theorem endP_bare {st : Int} {tx : ByteArray} (hB : Bare r.st) : Bare (endP nm ns r st tx).st := tellP_bare hB
theorem breakP_bare {x tx : ByteArray} (hB : Bare r.st) : Bare (breakP nm ns r x tx).st := endP_bare (tellP_bare hB)

theorem beginP_bare {x : Nd} (hB : Bare r.st) : Bare (beginP nm ns r x).st := by
  unfold beginP askP waitP
  repeat' split
  all_goals first
    | exact breakP_bare hB
    | exact hB
    | exact tellP_bare hB

theorem goRow_bare : ∀ (l : List Nat) (r : Rn), Bare r.st → Bare (goRow nm ns r l).1.st
  | [], r, hB => hB
  | i :: l, r, hB => by
    unfold goRow
    split
    · exact hB
    · split
      · exact beginP_bare hB
      · split
        · exact beginP_bare hB
        · exact goRow_bare l _ (beginP_bare hB)

theorem goP_keeps : ∀ (f : Nat) (r : Rn), Bare r.st → Bare (goP nm ns f r).st ∧ Grow r.st (goP nm ns f r).st
  | 0, r, hB => ⟨hB, Grow.refl _⟩
  | f + 1, r, hB => by
    unfold goP
    have b1 := goRow_bare (nm := nm) (ns := ns) (goReady ns r) r hB
    have g1 := goRow_grow (nm := nm) (ns := ns) (goReady ns r) r
    cases hg : goRow nm ns r (goReady ns r) with
    | mk r1 w =>
      rw [hg] at b1 g1
      cases w with
      | stop => exact ⟨b1, g1⟩
      | again =>
        obtain ⟨b2, g2⟩ := goP_keeps f r1 b1
        exact ⟨b2, g1.trans g2⟩
      | through =>
        dsimp only
        split
        · exact ⟨endP_bare b1, g1.trans endP_grow⟩
        · exact ⟨b1, g1⟩

theorem tellGo_keeps {e : Ev} (he : e.kind ≠ 1) (hB : Bare r.st) : Bare (goOnP nm ns (tellP nm ns r e [])).st ∧ Grow r.st (goOnP nm ns (tellP nm ns r e [])).st := by
  obtain ⟨b, g⟩ := goP_keeps (nm := nm) (ns := ns) (restC (tellP nm ns r e []).st.nodes + 1) (tellP nm ns r e []) (tellP_bare hB)
  exact ⟨b, (tellP_grow he).trans g⟩

theorem failTry_keeps {i : Nat} {tx : ByteArray} (hB : Bare r.st) : Bare (failTryP nm ns r i tx).st ∧ Grow r.st (failTryP nm ns r i tx).st := by
  unfold failTryP
  repeat' split
  · exact ⟨breakP_bare hB, breakP_grow⟩
  · exact ⟨tellP_bare hB, tellP_grow (by simp)⟩
  · exact ⟨hB, Grow.refl _⟩

/-- An input that is no start keeps all that a state is fine by. -/
theorem doP_keeps (q : Inp) (hq : q.kind ≠ 1) (hB : Bare r.st) : Bare (doP nm ns r q).1.st ∧ Grow r.st (doP nm ns r q).1.st := by
  unfold doP
  rw [if_neg hq]
  split
  · exact ⟨hB, Grow.refl _⟩
  split
  · exact ⟨hB, Grow.refl _⟩
  split
  · unfold signalP
    repeat' split
    · exact ⟨hB, Grow.refl _⟩
    · exact ⟨hB, Grow.refl _⟩
    · exact tellGo_keeps (by simp) hB
    · exact ⟨hB, Grow.refl _⟩
    · exact ⟨tellP_bare hB, tellP_grow (by simp)⟩
  split
  · unfold takeP
    repeat' split
    · exact ⟨hB, Grow.refl _⟩
    · exact ⟨tellP_bare hB, tellP_grow (by simp)⟩
    · exact ⟨hB, Grow.refl _⟩
    · exact ⟨hB, Grow.refl _⟩
  split
  · unfold completeP
    repeat' split
    · exact ⟨hB, Grow.refl _⟩
    · exact ⟨hB, Grow.refl _⟩
    · exact tellGo_keeps (by simp) hB
  split
  · unfold failP
    repeat' split
    · exact ⟨hB, Grow.refl _⟩
    · exact ⟨hB, Grow.refl _⟩
    · exact failTry_keeps hB
  split
  · unfold fireP
    repeat' split
    · exact ⟨hB, Grow.refl _⟩
    · exact failTry_keeps hB
    · exact tellGo_keeps (by simp) hB
  split
  · unfold kidP
    repeat' split
    · exact ⟨hB, Grow.refl _⟩
    · exact ⟨breakP_bare hB, breakP_grow⟩
    · exact tellGo_keeps (by simp) hB
  split
  · unfold cancelP
    split
    · exact ⟨hB, Grow.refl _⟩
    · exact ⟨endP_bare hB, endP_grow⟩
  · exact ⟨hB, Grow.refl _⟩

/-- What may be reached: nothing yet, or a fine state. -/
def Met (ns : List Nd) (s : St) : Prop := Bare s ∧ (s.status ≠ 0 → s.nodes.length = ns.length)

theorem startP_met (q : Inp) (hB : Bare r.st) (h0 : r.st.status = 0) : Met ns (startP nm ns r q).1.st := by
  unfold startP
  rw [if_neg (by simp [h0])]
  have hb2 : Bare ({ r with st := { r.st with id := q.name } } : Rn).st := hB
  obtain ⟨b, g⟩ := goP_keeps (nm := nm) (ns := ns) (restC (tellP nm ns { r with st := { r.st with id := q.name } } ⟨1, q.pnode, q.par, 0⟩ []).st.nodes + 1) _ (tellP_bare (e := ⟨1, q.pnode, q.par, 0⟩) (ts := []) hb2)
  refine ⟨b, fun _ => ?_⟩
  have hc : changeP nm ns { r.st with id := q.name } ⟨1, q.pnode, q.par, 0⟩ = some { r.st with id := q.name, status := 1, dfn := nm, par := q.par, pnode := q.pnode, nodes := List.replicate ns.length ⟨0, 0, ⟨#[]⟩⟩, events := r.st.events + 1 } := by
    unfold changeP
    dsimp only
    rw [if_neg (c := r.st.status ≠ (if (1 : Int) = 1 then 0 else 1)) (by rw [h0]; decide), if_pos (c := (1 : Int) = 1) rfl]
  have h3 : (List.replicate ns.length (⟨0, 0, ⟨#[]⟩⟩ : Ns)).length = ns.length := List.length_replicate
  have hn := congrArg (fun t : St => t.nodes.length) (tell_fit (ts := []) (r := { r with st := { r.st with id := q.name } }) hc)
  exact g.len.trans (hn.trans h3)

theorem doP_met (q : Inp) (M : Met ns r.st) : Met ns (doP nm ns r q).1.st := by
  by_cases hq : q.kind = 1
  · unfold doP
    rw [if_pos hq]
    by_cases h0 : r.st.status = 0
    · exact startP_met q M.1 h0
    · unfold startP
      rw [if_pos h0]
      exact M
  · by_cases h0 : r.st.status = 0
    · have : doP nm ns r q = (r, 6) := by unfold doP; rw [if_neg hq, if_pos h0]
      rw [this]
      exact M
    · obtain ⟨b, g⟩ := doP_keeps (nm := nm) (ns := ns) (r := r) q hq M.1
      exact ⟨b, fun _ => g.len.trans (M.2 h0)⟩

/-- The document's Step is the program's, of every state that is met. -/
theorem step_same (S : Sound ns) {s : St} (M : Met ns s) (q : Inp) : doesR nm ns ⟨s, q.now, [], []⟩ q = stepP nm ns s q :=
  does_same S (fun h => ⟨M.2 (by show s.status ≠ 0; rw [show s.status = 1 from h]; decide), M.1⟩) M.1 q rfl

end

end Go.Proofs.YtdecceekodpjiaaDoor

/-
  HistoryRoots as data: what the law asks behind a start.
-/
namespace Go.Proofs.YtdecceekodpjiaaDoor
open Go.RowKit

section
variable {nm : ByteArray} {ns : List Nd}

/-- What is reached by telling events that are no starts. -/
inductive Tolds (nm : ByteArray) (ns : List Nd) : Rn → Rn → Prop where
  | none {r : Rn} : Tolds nm ns r r
  | tell {r r' : Rn} {e : Ev} {ts : List Tk} : e.kind ≠ 1 → Tolds nm ns (tellP nm ns r e ts) r' → Tolds nm ns r r'

theorem Tolds.trans {r r1 r2 : Rn} (h : Tolds nm ns r r1) (h2 : Tolds nm ns r1 r2) : Tolds nm ns r r2 := by
  induction h with
  | none => exact h2
  | tell he _ ih => exact .tell he (ih h2)

theorem told1 {r : Rn} {e : Ev} {ts : List Tk} (he : e.kind ≠ 1) : Tolds nm ns r (tellP nm ns r e ts) := .tell he .none

theorem endP_told {r : Rn} {st : Int} {tx : ByteArray} : Tolds nm ns r (endP nm ns r st tx) := told1 (by show (15 : Int) ≠ 1; decide)
theorem breakP_told {r : Rn} {x tx : ByteArray} : Tolds nm ns r (breakP nm ns r x tx) := (told1 (by show (6 : Int) ≠ 1; decide)).trans endP_told
theorem beginP_told {r : Rn} {x : Nd} : Tolds nm ns r (beginP nm ns r x) := by
  unfold beginP askP waitP
  repeat' split
  all_goals first
    | exact breakP_told
    | exact .none
    | exact told1 (by simp)

theorem goRow_told : ∀ (l : List Nat) (r : Rn), Tolds nm ns r (goRow nm ns r l).1
  | [], r => .none
  | i :: l, r => by
    unfold goRow
    split
    · exact .none
    · split
      · exact beginP_told
      · split
        · exact beginP_told
        · exact beginP_told.trans (goRow_told l _)

theorem goP_told : ∀ (f : Nat) (r : Rn), Tolds nm ns r (goP nm ns f r)
  | 0, r => .none
  | f + 1, r => by
    unfold goP
    have g1 := goRow_told (nm := nm) (ns := ns) (goReady ns r) r
    cases hg : goRow nm ns r (goReady ns r) with
    | mk r1 w =>
      rw [hg] at g1
      cases w with
      | stop => exact g1
      | again => exact g1.trans (goP_told f r1)
      | through =>
        dsimp only
        split
        · exact g1.trans endP_told
        · exact g1

theorem goOnP_told {r : Rn} : Tolds nm ns r (goOnP nm ns r) := goP_told _ _

theorem changeP_more {s s' : St} {e : Ev} (h : changeP nm ns s e = some s') : s'.events = s.events + 1 ∧ s'.sigs.length ≤ s.sigs.length + 1 := by
  unfold changeP at h
  by_cases hst : s.status ≠ (if e.kind = 1 then 0 else 1)
  · rw [if_pos hst] at h
    cases h
  rw [if_neg hst] at h
  split at h
  · cases h
    exact ⟨rfl, Nat.le_succ _⟩
  split at h
  · cases h
    exact ⟨rfl, by simp⟩
  split at h
  · split at h
    · cases h
      exact ⟨rfl, Nat.le_succ _⟩
    · cases h
  · cases hc : changeNodeP ns s e with
    | none => rw [hc] at h; cases h
    | some t =>
      rw [hc] at h
      cases h
      unfold changeNodeP at hc
      split at hc
      · cases hc
      split at hc
      · cases hc
      split at hc
      · cases hc
      · rename_i l hl
        cases hc
        refine ⟨rfl, ?_⟩
        split at hl
        · exact Nat.le_succ_of_le (receiveP_len hl)
        · cases hl
          exact Nat.le_succ _

/-- Each event counts once; and keeps at most one signal. -/
theorem Tolds.count {r r' : Rn} (h : Tolds nm ns r r') : r'.st.events - r'.evs.length = r.st.events - r.evs.length ∧ (r'.st.sigs.length : Int) - r'.evs.length ≤ (r.st.sigs.length : Int) - r.evs.length ∧ r.evs.length ≤ r'.evs.length := by
  induction h with
  | none => exact ⟨rfl, Int.le_refl _, Nat.le_refl _⟩
  | @tell r r' e ts he _ ih =>
    obtain ⟨h1, h2, h3⟩ := ih
    rw [h1]
    unfold tellP at h2 h3 ⊢
    cases hc : changeP nm ns r.st e with
    | none => rw [hc] at h2 h3; exact ⟨rfl, h2, h3⟩
    | some s =>
      rw [hc] at h2 h3
      obtain ⟨c1, c2⟩ := changeP_more hc
      simp only [List.length_append, List.length_singleton] at h2 h3 ⊢
      refine ⟨by rw [c1]; omega, by omega, by omega⟩

/-- The state behind the first event. -/
def startR (nm : ByteArray) (ns : List Nd) (q : Inp) : Rn := ⟨⟨nm, q.name, q.par, q.pnode, 1, ⟨#[]⟩, List.replicate ns.length ⟨0, 0, ⟨#[]⟩⟩, [], 1⟩, q.now, [⟨1, q.pnode, q.par, 0⟩], []⟩

theorem start_is (q : Inp) (hq : q.kind = 1) : stepP nm ns ⟨⟨#[]⟩, ⟨#[]⟩, ⟨#[]⟩, ⟨#[]⟩, 0, ⟨#[]⟩, [], [], 0⟩ q = (goOnP nm ns (startR nm ns q), 0) := by
  unfold stepP doP
  rw [if_pos hq]
  rfl

theorem startR_fine (q : Inp) : Fine ns (startR nm ns q).st := by
  refine ⟨by show (List.replicate ns.length _).length = _; simp, fun y hy _ => ?_⟩
  have : y ∈ List.replicate ns.length (⟨0, 0, ⟨#[]⟩⟩ : Ns) := hy
  rw [List.mem_replicate] at this
  rw [this.2]

theorem startR_roots (q : Inp) : Roots q.now ns (startR nm ns q) := by
  have h0 : ∀ (i : Nat) (y : Ns), (startR nm ns q).st.nodes[i]? = some y → y.status = 0 := fun i y h => by
    have h : (List.replicate ns.length (⟨0, 0, ⟨#[]⟩⟩ : Ns))[i]? = some y := h
    have := List.mem_of_getElem? h
    rw [List.mem_replicate] at this
    rw [this.2]
  refine ⟨startR_fine q, rfl, fun i x y _ hy h => absurd (h0 i y hy) h, fun i x y _ hy => ?_, fun e he h7 => ?_⟩
  · rw [if_pos (h0 i y hy)]
    unfold beganC startR
    simp
  · have he : e ∈ [(⟨1, q.pnode, q.par, 0⟩ : Ev)] := he
    rw [List.mem_singleton] at he
    rw [he] at h7
    cases h7

/-- What the law asks of each node. -/
def freeB (ns : List Nd) (l : List Ns) (x : Nd) : Bool := x.after.all (fun s => (List.range ns.length).all (fun j => match ns[j]?, l[j]? with | some z, some y => !(decide (z.name = s)) || y.status == 3 | _, _ => true))

theorem free_over {l : List Ns} (S : Sound ns) {x : Nd} (h : overP ns x (overL l) = true) : freeB ns l x = true := by
  unfold freeB
  unfold overP at h
  rw [List.all_eq_true] at h ⊢
  intro s hs
  have h1 := h s hs
  rw [List.all_eq_true]
  intro j hj
  unfold oneP aheadP at h1
  split at h1
  · rename_i k hk
    split at hk
    · cases hk
    split
    · rename_i z u hz hu
      by_cases e : z.name = s
      · have h2 := S.find j z hz
        rw [e, hk] at h2
        cases h2
        unfold overL at h1
        rw [List.getD_eq_getElem?_getD, List.getElem?_map, hu] at h1
        simp only [Option.map_some, Option.getD_some] at h1
        simp [h1]
      · simp [e]
    · rfl
  · cases h1

theorem over_free {l : List Ns} (S : Sound ns) (hl : l.length = ns.length) {x : Nd} {i : Nat} {y : Ns} (hx : ns[i]? = some x) (hy : l[i]? = some y) (hy0 : y.status = 0) (ha : ∀ s ∈ x.after, (findP ns s).isSome = true) (h : freeB ns l x = true) : overP ns x (overL l) = true := by
  unfold freeB at h
  unfold overP
  rw [List.all_eq_true] at h ⊢
  intro s hs
  have h1 := h s hs
  rw [List.all_eq_true] at h1
  obtain ⟨j, hj⟩ := Option.isSome_iff_exists.1 (ha s hs)
  have hjl := findP_lt hj
  have h2 := h1 j (List.mem_range.2 hjl)
  have hz := findP_name hj
  rw [List.getElem?_eq_getElem hjl, List.getElem?_eq_getElem (show j < l.length by omega)] at h2
  have hz' : (ns[j]).name = s := hz
  simp only [hz', decide_true, Bool.not_true, Bool.false_or] at h2
  unfold oneP aheadP
  by_cases e : s = x.name
  · have h3 := S.find i x hx
    rw [← e, hj] at h3
    obtain rfl : j = i := Option.some.inj h3
    rw [List.getElem?_eq_getElem (show j < l.length by omega)] at hy
    rw [Option.some.inj hy, hy0] at h2
    simp at h2
  · rw [if_neg e, hj]
    show (overL l).getD j false = true
    unfold overL
    rw [List.getD_eq_getElem?_getD, List.getElem?_map, List.getElem?_eq_getElem (show j < l.length by omega)]
    simpa using h2

/-- All that HistoryRoots asks. -/
structure Rooted (now : Int) (ns : List Nd) (r : Rn) : Prop where
  len : r.st.nodes.length = ns.length
  evs : r.st.events = r.evs.length
  free : r.st.status = 1 → ∀ (i : Nat) (x : Nd) (y : Ns), ns[i]? = some x → r.st.nodes[i]? = some y → freeB ns r.st.nodes x = !(y.status == 0)
  once : r.st.status = 1 → ∀ (i : Nat) (x : Nd) (y : Ns), ns[i]? = some x → r.st.nodes[i]? = some y → beganC r.evs x.name = if y.status = 0 then 0 else 1
  time : r.st.status = 1 → ∀ e ∈ r.evs, e.kind = 7 → ∀ x ∈ ns, e.node = x.name → e.num = IntKind.i64.wrap (now + x.delay)

theorem rooted (S : Sound ns) (ha : ∀ x ∈ ns, ∀ s ∈ x.after, (findP ns s).isSome = true) (q : Inp) : Rooted q.now ns (goOnP nm ns (startR nm ns q)) := by
  have hK := goP_keeps (nm := nm) (ns := ns) (restC (startR nm ns q).st.nodes + 1) (startR nm ns q) (startR_fine q).bare
  have hlen : (goOnP nm ns (startR nm ns q)).st.nodes.length = ns.length := hK.2.len.trans (startR_fine q).len
  have hev := (goOnP_told (nm := nm) (ns := ns) (r := startR nm ns q)).count.1
  have hR : (goOnP nm ns (startR nm ns q)).st.status = 1 → Roots q.now ns (goOnP nm ns (startR nm ns q)) ∧ goReady ns (goOnP nm ns (startR nm ns q)) = [] := by
    rcases goOn_on (nm := nm) S (startR_fine (nm := nm) q) with h | h
    · exact roots_on S h (startR_roots q)
    · exact absurd rfl h
  refine ⟨hlen, ?_, fun h i x y hx hy => ?_, fun h => (hR h).1.once, fun h => (hR h).1.time⟩
  · have e1 : (startR nm ns q).st.events = 1 := rfl
    have e2 : (startR nm ns q).evs.length = 1 := rfl
    rw [e1, e2] at hev
    omega
  · obtain ⟨R, hz⟩ := hR h
    by_cases h0 : y.status = 0
    · rw [h0]
      show freeB _ _ _ = false
      cases hf : freeB ns (goOnP nm ns (startR nm ns q)).st.nodes x with
      | false => rfl
      | true =>
        exfalso
        have ho := over_free S hlen hx hy h0 (ha x (List.mem_of_getElem? hx)) hf
        have hi : i < ns.length := (List.getElem?_eq_some_iff.1 hx).1
        have : i ∈ goReady ns (goOnP nm ns (startR nm ns q)) := by
          unfold goReady rdyL
          rw [List.mem_filter]
          refine ⟨List.mem_range.2 hi, ?_⟩
          unfold rdyB
          rw [hx]
          have hb : (begunL (goOnP nm ns (startR nm ns q)).st.nodes ns.length).getD i false = false := by
            unfold begunL
            rw [List.getD_eq_getElem?_getD, List.getElem?_map, List.getElem?_range hi]
            show begunB _ i = false
            unfold begunB
            rw [hy]
            simp [h0]
          rw [hb]
          exact ho
        rw [hz] at this
        cases this
    · have hb : (!(y.status == 0)) = true := by simp [h0]
      rw [hb]
      exact free_over S (R.free i x y hx hy h0)

end

end Go.Proofs.YtdecceekodpjiaaDoor
