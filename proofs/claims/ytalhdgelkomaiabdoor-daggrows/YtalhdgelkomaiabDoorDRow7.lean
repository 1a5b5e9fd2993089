/-
  Rows of nodes as they are copied: their cells, and what a new row holds.
-/
import Derived.Test.YtalhdgelkomaiabDoorDDefCopy
import Derived.Test.YtalhdgelkomaiabDoorDLevP
namespace Go.Proofs.YtalhdgelkomaiabDoor
open Go.RowKit

theorem flatN_len : ∀ (ns : List Nd) (vs : List Value), ns.length = vs.length → (flatN ns vs).length = ns.length * 7
  | [], [], _ => rfl
  | n :: ns, v :: vs, h => by
    have := flatN_len ns vs (by simpa using h)
    show (ndC n v ++ flatN ns vs).length = _
    rw [List.length_append, this, show (ndC n v).length = 7 from rfl, List.length_cons]
    omega
  | [], _ :: _, h => by simp at h
  | _ :: _, [], h => by simp at h

theorem flatN_get {ns : List Nd} {vs : List Value} (h : ns.length = vs.length) {k : Nat} {u : Value} (hu : (flatN ns vs)[k]? = some u) : ∃ (hi : k / 7 < ns.length) (hj : k / 7 < vs.length), (ndC (ns[k / 7]'hi) (vs[k / 7]'hj))[k % 7]? = some u := by
  have hl := (List.getElem?_eq_some_iff.1 hu).1
  rw [flatN_len ns vs h] at hl
  have hi : k / 7 < ns.length := by omega
  have hj : k / 7 < vs.length := by omega
  refine ⟨hi, hj, ?_⟩
  have hr : k % 7 < (ndC (ns[k / 7]'hi) (vs[k / 7]'hj)).length := by show k % 7 < 7; omega
  have h1 := flatN_at ns vs (k / 7) hi hj (k % 7) _ (List.getElem?_eq_getElem hr)
  rw [show k / 7 * 7 + k % 7 = k by omega, hu] at h1
  rw [List.getElem?_eq_getElem hr]
  exact h1.symm

theorem flatN_one {ns : List Nd} {vs : List Value} (h : ns.length = vs.length) (hs : ∀ v ∈ vs, ∃ a m c, v = Value.slice a m c) : ∀ u ∈ flatN ns vs, u.oneCell' = true := by
  intro u hu
  obtain ⟨k, hk, rfl⟩ := List.mem_iff_getElem.1 hu
  obtain ⟨hi, hj, hx⟩ := flatN_get h (List.getElem?_eq_getElem hk)
  obtain ⟨a, m, c, e⟩ := hs _ (List.getElem_mem hj)
  rw [e] at hx
  exact ndC_one _ a m c _ (List.mem_of_getElem? hx)

/-- The nodes of a definition, as they are handed to append. -/
theorem NodesAt.src {w : World} {a : Option Addr} {c : Nat} {ms : List Nd} (N : NodesAt w a ms) : ∃ vs : List Value, ms.length = vs.length ∧ (∀ i (h1 : i < ms.length) (h2 : i < vs.length), TextsAt w vs[i] (ms[i]).after) ∧ (∀ u ∈ flatN ms vs, u.oneCell' = true) ∧
    (1 ≤ ms.length → ∀ V, Kept (fun _ => False) w V → Src V 7 (.slice a ms.length c) ms.length (flatN ms vs)) := by
  rcases N.2 with h | ⟨b, o, rfl, hc⟩
  · subst h
    exact ⟨[], rfl, fun i h => by simp at h, fun u hu => by simp [flatN] at hu, fun h => by simp at h⟩
  · haveI : Inhabited Value := ⟨undef⟩
    have hch : ∃ f : Nat → Value, ∀ i (h : i < ms.length), TextsAt w (f i) (ms[i]'h).after ∧ ∀ j u, (ndC (ms[i]'h) (f i))[j]? = some u → w.cell? ⟨b, o + i * 7 + j, none⟩ = some u := by
      refine ⟨fun i => if h : i < ms.length then Classical.choose (hc i h) else undef, fun i h => ?_⟩
      simp only [h, dite_true]
      exact Classical.choose_spec (hc i h)
    obtain ⟨f, hf⟩ := hch
    have hlen : ms.length = ((List.range ms.length).map f).length := by simp
    refine ⟨(List.range ms.length).map f, hlen, fun i h1 h2 => ?_, flatN_one hlen (fun v hv => ?_), fun _ V KV => .inl ⟨_, c, rfl, flatN_len _ _ hlen, fun k u hu => ?_⟩⟩
    · simp only [List.getElem_map, List.getElem_range]
      exact (hf i h1).1
    · obtain ⟨i, hi, rfl⟩ := List.mem_map.1 hv
      obtain ⟨a', c', e, _⟩ := (hf i (List.mem_range.1 hi)).1
      exact ⟨_, _, _, e⟩
    · obtain ⟨hi, hj, hx⟩ := flatN_get hlen hu
      simp only [List.getElem_map, List.getElem_range] at hx
      have h1 := (hf (k / 7) hi).2 (k % 7) u hx
      rw [Addr.add_lit]
      rw [show o + k / 7 * 7 + k % 7 = o + k by omega] at h1
      exact keepC KV h1 (fun _ _ h => h)

/-- A row's cells. -/
theorem row7_at {w : World} {B : Nat} {a : Option Addr} {n c : Nat} {xs : List Value} (O : w.ownsRow B 33 7 (.slice a n c) n xs) (hn : 1 ≤ n) :
    ∃ g, a = some ⟨g, 0, none⟩ ∧ B ≤ g ∧ g < w.heap.size ∧ (Value.slice a n c).ownBlock = some g ∧ ∀ k u, xs[k]? = some u → w.cell? ⟨g, k, none⟩ = some u ∧ w.frozen? ⟨g, k, none⟩ = false := by
  rcases O.2 with ⟨e, h0⟩ | ⟨g, cap, cur, e, hg, hb, _⟩
  · omega
  · have hO := O
    simp only [Value.slice.injEq] at e
    obtain ⟨rfl, _, rfl⟩ := e
    refine ⟨g, rfl, hg, ownsRow_blk hO rfl, rfl, fun k u hu => ⟨?_, ?_⟩⟩
    · have := hO.cells (g := g) rfl k u hu
      rw [Addr.add_lit, Nat.zero_add] at this
      exact this
    · simp [World.frozen?, hb]

theorem loopNs_get {ns : List Nd} {p : Nat} {s : ByteArray} {i : Nat} (h : i < (loopNs ns p s).length) (hi : i < ns.length) : (loopNs ns p s)[i] = if p = i then addA ns[i] s else ns[i] := by
  have := loopNs_at (ns := ns) (a := p) (s := s) (i := i)
  rw [List.getElem?_eq_getElem h, List.getElem?_eq_getElem hi] at this
  exact Option.some.inj this

/-- One After is written over in a row of one's own. -/
theorem loop_nodes {w W2 w4 : World} {ms : List Nd} {vs : List Value} {g p c4 : Nat} {a4 : Option Addr} {s : ByteArray} (hlen : ms.length = vs.length) (hok : ∀ n ∈ ms, NdOk n) (hfew : ∀ n ∈ ms, n.after.length ≤ 1000) (hsz : ∀ n ∈ ms, ∀ t ∈ n.after, t.size ≤ maxLen) (hs : s.size ≤ maxLen)
    (hT : ∀ i (h1 : i < ms.length) (h2 : i < vs.length), TextsAt w vs[i] (ms[i]).after) (hg : w.heap.size ≤ g) (hg2 : g < W2.heap.size) (hc : ∀ k u, (flatN ms vs)[k]? = some u → W2.cell? ⟨g, k, none⟩ = some u) (K2 : Kept (fun _ => False) w W2) (K4 : Kept (fun _ => False) W2 w4) (hp : p < ms.length)
    (O4 : w4.ownsRow W2.heap.size 9 1 (.slice a4 ((ms[p]).after.length + 1) c4) ((ms[p]).after.length + 1) (strsV (ms[p]).after ++ [.string s])) :
    NodesAt (w4.setCell ⟨g, p * 7 + 6, none⟩ (.slice a4 ((ms[p]).after.length + 1) c4)) (some ⟨g, 0, none⟩) (loopNs ms p s) := by
  have hz2 := K2.size
  have hz4 := K4.size
  have KS : Kept (fun j => j = g) w4 (w4.setCell ⟨g, p * 7 + 6, none⟩ (.slice a4 ((ms[p]).after.length + 1) c4)) := Kept.setCell _ _ _ rfl
  have KW : Kept (fun j => j = g) w (w4.setCell ⟨g, p * 7 + 6, none⟩ (.slice a4 ((ms[p]).after.length + 1) c4)) := ((K2.and K4).mono (fun _ h => h.elim)).and KS
  have hget : ∀ i (h : i < (loopNs ms p s).length), ∃ hi : i < ms.length, (loopNs ms p s)[i] = if p = i then addA ms[i] s else ms[i] := fun i h => ⟨by rw [loopNs_len] at h; exact h, loopNs_get h _⟩
  refine ⟨fun n hn => ?_, .inr ⟨g, 0, rfl, fun i hi => ?_⟩⟩
  · obtain ⟨i, hi, rfl⟩ := List.mem_iff_getElem.1 hn
    obtain ⟨hi', e⟩ := hget i hi
    rw [e]
    have h1 := hok _ (List.getElem_mem hi')
    have h2 := hfew _ (List.getElem_mem hi')
    split
    · exact ⟨h1.name, h1.arg, h1.to, h1.kind, h1.delay, h1.tries, by show ((ms[i]).after ++ [s]).length ≤ _; rw [List.length_append, List.length_singleton]; omega⟩
    · exact h1
  · obtain ⟨hi', e⟩ := hget i hi
    rw [e]
    have hcell : ∀ j u, (flatN ms vs)[i * 7 + j]? = some u → i * 7 + j ≠ p * 7 + 6 → (w4.setCell ⟨g, p * 7 + 6, none⟩ (.slice a4 ((ms[p]).after.length + 1) c4)).cell? ⟨g, i * 7 + j, none⟩ = some u := fun j u hu hne => by
      rw [World.cell?_setCell_other _ _ _ _ (fun h => by have := congrArg Addr.off h; simp only [] at this; omega)]
      exact keepC K4 (hc _ _ hu) (fun _ _ h => h)
    have hj : i < vs.length := by omega
    by_cases hpi : p = i
    · subst hpi
      rw [if_pos rfl]
      have hcp : w4.cell? ⟨g, p * 7 + 6, none⟩ = some vs[p] := keepC K4 (hc _ _ (flatN_at ms vs p hi' hj 6 _ rfl)) (fun _ _ h => h)
      have hlt4 : g < w4.heap.size := by omega
      refine ⟨.slice a4 ((ms[p]).after.length + 1) c4, ?_, fun j u hu => ?_⟩
      · have e2 : (addA ms[p] s).after = (ms[p]).after ++ [s] := rfl
        rw [e2]
        have hl2 : ((ms[p]).after ++ [s]).length = (ms[p]).after.length + 1 := by simp
        have O5 : w4.ownsRow W2.heap.size 9 1 (.slice a4 ((ms[p]).after ++ [s]).length c4) ((ms[p]).after ++ [s]).length (strsV ((ms[p]).after ++ [s])) := by
          rw [hl2]
          have : strsV ((ms[p]).after ++ [s]) = strsV (ms[p]).after ++ [.string s] := by unfold strsV; simp
          rw [this]
          exact O4
        have O6 := ownsRow_keep O5 (fun g' hg' => KS.block g' (ownsRow_blk O5 hg') (by have := (O5.lt g' hg').1; omega))
        have := texts_of_row O6 (fun t ht => by
          rcases List.mem_append.1 ht with ht | ht
          · exact hsz _ (List.getElem_mem hi') t ht
          · simp at ht; subst ht; exact hs)
        rw [hl2] at this
        exact this
      · rw [show 0 + p * 7 + j = p * 7 + j by omega]
        by_cases h6 : j = 6
        · subst h6
          have : u = .slice a4 ((ms[p]).after.length + 1) c4 := by simpa [ndC] using hu.symm
          subst this
          exact World.cell?_setCell_same _ _ _ (by rw [hcp])
        · have hj7 : j < 7 := (List.getElem?_eq_some_iff.1 hu).1
          refine hcell j u (flatN_at ms vs p hi' hj j u ?_) (by omega)
          have : (ndC (addA ms[p] s) (.slice a4 ((ms[p]).after.length + 1) c4))[j]? = (ndC ms[p] vs[p])[j]? := by
            match j, hj7, h6 with
            | 0, _, _ => rfl
            | 1, _, _ => rfl
            | 2, _, _ => rfl
            | 3, _, _ => rfl
            | 4, _, _ => rfl
            | 5, _, _ => rfl
            | k + 6, h7, h6 => exact absurd (show k + 6 = 6 by omega) h6
          rw [← this]
          exact hu
    · rw [if_neg hpi]
      refine ⟨vs[i], (hT i hi' hj).kept KW (fun k hk => by omega), fun j u hu => ?_⟩
      have hj7 : j < 7 := (List.getElem?_eq_some_iff.1 hu).1
      rw [show 0 + i * 7 + j = i * 7 + j by omega]
      exact hcell j u (flatN_at ms vs i hi' hj j u hu) (by omega)

end Go.Proofs.YtalhdgelkomaiabDoor
