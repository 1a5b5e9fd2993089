/-
  readLines: the nodes of a text, as they are gathered.
-/
import Derived.Test.YtoonnbagppliaaaDoorDNode
import Derived.Test.YtoonnbagppliaaaDoorDCut
import Derived.Deep.RegionLaw
namespace Go.Proofs.YtoonnbagppliaaaDoor
open Go.RowKit

theorem Tryd.info34 : (Tryd.prog.info? 34).map (fun i => (i.zero, i.size, i.bytes)) = some (some (.agg #[.string ⟨#[]⟩, .int .i64 0, .string ⟨#[]⟩, .string ⟨#[]⟩, .int .i64 0, .int .i64 0, .slice none 0 0]), 7, 96) := by kernel_rfl

/-- The cells of nodes, their After given as values. -/
def flatN : List Nd → List Value → List Value
  | n :: ns, v :: vs => ndC n v ++ flatN ns vs
  | _, _ => []

theorem flatN_append : ∀ (ns : List Nd) (vs : List Value) (n : Nd) (v : Value), ns.length = vs.length → flatN (ns ++ [n]) (vs ++ [v]) = flatN ns vs ++ ndC n v
  | [], [], n, v, _ => by simp [flatN]
  | n' :: ns, v' :: vs, n, v, h => by
    have := flatN_append ns vs n v (by simpa using h)
    simp only [List.cons_append, flatN, this, List.append_assoc]
  | [], _ :: _, _, _, h => by simp at h
  | _ :: _, [], _, _, h => by simp at h

theorem flatN_at : ∀ (ns : List Nd) (vs : List Value) (i : Nat) (hi : i < ns.length) (hj : i < vs.length) (j : Nat) (u : Value), (ndC ns[i] vs[i])[j]? = some u → (flatN ns vs)[i * 7 + j]? = some u
  | n :: ns, v :: vs, 0, _, _, j, u, h => by
    have hl : j < (ndC n v).length := (List.getElem?_eq_some_iff.1 h).1
    show (ndC n v ++ flatN ns vs)[0 * 7 + j]? = some u
    rw [Nat.zero_mul, Nat.zero_add, List.getElem?_append_left hl]
    exact h
  | n :: ns, v :: vs, i + 1, hi, hj, j, u, h => by
    show (ndC n v ++ flatN ns vs)[(i + 1) * 7 + j]? = some u
    have e : (ndC n v).length = 7 := rfl
    rw [List.getElem?_append_right (by rw [e]; omega), e, show (i + 1) * 7 + j - 7 = i * 7 + j by omega]
    exact flatN_at ns vs i (by simpa using hi) (by simpa using hj) j u h
  | [], _, i, hi, _, _, _, _ => by simp at hi
  | _ :: _, [], i, _, hj, _, _, _ => by simp at hj

/-- A row of nodes that was made: its own block, and a block for each After. -/
def NodesRow (w : World) (base : Nat) (v : Value) (ns : List Nd) : Prop :=
  ∃ vs : List Value, ns.length = vs.length ∧ w.ownsRow base 34 7 v ns.length (flatN ns vs) ∧ ∀ i (h : i < ns.length) (h2 : i < vs.length), ∃ a c, vs[i] = .slice a (ns[i]).after.length c ∧ w.ownsRow base 9 1 (vs[i]) (ns[i]).after.length (strsV (ns[i]).after)

theorem typ_ne {w : World} {B B' n n' : Nat} {v v' : Value} {xs xs' : List Value} {T T' s s' : Nat} (h : w.ownsRow B T s v n xs) (h' : w.ownsRow B' T' s' v' n' xs') (hT : T ≠ T') {g : Nat} (hg : v.ownBlock = some g) : v'.ownBlock ≠ some g := by
  intro hg'
  rcases h.2 with ⟨rfl, _⟩ | ⟨g1, _, cur, rfl, _, hh, _⟩
  · cases hg
  · rcases h'.2 with ⟨rfl, _⟩ | ⟨g2, _, cur2, rfl, _, hh2, _⟩
    · cases hg'
    · have e1 := Option.some.inj hg
      have e2 := Option.some.inj hg'
      simp only [] at e1 e2
      subst e1
      subst e2
      rw [hh] at hh2
      injection hh2 with h3
      injection h3 with _ h4
      exact hT h4

theorem NodesRow.kept {S : Nat → Prop} {w w' : World} {base : Nat} {v : Value} {ns : List Nd} (N : NodesRow w base v ns) (K : Kept S w w') (hS : ∀ k, base ≤ k → k < w.heap.size → ¬ S k) : NodesRow w' base v ns := by
  obtain ⟨vs, h1, h2, h3⟩ := N
  refine ⟨vs, h1, ownsRow_keep h2 (fun g hg => K.block g (ownsRow_blk h2 hg) (hS g (h2.lt g hg).1 (h2.lt g hg).2)), fun i hi hj => ?_⟩
  obtain ⟨a, c, e, o⟩ := h3 i hi hj
  exact ⟨a, c, e, ownsRow_keep o (fun g hg => K.block g (ownsRow_blk o hg) (hS g (o.lt g hg).1 (o.lt g hg).2))⟩

/-- Made nodes are nodes that can be read. -/
theorem NodesRow.at {w : World} {base : Nat} {a : Option Addr} {c : Nat} {ns : List Nd} (N : NodesRow w base (.slice a ns.length c) ns) (hok : ∀ n ∈ ns, NdOk n ∧ ∀ s ∈ n.after, s.size ≤ maxLen) : NodesAt w a ns := by
  obtain ⟨vs, h1, h2, h3⟩ := N
  refine ⟨fun n hn => (hok n hn).1, ?_⟩
  rcases h2.2 with ⟨e, h0⟩ | ⟨g, cap, cur, e, _⟩
  · exact .inl (List.eq_nil_of_length_eq_zero h0)
  · simp only [Value.slice.injEq] at e
    obtain ⟨rfl, _, rfl⟩ := e
    refine .inr ⟨g, 0, rfl, fun i hi => ⟨vs[i], ?_, fun j u hu => ?_⟩⟩
    · obtain ⟨a', c', e, o⟩ := h3 i hi (by omega)
      rw [e] at o ⊢
      exact texts_of_row o (hok _ (List.getElem_mem hi)).2
    · have := h2.cells (g := g) rfl (i * 7 + j) u (flatN_at ns vs i hi (by omega) j u hu)
      rw [Addr.add_lit] at this
      rw [show 0 + i * 7 + j = 0 + (i * 7 + j) by omega]
      exact this

/-- One node more. -/
theorem NodesRow.push {w2 w3 : World} {base : Nat} {v v3 : Value} {ns : List Nd} {vs : List Value} {nd : Nd} {aa : Option Addr} {ca : Nat} {o : Obj} (h1 : ns.length = vs.length)
    (h2 : w2.ownsRow base 34 7 v ns.length (flatN ns vs)) (h3 : ∀ i (h : i < ns.length) (h2 : i < vs.length), ∃ a c, vs[i] = .slice a (ns[i]).after.length c ∧ w2.ownsRow base 9 1 (vs[i]) (ns[i]).after.length (strsV (ns[i]).after))
    (ha : w2.ownsRow base 9 1 (.slice aa nd.after.length ca) nd.after.length (strsV nd.after)) (ho : w3.ownsRow base 34 7 v3 (ns.length + 1) (flatN ns vs ++ ndC nd (.slice aa nd.after.length ca))) (hg : (w2.alloc o).grownBy w3 v.ownBlock) :
    NodesRow w3 base v3 (ns ++ [nd]) := by
  have keep : ∀ {x : Value} {m : Nat} {xs : List Value}, w2.ownsRow base 9 1 x m xs → w3.ownsRow base 9 1 x m xs := fun {x m xs} h => by
    refine ownsRow_keep h (fun g hg' => ?_)
    have hlt := ownsRow_blk h hg'
    rw [hg.block g (by simp; omega) (fun e => typ_ne h h2 (by decide) hg' e.symm)]
    exact Below.heap_alloc _ _ _ hlt
  refine ⟨vs ++ [.slice aa nd.after.length ca], by simp [h1], ?_, fun i hi hj => ?_⟩
  · rw [flatN_append _ _ _ _ h1, List.length_append, List.length_singleton]
    exact ho
  · by_cases e : i < ns.length
    · obtain ⟨a, c, e1, o1⟩ := h3 i e (by omega)
      refine ⟨a, c, ?_, ?_⟩
      · rw [List.getElem_append_left (by omega), List.getElem_append_left e]; exact e1
      · rw [List.getElem_append_left (by omega), List.getElem_append_left e]; exact keep o1
    · have hi2 : i = ns.length := by simp at hi; omega
      subst hi2
      refine ⟨aa, ca, ?_, ?_⟩
      · rw [List.getElem_append_right (by omega), List.getElem_append_right (by omega)]; simp [h1]
      · rw [List.getElem_append_right (by omega), List.getElem_append_right (by omega)]; simp only [h1, Nat.sub_self, List.getElem_singleton]; exact keep ha

end Go.Proofs.YtoonnbagppliaaaDoor
