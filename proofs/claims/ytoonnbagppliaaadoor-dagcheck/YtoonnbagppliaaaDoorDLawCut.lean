/-
  The law's cut: a definition that is not greater than is played.
-/
import Derived.Test.YtoonnbagppliaaaDoorDOpen
namespace Go.Proofs.YtoonnbagppliaaaDoor
open Go.RowKit

def cutN (n : Nd) : Nd := { n with after := n.after.take 10 }
def cutNs (ns : List Nd) : List Nd := (ns.take 40).map cutN

theorem TextsAt.take {w : World} {a : Option Addr} {c m : Nat} {l : List ByteArray} (T : TextsAt w (.slice a l.length c) l) (hm : m ≤ l.length) : TextsAt w (.slice a m c) (l.take m) := by
  obtain ⟨a', c', e, h1, h2, h3, h4⟩ := T
  simp only [Value.slice.injEq] at e
  obtain ⟨rfl, _, rfl⟩ := e
  have hl : (l.take m).length = m := by rw [List.length_take]; omega
  refine ⟨a, c, by rw [hl], by rw [hl]; omega, h2, ?_, fun s hs => h4 s (List.mem_of_mem_take hs)⟩
  rcases h3 with h | ⟨b, o, h, hc⟩
  · left
    simp at h
    subst h
    simp
  · refine .inr ⟨b, o, h, fun j u hu => hc j u ?_⟩
    rw [List.getElem?_map] at hu ⊢
    by_cases hj : j < m
    · rw [List.getElem?_take_of_lt hj] at hu
      exact hu
    · rw [List.getElem?_eq_none (by rw [hl]; omega)] at hu
      cases hu

/-- What stands between the rounds of cut. -/
structure CutJ (w wr : World) (name : ByteArray) (a : Option Addr) (c : Nat) (ms : List Nd) (k : Nat) (a' : Option Addr) (c' : Nat) (vs : List Value) : Prop where
  le : k ≤ ms.length
  row : wr.ownsRow (w.heap.size + 2) 34 7 (.slice a' k c') k (flatN ((ms.map cutN).take k) vs)
  len : vs.length = k
  txt : ∀ j (h1 : j < ms.length) (h2 : j < vs.length), TextsAt w vs[j] (cutN ms[j]).after
  kept : Kept (fun _ => False) w wr
  b0 : wr.heap[w.heap.size]? = some (.cells #[.string name, .slice a ms.length c] 25 (0, 0))
  b1 : wr.heap[w.heap.size + 1]? = some (.cells #[.string ⟨#[]⟩, .slice none 0 0] 25 (0, 0))

theorem CutJ.nodes {w wr : World} {name : ByteArray} {a a' : Option Addr} {c c' k : Nat} {ms : List Nd} {vs : List Value} (J : CutJ w wr name a c ms k a' c' vs) (R : RawAt w a ms) (hk : k = ms.length) {V : World} (KV : Kept (fun j => j < w.heap.size + 2) wr V) (KW : Kept (fun _ => False) w V) : NodesAt V a' (ms.map cutN) ∧ k ≤ c' := by
  have O := ownsRow_keep J.row (fun g hg => KV.block g (ownsRow_blk J.row hg) (by have := (J.row.lt g hg).1; omega))
  have hlen := J.len
  rw [List.take_of_length_le (by rw [List.length_map]; omega)] at O
  constructor
  · refine ⟨fun n hn => ?_, ?_⟩
    · obtain ⟨m, hm, rfl⟩ := List.mem_map.1 hn
      have := R.1 m hm
      exact ⟨this.name, this.arg, this.to, this.kind, this.delay, this.tries, by show (m.after.take 10).length ≤ _; rw [List.length_take]; omega⟩
    · rcases O.2 with ⟨e, h0⟩ | ⟨g, cap, cur, e, _⟩
      · left
        rw [List.map_eq_nil_iff]
        exact List.eq_nil_of_length_eq_zero (by omega)
      · simp only [Value.slice.injEq] at e
        obtain ⟨rfl, _, rfl⟩ := e
        refine .inr ⟨g, 0, rfl, fun i hi => ⟨vs[i]'(by rw [List.length_map] at hi; omega), ?_, fun j u hu => ?_⟩⟩
        · have := J.txt i (by rw [List.length_map] at hi; exact hi) (by rw [List.length_map] at hi; omega)
          rw [List.getElem_map]
          exact this.kept KW (fun _ _ h => h)
        · have := O.cells (g := g) rfl (i * 7 + j) u (flatN_at _ vs i hi (by rw [List.length_map] at hi; omega) j u hu)
          rw [Addr.add_lit] at this
          rw [show 0 + i * 7 + j = 0 + (i * 7 + j) by omega]
          exact this
  · rcases O.2 with ⟨e, h0⟩ | ⟨g, cap, cur, e, _, _, h1, _⟩
    · omega
    · simp only [Value.slice.injEq] at e; omega

/-- One node more. -/
theorem CutJ.push {w wr wq w3 : World} {name : ByteArray} {a a' a3 : Option Addr} {c c' c3 k : Nat} {v : Value} {ms : List Nd} {vs : List Value} (J : CutJ w wr name a c ms k a' c' vs) (hk : k < ms.length)
    (T : TextsAt w v (cutN ms[k]).after) (hq : Kept (fun _ => False) wr wq) (ho : w3.ownsRow (w.heap.size + 2) 34 7 (.slice a3 (k + 1) c3) (k + 1) (flatN ((ms.map cutN).take k) vs ++ ndC (cutN ms[k]) v))
    (hg : wq.grownBy w3 (Value.slice a' k c').ownBlock) : CutJ w w3 name a c ms (k + 1) a3 c3 (vs ++ [v]) := by
  have hlen := J.len
  have KG : Kept (fun j => w.heap.size + 2 ≤ j) wr w3 := (hq.mono (fun _ h => h.elim)).and (Kept.grown hg (fun g e => by exact (J.row.lt g e).1))
  have ht : (ms.map cutN).take (k + 1) = (ms.map cutN).take k ++ [cutN ms[k]] := by
    rw [List.take_add_one, List.getElem?_map, List.getElem?_eq_getElem hk]; rfl
  refine ⟨by omega, ?_, by simp [hlen], fun j h1 h2 => ?_, J.kept.trans KG (fun i h => .inr (by omega)), (KG.block _ (Array.getElem?_eq_some_iff.1 J.b0).1 (by omega)).trans J.b0, (KG.block _ (Array.getElem?_eq_some_iff.1 J.b1).1 (by omega)).trans J.b1⟩
  · rw [ht, flatN_append _ _ _ _ (by rw [List.length_take, List.length_map, hlen]; omega)]
    exact ho
  · by_cases e : j < vs.length
    · rw [List.getElem_append_left e]
      exact J.txt j h1 e
    · have hj : j = k := by simp at h2; omega
      subst hj
      rw [List.getElem_append_right (by omega)]
      simpa [hlen] using T

end Go.Proofs.YtoonnbagppliaaaDoor
