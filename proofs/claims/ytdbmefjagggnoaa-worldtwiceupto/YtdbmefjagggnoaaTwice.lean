/-
  A crash behind a crash, as data; rows of bytes that were read, in memory.
-/
import Derived.Test.YtdbmefjagggnoaaDoesAll
namespace Go.Proofs.Ytdbmefjagggnoaa
open Go.RowKit Go.Maps Go.ChangeMaps Go.MapKept

/-- What a crash has left is kept, all of it, and is not nothing. -/
def Full (f : RF) : Prop := f.kept = f.bytes.length ∧ 0 < f.bytes.length

theorem cutF_full {b : List Int} {k : Nat} (hk : k ≤ b.length) {c : Int} {d : DFile} (h : cutF ⟨b, k⟩ c = some d) : d.kept = d.bytes.length ∧ 0 < d.bytes.length := by
  unfold cutF at h
  have hq := cutQ_le ⟨b, k⟩ c hk
  split at h
  · cases h
  · cases h
    have hl : (cutB ⟨b, k⟩ c).length = cutQ ⟨b, k⟩ c := by
      unfold cutB
      split
      · rw [List.length_set, List.length_take]; omega
      · rw [List.length_take]; omega
    show cutQ ⟨b, k⟩ c = (cutB ⟨b, k⟩ c).length ∧ 0 < (cutB ⟨b, k⟩ c).length
    omega

theorem crashL_full : ∀ (l : List RF) (cs : List Int), (∀ f ∈ l, f.kept ≤ f.bytes.length) → ∀ f ∈ crashL l cs, Full f
  | [], _, _, f, h => by simp [crashL] at h
  | g :: r, cs, hl, f, h => by
    unfold crashL at h
    rcases List.mem_append.1 h with h | h
    · split at h
      · rename_i d hd
        simp only [List.mem_singleton] at h
        subst h
        exact cutF_full (hl g (by simp)) hd
      · cases h
    · exact crashL_full r cs.tail (fun f hf => hl f (List.mem_cons_of_mem _ hf)) f h

theorem cutF_same {b : List Int} (hb : 0 < b.length) (c : Int) : cutF ⟨b, b.length⟩ c = some ⟨b, b.length⟩ := by
  have hk : cutK ⟨b, b.length⟩ c = 0 := by
    unfold cutK
    show (c % (2 * ((b.length : Int) - (b.length : Int)) + 1)).toNat = 0
    rw [Int.sub_self, Int.mul_zero, Int.zero_add, Int.emod_one]
    rfl
  have hq : cutQ ⟨b, b.length⟩ c = b.length := by
    unfold cutQ
    rw [hk]
    rfl
  unfold cutF cutB
  rw [hq, hk, if_neg (by omega), if_neg (by omega)]
  show some (DFile.mk (b.take b.length) b.length) = _
  rw [List.take_length]

theorem crashL_same : ∀ (l : List RF) (cs : List Int), (∀ f ∈ l, Full f) → crashL l cs = l
  | [], _, _ => rfl
  | g :: r, cs, hl => by
    have hg := hl g (by simp)
    obtain ⟨gn, gb, gk⟩ := g
    obtain ⟨h1, h2⟩ := hg
    simp only [] at h1 h2
    subst h1
    unfold crashL
    rw [crashL_same r cs.tail (fun f hf => hl f (List.mem_cons_of_mem _ hf))]
    show (match cutF ⟨gb, gb.length⟩ (cs.headD 0) with | some d => [RF.mk gn d.bytes d.kept] | none => []) ++ r = _
    rw [cutF_same h2]
    rfl

/-- A second crash tells what the first did. -/
theorem crash_twice {st : DSt} {rs : RSt} (hs : Sim st rs) (hk : ∀ f ∈ rs.L, f.kept ≤ f.bytes.length) {l l2 : List Int} {ca cb : List Int} (h1 : IsKeys st l) (h2 : IsKeys (st.crash l ca) l2) :
    (∀ x, ((st.crash l ca).crash l2 cb).bytesOf x = (st.crash l ca).bytesOf x) ∧ Sim (st.crash l ca) (rs.crash ca) ∧ Sim ((st.crash l ca).crash l2 cb) (rs.crash ca) := by
  have s1 := hs.crash h1 ca
  have s2 := s1.crash h2 cb
  have e : (rs.crash ca).crash cb = rs.crash ca := by
    unfold RSt.crash
    simp only [RSt.mk.injEq, and_true]
    exact crashL_same _ _ (crashL_full rs.L ca hk)
  rw [e] at s2
  exact ⟨fun x => by rw [(s1.bytes x).1, (s2.bytes x).1], s1, s2⟩

/-- What was read so far. -/
structure WasSt (w4 wr : World) (bs : List (List Int)) (vs : List Value) (a : Option Addr) (c k : Nat) : Prop where
  rows : wr.ownsRow w4.heap.size 28 1 (.slice a k c) k vs
  each : ∀ (j : Nat) (b : List Int), j < k → bs[j]? = some b → ∃ (a' : Option Addr) (c' : Nat), vs[j]? = some (Value.slice a' b.length c') ∧ wr.ownsRow w4.heap.size 5 1 (.slice a' b.length c') b.length (b.map (Value.int .u8))
  kept : Kept (fun _ => False) w4 wr

theorem ownsRow_down {w : World} {base base' n size : Nat} {e : TypeId} {v : Value} {xs : List Value} (h : w.ownsRow base e size v n xs) (hb : base' ≤ base) : w.ownsRow base' e size v n xs :=
  ⟨h.1, h.2.elim .inl (fun ⟨g, cap, cur, hv, hb2, hh, r⟩ => .inr ⟨g, cap, cur, hv, Nat.le_trans hb hb2, hh, r⟩)⟩

theorem WasSt.new (w4 : World) (bs : List (List Int)) : WasSt w4 w4 bs [] none 0 0 := ⟨World.ownsRow_nil _ _ _ _, fun j b h => (by omega), Kept.refl _ _⟩

theorem WasSt.next {w4 wr w1 w2 : World} {bs : List (List Int)} {vs : List Value} {a a1 a2 : Option Addr} {c c1 c2 k : Nat} {b : List Int} {o : Obj} (S : WasSt w4 wr bs vs a c k) (K1 : Kept (fun _ => False) wr w1) (hb : bs[k]? = some b) (ho : w1.ownsRow wr.heap.size 5 1 (.slice a1 b.length c1) b.length (b.map (Value.int .u8)))
    (row : w2.ownsRow w4.heap.size 28 1 (.slice a2 (k + 1) c2) (k + 1) (vs ++ [.slice a1 b.length c1])) (hg : (w1.alloc o).grownBy w2 (Value.slice a k c).ownBlock) : WasSt w4 w2 bs (vs ++ [.slice a1 b.length c1]) a2 c2 (k + 1) := by
  have hvl : vs.length = k := by have := S.rows.1; simpa using this
  have r1 := (ownsRow_block S.rows (fun q hq => K1.block q (S.rows.lt q hq).2 (fun h => h))).alloc o
  have hz := S.kept.size
  have u : ∀ {a' : Option Addr} {c' q : Nat} {ys : List Value} {B : Nat}, w1.ownsRow B 5 1 (.slice a' q c') q ys → w2.ownsRow B 5 1 (.slice a' q c') q ys := fun {a' c' q ys B} h => by
    have ha := h.alloc o
    refine ownsRow_block ha (fun k hk => hg.block k (ha.lt k hk).2 (fun e => ?_))
    obtain ⟨cur, e1⟩ := ownsRow_type ha hk
    obtain ⟨cur2, e2⟩ := ownsRow_type r1 e.symm
    rw [e1] at e2
    simp at e2
  refine ⟨row, fun j b' hj hb' => ?_, ?_⟩
  · by_cases hjk : j < k
    · obtain ⟨a', c', h1, h2⟩ := S.each j b' hjk hb'
      exact ⟨a', c', by rw [List.getElem?_append_left (by omega)]; exact h1, u (ownsRow_block h2 (fun q hq => K1.block q (h2.lt q hq).2 (fun h => h)))⟩
    · obtain rfl : j = k := by omega
      rw [hb] at hb'
      cases hb'
      exact ⟨a1, c1, by rw [List.getElem?_append_right (by omega)]; simp [hvl], u (ownsRow_down ho hz)⟩
  · exact ((S.kept.and K1).and (Kept.alloc _ w1 o)).trans (Kept.grown (S := fun k => w4.heap.size ≤ k) hg (fun q e => (r1.lt q e).1)) (fun _ h => .inr h)

theorem infoSlW : (Try.prog.info? 28).map (fun i => (i.zero, i.size, i.bytes)) = some (some (.slice none 0 0), 1, 24) := by kernel_rfl

end Go.Proofs.Ytdbmefjagggnoaa
