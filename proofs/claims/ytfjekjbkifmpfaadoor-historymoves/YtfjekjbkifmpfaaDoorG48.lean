/-
  The document's Apply, in memory: all its arms.
-/
import Derived.Test.YtfjekjbkifmpfaaDoorG29
import Derived.Test.YtfjekjbkifmpfaaDoorG27
import Derived.Test.YtfjekjbkifmpfaaDoorG31
import Derived.Test.YtfjekjbkifmpfaaDoorG28
import Derived.Test.YtfjekjbkifmpfaaDoorG42
import Derived.Test.YtfjekjbkifmpfaaDoorG47
import Derived.Test.YtfjekjbkifmpfaaDoorG43
import Derived.Test.YtfjekjbkifmpfaaDoorG46
import Derived.Test.YtfjekjbkifmpfaaDoorG37
import Derived.Test.YtfjekjbkifmpfaaDoorG39
import Derived.Test.YtfjekjbkifmpfaaDoorG35
import Derived.Test.YtfjekjbkifmpfaaDoorG40
import Derived.Test.YtfjekjbkifmpfaaDoorG36
import Derived.Test.YtfjekjbkifmpfaaDoorG38
import Derived.Test.YtfjekjbkifmpfaaDoorG45
import Derived.Test.YtfjekjbkifmpfaaDoorG33
import Derived.Test.YtfjekjbkifmpfaaDoorG44
import Derived.Test.YtfjekjbkifmpfaaDoorG41
import Derived.Test.YtfjekjbkifmpfaaDoorG12
import Derived.Test.YtfjekjbkifmpfaaDoorG06
import Derived.Test.YtfjekjbkifmpfaaDoorG25
import Derived.Test.YtfjekjbkifmpfaaDoorG04
namespace Go.Proofs.YtfjekjbkifmpfaaDoor.Rf
open Go.RowKit

theorem refApply_any (w : World) (nm : ByteArray) (a : Option Addr) (c : Nat) (ns : List Nd) (hN : NodesAt w a ns) (hn : ns.length ≤ 1000000) (s : St) (v6 v7 : Value) (R : StRd w s v6 v7) (he0 : 0 ≤ s.events) (he1 : s.events ≤ 1000000000000) (ev : Ev) :
    Calls Tryd.prog 19 #[.agg #[.string nm, .slice a ns.length c], .agg (stA s v6 v7), .agg #[.int .i64 ev.kind, .string ev.node, .string ev.text, .int .i64 ev.num]] w (ApPost w s v6 v7 (applyR nm ns s ev)) := by
  by_cases h1 : ev.kind = 1
  · by_cases hs : s.status = 0
    · exact apply_start w nm a c ns hN hn s v6 v7 R he0 he1 ev h1 hs
    · exact apply_there w nm a c ns hN hn s v6 v7 R he0 he1 ev h1 hs
  by_cases hs : s.status = 1
  rotate_left
  · exact apply_idle w nm a c ns hN hn s v6 v7 R he0 he1 ev h1 hs
  by_cases h13 : ev.kind = 13
  · exact apply_kept w nm a c ns hN hn s v6 v7 R he0 he1 ev h13 hs
  by_cases h15 : ev.kind = 15
  · by_cases hz : ev.num < 2 ∨ 4 < ev.num
    · exact apply_close_bad w nm a c ns hN hn s v6 v7 R he0 he1 ev h15 hs hz
    · exact apply_close w nm a c ns hN hn s v6 v7 R he0 he1 ev h15 hs hz
  cases hf : findP ns ev.node with
  | none => exact apply_lost w nm a c ns hN hn s v6 v7 R he0 he1 ev h1 h13 h15 hs (fun i h => by rw [hf] at h; cases h)
  | some i =>
    by_cases him : i < s.nodes.length
    rotate_left
    · exact apply_lost w nm a c ns hN hn s v6 v7 R he0 he1 ev h1 h13 h15 hs (fun j h => by rw [hf] at h; cases h; omega)
    by_cases h2 : ev.kind = 2
    · exact apply_scheduled w nm a c ns hN hn s v6 v7 R he0 he1 ev h2 hs i hf him
    by_cases h3 : ev.kind = 3
    · exact apply_taken w nm a c ns hN hn s v6 v7 R he0 he1 ev h3 hs i hf him
    by_cases h4 : ev.kind = 4
    · exact apply_completed w nm a c ns hN hn s v6 v7 R he0 he1 ev h4 hs i hf him
    by_cases h5 : ev.kind = 5
    · exact apply_retried w nm a c ns hN hn s v6 v7 R he0 he1 ev h5 hs i hf him
    by_cases h6 : ev.kind = 6
    · exact apply_failed w nm a c ns hN hn s v6 v7 R he0 he1 ev h6 hs i hf him
    by_cases h7 : ev.kind = 7
    · exact apply_timerset w nm a c ns hN hn s v6 v7 R he0 he1 ev h7 hs i hf him
    by_cases h8 : ev.kind = 8
    · exact apply_fired w nm a c ns hN hn s v6 v7 R he0 he1 ev h8 hs i hf him
    by_cases h9 : ev.kind = 9
    · exact apply_asked w nm a c ns hN hn s v6 v7 R he0 he1 ev h9 hs i hf him
    by_cases h10 : ev.kind = 10
    · exact apply_childdone w nm a c ns hN hn s v6 v7 R he0 he1 ev h10 hs i hf him
    by_cases h11 : ev.kind = 11
    · exact apply_awaited w nm a c ns hN hn s v6 v7 R he0 he1 ev h11 hs i hf him
    by_cases h12 : ev.kind = 12
    · by_cases hz : ev.num = 1
      · exact apply_received1 w nm a c ns hN hn s v6 v7 R he0 he1 ev h12 hz hs i hf him
      · exact apply_received w nm a c ns hN hn s v6 v7 R he0 he1 ev h12 hz hs i hf him
    by_cases h14 : ev.kind = 14
    · exact apply_sent w nm a c ns hN hn s v6 v7 R he0 he1 ev h14 hs i hf him
    exact apply_other w nm a c ns hN hn s v6 v7 R he0 he1 ev (fun k hk h => by
      simp only [List.mem_cons, List.not_mem_nil, or_false] at hk
      omega) hs i hf him

end Go.Proofs.YtfjekjbkifmpfaaDoor.Rf

/-
  The document's run: an event happens to it.
-/
namespace Go.Proofs.YtfjekjbkifmpfaaDoor.Rf
open Go.RowKit

def nineIn (V : World) (rb : Nat) (t : St) (p6 p7 : Value) : World := ((((((((V.setCell ⟨rb, 2, none⟩ (.string t.dfn)).setCell ⟨rb, 3, none⟩ (.string t.id)).setCell ⟨rb, 4, none⟩ (.string t.par)).setCell ⟨rb, 5, none⟩ (.string t.pnode)).setCell ⟨rb, 6, none⟩ (.int .i64 t.status)).setCell ⟨rb, 7, none⟩ (.string t.text)).setCell ⟨rb, 8, none⟩ p6).setCell ⟨rb, 9, none⟩ p7).setCell ⟨rb, 10, none⟩ (.int .i64 t.events)

theorem nineIn_blk {V : World} {rb : Nat} {T : TypeId} {p0 p1 q0 q1 q2 : Value} {s t : St} {v6 v7 p6 p7 : Value} (h : V.heap[rb]? = some (.cells ([p0, p1] ++ stL s v6 v7 ++ [q0, q1, q2]).toArray T (0, 0))) :
    (nineIn V rb t p6 p7).heap[rb]? = some (.cells ([p0, p1] ++ stL t p6 p7 ++ [q0, q1, q2]).toArray T (0, 0)) := by
  have h0 := blk_set h (so := 2) rfl (j := 0) (by simp [stL]) (.string t.dfn)
  have h1 := blk_set h0 (so := 2) rfl (j := 1) (by simp [stL]) (.string t.id)
  have h2 := blk_set h1 (so := 2) rfl (j := 2) (by simp [stL]) (.string t.par)
  have h3 := blk_set h2 (so := 2) rfl (j := 3) (by simp [stL]) (.string t.pnode)
  have h4 := blk_set h3 (so := 2) rfl (j := 4) (by simp [stL]) (.int .i64 t.status)
  have h5 := blk_set h4 (so := 2) rfl (j := 5) (by simp [stL]) (.string t.text)
  have h6 := blk_set h5 (so := 2) rfl (j := 6) (by simp [stL]) p6
  have h7 := blk_set h6 (so := 2) rfl (j := 7) (by simp [stL]) p7
  have h8 := blk_set h7 (so := 2) rfl (j := 8) (by simp [stL]) (.int .i64 t.events)
  exact h8

theorem nineIn_kept {S : Nat → Prop} (V : World) {rb : Nat} (hS : S rb) (t : St) (p6 p7 : Value) : Kept S V (nineIn V rb t p6 p7) := by
  unfold nineIn
  exact ((((((((Kept.setCell _ _ _ hS).and (Kept.setCell _ _ _ hS)).and (Kept.setCell _ _ _ hS)).and (Kept.setCell _ _ _ hS)).and (Kept.setCell _ _ _ hS)).and (Kept.setCell _ _ _ hS)).and (Kept.setCell _ _ _ hS)).and (Kept.setCell _ _ _ hS)).and (Kept.setCell _ _ _ hS)

theorem nineIn_size (V : World) (rb : Nat) (t : St) (p6 p7 : Value) : (nineIn V rb t p6 p7).heap.size = V.heap.size := by
  unfold nineIn
  simp [World.setCell]

theorem stOwn_keep {V V' : World} {B mb : Nat} {t : St} {p6 p7 : Value} (O : StOwn V B t p6 p7) (h : mb < B ∨ V.heap.size ≤ mb) (K : Kept (fun j => j = mb) V V') : StOwn V' B t p6 p7 :=
  ⟨ownsRow_keep O.nodes (fun g hg => K.block g (ownsRow_blk O.nodes hg) (fun e => by have := (O.nodes.lt g hg); omega)), ownsRow_keep O.sigs (fun g hg => K.block g (ownsRow_blk O.sigs hg) (fun e => by have := (O.sigs.lt g hg); omega))⟩

theorem RnIn.takes {w V : World} {F G : Nat → Prop} {rb : Nat} {nm : ByteArray} {a : Option Addr} {n c : Nat} {r : Rn} {v6 v7 v12 v13 : Value} (R : RnIn w F G rb nm a n c r v6 v7 v12 v13) (K : Kept (fun _ => False) w V) {B : Nat} (hB : w.heap.size ≤ B) {t : St} {p6 p7 : Value} (O : StOwn V B t p6 p7) :
    RnIn (nineIn V rb t p6 p7) (fun g => F g ∨ (w.heap.size ≤ g ∧ g < V.heap.size)) G rb nm a n c { r with st := t } p6 p7 v12 v13 ∧ Kept F w (nineIn V rb t p6 p7) := by
  have KS := nineIn_kept (S := fun j => j = rb) V rfl t p6 p7
  have hFr := R.st.inS
  have hlt := R.st.lt
  have b6 : ∀ g, p6.ownBlock = some g → w.heap.size ≤ g ∧ g < V.heap.size := fun g hg => ⟨Nat.le_trans hB (O.nodes.lt g hg).1, (O.nodes.lt g hg).2⟩
  have b7 : ∀ g, p7.ownBlock = some g → w.heap.size ≤ g ∧ g < V.heap.size := fun g hg => ⟨Nat.le_trans hB (O.sigs.lt g hg).1, (O.sigs.lt g hg).2⟩
  have hG : ∀ g, G g → g ≠ rb := fun g hg h => R.out g hg (h ▸ hFr)
  refine ⟨⟨⟨nineIn_blk (((K.block rb hlt (fun h => h)).trans R.st.blk)), R.st.off, ?_, ?_, .inl hFr, fun g hg => ⟨.inr (b6 g hg), by have := b6 g hg; omega⟩, fun g hg => ⟨.inr (b7 g hg), by have := b7 g hg; omega⟩, fun g h => ?_⟩, ?_, ?_, R.in12, R.in13, fun g hg h => ?_, fun g h => ?_⟩, (K.mono (fun _ h => h.elim)).and (KS.mono (fun j h => h ▸ hFr))⟩
  · exact ownsRow_low (ownsRow_keep O.nodes (fun g hg => KS.block g (b6 g hg).2 (by have := b6 g hg; omega))) (Nat.zero_le _)
  · exact ownsRow_low (ownsRow_keep O.sigs (fun g hg => KS.block g (b7 g hg).2 (by have := b7 g hg; omega))) (Nat.zero_le _)
  · rw [nineIn_size]
    rcases h with h | h
    · exact Nat.lt_of_lt_of_le (R.st.top g h) K.size
    · exact h.2
  · exact ownsRow_keep R.evs (fun g hg => (KS.block g (Nat.lt_of_lt_of_le (ownsRow_blk R.evs hg) K.size) (hG g (R.in12 g hg))).trans (K.block g (ownsRow_blk R.evs hg) (fun h => h)))
  · exact ownsRow_keep R.tks (fun g hg => (KS.block g (Nat.lt_of_lt_of_le (ownsRow_blk R.tks hg) K.size) (hG g (R.in13 g hg))).trans (K.block g (ownsRow_blk R.tks hg) (fun h => h)))
  · rcases h with h | h
    · exact R.out g hg h
    · exact absurd (R.topG g hg) (Nat.not_lt.2 h.1)
  · rw [nineIn_size]
    exact Nat.lt_of_lt_of_le (R.topG g h) K.size

/-- What the call of Apply leaves. -/
def ApQ (x : Option St) (B : Nat) (V : World) (t : St) (p6 p7 : Value) (z : Int) : Prop := match x with
  | none => z = 12
  | some t' => z = 0 ∧ t = t' ∧ StOwn V B t p6 p7

theorem ApQ.keep {x : Option St} (B : Nat) (w1 w2 : World) (t : St) (p6 p7 : Value) (z : Int) (mb : Nat) (h : ApQ x B w1 t p6 p7 z) (hm : mb < B ∨ w1.heap.size ≤ mb) (K : Kept (fun j => j = mb) w1 w2) : ApQ x B w2 t p6 p7 z := by
  cases x with
  | none => exact h
  | some t' => exact ⟨h.1, h.2.1, stOwn_keep h.2.2 hm K⟩

theorem ApPost.open {w : World} {s : St} {a6 a7 : Option Addr} {c6 c7 : Nat} {x : Option St} {e : Ending} {w' : World} (h : ApPost w s (.slice a6 s.nodes.length c6) (.slice a7 s.sigs.length c7) x e w') :
    ∃ (t : St) (b6 : Option Addr) (d6 : Nat) (b7 : Option Addr) (d7 : Nat) (z : Int), e = .returned (.tuple #[.agg #[.string t.dfn, .string t.id, .string t.par, .string t.pnode, .int .i64 t.status, .string t.text, .slice b6 t.nodes.length d6, .slice b7 t.sigs.length d7, .int .i64 t.events], .int .i64 z]) ∧ ApQ x w.heap.size w' t (.slice b6 t.nodes.length d6) (.slice b7 t.sigs.length d7) z ∧ Kept (fun _ => False) w w' := by
  cases x with
  | none => exact ⟨s, a6, c6, a7, c7, 12, h.1, rfl, h.2⟩
  | some t =>
    obtain ⟨u6, u7, he, O, K⟩ := h
    obtain ⟨b6, d6, rfl⟩ := ownsRow_shape O.nodes
    obtain ⟨b7, d7, rfl⟩ := ownsRow_shape O.sigs
    exact ⟨t, b6, d6, b7, d7, 0, he, ⟨rfl, rfl, O⟩, K⟩

-- WALKS
set_option maxRecDepth 100000 in
set_option maxHeartbeats 8000000 in
theorem event_any (w : World) (H : Nat → Prop) (rb : Nat) (nm : ByteArray) (a : Option Addr) (c : Nat) (ns : List Nd) (r : Rn) (R : RAt w H rb nm a ns.length c r) (h6 : r.st.nodes.length ≤ 1000000) (h7 : r.st.sigs.length ≤ 1000000) (he0 : 0 ≤ r.st.events) (he1 : r.st.events ≤ 1000000000000) (h12 : r.evs.length ≤ 1000000)
    (hN : NodesAt w a ns) (hn : ns.length ≤ 1000000) (ev : Ev) :
    Calls Tryd.prog 63 #[.pointer (some ⟨rb, 0, none⟩), .int .i64 ev.kind, .string ev.node, .string ev.text, .int .i64 ev.num] w fun e w' => e = .returned (.tuple #[]) ∧ RGoes w H rb nm a ns.length c (evR nm ns r ev) w' := by
  obtain ⟨ek, en, et, ez⟩ := ev
  simp only []
  obtain ⟨F, G, v6, v7, v12, v13, RN, hFG, htop⟩ := R
  obtain ⟨va6, vc6, rfl⟩ := ownsRow_shape RN.st.nodes
  obtain ⟨va7, vc7, rfl⟩ := ownsRow_shape RN.st.sigs
  obtain ⟨a12, c12, rfl⟩ := ownsRow_shape RN.evs
  have K0 : Kept (fun _ => False) w (w.alloc (.cells #[.int .i64 ek, .string en, .string et, .int .i64 ez] 51)) := Kept.alloc _ _ _
  have R0 := RN.new K0
  have hE := heap_alloc_new w (.cells #[.int .i64 ek, .string en, .string et, .int .i64 ez] 51)
  have hC := fun V (KV : Kept (fun _ => False) (w.alloc (.cells #[.int .i64 ek, .string en, .string et, .int .i64 ez] 51)).drew V) => Calls.mono (refApply_any V nm a c ns (keptNew ((K0.and (Kept.drew _ _)).and KV) hN) hn r.st _ _ ((R0.st.new ((Kept.drew _ _).and KV)).rd h6 h7) he0 he1 ⟨ek, en, et, ez⟩) (fun e w' h => ApPost.open h)
  obtain ⟨⟨p0, p1, _, _, _, _⟩, _, _⟩ := tail_at R0.st.blk
  obtain ⟨⟨s0, s1, s2, s3, s4, s5, s6, s7, s8⟩, _⟩ := nineAt (so := 2) R0.st.blk rfl
  obtain ⟨⟨t0, t1, t2, t3⟩, _⟩ := four hE
  have HK0 := hid K0
  have HR0 := hid R0
  have hEv : Hid (∀ V, Kept F (w.alloc (.cells #[.int .i64 ek, .string en, .string et, .int .i64 ez] 51)) V → V.heap[w.heap.size]? = some (.cells #[.int .i64 ek, .string en, .string et, .int .i64 ez] 51 (0, 0))) := fun V KV => (KV.block _ (Array.getElem?_eq_some_iff.1 hE).1 (fun h => absurd (htop _ (hFG _ (.inl h))) (Nat.lt_irrefl _))).trans hE
  unfold stA at hC
  clear K0 R0 RN hE hN
  go_enter Tryd.func63, Tryd.ntmps63
  go_upto_region 1 with fail
  refine wp_onlyN (ev1 (Q := ApQ (applyR nm ns r.st ⟨ek, en, et, ez⟩)) _ p0 p1 s0 s1 s2 s3 s4 s5 s6 s7 s8 t0 t1 t2 t3 hC ApQ.keep ?_)
  intro _ _ _ _ _ _ _ _ _ _ _ _ _ mb B t a6 c6 a7 c7 z W' hmb hB hbx hQ K1
  clear p0 p1 s0 s1 s2 s3 s4 s5 s6 s7 s8 t0 t1 t2 t3 hC
  have HK1 := hid K1
  cases hp : applyR nm ns r.st ⟨ek, en, et, ez⟩ with
  | none =>
    rw [hp] at hQ
    have hz : z = 12 := hQ
    subst hz
    have HP := hid hp
    clear hp hQ hbx hmb hB K1
    go_upto_region 4 with fail
    have R5 := HR0.out.new HK1.out
    have K5 : Kept F (w.alloc (.cells #[.int .i64 ek, .string en, .string et, .int .i64 ez] 51)) W' := HK1.out.mono (fun _ h => h.elim)
    have hF5 : ∀ g, F g → H g ∨ w.heap.size ≤ g := fun g h => .inl (hFG g (.inl h))
    obtain ⟨⟨_, _, _, p12, _, _⟩, f12, _⟩ := tail_at R5.st.blk
    obtain ⟨⟨t0, t1, t2, t3⟩, _⟩ := four (hEv.out _ K5)
    have hne : ∀ g, (Value.slice a12 r.evs.length c12).ownBlock = some g → g ≠ rb := fun g hg h => R5.out g (R5.in12 g hg) (h ▸ R5.st.inS)
    have Kw5 : Kept H w W' := (HK0.out.mono (fun _ h => h.elim)).and (K5.mono (fun g h => hFG g (.inl h)))
    refine wp_onlyN (ev4 _ p12 f12 t0 t1 t2 t3 hne (by show r.evs.length ≤ _; omega) R5.evs ?_)
    intro _ _ _ _ _ _ _ _ _ _ a4 c4 w4 o4 hw4 K4
    obtain ⟨R6, K6⟩ := R5.pushE ⟨ek, en, et, ez⟩ o4 hw4 K4
    have hG6 : RGoes w H rb nm a ns.length c { r with st := r.st, evs := r.evs ++ [⟨ek, en, et, ez⟩] } (w4.setCell ⟨rb, 12, none⟩ (.slice a4 (r.evs.length + 1) c4)) := by
      refine ⟨⟨_, ⟨_, _, _, _, _, _, R6, fun g h => h, fun g h => h.elim (R6.st.top g) (R6.topG g)⟩, fun g h => ?_⟩, Kw5.trans K6 (fun g h => h.elim (hF5 g) (fun h => .inl (hFG g (.inr h))))⟩
      rcases h with h | h | h
      · exact hF5 g h
      · exact .inl (hFG g (.inr h))
      · exact .inr (Nat.le_trans Kw5.size h.1)
    clear p12 f12 t0 t1 t2 t3 hne o4 hw4 K4 R6 K6 R5 K5 Kw5 hF5
    generalize w4.setCell ⟨rb, 12, none⟩ (.slice a4 (r.evs.length + 1) c4) = w6 at *
    go_wp2_with fail
    go_end0
    refine ⟨rfl, ?_⟩
    unfold evR
    rw [HP.out]
    exact hG6
  | some t' =>
    rw [hp] at hQ
    obtain ⟨hz, ht, O⟩ := hQ
    subst hz
    subst ht
    have HP := hid hp
    have HO := hid O
    have HB := hid hB
    obtain ⟨⟨m0, m1, m2, m3, m4, m5, m6, m7, m8⟩, _⟩ := nine hbx
    obtain ⟨⟨s0, s1, s2, s3, s4, s5, s6, s7, s8⟩, y0, y1, y2, y3, y4, y5, y6, y7, y8⟩ := nineAt (so := 2) (HR0.out.new K1).st.blk rfl
    have hmr : mb ≠ rb := by
      have h1 := HR0.out.st.lt
      omega
    clear hp O hbx hB K1
    go_upto_region 4 with fail
    clear m0 m1 m2 m3 m4 m5 m6 m7 m8 s0 s1 s2 s3 s4 s5 s6 s7 s8 y0 y1 y2 y3 y4 y5 y6 y7 y8
    obtain ⟨R5, K5⟩ := HR0.out.takes HK1.out HB.out HO.out
    have hF5 : ∀ g, F g ∨ ((w.alloc (.cells #[.int .i64 ek, .string en, .string et, .int .i64 ez] 51)).heap.size ≤ g ∧ g < W'.heap.size) → H g ∨ w.heap.size ≤ g := fun g h => h.elim (fun h => .inl (hFG g (.inl h))) (fun h => .inr (Nat.le_trans HK0.out.size h.1))
    obtain ⟨⟨_, _, _, p12, _, _⟩, f12, _⟩ := tail_at R5.st.blk
    obtain ⟨⟨t0, t1, t2, t3⟩, _⟩ := four (hEv.out _ K5)
    have hne : ∀ g, (Value.slice a12 r.evs.length c12).ownBlock = some g → g ≠ rb := fun g hg h => R5.out g (R5.in12 g hg) (h ▸ R5.st.inS)
    have Kw5 : Kept H w (nineIn W' rb t _ _) := (HK0.out.mono (fun _ h => h.elim)).and (K5.mono (fun g h => hFG g (.inl h)))
    refine wp_onlyN (ev4 _ p12 f12 t0 t1 t2 t3 hne (by show r.evs.length ≤ _; omega) R5.evs ?_)
    intro _ _ _ _ _ _ _ _ _ _ a4 c4 w4 o4 hw4 K4
    obtain ⟨R6, K6⟩ := R5.pushE ⟨ek, en, et, ez⟩ o4 hw4 K4
    have hG6 : RGoes w H rb nm a ns.length c { r with st := t, evs := r.evs ++ [⟨ek, en, et, ez⟩] } (w4.setCell ⟨rb, 12, none⟩ (.slice a4 (r.evs.length + 1) c4)) := by
      refine ⟨⟨_, ⟨_, _, _, _, _, _, R6, fun g h => h, fun g h => h.elim (R6.st.top g) (R6.topG g)⟩, fun g h => ?_⟩, Kw5.trans K6 (fun g h => h.elim (hF5 g) (fun h => .inl (hFG g (.inr h))))⟩
      rcases h with h | h | h
      · exact hF5 g h
      · exact .inl (hFG g (.inr h))
      · exact .inr (Nat.le_trans Kw5.size h.1)
    clear p12 f12 t0 t1 t2 t3 hne o4 hw4 K4 R6 K6 R5 K5 Kw5 hF5
    generalize w4.setCell ⟨rb, 12, none⟩ (.slice a4 (r.evs.length + 1) c4) = w6 at *
    go_wp2_with fail
    go_end0
    refine ⟨rfl, ?_⟩
    unfold evR
    rw [HP.out]
    exact hG6

set_option maxRecDepth 100000 in
set_option maxHeartbeats 8000000 in
theorem task_any (w : World) (H : Nat → Prop) (rb : Nat) (nm : ByteArray) (a : Option Addr) (n c : Nat) (r : Rn) (R : RAt w H rb nm a n c r) (h13 : r.tks.length ≤ 1000000) (t : Tk) :
    Calls Tryd.prog 86 #[.pointer (some ⟨rb, 0, none⟩), tkV t] w fun e w' => e = .returned (.tuple #[]) ∧ RGoes w H rb nm a n c (taskR r t) w' := by
  obtain ⟨tk, tf, tn, tt, ta, mk, mt, mf, mn, ma, mx, ms⟩ := t
  unfold tkV
  simp only []
  obtain ⟨F, G, v6, v7, v12, v13, RN, hFG, htop⟩ := R
  obtain ⟨a13, c13, rfl⟩ := ownsRow_shape RN.tks
  obtain ⟨⟨_, _, _, _, _, pid⟩, _, _⟩ := tail_at RN.st.blk
  have pid2 := fun o => keepC (Kept.alloc (fun _ => False) w o) pid (fun _ _ h => h)
  have HRN := hid RN
  have hst := fun (W : World) (a : Addr) (x y : Nat) (m : Mode) => run_store Tryd.prog W a (.complex .f64 x y) m rfl
  clear RN
  go_enter Tryd.func86, Tryd.ntmps86
  go_upto_region 2 with fail
  clear pid pid2 hst
  have K7 : Kept (fun _ => False) w (w.alloc (.cells #[.int .i64 tk, .complex .f64 0 0, .string r.st.id, .string tn, .int .i64 tt, .int .i64 ta, .int .i64 mk, .string mt, .string mf, .string mn, .string ma, .string mx, .int .i64 ms] 78)) := Kept.alloc _ _ _
  have R7 := HRN.out.new K7
  obtain ⟨⟨_, _, _, _, p13, _⟩, _, f13⟩ := tail_at R7.st.blk
  obtain ⟨d0, d1, d2, d3, d4, d5, d6, d7, d8, d9, d10, d11, d12⟩ := thirteen (heap_alloc_new w (.cells #[.int .i64 tk, .complex .f64 0 0, .string r.st.id, .string tn, .int .i64 tt, .int .i64 ta, .int .i64 mk, .string mt, .string mf, .string mn, .string ma, .string mx, .int .i64 ms] 78))
  have hne7 : ∀ g, (Value.slice a13 r.tks.length c13).ownBlock = some g → g ≠ rb := fun g hg h => R7.out g (R7.in13 g hg) (h ▸ R7.st.inS)
  have HR7 := hid R7
  have HK7 := hid K7
  clear R7 K7
  refine wp_onlyN (tk2 _ p13 f13 d0 d1 d2 d3 d4 d5 d6 d7 d8 d9 d10 d11 d12 hne7 (by omega) HR7.out.tks ?_)
  intro _ _ _ _ _ _ _ _ _ _ a4 c4 w4 o4 hw4 K4
  clear p13 f13 d0 d1 d2 d3 d4 d5 d6 d7 d8 d9 d10 d11 d12
  obtain ⟨R8, K8⟩ := HR7.out.pushT (flowT r.st.id ⟨tk, tf, tn, tt, ta, mk, mt, mf, mn, ma, mx, ms⟩) o4 hw4 K4
  have X8 : RGoes w H rb nm a n c (taskR r ⟨tk, tf, tn, tt, ta, mk, mt, mf, mn, ma, mx, ms⟩) (w4.setCell ⟨rb, 13, none⟩ (.slice a4 (r.tks.length + 1) c4)) := by
    refine ⟨⟨_, ⟨F, _, _, _, _, _, R8, fun g h => h, fun g h => h.elim (R8.st.top g) (R8.topG g)⟩, fun g h => ?_⟩, (HK7.out.mono (fun _ h => h.elim)).trans K8 (fun g h => .inl (hFG g h))⟩
    rcases h with h | h | h
    · exact .inl (hFG g (.inl h))
    · exact .inl (hFG g (.inr h))
    · exact .inr (Nat.le_trans HK7.out.size h.1)
  clear o4 hw4 K4 R8 K8 HK7 HR7 HRN hne7
  generalize w4.setCell ⟨rb, 13, none⟩ (.slice a4 (r.tks.length + 1) c4) = w9 at *
  go_wp2_with fail
  go_end0
  exact ⟨rfl, X8⟩

set_option maxRecDepth 100000 in
set_option maxHeartbeats 8000000 in
theorem mail_any (w : World) (H : Nat → Prop) (rb : Nat) (nm : ByteArray) (a : Option Addr) (n c : Nat) (r : Rn) (R : RAt w H rb nm a n c r) (h13 : r.tks.length ≤ 1000000) (m : Ml) :
    Calls Tryd.prog 88 #[.pointer (some ⟨rb, 0, none⟩), .agg #[.int .i64 m.kind, .string m.dst, .string m.src, .string m.node, .string m.name, .string m.text, .int .i64 m.status]] w fun e w' => e = .returned (.tuple #[]) ∧ RGoes w H rb nm a n c (mailR r m) w' := by
  have hC : ∀ V, Kept (fun _ => False) w V → Calls Tryd.prog 86 _ V _ := fun V KV => task_any V H rb nm a n c r (R.new KV) h13 (msgP r.st.id m)
  obtain ⟨F, G, v6, v7, v12, v13, RN, hFG, htop⟩ := R
  obtain ⟨⟨_, _, _, _, _, pid⟩, _, _⟩ := tail_at RN.st.blk
  have pid2 := fun o => keepC (Kept.alloc (fun _ => False) w o) pid (fun _ _ h => h)
  unfold tkV msgP at hC
  simp only [] at hC
  clear RN
  go_enter Tryd.func88, Tryd.ntmps88
  go_wp2_with (first
    | (go_at_call 86; refine (hC _ (Kept.alloc _ _ _)).mono ?_; rintro e w3 ⟨rfl, X3⟩; clear hC)
    | fail)
  go_end0
  exact ⟨rfl, RGoes.first (Kept.alloc _ _ _) X3⟩

end Go.Proofs.YtfjekjbkifmpfaaDoor.Rf
