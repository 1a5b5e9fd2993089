/-
  change: an event of a node; all events.
-/
import Derived.Test.YtfjekjbkifmpfaaDoorG11
import Derived.Test.YtfjekjbkifmpfaaDoorG04
import Derived.Test.YtfjekjbkifmpfaaDoorG01
import Derived.Deep.Cut
namespace Go.Proofs.YtfjekjbkifmpfaaDoor
open Go.RowKit

set_option maxRecDepth 100000 in
set_option maxHeartbeats 8000000 in
theorem chg_node (w : World) (F : Nat → Prop) (sb so : Nat) (T : TypeId) (pre post : List Value) (s : St) (v6 v7 : Value) (S : StIn w F sb so T pre post s v6 v7) (hs : s.status = 1) (h6 : s.nodes.length ≤ 1000000) (h7 : s.sigs.length ≤ 1000000)
    (nm : ByteArray) (a : Option Addr) (c : Nat) (ns : List Nd) (hN : NodesAt w a ns) (hn : ns.length ≤ 1000000) (hNF : ∀ b o, a = some ⟨b, o, none⟩ → ¬ F b) (M : MovesAt w) (ek : Int) (en et : ByteArray) (ez : Int) (he0 : 0 ≤ s.events) (he1 : s.events ≤ 1000000000000)
    (h1 : ek ≠ 1) (h13 : ek ≠ 13) (h15 : ek ≠ 15) :
    Calls Tryd.prog 36 #[.agg #[.string nm, .slice a ns.length c], .pointer (some ⟨sb, so, none⟩), .agg #[.int .i64 ek, .string en, .string et, .int .i64 ez]] w (ChgPost w F sb so T pre post ((changeNodeP ns s ⟨ek, en, et, ez⟩).map (fun s' => { s' with events := s'.events + 1 }))) := by
  have K0 := Bx2.kept w nm a ns.length c ek en et ez
  have S0 := S.new K0
  have hb := S0.blk
  unfold stL at hb
  obtain ⟨⟨_, _, _, _, c4, _, _, _, _⟩, _⟩ := nineAt hb S0.off
  rw [hs] at c4
  have B0 := BxSt.begun w nm a ns.length c ek en et ez
  obtain ⟨⟨x0, x1, x2, x3⟩, _⟩ := four B0.b1
  obtain ⟨y0, y1⟩ := twoB B0.b0
  have hC := fun V (KV : Kept (fun _ => False) w V) => changeNode_any V F sb so T pre post s v6 v7 (S.new KV) h6 h7 nm a c ns (keptNew KV hN) hn hNF (M.kept KV (fun h => h)) ⟨ek, en, et, ez⟩
  have hev : ∀ s', changeNodeP ns s ⟨ek, en, et, ez⟩ = some s' → s'.events = s.events := fun s' h => by
    unfold changeNodeP at h
    split at h
    · cases h
    · split at h
      · cases h
      · split at h
        · cases h
        · cases h
          rfl
  have HK0 := hid K0
  have HS0 := hid S0
  have HB0 := hid B0
  have hof := S.off
  have hw8 : IntKind.i64.wrap (s.events + 1) = s.events + 1 := by rw [IntKind.wrap_i64]; omega
  have e1 : (ek == 1) = false := by simp [h1]
  have e13 : (ek == 13) = false := by simp [h13]
  have e15 : (ek == 15) = false := by simp [h15]
  clear S S0 hb B0 K0 h1 h13 h15
  have hC0 := hC _ HK0.out
  clear hC
  have hin := HS0.out.inS
  cases hp : changeNodeP ns s ⟨ek, en, et, ez⟩ with
  | none =>
    rw [hp] at hC0
    clear hp hev
    go_enter Tryd.func36, Tryd.ntmps36
    go_wp2_with (first
      | (go_at_call 49; refine hC0.mono ?_; rintro e w1 ⟨rfl, K1⟩; clear hC0 x0 x1 x2 x3 y0 y1 c4)
      | go_quiet (fail) | fail)
    go_ret
    exact ⟨rfl, HK0.out.and K1⟩
  | some s' =>
    have hes := hev s' hp
    rw [hp] at hC0
    clear hp hev
    go_enter Tryd.func36, Tryd.ntmps36
    go_wp2_with (first
      | (go_at_call 49; refine hC0.mono ?_; rintro e w1 ⟨rfl, G1⟩; clear hC0 x0 x1 x2 x3 y0 y1 c4; obtain ⟨⟨F1, u6, u7, S1, hF1⟩, K1⟩ := G1; have hb1 := S1.blk; unfold stL at hb1; obtain ⟨⟨_, _, _, _, _, _, _, _, e8⟩, _, _, _, _, _, _, _, _, g8⟩ := nineAt hb1 hof; rw [hes] at e8; have HG : Hid (Goes w F sb so T pre post s' w1) := ⟨⟨F1, u6, u7, S1, fun g h => (hF1 g h).imp id (Nat.le_trans HK0.out.size)⟩, (HK0.out.mono (fun _ h => h.elim)).and K1⟩; clear S1 hF1 K1 hb1)
      | go_quiet (fail) | fail)
    go_ret
    have hg := Goes.count hin HG.out
    refine ⟨rfl, ?_⟩
    show Goes w F sb so T pre post { s' with events := s'.events + 1 } _
    rw [hes] at hg ⊢
    exact hg

theorem change_any (w : World) (F : Nat → Prop) (sb so : Nat) (T : TypeId) (pre post : List Value) (s : St) (v6 v7 : Value) (S : StIn w F sb so T pre post s v6 v7) (h6 : s.nodes.length ≤ 1000000) (h7 : s.sigs.length ≤ 1000000) (he0 : 0 ≤ s.events) (he1 : s.events ≤ 1000000000000)
    (nm : ByteArray) (a : Option Addr) (c : Nat) (ns : List Nd) (hN : NodesAt w a ns) (hn : ns.length ≤ 1000000) (hNF : ∀ b o, a = some ⟨b, o, none⟩ → ¬ F b) (M : MovesAt w) (ev : Ev) :
    Calls Tryd.prog 36 #[.agg #[.string nm, .slice a ns.length c], .pointer (some ⟨sb, so, none⟩), .agg #[.int .i64 ev.kind, .string ev.node, .string ev.text, .int .i64 ev.num]] w (ChgPost w F sb so T pre post (changeP nm ns s ev)) := by
  obtain ⟨ek, en, et, ez⟩ := ev
  unfold changeP
  simp only []
  by_cases hst : s.status ≠ if ek = 1 then 0 else 1
  · rw [if_pos hst]
    exact chg_no w F sb so T pre post s v6 v7 S nm a ns.length c ek en et ez hst
  · rw [if_neg hst]
    replace hst := Classical.not_not.1 hst
    by_cases h1 : ek = 1
    · subst h1
      rw [if_pos rfl]
      exact chg_start w F sb so T pre post s v6 v7 S (by simpa using hst) nm a ns.length c hn en et ez he0 he1
    · rw [if_neg h1] at hst ⊢
      by_cases h13 : ek = 13
      · subst h13
        rw [if_pos rfl]
        exact chg_kept w F sb so T pre post s v6 v7 S hst h7 nm a ns.length c en et ez he0 he1
      · rw [if_neg h13]
        by_cases h15 : ek = 15
        · subst h15
          rw [if_pos rfl]
          exact chg_closed w F sb so T pre post s v6 v7 S hst nm a ns.length c en et ez he0 he1
        · rw [if_neg h15]
          exact chg_node w F sb so T pre post s v6 v7 S hst h6 h7 nm a c ns hN hn hNF M ek en et ez he0 he1 h1 h13 h15

end Go.Proofs.YtfjekjbkifmpfaaDoor

/-
  A run in memory: the definition, the state, the time, the events and the tasks in one block.
-/
namespace Go.Proofs.YtfjekjbkifmpfaaDoor
open Go.RowKit

/-- F has the state's blocks (the run's own among them), G the blocks of the events and the tasks. -/
structure RnIn (w : World) (F G : Nat → Prop) (rb : Nat) (nm : ByteArray) (a : Option Addr) (n c : Nat) (r : Rn) (v6 v7 v12 v13 : Value) : Prop where
  st : StIn w F rb 2 96 [.string nm, .slice a n c] [.int .i64 r.now, v12, v13] r.st v6 v7
  evs : w.ownsRow 0 51 4 v12 r.evs.length (evF r.evs)
  tks : w.ownsRow 0 78 13 v13 r.tks.length (tkF r.tks)
  in12 : ∀ g, v12.ownBlock = some g → G g
  in13 : ∀ g, v13.ownBlock = some g → G g
  out : ∀ g, G g → ¬ F g
  topG : ∀ g, G g → g < w.heap.size

theorem RnIn.new {w w' : World} {F G : Nat → Prop} {rb : Nat} {nm : ByteArray} {a : Option Addr} {n c : Nat} {r : Rn} {v6 v7 v12 v13 : Value} (R : RnIn w F G rb nm a n c r v6 v7 v12 v13) (K : Kept (fun _ => False) w w') : RnIn w' F G rb nm a n c r v6 v7 v12 v13 :=
  ⟨R.st.new K, ownsRow_keep R.evs (fun g hg => K.block g (ownsRow_blk R.evs hg) (fun h => h)), ownsRow_keep R.tks (fun g hg => K.block g (ownsRow_blk R.tks hg) (fun h => h)), R.in12, R.in13, R.out, fun g h => Nat.lt_of_lt_of_le (R.topG g h) K.size⟩

theorem RnIn.changed {w w' : World} {F G : Nat → Prop} {rb : Nat} {nm : ByteArray} {a : Option Addr} {n c : Nat} {r : Rn} {v6 v7 v12 v13 : Value} (R : RnIn w F G rb nm a n c r v6 v7 v12 v13) {s : St}
    (X : Goes w F rb 2 96 [.string nm, .slice a n c] [.int .i64 r.now, v12, v13] s w') : ∃ F' u6 u7, RnIn w' F' G rb nm a n c { r with st := s } u6 u7 v12 v13 ∧ ∀ g, F' g → F g ∨ w.heap.size ≤ g := by
  obtain ⟨⟨F', u6, u7, S, hF⟩, K⟩ := X
  refine ⟨F', u6, u7, ⟨S, ownsRow_keep R.evs (fun g hg => K.block g (ownsRow_blk R.evs hg) (R.out g (R.in12 g hg))), ownsRow_keep R.tks (fun g hg => K.block g (ownsRow_blk R.tks hg) (R.out g (R.in13 g hg))), R.in12, R.in13, fun g hg hf => ?_, fun g h => Nat.lt_of_lt_of_le (R.topG g h) K.size⟩, hF⟩
  rcases hF g hf with h | h
  · exact R.out g hg h
  · exact absurd (R.topG g hg) (Nat.not_lt.2 h)

theorem RnIn.apart {w : World} {F G : Nat → Prop} {rb : Nat} {nm : ByteArray} {a : Option Addr} {n c : Nat} {r : Rn} {v6 v7 v12 v13 : Value} (R : RnIn w F G rb nm a n c r v6 v7 v12 v13) {g : Nat} (hg : v12.ownBlock = some g) : v13.ownBlock ≠ some g := by
  intro h7
  rcases R.evs.2 with ⟨h0, _⟩ | ⟨g', cap, cur, rfl, _, hh, _⟩
  · rw [h0] at hg; cases hg
  · obtain rfl : g' = g := by simpa [Value.ownBlock] using hg
    rcases R.tks.2 with ⟨h1, _⟩ | ⟨g2, cap2, cur2, rfl, _, hh2, _⟩
    · rw [h1] at h7; cases h7
    · obtain rfl : g2 = g' := by simpa [Value.ownBlock] using h7
      rw [hh] at hh2
      simp only [Option.some.injEq, Obj.cells.injEq] at hh2
      exact absurd hh2.2.1 (by decide)

theorem tail_set {w : World} {rb : Nat} {T : TypeId} {p0 p1 q0 q1 q2 : Value} {s : St} {v6 v7 : Value} (h : w.heap[rb]? = some (.cells ([p0, p1] ++ stL s v6 v7 ++ [q0, q1, q2]).toArray T (0, 0))) :
    (∀ u, (w.setCell ⟨rb, 12, none⟩ u).heap[rb]? = some (.cells ([p0, p1] ++ stL s v6 v7 ++ [q0, u, q2]).toArray T (0, 0))) ∧ (∀ u, (w.setCell ⟨rb, 13, none⟩ u).heap[rb]? = some (.cells ([p0, p1] ++ stL s v6 v7 ++ [q0, q1, u]).toArray T (0, 0))) := by
  have h' : w.heap[rb]? = some (.cells (([p0, p1] ++ stL s v6 v7) ++ [q0, q1, q2] ++ []).toArray T (0, 0)) := by rw [List.append_nil]; exact h
  refine ⟨fun u => ?_, fun u => ?_⟩
  · have := blk_set h' (so := 11) rfl (j := 1) (by simp) u
    rw [List.append_nil] at this
    exact this
  · have := blk_set h' (so := 11) rfl (j := 2) (by simp) u
    rw [List.append_nil] at this
    exact this

theorem tail_at {w : World} {rb : Nat} {T : TypeId} {p0 p1 q0 q1 q2 : Value} {s : St} {v6 v7 : Value} (h : w.heap[rb]? = some (.cells ([p0, p1] ++ stL s v6 v7 ++ [q0, q1, q2]).toArray T (0, 0))) :
    (w.cell? ⟨rb, 0, none⟩ = some p0 ∧ w.cell? ⟨rb, 1, none⟩ = some p1 ∧ w.cell? ⟨rb, 11, none⟩ = some q0 ∧ w.cell? ⟨rb, 12, none⟩ = some q1 ∧ w.cell? ⟨rb, 13, none⟩ = some q2 ∧ w.cell? ⟨rb, 3, none⟩ = some (.string s.id)) ∧ w.frozen? ⟨rb, 12, none⟩ = false ∧ w.frozen? ⟨rb, 13, none⟩ = false := by
  simp [World.cell?, World.frozen?, h, stL]

theorem evF_add (l : List Ev) (e : Ev) : evF (l ++ [e]) = evF l ++ evC e := by
  unfold evF
  rw [List.flatMap_append]
  simp

theorem tkF_add (l : List Tk) (e : Tk) : tkF (l ++ [e]) = tkF l ++ tkC e := by
  unfold tkF
  rw [List.flatMap_append]
  simp

section
variable {w w4 : World} {F G : Nat → Prop} {rb : Nat} {nm : ByteArray} {a : Option Addr} {n c : Nat} {r : Rn} {v6 v7 v12 v13 : Value} {a4 : Option Addr} {c4 : Nat}

theorem RnIn.pushE (R : RnIn w F G rb nm a n c r v6 v7 v12 v13) (e : Ev) (o4 : w4.ownsRow 0 51 4 (.slice a4 (r.evs.length + 1) c4) (r.evs.length + 1) (evF r.evs ++ evC e))
    (hw4 : (Value.slice a4 (r.evs.length + 1) c4).ownBlock = v12.ownBlock ∨ ∃ g, (Value.slice a4 (r.evs.length + 1) c4).ownBlock = some g ∧ w.heap.size ≤ g) (K4 : Kept (fun j => v12.ownBlock = some j) w w4) :
    RnIn (w4.setCell ⟨rb, 12, none⟩ (.slice a4 (r.evs.length + 1) c4)) F (fun g => G g ∨ (w.heap.size ≤ g ∧ g < w4.heap.size)) rb nm a n c { r with evs := r.evs ++ [e] } v6 v7 (.slice a4 (r.evs.length + 1) c4) v13 ∧ Kept (fun g => F g ∨ G g) w (w4.setCell ⟨rb, 12, none⟩ (.slice a4 (r.evs.length + 1) c4)) := by
  have KS : Kept (fun j => j = rb) w4 (w4.setCell ⟨rb, 12, none⟩ (.slice a4 (r.evs.length + 1) c4)) := Kept.setCell _ _ _ rfl
  have hz : (w4.setCell ⟨rb, 12, none⟩ (.slice a4 (r.evs.length + 1) c4)).heap.size = w4.heap.size := by simp [World.setCell]
  have hFr := R.st.inS
  have hb := R.st.blk
  have hb4 := (K4.block rb R.st.lt (fun h => R.out rb (R.in12 rb h) hFr)).trans hb
  have hb5 := (tail_set hb4).1 (.slice a4 (r.evs.length + 1) c4)
  have keepF : ∀ g, F g → g ≠ rb → (w4.setCell ⟨rb, 12, none⟩ (.slice a4 (r.evs.length + 1) c4)).heap[g]? = w.heap[g]? := fun g hf hg => (KS.block g (Nat.lt_of_lt_of_le (R.st.top g hf) K4.size) hg).trans (K4.block g (R.st.top g hf) (fun h => R.out g (R.in12 g h) hf))
  have hG4 : ∀ g, (Value.slice a4 (r.evs.length + 1) c4).ownBlock = some g → G g ∨ (w.heap.size ≤ g ∧ g < w4.heap.size) := fun g hg => by
    rcases hw4 with h | ⟨g', h, hg'⟩
    · exact .inl (R.in12 g (h ▸ hg))
    · obtain rfl : g' = g := by rw [h] at hg; simpa using hg
      exact .inr ⟨hg', ownsRow_blk o4 hg⟩
  have hout : ∀ g, G g ∨ (w.heap.size ≤ g ∧ g < w4.heap.size) → ¬ F g := fun g h hf => by
    rcases h with h | h
    · exact R.out g h hf
    · exact absurd (R.st.top g hf) (Nat.not_lt.2 h.1)
  refine ⟨⟨⟨hb5, R.st.off, ownsRow_keep R.st.nodes (fun g hg => keepF g (R.st.in6 g hg).1 (R.st.in6 g hg).2), ownsRow_keep R.st.sigs (fun g hg => keepF g (R.st.in7 g hg).1 (R.st.in7 g hg).2), hFr, R.st.in6, R.st.in7, fun g h => by rw [hz]; exact Nat.lt_of_lt_of_le (R.st.top g h) K4.size⟩, ?_, ?_, hG4, fun g hg => .inl (R.in13 g hg), hout, fun g h => ?_⟩, (K4.mono (fun j h => .inr (R.in12 j h))).and (KS.mono (fun j h => .inl (h ▸ hFr)))⟩
  · show World.ownsRow _ _ _ _ _ (r.evs ++ [e]).length (evF (r.evs ++ [e]))
    rw [List.length_append, evF_add]
    exact ownsRow_keep o4 (fun g hg => KS.block g (ownsRow_blk o4 hg) (fun h => hout g (hG4 g hg) (h ▸ hFr)))
  · exact ownsRow_keep R.tks (fun g hg => (KS.block g (Nat.lt_of_lt_of_le (ownsRow_blk R.tks hg) K4.size) (fun h => R.out g (R.in13 g hg) (h ▸ hFr))).trans (K4.block g (ownsRow_blk R.tks hg) (fun h => R.apart h hg)))
  · rw [hz]
    rcases h with h | h
    · exact Nat.lt_of_lt_of_le (R.topG g h) K4.size
    · exact h.2

theorem RnIn.pushT (R : RnIn w F G rb nm a n c r v6 v7 v12 v13) (e : Tk) (o4 : w4.ownsRow 0 78 13 (.slice a4 (r.tks.length + 1) c4) (r.tks.length + 1) (tkF r.tks ++ tkC e))
    (hw4 : (Value.slice a4 (r.tks.length + 1) c4).ownBlock = v13.ownBlock ∨ ∃ g, (Value.slice a4 (r.tks.length + 1) c4).ownBlock = some g ∧ w.heap.size ≤ g) (K4 : Kept (fun j => v13.ownBlock = some j) w w4) :
    RnIn (w4.setCell ⟨rb, 13, none⟩ (.slice a4 (r.tks.length + 1) c4)) F (fun g => G g ∨ (w.heap.size ≤ g ∧ g < w4.heap.size)) rb nm a n c { r with tks := r.tks ++ [e] } v6 v7 v12 (.slice a4 (r.tks.length + 1) c4) ∧ Kept (fun g => F g ∨ G g) w (w4.setCell ⟨rb, 13, none⟩ (.slice a4 (r.tks.length + 1) c4)) := by
  have KS : Kept (fun j => j = rb) w4 (w4.setCell ⟨rb, 13, none⟩ (.slice a4 (r.tks.length + 1) c4)) := Kept.setCell _ _ _ rfl
  have hz : (w4.setCell ⟨rb, 13, none⟩ (.slice a4 (r.tks.length + 1) c4)).heap.size = w4.heap.size := by simp [World.setCell]
  have hFr := R.st.inS
  have hb := R.st.blk
  have hb4 := (K4.block rb R.st.lt (fun h => R.out rb (R.in13 rb h) hFr)).trans hb
  have hb5 := (tail_set hb4).2 (.slice a4 (r.tks.length + 1) c4)
  have keepF : ∀ g, F g → g ≠ rb → (w4.setCell ⟨rb, 13, none⟩ (.slice a4 (r.tks.length + 1) c4)).heap[g]? = w.heap[g]? := fun g hf hg => (KS.block g (Nat.lt_of_lt_of_le (R.st.top g hf) K4.size) hg).trans (K4.block g (R.st.top g hf) (fun h => R.out g (R.in13 g h) hf))
  have hG4 : ∀ g, (Value.slice a4 (r.tks.length + 1) c4).ownBlock = some g → G g ∨ (w.heap.size ≤ g ∧ g < w4.heap.size) := fun g hg => by
    rcases hw4 with h | ⟨g', h, hg'⟩
    · exact .inl (R.in13 g (h ▸ hg))
    · obtain rfl : g' = g := by rw [h] at hg; simpa using hg
      exact .inr ⟨hg', ownsRow_blk o4 hg⟩
  have hout : ∀ g, G g ∨ (w.heap.size ≤ g ∧ g < w4.heap.size) → ¬ F g := fun g h hf => by
    rcases h with h | h
    · exact R.out g h hf
    · exact absurd (R.st.top g hf) (Nat.not_lt.2 h.1)
  refine ⟨⟨⟨hb5, R.st.off, ownsRow_keep R.st.nodes (fun g hg => keepF g (R.st.in6 g hg).1 (R.st.in6 g hg).2), ownsRow_keep R.st.sigs (fun g hg => keepF g (R.st.in7 g hg).1 (R.st.in7 g hg).2), hFr, R.st.in6, R.st.in7, fun g h => by rw [hz]; exact Nat.lt_of_lt_of_le (R.st.top g h) K4.size⟩, ?_, ?_, fun g hg => .inl (R.in12 g hg), hG4, hout, fun g h => ?_⟩, (K4.mono (fun j h => .inr (R.in13 j h))).and (KS.mono (fun j h => .inl (h ▸ hFr)))⟩
  · exact ownsRow_keep R.evs (fun g hg => (KS.block g (Nat.lt_of_lt_of_le (ownsRow_blk R.evs hg) K4.size) (fun h => R.out g (R.in12 g hg) (h ▸ hFr))).trans (K4.block g (ownsRow_blk R.evs hg) (fun h => R.apart hg h)))
  · show World.ownsRow _ _ _ _ _ (r.tks ++ [e]).length (tkF (r.tks ++ [e]))
    rw [List.length_append, tkF_add]
    exact ownsRow_keep o4 (fun g hg => KS.block g (ownsRow_blk o4 hg) (fun h => hout g (hG4 g hg) (h ▸ hFr)))
  · rw [hz]
    rcases h with h | h
    · exact Nat.lt_of_lt_of_le (R.topG g h) K4.size
    · exact h.2

end

/-- A run whose blocks are in H. -/
def RAt (w : World) (H : Nat → Prop) (rb : Nat) (nm : ByteArray) (a : Option Addr) (n c : Nat) (r : Rn) : Prop :=
  ∃ F G v6 v7 v12 v13, RnIn w F G rb nm a n c r v6 v7 v12 v13 ∧ (∀ g, F g ∨ G g → H g) ∧ ∀ g, H g → g < w.heap.size

/-- What a call leaves of a run: the run, and all else. -/
def RGoes (w : World) (H : Nat → Prop) (rb : Nat) (nm : ByteArray) (a : Option Addr) (n c : Nat) (r : Rn) (w' : World) : Prop :=
  (∃ H', RAt w' H' rb nm a n c r ∧ ∀ g, H' g → H g ∨ w.heap.size ≤ g) ∧ Kept H w w'

theorem RGoes.keep {w w' : World} {H : Nat → Prop} {rb : Nat} {nm : ByteArray} {a : Option Addr} {n c : Nat} {r : Rn} (R : RAt w H rb nm a n c r) (K : Kept (fun _ => False) w w') : RGoes w H rb nm a n c r w' := by
  obtain ⟨F, G, v6, v7, v12, v13, RN, hH, ht⟩ := R
  exact ⟨⟨H, ⟨F, G, v6, v7, v12, v13, RN.new K, hH, fun g h => Nat.lt_of_lt_of_le (ht g h) K.size⟩, fun g h => .inl h⟩, K.mono (fun _ h => h.elim)⟩

theorem tk_at {w : World} {a : Option Addr} {n c : Nat} {ts : List Tk} (T : FlatAt w 13 (.slice a n c) n (tkF ts)) {k : Nat} (hk : k < ts.length) (hn : ts.length = n) : ∃ b o, a = some ⟨b, o, none⟩ ∧
    (w.cell? ⟨b, o + k * 13, none⟩ = some (.int .i64 (ts[k]).kind) ∧ w.cell? ⟨b, o + k * 13 + 1, none⟩ = some (.complex .f64 0 0) ∧ w.cell? ⟨b, o + k * 13 + 2, none⟩ = some (.string (ts[k]).flow) ∧ w.cell? ⟨b, o + k * 13 + 3, none⟩ = some (.string (ts[k]).node) ∧ w.cell? ⟨b, o + k * 13 + 4, none⟩ = some (.int .i64 (ts[k]).tr) ∧ w.cell? ⟨b, o + k * 13 + 5, none⟩ = some (.int .i64 (ts[k]).tm) ∧
     w.cell? ⟨b, o + k * 13 + 6, none⟩ = some (.int .i64 (ts[k]).mail.kind) ∧ w.cell? ⟨b, o + k * 13 + 7, none⟩ = some (.string (ts[k]).mail.dst) ∧ w.cell? ⟨b, o + k * 13 + 8, none⟩ = some (.string (ts[k]).mail.src) ∧ w.cell? ⟨b, o + k * 13 + 9, none⟩ = some (.string (ts[k]).mail.node) ∧ w.cell? ⟨b, o + k * 13 + 10, none⟩ = some (.string (ts[k]).mail.name) ∧ w.cell? ⟨b, o + k * 13 + 11, none⟩ = some (.string (ts[k]).mail.text) ∧ w.cell? ⟨b, o + k * 13 + 12, none⟩ = some (.int .i64 (ts[k]).mail.status)) := by
  obtain ⟨_, a', c', e, _, _, h0 | ⟨b, o, rfl, hc⟩⟩ := T
  · omega
  · obtain ⟨rfl, rfl⟩ : a = some ⟨b, o, none⟩ ∧ c = c' := by simpa using e
    have at_ : ∀ j u, j < 13 → (tkC ts[k])[j]? = some u → w.cell? ⟨b, o + k * 13 + j, none⟩ = some u := fun j u hj hu => by
      rw [Nat.add_assoc]
      exact hc _ u ((flatMap_at tkC_len (List.getElem?_eq_getElem hk) j hj).trans hu)
    exact ⟨b, o, rfl, at_ 0 _ (by decide) rfl, at_ 1 _ (by decide) rfl, at_ 2 _ (by decide) rfl, at_ 3 _ (by decide) rfl, at_ 4 _ (by decide) rfl, at_ 5 _ (by decide) rfl, at_ 6 _ (by decide) rfl, at_ 7 _ (by decide) rfl, at_ 8 _ (by decide) rfl, at_ 9 _ (by decide) rfl, at_ 10 _ (by decide) rfl, at_ 11 _ (by decide) rfl, at_ 12 _ (by decide) rfl⟩

/-- A task that is told is the workflow's. -/
def flowT (x : ByteArray) (t : Tk) : Tk := { t with flow := x }

def tellP (nm : ByteArray) (ns : List Nd) (r : Rn) (e : Ev) (ts : List Tk) : Rn :=
  match changeP nm ns r.st e with
  | none => r
  | some s => { r with st := s, evs := r.evs ++ [e], tks := r.tks ++ ts.map (flowT s.id) }

end Go.Proofs.YtfjekjbkifmpfaaDoor

/-
  tell: an event happens to a run, with the tasks that it brings.
-/
namespace Go.Proofs.YtfjekjbkifmpfaaDoor
open Go.RowKit

theorem thirteen {w : World} {b : Nat} {T : TypeId} {u0 u1 u2 u3 u4 u5 u6 u7 u8 u9 u10 u11 u12 : Value} (h : w.heap[b]? = some (.cells #[u0, u1, u2, u3, u4, u5, u6, u7, u8, u9, u10, u11, u12] T (0, 0))) : w.cell? ⟨b, 0, none⟩ = some u0 ∧ w.cell? ⟨b, 1, none⟩ = some u1 ∧ w.cell? ⟨b, 2, none⟩ = some u2 ∧ w.cell? ⟨b, 3, none⟩ = some u3 ∧ w.cell? ⟨b, 4, none⟩ = some u4 ∧ w.cell? ⟨b, 5, none⟩ = some u5 ∧ w.cell? ⟨b, 6, none⟩ = some u6 ∧ w.cell? ⟨b, 7, none⟩ = some u7 ∧ w.cell? ⟨b, 8, none⟩ = some u8 ∧ w.cell? ⟨b, 9, none⟩ = some u9 ∧ w.cell? ⟨b, 10, none⟩ = some u10 ∧ w.cell? ⟨b, 11, none⟩ = some u11 ∧ w.cell? ⟨b, 12, none⟩ = some u12 := by
  simp [World.cell?, h]

set_option maxRecDepth 100000 in
set_option maxHeartbeats 8000000 in
theorem tell_any (w : World) (H : Nat → Prop) (rb : Nat) (nm : ByteArray) (a : Option Addr) (c : Nat) (ns : List Nd) (r : Rn) (R : RAt w H rb nm a ns.length c r) (h6 : r.st.nodes.length ≤ 1000000) (h7 : r.st.sigs.length ≤ 1000000) (he0 : 0 ≤ r.st.events) (he1 : r.st.events ≤ 1000000000000) (h12 : r.evs.length ≤ 1000000) (h13 : r.tks.length ≤ 1000000)
    (hN : NodesAt w a ns) (hn : ns.length ≤ 1000000) (hNH : ∀ b o, a = some ⟨b, o, none⟩ → ¬ H b) (M : MovesAt w) (ev : Ev) (ts : List Tk) (ta : Option Addr) (tc : Nat) (hT : FlatAt w 13 (.slice ta ts.length tc) ts.length (tkF ts)) (hts : ts.length ≤ 1000000) (htH : ∀ g, slBlk (.slice ta ts.length tc) = some g → ¬ H g) :
    Calls Tryd.prog 73 #[.pointer (some ⟨rb, 0, none⟩), .agg #[.int .i64 ev.kind, .string ev.node, .string ev.text, .int .i64 ev.num], .slice ta ts.length tc] w fun e w' => e = .returned (.tuple #[]) ∧ RGoes w H rb nm a ns.length c (tellP nm ns r ev ts) w' := by
  obtain ⟨ek, en, et, ez⟩ := ev
  simp only []
  have HR := hid R
  obtain ⟨F, G, v6, v7, v12, v13, RN, hFG, htop⟩ := R
  have K0 : Kept (fun _ => False) w (w.alloc (.cells #[.int .i64 ek, .string en, .string et, .int .i64 ez] 51)) := Kept.alloc _ _ _
  have R0 := RN.new K0
  have hE := heap_alloc_new w (.cells #[.int .i64 ek, .string en, .string et, .int .i64 ez] 51)
  have hC := change_any (w.alloc (.cells #[.int .i64 ek, .string en, .string et, .int .i64 ez] 51)).drew F rb 2 96 [.string nm, .slice a ns.length c] [.int .i64 r.now, v12, v13] r.st v6 v7 (R0.st.new (Kept.drew _ _)) h6 h7 he0 he1 nm a c ns (keptNew (K0.and (Kept.drew _ _)) hN) hn (fun b o h hf => hNH b o h (hFG b (.inl hf))) (M.kept (K0.and (Kept.drew _ _)) (fun h => h)) ⟨ek, en, et, ez⟩
  obtain ⟨⟨p0, p1, _, _, _, _⟩, _, _⟩ := tail_at R0.st.blk
  obtain ⟨⟨t0, t1, t2, t3⟩, _⟩ := four hE
  have HK0 := hid K0
  have HR0 := hid R0
  have HT := hid hT
  have HE := hid hE
  unfold tellP
  clear K0 R0 RN hE hN M hT
  cases hp : changeP nm ns r.st ⟨ek, en, et, ez⟩ with
  | none =>
    rw [hp] at hC
    simp only []
    clear hp
    go_enter Tryd.func73, Tryd.ntmps73
    go_upto_region 1 with fail
    refine wp_onlyN (tl1 (R := fun V => Kept (fun _ => False) (w.alloc (.cells #[.int .i64 ek, .string en, .string et, .int .i64 ez] 51)).drew V) (r := false) _ p0 p1 t0 t1 t2 t3 hC (fun V KV => ⟨keepC KV p0 (fun _ _ h => h), keepC KV p1 (fun _ _ h => h), keepC KV t0 (fun _ _ h => h), keepC KV t1 (fun _ _ h => h), keepC KV t2 (fun _ _ h => h), keepC KV t3 (fun _ _ h => h)⟩) ?_)
    intro _ _ _ _ _ _ _ _ _ w5 K5
    clear p0 p1 t0 t1 t2 t3 hC
    go_wp2_with fail
    (try simp only [Exit.inBlock, Exit.then]); refine bodyPost_ret (results_none rfl _ _ _) rfl ?_
    exact ⟨rfl, RGoes.keep HR.out ((HK0.out.and (Kept.drew _ _)).and K5)⟩
  | some s =>
    rw [hp] at hC
    simp only []
    clear hp
    have hwF : ¬ F w.heap.size := fun h => absurd (htop _ (hFG _ (.inl h))) (Nat.lt_irrefl _)
    have hEk : ∀ V, Kept F (w.alloc (.cells #[.int .i64 ek, .string en, .string et, .int .i64 ez] 51)).drew V → V.heap[w.heap.size]? = some (.cells #[.int .i64 ek, .string en, .string et, .int .i64 ez] 51 (0, 0)) := fun V KV => (KV.block _ (Array.getElem?_eq_some_iff.1 HE.out).1 hwF).trans HE.out
    have HEk := hid hEk
    clear hEk
    go_enter Tryd.func73, Tryd.ntmps73
    go_upto_region 1 with fail
    refine wp_onlyN (tl1 (R := fun V => Goes (w.alloc (.cells #[.int .i64 ek, .string en, .string et, .int .i64 ez] 51)).drew F rb 2 96 [.string nm, .slice a ns.length c] [.int .i64 r.now, v12, v13] s V) (r := true) _ p0 p1 t0 t1 t2 t3 hC (fun V X => by
      obtain ⟨⟨F', u6, u7, S', _⟩, KV⟩ := X
      obtain ⟨⟨y0, y1, _, _, _, _⟩, _, _⟩ := tail_at S'.blk
      obtain ⟨⟨z0, z1, z2, z3⟩, _⟩ := four (HEk.out V KV)
      exact ⟨y0, y1, z0, z1, z2, z3⟩) ?_)
    intro _ _ _ _ _ _ _ _ _ w5 G5
    clear p0 p1 t0 t1 t2 t3 hC
    obtain ⟨F5, u6, u7, R5, hF5⟩ := (HR0.out.new (Kept.drew _ _)).changed G5
    have K5 : Kept F (w.alloc (.cells #[.int .i64 ek, .string en, .string et, .int .i64 ez] 51)).drew w5 := G5.2
    obtain ⟨⟨_, _, _, p12, _, _⟩, f12, _⟩ := tail_at R5.st.blk
    obtain ⟨⟨t0, t1, t2, t3⟩, _⟩ := four (HEk.out w5 K5)
    obtain ⟨a12, c12, rfl⟩ := ownsRow_shape R5.evs
    have hF5w : ∀ g, F5 g → H g ∨ w.heap.size ≤ g := fun g h => (hF5 g h).imp (fun h => hFG g (.inl h)) (fun h => Nat.le_trans HK0.out.size h)
    have Kw5 : Kept H w w5 := ((HK0.out.and (Kept.drew _ _)).mono (fun _ h => h.elim)).and (K5.mono (fun g h => hFG g (.inl h)))
    have HR5 := hid R5
    have HX5 : Hid ((∀ g, F5 g → H g ∨ w.heap.size ≤ g) ∧ Kept H w w5) := ⟨hF5w, Kw5⟩
    have hne : ∀ g, (Value.slice a12 r.evs.length c12).ownBlock = some g → g ≠ rb := fun g hg h => R5.out g (R5.in12 g hg) (h ▸ R5.st.inS)
    clear G5 R5 hF5 K5 hF5w Kw5 HR0 HEk HE
    go_upto_region 2 with fail
    refine wp_onlyN (tl2 _ p12 f12 t0 t1 t2 t3 hne (by show r.evs.length ≤ _; omega) HR5.out.evs ?_)
    intro _ _ _ _ _ _ _ _ _ _ a4 c4 w4 o4 hw4 K4
    obtain ⟨R6, K6⟩ := HR5.out.pushE ⟨ek, en, et, ez⟩ o4 hw4 K4
    have hz4 : w5.heap.size ≤ w4.heap.size := K4.size
    have hG6 : RGoes w H rb nm a ns.length c { r with st := s, evs := r.evs ++ [⟨ek, en, et, ez⟩] } (w4.setCell ⟨rb, 12, none⟩ (.slice a4 (r.evs.length + 1) c4)) := by
      refine ⟨⟨fun g => F5 g ∨ (G g ∨ (w5.heap.size ≤ g ∧ g < w4.heap.size)), ⟨F5, _, u6, u7, _, v13, R6, fun g h => h, fun g h => h.elim (R6.st.top g) (R6.topG g)⟩, fun g h => ?_⟩, HX5.out.2.trans K6 (fun g h => h.elim (HX5.out.1 g) (fun h => .inl (hFG g (.inr h))))⟩
      rcases h with h | h | h
      · exact HX5.out.1 g h
      · exact .inl (hFG g (.inr h))
      · exact .inr (Nat.le_trans HX5.out.2.size h.1)
    clear p12 f12 t0 t1 t2 t3 hne o4 hw4 K4 R6 K6 hz4
    generalize w4.setCell ⟨rb, 12, none⟩ (.slice a4 (r.evs.length + 1) c4) = w6 at *
    clear HR5 HX5 hwF hFG htop
    go_wp2_with fail
    go_loopw [30] (fun i wr => ∃ (k : Nat), k ≤ ts.length ∧ i = .int .i64 k ∧ RGoes w H rb nm a ns.length c { r with st := s, evs := r.evs ++ [⟨ek, en, et, ez⟩], tks := r.tks ++ (ts.take k).map (flowT s.id) } wr) (fun i _ => ts.length - (intOf i).toNat)
    case atStart => exact ⟨0, Nat.zero_le _, rfl, by simpa using hG6⟩
    case round =>
      obtain ⟨k, hk, rfl, X⟩ := hrel
      by_cases hlt : k < ts.length
      · obtain ⟨⟨H', ⟨F', G', u6, u7, u12, u13, RK, hFG', htop'⟩, hH'⟩, KX⟩ := X
        obtain ⟨b, o, rfl, c0, c1, c2, c3, c4, c5, c6, c7, c8, c9, c10, c11, c12⟩ := tk_at (HT.out.kept KX (fun g hg _ => htH g hg)) hlt rfl
        have e0 : (k : Int) < (ts.length : Int) := by omega
        obtain ⟨⟨_, _, _, _, _, pid⟩, _, _⟩ := tail_at RK.st.blk
        have pid2 := fun o => keepC (Kept.alloc (fun _ => False) wr o) pid (fun _ _ h => h)
        have HRK := hid RK
        have HX : Hid ((∀ g, F' g ∨ G' g → H' g) ∧ (∀ g, H' g → g < wr.heap.size) ∧ (∀ g, H' g → H g ∨ w.heap.size ≤ g) ∧ Kept H w wr) := ⟨hFG', htop', hH', KX⟩
        clear RK hFG' htop' hH' KX
        have hst := fun (W : World) (a : Addr) (x y : Nat) (m : Mode) => run_store Tryd.prog W a (.complex .f64 x y) m rfl
        go_upto_region 7 with fail
        clear pid pid2 c0 c1 c2 c3 c4 c5 c6 c7 c8 c9 c10 c11 c12 hst
        have K7 : Kept (fun _ => False) wr (wr.alloc (.cells #[.int .i64 (ts[k]).kind, .complex .f64 0 0, .string s.id, .string (ts[k]).node, .int .i64 (ts[k]).tr, .int .i64 (ts[k]).tm, .int .i64 (ts[k]).mail.kind, .string (ts[k]).mail.dst, .string (ts[k]).mail.src, .string (ts[k]).mail.node, .string (ts[k]).mail.name, .string (ts[k]).mail.text, .int .i64 (ts[k]).mail.status] 78)) := Kept.alloc _ _ _
        have R7 := HRK.out.new K7
        obtain ⟨a13, c13, rfl⟩ := ownsRow_shape R7.tks
        obtain ⟨⟨_, _, _, _, p13, _⟩, _, f13⟩ := tail_at R7.st.blk
        obtain ⟨d0, d1, d2, d3, d4, d5, d6, d7, d8, d9, d10, d11, d12⟩ := thirteen (heap_alloc_new wr (.cells #[.int .i64 (ts[k]).kind, .complex .f64 0 0, .string s.id, .string (ts[k]).node, .int .i64 (ts[k]).tr, .int .i64 (ts[k]).tm, .int .i64 (ts[k]).mail.kind, .string (ts[k]).mail.dst, .string (ts[k]).mail.src, .string (ts[k]).mail.node, .string (ts[k]).mail.name, .string (ts[k]).mail.text, .int .i64 (ts[k]).mail.status] 78))
        have HR7 := hid R7
        have hne7 : ∀ g, (Value.slice a13 (r.tks ++ (ts.take k).map (flowT s.id)).length c13).ownBlock = some g → g ≠ rb := fun g hg h => R7.out g (R7.in13 g hg) (h ▸ R7.st.inS)
        have hl7 : (r.tks ++ (ts.take k).map (flowT s.id)).length ≤ 1000000000 := by
          rw [List.length_append, List.length_map, List.length_take]
          omega
        have HK7 := hid K7
        clear R7 K7
        refine wp_onlyN (tl7 _ p13 f13 d0 d1 d2 d3 d4 d5 d6 d7 d8 d9 d10 d11 d12 hne7 hl7 HR7.out.tks ?_)
        intro _ _ _ _ _ _ _ _ _ _ a4 c4 w4 o4 hw4 K4
        clear p13 f13 d0 d1 d2 d3 d4 d5 d6 d7 d8 d9 d10 d11 d12
        obtain ⟨R8, K8⟩ := HR7.out.pushT (flowT s.id ts[k]) o4 hw4 K4
        have hnx : (r.tks ++ (ts.take k).map (flowT s.id)) ++ [flowT s.id ts[k]] = r.tks ++ (ts.take (k + 1)).map (flowT s.id) := by
          rw [List.take_succ_eq_append_getElem hlt, List.map_append, List.append_assoc]
          rfl
        have hzw : w.heap.size ≤ (wr.alloc (.cells #[.int .i64 (ts[k]).kind, .complex .f64 0 0, .string s.id, .string (ts[k]).node, .int .i64 (ts[k]).tr, .int .i64 (ts[k]).tm, .int .i64 (ts[k]).mail.kind, .string (ts[k]).mail.dst, .string (ts[k]).mail.src, .string (ts[k]).mail.node, .string (ts[k]).mail.name, .string (ts[k]).mail.text, .int .i64 (ts[k]).mail.status] 78)).heap.size := Nat.le_trans HX.out.2.2.2.size HK7.out.size
        have X8 : RGoes w H rb nm a ns.length c { r with st := s, evs := r.evs ++ [⟨ek, en, et, ez⟩], tks := r.tks ++ (ts.take (k + 1)).map (flowT s.id) } (w4.setCell ⟨rb, 13, none⟩ (.slice a4 ((r.tks ++ (ts.take k).map (flowT s.id)).length + 1) c4)) := by
          rw [← hnx]
          refine ⟨⟨_, ⟨F', _, u6, u7, u12, _, R8, fun g h => h, fun g h => h.elim (R8.st.top g) (R8.topG g)⟩, fun g h => ?_⟩, (HX.out.2.2.2.and (HK7.out.mono (fun _ h => h.elim))).trans K8 (fun g h => HX.out.2.2.1 g (HX.out.1 g h))⟩
          rcases h with h | h | h
          · exact HX.out.2.2.1 g (HX.out.1 g (.inl h))
          · exact HX.out.2.2.1 g (HX.out.1 g (.inr h))
          · exact .inr (Nat.le_trans hzw h.1)
        clear o4 hw4 K4 R8 K8 hnx hzw HX HK7 HR7 HRK hne7 hl7
        generalize w4.setCell ⟨rb, 13, none⟩ (.slice a4 ((r.tks ++ (ts.take k).map (flowT s.id)).length + 1) c4) = w9 at *
        go_wp2_with fail
        go_roundw
        case rel => exact ⟨k + 1, by omega, by go_num, X8⟩
        case measure => simp [intOf]; omega
      · obtain rfl : k = ts.length := by omega
        rw [List.take_length] at X
        have e0 : ¬ ((ts.length : Int) < (ts.length : Int)) := by omega
        go_wp2_with fail
        go_end0
        exact ⟨rfl, X⟩

end Go.Proofs.YtfjekjbkifmpfaaDoor

/-
  The run's methods that only read.
-/
namespace Go.Proofs.YtfjekjbkifmpfaaDoor
open Go.RowKit

theorem RAt.opened {w : World} {H : Nat → Prop} {rb : Nat} {nm : ByteArray} {a : Option Addr} {n c : Nat} {r : Rn} (R : RAt w H rb nm a n c r) : ∃ v6 v7 v12 v13 : Value, w.heap[rb]? = some (.cells ([Value.string nm, Value.slice a n c] ++ stL r.st v6 v7 ++ [Value.int .i64 r.now, v12, v13]).toArray 96 (0, 0)) ∧ w.ownsRow 0 61 3 v6 r.st.nodes.length (nsF r.st.nodes) ∧ w.ownsRow 0 88 2 v7 r.st.sigs.length (sgF r.st.sigs) ∧ H rb ∧ (∀ g, v6.ownBlock = some g → H g) ∧ ∀ g, H g → g < w.heap.size := by
  obtain ⟨F, G, v6, v7, v12, v13, RN, hH, ht⟩ := R
  exact ⟨v6, v7, v12, v13, RN.st.blk, RN.st.nodes, RN.st.sigs, hH _ (.inl RN.st.inS), fun g hg => hH g (.inl (RN.st.in6 g hg).1), ht⟩

theorem runCells {w : World} {rb : Nat} {T : TypeId} {p0 p1 q0 q1 q2 : Value} {s : St} {v6 v7 : Value} (h : w.heap[rb]? = some (.cells ([p0, p1] ++ stL s v6 v7 ++ [q0, q1, q2]).toArray T (0, 0))) :
    w.cell? ⟨rb, 0, none⟩ = some p0 ∧ w.cell? ⟨rb, 1, none⟩ = some p1 ∧ w.cell? ⟨rb, 2, none⟩ = some (.string s.dfn) ∧ w.cell? ⟨rb, 3, none⟩ = some (.string s.id) ∧ w.cell? ⟨rb, 4, none⟩ = some (.string s.par) ∧ w.cell? ⟨rb, 5, none⟩ = some (.string s.pnode) ∧ w.cell? ⟨rb, 6, none⟩ = some (.int .i64 s.status) ∧ w.cell? ⟨rb, 7, none⟩ = some (.string s.text) ∧ w.cell? ⟨rb, 8, none⟩ = some v6 ∧ w.cell? ⟨rb, 9, none⟩ = some v7 ∧ w.cell? ⟨rb, 10, none⟩ = some (.int .i64 s.events) ∧ w.cell? ⟨rb, 11, none⟩ = some q0 := by
  simp [World.cell?, h, stL]

/-- A task as a value. -/
def tkV (t : Tk) : Value := .agg #[.int .i64 t.kind, .complex .f64 0 0, .string t.flow, .string t.node, .int .i64 t.tr, .int .i64 t.tm, .int .i64 t.mail.kind, .string t.mail.dst, .string t.mail.src, .string t.mail.node, .string t.mail.name, .string t.mail.text, .int .i64 t.mail.status]

def msgP (id : ByteArray) (m : Ml) : Tk := ⟨3, ⟨#[]⟩, ⟨#[]⟩, 0, 0, { m with src := id }⟩

set_option maxRecDepth 100000 in
set_option maxHeartbeats 4000000 in
theorem message_any (w : World) (H : Nat → Prop) (rb : Nat) (nm : ByteArray) (a : Option Addr) (n c : Nat) (r : Rn) (R : RAt w H rb nm a n c r) (m : Ml) :
    Calls Tryd.prog 98 #[.pointer (some ⟨rb, 0, none⟩), .agg #[.int .i64 m.kind, .string m.dst, .string m.src, .string m.node, .string m.name, .string m.text, .int .i64 m.status]] w fun e w' => e = .returned (tkV (msgP r.st.id m)) ∧ Kept (fun _ => False) w w' := by
  obtain ⟨v6, v7, v12, v13, hb, _, _, _, _, htop⟩ := R.opened
  obtain ⟨_, _, _, c3, _⟩ := runCells hb
  have pid2 := fun o o2 => keepC ((Kept.alloc (fun _ => False) w o).and (Kept.alloc _ _ o2)) c3 (fun _ _ h => h)
  have hst := fun (W : World) (a : Addr) (x y : Nat) (m : Mode) => run_store Tryd.prog W a (.complex .f64 x y) m rfl
  clear hb
  go_enter Tryd.func98, Tryd.ntmps98
  go_wp2_with fail
  have hL := heap_alloc_new (w.alloc (.cells #[.int .i64 m.kind, .string m.dst, .string r.st.id, .string m.node, .string m.name, .string m.text, .int .i64 m.status] 76)) (.cells #[.int .i64 3, .complex .f64 0 0, .string ⟨#[]⟩, .string ⟨#[]⟩, .int .i64 0, .int .i64 0, .int .i64 m.kind, .string m.dst, .string r.st.id, .string m.node, .string m.name, .string m.text, .int .i64 m.status] 78)
  rw [World.size_alloc] at hL
  obtain ⟨d0, d1, d2, d3, d4, d5, d6, d7, d8, d9, d10, d11, d12⟩ := thirteen hL
  refine bodyPost_ret (by simp [results, Tryd.results98, go_sem, d0, d1, d2, d3, d4, d5, d6, d7, d8, d9, d10, d11, d12]; try rfl) rfl ?_
  exact ⟨rfl, (Kept.alloc _ _ _).and (Kept.alloc _ _ _)⟩

def catP (x y : ByteArray) : ByteArray := x ++ y

set_option maxRecDepth 100000 in
theorem lastText_any (w : World) (H : Nat → Prop) (rb : Nat) (nm : ByteArray) (a : Option Addr) (n c : Nat) (r : Rn) (R : RAt w H rb nm a n c r) (h6 : r.st.nodes.length ≤ 1000000) :
    Calls Tryd.prog 95 #[.pointer (some ⟨rb, 0, none⟩)] w fun e w' => e = .returned (.string ((r.st.nodes.getLast?.map (fun x => x.text)).getD ⟨#[]⟩)) ∧ w' = w := by
  obtain ⟨v6, v7, v12, v13, hb, hn6, _, _, _, htop⟩ := R.opened
  obtain ⟨_, _, _, _, _, _, _, _, c8, _⟩ := runCells hb
  obtain ⟨a6, c6, rfl⟩ := ownsRow_shape hn6
  by_cases h0 : r.st.nodes.length = 0
  · have hnil : r.st.nodes = [] := List.length_eq_zero_iff.1 h0
    have e0 : ((r.st.nodes.length : Int) - 1) < 0 := by omega
    rw [hnil] at c8 e0 ⊢
    clear hb
    go_enter Tryd.func95, Tryd.ntmps95
    go_wp2_with fail
    go_ret
    exact ⟨rfl, rfl⟩
  · obtain ⟨g, cg, hv, _, hcap, hrow⟩ := row_at hn6 (by omega)
    have hi : r.st.nodes.length - 1 < r.st.nodes.length := by omega
    have hq := (hrow _ _ (nsF_get hi).2.2).1
    have hl : (r.st.nodes.getLast?.map (fun x => x.text)).getD ⟨#[]⟩ = (r.st.nodes[r.st.nodes.length - 1]).text := by
      rw [List.getLast?_eq_getElem?, List.getElem?_eq_getElem hi]
      rfl
    rw [hl]
    generalize (r.st.nodes[r.st.nodes.length - 1]).text = tx at *
    obtain ⟨rfl, rfl⟩ : a6 = some ⟨g, 0, none⟩ ∧ c6 = cg := by simpa using hv
    clear hb hrow hn6 hl hi R
    generalize r.st.nodes.length = n6 at *
    obtain ⟨m, rfl⟩ : ∃ m, n6 = m + 1 := ⟨n6 - 1, by omega⟩
    have e1 : ((m + 1 : Nat) : Int) - 1 = (m : Int) := by omega
    rw [Nat.add_sub_cancel] at hq
    have e0 : ¬ ((m : Int) < 0) := by omega
    have e2 : (m : Int) < ((m + 1 : Nat) : Int) := by omega
    have w1 : IntKind.i64.wrap (((m + 1 : Nat) : Int) - 1) = (m : Int) := by rw [e1, IntKind.wrap_i64]; omega
    go_enter Tryd.func95, Tryd.ntmps95
    go_wp2_with fail
    go_ret
    exact ⟨rfl, rfl⟩

theorem run_cat (W : World) (x y : ByteArray) (h : x.size + y.size ≤ 1000000000) : (Op.stringOp .add x y).run Tryd.prog W = .ok (.string (x ++ y)) W := by
  unfold Op.stringOp
  dsimp only
  rw [if_neg (by simp [IntKind.max, IntKind.signed, IntKind.bits]; omega)]
  rfl

/-- The name of the workflow that a node asks for. -/
def childP (id node : ByteArray) : ByteArray := id ++ ⟨#[47]⟩ ++ node

set_option maxRecDepth 100000 in
theorem childName_any (w : World) (H : Nat → Prop) (rb : Nat) (nm : ByteArray) (a : Option Addr) (n c : Nat) (r : Rn) (R : RAt w H rb nm a n c r) (x : ByteArray) (hx : r.st.id.size + 1 + x.size ≤ 1000000000) :
    Calls Tryd.prog 99 #[.pointer (some ⟨rb, 0, none⟩), .string x] w fun e w' => e = .returned (.string (childP r.st.id x)) ∧ w' = w := by
  obtain ⟨v6, v7, v12, v13, hb, _, _, _, _, htop⟩ := R.opened
  obtain ⟨_, _, _, c3, _⟩ := runCells hb
  have s1 : (⟨#[47]⟩ : ByteArray).size = 1 := rfl
  have r1 := fun W => run_cat W r.st.id ⟨#[47]⟩ (by rw [s1]; omega)
  have r2 := fun W => run_cat W (r.st.id ++ ⟨#[47]⟩) x (by rw [ByteArray.size_append, s1]; omega)
  clear hb R
  go_enter Tryd.func99, Tryd.ntmps99
  go_wp2_with fail
  go_ret
  exact ⟨rfl, rfl⟩

set_option maxRecDepth 100000 in
theorem both_any (w : World) (nm : ByteArray) (a : Option Addr) (n c : Nat) (s : St) (a6 : Option Addr) (n6 c6 : Nat) (v7 : Value) :
    Calls Tryd.prog 44 #[.agg #[.string nm, .slice a n c], .agg #[.string s.dfn, .string s.id, .string s.par, .string s.pnode, .int .i64 s.status, .string s.text, .slice a6 n6 c6, v7, .int .i64 s.events]] w fun e w' => e = .returned (.int .i64 (min n n6 : Nat)) ∧ Kept (fun _ => False) w w' := by
  go_enter Tryd.func44, Tryd.ntmps44
  go_wp2_with fail
  go_ret
  exact ⟨ret_int (by omega), (Kept.alloc _ _ _).and (Kept.alloc _ _ _)⟩

end Go.Proofs.YtfjekjbkifmpfaaDoor

/-
  The run's marks: which nodes are over, which have begun.
-/
namespace Go.Proofs.YtfjekjbkifmpfaaDoor
open Go.RowKit

def overL (l : List Ns) : List Bool := l.map (fun x => x.status == 3)

/-- Marks on their way: k of n are set. -/
structure MkSt (w0 wr : World) (g n k : Nat) (f : Nat → Bool) : Prop where
  row : wr.ownsRow w0.heap.size 4 1 (.slice (some ⟨g, 0, none⟩) n n) n ((List.range n).map (fun i => Value.bool (if i < k then f i else false)))
  keep : Kept (fun _ => False) w0 wr

theorem made_bools (n : Nat) : (madeCells (Value.bool false).cells (n * 1)).toList = (List.range n).map (fun _ => Value.bool false) := by
  unfold madeCells
  rw [Array.toList_map, Array.toList_range, Nat.mul_one]
  refine List.map_congr_left (fun i _ => ?_)
  show (#[Value.bool false] : Array Value)[i % 1]! = _
  rw [Nat.mod_one]
  rfl

theorem Tryd.info4 : (Tryd.prog.info? 4).map (fun i => (i.zero, i.size, i.bytes)) = some (some (.bool false), 1, 1) := by kernel_rfl

theorem make_marks (w : World) (n : Nat) (hn : n ≤ 1000000) (f : Nat → Bool) : ∃ w', (Instr.makeSlice 110 (.int .i64 (n : Int)) (.int .i64 (n : Int))).run Tryd.prog w = .ok (.slice (some ⟨w.heap.size, 0, none⟩) n n) w' ∧ MkSt w w' w.heap.size n 0 f := by
  obtain ⟨i, hi, hz, h3, h32⟩ := info_parts Tryd.info4
  obtain ⟨w', h1, h2, h4⟩ := run_makeSlice_full (P := Tryd.prog) w w.heap.size 110 4 i _ 1 (by kernel_rfl) hi hz h3 .i64 .i64 n (by omega) (by rw [h32]; omega) (by simp [maxLen]; omega) (Nat.le_refl _)
  rw [made_bools] at h2
  exact ⟨w', h1, by simpa using h2, Kept.grown h4 (fun _ h => nomatch h)⟩

theorem MkSt.set {w0 wr : World} {g n k : Nat} {f : Nat → Bool} (M : MkSt w0 wr g n k f) (hg : w0.heap.size ≤ g) (hk : k < n) : MkSt w0 (wr.setCell ⟨g, k, none⟩ (.bool (f k))) g n (k + 1) f := by
  refine ⟨?_, M.keep.trans (Kept.setCell (S := fun j => j = g) _ _ _ rfl) (fun j h => .inr (h ▸ hg))⟩
  have hp := ownsRow_put M.row k (.bool (f k))
  have he : (List.range n).map (fun i => Value.bool (if i < k + 1 then f i else false)) = ((List.range n).map (fun i => Value.bool (if i < k then f i else false))).set k (.bool (f k)) := ?_
  · rw [he]
    exact hp
  apply List.ext_getElem?
  intro j
  rw [List.getElem?_set]
  simp only [List.getElem?_map, List.length_map, List.length_range]
  by_cases hj : k = j
  · subst hj
    simp [hk]
  · rw [if_neg hj]
    by_cases hj2 : j < n
    · rw [List.getElem?_range hj2]
      simp only [Option.map_some]
      by_cases h3 : j < k
      · rw [if_pos h3, if_pos (by omega)]
      · rw [if_neg h3, if_neg (by omega)]
    · rw [List.getElem?_eq_none (by simpa using hj2)]
      rfl

theorem MkSt.new {w0 wr w1 : World} {g n k : Nat} {f : Nat → Bool} (M : MkSt w0 wr g n k f) (K : Kept (fun _ => False) wr w1) : MkSt w0 w1 g n k f :=
  ⟨ownsRow_keep M.row (fun q hq => K.block q (ownsRow_blk M.row hq) (fun h => h)), M.keep.and K⟩

theorem MkSt.at {w0 wr : World} {g n k : Nat} {f : Nat → Bool} (M : MkSt w0 wr g n k f) (hk : k < n) : wr.cell? ⟨g, k, none⟩ = some (.bool false) ∧ wr.frozen? ⟨g, k, none⟩ = false := by
  obtain ⟨g', c', hv, _, _, hr⟩ := row_at M.row (by omega)
  obtain ⟨rfl, _⟩ : g = g' ∧ n = c' := by simpa using hv
  exact hr k _ (by rw [List.getElem?_map, List.getElem?_range hk]; simp)

theorem MkSt.done {w0 wr : World} {g n : Nat} {f : Nat → Bool} (M : MkSt w0 wr g n n f) : CellsAt wr (some ⟨g, 0, none⟩) ((List.range n).map (fun i => Value.bool (f i))) := by
  have he : (List.range n).map (fun i => Value.bool (if i < n then f i else false)) = (List.range n).map (fun i => Value.bool (f i)) := List.map_congr_left (fun i hi => by rw [if_pos (List.mem_range.1 hi)])
  have hr := M.row
  rw [he] at hr
  by_cases h0 : n = 0
  · subst h0
    exact .inl rfl
  · obtain ⟨g', c', hv, _, _, hc⟩ := row_at hr (by omega)
    obtain ⟨rfl, _⟩ : g = g' ∧ n = c' := by simpa using hv
    exact .inr ⟨g, 0, rfl, fun j u hu => by rw [Nat.zero_add]; exact (hc j u hu).1⟩

set_option maxRecDepth 100000 in
set_option maxHeartbeats 4000000 in
theorem over_any (w : World) (H : Nat → Prop) (rb : Nat) (nm : ByteArray) (a : Option Addr) (n c : Nat) (r : Rn) (R : RAt w H rb nm a n c r) (h6 : r.st.nodes.length ≤ 1000000) :
    Calls Tryd.prog 92 #[.pointer (some ⟨rb, 0, none⟩)] w fun e w' => ∃ g, e = .returned (.slice (some ⟨g, 0, none⟩) r.st.nodes.length r.st.nodes.length) ∧ CellsAt w' (some ⟨g, 0, none⟩) ((overL r.st.nodes).map Value.bool) ∧ w.heap.size ≤ g ∧ Kept (fun _ => False) w w' := by
  obtain ⟨v6, v7, v12, v13, hb, hn6, _, _, _, htop⟩ := R.opened
  obtain ⟨_, _, _, _, _, _, _, _, c8, _⟩ := runCells hb
  obtain ⟨a6, c6, rfl⟩ := ownsRow_shape hn6
  obtain ⟨w2, hmk, M2⟩ := make_marks w r.st.nodes.length h6 (fun i => ((r.st.nodes.map (fun x => x.status))[i]?).getD 0 == 3)
  have c8' := keepC M2.keep c8 (fun _ _ h => h)
  have HM2 := hid M2
  clear M2
  go_enter Tryd.func92, Tryd.ntmps92
  go_wp2_with fail
  have hN6 := hid hn6
  have hz2 : w.heap.size ≤ w.heap.size := Nat.le_refl _
  clear hb c8 c8' hmk R
  go_loopw [19] (fun i wr => ∃ (k : Nat), k ≤ r.st.nodes.length ∧ i = .int .i64 k ∧ MkSt w wr w.heap.size r.st.nodes.length k (fun i => ((r.st.nodes.map (fun x => x.status))[i]?).getD 0 == 3)) (fun i _ => r.st.nodes.length - (intOf i).toNat)
  case atStart => exact ⟨0, Nat.zero_le _, rfl, HM2.out⟩
  case round =>
    obtain ⟨k, hk, rfl, M⟩ := hrel
    by_cases hlt : k < r.st.nodes.length
    · have e0 : (k : Int) < (r.st.nodes.length : Int) := by omega
      have hn7 := ownsRow_keep hN6.out (fun g hg => M.keep.block g (ownsRow_blk hN6.out hg) (fun h => h))
      obtain ⟨g6, cg, hv, _, _, hrow⟩ := row_at hn7 (by omega)
      obtain ⟨rfl, rfl⟩ : a6 = some ⟨g6, 0, none⟩ ∧ c6 = cg := by simpa using hv
      have q0 := (hrow _ _ (nsF_get hlt).1).1
      have q1 := (hrow _ _ (nsF_get hlt).2.1).1
      have q2 := (hrow _ _ (nsF_get hlt).2.2).1
      have hf : (((r.st.nodes.map (fun x => x.status))[k]?).getD 0 == 3) = ((r.st.nodes[k]).status == 3) := by rw [List.getElem?_map, List.getElem?_eq_getElem hlt]; rfl
      have M1 := M.new (Kept.alloc (fun _ => False) wr (.cells #[.int .i64 (r.st.nodes[k]).status, .int .i64 (r.st.nodes[k]).tr, .string (r.st.nodes[k]).text] 61))
      obtain ⟨m0, m1⟩ := M1.at hlt
      have M3 := M1.set (Nat.le_refl _) hlt
      rw [hf] at M3
      have HM3 := hid M3
      clear M M1 M3 hrow hn7 hf
      go_wp2_with fail
      go_roundw
      case rel => exact ⟨k + 1, by omega, by go_num, HM3.out⟩
      case measure => simp [intOf]; omega
    · obtain rfl : k = r.st.nodes.length := by omega
      have e0 : ¬ ((r.st.nodes.length : Int) < (r.st.nodes.length : Int)) := by omega
      have HM := hid M
      clear M
      go_wp2_with fail
      go_ret
      refine ⟨w.heap.size, rfl, ?_, Nat.le_refl _, HM.out.keep⟩
      have hd := HM.out.done
      have he : (List.range r.st.nodes.length).map (fun i => Value.bool (((r.st.nodes.map (fun x => x.status))[i]?).getD 0 == 3)) = (overL r.st.nodes).map Value.bool := List.ext_getElem (by simp [overL]) (fun i h1 h2 => by
        have hi : i < r.st.nodes.length := by simpa using h1
        simp [overL, hi])
      rw [he] at hd
      exact hd

def begunB (l : List Ns) (i : Nat) : Bool := match l[i]? with
  | none => true
  | some x => x.status != 0

def begunL (l : List Ns) (n : Nat) : List Bool := (List.range n).map (begunB l)

set_option maxRecDepth 100000 in
set_option maxHeartbeats 4000000 in
theorem begun_any (w : World) (H : Nat → Prop) (rb : Nat) (nm : ByteArray) (a : Option Addr) (n c : Nat) (r : Rn) (R : RAt w H rb nm a n c r) (hn : n ≤ 1000000) (h6 : r.st.nodes.length ≤ 1000000) :
    Calls Tryd.prog 93 #[.pointer (some ⟨rb, 0, none⟩)] w fun e w' => ∃ g, e = .returned (.slice (some ⟨g, 0, none⟩) n n) ∧ CellsAt w' (some ⟨g, 0, none⟩) ((begunL r.st.nodes n).map Value.bool) ∧ w.heap.size ≤ g ∧ Kept (fun _ => False) w w' := by
  obtain ⟨v6, v7, v12, v13, hb, hn6, _, _, _, htop⟩ := R.opened
  obtain ⟨_, c1, _, _, _, _, _, _, c8, _⟩ := runCells hb
  obtain ⟨a6, c6, rfl⟩ := ownsRow_shape hn6
  obtain ⟨w2, hmk, M2⟩ := make_marks w n hn (begunB r.st.nodes)
  have HM2 := hid M2
  have hN6 := hid hn6
  have HC8 := hid c8
  clear M2 R hb
  go_enter Tryd.func93, Tryd.ntmps93
  go_wp2_with fail
  clear c1 c8 hmk
  go_loopw [14] (fun i wr => ∃ (k : Nat), k ≤ n ∧ i = .int .i64 k ∧ MkSt w wr w.heap.size n k (begunB r.st.nodes)) (fun i _ => n - (intOf i).toNat)
  case atStart => exact ⟨0, Nat.zero_le _, rfl, HM2.out⟩
  case round =>
    obtain ⟨k, hk, rfl, M⟩ := hrel
    by_cases hlt : k < n
    · have e0 : (k : Int) < (n : Int) := by omega
      have c8 := keepC M.keep HC8.out (fun _ _ h => h)
      obtain ⟨m0, m1⟩ := M.at hlt
      have M3 := M.set (Nat.le_refl _) hlt
      by_cases hl6 : k < r.st.nodes.length
      · have e6 : ¬ ((r.st.nodes.length : Int) ≤ (k : Int)) := by omega
        have e7 : (k : Int) < (r.st.nodes.length : Int) := by omega
        have hn7 := ownsRow_keep hN6.out (fun g hg => M.keep.block g (ownsRow_blk hN6.out hg) (fun h => h))
        obtain ⟨g6, cg, hv, _, _, hrow⟩ := row_at hn7 (by omega)
        obtain ⟨rfl, rfl⟩ : a6 = some ⟨g6, 0, none⟩ ∧ c6 = cg := by simpa using hv
        have q0 := (hrow _ _ (nsF_get hl6).1).1
        have hf : begunB r.st.nodes k = ((r.st.nodes[k]).status != 0) := by unfold begunB; rw [List.getElem?_eq_getElem hl6]
        rw [hf] at M3
        have HM3 := hid M3
        clear M M3 hrow hn7 hf
        go_wp2_with (first | go_quiet (fail) | fail)
        go_roundw
        case rel => exact ⟨k + 1, by omega, by go_num, HM3.out⟩
        case measure => simp [intOf]; omega
      · have e6 : (r.st.nodes.length : Int) ≤ (k : Int) := by omega
        have hf : begunB r.st.nodes k = true := by unfold begunB; rw [List.getElem?_eq_none (by omega)]
        rw [hf] at M3
        have HM3 := hid M3
        clear M M3 hf
        go_wp2_with (first | go_quiet (fail) | fail)
        go_roundw
        case rel => exact ⟨k + 1, by omega, by go_num, HM3.out⟩
        case measure => simp [intOf]; omega
    · obtain rfl : k = n := by omega
      have e0 : ¬ ((k : Int) < (k : Int)) := by omega
      have HM := hid M
      clear M
      go_wp2_with fail
      go_ret
      refine ⟨w.heap.size, rfl, ?_, Nat.le_refl _, HM.out.keep⟩
      have hd := HM.out.done
      unfold begunL
      rw [List.map_map]
      exact hd

end Go.Proofs.YtfjekjbkifmpfaaDoor

/-
  Count: how many nodes are over, and how many are not.
-/
namespace Go.Proofs.YtfjekjbkifmpfaaDoor
open Go.RowKit

def overC (l : List Ns) : Nat := l.countP (fun x => x.status == 3)
def restC (l : List Ns) : Nat := l.countP (fun x => !(x.status == 3))

theorem isF_zero : IsF 0 0 := by
  have h := isF_int 0 (by decide)
  rwa [show floatOfInt .f64 0 = 0 by kernel_rfl] at h

theorem isF_one : IsF 4607182418800017408 1 := by
  have h := isF_int 1 (by decide)
  rwa [show floatOfInt .f64 1 = 4607182418800017408 by kernel_rfl] at h

set_option maxRecDepth 100000 in
set_option maxHeartbeats 4000000 in
theorem count_any (w : World) (s : St) (v6 v7 : Value) (R : StRd w s v6 v7) :
    Calls Tryd.prog 25 #[.agg #[.string s.dfn, .string s.id, .string s.par, .string s.pnode, .int .i64 s.status, .string s.text, v6, v7, .int .i64 s.events]] w fun e w' => (∃ x y, e = .returned (.complex .f64 x y) ∧ IsF x (overC s.nodes : Nat) ∧ IsF y (restC s.nodes : Nat)) ∧ Kept (fun _ => False) w w' := by
  obtain ⟨F6, F7, h6, h7⟩ := R
  obtain ⟨hl6, a6, c6, rfl, hc6, _, hr6⟩ := F6
  have K0 := Kept.alloc (fun _ => False) w (.cells #[.string s.dfn, .string s.id, .string s.par, .string s.pnode, .int .i64 s.status, .string s.text, .slice a6 s.nodes.length c6, v7, .int .i64 s.events] 33)
  have HK0 := hid K0
  have HR := hid hr6
  clear K0 hr6 F7
  go_enter Tryd.func25, Tryd.ntmps25
  go_wp2_with fail
  go_loopw [3, 9] (fun v i wr => ∃ (k x y : Nat), k ≤ s.nodes.length ∧ i = .int .i64 k ∧ v = .complex .f64 x y ∧ IsF x (overC (s.nodes.take k) : Nat) ∧ IsF y (restC (s.nodes.take k) : Nat) ∧ Kept (fun _ => False) w wr) (fun _ i _ => s.nodes.length - (intOf i).toNat)
  case atStart => exact ⟨0, 0, 0, Nat.zero_le _, rfl, rfl, isF_zero, isF_zero, HK0.out⟩
  case round =>
    obtain ⟨k, x, y, hk, rfl, rfl, hx, hy, K⟩ := hrel
    by_cases hlt : k < s.nodes.length
    · have e0 : (k : Int) < (s.nodes.length : Int) := by omega
      obtain ⟨b, o, rfl, hc⟩ : ∃ b o, a6 = some ⟨b, o, none⟩ ∧ ∀ j u, (nsF s.nodes)[j]? = some u → w.cell? ⟨b, o + j, none⟩ = some u := by
        rcases HR.out with h | h
        · omega
        · exact h
      have at_ : ∀ j u, (nsF s.nodes)[k * 3 + j]? = some u → wr.cell? ⟨b, o + k * 3 + j, none⟩ = some u := fun j u hu => by
        rw [Nat.add_assoc]
        exact keepC K (hc _ u hu) (fun _ _ h => h)
      have q0 := at_ 0 _ (nsF_get hlt).1
      have q1 := at_ 1 _ (nsF_get hlt).2.1
      have q2 := at_ 2 _ (nsF_get hlt).2.2
      rw [Nat.add_zero] at q0
      have b1 : overC (s.nodes.take k) ≤ k := Nat.le_trans List.countP_le_length (by rw [List.length_take]; omega)
      have b2 : restC (s.nodes.take k) ≤ k := Nat.le_trans List.countP_le_length (by rw [List.length_take]; omega)
      have n1 : overC (s.nodes.take (k + 1)) = overC (s.nodes.take k) + if ((s.nodes[k]).status == 3) = true then 1 else 0 := by
        unfold overC
        rw [List.take_succ_eq_append_getElem hlt, List.countP_append, List.countP_cons, List.countP_nil, Nat.zero_add]
      have n2 : restC (s.nodes.take (k + 1)) = restC (s.nodes.take k) + if ((s.nodes[k]).status == 3) = true then 0 else 1 := by
        unfold restC
        rw [List.take_succ_eq_append_getElem hlt, List.countP_append, List.countP_cons, List.countP_nil, Nat.zero_add]
        cases ((s.nodes[k]).status == 3) <;> rfl
      generalize overC (s.nodes.take k) = p at *
      generalize restC (s.nodes.take k) = q at *
      have HQ1 := hid n1
      have HQ2 := hid n2
      have HK := hid K
      clear at_ hc n1 n2 K
      cases hs : ((s.nodes[k]).status == 3) with
      | true =>
        obtain ⟨x', y', e2, fx, fy⟩ := cadd_whole hx hy isF_one isF_zero (by omega) (by omega)
        have m2 : ∀ W, (binOp .add 69 (.complex .f64 x y) (.complex .f64 4607182418800017408 0)).run Tryd.prog W = .ok (.complex .f64 x' y') W := fun W => run_complex_sum W .add (.inl rfl) _ _ _ _ _ _ _ _ e2
        go_wp2_with fail
        go_roundw
        case rel => exact ⟨k + 1, x', y', by omega, by go_num, rfl, by rw [HQ1.out, hs, if_pos rfl]; exact_mod_cast fx, by rw [HQ2.out, hs, if_pos rfl]; simpa using fy, HK.out.and (Kept.alloc _ _ _)⟩
        case measure => simp [intOf]; omega
      | false =>
        obtain ⟨x', y', e2, fx, fy⟩ := cadd_whole hx hy isF_zero isF_one (by omega) (by omega)
        have m2 : ∀ W, (binOp .add 69 (.complex .f64 x y) (.complex .f64 0 4607182418800017408)).run Tryd.prog W = .ok (.complex .f64 x' y') W := fun W => run_complex_sum W .add (.inl rfl) _ _ _ _ _ _ _ _ e2
        go_wp2_with fail
        go_roundw
        case rel => exact ⟨k + 1, x', y', by omega, by go_num, rfl, by rw [HQ1.out, hs, if_neg (by decide)]; simpa using fx, by rw [HQ2.out, hs, if_neg (by decide)]; exact_mod_cast fy, HK.out.and (Kept.alloc _ _ _)⟩
        case measure => simp [intOf]; omega
    · obtain rfl : k = s.nodes.length := by omega
      rw [List.take_length] at hx hy
      have e0 : ¬ ((s.nodes.length : Int) < (s.nodes.length : Int)) := by omega
      have HK := hid K
      clear K
      go_wp2_with fail
      go_ret
      exact ⟨⟨x, y, rfl, hx, hy⟩, HK.out⟩

end Go.Proofs.YtfjekjbkifmpfaaDoor

/-
  What stands around a run: the definition, the moves; what follows from one call to the next.
-/
namespace Go.Proofs.YtfjekjbkifmpfaaDoor
open Go.RowKit

/-- The definition and the moves lie below w0's end, the run's blocks above it. -/
structure Env (w0 w : World) (H : Nat → Prop) (a : Option Addr) (ns : List Nd) : Prop where
  nodes : NodesAt w0 a ns
  few : ns.length ≤ 1000000
  low : ∀ b o, a = some ⟨b, o, none⟩ → b < w0.heap.size
  names : ∀ x ∈ ns, x.name.size ≤ 100000000
  moves : MovesAt w0
  high : ∀ g, H g → w0.heap.size ≤ g
  keep : Kept (fun g => w0.heap.size ≤ g) w0 w

theorem Env.here {w0 w : World} {H : Nat → Prop} {a : Option Addr} {ns : List Nd} (E : Env w0 w H a ns) : NodesAt w a ns ∧ MovesAt w ∧ ∀ b o, a = some ⟨b, o, none⟩ → ¬ H b :=
  ⟨E.nodes.kept E.keep (fun k hk => Nat.not_le.2 hk), E.moves.kept E.keep (Nat.not_le.2 (by obtain ⟨_, _, h⟩ := E.moves; exact (Array.getElem?_eq_some_iff.1 h).1)), fun b o h hb => absurd (E.low b o h) (Nat.not_lt.2 (E.high b hb))⟩

theorem Env.new {w0 w w' : World} {H : Nat → Prop} {a : Option Addr} {ns : List Nd} (E : Env w0 w H a ns) (K : Kept (fun _ => False) w w') : Env w0 w' H a ns :=
  ⟨E.nodes, E.few, E.low, E.names, E.moves, E.high, E.keep.and (K.mono (fun _ h => h.elim))⟩

theorem RAt.new {w w' : World} {H : Nat → Prop} {rb : Nat} {nm : ByteArray} {a : Option Addr} {n c : Nat} {r : Rn} (R : RAt w H rb nm a n c r) (K : Kept (fun _ => False) w w') : RAt w' H rb nm a n c r := by
  obtain ⟨F, G, v6, v7, v12, v13, RN, hH, ht⟩ := R
  exact ⟨F, G, v6, v7, v12, v13, RN.new K, hH, fun g h => Nat.lt_of_lt_of_le (ht g h) K.size⟩

theorem Env.goes {w0 w w' : World} {H : Nat → Prop} {a : Option Addr} {ns : List Nd} {rb c : Nat} {nm : ByteArray} {r : Rn} (E : Env w0 w H a ns) (X : RGoes w H rb nm a ns.length c r w') : ∃ H', Env w0 w' H' a ns ∧ RAt w' H' rb nm a ns.length c r ∧ (∀ g, H' g → H g ∨ w.heap.size ≤ g) ∧ Kept H w w' := by
  obtain ⟨⟨H', R, hH⟩, K⟩ := X
  exact ⟨H', ⟨E.nodes, E.few, E.low, E.names, E.moves, fun g h => (hH g h).elim (E.high g) (fun h => Nat.le_trans E.keep.size h), E.keep.and (K.mono E.high)⟩, R, hH, K⟩

theorem RGoes.trans {w w1 w2 : World} {H H1 : Nat → Prop} {rb : Nat} {nm : ByteArray} {a : Option Addr} {n c : Nat} {r : Rn} (hH : ∀ g, H1 g → H g ∨ w.heap.size ≤ g) (K : Kept H w w1) (X : RGoes w1 H1 rb nm a n c r w2) : RGoes w H rb nm a n c r w2 := by
  obtain ⟨⟨H2, R, h2⟩, K2⟩ := X
  exact ⟨⟨H2, R, fun g h => (h2 g h).elim (hH g) (fun h => .inr (Nat.le_trans K.size h))⟩, K.trans K2 hH⟩

theorem RGoes.first {w w1 w2 : World} {H : Nat → Prop} {rb : Nat} {nm : ByteArray} {a : Option Addr} {n c : Nat} {r : Rn} (K : Kept (fun _ => False) w w1) (X : RGoes w1 H rb nm a n c r w2) : RGoes w H rb nm a n c r w2 :=
  X.trans (fun _ h => .inl h) (K.mono (fun _ h => h.elim))

/-- How much a run holds. -/
structure Fit (r : Rn) (m : Nat) : Prop where
  idsz : r.st.id.size ≤ 100000000
  nodes : r.st.nodes.length ≤ 1000000
  sigs : r.st.sigs.length ≤ m
  ev0 : 0 ≤ r.st.events
  ev1 : r.st.events ≤ m
  evs : r.evs.length ≤ m
  tks : r.tks.length ≤ m

theorem receiveP_len {l l' : List Sg} {x : ByteArray} {st nb : Int} (h : receiveP l x st nb = some l') : l'.length ≤ l.length := by
  unfold receiveP at h
  repeat' split at h
  all_goals first
    | cases h; done
    | (cases h; exact Nat.le_refl _)
    | (cases h; rw [List.length_eraseIdx]; split <;> omega)

theorem changeP_fit {nm : ByteArray} {ns : List Nd} {s s' : St} {e : Ev} (h : changeP nm ns s e = some s') (hn : ns.length ≤ 1000000) (h6 : s.nodes.length ≤ 1000000) : s'.nodes.length ≤ 1000000 ∧ s'.sigs.length ≤ s.sigs.length + 1 ∧ s'.events = s.events + 1 ∧ (e.kind ≠ 1 → s'.nodes.length = s.nodes.length) ∧ s'.id = s.id := by
  unfold changeP at h
  by_cases hst : s.status ≠ (if e.kind = 1 then 0 else 1)
  · rw [if_pos hst] at h
    cases h
  rw [if_neg hst] at h
  split at h
  · rename_i h1
    cases h
    exact ⟨by simpa using hn, Nat.le_succ _, rfl, fun h => absurd h1 h, rfl⟩
  split at h
  · cases h
    exact ⟨h6, by simp, rfl, fun _ => rfl, rfl⟩
  split at h
  · split at h
    · cases h
      exact ⟨h6, Nat.le_succ _, rfl, fun _ => rfl, rfl⟩
    · cases h
  · cases hc : changeNodeP ns s e with
    | none => rw [hc] at h; cases h
    | some t =>
      rw [hc] at h
      cases h
      unfold changeNodeP at hc
      split at hc
      · cases hc
      split at hc
      · cases hc
      split at hc
      · cases hc
      · rename_i l hl
        cases hc
        refine ⟨by rw [setNode_len]; exact h6, ?_, rfl, fun _ => setNode_len _ _ _ _, rfl⟩
        split at hl
        · exact Nat.le_succ_of_le (receiveP_len hl)
        · cases hl
          exact Nat.le_succ _

theorem tellP_fit {nm : ByteArray} {ns : List Nd} {r : Rn} {m : Nat} (F : Fit r m) (hn : ns.length ≤ 1000000) (e : Ev) (ts : List Tk) : Fit (tellP nm ns r e ts) (m + 1 + ts.length) := by
  unfold tellP
  split
  · exact ⟨F.idsz, F.nodes, by have := F.sigs; omega, F.ev0, by have := F.ev1; omega, by have := F.evs; omega, by have := F.tks; omega⟩
  · rename_i s hs
    obtain ⟨h1, h2, h3, _, h5⟩ := changeP_fit hs hn F.nodes
    refine ⟨by show s.id.size ≤ _; rw [h5]; exact F.idsz, h1, by show s.sigs.length ≤ _; have := F.sigs; omega, by show 0 ≤ s.events; have := F.ev0; omega, by show s.events ≤ _; have := F.ev1; omega, by have := F.evs; simp; omega, by have := F.tks; simp; omega⟩

/-- tell, where a definition and the moves stand around. -/
theorem tellE {w0 w : World} {H : Nat → Prop} {rb : Nat} {nm : ByteArray} {a : Option Addr} {c : Nat} {ns : List Nd} {r : Rn} {m : Nat} (E : Env w0 w H a ns) (R : RAt w H rb nm a ns.length c r) (F : Fit r m) (hm : m ≤ 1000000) (ev : Ev) (ts : List Tk) (ta : Option Addr) (tc : Nat) (hT : FlatAt w 13 (.slice ta ts.length tc) ts.length (tkF ts)) (hts : ts.length ≤ 1000000) (htH : ∀ g, slBlk (.slice ta ts.length tc) = some g → ¬ H g) :
    Calls Tryd.prog 73 #[.pointer (some ⟨rb, 0, none⟩), .agg #[.int .i64 ev.kind, .string ev.node, .string ev.text, .int .i64 ev.num], .slice ta ts.length tc] w fun e w' => e = .returned (.tuple #[]) ∧ RGoes w H rb nm a ns.length c (tellP nm ns r ev ts) w' := by
  obtain ⟨h1, h2, h3⟩ := E.here
  exact tell_any w H rb nm a c ns r R F.nodes (by have := F.sigs; omega) F.ev0 (by have := F.ev1; omega) (by have := F.evs; omega) (by have := F.tks; omega) h1 E.few h3 h2 ev ts ta tc hT hts htH

end Go.Proofs.YtfjekjbkifmpfaaDoor

/-
  The document's run in memory: the definition, the state, the time, the events and the tasks in one block.
-/
namespace Go.Proofs.YtfjekjbkifmpfaaDoor.Rf
open Go.RowKit


/-- F has the state's blocks (the run's own among them), G the blocks of the events and the tasks. -/
structure RnIn (w : World) (F G : Nat → Prop) (rb : Nat) (nm : ByteArray) (a : Option Addr) (n c : Nat) (r : Rn) (v6 v7 v12 v13 : Value) : Prop where
  st : StIn w F rb 2 106 [.string nm, .slice a n c] [.int .i64 r.now, v12, v13] r.st v6 v7
  evs : w.ownsRow 0 51 4 v12 r.evs.length (evF r.evs)
  tks : w.ownsRow 0 78 13 v13 r.tks.length (tkF r.tks)
  in12 : ∀ g, v12.ownBlock = some g → G g
  in13 : ∀ g, v13.ownBlock = some g → G g
  out : ∀ g, G g → ¬ F g
  topG : ∀ g, G g → g < w.heap.size

theorem RnIn.new {w w' : World} {F G : Nat → Prop} {rb : Nat} {nm : ByteArray} {a : Option Addr} {n c : Nat} {r : Rn} {v6 v7 v12 v13 : Value} (R : RnIn w F G rb nm a n c r v6 v7 v12 v13) (K : Kept (fun _ => False) w w') : RnIn w' F G rb nm a n c r v6 v7 v12 v13 :=
  ⟨R.st.new K, ownsRow_keep R.evs (fun g hg => K.block g (ownsRow_blk R.evs hg) (fun h => h)), ownsRow_keep R.tks (fun g hg => K.block g (ownsRow_blk R.tks hg) (fun h => h)), R.in12, R.in13, R.out, fun g h => Nat.lt_of_lt_of_le (R.topG g h) K.size⟩

theorem RnIn.changed {w w' : World} {F G : Nat → Prop} {rb : Nat} {nm : ByteArray} {a : Option Addr} {n c : Nat} {r : Rn} {v6 v7 v12 v13 : Value} (R : RnIn w F G rb nm a n c r v6 v7 v12 v13) {s : St}
    (X : Goes w F rb 2 106 [.string nm, .slice a n c] [.int .i64 r.now, v12, v13] s w') : ∃ F' u6 u7, RnIn w' F' G rb nm a n c { r with st := s } u6 u7 v12 v13 ∧ ∀ g, F' g → F g ∨ w.heap.size ≤ g := by
  obtain ⟨⟨F', u6, u7, S, hF⟩, K⟩ := X
  refine ⟨F', u6, u7, ⟨S, ownsRow_keep R.evs (fun g hg => K.block g (ownsRow_blk R.evs hg) (R.out g (R.in12 g hg))), ownsRow_keep R.tks (fun g hg => K.block g (ownsRow_blk R.tks hg) (R.out g (R.in13 g hg))), R.in12, R.in13, fun g hg hf => ?_, fun g h => Nat.lt_of_lt_of_le (R.topG g h) K.size⟩, hF⟩
  rcases hF g hf with h | h
  · exact R.out g hg h
  · exact absurd (R.topG g hg) (Nat.not_lt.2 h)

theorem RnIn.apart {w : World} {F G : Nat → Prop} {rb : Nat} {nm : ByteArray} {a : Option Addr} {n c : Nat} {r : Rn} {v6 v7 v12 v13 : Value} (R : RnIn w F G rb nm a n c r v6 v7 v12 v13) {g : Nat} (hg : v12.ownBlock = some g) : v13.ownBlock ≠ some g := by
  intro h7
  rcases R.evs.2 with ⟨h0, _⟩ | ⟨g', cap, cur, rfl, _, hh, _⟩
  · rw [h0] at hg; cases hg
  · obtain rfl : g' = g := by simpa [Value.ownBlock] using hg
    rcases R.tks.2 with ⟨h1, _⟩ | ⟨g2, cap2, cur2, rfl, _, hh2, _⟩
    · rw [h1] at h7; cases h7
    · obtain rfl : g2 = g' := by simpa [Value.ownBlock] using h7
      rw [hh] at hh2
      simp only [Option.some.injEq, Obj.cells.injEq] at hh2
      exact absurd hh2.2.1 (by decide)

section
variable {w w4 : World} {F G : Nat → Prop} {rb : Nat} {nm : ByteArray} {a : Option Addr} {n c : Nat} {r : Rn} {v6 v7 v12 v13 : Value} {a4 : Option Addr} {c4 : Nat}


theorem RnIn.pushE (R : RnIn w F G rb nm a n c r v6 v7 v12 v13) (e : Ev) (o4 : w4.ownsRow 0 51 4 (.slice a4 (r.evs.length + 1) c4) (r.evs.length + 1) (evF r.evs ++ evC e))
    (hw4 : (Value.slice a4 (r.evs.length + 1) c4).ownBlock = v12.ownBlock ∨ ∃ g, (Value.slice a4 (r.evs.length + 1) c4).ownBlock = some g ∧ w.heap.size ≤ g) (K4 : Kept (fun j => v12.ownBlock = some j) w w4) :
    RnIn (w4.setCell ⟨rb, 12, none⟩ (.slice a4 (r.evs.length + 1) c4)) F (fun g => G g ∨ (w.heap.size ≤ g ∧ g < w4.heap.size)) rb nm a n c { r with evs := r.evs ++ [e] } v6 v7 (.slice a4 (r.evs.length + 1) c4) v13 ∧ Kept (fun g => F g ∨ G g) w (w4.setCell ⟨rb, 12, none⟩ (.slice a4 (r.evs.length + 1) c4)) := by
  have KS : Kept (fun j => j = rb) w4 (w4.setCell ⟨rb, 12, none⟩ (.slice a4 (r.evs.length + 1) c4)) := Kept.setCell _ _ _ rfl
  have hz : (w4.setCell ⟨rb, 12, none⟩ (.slice a4 (r.evs.length + 1) c4)).heap.size = w4.heap.size := by simp [World.setCell]
  have hFr := R.st.inS
  have hb := R.st.blk
  have hb4 := (K4.block rb R.st.lt (fun h => R.out rb (R.in12 rb h) hFr)).trans hb
  have hb5 := (tail_set hb4).1 (.slice a4 (r.evs.length + 1) c4)
  have keepF : ∀ g, F g → g ≠ rb → (w4.setCell ⟨rb, 12, none⟩ (.slice a4 (r.evs.length + 1) c4)).heap[g]? = w.heap[g]? := fun g hf hg => (KS.block g (Nat.lt_of_lt_of_le (R.st.top g hf) K4.size) hg).trans (K4.block g (R.st.top g hf) (fun h => R.out g (R.in12 g h) hf))
  have hG4 : ∀ g, (Value.slice a4 (r.evs.length + 1) c4).ownBlock = some g → G g ∨ (w.heap.size ≤ g ∧ g < w4.heap.size) := fun g hg => by
    rcases hw4 with h | ⟨g', h, hg'⟩
    · exact .inl (R.in12 g (h ▸ hg))
    · obtain rfl : g' = g := by rw [h] at hg; simpa using hg
      exact .inr ⟨hg', ownsRow_blk o4 hg⟩
  have hout : ∀ g, G g ∨ (w.heap.size ≤ g ∧ g < w4.heap.size) → ¬ F g := fun g h hf => by
    rcases h with h | h
    · exact R.out g h hf
    · exact absurd (R.st.top g hf) (Nat.not_lt.2 h.1)
  refine ⟨⟨⟨hb5, R.st.off, ownsRow_keep R.st.nodes (fun g hg => keepF g (R.st.in6 g hg).1 (R.st.in6 g hg).2), ownsRow_keep R.st.sigs (fun g hg => keepF g (R.st.in7 g hg).1 (R.st.in7 g hg).2), hFr, R.st.in6, R.st.in7, fun g h => by rw [hz]; exact Nat.lt_of_lt_of_le (R.st.top g h) K4.size⟩, ?_, ?_, hG4, fun g hg => .inl (R.in13 g hg), hout, fun g h => ?_⟩, (K4.mono (fun j h => .inr (R.in12 j h))).and (KS.mono (fun j h => .inl (h ▸ hFr)))⟩
  · show World.ownsRow _ _ _ _ _ (r.evs ++ [e]).length (evF (r.evs ++ [e]))
    rw [List.length_append, evF_add]
    exact ownsRow_keep o4 (fun g hg => KS.block g (ownsRow_blk o4 hg) (fun h => hout g (hG4 g hg) (h ▸ hFr)))
  · exact ownsRow_keep R.tks (fun g hg => (KS.block g (Nat.lt_of_lt_of_le (ownsRow_blk R.tks hg) K4.size) (fun h => R.out g (R.in13 g hg) (h ▸ hFr))).trans (K4.block g (ownsRow_blk R.tks hg) (fun h => R.apart h hg)))
  · rw [hz]
    rcases h with h | h
    · exact Nat.lt_of_lt_of_le (R.topG g h) K4.size
    · exact h.2

theorem RnIn.pushT (R : RnIn w F G rb nm a n c r v6 v7 v12 v13) (e : Tk) (o4 : w4.ownsRow 0 78 13 (.slice a4 (r.tks.length + 1) c4) (r.tks.length + 1) (tkF r.tks ++ tkC e))
    (hw4 : (Value.slice a4 (r.tks.length + 1) c4).ownBlock = v13.ownBlock ∨ ∃ g, (Value.slice a4 (r.tks.length + 1) c4).ownBlock = some g ∧ w.heap.size ≤ g) (K4 : Kept (fun j => v13.ownBlock = some j) w w4) :
    RnIn (w4.setCell ⟨rb, 13, none⟩ (.slice a4 (r.tks.length + 1) c4)) F (fun g => G g ∨ (w.heap.size ≤ g ∧ g < w4.heap.size)) rb nm a n c { r with tks := r.tks ++ [e] } v6 v7 v12 (.slice a4 (r.tks.length + 1) c4) ∧ Kept (fun g => F g ∨ G g) w (w4.setCell ⟨rb, 13, none⟩ (.slice a4 (r.tks.length + 1) c4)) := by
  have KS : Kept (fun j => j = rb) w4 (w4.setCell ⟨rb, 13, none⟩ (.slice a4 (r.tks.length + 1) c4)) := Kept.setCell _ _ _ rfl
  have hz : (w4.setCell ⟨rb, 13, none⟩ (.slice a4 (r.tks.length + 1) c4)).heap.size = w4.heap.size := by simp [World.setCell]
  have hFr := R.st.inS
  have hb := R.st.blk
  have hb4 := (K4.block rb R.st.lt (fun h => R.out rb (R.in13 rb h) hFr)).trans hb
  have hb5 := (tail_set hb4).2 (.slice a4 (r.tks.length + 1) c4)
  have keepF : ∀ g, F g → g ≠ rb → (w4.setCell ⟨rb, 13, none⟩ (.slice a4 (r.tks.length + 1) c4)).heap[g]? = w.heap[g]? := fun g hf hg => (KS.block g (Nat.lt_of_lt_of_le (R.st.top g hf) K4.size) hg).trans (K4.block g (R.st.top g hf) (fun h => R.out g (R.in13 g h) hf))
  have hG4 : ∀ g, (Value.slice a4 (r.tks.length + 1) c4).ownBlock = some g → G g ∨ (w.heap.size ≤ g ∧ g < w4.heap.size) := fun g hg => by
    rcases hw4 with h | ⟨g', h, hg'⟩
    · exact .inl (R.in13 g (h ▸ hg))
    · obtain rfl : g' = g := by rw [h] at hg; simpa using hg
      exact .inr ⟨hg', ownsRow_blk o4 hg⟩
  have hout : ∀ g, G g ∨ (w.heap.size ≤ g ∧ g < w4.heap.size) → ¬ F g := fun g h hf => by
    rcases h with h | h
    · exact R.out g h hf
    · exact absurd (R.st.top g hf) (Nat.not_lt.2 h.1)
  refine ⟨⟨⟨hb5, R.st.off, ownsRow_keep R.st.nodes (fun g hg => keepF g (R.st.in6 g hg).1 (R.st.in6 g hg).2), ownsRow_keep R.st.sigs (fun g hg => keepF g (R.st.in7 g hg).1 (R.st.in7 g hg).2), hFr, R.st.in6, R.st.in7, fun g h => by rw [hz]; exact Nat.lt_of_lt_of_le (R.st.top g h) K4.size⟩, ?_, ?_, fun g hg => .inl (R.in12 g hg), hG4, hout, fun g h => ?_⟩, (K4.mono (fun j h => .inr (R.in13 j h))).and (KS.mono (fun j h => .inl (h ▸ hFr)))⟩
  · exact ownsRow_keep R.evs (fun g hg => (KS.block g (Nat.lt_of_lt_of_le (ownsRow_blk R.evs hg) K4.size) (fun h => R.out g (R.in12 g hg) (h ▸ hFr))).trans (K4.block g (ownsRow_blk R.evs hg) (fun h => R.apart hg h)))
  · show World.ownsRow _ _ _ _ _ (r.tks ++ [e]).length (tkF (r.tks ++ [e]))
    rw [List.length_append, tkF_add]
    exact ownsRow_keep o4 (fun g hg => KS.block g (ownsRow_blk o4 hg) (fun h => hout g (hG4 g hg) (h ▸ hFr)))
  · rw [hz]
    rcases h with h | h
    · exact Nat.lt_of_lt_of_le (R.topG g h) K4.size
    · exact h.2

end


/-- A run whose blocks are in H. -/
def RAt (w : World) (H : Nat → Prop) (rb : Nat) (nm : ByteArray) (a : Option Addr) (n c : Nat) (r : Rn) : Prop :=
  ∃ F G v6 v7 v12 v13, RnIn w F G rb nm a n c r v6 v7 v12 v13 ∧ (∀ g, F g ∨ G g → H g) ∧ ∀ g, H g → g < w.heap.size

/-- What a call leaves of a run: the run, and all else. -/
def RGoes (w : World) (H : Nat → Prop) (rb : Nat) (nm : ByteArray) (a : Option Addr) (n c : Nat) (r : Rn) (w' : World) : Prop :=
  (∃ H', RAt w' H' rb nm a n c r ∧ ∀ g, H' g → H g ∨ w.heap.size ≤ g) ∧ Kept H w w'

theorem RGoes.keep {w w' : World} {H : Nat → Prop} {rb : Nat} {nm : ByteArray} {a : Option Addr} {n c : Nat} {r : Rn} (R : RAt w H rb nm a n c r) (K : Kept (fun _ => False) w w') : RGoes w H rb nm a n c r w' := by
  obtain ⟨F, G, v6, v7, v12, v13, RN, hH, ht⟩ := R
  exact ⟨⟨H, ⟨F, G, v6, v7, v12, v13, RN.new K, hH, fun g h => Nat.lt_of_lt_of_le (ht g h) K.size⟩, fun g h => .inl h⟩, K.mono (fun _ h => h.elim)⟩


theorem RAt.opened {w : World} {H : Nat → Prop} {rb : Nat} {nm : ByteArray} {a : Option Addr} {n c : Nat} {r : Rn} (R : RAt w H rb nm a n c r) : ∃ v6 v7 v12 v13 : Value, w.heap[rb]? = some (.cells ([Value.string nm, Value.slice a n c] ++ stL r.st v6 v7 ++ [Value.int .i64 r.now, v12, v13]).toArray 106 (0, 0)) ∧ w.ownsRow 0 61 3 v6 r.st.nodes.length (nsF r.st.nodes) ∧ w.ownsRow 0 88 2 v7 r.st.sigs.length (sgF r.st.sigs) ∧ H rb ∧ (∀ g, v6.ownBlock = some g → H g) ∧ ∀ g, H g → g < w.heap.size := by
  obtain ⟨F, G, v6, v7, v12, v13, RN, hH, ht⟩ := R
  exact ⟨v6, v7, v12, v13, RN.st.blk, RN.st.nodes, RN.st.sigs, hH _ (.inl RN.st.inS), fun g hg => hH g (.inl (RN.st.in6 g hg).1), ht⟩

theorem RAt.new {w w' : World} {H : Nat → Prop} {rb : Nat} {nm : ByteArray} {a : Option Addr} {n c : Nat} {r : Rn} (R : RAt w H rb nm a n c r) (K : Kept (fun _ => False) w w') : RAt w' H rb nm a n c r := by
  obtain ⟨F, G, v6, v7, v12, v13, RN, hH, ht⟩ := R
  exact ⟨F, G, v6, v7, v12, v13, RN.new K, hH, fun g h => Nat.lt_of_lt_of_le (ht g h) K.size⟩

theorem RGoes.trans {w w1 w2 : World} {H H1 : Nat → Prop} {rb : Nat} {nm : ByteArray} {a : Option Addr} {n c : Nat} {r : Rn} (hH : ∀ g, H1 g → H g ∨ w.heap.size ≤ g) (K : Kept H w w1) (X : RGoes w1 H1 rb nm a n c r w2) : RGoes w H rb nm a n c r w2 := by
  obtain ⟨⟨H2, R, h2⟩, K2⟩ := X
  exact ⟨⟨H2, R, fun g h => (h2 g h).elim (hH g) (fun h => .inr (Nat.le_trans K.size h))⟩, K.trans K2 hH⟩

theorem RGoes.first {w w1 w2 : World} {H : Nat → Prop} {rb : Nat} {nm : ByteArray} {a : Option Addr} {n c : Nat} {r : Rn} (K : Kept (fun _ => False) w w1) (X : RGoes w1 H rb nm a n c r w2) : RGoes w H rb nm a n c r w2 :=
  X.trans (fun _ h => .inl h) (K.mono (fun _ h => h.elim))

theorem env_goes {w0 w w' : World} {H : Nat → Prop} {a : Option Addr} {ns : List Nd} {rb c : Nat} {nm : ByteArray} {r : Rn} (E : Env w0 w H a ns) (X : RGoes w H rb nm a ns.length c r w') : ∃ H', Env w0 w' H' a ns ∧ RAt w' H' rb nm a ns.length c r ∧ (∀ g, H' g → H g ∨ w.heap.size ≤ g) ∧ Kept H w w' := by
  obtain ⟨⟨H', R, hH⟩, K⟩ := X
  exact ⟨H', ⟨E.nodes, E.few, E.low, E.names, E.moves, fun g h => (hH g h).elim (E.high g) (fun h => Nat.le_trans E.keep.size h), E.keep.and (K.mono E.high)⟩, R, hH, K⟩

end Go.Proofs.YtfjekjbkifmpfaaDoor.Rf
