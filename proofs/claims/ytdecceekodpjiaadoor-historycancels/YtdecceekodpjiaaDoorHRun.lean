/-
  A run in memory: the definition, the state, the time, the events and the tasks in one block.
-/
import Derived.Test.YtdecceekodpjiaaDoorHChg3
import Derived.Test.YtdecceekodpjiaaDoorHTell
namespace Go.Proofs.YtdecceekodpjiaaDoor
open Go.RowKit

/-- F has the state's blocks (the run's own among them), G the blocks of the events and the tasks. -/
structure RnIn (w : World) (F G : Nat → Prop) (rb : Nat) (nm : ByteArray) (a : Option Addr) (n c : Nat) (r : Rn) (v6 v7 v12 v13 : Value) : Prop where
  st : StIn w F rb 2 73 [.string nm, .slice a n c] [.int .i64 r.now, v12, v13] r.st v6 v7
  evs : w.ownsRow 0 59 4 v12 r.evs.length (evF r.evs)
  tks : w.ownsRow 0 50 13 v13 r.tks.length (tkF r.tks)
  in12 : ∀ g, v12.ownBlock = some g → G g
  in13 : ∀ g, v13.ownBlock = some g → G g
  out : ∀ g, G g → ¬ F g
  topG : ∀ g, G g → g < w.heap.size

theorem RnIn.new {w w' : World} {F G : Nat → Prop} {rb : Nat} {nm : ByteArray} {a : Option Addr} {n c : Nat} {r : Rn} {v6 v7 v12 v13 : Value} (R : RnIn w F G rb nm a n c r v6 v7 v12 v13) (K : Kept (fun _ => False) w w') : RnIn w' F G rb nm a n c r v6 v7 v12 v13 :=
  ⟨R.st.new K, ownsRow_keep R.evs (fun g hg => K.block g (ownsRow_blk R.evs hg) (fun h => h)), ownsRow_keep R.tks (fun g hg => K.block g (ownsRow_blk R.tks hg) (fun h => h)), R.in12, R.in13, R.out, fun g h => Nat.lt_of_lt_of_le (R.topG g h) K.size⟩

theorem RnIn.changed {w w' : World} {F G : Nat → Prop} {rb : Nat} {nm : ByteArray} {a : Option Addr} {n c : Nat} {r : Rn} {v6 v7 v12 v13 : Value} (R : RnIn w F G rb nm a n c r v6 v7 v12 v13) {s : St}
    (X : Goes w F rb 2 73 [.string nm, .slice a n c] [.int .i64 r.now, v12, v13] s w') : ∃ F' u6 u7, RnIn w' F' G rb nm a n c { r with st := s } u6 u7 v12 v13 ∧ ∀ g, F' g → F g ∨ w.heap.size ≤ g := by
  obtain ⟨⟨F', u6, u7, S, hF⟩, K⟩ := X
  refine ⟨F', u6, u7, ⟨S, ownsRow_keep R.evs (fun g hg => K.block g (ownsRow_blk R.evs hg) (R.out g (R.in12 g hg))), ownsRow_keep R.tks (fun g hg => K.block g (ownsRow_blk R.tks hg) (R.out g (R.in13 g hg))), R.in12, R.in13, fun g hg hf => ?_, fun g h => Nat.lt_of_lt_of_le (R.topG g h) K.size⟩, hF⟩
  rcases hF g hf with h | h
  · exact R.out g hg h
  · exact absurd (R.topG g hg) (Nat.not_lt.2 h)

theorem RnIn.apart {w : World} {F G : Nat → Prop} {rb : Nat} {nm : ByteArray} {a : Option Addr} {n c : Nat} {r : Rn} {v6 v7 v12 v13 : Value} (R : RnIn w F G rb nm a n c r v6 v7 v12 v13) {g : Nat} (hg : v12.ownBlock = some g) : v13.ownBlock ≠ some g := by
  intro h7
  rcases R.evs.2 with ⟨h0, _⟩ | ⟨g', cap, cur, rfl, _, hh, _⟩
  · rw [h0] at hg; cases hg
  · obtain rfl : g' = g := by simpa [Value.ownBlock] using hg
    rcases R.tks.2 with ⟨h1, _⟩ | ⟨g2, cap2, cur2, rfl, _, hh2, _⟩
    · rw [h1] at h7; cases h7
    · obtain rfl : g2 = g' := by simpa [Value.ownBlock] using h7
      rw [hh] at hh2
      simp only [Option.some.injEq, Obj.cells.injEq] at hh2
      exact absurd hh2.2.1 (by decide)

theorem tail_set {w : World} {rb : Nat} {T : TypeId} {p0 p1 q0 q1 q2 : Value} {s : St} {v6 v7 : Value} (h : w.heap[rb]? = some (.cells ([p0, p1] ++ stL s v6 v7 ++ [q0, q1, q2]).toArray T (0, 0))) :
    (∀ u, (w.setCell ⟨rb, 12, none⟩ u).heap[rb]? = some (.cells ([p0, p1] ++ stL s v6 v7 ++ [q0, u, q2]).toArray T (0, 0))) ∧ (∀ u, (w.setCell ⟨rb, 13, none⟩ u).heap[rb]? = some (.cells ([p0, p1] ++ stL s v6 v7 ++ [q0, q1, u]).toArray T (0, 0))) := by
  have h' : w.heap[rb]? = some (.cells (([p0, p1] ++ stL s v6 v7) ++ [q0, q1, q2] ++ []).toArray T (0, 0)) := by rw [List.append_nil]; exact h
  refine ⟨fun u => ?_, fun u => ?_⟩
  · have := blk_set h' (so := 11) rfl (j := 1) (by simp) u
    rw [List.append_nil] at this
    exact this
  · have := blk_set h' (so := 11) rfl (j := 2) (by simp) u
    rw [List.append_nil] at this
    exact this

theorem tail_at {w : World} {rb : Nat} {T : TypeId} {p0 p1 q0 q1 q2 : Value} {s : St} {v6 v7 : Value} (h : w.heap[rb]? = some (.cells ([p0, p1] ++ stL s v6 v7 ++ [q0, q1, q2]).toArray T (0, 0))) :
    (w.cell? ⟨rb, 0, none⟩ = some p0 ∧ w.cell? ⟨rb, 1, none⟩ = some p1 ∧ w.cell? ⟨rb, 11, none⟩ = some q0 ∧ w.cell? ⟨rb, 12, none⟩ = some q1 ∧ w.cell? ⟨rb, 13, none⟩ = some q2 ∧ w.cell? ⟨rb, 3, none⟩ = some (.string s.id)) ∧ w.frozen? ⟨rb, 12, none⟩ = false ∧ w.frozen? ⟨rb, 13, none⟩ = false := by
  simp [World.cell?, World.frozen?, h, stL]

theorem evF_add (l : List Ev) (e : Ev) : evF (l ++ [e]) = evF l ++ evC e := by
  unfold evF
  rw [List.flatMap_append]
  simp

theorem tkF_add (l : List Tk) (e : Tk) : tkF (l ++ [e]) = tkF l ++ tkC e := by
  unfold tkF
  rw [List.flatMap_append]
  simp

section
variable {w w4 : World} {F G : Nat → Prop} {rb : Nat} {nm : ByteArray} {a : Option Addr} {n c : Nat} {r : Rn} {v6 v7 v12 v13 : Value} {a4 : Option Addr} {c4 : Nat}

theorem RnIn.pushE (R : RnIn w F G rb nm a n c r v6 v7 v12 v13) (e : Ev) (o4 : w4.ownsRow 0 59 4 (.slice a4 (r.evs.length + 1) c4) (r.evs.length + 1) (evF r.evs ++ evC e))
    (hw4 : (Value.slice a4 (r.evs.length + 1) c4).ownBlock = v12.ownBlock ∨ ∃ g, (Value.slice a4 (r.evs.length + 1) c4).ownBlock = some g ∧ w.heap.size ≤ g) (K4 : Kept (fun j => v12.ownBlock = some j) w w4) :
    RnIn (w4.setCell ⟨rb, 12, none⟩ (.slice a4 (r.evs.length + 1) c4)) F (fun g => G g ∨ (w.heap.size ≤ g ∧ g < w4.heap.size)) rb nm a n c { r with evs := r.evs ++ [e] } v6 v7 (.slice a4 (r.evs.length + 1) c4) v13 ∧ Kept (fun g => F g ∨ G g) w (w4.setCell ⟨rb, 12, none⟩ (.slice a4 (r.evs.length + 1) c4)) := by
  have KS : Kept (fun j => j = rb) w4 (w4.setCell ⟨rb, 12, none⟩ (.slice a4 (r.evs.length + 1) c4)) := Kept.setCell _ _ _ rfl
  have hz : (w4.setCell ⟨rb, 12, none⟩ (.slice a4 (r.evs.length + 1) c4)).heap.size = w4.heap.size := by simp [World.setCell]
  have hFr := R.st.inS
  have hb := R.st.blk
  have hb4 := (K4.block rb R.st.lt (fun h => R.out rb (R.in12 rb h) hFr)).trans hb
  have hb5 := (tail_set hb4).1 (.slice a4 (r.evs.length + 1) c4)
  have keepF : ∀ g, F g → g ≠ rb → (w4.setCell ⟨rb, 12, none⟩ (.slice a4 (r.evs.length + 1) c4)).heap[g]? = w.heap[g]? := fun g hf hg => (KS.block g (Nat.lt_of_lt_of_le (R.st.top g hf) K4.size) hg).trans (K4.block g (R.st.top g hf) (fun h => R.out g (R.in12 g h) hf))
  have hG4 : ∀ g, (Value.slice a4 (r.evs.length + 1) c4).ownBlock = some g → G g ∨ (w.heap.size ≤ g ∧ g < w4.heap.size) := fun g hg => by
    rcases hw4 with h | ⟨g', h, hg'⟩
    · exact .inl (R.in12 g (h ▸ hg))
    · obtain rfl : g' = g := by rw [h] at hg; simpa using hg
      exact .inr ⟨hg', ownsRow_blk o4 hg⟩
  have hout : ∀ g, G g ∨ (w.heap.size ≤ g ∧ g < w4.heap.size) → ¬ F g := fun g h hf => by
    rcases h with h | h
    · exact R.out g h hf
    · exact absurd (R.st.top g hf) (Nat.not_lt.2 h.1)
  refine ⟨⟨⟨hb5, R.st.off, ownsRow_keep R.st.nodes (fun g hg => keepF g (R.st.in6 g hg).1 (R.st.in6 g hg).2), ownsRow_keep R.st.sigs (fun g hg => keepF g (R.st.in7 g hg).1 (R.st.in7 g hg).2), hFr, R.st.in6, R.st.in7, fun g h => by rw [hz]; exact Nat.lt_of_lt_of_le (R.st.top g h) K4.size⟩, ?_, ?_, hG4, fun g hg => .inl (R.in13 g hg), hout, fun g h => ?_⟩, (K4.mono (fun j h => .inr (R.in12 j h))).and (KS.mono (fun j h => .inl (h ▸ hFr)))⟩
  · show World.ownsRow _ _ _ _ _ (r.evs ++ [e]).length (evF (r.evs ++ [e]))
    rw [List.length_append, evF_add]
    exact ownsRow_keep o4 (fun g hg => KS.block g (ownsRow_blk o4 hg) (fun h => hout g (hG4 g hg) (h ▸ hFr)))
  · exact ownsRow_keep R.tks (fun g hg => (KS.block g (Nat.lt_of_lt_of_le (ownsRow_blk R.tks hg) K4.size) (fun h => R.out g (R.in13 g hg) (h ▸ hFr))).trans (K4.block g (ownsRow_blk R.tks hg) (fun h => R.apart h hg)))
  · rw [hz]
    rcases h with h | h
    · exact Nat.lt_of_lt_of_le (R.topG g h) K4.size
    · exact h.2

theorem RnIn.pushT (R : RnIn w F G rb nm a n c r v6 v7 v12 v13) (e : Tk) (o4 : w4.ownsRow 0 50 13 (.slice a4 (r.tks.length + 1) c4) (r.tks.length + 1) (tkF r.tks ++ tkC e))
    (hw4 : (Value.slice a4 (r.tks.length + 1) c4).ownBlock = v13.ownBlock ∨ ∃ g, (Value.slice a4 (r.tks.length + 1) c4).ownBlock = some g ∧ w.heap.size ≤ g) (K4 : Kept (fun j => v13.ownBlock = some j) w w4) :
    RnIn (w4.setCell ⟨rb, 13, none⟩ (.slice a4 (r.tks.length + 1) c4)) F (fun g => G g ∨ (w.heap.size ≤ g ∧ g < w4.heap.size)) rb nm a n c { r with tks := r.tks ++ [e] } v6 v7 v12 (.slice a4 (r.tks.length + 1) c4) ∧ Kept (fun g => F g ∨ G g) w (w4.setCell ⟨rb, 13, none⟩ (.slice a4 (r.tks.length + 1) c4)) := by
  have KS : Kept (fun j => j = rb) w4 (w4.setCell ⟨rb, 13, none⟩ (.slice a4 (r.tks.length + 1) c4)) := Kept.setCell _ _ _ rfl
  have hz : (w4.setCell ⟨rb, 13, none⟩ (.slice a4 (r.tks.length + 1) c4)).heap.size = w4.heap.size := by simp [World.setCell]
  have hFr := R.st.inS
  have hb := R.st.blk
  have hb4 := (K4.block rb R.st.lt (fun h => R.out rb (R.in13 rb h) hFr)).trans hb
  have hb5 := (tail_set hb4).2 (.slice a4 (r.tks.length + 1) c4)
  have keepF : ∀ g, F g → g ≠ rb → (w4.setCell ⟨rb, 13, none⟩ (.slice a4 (r.tks.length + 1) c4)).heap[g]? = w.heap[g]? := fun g hf hg => (KS.block g (Nat.lt_of_lt_of_le (R.st.top g hf) K4.size) hg).trans (K4.block g (R.st.top g hf) (fun h => R.out g (R.in13 g h) hf))
  have hG4 : ∀ g, (Value.slice a4 (r.tks.length + 1) c4).ownBlock = some g → G g ∨ (w.heap.size ≤ g ∧ g < w4.heap.size) := fun g hg => by
    rcases hw4 with h | ⟨g', h, hg'⟩
    · exact .inl (R.in13 g (h ▸ hg))
    · obtain rfl : g' = g := by rw [h] at hg; simpa using hg
      exact .inr ⟨hg', ownsRow_blk o4 hg⟩
  have hout : ∀ g, G g ∨ (w.heap.size ≤ g ∧ g < w4.heap.size) → ¬ F g := fun g h hf => by
    rcases h with h | h
    · exact R.out g h hf
    · exact absurd (R.st.top g hf) (Nat.not_lt.2 h.1)
  refine ⟨⟨⟨hb5, R.st.off, ownsRow_keep R.st.nodes (fun g hg => keepF g (R.st.in6 g hg).1 (R.st.in6 g hg).2), ownsRow_keep R.st.sigs (fun g hg => keepF g (R.st.in7 g hg).1 (R.st.in7 g hg).2), hFr, R.st.in6, R.st.in7, fun g h => by rw [hz]; exact Nat.lt_of_lt_of_le (R.st.top g h) K4.size⟩, ?_, ?_, fun g hg => .inl (R.in12 g hg), hG4, hout, fun g h => ?_⟩, (K4.mono (fun j h => .inr (R.in13 j h))).and (KS.mono (fun j h => .inl (h ▸ hFr)))⟩
  · exact ownsRow_keep R.evs (fun g hg => (KS.block g (Nat.lt_of_lt_of_le (ownsRow_blk R.evs hg) K4.size) (fun h => R.out g (R.in12 g hg) (h ▸ hFr))).trans (K4.block g (ownsRow_blk R.evs hg) (fun h => R.apart hg h)))
  · show World.ownsRow _ _ _ _ _ (r.tks ++ [e]).length (tkF (r.tks ++ [e]))
    rw [List.length_append, tkF_add]
    exact ownsRow_keep o4 (fun g hg => KS.block g (ownsRow_blk o4 hg) (fun h => hout g (hG4 g hg) (h ▸ hFr)))
  · rw [hz]
    rcases h with h | h
    · exact Nat.lt_of_lt_of_le (R.topG g h) K4.size
    · exact h.2

end

/-- A run whose blocks are in H. -/
def RAt (w : World) (H : Nat → Prop) (rb : Nat) (nm : ByteArray) (a : Option Addr) (n c : Nat) (r : Rn) : Prop :=
  ∃ F G v6 v7 v12 v13, RnIn w F G rb nm a n c r v6 v7 v12 v13 ∧ (∀ g, F g ∨ G g → H g) ∧ ∀ g, H g → g < w.heap.size

/-- What a call leaves of a run: the run, and all else. -/
def RGoes (w : World) (H : Nat → Prop) (rb : Nat) (nm : ByteArray) (a : Option Addr) (n c : Nat) (r : Rn) (w' : World) : Prop :=
  (∃ H', RAt w' H' rb nm a n c r ∧ ∀ g, H' g → H g ∨ w.heap.size ≤ g) ∧ Kept H w w'

theorem RGoes.keep {w w' : World} {H : Nat → Prop} {rb : Nat} {nm : ByteArray} {a : Option Addr} {n c : Nat} {r : Rn} (R : RAt w H rb nm a n c r) (K : Kept (fun _ => False) w w') : RGoes w H rb nm a n c r w' := by
  obtain ⟨F, G, v6, v7, v12, v13, RN, hH, ht⟩ := R
  exact ⟨⟨H, ⟨F, G, v6, v7, v12, v13, RN.new K, hH, fun g h => Nat.lt_of_lt_of_le (ht g h) K.size⟩, fun g h => .inl h⟩, K.mono (fun _ h => h.elim)⟩

theorem tk_at {w : World} {a : Option Addr} {n c : Nat} {ts : List Tk} (T : FlatAt w 13 (.slice a n c) n (tkF ts)) {k : Nat} (hk : k < ts.length) (hn : ts.length = n) : ∃ b o, a = some ⟨b, o, none⟩ ∧
    (w.cell? ⟨b, o + k * 13, none⟩ = some (.int .i64 (ts[k]).kind) ∧ w.cell? ⟨b, o + k * 13 + 1, none⟩ = some (.complex .f64 0 0) ∧ w.cell? ⟨b, o + k * 13 + 2, none⟩ = some (.string (ts[k]).flow) ∧ w.cell? ⟨b, o + k * 13 + 3, none⟩ = some (.string (ts[k]).node) ∧ w.cell? ⟨b, o + k * 13 + 4, none⟩ = some (.int .i64 (ts[k]).tr) ∧ w.cell? ⟨b, o + k * 13 + 5, none⟩ = some (.int .i64 (ts[k]).tm) ∧
     w.cell? ⟨b, o + k * 13 + 6, none⟩ = some (.int .i64 (ts[k]).mail.kind) ∧ w.cell? ⟨b, o + k * 13 + 7, none⟩ = some (.string (ts[k]).mail.dst) ∧ w.cell? ⟨b, o + k * 13 + 8, none⟩ = some (.string (ts[k]).mail.src) ∧ w.cell? ⟨b, o + k * 13 + 9, none⟩ = some (.string (ts[k]).mail.node) ∧ w.cell? ⟨b, o + k * 13 + 10, none⟩ = some (.string (ts[k]).mail.name) ∧ w.cell? ⟨b, o + k * 13 + 11, none⟩ = some (.string (ts[k]).mail.text) ∧ w.cell? ⟨b, o + k * 13 + 12, none⟩ = some (.int .i64 (ts[k]).mail.status)) := by
  obtain ⟨_, a', c', e, _, _, h0 | ⟨b, o, rfl, hc⟩⟩ := T
  · omega
  · obtain ⟨rfl, rfl⟩ : a = some ⟨b, o, none⟩ ∧ c = c' := by simpa using e
    have at_ : ∀ j u, j < 13 → (tkC ts[k])[j]? = some u → w.cell? ⟨b, o + k * 13 + j, none⟩ = some u := fun j u hj hu => by
      rw [Nat.add_assoc]
      exact hc _ u ((flatMap_at tkC_len (List.getElem?_eq_getElem hk) j hj).trans hu)
    exact ⟨b, o, rfl, at_ 0 _ (by decide) rfl, at_ 1 _ (by decide) rfl, at_ 2 _ (by decide) rfl, at_ 3 _ (by decide) rfl, at_ 4 _ (by decide) rfl, at_ 5 _ (by decide) rfl, at_ 6 _ (by decide) rfl, at_ 7 _ (by decide) rfl, at_ 8 _ (by decide) rfl, at_ 9 _ (by decide) rfl, at_ 10 _ (by decide) rfl, at_ 11 _ (by decide) rfl, at_ 12 _ (by decide) rfl⟩

/-- A task that is told is the workflow's. -/
def flowT (x : ByteArray) (t : Tk) : Tk := { t with flow := x }

def tellP (nm : ByteArray) (ns : List Nd) (r : Rn) (e : Ev) (ts : List Tk) : Rn :=
  match changeP nm ns r.st e with
  | none => r
  | some s => { r with st := s, evs := r.evs ++ [e], tks := r.tks ++ ts.map (flowT s.id) }

end Go.Proofs.YtdecceekodpjiaaDoor
