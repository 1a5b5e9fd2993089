/-
  What stands around a run: the definition, the moves; what follows from one call to the next.
-/
import Derived.Test.YtdecceekodpjiaaDoorHCount
namespace Go.Proofs.YtdecceekodpjiaaDoor
open Go.RowKit

/-- The definition and the moves lie below w0's end, the run's blocks above it. -/
structure Env (w0 w : World) (H : Nat → Prop) (a : Option Addr) (ns : List Nd) : Prop where
  nodes : NodesAt w0 a ns
  few : ns.length ≤ 1000000
  low : ∀ b o, a = some ⟨b, o, none⟩ → b < w0.heap.size
  names : ∀ x ∈ ns, x.name.size ≤ 100000000
  moves : MovesAt w0
  high : ∀ g, H g → w0.heap.size ≤ g
  keep : Kept (fun g => w0.heap.size ≤ g) w0 w

theorem Env.here {w0 w : World} {H : Nat → Prop} {a : Option Addr} {ns : List Nd} (E : Env w0 w H a ns) : NodesAt w a ns ∧ MovesAt w ∧ ∀ b o, a = some ⟨b, o, none⟩ → ¬ H b :=
  ⟨E.nodes.kept E.keep (fun k hk => Nat.not_le.2 hk), E.moves.kept E.keep (Nat.not_le.2 (by obtain ⟨_, _, h⟩ := E.moves; exact (Array.getElem?_eq_some_iff.1 h).1)), fun b o h hb => absurd (E.low b o h) (Nat.not_lt.2 (E.high b hb))⟩

theorem Env.new {w0 w w' : World} {H : Nat → Prop} {a : Option Addr} {ns : List Nd} (E : Env w0 w H a ns) (K : Kept (fun _ => False) w w') : Env w0 w' H a ns :=
  ⟨E.nodes, E.few, E.low, E.names, E.moves, E.high, E.keep.and (K.mono (fun _ h => h.elim))⟩

theorem RAt.new {w w' : World} {H : Nat → Prop} {rb : Nat} {nm : ByteArray} {a : Option Addr} {n c : Nat} {r : Rn} (R : RAt w H rb nm a n c r) (K : Kept (fun _ => False) w w') : RAt w' H rb nm a n c r := by
  obtain ⟨F, G, v6, v7, v12, v13, RN, hH, ht⟩ := R
  exact ⟨F, G, v6, v7, v12, v13, RN.new K, hH, fun g h => Nat.lt_of_lt_of_le (ht g h) K.size⟩

theorem Env.goes {w0 w w' : World} {H : Nat → Prop} {a : Option Addr} {ns : List Nd} {rb c : Nat} {nm : ByteArray} {r : Rn} (E : Env w0 w H a ns) (X : RGoes w H rb nm a ns.length c r w') : ∃ H', Env w0 w' H' a ns ∧ RAt w' H' rb nm a ns.length c r ∧ (∀ g, H' g → H g ∨ w.heap.size ≤ g) ∧ Kept H w w' := by
  obtain ⟨⟨H', R, hH⟩, K⟩ := X
  exact ⟨H', ⟨E.nodes, E.few, E.low, E.names, E.moves, fun g h => (hH g h).elim (E.high g) (fun h => Nat.le_trans E.keep.size h), E.keep.and (K.mono E.high)⟩, R, hH, K⟩

theorem RGoes.trans {w w1 w2 : World} {H H1 : Nat → Prop} {rb : Nat} {nm : ByteArray} {a : Option Addr} {n c : Nat} {r : Rn} (hH : ∀ g, H1 g → H g ∨ w.heap.size ≤ g) (K : Kept H w w1) (X : RGoes w1 H1 rb nm a n c r w2) : RGoes w H rb nm a n c r w2 := by
  obtain ⟨⟨H2, R, h2⟩, K2⟩ := X
  exact ⟨⟨H2, R, fun g h => (h2 g h).elim (hH g) (fun h => .inr (Nat.le_trans K.size h))⟩, K.trans K2 hH⟩

theorem RGoes.first {w w1 w2 : World} {H : Nat → Prop} {rb : Nat} {nm : ByteArray} {a : Option Addr} {n c : Nat} {r : Rn} (K : Kept (fun _ => False) w w1) (X : RGoes w1 H rb nm a n c r w2) : RGoes w H rb nm a n c r w2 :=
  X.trans (fun _ h => .inl h) (K.mono (fun _ h => h.elim))

/-- How much a run holds. -/
structure Fit (r : Rn) (m : Nat) : Prop where
  idsz : r.st.id.size ≤ 100000000
  nodes : r.st.nodes.length ≤ 1000000
  sigs : r.st.sigs.length ≤ m
  ev0 : 0 ≤ r.st.events
  ev1 : r.st.events ≤ m
  evs : r.evs.length ≤ m
  tks : r.tks.length ≤ m

theorem receiveP_len {l l' : List Sg} {x : ByteArray} {st nb : Int} (h : receiveP l x st nb = some l') : l'.length ≤ l.length := by
  unfold receiveP at h
  repeat' split at h
  all_goals first
    | cases h; done
    | (cases h; exact Nat.le_refl _)
    | (cases h; rw [List.length_eraseIdx]; split <;> omega)

theorem changeP_fit {nm : ByteArray} {ns : List Nd} {s s' : St} {e : Ev} (h : changeP nm ns s e = some s') (hn : ns.length ≤ 1000000) (h6 : s.nodes.length ≤ 1000000) : s'.nodes.length ≤ 1000000 ∧ s'.sigs.length ≤ s.sigs.length + 1 ∧ s'.events = s.events + 1 ∧ (e.kind ≠ 1 → s'.nodes.length = s.nodes.length) ∧ s'.id = s.id := by
  unfold changeP at h
  by_cases hst : s.status ≠ (if e.kind = 1 then 0 else 1)
  · rw [if_pos hst] at h
    cases h
  rw [if_neg hst] at h
  split at h
  · rename_i h1
    cases h
    exact ⟨by simpa using hn, Nat.le_succ _, rfl, fun h => absurd h1 h, rfl⟩
  split at h
  · cases h
    exact ⟨h6, by simp, rfl, fun _ => rfl, rfl⟩
  split at h
  · split at h
    · cases h
      exact ⟨h6, Nat.le_succ _, rfl, fun _ => rfl, rfl⟩
    · cases h
  · cases hc : changeNodeP ns s e with
    | none => rw [hc] at h; cases h
    | some t =>
      rw [hc] at h
      cases h
      unfold changeNodeP at hc
      split at hc
      · cases hc
      split at hc
      · cases hc
      split at hc
      · cases hc
      · rename_i l hl
        cases hc
        refine ⟨by rw [setNode_len]; exact h6, ?_, rfl, fun _ => setNode_len _ _ _ _, rfl⟩
        split at hl
        · exact Nat.le_succ_of_le (receiveP_len hl)
        · cases hl
          exact Nat.le_succ _

theorem tellP_fit {nm : ByteArray} {ns : List Nd} {r : Rn} {m : Nat} (F : Fit r m) (hn : ns.length ≤ 1000000) (e : Ev) (ts : List Tk) : Fit (tellP nm ns r e ts) (m + 1 + ts.length) := by
  unfold tellP
  split
  · exact ⟨F.idsz, F.nodes, by have := F.sigs; omega, F.ev0, by have := F.ev1; omega, by have := F.evs; omega, by have := F.tks; omega⟩
  · rename_i s hs
    obtain ⟨h1, h2, h3, _, h5⟩ := changeP_fit hs hn F.nodes
    refine ⟨by show s.id.size ≤ _; rw [h5]; exact F.idsz, h1, by show s.sigs.length ≤ _; have := F.sigs; omega, by show 0 ≤ s.events; have := F.ev0; omega, by show s.events ≤ _; have := F.ev1; omega, by have := F.evs; simp; omega, by have := F.tks; simp; omega⟩

/-- tell, where a definition and the moves stand around. -/
theorem tellE {w0 w : World} {H : Nat → Prop} {rb : Nat} {nm : ByteArray} {a : Option Addr} {c : Nat} {ns : List Nd} {r : Rn} {m : Nat} (E : Env w0 w H a ns) (R : RAt w H rb nm a ns.length c r) (F : Fit r m) (hm : m ≤ 1000000) (ev : Ev) (ts : List Tk) (ta : Option Addr) (tc : Nat) (hT : FlatAt w 13 (.slice ta ts.length tc) ts.length (tkF ts)) (hts : ts.length ≤ 1000000) (htH : ∀ g, slBlk (.slice ta ts.length tc) = some g → ¬ H g) :
    Calls Tryd.prog 34 #[.pointer (some ⟨rb, 0, none⟩), .agg #[.int .i64 ev.kind, .string ev.node, .string ev.text, .int .i64 ev.num], .slice ta ts.length tc] w fun e w' => e = .returned (.tuple #[]) ∧ RGoes w H rb nm a ns.length c (tellP nm ns r ev ts) w' := by
  obtain ⟨h1, h2, h3⟩ := E.here
  exact tell_any w H rb nm a c ns r R F.nodes (by have := F.sigs; omega) F.ev0 (by have := F.ev1; omega) (by have := F.evs; omega) (by have := F.tks; omega) h1 E.few h3 h2 ev ts ta tc hT hts htH

end Go.Proofs.YtdecceekodpjiaaDoor
