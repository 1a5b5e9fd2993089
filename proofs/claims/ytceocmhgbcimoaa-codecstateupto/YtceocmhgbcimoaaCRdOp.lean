/-
  A change: read by the codec.
-/
import Derived.Test.YtceocmhgbcimoaaCRdFlag
namespace Go.Proofs.Ytceocmhgbcimoaa
open Go.RowKit

/-- On the way of reading an element: w0 is the world ahead, E its block, r the reader's. -/
structure ElSt (w0 w : World) (T : TypeId) (E r : Nat) (a : Option Addr) (m c : Nat) (raw : List Int) (at_ : Nat) (bad : Bool) (cs : Array Value) : Prop where
  rd : RAt w r a m c raw at_ bad
  el : w.heap[E]? = some (.cells cs T (0, 0))
  kept : Kept (fun k => k = r ∨ k = E) w0 w
  ne : E ≠ r
  na : raw ≠ [] → ∀ ad, a = some ad → ad.block ≠ E

def ElPart {α : Type} (f : α → Value) (w0 w' : World) (T : TypeId) (E r : Nat) (a : Option Addr) (m c : Nat) (raw : List Int) (bad : Bool) (cs : Array Value) (o : Nat) (e : Ending) : Except Nat (α × Nat) → Prop
  | .error pl => e = .returned (.bool false) ∧ ∃ cs', ElSt w0 w' T E r a m c raw pl true cs'
  | .ok (v, i) => e = .returned (.bool true) ∧ ElSt w0 w' T E r a m c raw i bad (cs.setIfInBounds o (f v))

section
variable {w0 w w' : World} {T : TypeId} {E r : Nat} {a : Option Addr} {m c : Nat} {raw : List Int} {at_ : Nat} {bad : Bool} {cs : Array Value}

theorem ElSt.cell (S : ElSt w0 w T E r a m c raw at_ bad cs) {o : Nat} {u : Value} (hu : cs[o]? = some u) : w.cell? ⟨E, o, none⟩ = some u ∧ w.frozen? ⟨E, o, none⟩ = false := by
  constructor
  · simp [World.cell?, S.el, hu]
  · simp [World.frozen?, S.el]

theorem ElSt.set {at' : Nat} {bad' : Bool} (S : ElSt w0 w T E r a m c raw at_ bad cs) {w1 : World} (K : Kept (fun k => k = r) w w1) (o : Nat) (v : Value) (A : RAt (w1.setCell ⟨E, o, none⟩ v) r a m c raw at' bad') : ElSt w0 (w1.setCell ⟨E, o, none⟩ v) T E r a m c raw at' bad' (cs.setIfInBounds o v) := by
  have hE : E < w.heap.size := (Array.getElem?_eq_some_iff.1 S.el).1
  have e1 : w1.heap[E]? = some (.cells cs T (0, 0)) := (K.block E hE S.ne).trans S.el
  exact ⟨A, by simp [World.setCell, Array.getElem?_modify, e1], (S.kept.and (K.mono (fun _ h => .inl h))).and (Kept.setCell (S := fun k => k = r ∨ k = E) _ _ _ (.inr rfl)), S.ne, S.na⟩

theorem ElSt.to {at' : Nat} {bad' : Bool} (S : ElSt w0 w T E r a m c raw at_ bad cs) {w1 : World} (K : Kept (fun k => k = r) w w1) (A : RAt w1 r a m c raw at' bad') : ElSt w0 w1 T E r a m c raw at' bad' cs := by
  have hE : E < w.heap.size := (Array.getElem?_eq_some_iff.1 S.el).1
  exact ⟨A, (K.block E hE S.ne).trans S.el, S.kept.and (K.mono (fun _ h => .inl h)), S.ne, S.na⟩

theorem ElSt.part {α : Type} {f : α → Value} {o : Nat} {e : Ending} {x : Except Nat (α × Nat)} (S : ElSt w0 w T E r a m c raw at_ bad cs) (h : RPart f w w' r a m c raw bad E o e x) : ElPart f w0 w' T E r a m c raw bad cs o e x := by
  cases x with
  | error pl =>
    obtain ⟨rfl, A, w1, K, rfl | ⟨v, rfl⟩⟩ := h
    · exact ⟨rfl, _, S.to K A⟩
    · exact ⟨rfl, _, S.set K o _ A⟩
  | ok y =>
    obtain ⟨rfl, A, w1, K, rfl⟩ := h
    exact ⟨rfl, S.set K o _ A⟩

theorem el_text (S : ElSt w0 w T E r a m c raw at_ bad cs) (o : Nat) (u : Value) (hu : cs[o]? = some u) :
    Calls Try.prog 90 #[.pointer (some ⟨r, 0, none⟩), .pointer (some ⟨E, o, none⟩)] w fun e w' => ElPart Value.string w0 w' T E r a m c raw bad cs o e (rdText raw at_) :=
  (rtext_any S.rd E o u (S.cell hu).1 (S.cell hu).2 S.ne S.na).mono (fun _ _ h => S.part h)

theorem el_num (S : ElSt w0 w T E r a m c raw at_ bad cs) (o : Nat) (u : Value) (hu : cs[o]? = some u) (lo hi : Int) :
    Calls Try.prog 91 #[.pointer (some ⟨r, 0, none⟩), .pointer (some ⟨E, o, none⟩), .int .i64 lo, .int .i64 hi] w fun e w' => ElPart (Value.int .i64) w0 w' T E r a m c raw bad cs o e (rdNum lo hi raw at_) :=
  (rnumber_any S.rd E o u (S.cell hu).1 (S.cell hu).2 S.ne S.na lo hi).mono (fun _ _ h => S.part h)

theorem el_flag (S : ElSt w0 w T E r a m c raw at_ bad cs) (o : Nat) (u : Value) (hu : cs[o]? = some u) :
    Calls Try.prog 130 #[.pointer (some ⟨r, 0, none⟩), .pointer (some ⟨E, o, none⟩)] w fun e w' => ElPart Value.bool w0 w' T E r a m c raw bad cs o e (rdFlag raw at_) :=
  (rflag_any S.rd E o u (S.cell hu).1 (S.cell hu).2 S.ne S.na).mono (fun _ _ h => S.part h)
end

/-- A change was read. -/
def OpSt (w0 w' : World) (E r : Nat) (a : Option Addr) (m c : Nat) (raw : List Int) (bad : Bool) (e : Ending) : Except Nat ((ByteArray × Bool × ByteArray) × Nat) → Prop
  | .error pl => e = .returned (.bool false) ∧ ∃ cs, ElSt w0 w' 166 E r a m c raw pl true cs
  | .ok ((k, g, v), i) => e = .returned (.bool true) ∧ ElSt w0 w' 166 E r a m c raw i bad #[.string k, .string v, .bool g]

set_option maxRecDepth 100000 in
set_option maxHeartbeats 1000000 in
theorem rop_any {w0 w : World} {E r : Nat} {a : Option Addr} {m c : Nat} {raw : List Int} {at_ : Nat} {bad : Bool} (S0 : ElSt w0 w 166 E r a m c raw at_ bad #[.string ⟨#[]⟩, .string ⟨#[]⟩, .bool false]) :
    Calls Try.prog 108 #[.pointer (some ⟨r, 0, none⟩), .pointer (some ⟨E, 0, none⟩)] w fun e w' => OpSt w0 w' E r a m c raw bad e (rdOp raw at_) := by
  cases hd0 : rdText raw at_ with
  | error pl =>
    have hx : rdOp raw at_ = .error pl := by simp [rdOp, rdBind, hd0]
    rw [hx]
    go_enter Try.func108, Try.ntmps108
    go_wp2_with (first
      | (go_at_call 90; have _t := S0; refine (el_text S0 0 _ rfl).mono ?_; intro e w1 h; rw [hd0] at h; obtain ⟨rfl, h⟩ := h; clear S0 _t)
      | fail)
    go_ret
    exact ⟨rfl, h⟩
  | ok y0 =>
    obtain ⟨k, i0⟩ := y0
    cases hd1 : rdFlag raw i0 with
    | error pl =>
      have hx : rdOp raw at_ = .error pl := by simp [rdOp, rdBind, hd0, hd1]
      rw [hx]
      go_enter Try.func108, Try.ntmps108
      go_wp2_with (first
        | (go_at_call 90; have _t := S0; refine (el_text S0 0 _ rfl).mono ?_; intro e w1 h; rw [hd0] at h; obtain ⟨rfl, Q1⟩ := h; have S1 : ElSt w0 w1 166 E r a m c raw i0 bad #[.string k, .string ⟨#[]⟩, .bool false] := Q1; clear Q1; clear S0 _t)
        | (go_at_call 130; have _t := S1; refine (el_flag S1 2 _ rfl).mono ?_; intro e w2 h; rw [hd1] at h; obtain ⟨rfl, h⟩ := h; clear S1 _t)
        | fail)
      go_ret
      exact ⟨rfl, h⟩
    | ok y1 =>
      obtain ⟨g, i1⟩ := y1
      cases g with
      | true =>
        have hx : rdOp raw at_ = .ok ((k, true, ⟨#[]⟩), i1) := by simp [rdOp, rdBind, rdOne, hd0, hd1]
        rw [hx]
        go_enter Try.func108, Try.ntmps108
        go_wp2_with (first
          | (go_at_call 90; have _t := S0; refine (el_text S0 0 _ rfl).mono ?_; intro e w1 h; rw [hd0] at h; obtain ⟨rfl, Q1⟩ := h; have S1 : ElSt w0 w1 166 E r a m c raw i0 bad #[.string k, .string ⟨#[]⟩, .bool false] := Q1; clear Q1; clear S0 _t)
          | (go_at_call 130; have _t := S1; refine (el_flag S1 2 _ rfl).mono ?_; intro e w2 h; rw [hd1] at h; obtain ⟨rfl, Q2⟩ := h; have S2 : ElSt w0 w2 166 E r a m c raw i1 bad #[.string k, .string ⟨#[]⟩, .bool true] := Q2; clear Q2; have hg2 := (S2.cell (o := 2) rfl).1; clear S1 _t)
          | fail)
        go_ret
        exact ⟨rfl, S2⟩
      | false =>
        cases hd2 : rdText raw i1 with
        | error pl =>
          have hx : rdOp raw at_ = .error pl := by simp [rdOp, rdBind, hd0, hd1, hd2]
          rw [hx]
          go_enter Try.func108, Try.ntmps108
          go_wp2_with (first
            | (go_at_call 90; have _t := S0; refine (el_text S0 0 _ rfl).mono ?_; intro e w1 h; rw [hd0] at h; obtain ⟨rfl, Q1⟩ := h; have S1 : ElSt w0 w1 166 E r a m c raw i0 bad #[.string k, .string ⟨#[]⟩, .bool false] := Q1; clear Q1; clear S0 _t)
            | (go_at_call 130; have _t := S1; refine (el_flag S1 2 _ rfl).mono ?_; intro e w2 h; rw [hd1] at h; obtain ⟨rfl, Q2⟩ := h; have S2 : ElSt w0 w2 166 E r a m c raw i1 bad #[.string k, .string ⟨#[]⟩, .bool false] := Q2; clear Q2; have hg2 := (S2.cell (o := 2) rfl).1; clear S1 _t)
            | (go_at_call 90; have _t := S2; refine (el_text S2 1 _ rfl).mono ?_; intro e w3 h; rw [hd2] at h; obtain ⟨rfl, h⟩ := h; clear S2 _t)
            | fail)
          go_ret
          exact ⟨rfl, h⟩
        | ok y2 =>
          obtain ⟨v, i2⟩ := y2
          have hx : rdOp raw at_ = .ok ((k, false, v), i2) := by simp [rdOp, rdBind, hd0, hd1, hd2]
          rw [hx]
          go_enter Try.func108, Try.ntmps108
          go_wp2_with (first
            | (go_at_call 90; have _t := S0; refine (el_text S0 0 _ rfl).mono ?_; intro e w1 h; rw [hd0] at h; obtain ⟨rfl, Q1⟩ := h; have S1 : ElSt w0 w1 166 E r a m c raw i0 bad #[.string k, .string ⟨#[]⟩, .bool false] := Q1; clear Q1; clear S0 _t)
            | (go_at_call 130; have _t := S1; refine (el_flag S1 2 _ rfl).mono ?_; intro e w2 h; rw [hd1] at h; obtain ⟨rfl, Q2⟩ := h; have S2 : ElSt w0 w2 166 E r a m c raw i1 bad #[.string k, .string ⟨#[]⟩, .bool false] := Q2; clear Q2; have hg2 := (S2.cell (o := 2) rfl).1; clear S1 _t)
            | (go_at_call 90; have _t := S2; refine (el_text S2 1 _ rfl).mono ?_; intro e w3 h; rw [hd2] at h; obtain ⟨rfl, Q3⟩ := h; have S3 : ElSt w0 w3 166 E r a m c raw i2 bad #[.string k, .string v, .bool false] := Q3; clear Q3; clear S2 _t)
            | fail)
          go_ret
          exact ⟨rfl, S3⟩

end Go.Proofs.Ytceocmhgbcimoaa
