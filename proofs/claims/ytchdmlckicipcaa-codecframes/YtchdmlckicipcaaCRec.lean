/-
  A record that is read field by field: its block, the result's block, the reader's.
-/
import Derived.Test.YtchdmlckicipcaaCRdEv
namespace Go.Proofs.Ytchdmlckicipcaa
open Go.RowKit

theorem jump_weaken {l : Nat} {J J' : Act → World → Prop} {Q : Exit → Act → World → Prop} (h : ∀ a w, J a w → J' a w) (e : Exit) (a : Act) (w : World) (hj : Exit.jump l J Q e a w) : Exit.jump l J' Q e a w := by
  cases e <;> simp only [Exit.jump] at hj ⊢ <;> first | exact hj | exact ⟨hj.1, h _ _ hj.2⟩

/-- A scope whose code jumps to one label: one walk of what lies behind the label serves both the coming and each jump. -/
theorem wp_scope_loop {P : Program} {a : Act} {w : World} {Q : Exit → Act → World → Prop} {c y : Code} (l : Nat) (J : Act → World → Prop) (μ : Act → World → Nat) (hf : findLabel c l = some (Code.skip.seq y))
    (pass : ∀ a w, J a w → y.wp P (Exit.jump l (fun a' w' => J a' w' ∧ μ a' w' < μ a w) Q) a w)
    (first : (∀ a w, J a w → y.wp P (Exit.jump l J Q) a w) → c.wp P (Exit.jump l J Q) a w) : (Code.scope c).wp P Q a w :=
  wp_scope_jumps l J μ hf (first fun a w h => Code.wp_mono (jump_weaken fun _ _ h => h.1) (pass a w h)) (fun a w h => wp_seq (wp_skip (pass a w h)))

theorem cellOf {w : World} {b o : Nat} {cs : Array Value} {t : TypeId} {fz : Nat × Nat} {u : Value} (h : w.heap[b]? = some (.cells cs t fz)) (hu : cs[o]? = some u) : w.cell? ⟨b, o, none⟩ = some u := by
  simp [World.cell?, h, hu]

/-- A record is read whole: nothing may be left over. -/
def rdWhole {α : Type} (P : Rd α) (raw : List Int) : Except Nat α := match P raw 0 with
  | .error e => .error e
  | .ok (v, i) => if i < raw.length then .error i else .ok v

/-- On the way of reading: w0 is the world ahead, R the result's block, E the record's, r the reader's. -/
structure RecSt (w0 w : World) (T : TypeId) (R E r : Nat) (a : Option Addr) (m c : Nat) (raw : List Int) (at_ : Nat) (bad : Bool) (zs cs : Array Value) : Prop where
  rd : RAt w r a m c raw at_ bad
  rcd : w.heap[E]? = some (.cells cs T (0, 0))
  res : w.heap[R]? = some (.cells zs T (0, 0))
  kept : Kept (fun _ => False) w0 w
  old : raw ≠ [] → ∀ ad, a = some ad → ad.block < w0.heap.size
  r1 : w0.heap.size ≤ R
  r2 : R < E
  r3 : E < r

section
variable {w0 w w' : World} {T : TypeId} {R E r : Nat} {a : Option Addr} {m c : Nat} {raw : List Int} {at_ : Nat} {bad : Bool} {zs cs : Array Value}

theorem RecSt.new {w : World} (B : BytesAt w a m c raw) (hm : m ≤ 140737488355328) (T : TypeId) (zs : Array Value) :
    RecSt w (((w.alloc (.cells zs T)).alloc (.cells zs T)).alloc (.cells #[.slice a m c, .int .i64 0, .bool false] 58)) T w.heap.size (w.heap.size + 1) (w.heap.size + 1 + 1) a m c raw 0 false zs zs := by
  have K1 := Kept.alloc (fun _ => False) w (.cells zs T)
  have K2 := Kept.alloc (fun _ => False) (w.alloc (.cells zs T)) (.cells zs T)
  have K3 := Kept.alloc (fun _ => False) ((w.alloc (.cells zs T)).alloc (.cells zs T)) (.cells #[.slice a m c, .int .i64 0, .bool false] 58)
  have B2 := (B.kept K1 (fun _ _ _ h => h)).kept K2 (fun _ _ _ h => h)
  have s1 : (w.alloc (.cells zs T)).heap.size = w.heap.size + 1 := by simp
  have s2 : ((w.alloc (.cells zs T)).alloc (.cells zs T)).heap.size = w.heap.size + 1 + 1 := by simp
  have A := RAt.new B2 hm
  rw [s2] at A
  refine ⟨A, ?_, ?_, (K1.and K2).and K3, fun hne ad e => B.lt e hne, Nat.le_refl _, by omega, by omega⟩
  · rw [K3.block (w.heap.size + 1) (by omega) (fun h => h)]
    have := heap_alloc_new (w.alloc (.cells zs T)) (.cells zs T)
    rw [s1] at this
    exact this
  · rw [K3.block w.heap.size (by omega) (fun h => h), K2.block w.heap.size (by omega) (fun h => h), heap_alloc_new]

theorem RecSt.cell (S : RecSt w0 w T R E r a m c raw at_ bad zs cs) {o : Nat} {u : Value} (hu : cs[o]? = some u) : w.cell? ⟨E, o, none⟩ = some u ∧ w.frozen? ⟨E, o, none⟩ = false := by
  constructor
  · simp [World.cell?, S.rcd, hu]
  · simp [World.frozen?, S.rcd]

theorem RecSt.na (S : RecSt w0 w T R E r a m c raw at_ bad zs cs) : raw ≠ [] → ∀ ad, a = some ad → ad.block ≠ E := fun h ad e => by have := S.old h ad e; have := S.r1; have := S.r2; omega

/-- A part was read. -/
def PartSt {α : Type} (f : α → Value) (w0 w' : World) (T : TypeId) (R E r : Nat) (a : Option Addr) (m c : Nat) (raw : List Int) (bad : Bool) (zs cs : Array Value) (o : Nat) (e : Ending) : Except Nat (α × Nat) → Prop
  | .error pl => e = .returned (.bool false) ∧ (RecSt w0 w' T R E r a m c raw pl true zs cs ∨ ∃ v, RecSt w0 w' T R E r a m c raw pl true zs (cs.setIfInBounds o (f v)))
  | .ok (v, i) => e = .returned (.bool true) ∧ RecSt w0 w' T R E r a m c raw i bad zs (cs.setIfInBounds o (f v))

theorem RecSt.set {at' : Nat} {bad' : Bool} (S : RecSt w0 w T R E r a m c raw at_ bad zs cs) {w1 : World} (K : Kept (fun k => k = r) w w1) (o : Nat) (v : Value) (A : RAt (w1.setCell ⟨E, o, none⟩ v) r a m c raw at' bad') : RecSt w0 (w1.setCell ⟨E, o, none⟩ v) T R E r a m c raw at' bad' zs (cs.setIfInBounds o v) := by
  have h1 := S.r1
  have h2 := S.r2
  have h3 := S.r3
  have hr := S.rd.lt
  have e1 : w1.heap[E]? = some (.cells cs T (0, 0)) := (K.block E (by omega) (by show ¬ E = r; omega)).trans S.rcd
  have e2 : w1.heap[R]? = some (.cells zs T (0, 0)) := (K.block R (by omega) (by show ¬ R = r; omega)).trans S.res
  refine ⟨A, by simp [World.setCell, Array.getElem?_modify, e1], ?_, ?_, S.old, h1, h2, h3⟩
  · rw [Below.heap_setCell _ _ _ _ (by show ¬ R = E; omega)]; exact e2
  · exact (S.kept.trans K (fun k h => .inr (by omega))).trans (Kept.setCell (S := fun k => k = E) _ _ _ rfl) (fun k h => .inr (by omega))

theorem RecSt.to {at' : Nat} {bad' : Bool} (S : RecSt w0 w T R E r a m c raw at_ bad zs cs) {w1 : World} (K : Kept (fun k => k = r) w w1) (A : RAt w1 r a m c raw at' bad') : RecSt w0 w1 T R E r a m c raw at' bad' zs cs := by
  have h1 := S.r1
  have h2 := S.r2
  have h3 := S.r3
  have hr := S.rd.lt
  exact ⟨A, (K.block E (by omega) (by show ¬ E = r; omega)).trans S.rcd, (K.block R (by omega) (by show ¬ R = r; omega)).trans S.res, S.kept.trans K (fun k h => .inr (by omega)), S.old, h1, h2, h3⟩

theorem RecSt.part {α : Type} {f : α → Value} {o : Nat} {e : Ending} {x : Except Nat (α × Nat)} (S : RecSt w0 w T R E r a m c raw at_ bad zs cs) (h : RPart f w w' r a m c raw bad E o e x) : PartSt f w0 w' T R E r a m c raw bad zs cs o e x := by
  cases x with
  | error pl =>
    obtain ⟨rfl, A, w1, K, rfl | ⟨v, rfl⟩⟩ := h
    · exact ⟨rfl, .inl (S.to K A)⟩
    · exact ⟨rfl, .inr ⟨v, S.set K o _ A⟩⟩
  | ok y =>
    obtain ⟨rfl, A, w1, K, rfl⟩ := h
    exact ⟨rfl, S.set K o _ A⟩

theorem rec_num (S : RecSt w0 w T R E r a m c raw at_ bad zs cs) (o : Nat) (u : Value) (hu : cs[o]? = some u) (lo hi : Int) :
    Calls Try.prog 27 #[.pointer (some ⟨r, 0, none⟩), .pointer (some ⟨E, o, none⟩), .int .i64 lo, .int .i64 hi] w fun e w' => PartSt (Value.int .i64) w0 w' T R E r a m c raw bad zs cs o e (rdNum lo hi raw at_) :=
  (rnumber_any S.rd E o u (S.cell hu).1 (S.cell hu).2 (by have := S.r3; omega) S.na lo hi).mono (fun _ _ h => S.part h)

theorem rec_text (S : RecSt w0 w T R E r a m c raw at_ bad zs cs) (o : Nat) (u : Value) (hu : cs[o]? = some u) :
    Calls Try.prog 28 #[.pointer (some ⟨r, 0, none⟩), .pointer (some ⟨E, o, none⟩)] w fun e w' => PartSt Value.string w0 w' T R E r a m c raw bad zs cs o e (rdText raw at_) :=
  (rtext_any S.rd E o u (S.cell hu).1 (S.cell hu).2 (by have := S.r3; omega) S.na).mono (fun _ _ h => S.part h)

theorem rec_sig (S : RecSt w0 w T R E r a m c raw at_ bad zs cs) (o : Nat) (u : Value) (hu : cs[o]? = some u) :
    Calls Try.prog 29 #[.pointer (some ⟨r, 0, none⟩), .pointer (some ⟨E, o, none⟩)] w fun e w' => PartSt (Value.int .i64) w0 w' T R E r a m c raw bad zs cs o e (rdSig raw at_) :=
  (rsigned_any S.rd E o u (S.cell hu).1 (S.cell hu).2 (by have := S.r3; omega) S.na).mono (fun _ _ h => S.part h)

theorem rec_close (S : RecSt w0 w T R E r a m c raw at_ bad zs cs) :
    Calls Try.prog 30 #[.pointer (some ⟨r, 0, none⟩)] w fun e w' => e = .returned (.tuple #[]) ∧ RecSt w0 w' T R E r a m c raw at_ (bad || decide (at_ < m)) zs cs :=
  (rclose_any S.rd).mono (fun _ _ ⟨h, A, K⟩ => ⟨h, S.to K A⟩)

theorem RecSt.len (S : RecSt w0 w T R E r a m c raw at_ bad zs cs) : raw.length = m := S.rd.bytes.len
end

end Go.Proofs.Ytchdmlckicipcaa
