/-
  Object: the machine of its labels.
-/
import Derived.Test.YtfiaaaflpjpnjaaGreatDoorFPairs
namespace Go.Proofs.YtfiaaaflpjpnjaaGreatDoor
open Go.RowKit

/-- As Q; by a goto to label l: J l. -/
def jumps (J : Nat → Act → World → Prop) (Q : Exit → Act → World → Prop) : Exit → Act → World → Prop
  | .goto l', a, w => J l' a w
  | e, a, w => Q e a w

/-- A scope of several labels; each jump leaves less. -/
theorem wp_scope_labels {P : Program} {a : Act} {w : World} {Q : Exit → Act → World → Prop} {c : Code} (y : Nat → Code) (J : Nat → Nat → Act → World → Prop) (hf : ∀ l f a w, J l f a w → findLabel c l = some (Code.skip.seq (y l)))
    (pass : ∀ l f a w, J l f a w → (y l).wp P (jumps (fun l' a' w' => ∃ f', f' < f ∧ J l' f' a' w') Q) a w)
    (first : c.wp P (jumps (fun l a w => ∃ f, J l f a w) Q) a w) : (Code.scope c).wp P Q a w := by
  intro b k cs
  have key : ∀ f l a w, J l f a w → ∃ e a' w', Q e a' w' ∧ Arrives P (lone (b.at a (.code (Code.skip.seq (y l)) :: .inScope c :: k)) cs w) b k cs e a' w' := by
    intro f
    induction f using Nat.strongRecOn with
    | _ f ih =>
      intro l a w hJ
      obtain ⟨e, a₁, w₁, hq, harr⟩ := wp_seq (wp_skip (pass l f a w hJ)) b (.inScope c :: k) cs
      cases e with
      | normal => exact ⟨.normal, a₁, w₁, hq, Steps.trans harr (.one step_inScope)⟩
      | exit id => exact ⟨.exit id, a₁, w₁, hq, fun k' hk => harr k' (by simp [exitTo, hk])⟩
      | goto l' =>
        obtain ⟨f', hlt, hJ'⟩ := hq
        obtain ⟨e₂, a₂, w₂, hq₂, harr₂⟩ := ih f' hlt l' a₁ w₁ hJ'
        have hg : gotoIn l' (.inScope c :: k) = some (.code (Code.skip.seq (y l')) :: .inScope c :: k) := by simp [gotoIn, hf l' f' a₁ w₁ hJ']
        exact ⟨e₂, a₂, w₂, hq₂, .of_steps (harr _ hg) harr₂⟩
      | ret => exact ⟨_, a₁, w₁, hq, harr⟩
      | panic ch => exact ⟨_, a₁, w₁, hq, harr⟩
      | outgrown => exact ⟨_, a₁, w₁, hq, harr⟩
  obtain ⟨e, a₁, w₁, hq, harr⟩ := first b (.inScope c :: k) cs
  cases e with
  | normal => exact ⟨.normal, a₁, w₁, hq, .head step_scope (Steps.trans harr (.one step_inScope))⟩
  | exit id => exact ⟨.exit id, a₁, w₁, hq, fun k' hk => .head step_scope (harr k' (by simp [exitTo, hk]))⟩
  | goto l' =>
    obtain ⟨f', hJ'⟩ := hq
    obtain ⟨e₂, a₂, w₂, hq₂, harr₂⟩ := key f' l' a₁ w₁ hJ'
    have hg : gotoIn l' (.inScope c :: k) = some (.code (Code.skip.seq (y l')) :: .inScope c :: k) := by simp [gotoIn, hf l' f' a₁ w₁ hJ']
    exact ⟨e₂, a₂, w₂, hq₂, .of_steps (.head step_scope (harr _ hg)) harr₂⟩
  | ret => exact ⟨_, a₁, w₁, hq, .of_steps (.one step_scope) harr⟩
  | panic ch => exact ⟨_, a₁, w₁, hq, .of_steps (.one step_scope) harr⟩
  | outgrown => exact ⟨_, a₁, w₁, hq, .of_steps (.one step_scope) harr⟩

def sel6 (y0 y1 y2 y3 y4 y5 : Code) : Nat → Code
  | 0 => y0 | 1 => y1 | 2 => y2 | 3 => y3 | 4 => y4 | _ => y5

/-- Six labels; the third falls through to the second, the first to the fourth. -/
theorem wp_scope6 {P : Program} {a : Act} {w : World} {Q : Exit → Act → World → Prop} {c y0 y1 y2 y3 y4 y5 : Code} (J : Nat → Nat → Act → World → Prop) (hJ : ∀ l f a w, J l f a w → l < 6)
    (h0 : findLabel c 0 = some (Code.skip.seq y0)) (h1 : findLabel c 1 = some (Code.skip.seq y1)) (h2 : findLabel c 2 = some (Code.skip.seq y2)) (h3 : findLabel c 3 = some (Code.skip.seq y3)) (h4 : findLabel c 4 = some (Code.skip.seq y4)) (h5 : findLabel c 5 = some (Code.skip.seq y5))
    (first : c.wp P (jumps (fun l a w => ∃ f, J l f a w) Q) a w)
    (p1 : ∀ f a w, J 1 f a w → y1.wp P (jumps (fun l' a' w' => ∃ f', f' < f ∧ J l' f' a' w') Q) a w)
    (p2 : (∀ f a w, J 1 f a w → y1.wp P (jumps (fun l' a' w' => ∃ f', f' < f ∧ J l' f' a' w') Q) a w) → ∀ f a w, J 2 f a w → y2.wp P (jumps (fun l' a' w' => ∃ f', f' < f ∧ J l' f' a' w') Q) a w)
    (p3 : ∀ f a w, J 3 f a w → y3.wp P (jumps (fun l' a' w' => ∃ f', f' < f ∧ J l' f' a' w') Q) a w)
    (p0 : (∀ f a w, J 3 f a w → y3.wp P (jumps (fun l' a' w' => ∃ f', f' < f ∧ J l' f' a' w') Q) a w) → ∀ f a w, J 0 f a w → y0.wp P (jumps (fun l' a' w' => ∃ f', f' < f ∧ J l' f' a' w') Q) a w)
    (p4 : ∀ f a w, J 4 f a w → y4.wp P (jumps (fun l' a' w' => ∃ f', f' < f ∧ J l' f' a' w') Q) a w)
    (p5 : ∀ f a w, J 5 f a w → y5.wp P (jumps (fun l' a' w' => ∃ f', f' < f ∧ J l' f' a' w') Q) a w) : (Code.scope c).wp P Q a w := by
  refine wp_scope_labels (sel6 y0 y1 y2 y3 y4 y5) J (fun l f a w h => ?_) (fun l f a w h => ?_) first
  · have := hJ l f a w h
    match l, this with
    | 0, _ => exact h0
    | 1, _ => exact h1
    | 2, _ => exact h2
    | 3, _ => exact h3
    | 4, _ => exact h4
    | 5, _ => exact h5
  · have hl := hJ l f a w h
    match l, hl, h with
    | 0, _, h => exact p0 p3 f a w h
    | 1, _, h => exact p1 f a w h
    | 2, _, h => exact p2 p1 f a w h
    | 3, _, h => exact p3 f a w h
    | 4, _, h => exact p4 f a w h
    | 5, _, h => exact p5 f a w h

/-- Behind a colon. -/
def colR (s : ByteArray) (n : Nat) (ps : List Pr) (nm : List UInt8) (a2 : Nat) : List Pr × Nat × Int :=
  if !(valP s (skipP s (a2 + 1))).2.2 then ([], (valP s (skipP s (a2 + 1))).2.1, 2)
  else if standsP s (skipP s (valP s (skipP s (a2 + 1))).2.1) 44 then objF s n (ps ++ [(nm, (valP s (skipP s (a2 + 1))).1)]) (skipP s (skipP s (valP s (skipP s (a2 + 1))).2.1 + 1))
  else if standsP s (skipP s (valP s (skipP s (a2 + 1))).2.1) 125 then closeP s (ps ++ [(nm, (valP s (skipP s (a2 + 1))).1)]) (skipP s (valP s (skipP s (a2 + 1))).2.1)
  else ([], skipP s (valP s (skipP s (a2 + 1))).2.1, 2)

/-- Behind a name. -/
def namR (s : ByteArray) (n : Nat) (ps : List Pr) (nm : List UInt8) (i a1 : Nat) : List Pr × Nat × Int :=
  if (fieldP ps nm).isSome then ([], i, 16)
  else if ps.length = 16 then ([], i, 10)
  else if !standsP s (skipP s a1) 58 then ([], skipP s a1, 2)
  else colR s n ps nm (skipP s a1)

theorem objF_next (s : ByteArray) (n : Nat) (ps : List Pr) (i : Nat) : objF s (n + 1) ps i = if !(textP s i).2.2 then ([], (textP s i).2.1, 2) else namR s n ps (textP s i).1 i (textP s i).2.1 := rfl

def opnR (s : ByteArray) (a : Nat) : List Pr × Nat × Int := if standsP s (skipP s (a + 1)) 125 then closeP s [] (skipP s (a + 1)) else objF s 17 [] (skipP s (a + 1))

theorem objP_eq (s : ByteArray) : objP s = if !standsP s (skipP s 0) 123 then ([], skipP s 0, 2) else opnR s (skipP s 0) := rfl

/-- A list of fields that is one's own. -/
def LSt (w W : World) (v : Value) (ps : List Pr) : Prop := ∃ a c, v = .slice a ps.length c ∧ W.ownsRow w.heap.size 72 2 (.slice a ps.length c) ps.length (prF ps) ∧ Kept (fun _ => False) w W

theorem LSt.kept {w W W' : World} {v : Value} {ps : List Pr} (S : LSt w W v ps) (K : Kept (fun _ => False) W W') : LSt w W' v ps := by
  obtain ⟨a, c, h1, h2, h3⟩ := S
  exact ⟨a, c, h1, ownsRow_keep h2 (fun g hg => K.block g (ownsRow_blk h2 hg) (fun h => h)), h3.and K⟩

theorem LSt.nil (w W : World) (K : Kept (fun _ => False) w W) : LSt w W (.slice none 0 0) [] := ⟨none, 0, rfl, World.ownsRow_nil _ _ _ _, K⟩

/-- What Object leaves. -/
def ObjPost (w : World) (r : List Pr × Nat × Int) (e : Ending) (w' : World) : Prop := ∃ v, e = .returned (.tuple #[v, .int .i64 (r.2.1 : Int), .int .i64 r.2.2]) ∧ LSt w w' v r.1

def objA (s : ByteArray) (v5 v6 v8 v10 : Value) (u : Nat → Value) : Act := { tmps := #[.string s, u 1, u 2, u 3, u 4, v5, v6, u 7, v8, u 9, v10, u 11, u 12, u 13, u 14, u 15, u 16, u 17, u 18, u 19, u 20, u 21, u 22, u 23, u 24, u 25, u 26, u 27, u 28, u 29, u 30, u 31, u 32, u 33, u 34, u 35, u 36, u 37, u 38, u 39, u 40, u 41, u 42, u 43, u 44, u 45, u 46, u 47, u 48, u 49, u 50, u 51, u 52, u 53, u 54, u 55, u 56, u 57, u 58, u 59, u 60, u 61, u 62, u 63, u 64, u 65, u 66, u 67, u 68, u 69, u 70, u 71, u 72, u 73, u 74, u 75, u 76, u 77, u 78, u 79, u 80, u 81, u 82, u 83, u 84, u 85, u 86, u 87, u 88, u 89, u 90, u 91, u 92], defers := [] }

/-- What stands at the labels. -/
def objJ (w : World) (s : ByteArray) (goal : List Pr × Nat × Int) (l f : Nat) (a' : Act) (w' : World) : Prop :=
  ∃ (ps : List Pr) (nm : List UInt8) (n i k : Nat) (v5 : Value) (u : Nat → Value), a' = objA s v5 (.string (mkB nm)) (.int .i64 (k : Int)) (.int .i64 (i : Int)) u ∧ LSt w w' v5 ps ∧ ps.length ≤ 16 ∧ i ≤ s.size ∧
    ((l = 0 ∧ 142 ≤ f ∧ ps = [] ∧ i < s.size ∧ opnR s i = goal) ∨ (l = 1 ∧ 1 ≤ f ∧ (([], i, 2) : List Pr × Nat × Int) = goal) ∨ (l = 2 ∧ 2 ≤ f ∧ i < s.size ∧ closeP s ps i = goal) ∨ (l = 3 ∧ 8 * n + 4 ≤ f ∧ ps.length + n = 17 ∧ objF s n ps i = goal) ∨
     (l = 4 ∧ 8 * n + 11 ≤ f ∧ ps.length + n = 16 ∧ namR s n ps nm k i = goal) ∨ (l = 5 ∧ 8 * n + 10 ≤ f ∧ ps.length + n = 16 ∧ ps.length < 16 ∧ i < s.size ∧ colR s n ps nm i = goal))

theorem objJ_lt {w : World} {s : ByteArray} {goal : List Pr × Nat × Int} (l f : Nat) (a' : Act) (w' : World) (h : objJ w s goal l f a' w') : l < 6 := by
  obtain ⟨_, _, _, _, _, _, _, _, _, _, _, h⟩ := h
  rcases h with h | h | h | h | h | h <;> omega

section
variable {w w' : World} {s : ByteArray} {goal : List Pr × Nat × Int} {a' : Act} {ps : List Pr} {nm : List UInt8} {n i k f : Nat} {v5 : Value}

theorem objJ0 (h : a' = objA s v5 (.string (mkB nm)) (.int .i64 (k : Int)) (.int .i64 (i : Int)) (fun i => a'.tmps.getD i undef)) (S : LSt w w' v5 []) (hi : i < s.size) (hg : opnR s i = goal) : objJ w s goal 0 142 a' w' :=
  ⟨[], nm, 0, i, k, v5, _, h, S, Nat.zero_le _, Nat.le_of_lt hi, .inl ⟨rfl, Nat.le_refl _, rfl, hi, hg⟩⟩
theorem objJ1 (h : a' = objA s v5 (.string (mkB nm)) (.int .i64 (k : Int)) (.int .i64 (i : Int)) (fun i => a'.tmps.getD i undef)) (S : LSt w w' v5 ps) (hp : ps.length ≤ 16) (hi : i ≤ s.size) (hf : 1 ≤ f) (hg : (([], i, 2) : List Pr × Nat × Int) = goal) : objJ w s goal 1 f a' w' :=
  ⟨ps, nm, 0, i, k, v5, _, h, S, hp, hi, .inr (.inl ⟨rfl, hf, hg⟩)⟩
theorem objJ2 (h : a' = objA s v5 (.string (mkB nm)) (.int .i64 (k : Int)) (.int .i64 (i : Int)) (fun i => a'.tmps.getD i undef)) (S : LSt w w' v5 ps) (hp : ps.length ≤ 16) (hi : i < s.size) (hg : closeP s ps i = goal) : objJ w s goal 2 2 a' w' :=
  ⟨ps, nm, 0, i, k, v5, _, h, S, hp, Nat.le_of_lt hi, .inr (.inr (.inl ⟨rfl, Nat.le_refl _, hi, hg⟩))⟩
theorem objJ3 (h : a' = objA s v5 (.string (mkB nm)) (.int .i64 (k : Int)) (.int .i64 (i : Int)) (fun i => a'.tmps.getD i undef)) (S : LSt w w' v5 ps) (hp : ps.length + n = 17) (hn : 0 < n) (hi : i ≤ s.size) (hf : 8 * n + 4 ≤ f) (hg : objF s n ps i = goal) : objJ w s goal 3 f a' w' :=
  ⟨ps, nm, n, i, k, v5, _, h, S, by omega, hi, .inr (.inr (.inr (.inl ⟨rfl, hf, hp, hg⟩)))⟩
theorem objJ4 (h : a' = objA s v5 (.string (mkB nm)) (.int .i64 (k : Int)) (.int .i64 (i : Int)) (fun i => a'.tmps.getD i undef)) (S : LSt w w' v5 ps) (hp : ps.length + n = 16) (hi : i ≤ s.size) (hg : namR s n ps nm k i = goal) : objJ w s goal 4 (8 * n + 11) a' w' :=
  ⟨ps, nm, n, i, k, v5, _, h, S, by omega, hi, .inr (.inr (.inr (.inr (.inl ⟨rfl, Nat.le_refl _, hp, hg⟩))))⟩
theorem objJ5 (h : a' = objA s v5 (.string (mkB nm)) (.int .i64 (k : Int)) (.int .i64 (i : Int)) (fun i => a'.tmps.getD i undef)) (S : LSt w w' v5 ps) (hp : ps.length + n = 16) (hq : ps.length < 16) (hi : i < s.size) (hg : colR s n ps nm i = goal) : objJ w s goal 5 (8 * n + 10) a' w' :=
  ⟨ps, nm, n, i, k, v5, _, h, S, by omega, Nat.le_of_lt hi, .inr (.inr (.inr (.inr (.inr ⟨rfl, Nat.le_refl _, hp, hq, hi, hg⟩))))⟩

end

end Go.Proofs.YtfiaaaflpjpnjaaGreatDoor
