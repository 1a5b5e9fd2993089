/-
  Crash, the whole of it.
-/
import Derived.Test.YthpamcfemhimcaaDiskCrash
namespace Go.Proofs.Ythpamcfemhimcaa
open Go.RowKit Go.Maps Go.ChangeMaps Go.MapKept

/-- A slice of ints that reads as l, and lies outside S. -/
def IntsAt (w : World) (S : Nat → Prop) (v : Value) (l : List Int) : Prop :=
  ∃ a c, v = .slice a l.length c ∧ (l ≠ [] → ∃ b off, a = some ⟨b, off, none⟩ ∧ l.length ≤ c ∧ ¬ S b ∧ ∀ j x, l[j]? = some x → w.cell? ⟨b, off + j, none⟩ = some (.int .i64 x))

theorem IntsAt.kept {w w' : World} {S S' : Nat → Prop} {v : Value} {l : List Int} (h : IntsAt w S v l) (K : Kept S w w') (hS : ∀ k, S' k → S k ∨ w.heap.size ≤ k) : IntsAt w' S' v l := by
  obtain ⟨a, c, hv, hc⟩ := h
  refine ⟨a, c, hv, fun hne => ?_⟩
  obtain ⟨b, off, ha, hl, hb, hcell⟩ := hc hne
  have hlt : b < w.heap.size := by
    obtain ⟨x, hx⟩ : ∃ x, l[0]? = some x := by cases l with | nil => exact absurd rfl hne | cons x _ => exact ⟨x, rfl⟩
    exact World.block_lt_of_cell? w _ (hcell 0 x hx)
  refine ⟨b, off, ha, hl, fun h => (hS b h).elim hb (fun h => by omega), fun j x hx => ?_⟩
  rw [World.cell?_of_block (w := w) (K.block b hlt hb)]
  exact hcell j x hx

theorem IntsAt.cons {w : World} {S : Nat → Prop} {v : Value} {x : Int} {l : List Int} (h : IntsAt w S v (x :: l)) : ∃ b off c, v = .slice (some ⟨b, off, none⟩) (l.length + 1) c ∧ l.length + 1 ≤ c ∧ w.cell? ⟨b, off, none⟩ = some (.int .i64 x) ∧ IntsAt w S (.slice (some ⟨b, off + 1, none⟩) l.length (c - 1)) l ∧ (c = 1 → IntsAt w S (.slice (some ⟨b, off, none⟩) l.length 0) l) := by
  obtain ⟨a, c, rfl, hc⟩ := h
  obtain ⟨b, off, rfl, hl, hb, hcell⟩ := hc (by simp)
  simp only [List.length_cons] at hl
  refine ⟨b, off, c, rfl, hl, hcell 0 x rfl, ⟨some ⟨b, off + 1, none⟩, c - 1, rfl, fun _ => ⟨b, off + 1, rfl, by omega, hb, fun j y hy => ?_⟩⟩, fun e => ⟨_, _, rfl, fun hne => absurd (List.eq_nil_of_length_eq_zero (by omega)) hne⟩⟩
  have := hcell (j + 1) y hy
  rw [show off + 1 + j = off + (j + 1) by omega]
  exact this

theorem IntsAt.nil {w : World} {S : Nat → Prop} {v : Value} (h : IntsAt w S v []) : ∃ a c, v = .slice a 0 c := by
  obtain ⟨a, c, rfl, _⟩ := h
  exact ⟨a, c, rfl⟩

theorem IntsAt.ofRow {w : World} {S : Nat → Prop} {base n : Nat} {v : Value} {l : List Int} (h : w.ownsRow base 3 1 v n (l.map (Value.int .i64))) (hn : n = l.length) (hS : ∀ k, S k → k < base) : IntsAt w S v l := by
  subst hn
  rcases h.2 with ⟨rfl, h0⟩ | ⟨g, cap, cur, rfl, hb, hh, h1, h2, h3, h4⟩
  · have : l = [] := List.eq_nil_of_length_eq_zero h0
    subst this
    exact ⟨none, 0, rfl, fun h => absurd rfl h⟩
  · refine ⟨some ⟨g, 0, none⟩, cap, rfl, fun _ => ⟨g, 0, rfl, h1, fun h => by have := hS g h; omega, fun j x hx => ?_⟩⟩
    have hc := h.cells (g := g) rfl j (.int .i64 x) (by rw [List.getElem?_map, hx]; rfl)
    rw [Nat.zero_add]
    simpa [Addr.add_lit] using hc

def DSt.loseAll (st : DSt) : List Int → List Int → DSt
  | [], _ => st
  | x :: l, cs => (st.lose x (cs.headD 0)).loseAll l cs.tail

def DSt.crash (st : DSt) (l cs : List Int) : DSt := { st.loseAll l cs with stop := 9223372036854775807, faults := fun _ => none }

def sliceLen : Value → Nat
  | .slice _ m _ => m
  | _ => 0

/-- What is left of the files' numbers: each is there. -/
def AllIn (st : DSt) (l : List Int) : Prop := l.Nodup ∧ ∀ x ∈ l, (st.files x).isSome = true ∧ isI64 x

theorem AllIn.lose {st : DSt} {x cut : Int} {l : List Int} (h : AllIn st (x :: l)) : AllIn (st.lose x cut) l := by
  obtain ⟨hn, hm⟩ := h
  rw [List.nodup_cons] at hn
  refine ⟨hn.2, fun y hy => ⟨?_, (hm y (List.mem_cons_of_mem _ hy)).2⟩⟩
  have hne : y ≠ x := fun e => hn.1 (e ▸ hy)
  have := (hm y (List.mem_cons_of_mem _ hy)).1
  unfold DSt.lose
  split
  · simpa [setF, hne] using this
  · exact this

theorem lose_ops (st : DSt) (x cut : Int) : (st.lose x cut).ops = st.ops ∧ (st.lose x cut).stop = st.stop ∧ (st.lose x cut).faults = st.faults := by
  unfold DSt.lose; split <;> exact ⟨rfl, rfl, rfl⟩

theorem jump_weaken {l : Nat} {J J' : Act → World → Prop} {Q : Exit → Act → World → Prop} (h : ∀ a w, J a w → J' a w) (e : Exit) (a : Act) (w : World) (hj : Exit.jump l J Q e a w) : Exit.jump l J' Q e a w := by
  cases e <;> simp only [Exit.jump] at hj ⊢ <;> first | exact hj | exact ⟨hj.1, h _ _ hj.2⟩

/-- A scope whose code jumps back to one label: one walk of what lies behind the label serves both the first coming and each jump. -/
theorem wp_scope_loop {P : Program} {a : Act} {w : World} {Q : Exit → Act → World → Prop} {c y : Code} (l : Nat) (J : Act → World → Prop) (μ : Act → World → Nat) (hf : findLabel c l = some (Code.skip.seq y))
    (pass : ∀ a w, J a w → y.wp P (Exit.jump l (fun a' w' => J a' w' ∧ μ a' w' < μ a w) Q) a w)
    (first : (∀ a w, J a w → y.wp P (Exit.jump l J Q) a w) → c.wp P (Exit.jump l J Q) a w) : (Code.scope c).wp P Q a w :=
  wp_scope_jumps l J μ hf (first fun a w h => Code.wp_mono (jump_weaken fun _ _ h => h.1) (pass a w h)) (fun a w h => wp_seq (wp_skip (pass a w h)))

theorem setCell_stop {w : World} {d t : Nat} {a b c e u : Value} (h : w.heap[d]? = some (.cells #[a, b, c, e] t (0, 0))) : (w.setCell ⟨d, 2, none⟩ u).heap[d]? = some (.cells #[a, b, u, e] t (0, 0)) := by
  simp [World.setCell, Array.getElem?_modify, h]

section
variable {w : World} {S : Nat → Prop} {d n L : Nat} {st : DSt} {bf bq : Nat} {G C : Int → Nat}

/-- Between two jumps. -/
structure Mid (w : World) (S : Nat → Prop) (d n L bf bq : Nat) (w' : World) (goal : DSt) (v1 v4 : Value) : Prop where
  all : ∃ S' G' C' st' n' l cs, DiskIn w' S' d n' L st' bf bq G' C' ∧ n' + l.length ≤ n ∧ AllIn st' l ∧ IntsAt w' S' v1 cs ∧ IntsAt w' S' v4 l ∧ st'.loseAll l cs = goal ∧ Kept S w w' ∧ ∀ k, S' k → S k ∨ w.heap.size ≤ k

set_option maxRecDepth 100000 in
set_option maxHeartbeats 1000000 in
theorem crash_any (D : DiskIn w S d n L st bf bq G C) (hn : n ≤ 1099511627776) (hL : L ≤ 70368744177664) (v : Value) (cs : List Int) (hc : IntsAt w S v cs) :
    Calls Try.prog 37 #[.pointer (some ⟨d, 0, none⟩), v] w fun e w' =>
      e = .returned (.tuple #[]) ∧ ∃ S' G' C' l, (IsKeys st l ∧ l.length ≤ n) ∧ DiskIn w' S' d (n + l.length) L (st.crash l cs) bf bq G' C' ∧ Kept S w w' ∧ ∀ k, S' k → S k ∨ w.heap.size ≤ k := by
  go_enter Try.func37, Try.ntmps37
  refine wp_scope_loop 0 (fun a' w' => ∃ (goal : DSt) (v1 v4 : Value) (l0 : List Int) (u5 u6 u7 u8 u9 u10 u11 u12 u13 u14 u15 u16 u17 u18 u19 u20 u21 u22 u23 u24 u25 u26 : Value),
      a' = { tmps := #[.pointer (some ⟨d, 0, none⟩), v1, undef, undef, v4, u5, u6, u7, u8, u9, u10, u11, u12, u13, u14, u15, u16, u17, u18, u19, u20, u21, u22, u23, u24, u25, u26, undef, undef, undef, undef, undef, undef, undef], defers := [] } ∧
      (IsKeys st l0 ∧ l0.length ≤ n) ∧ goal = st.loseAll l0 cs ∧ Mid w S d (n + l0.length) L bf bq w' goal v1 v4) (fun a' _ => sliceLen (a'.tmps.getD 4 undef)) rfl ?_ ?_
  rotate_left
  · intro pass
    go_wp2_with (go_at_call 45; refine (files_any D hn).mono ?_; rintro e w1 ⟨vl, l0, rfl, hk, hlen, hrow, K1⟩)
    go_step3
    refine (‹∀ (a : Act) (w : World), Code.wp _ _ _ a w → _›) _ _ ?_
    refine pass _ _ ⟨_, _, _, l0, _, _, _, _, _, _, _, _, _, _, _, _, _, _, _, _, _, _, _, _, _, _, rfl, ⟨hk, hlen⟩, rfl, ⟨S, G, C, st, n, l0, cs, D.kept K1 (fun _ _ h => h), by omega, ?_, hc.kept (K1.mono (fun _ h => h.elim)) (fun _ => .inl), IntsAt.ofRow hrow rfl D.bnd, rfl, K1.mono (fun _ h => h.elim), fun _ => .inl⟩⟩
    refine ⟨hk.rising.imp (fun h => by omega), fun x hx => ⟨(hk.mem x).1 hx, D.tf.wf x (by have := (hk.mem x).1 hx; simpa using this)⟩⟩
  · clear D hc
    rintro a' w' ⟨goal, v1, v4, l0, u5, u6, u7, u8, u9, u10, u11, u12, u13, u14, u15, u16, u17, u18, u19, u20, u21, u22, u23, u24, u25, u26, rfl, hk, hg, ⟨S', G', C', st', n', l, cs', D, hnl, hin, hcs, hl, hgoal, K, hS⟩⟩
    cases l with
    | nil =>
      obtain ⟨a4, c4, rfl⟩ := hl.nil
      have h3 := D.c3
      obtain ⟨w2, hrun, T2, ht2⟩ := D.tq.wipe Try.underlying69 0
      have D2 := D.setFaults (Nat.le_refl _) (Q := fun _ => none) (fun x k h => by cases h) T2 (fun x => rfl) ht2
      have h2 := D2.c2
      have hf2 := D2.fz 2
      have D3 : DiskIn (w2.setCell ⟨d, 2, none⟩ (.int .i64 9223372036854775807)) S' d n' L { st' with ops := st'.ops, stop := 9223372036854775807, faults := fun _ => none } bf bq G' C' :=
        D2.setHead D.ops0 (by decide) (by decide) (setCell_stop D2.head) (fun k hk => Below.heap_setCell _ _ _ _ hk) (by simp [World.setCell])
      have F3 : ∃ S' G' C' l, (IsKeys st l ∧ l.length ≤ n) ∧ DiskIn (w2.setCell ⟨d, 2, none⟩ (.int .i64 9223372036854775807)) S' d (n + l.length) L (st.crash l cs) bf bq G' C' ∧ Kept S w (w2.setCell ⟨d, 2, none⟩ (.int .i64 9223372036854775807)) ∧ ∀ k, S' k → S k ∨ w.heap.size ≤ k := by
        have K3 : Kept S' w' (w2.setCell ⟨d, 2, none⟩ (.int .i64 9223372036854775807)) := (Kept.turned ht2 D.sq).and (Kept.setCell _ _ _ D.sd)
        refine ⟨S', G', C', l0, hk, ?_, K.trans K3 hS, hS⟩
        have e1 : st' = st.loseAll l0 cs := hgoal.trans hg
        unfold DSt.crash
        rw [← e1]
        exact D3.mono (by simpa using hnl) (Nat.le_refl _)
      clear D D2 D3 T2 ht2 hk hg hgoal hin hcs hl K
      go_wp2
      simp only [Exit.jump]
      go_end0
      exact ⟨rfl, F3⟩
    | cons x l =>
      obtain ⟨b4, o4, c4, rfl, hc4, hx4, hl4, hl5⟩ := hl.cons
      have hxs := hin.2 x (by simp)
      obtain ⟨f, hf⟩ := Option.isSome_iff_exists.1 hxs.1
      have hc42 : (1 : Int) ≤ (c4 : Int) := by omega
      have hc43 : ((l.length : Int) + 1) ≤ (c4 : Int) := by omega
      have hn2 : n' + 1 + l.length ≤ n + l0.length := by simp at hnl; omega
      have fin : ∀ (cut : Int) (rest : List Int), cut = cs'.headD 0 → rest = cs'.tail → ∀ (v1' v4' : Value) (w2 : World) S2 G2 C2, DiskIn w2 S2 d (n' + 1) L (st'.lose x cut) bf bq G2 C2 → Kept S' w' w2 → (∀ k, S2 k → S' k ∨ w'.heap.size ≤ k) →
          IntsAt w' S' v1' rest → IntsAt w' S' v4' l → Mid w S d (n + l0.length) L bf bq w2 goal v1' v4' := by
        intro cut rest e1 e2 v1' v4' w2 S2 G2 C2 D2 K2 hS2 i1 i4
        subst e1 e2
        exact ⟨S2, G2, C2, _, n' + 1, l, cs'.tail, D2, hn2, hin.lose, i1.kept K2 hS2, i4.kept K2 hS2, hgoal, K.trans K2 hS, fun k hk => (hS2 k hk).elim (hS k) (fun h => .inr (Nat.le_trans K.size h))⟩
      have HG : Hid (goal = st.loseAll l0 cs) := hg
      clear hg hgoal
      cases cs' with
      | nil =>
        obtain ⟨a1, c1, rfl⟩ := hcs.nil
        have hlose := lose_any D x hxs.2 0 f hf hL (by omega)
        have fin' := fin 0 [] rfl rfl
        clear hl fin D K hin
        go_wp2_with (first
          | (go_at_call 46; refine hlose.mono ?_; rintro e w2 ⟨rfl, S2, G2, C2, D2, K2, hS2⟩; have F4 := fun v4' => fin' _ v4' w2 S2 G2 C2 D2 K2 hS2 hcs; clear fin' D2 K2 hlose)
          | fail)
        all_goals go_step3
        · exact ⟨rfl, ⟨goal, _, _, l0, _, _, _, _, _, _, _, _, _, _, _, _, _, _, _, _, _, _, _, _, _, _, rfl, hk, HG.out, F4 _ (hl5 (by assumption))⟩, by simp [sliceLen]⟩
        · exact ⟨rfl, ⟨goal, _, _, l0, _, _, _, _, _, _, _, _, _, _, _, _, _, _, _, _, _, _, _, _, _, _, rfl, hk, HG.out, F4 _ hl4⟩, by simp [sliceLen]⟩
      | cons y cs' =>
        obtain ⟨b1, o1, c1, rfl, hc1, hx1, hl1, hl2⟩ := hcs.cons
        have hc12 : (1 : Int) ≤ (c1 : Int) := by omega
        have hc13 : ((cs'.length : Int) + 1) ≤ (c1 : Int) := by omega
        have hlose := lose_any D x hxs.2 y f hf hL (by omega)
        have fin' := fin y cs' rfl rfl
        clear hl fin D K hin hcs
        go_wp2_with (first
          | (go_at_call 46; refine hlose.mono ?_; rintro e w2 ⟨rfl, S2, G2, C2, D2, K2, hS2⟩; have F4 := fun v1' v4' => fin' v1' v4' w2 S2 G2 C2 D2 K2 hS2; clear fin' D2 K2 hlose)
          | fail)
        all_goals go_step3
        all_goals exact ⟨rfl, ⟨goal, _, _, l0, _, _, _, _, _, _, _, _, _, _, _, _, _, _, _, _, _, _, _, _, _, _, rfl, hk, HG.out, F4 _ _ (by first | exact hl2 (by assumption) | exact hl1) (by first | exact hl5 (by assumption) | exact hl4)⟩, by simp [sliceLen]⟩
end

end Go.Proofs.Ythpamcfemhimcaa
