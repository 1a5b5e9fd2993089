/-
  What Frames hands back, ranged over by rounds that are told the payloads.
-/
import Derived.Test.YtchdmlckicipcaaCTold
namespace Go.Proofs.Ytchdmlckicipcaa
open Go.RowKit Go.Shelf
attribute [local go_sem] Oper.semAt_some

abbrev XP := Nat × List Int

/-- The places and payloads of the frames from a place on. -/
inductive TellsP (raw : List Int) : Nat → List XP → Prop
  | stop (i : Nat) : unfr (raw.drop i) = none → TellsP raw i []
  | go (i : Nat) (p : List Int) (l : List XP) : unfr (raw.drop i) = some p → TellsP raw (i + (8 + p.length)) l → TellsP raw i ((i, p) :: l)

theorem tellsP_ex (raw : List Int) : ∀ (k i : Nat), raw.length - i ≤ k → ∃ l, TellsP raw i l := by
  intro k
  induction k with
  | zero =>
    intro i hi
    refine ⟨[], .stop i ?_⟩
    rw [List.drop_eq_nil_of_le (by omega)]
    rfl
  | succ k ih =>
    intro i hi
    cases h : unfr (raw.drop i) with
    | none => exact ⟨[], .stop i h⟩
    | some p =>
      have := unfr_some h
      rw [List.length_drop] at this
      obtain ⟨l, hl⟩ := ih (i + (8 + p.length)) (by omega)
      exact ⟨_, .go i p l h hl⟩

theorem tellsP_one {raw : List Int} {i : Nat} {l r : List XP} (h : TellsP raw i l) (k : TellsP raw i r) : l = r := by
  induction h generalizing r with
  | stop i hi =>
    cases k with
    | stop => rfl
    | go _ p l hp hl => rw [hi] at hp; cases hp
  | go i p l hp hl ih =>
    cases k with
    | stop _ hi => rw [hi] at hp; cases hp
    | go _ p2 l2 hp2 hl2 =>
      rw [hp] at hp2
      cases hp2
      rw [ih hl2]

theorem unfr_bs {raw p : List Int} (h : unfr raw = some p) (hb : Bs raw) : Bs p := by
  unfold unfr at h
  split at h
  · cases h
  · split at h
    · cases h
    · split at h
      · simp only [Option.some.injEq] at h
        rw [← h]
        exact Bs.take (Bs.drop hb _) _
      · cases h

/-- What is told is as long as it says. -/
theorem tellsP_len {raw : List Int} {i : Nat} {l : List XP} (h : TellsP raw i l) (hi : i ≤ raw.length) : l.length * 8 + i ≤ raw.length := by
  induction h with
  | stop i _ => simp; omega
  | go i p l hp _ ih =>
    have := unfr_some hp
    rw [List.length_drop] at this
    have := ih (by omega)
    simp only [List.length_cons]
    omega

set_option maxRecDepth 100000 in
set_option maxHeartbeats 1000000 in
theorem framesT_in (n : Nat) (hn : 1 ≤ n) (l kb : Nat) (v : Value) (base m : Nat) (raw : List Int) (J : List XP → World → Prop) (Jx : World → Prop) (W : World) (hJ : ∀ pre A B, J pre A → Kept (fun _ => False) A B → J pre B)
    (hY : ∀ (pre : List XP) (i : Nat) (p : List Int) (a : Option Addr) (c : Nat) (W1 : World), J pre W1 → (∃ r, TellsP raw 0 (pre ++ (i, p) :: r)) → BytesAt W1 a p.length c p → YieldAt Fence.wide (n - 1) Try.prog l #[.int .i64 (i : Int), .slice a p.length c] W1 fun e W' => (e = .returned (.bool true) ∧ J (pre ++ [(i, p)]) W' ∧ KpF kb v W1 W') ∨ (e = .returned (.bool false) ∧ Jx W'))
    (hk : W.cell? ⟨kb, 0, none⟩ = some v) (hrow : W.ownsRow base 5 1 v m (raw.map (Value.int .u8))) (hbs : Bs raw) (hl : raw.length = m) (hm : m ≤ 1000000000) (h0 : J [] W) :
    CallsIn Fence.wide n Try.prog 20 #[.func (.yield l) #[] #[], .pointer (some ⟨kb, 0, none⟩)] W fun e W' => (∃ v, e = .returned v) ∧ ((∃ xs : List XP, TellsP raw 0 xs ∧ J xs W') ∨ Jx W') := by
  have hU : ∀ (W' : World) (a : Option Addr) (k c : Nat) (b : List Int), BytesAt W' a k c b → k ≤ 1000000000 → _ := fun W' a k c b B hb => unframe_any W' a k c b B (by omega)
  have HU : Hid _ := hU
  clear hU
  refine callsIn_of_wp Try.func20 rfl trivial ?_ rfl
  simp only [Try.ntmps20, List.size_toArray, List.length_cons, List.length_nil, Nat.reduceAdd, Nat.reduceSub, Array.replicate_succ, Array.replicate_zero, List.push_toArray, List.append_toArray, List.nil_append, List.cons_append]
  gi_wp2
  gi_loopw [3] (fun p wr => ∃ (pre : List XP) (i : Nat), p = .int .i64 i ∧ i ≤ m ∧ pre.length ≤ i ∧ (∀ r, TellsP raw i r → TellsP raw 0 (pre ++ r)) ∧ J pre wr ∧ wr.cell? ⟨kb, 0, none⟩ = some v ∧ wr.ownsRow base 5 1 v m (raw.map (Value.int .u8)) ∧ W.heap.size ≤ wr.heap.size)
    (fun p _ => m - (Go.RowKit.intOf p).toNat)
  case atStart => exact ⟨[], 0, rfl, Nat.zero_le _, Nat.zero_le _, fun r h => h, h0, hk, hrow, Nat.le_refl _⟩
  case round =>
    clear h0 hk hrow
    obtain ⟨pre, i, rfl, hi, hpl, hpre, hJs, hk, hrow, hws⟩ := hrel
    have stopHere : ∀ w1, Kept (fun _ => False) wr w1 → unfr (raw.drop i) = none → ∃ xs : List XP, TellsP raw 0 xs ∧ J xs w1 := fun w1 K1 hx => by
      refine ⟨pre, ?_, hJ pre wr w1 hJs K1⟩
      have := hpre [] (.stop i hx)
      rwa [List.append_nil] at this
    have HS : Hid _ := stopHere
    clear stopHere
    rcases hrow.2 with ⟨rfl, rfl⟩ | ⟨g, cap, cur, rfl, hbg, hgb, hc1, hc2, hc3, hc4⟩
    · obtain rfl : i = 0 := by omega
      obtain rfl : raw = [] := List.eq_nil_of_length_eq_zero hl
      have hU := HU.out wr none 0 0 [] ⟨rfl, Nat.le_refl _, fun _ => rfl, fun ad e => (by cases e), fun y hy => (by cases hy)⟩ (by omega)
      gi_wp2_with (first
        | (refine ⟨trivial, ?_⟩; gi_at_call 7; refine (callsIn_wide.2 hU).mono ?_; rintro e w1 ⟨hp, K1⟩; obtain rfl := hp; clear hU)
        | fail)
      refine ⟨fun _ h => (by cases h), ?_⟩
      gi_wp2
      refine bodyPost_ret (results_none rfl _ _ _) rfl ?_
      exact ⟨⟨_, rfl⟩, .inl (HS.out w1 K1 rfl)⟩
    · have B : BytesAt wr (some ⟨g, 0, none⟩) m cap raw := by
        have h := hrow
        rw [← hl] at h
        have := BytesAt.ofRow h hbs
        rwa [hl] at this
      have hcap := B.cap
      have e1 : (raw.drop i).take (m - i) = raw.drop i := List.take_of_length_le (by rw [List.length_drop]; omega)
      have hlen2 : (raw.drop i).length = m - i := by rw [List.length_drop]; omega
      by_cases hci : cap = i
      · subst hci
        obtain rfl : cap = m := by omega
        have hnil : raw.drop cap = [] := List.drop_eq_nil_of_le (by omega)
        rw [hnil] at HS
        have hU := HU.out wr (some ⟨g, 0, none⟩) 0 0 [] ⟨rfl, Nat.le_refl _, fun _ => rfl, fun ad _ j u hu => (by simp at hu), fun y hy => (by cases hy)⟩ (by omega)
        clear hrow B
        gi_wp2_with (first
          | (refine ⟨trivial, ?_⟩; gi_at_call 7; refine (callsIn_wide.2 hU).mono ?_; rintro e w1 ⟨hp, K1⟩; obtain rfl := hp; clear hU)
          | fail)
        all_goals
          refine ⟨fun _ h => (by cases h), ?_⟩
          gi_wp2
          refine bodyPost_ret (results_none rfl _ _ _) rfl ?_
          exact ⟨⟨_, rfl⟩, .inl (HS.out w1 K1 rfl)⟩
      · have P := B.piece (i := i) (k := m - i) (by omega) ⟨g, 0 + i, none⟩ (.inl rfl) (cap - i) (by omega)
        rw [e1, Nat.zero_add] at P
        have hU := HU.out wr _ _ _ _ P (by omega)
        have g1 : i ≤ m := hi
        have g2 : (i : Int) ≤ (m : Int) := by omega
        have g3 : (0 : Int) ≤ (i : Int) := by omega
        have g4 : (i : Int) ≤ (cap : Int) := by omega
        have g5 : (m : Int) ≤ (cap : Int) := by omega
        have Hrow : Hid (wr.ownsRow base 5 1 (.slice (some ⟨g, 0, none⟩) m cap) m (raw.map (Value.int .u8))) := hrow
        clear hrow B P e1
        cases hx : unfr (raw.drop i) with
        | none =>
          rw [hx] at hU
          gi_wp2_with (first
            | (refine ⟨trivial, ?_⟩; gi_at_call 7; refine (callsIn_wide.2 hU).mono ?_; rintro e w1 ⟨hp, K1⟩; obtain rfl := hp; clear hU)
            | fail)
          all_goals
            refine ⟨fun _ h => (by cases h), ?_⟩
            gi_wp2
            refine bodyPost_ret (results_none rfl _ _ _) rfl ?_
            exact ⟨⟨_, rfl⟩, .inl (HS.out w1 K1 hx)⟩
        | some p =>
          rw [hx] at hU
          have hps := unfr_some hx
          rw [hlen2] at hps
          have hpb : Bs p := unfr_bs hx (Bs.drop hbs i)
          have hnext : ∀ r, TellsP raw (i + (8 + p.length)) r → TellsP raw 0 (pre ++ (i, p) :: r) := fun r h => hpre ((i, p) :: r) (.go i p r hx h)
          obtain ⟨r0, hr0⟩ := tellsP_ex raw raw.length (i + (8 + p.length)) (by omega)
          have hy0 : ∀ (w1 : World) (a1 : Option Addr) (c1 : Nat), Kept (fun _ => False) wr w1 → w1.ownsRow wr.heap.size 5 1 (.slice a1 p.length c1) p.length (p.map (Value.int .u8)) → _ := fun w1 a1 c1 K1 ho => hY pre i p a1 c1 w1 (hJ pre wr w1 hJs K1) ⟨r0, hnext r0 hr0⟩ (BytesAt.ofRow ho hpb)
          have HY : Hid _ := hy0
          have HN : Hid _ := hnext
          clear hY hy0 hnext hr0
          gi_wp2_with (first
            | (refine ⟨trivial, ?_⟩; gi_at_call 7; refine (callsIn_wide.2 hU).mono ?_; rintro e w1 ⟨hp, K1⟩; obtain ⟨a1, c1, rfl, ho1⟩ := hp; obtain ⟨fn, tmps, assign, body, hy, hR⟩ := HY.out w1 a1 c1 K1 ho1; clear hU)
            | fail)
          have hw1 := K1.size
          refine hR.mono ?_
          rintro e W3 (⟨rfl, hJ3, hk3⟩ | ⟨rfl, hJx3⟩)
          · have hkc : W3.cell? ⟨kb, 0, none⟩ = some (.slice (some ⟨g, 0, none⟩) m cap) := (World.cell?_of_block (hk3.block kb (.inl rfl))).trans (cell_keep K1 hk (fun h => h)).1
            have hrow3 : Hid (W3.ownsRow base 5 1 (.slice (some ⟨g, 0, none⟩) m cap) m (raw.map (Value.int .u8))) := ownsRow_block' Hrow.out (fun k hk => (hk3.block k (.inr hk)).trans (K1.block k (Hrow.out.lt k hk).2 (fun h => h)))
            have hsz3 := hk3.size
            gi_wp2
            go_roundw
            case rel => exact ⟨pre ++ [(i, p)], i + (8 + p.length), by simp, by omega, by simp; omega, fun r h => by rw [List.append_assoc]; exact HN.out r h, hJ3, hkc, hrow3.out, by omega⟩
            case measure => simp [Go.RowKit.intOf]; omega
          · gi_wp2
            refine bodyPost_ret (results_none rfl _ _ _) rfl ?_
            exact ⟨⟨_, rfl⟩, .inr hJx3⟩

end Go.Proofs.Ytchdmlckicipcaa
