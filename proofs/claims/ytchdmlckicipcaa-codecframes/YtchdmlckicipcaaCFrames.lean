/-
  Frames: what it hands back, and what it tells when it is ranged over.
-/
import Derived.RangeFuncNested
import Derived.RangeFuncBound
import Derived.RangeFuncCalls
import Derived.RangeFuncLeaves
import Derived.RangeFuncWrites
import Derived.Shelf.Abstract
import Derived.Shelf.RegionOpen
import Derived.WalkKit
import Derived.OwnWalkIn
import Derived.TacticsInMore
import Derived.LoopNIn
import Derived.LoopIn
import Derived.Test.YtchdmlckicipcaaLawFlips
namespace Go.Proofs.Ytchdmlckicipcaa
open Go.RowKit Go.Shelf
attribute [local go_sem] Oper.semAt_some

/-- The places of the frames from a place on. -/
inductive Tells (raw : List Int) : Nat → List Nat → Prop
  | stop (i : Nat) : unfr (raw.drop i) = none → Tells raw i []
  | go (i : Nat) (p : List Int) (l : List Nat) : unfr (raw.drop i) = some p → Tells raw (i + (8 + p.length)) l → Tells raw i (i :: l)

theorem unfr_some {raw p : List Int} (h : unfr raw = some p) : 8 + p.length ≤ raw.length := by
  unfold unfr at h
  split at h
  · cases h
  · split at h
    · cases h
    · split at h
      · simp only [Option.some.injEq] at h
        rename_i h1 h2 _
        have : p.length ≤ (valB ((raw.drop 0).take 4)).toNat := by rw [← h]; exact List.length_take_le _ _
        omega
      · cases h

theorem tells_ex (raw : List Int) : ∀ (k i : Nat), raw.length - i ≤ k → ∃ l, Tells raw i l := by
  intro k
  induction k with
  | zero =>
    intro i hi
    refine ⟨[], .stop i ?_⟩
    rw [List.drop_eq_nil_of_le (by omega)]
    rfl
  | succ k ih =>
    intro i hi
    cases h : unfr (raw.drop i) with
    | none => exact ⟨[], .stop i h⟩
    | some p =>
      have := unfr_some h
      rw [List.length_drop] at this
      obtain ⟨l, hl⟩ := ih (i + (8 + p.length)) (by omega)
      exact ⟨_, .go i p l h hl⟩

theorem tells_one {raw : List Int} {i : Nat} {l r : List Nat} (h : Tells raw i l) (k : Tells raw i r) : l = r := by
  induction h generalizing r with
  | stop i hi =>
    cases k with
    | stop => rfl
    | go _ p l hp hl => rw [hi] at hp; cases hp
  | go i p l hp hl ih =>
    cases k with
    | stop _ hi => rw [hi] at hp; cases hp
    | go _ p2 l2 hp2 hl2 =>
      rw [hp] at hp2
      cases hp2
      rw [ih hl2]

set_option maxRecDepth 100000 in
set_option maxHeartbeats 400000 in
theorem frames_any (w : World) (a : Option Addr) (m c : Nat) (raw : List Int) (B : BytesAt w a m c raw) (hm : m ≤ 1000000000) :
    Calls Try.prog 10 #[.slice a m c] w fun e w' => ∃ kb v, e = .returned (.func (.func 20) #[] #[.pointer (some ⟨kb, 0, none⟩)]) ∧ w'.cell? ⟨kb, 0, none⟩ = some v ∧ w'.ownsRow w.heap.size 5 1 v m (raw.map (Value.int .u8)) ∧ w.heap.size ≤ kb ∧ kb < w'.heap.size ∧ Kept (fun _ => False) w w' := by
  have hC := cloneB w a m c raw B (by omega)
  clear B
  go_enter Try.func10, Try.ntmps10
  go_wp2_with (first
    | (go_at_call 18; refine hC.mono ?_; rintro e w1 ⟨a1, c1, rfl, ho1, K1⟩; clear hC)
    | fail)
  go_ret
  have hs := K1.size
  exact ⟨w1.heap.size, _, rfl, (newCell w1 _ _).1, ho1.alloc _, hs, by simp, K1.and (Kept.alloc _ _ _)⟩

/-- No operation is a defer statement. -/
def plainOp (o : Oper) : Bool := match o.op with
  | .defer _ => false
  | _ => true

theorem plainOp_ne {o : Oper} (h : plainOp o = true) (c : Call) : o.op ≠ .defer c := by
  intro e
  simp [plainOp, e] at h

theorem operIn_round {F : Fence} {n : Nat} {P : Program} {o : Oper} {a : Act} {w : World} {K : Act → World → Prop} {Q : Exit → Act → World → Prop} (l : Nat) (h : plainOp o = true) (hh : o.wpIn F n P a w K Q) : o.wpIn (F.inRound l) n P a w K Q := by
  unfold Oper.wpIn at *
  rw [Oper.semAt_plain F _ _ (plainOp_ne h)] at hh
  rw [Oper.semAt_plain (F.inRound l) _ _ (plainOp_ne h)]
  exact hh

theorem wpAnyIn_round {F : Fence} {n : Nat} {P : Program} {md : Region.Mode} {ops : Array Oper} {Q : Exit → Act → World → Prop} (l : Nat) (hp : ∀ (i : Nat) o, ops[i]? = some o → plainOp o = true) : ∀ (fuel : Nat) (listed : Array Bool) (a : Act) (w : World), wpAnyIn F n P md ops Q fuel listed a w → wpAnyIn (F.inRound l) n P md ops Q fuel listed a w
  | 0, _, _, _, h => h
  | fuel + 1, listed, a, w, h => by
    refine ⟨h.1, fun i hi => ?_⟩
    have h2 := wpOpIn_mono (fun a w hh => wpAnyIn_round l hp fuel (listed.setIfInBounds i true) a w hh) (h.2 i hi)
    unfold wpOpIn at h2 ⊢
    split
    · rename_i ho
      simpa [ho] using h2
    · rename_i o ho
      simp only [ho] at h2
      split
      · rename_i hw
        simp only [hw, if_true] at h2
        exact operIn_round l (hp i o ho) h2
      · rename_i hw
        simp only [hw] at h2
        exact h2

/-- A region that draws its order, within a round: one walk of the lexical order serves every order. -/
theorem region_round {F : Fence} {n : Nat} {P : Program} {id r : Nat} {Q : Exit → Act → World → Prop} {a : Act} {w : World} {l : List Oper} (hro : F.round = none) (hm : P.follows .mixedOrders = true) (hB : Region.lexB .any l.toArray = true) (hp : l.all plainOp = true)
    (h : wpQuietIn F n P l.toArray (fun w' => ∃ n, w' = w.drewN n) (fun a' => ∀ w', (∃ n, w' = w.drewN n) → Q .normal a' w') l a) : (Code.region id l.toArray true).wpIn (F.inRound r) n P Q a w := by
  simp only [Region.lexB, Bool.and_eq_true] at hB
  refine wpIn_region_any hm (wpAnyIn_round r ?_ _ _ _ _ (wpAnyIn_of_quiet (Q := fun a' => ∀ w', (∃ n, w' = w.drewN n) → Q .normal a' w') hro (fun _ w' hw' h => h w' hw') _ _ _ _ ⟨1, rfl⟩ ?_))
  · intro i o ho
    rw [List.all_eq_true] at hp
    exact hp o (List.mem_of_getElem? (by simpa using ho))
  · have := wpAnyQIn_lex (F := F) (n := n) (C := fun w' => ∃ n, w' = w.drewN n) (md := .any) hB.1 l 0 (Array.replicate l.toArray.size false) a (by simp) (by simpa using hB.2) h
    simpa using this

/-- What a round is handed: a place, and a slice. -/
abbrev XF := Nat × Option Addr × Nat × Nat

def xfEnc (x : XF) : Array Value := #[.int .i64 (x.1 : Int), .slice x.2.1 x.2.2.1 x.2.2.2]

theorem kept_grown {w w' : World} (K : Kept (fun _ => False) w w') : w.grownBy w' none := ⟨K.os, K.tape, K.output, K.size, fun k hk _ => K.block k hk (fun h => h)⟩

/-- What a round that goes on must keep: what the frames are read from. -/
structure KpF (kb : Nat) (v : Value) (W W' : World) : Prop where
  size : W.heap.size ≤ W'.heap.size
  block : ∀ b, b = kb ∨ v.ownBlock = some b → W'.heap[b]? = W.heap[b]?

theorem KpF.trans {kb : Nat} {v : Value} {A B C : World} (h : KpF kb v A B) (k : KpF kb v B C) : KpF kb v A C := ⟨Nat.le_trans h.size k.size, fun b hb => (k.block b hb).trans (h.block b hb)⟩

set_option maxRecDepth 100000 in
set_option maxHeartbeats 1000000 in
theorem frames1_in (n : Nat) (hn : 1 ≤ n) (l kb : Nat) (v : Value) (base m : Nat) (raw : List Int) (J Jx : List XF → World → Prop) (W : World) (hJ : AbidesFrom W.heap.size J)
    (hY : ∀ pre x W1, J pre W1 → pre.length < m + 1 → YieldAt Fence.wide (n - 1) Try.prog l (xfEnc x) W1 fun e W' => (e = .returned (.bool true) ∧ J (pre ++ [x]) W' ∧ KpF kb v W1 W') ∨ (e = .returned (.bool false) ∧ Jx (pre ++ [x]) W'))
    (hk : W.cell? ⟨kb, 0, none⟩ = some v) (hrow : W.ownsRow base 5 1 v m (raw.map (Value.int .u8))) (hbs : Bs raw) (hl : raw.length = m) (hm : m ≤ 1000000000) (h0 : J [] W) :
    CallsIn Fence.wide n Try.prog 20 #[.func (.yield l) #[] #[], .pointer (some ⟨kb, 0, none⟩)] W fun e W' => (∃ v, e = .returned v) ∧ ((∃ xs : List XF, Tells raw 0 (xs.map (·.1)) ∧ J xs W') ∨ (∃ pre : List XF, (∃ r, Tells raw 0 (pre.map (·.1) ++ r)) ∧ Jx pre W')) := by
  have hU : ∀ (W' : World) (a : Option Addr) (k c : Nat) (b : List Int), BytesAt W' a k c b → k ≤ 1000000000 → _ := fun W' a k c b B hb => unframe_any W' a k c b B (by omega)
  have HU : Hid _ := hU
  clear hU
  refine callsIn_of_wp Try.func20 rfl trivial ?_ rfl
  simp only [Try.ntmps20, List.size_toArray, List.length_cons, List.length_nil, Nat.reduceAdd, Nat.reduceSub, Array.replicate_succ, Array.replicate_zero, List.push_toArray, List.append_toArray, List.nil_append, List.cons_append]
  gi_wp2
  gi_loopw [3] (fun p wr => ∃ (pre : List XF) (i : Nat), p = .int .i64 i ∧ i ≤ m ∧ pre.length ≤ i ∧ (∀ r, Tells raw i r → Tells raw 0 (pre.map (·.1) ++ r)) ∧ J pre wr ∧ wr.cell? ⟨kb, 0, none⟩ = some v ∧ wr.ownsRow base 5 1 v m (raw.map (Value.int .u8)) ∧ W.heap.size ≤ wr.heap.size)
    (fun p _ => m - (Go.RowKit.intOf p).toNat)
  case atStart => exact ⟨[], 0, rfl, Nat.zero_le _, Nat.zero_le _, fun r h => h, h0, hk, hrow, Nat.le_refl _⟩
  case round =>
    clear h0 hk hrow
    obtain ⟨pre, i, rfl, hi, hpl, hpre, hJs, hk, hrow, hws⟩ := hrel
    have stopHere : ∀ w1, Kept (fun _ => False) wr w1 → unfr (raw.drop i) = none → ∃ xs : List XF, Tells raw 0 (xs.map (·.1)) ∧ J xs w1 := fun w1 K1 hx => by
      refine ⟨pre, ?_, hJ pre wr w1 none hJs (kept_grown K1) (fun r e => by cases e)⟩
      have := hpre [] (.stop i hx)
      rwa [List.append_nil] at this
    have HS : Hid _ := stopHere
    clear stopHere
    rcases hrow.2 with ⟨rfl, rfl⟩ | ⟨g, cap, cur, rfl, hbg, hgb, hc1, hc2, hc3, hc4⟩
    · obtain rfl : i = 0 := by omega
      obtain rfl : raw = [] := List.eq_nil_of_length_eq_zero hl
      have hU := HU.out wr none 0 0 [] ⟨rfl, Nat.le_refl _, fun _ => rfl, fun ad e => (by cases e), fun y hy => (by cases hy)⟩ (by omega)
      gi_wp2_with (first
        | (refine ⟨trivial, ?_⟩; gi_at_call 7; refine (callsIn_wide.2 hU).mono ?_; rintro e w1 ⟨hp, K1⟩; obtain rfl := hp; clear hU)
        | fail)
      refine ⟨fun _ h => (by cases h), ?_⟩
      gi_wp2
      refine bodyPost_ret (results_none rfl _ _ _) rfl ?_
      exact ⟨⟨_, rfl⟩, .inl (HS.out w1 K1 rfl)⟩
    · have B : BytesAt wr (some ⟨g, 0, none⟩) m cap raw := by
        have h := hrow
        rw [← hl] at h
        have := BytesAt.ofRow h hbs
        rwa [hl] at this
      have hcap := B.cap
      have e1 : (raw.drop i).take (m - i) = raw.drop i := List.take_of_length_le (by rw [List.length_drop]; omega)
      have hlen2 : (raw.drop i).length = m - i := by rw [List.length_drop]; omega
      by_cases hci : cap = i
      · subst hci
        obtain rfl : cap = m := by omega
        have hnil : raw.drop cap = [] := List.drop_eq_nil_of_le (by omega)
        rw [hnil] at HS
        have hU := HU.out wr (some ⟨g, 0, none⟩) 0 0 [] ⟨rfl, Nat.le_refl _, fun _ => rfl, fun ad _ j u hu => (by simp at hu), fun y hy => (by cases hy)⟩ (by omega)
        clear hrow B
        gi_wp2_with (first
          | (refine ⟨trivial, ?_⟩; gi_at_call 7; refine (callsIn_wide.2 hU).mono ?_; rintro e w1 ⟨hp, K1⟩; obtain rfl := hp; clear hU)
          | fail)
        all_goals
          refine ⟨fun _ h => (by cases h), ?_⟩
          gi_wp2
          refine bodyPost_ret (results_none rfl _ _ _) rfl ?_
          exact ⟨⟨_, rfl⟩, .inl (HS.out w1 K1 rfl)⟩
      · have P := B.piece (i := i) (k := m - i) (by omega) ⟨g, 0 + i, none⟩ (.inl rfl) (cap - i) (by omega)
        rw [e1, Nat.zero_add] at P
        have hU := HU.out wr _ _ _ _ P (by omega)
        have g1 : i ≤ m := hi
        have g2 : (i : Int) ≤ (m : Int) := by omega
        have g3 : (0 : Int) ≤ (i : Int) := by omega
        have g4 : (i : Int) ≤ (cap : Int) := by omega
        have g5 : (m : Int) ≤ (cap : Int) := by omega
        have Hrow : Hid (wr.ownsRow base 5 1 (.slice (some ⟨g, 0, none⟩) m cap) m (raw.map (Value.int .u8))) := hrow
        clear hrow B P e1
        cases hx : unfr (raw.drop i) with
        | none =>
          rw [hx] at hU
          gi_wp2_with (first
            | (refine ⟨trivial, ?_⟩; gi_at_call 7; refine (callsIn_wide.2 hU).mono ?_; rintro e w1 ⟨hp, K1⟩; obtain rfl := hp; clear hU)
            | fail)
          all_goals
            refine ⟨fun _ h => (by cases h), ?_⟩
            gi_wp2
            refine bodyPost_ret (results_none rfl _ _ _) rfl ?_
            exact ⟨⟨_, rfl⟩, .inl (HS.out w1 K1 hx)⟩
        | some p =>
          rw [hx] at hU
          have hps := unfr_some hx
          rw [hlen2] at hps
          have HY : Hid _ := hY
          gi_wp2_with (first
            | (refine ⟨trivial, ?_⟩; gi_at_call 7; refine (callsIn_wide.2 hU).mono ?_; rintro e w1 ⟨hp, K1⟩; obtain ⟨a1, c1, rfl, ho1⟩ := hp; obtain ⟨fn, tmps, assign, body, hy, hR⟩ := HY.out pre (i, a1, p.length, c1) w1 (hJ pre wr w1 none hJs (kept_grown K1) (fun r e => by cases e)) (by omega); dsimp only [xfEnc] at hy; clear hU)
            | fail)
          have hnext : ∀ r, Tells raw (i + (8 + p.length)) r → Tells raw 0 ((pre ++ [((i, a1, p.length, c1) : XF)]).map (·.1) ++ r) := fun r h => by
            have := hpre (i :: r) (.go i p r hx h)
            rw [List.map_append, List.append_assoc]
            exact this
          have HN : Hid _ := hnext
          have hw1 := K1.size
          clear hnext hY
          refine hR.mono ?_
          rintro e W3 (⟨rfl, hJ3, hk3⟩ | ⟨rfl, hJx3⟩)
          · have hkc : W3.cell? ⟨kb, 0, none⟩ = some (.slice (some ⟨g, 0, none⟩) m cap) := (World.cell?_of_block (hk3.block kb (.inl rfl))).trans (cell_keep K1 hk (fun h => h)).1
            have hrow3 : Hid (W3.ownsRow base 5 1 (.slice (some ⟨g, 0, none⟩) m cap) m (raw.map (Value.int .u8))) := ownsRow_block' Hrow.out (fun k hk => (hk3.block k (.inr hk)).trans (K1.block k (Hrow.out.lt k hk).2 (fun h => h)))
            have hsz3 := hk3.size
            gi_wp2
            go_roundw
            case rel => exact ⟨pre ++ [(i, a1, p.length, c1)], i + (8 + p.length), by simp, by omega, by simp; omega, HN.out, hJ3, hkc, hrow3.out, by omega⟩
            case measure => simp [Go.RowKit.intOf]; omega
          · gi_wp2
            refine bodyPost_ret (results_none rfl _ _ _) rfl ?_
            obtain ⟨r, hr⟩ := tells_ex raw raw.length (i + (8 + p.length)) (by omega)
            exact ⟨⟨_, rfl⟩, .inr ⟨pre ++ [(i, a1, p.length, c1)], ⟨r, HN.out r hr⟩, hJx3⟩⟩

/-- The contract of what Frames hands back. -/
theorem frames_stops (n : Nat) (hn : 1 ≤ n) (kb : Nat) (v : Value) (base m : Nat) (raw : List Int) (w0 : World) (hk : w0.cell? ⟨kb, 0, none⟩ = some v) (hrow : w0.ownsRow base 5 1 v m (raw.map (Value.int .u8))) (hbs : Bs raw) (hl : raw.length = m) (hm : m ≤ 1000000000) :
    SeqStopsK Fence.wide n Try.prog 20 #[.pointer (some ⟨kb, 0, none⟩)] xfEnc (KpF kb v) (fun xs => Tells raw 0 (xs.map (·.1))) (fun pre => ∃ r, Tells raw 0 (pre.map (·.1) ++ r)) (m + 1) w0 := by
  intro l J Jx W hW hJ _ hY h0
  have hkb : kb < w0.heap.size := World.block_lt_of_cell? w0 ⟨kb, 0, none⟩ hk
  exact frames1_in n hn l kb v base m raw J Jx W hJ hY ((hW.cell (p := ⟨kb, 0, none⟩) hkb).trans hk) (ownsRow_block' hrow (fun k hk => hW.block k (hrow.lt k hk).2)) hbs hl hm h0

end Go.Proofs.Ytchdmlckicipcaa
