/-
  waits: for how many each node waits, and who waits for it.
-/
import Derived.Test.YtfjekjbkifmpfaaDoorG01
import Derived.ScopeJumps
namespace Go.Proofs.YtfjekjbkifmpfaaDoor
open Go.RowKit

/-- What waits counts, when the first i nodes were gone through. -/
def openF (ns : List Nd) (i x : Nat) : Value := .int .i64 (if x < i then (match ns[x]? with | some n => (n.after.length : Int) | none => 0) else 0)

theorem openF_next {ns : List Nd} {i : Nat} (hi : i < ns.length) (q : Nat) : (if q = i then Value.int .i64 ((ns[i]).after.length : Int) else openF ns i q) = openF ns (i + 1) q := by
  unfold openF
  by_cases e : q = i
  · subst e
    rw [if_pos rfl, if_pos (Nat.lt_succ_self _), List.getElem?_eq_getElem hi]
  · rw [if_neg e]
    by_cases h : q < i
    · rw [if_pos h, if_pos (by omega)]
    · rw [if_neg h, if_neg (by omega)]

end Go.Proofs.YtfjekjbkifmpfaaDoor

/-
  Order: the nodes, each behind those ahead of it.
-/
namespace Go.Proofs.YtfjekjbkifmpfaaDoor
open Go.RowKit

theorem jump_weaken {l : Nat} {J J' : Act → World → Prop} {Q : Exit → Act → World → Prop} (h : ∀ a w, J a w → J' a w) : ∀ e a w, Exit.jump l J Q e a w → Exit.jump l J' Q e a w := by
  intro e a w hj
  cases e <;> simp only [Exit.jump] at hj ⊢ <;> first | exact hj | exact ⟨hj.1, h _ _ hj.2⟩

/-- A scope whose code jumps back to one label: one walk of what lies behind the label serves both the first coming and each jump. -/
theorem wp_scope_loop {P : Program} {a : Act} {w : World} {Q : Exit → Act → World → Prop} {c y : Code} (l : Nat) (J : Act → World → Prop) (μ : Act → World → Nat) (hf : findLabel c l = some (Code.skip.seq y))
    (pass : ∀ a w, J a w → y.wp P (Exit.jump l (fun a' w' => J a' w' ∧ μ a' w' < μ a w) Q) a w)
    (first : (∀ a w, J a w → y.wp P (Exit.jump l J Q) a w) → c.wp P (Exit.jump l J Q) a w) : (Code.scope c).wp P Q a w :=
  wp_scope_jumps l J μ hf (first fun a w h => Code.wp_mono (jump_weaken fun _ _ h => h.1) (pass a w h)) (fun a w h => wp_seq (wp_skip (pass a w h)))

theorem getD_set {fo : List Int} {x : Nat} (hx : x < fo.length) (z : Int) (j : Nat) : (fo.set x z).getD j 0 = if j = x then z else fo.getD j 0 := by
  rw [List.getD_eq_getElem?_getD, List.getD_eq_getElem?_getD, List.getElem?_set]
  by_cases e : x = j
  · subst e; simp [hx]
  · have : ¬ j = x := fun h => e h.symm
    simp [e, this]

theorem getD_at {fo : List Int} {x : Nat} (hx : x < fo.length) : fo.getD x 0 = fo[x] := by
  rw [List.getD_eq_getElem?_getD, List.getElem?_eq_getElem hx]; rfl

theorem open_may {ns : List Nd} {T : List Nat} {fo : List Int} (O : OpenIs ns T fo) {i : Nat} (hi : i < ns.length) : (fo.getD i 0 = 0) ↔ mayB ns T i = true := by
  rw [getD_at (by rw [O.1]; exact hi)]
  exact openIs_may O hi

theorem open_step {ns : List Nd} {T : List Nat} {i p : Nat} {fo : List Int} (hs : ∀ n ∈ ns, n.after.length ≤ 1000000) (R : Runs ns T) (hm : mayB ns T i = true) (O : OpenAt ns T i p fo) (hp : p < (bhL ns i ns.length).length) :
    (bhL ns i ns.length)[p] < ns.length ∧ 1 ≤ fo.getD (bhL ns i ns.length)[p] 0 ∧ fo.getD (bhL ns i ns.length)[p] 0 ≤ 1000000 ∧ OpenAt ns T i (p + 1) (fo.set (bhL ns i ns.length)[p] (fo.getD (bhL ns i ns.length)[p] 0 - 1)) := by
  obtain ⟨h, h1, h2⟩ := openAt_step R hm O hp
  have hx : (bhL ns i ns.length)[p] ∈ bhL ns i ns.length := List.getElem_mem hp
  obtain ⟨hT, n, hn, hc⟩ := bh_free R hm hx
  have hv := O.2 _ n hn
  rw [if_neg hT, List.getElem?_eq_getElem h] at hv
  have hv2 := Option.some.inj hv
  have hle := need_le ns T n
  have hfew := hs n (List.mem_of_getElem? hn)
  rw [getD_at h]
  exact ⟨bh_lt hx, h1, by rw [hv2]; omega, h2⟩

/-- Where the order stands between two rounds. -/
structure OrdSt (w1 : World) (ns : List Nd) (ob : Nat) (wr : World) (T : List Nat) (fo : List Int) (v6 : Value) : Prop where
  row : wr.rowIs ob 3 ns.length (fun x => .int .i64 (fo.getD x 0))
  ord : wr.ownsRow w1.heap.size 3 1 v6 T.length (natsV T)
  kept : Kept (fun j => j = ob ∨ w1.heap.size ≤ j) w1 wr
  run : Runs ns T
  opn : OpenIs ns T fo

/-- What waits has laid. -/
structure OrdFix (w w1 : World) (name : ByteArray) (a : Option Addr) (c : Nat) (ns : List Nd) (ob : Nat) (vs : Nat → Value) : Prop where
  lo : w.heap.size + 1 ≤ ob
  hi : ob + 1 < w1.heap.size
  beh : BehAt w1 (ob + 2) (fun g => ob + 2 ≤ g ∧ g < w1.heap.size) (ob + 1) ns.length (fun j => bhL ns j ns.length) vs
  kept : Kept (fun _ => False) (w.alloc (.cells #[.string name, .slice a ns.length c] 24)) w1

def ordJ (w w1 : World) (name : ByteArray) (a : Option Addr) (c : Nat) (ns : List Nd) (ob : Nat) (a' : Act) (w' : World) : Prop :=
  ∃ (T : List Nat) (fo : List Int) (a6 : Option Addr) (c6 fr : Nat) (u : Nat → Value),
    a' = { tmps := #[.agg #[.string name, .slice a ns.length c], .pointer (some ⟨w.heap.size, 0, none⟩), .slice none 0 0, .bool false, .slice (some ⟨ob, 0, none⟩) ns.length ns.length, .slice (some ⟨ob + 1, 0, none⟩) ns.length ns.length, .slice a6 T.length c6, .int .i64 (fr : Nat), u 8, u 9, u 10, u 11, u 12, u 13, u 14, u 15, u 16, u 17, u 18, u 19, u 20, u 21, u 22, u 23, u 24, u 25, u 26, u 27, u 28, u 29, u 30, u 31, u 32, u 33, u 34, u 35, u 36, u 37, u 38, u 39, u 40, u 41, u 42, u 43, u 44, u 45, u 46, u 47, u 48, u 49, u 50, u 51, u 52, u 53, u 54, u 55, u 56, u 57, u 58, u 59, u 60, u 61, u 62, u 63, u 64, u 65, u 66, u 67, u 68, u 69], defers := [] } ∧
      OrdSt w1 ns ob w' T fo (.slice a6 T.length c6) ∧ fr ≤ ns.length ∧ ∀ y, y < fr → mayB ns T y = false

theorem ordJ_of {w w1 w' : World} {name : ByteArray} {a a6 : Option Addr} {c ob c6 fr : Nat} {ns : List Nd} {a' : Act} {T : List Nat} {fo : List Int}
    (h : a' = { tmps := #[.agg #[.string name, .slice a ns.length c], .pointer (some ⟨w.heap.size, 0, none⟩), .slice none 0 0, .bool false, .slice (some ⟨ob, 0, none⟩) ns.length ns.length, .slice (some ⟨ob + 1, 0, none⟩) ns.length ns.length, .slice a6 T.length c6, .int .i64 (fr : Nat), a'.tmps.getD 8 undef, a'.tmps.getD 9 undef, a'.tmps.getD 10 undef, a'.tmps.getD 11 undef, a'.tmps.getD 12 undef, a'.tmps.getD 13 undef, a'.tmps.getD 14 undef, a'.tmps.getD 15 undef, a'.tmps.getD 16 undef, a'.tmps.getD 17 undef, a'.tmps.getD 18 undef, a'.tmps.getD 19 undef, a'.tmps.getD 20 undef, a'.tmps.getD 21 undef, a'.tmps.getD 22 undef, a'.tmps.getD 23 undef, a'.tmps.getD 24 undef, a'.tmps.getD 25 undef, a'.tmps.getD 26 undef, a'.tmps.getD 27 undef, a'.tmps.getD 28 undef, a'.tmps.getD 29 undef, a'.tmps.getD 30 undef, a'.tmps.getD 31 undef, a'.tmps.getD 32 undef, a'.tmps.getD 33 undef, a'.tmps.getD 34 undef, a'.tmps.getD 35 undef, a'.tmps.getD 36 undef, a'.tmps.getD 37 undef, a'.tmps.getD 38 undef, a'.tmps.getD 39 undef, a'.tmps.getD 40 undef, a'.tmps.getD 41 undef, a'.tmps.getD 42 undef, a'.tmps.getD 43 undef, a'.tmps.getD 44 undef, a'.tmps.getD 45 undef, a'.tmps.getD 46 undef, a'.tmps.getD 47 undef, a'.tmps.getD 48 undef, a'.tmps.getD 49 undef, a'.tmps.getD 50 undef, a'.tmps.getD 51 undef, a'.tmps.getD 52 undef, a'.tmps.getD 53 undef, a'.tmps.getD 54 undef, a'.tmps.getD 55 undef, a'.tmps.getD 56 undef, a'.tmps.getD 57 undef, a'.tmps.getD 58 undef, a'.tmps.getD 59 undef, a'.tmps.getD 60 undef, a'.tmps.getD 61 undef, a'.tmps.getD 62 undef, a'.tmps.getD 63 undef, a'.tmps.getD 64 undef, a'.tmps.getD 65 undef, a'.tmps.getD 66 undef, a'.tmps.getD 67 undef, a'.tmps.getD 68 undef, a'.tmps.getD 69 undef], defers := [] })
    (O : OrdSt w1 ns ob w' T fo (.slice a6 T.length c6)) (hfr : fr ≤ ns.length) (hl : ∀ y, y < fr → mayB ns T y = false) : ordJ w w1 name a c ns ob a' w' :=
  ⟨T, fo, a6, c6, fr, fun i => a'.tmps.getD i undef, h, O, hfr, hl⟩

def sliceLen : Value → Nat
  | .slice _ m _ => m
  | _ => 0

theorem ordSt_start {w1 : World} {ns : List Nd} {ob : Nat} (R : w1.rowIs ob 3 ns.length (openF ns ns.length)) : OrdSt w1 ns ob w1 [] (ns.map (fun n => (n.after.length : Int))) (.slice none 0 0) := by
  refine ⟨R.congr (fun i hi => ?_), World.ownsRow_nil _ _ _ _, Kept.refl _ _, Runs.zero ns, by simp, fun x n hn => ?_⟩
  · unfold openF
    rw [if_pos hi, List.getElem?_eq_getElem hi, List.getD_eq_getElem?_getD, List.getElem?_map, List.getElem?_eq_getElem hi]
    rfl
  · rw [List.getElem?_map, hn, need_nil]
    simp

end Go.Proofs.YtfjekjbkifmpfaaDoor

/-
  Check: what is wrong with a definition.
-/
namespace Go.Proofs.YtfjekjbkifmpfaaDoor
open Go.RowKit

theorem firstE_mono {f : Nat → Int} {k : Nat} {x : Nat × Int} (h : firstE f k = some x) : ∀ {n}, k ≤ n → firstE f n = some x := by
  intro n hn
  induction n with
  | zero => obtain rfl : k = 0 := by omega
            exact h
  | succ n ih =>
    by_cases e : k = n + 1
    · subst e; exact h
    · rw [firstE, ih (by omega)]

theorem firstE_hit {f : Nat → Int} {k n : Nat} (h : firstE f k = none) (hk : k < n) (hf : f k ≠ 0) : firstE f n = some (k, f k) :=
  firstE_mono (k := k + 1) (by rw [firstE, h]; simp [hf]) (by omega)

theorem firstE_next {f : Nat → Int} {k : Nat} (h : firstE f k = none) (hf : f k = 0) : firstE f (k + 1) = none := by
  rw [firstE, h]; simp [hf]

/-- What is wrong with node i by itself; with its After. -/
def nodeAt (ns : List Nd) (i : Nat) : Int := match ns[i]? with | some n => nodeE ns i n | none => 0
def aftAt (ns : List Nd) (i : Nat) : Int := match ns[i]? with | some n => afterE ns n | none => 0

theorem checkP_eq (name : ByteArray) (ns : List Nd) : checkP name ns =
    if nameP name = false then ((-1 : Int), (17 : Int))
    else if ns.length < 1 ∨ 32 < ns.length then ((-1 : Int), (10 : Int))
    else match firstE (nodeAt ns) ns.length with
      | some (i, e) => ((i : Int), e)
      | none => match firstE (aftAt ns) ns.length with
        | some (i, e) => ((i : Int), e)
        | none => if (ordP ns).length = ns.length then ((-1 : Int), (0 : Int)) else ((-1 : Int), (15 : Int)) := rfl

end Go.Proofs.YtfjekjbkifmpfaaDoor

/-
  ReadyNodes: the nodes that may begin.
-/
namespace Go.Proofs.YtfjekjbkifmpfaaDoor
open Go.RowKit

set_option maxRecDepth 100000 in
set_option maxHeartbeats 1000000 in
theorem marked_any (w : World) (a : Option Addr) (c : Nat) (l : List Bool) (hm : l.length ≤ 1000000) (h : CellsAt w a (l.map Value.bool)) (i : Nat) :
    Calls Tryd.prog 104 #[.slice a l.length c, .int .i64 i] w fun e w' => e = .returned (.bool (l.getD i false)) ∧ w' = w := by
  by_cases hlt : i < l.length
  · have e0 : (i : Int) < (l.length : Int) := by omega
    have hx : ∃ b o, a = some ⟨b, o, none⟩ ∧ w.cell? ⟨b, o + i, none⟩ = some (.bool l[i]) := by
      rcases h with h | ⟨b, o, h, hc⟩
      · simp at h; subst h; simp at hlt
      · exact ⟨b, o, h, hc i _ (by simp [hlt])⟩
    obtain ⟨b, o, rfl, x0⟩ := hx
    have hg : l.getD i false = l[i] := by simp [List.getD_eq_getElem?_getD, hlt]
    rw [hg]
    clear hg
    generalize l[i] = v at *
    clear h
    go_enter Tryd.func104, Tryd.ntmps104
    go_wp2
    go_ret
    exact ⟨rfl, rfl⟩
  · have e0 : ¬ (i : Int) < (l.length : Int) := by omega
    have hg : l.getD i false = false := by simp [List.getD_eq_getElem?_getD, Nat.le_of_not_lt hlt]
    rw [hg]
    clear hg
    clear h
    go_enter Tryd.func104, Tryd.ntmps104
    go_wp2
    go_ret
    exact ⟨rfl, rfl⟩

/-- One name of a node's After is over. -/
def oneP (ns : List Nd) (n : Nd) (l : List Bool) (s : ByteArray) : Bool := match aheadP ns n s with | some j => l.getD j false | none => false
def overP (ns : List Nd) (n : Nd) (l : List Bool) : Bool := n.after.all (oneP ns n l)

theorem over_next {ns : List Nd} {n : Nd} {l : List Bool} {k : Nat} (hk : k < n.after.length) (h : (n.after.take k).all (oneP ns n l) = true) (h1 : oneP ns n l n.after[k] = true) : (n.after.take (k + 1)).all (oneP ns n l) = true := by
  rw [List.take_add_one, List.getElem?_eq_getElem hk, Option.toList_some, List.all_append, h]
  simp [h1]

theorem over_not {ns : List Nd} {n : Nd} {l : List Bool} {k : Nat} (hk : k < n.after.length) (h1 : oneP ns n l n.after[k] = false) : overP ns n l = false := by
  unfold overP
  rw [List.all_eq_false]
  exact ⟨n.after[k], List.getElem_mem hk, by simp [h1]⟩

set_option maxRecDepth 100000 in
set_option maxHeartbeats 2000000 in
theorem allOver_any (w : World) (mb : Nat) (ns : List Nd) (T : FirstAt w mb ns) (x : Nd) (av : Option Addr) (cv : Nat) (hT : TextsAt w (.slice av x.after.length cv) x.after) (hx : x.after.length ≤ 1000000)
    (ao : Option Addr) (co : Nat) (l : List Bool) (hl : l.length ≤ 1000000) (hc : CellsAt w ao (l.map Value.bool)) :
    Calls Tryd.prog 105 #[.agg #[.string x.name, .int .i64 x.kind, .string x.arg, .string x.«to», .int .i64 x.delay, .int .i64 x.tries, .slice av x.after.length cv], .map (some mb), .slice ao l.length co] w fun e w' => e = .returned (.bool (overP ns x l)) ∧ Kept (fun _ => False) w w' := by
  have HM : Hid (∀ V, Kept (fun _ => False) w V → ∀ j : Nat, Calls Tryd.prog 104 #[.slice ao l.length co, .int .i64 j] V fun e w' => e = .returned (.bool (l.getD j false)) ∧ w' = V) := fun V K j => marked_any V ao co l hl (hc.kept K (fun _ _ h => h)) j
  have HF : Hid (FirstAt w mb ns) := T
  have HT : Hid (TextsAt w (.slice av x.after.length cv) x.after) := hT
  clear T hT hc
  go_enter Tryd.func105, Tryd.ntmps105
  go_wp2
  go_loopw [14] (fun q wr => ∃ (k : Nat), k ≤ x.after.length ∧ q = .int .i64 k ∧ Kept (fun _ => False) (w.alloc (.cells #[.string x.name, .int .i64 x.kind, .string x.arg, .string x.«to», .int .i64 x.delay, .int .i64 x.tries, .slice av x.after.length cv] 64)) wr ∧ (x.after.take k).all (oneP ns x l) = true) (fun q _ => x.after.length - (intOf q).toNat)
  case atStart => exact ⟨0, Nat.zero_le _, rfl, Kept.refl _ _, by simp⟩
  case round =>
    obtain ⟨k, hk, rfl, K, hal⟩ := hrel
    have Kw : Kept (fun _ => False) w wr := (Kept.alloc (fun _ => False) _ _).and K
    obtain ⟨n0, n1, n2, n3, n4, n5, n6⟩ := boxN K
    by_cases hlk : k < x.after.length
    · have htx := HT.out.kept Kw (fun _ _ h => h)
      obtain ⟨a2, c2, hsl, hc2, hne⟩ := htx.at
      obtain ⟨rfl, rfl⟩ : av = a2 ∧ cv = c2 := by simpa using hsl
      obtain ⟨xb, xo, rfl, hcell⟩ := hne (fun e => by rw [e] at hlk; simp at hlk)
      have hck := hcell k hlk
      have hsm : (x.after[k]).size ≤ maxLen := by
        obtain ⟨_, _, _, _, _, _, h5⟩ := htx
        exact h5 _ (List.getElem_mem hlk)
      have e1 : (k : Int) < (x.after.length : Int) := by omega
      have hah := ahead_any wr mb ns (HF.out.kept Kw (fun h => h)) x.name x.kind x.arg x.«to» x.delay x.tries x.after (some ⟨xb, xo, none⟩) x.after.length cv (x.after[k]) hsm
      change Calls Tryd.prog _ _ _ (fun e w' => e = .returned (.tuple #[_, .bool (aheadP ns x (x.after[k])).isSome]) ∧ _) at hah
      have HNx : Hid (oneP ns x l x.after[k] = true → (x.after.take (k + 1)).all (oneP ns x l) = true) := over_next hlk hal
      have HNo : Hid (oneP ns x l x.after[k] = false → overP ns x l = false) := over_not hlk
      clear hsl hcell hne htx hal
      cases hap : aheadP ns x (x.after[k]) with
      | none =>
        rw [hap] at hah
        simp only [Option.isSome_none] at hah
        have HO : Hid (overP ns x l = false) := HNo.out (by unfold oneP; rw [hap])
        generalize (findP ns (x.after[k])).getD 0 = fjj at *
        clear hap HNx HNo
        generalize x.after[k] = s at *
        go_wp2_with (first
          | (go_at_call 110; refine hah.mono ?_; rintro e w5 ⟨rfl, K5⟩; clear hah)
          | fail)
        go_ret
        exact ⟨by rw [HO.out]; rfl, Kw.and K5⟩
      | some j =>
        rw [hap] at hah
        simp only [Option.isSome_some] at hah
        have hfj : findP ns (x.after[k]) = some j := by
          unfold aheadP at hap
          split at hap
          · cases hap
          · exact hap
        rw [hfj, Option.getD_some] at hah
        have hM := fun V (K : Kept (fun _ => False) w V) => HM.out V K j
        have ho : oneP ns x l x.after[k] = l.getD j false := by unfold oneP; rw [hap]
        cases hb : l.getD j false with
        | false =>
          have HO : Hid (overP ns x l = false) := HNo.out (by rw [ho, hb])
          rw [hb] at hM
          clear hap HNx HNo ho hfj hb
          generalize x.after[k] = s at *
          go_wp2_with (first
            | (go_at_call 110; refine hah.mono ?_; rintro e w5 ⟨rfl, K5⟩; clear hah)
            | (go_at_call 104; refine (hM _ (Kw.and K5)).mono ?_; rintro e w6 ⟨rfl, hw⟩; subst w6; clear hM)
            | fail)
          go_ret
          exact ⟨by rw [HO.out]; rfl, Kw.and K5⟩
        | true =>
          have HO : Hid ((x.after.take (k + 1)).all (oneP ns x l) = true) := HNx.out (by rw [ho, hb])
          rw [hb] at hM
          clear hap HNx HNo ho hfj hb
          generalize x.after[k] = s at *
          go_wp2_with (first
            | (go_at_call 110; refine hah.mono ?_; rintro e w5 ⟨rfl, K5⟩; clear hah)
            | (go_at_call 104; refine (hM _ (Kw.and K5)).mono ?_; rintro e w6 ⟨rfl, hw⟩; subst w6; clear hM)
            | fail)
          go_roundw
          case rel => exact ⟨k + 1, by omega, by go_num, K.and K5, HO.out⟩
          case measure => simp [intOf]; omega
    · obtain rfl : k = x.after.length := by omega
      rw [List.take_length] at hal
      have HO : Hid (overP ns x l = true) := hal
      clear hal
      go_wp2
      go_ret
      exact ⟨by rw [HO.out]; rfl, Kw⟩

/-- The nodes that may begin, among the first. -/
def rdyB (ns : List Nd) (lo lb : List Bool) (i : Nat) : Bool := !lb.getD i false && match ns[i]? with | some n => overP ns n lo | none => false
def rdyL (ns : List Nd) (lo lb : List Bool) (k : Nat) : List Nat := (List.range k).filter (rdyB ns lo lb)

theorem rdyL_hit {ns : List Nd} {lo lb : List Bool} {k : Nat} (h : rdyB ns lo lb k = true) : rdyL ns lo lb (k + 1) = rdyL ns lo lb k ++ [k] := by
  unfold rdyL
  rw [List.range_succ, List.filter_append]
  simp [h]

theorem rdyL_miss {ns : List Nd} {lo lb : List Bool} {k : Nat} (h : rdyB ns lo lb k = false) : rdyL ns lo lb (k + 1) = rdyL ns lo lb k := by
  unfold rdyL
  rw [List.range_succ, List.filter_append]
  simp [h]

theorem rdyL_len (ns : List Nd) (lo lb : List Bool) (k : Nat) : (rdyL ns lo lb k).length ≤ k := by
  unfold rdyL
  have := List.length_filter_le (rdyB ns lo lb) (List.range k)
  simpa using this

theorem natsV_snoc (l : List Nat) (i : Nat) : natsV (l ++ [i]) = natsV l ++ [.int .i64 (i : Nat)] := by unfold natsV; simp

set_option maxRecDepth 100000 in
set_option maxHeartbeats 4000000 in
theorem ready_any (w : World) (name : ByteArray) (a : Option Addr) (n c : Nat) (ns : List Nd) (hN : NodesAt w a ns) (hl : ns.length = n) (hn : n ≤ 1000000) (ao ab : Option Addr) (co cb : Nat) (lo lb : List Bool) (hlo : lo.length ≤ 1000000) (hlb : lb.length ≤ 1000000)
    (ho : CellsAt w ao (lo.map Value.bool)) (hb : CellsAt w ab (lb.map Value.bool)) :
    Calls Tryd.prog 91 #[.agg #[.string name, .slice a n c], .slice ao lo.length co, .slice ab lb.length cb] w fun e w' => ∃ av cv, e = .returned (.slice av (rdyL ns lo lb n).length cv) ∧ w'.ownsRow w.heap.size 3 1 (.slice av (rdyL ns lo lb n).length cv) (rdyL ns lo lb n).length (natsV (rdyL ns lo lb n)) ∧ Kept (fun _ => False) w w' := by
  subst hl
  obtain ⟨i0, hi0, hz0, hz1, hz2⟩ := info_parts Tryd.info3
  have hF := firsts_any (w.alloc (.cells #[.string name, .slice a ns.length c] 24)) name a ns.length c ns (keptNew (Kept.alloc _ _ _) hN) rfl (by omega)
  rw [World.size_alloc] at hF
  have HM : Hid (∀ V, Kept (fun _ => False) w V → ∀ j : Nat, Calls Tryd.prog 104 #[.slice ab lb.length cb, .int .i64 j] V fun e w' => e = .returned (.bool (lb.getD j false)) ∧ w' = V) := fun V K j => marked_any V ab cb lb hlb (hb.kept K (fun _ _ h => h)) j
  have HO : Hid (CellsAt w ao (lo.map Value.bool)) := ho
  have HN : Hid (NodesAt w a ns) := hN
  clear hN ho hb
  go_enter Tryd.func91, Tryd.ntmps91
  go_wp2_with (first
    | (go_at_call 103; refine hF.mono ?_; rintro e w1 ⟨rfl, F1, K1⟩; clear hF; have hd := boxD K1; obtain ⟨d0, d1⟩ := hd; have HF1 : Hid (FirstAt w1 (w.heap.size + 1 + 1) ns) := F1; have hmb : w.heap.size + 1 + 1 < w1.heap.size := (by obtain ⟨_, t⟩ := F1; exact t.lt); clear F1)
    | fail)
  have K0 : Hid (Kept (fun _ => False) w w1) := (Kept.alloc (fun _ => False) _ _).and K1
  clear K1
  go_loopw [16, 8] (fun q v wr => ∃ (k : Nat) (a8 : Option Addr) (c8 : Nat), k ≤ ns.length ∧ q = .int .i64 k ∧ v = .slice a8 (rdyL ns lo lb k).length c8 ∧ wr.ownsRow w1.heap.size 3 1 (.slice a8 (rdyL ns lo lb k).length c8) (rdyL ns lo lb k).length (natsV (rdyL ns lo lb k)) ∧ Kept (fun j => w1.heap.size ≤ j) w1 wr) (fun q _ _ => ns.length - (intOf q).toNat)
  case atStart => exact ⟨0, none, 0, Nat.zero_le _, rfl, rfl, World.ownsRow_nil _ _ _ _, Kept.refl _ _⟩
  case round =>
    obtain ⟨k, a8, c8, hk, rfl, rfl, OR, K⟩ := hrel
    have Kw : Kept (fun _ => False) w wr := K0.out.trans K (fun g h => .inr (by have := K0.out.size; omega))
    by_cases hlt : k < ns.length
    · obtain ⟨b, o, av, cv, rfl, hT, c0, c1, c2, c3, c4, c5, c6⟩ := (keptNew Kw HN.out).at hlt
      have hok := (HN.out.1 _ (List.getElem_mem hlt)).few
      have e0 : (k : Int) < (ns.length : Int) := by omega
      have hget := List.getElem?_eq_getElem hlt
      have hM := HM.out
      have hA := fun V (KV : Kept (fun _ => False) wr V) => allOver_any V (w.heap.size + 1 + 1) ns (HF1.out.kept (K.and (KV.mono (fun _ h => h.elim))) (by omega)) ns[k] av cv (hT.kept KV (fun _ _ h => h)) hok ao co lo hlo (HO.out.kept (Kw.and KV) (fun _ _ h => h))
      have hbk : rdyB ns lo lb k = (!lb.getD k false && overP ns ns[k] lo) := by unfold rdyB; rw [hget]
      have HH : Hid (rdyB ns lo lb k = true → rdyL ns lo lb (k + 1) = rdyL ns lo lb k ++ [k]) := rdyL_hit
      have HS : Hid (rdyB ns lo lb k = false → rdyL ns lo lb (k + 1) = rdyL ns lo lb k) := rdyL_miss
      have hlen := rdyL_len ns lo lb k
      have HOR : Hid (wr.ownsRow w1.heap.size 3 1 (.slice a8 (rdyL ns lo lb k).length c8) (rdyL ns lo lb k).length (natsV (rdyL ns lo lb k))) := OR
      clear hT hget OR
      generalize overP ns ns[k] lo = b2 at *
      generalize ns[k] = x at *
      generalize hT8 : rdyL ns lo lb k = T8 at *
      have hMk := fun V KV => hM V KV k
      generalize lb.getD k false = b1 at *
      clear hM
      cases b1 with
      | true =>
        have HB : Hid (rdyL ns lo lb (k + 1) = T8) := HS.out (by rw [hbk]; rfl)
        clear HH HS hbk hT8 hA
        go_wp2_with (first
          | (go_at_call 104; refine (hMk _ (Kw.and (Kept.alloc _ _ _))).mono ?_; rintro e w6 ⟨rfl, hw⟩; subst w6; clear hMk)
          | fail)
        go_roundw
        case rel => exact ⟨k + 1, a8, c8, by omega, by go_num, by rw [HB.out], by rw [HB.out]; exact ownsRow_keep HOR.out (fun g hg => (Kept.alloc (fun _ => False) _ _).block g (ownsRow_blk HOR.out hg) (fun h => h)), K.and (Kept.alloc _ _ _)⟩
        case measure => simp [intOf]; omega
      | false =>
        cases b2 with
        | false =>
          have HB : Hid (rdyL ns lo lb (k + 1) = T8) := HS.out (by rw [hbk]; rfl)
          clear HH HS hbk hT8
          have hA' := hA _ (Kept.alloc (fun _ => False) wr (.cells #[.string x.name, .int .i64 x.kind, .string x.arg, .string x.«to», .int .i64 x.delay, .int .i64 x.tries, .slice av x.after.length cv] 64))
          clear hA
          go_wp2_with (first
            | (go_at_call 104; refine (hMk _ (Kw.and (Kept.alloc _ _ _))).mono ?_; rintro e w6 ⟨rfl, hw⟩; subst w6; clear hMk)
            | (go_at_call 105; refine hA'.mono ?_; rintro e w6 ⟨rfl, K6⟩; clear hA')
            | fail)
          have KK : Kept (fun _ => False) wr w6 := (Kept.alloc (fun _ => False) _ _).and K6
          go_roundw
          case rel => exact ⟨k + 1, a8, c8, by omega, by go_num, by rw [HB.out], by rw [HB.out]; exact ownsRow_keep HOR.out (fun g hg => KK.block g (ownsRow_blk HOR.out hg) (fun h => h)), K.and (KK.mono (fun _ h => h.elim))⟩
          case measure => simp [intOf]; omega
        | true =>
          have HB : Hid (rdyL ns lo lb (k + 1) = T8 ++ [k]) := HH.out (by rw [hbk]; rfl)
          clear HH HS hbk hT8
          have hA' := hA _ (Kept.alloc (fun _ => False) wr (.cells #[.string x.name, .int .i64 x.kind, .string x.arg, .string x.«to», .int .i64 x.delay, .int .i64 x.tries, .slice av x.after.length cv] 64))
          have HC : Hid (∀ u ∈ [Value.int .i64 (k : Nat)], u.oneCell' = true) := natsV_one [k]
          clear hA
          generalize hm8 : T8.length = m8 at *
          go_wp2_with (first
            | (go_at_call 104; refine (hMk _ (Kw.and (Kept.alloc _ _ _))).mono ?_; rintro e w6 ⟨rfl, hw⟩; subst w6; clear hMk)
            | (go_at_call 105; refine hA'.mono ?_; rintro e w6 ⟨rfl, K6⟩; clear hA'; have KK : Kept (fun _ => False) wr w6 := (Kept.alloc (fun _ => False) _ _).and K6; have HO6 : Hid (w6.ownsRow w1.heap.size 3 1 (.slice a8 m8 c8) m8 (natsV T8)) := ownsRow_keep HOR.out (fun g hg => KK.block g (ownsRow_blk HOR.out hg) (fun h => h)); have hz6 := KK.size; have hzr := K.size)
            | (at_builtin; refine wpList_append_src _ rfl _ _ 101 rfl w1.heap.size 3 i0 _ 1 8 Tryd.underlying101 hi0 hz0 hz1 hz2 rfl (by decide) (.slice a8 m8 c8) m8 _ rfl (HO6.out.alloc _) _ rfl 1 _ (.inl ⟨_, 1, rfl, rfl, World.news_of_block (heap_alloc_new _ _)⟩) HC.out (by unfold maxLen; omega) (by omega) (by simp; omega) ?_; intro a3 cap3 w7 ho3 hg3 _ hl3)
            | fail)
          have KG : Kept (fun g => w1.heap.size ≤ g) (w6.alloc (.cells #[.int .i64 (k : Nat)] 3)) w7 := Kept.grown hg3 (fun g e => (HO6.out.lt g e).1)
          go_roundw
          case rel =>
            refine ⟨k + 1, a3, cap3, by omega, by go_num, by rw [HB.out]; simp [hm8], ?_, ((K.and (KK.mono (fun _ h => h.elim))).and (Kept.alloc _ _ _)).and KG⟩
            rw [HB.out, natsV_snoc, List.length_append, hm8]
            exact ho3
          case measure => simp [intOf]; omega
    · obtain rfl : k = ns.length := by omega
      have HOR : Hid (wr.ownsRow w1.heap.size 3 1 (.slice a8 (rdyL ns lo lb ns.length).length c8) (rdyL ns lo lb ns.length).length (natsV (rdyL ns lo lb ns.length))) := OR
      clear OR
      generalize hT8 : rdyL ns lo lb ns.length = T8 at *
      generalize hm8 : T8.length = m8 at *
      go_wp2
      go_ret
      subst hm8 hT8
      exact ⟨a8, c8, rfl, ownsRow_low HOR.out (by have := K0.out.size; omega), Kw⟩

end Go.Proofs.YtfjekjbkifmpfaaDoor

/-
  A workflow's state, events, tasks and inputs as data, and what each step of history does with them. Nothing here speaks of a program.
-/
namespace Go.Proofs.YtfjekjbkifmpfaaDoor
open Go.RowKit

/-- A node as it stands. -/
structure Ns where
  status : Int
  tr : Int
  text : ByteArray
/-- A signal that is kept. -/
structure Sg where
  name : ByteArray
  text : ByteArray
structure Ev where
  kind : Int
  node : ByteArray
  text : ByteArray
  num : Int
structure Ml where
  kind : Int
  dst : ByteArray
  src : ByteArray
  node : ByteArray
  name : ByteArray
  text : ByteArray
  status : Int
structure Tk where
  kind : Int
  flow : ByteArray
  node : ByteArray
  tr : Int
  tm : Int
  mail : Ml
structure St where
  dfn : ByteArray
  id : ByteArray
  par : ByteArray
  pnode : ByteArray
  status : Int
  text : ByteArray
  nodes : List Ns
  sigs : List Sg
  events : Int
structure Inp where
  kind : Int
  node : ByteArray
  name : ByteArray
  text : ByteArray
  tr : Int
  status : Int
  now : Int
  par : ByteArray
  pnode : ByteArray
/-- A workflow while it does an input. -/
structure Rn where
  st : St
  now : Int
  evs : List Ev
  tks : List Tk

structure Mv where
  event : Int
  kind : Int
  src : Int
  dst : Int
  txt : Bool

/-- All that may become of nodes. -/
def movesL : List Mv := [⟨2, 1, 0, 1, false⟩, ⟨3, 1, 1, 2, false⟩, ⟨5, 1, 2, 1, false⟩, ⟨4, 1, 2, 3, true⟩, ⟨6, 0, 2, 4, true⟩, ⟨6, 3, 0, 4, true⟩, ⟨7, 2, 0, 2, false⟩, ⟨8, 2, 2, 3, false⟩, ⟨9, 3, 0, 2, false⟩, ⟨10, 3, 2, 3, true⟩, ⟨11, 4, 0, 2, false⟩, ⟨12, 4, 2, 3, true⟩, ⟨12, 4, 0, 3, true⟩, ⟨14, 5, 0, 3, false⟩]

def Mv.fits (m : Mv) (event kind status : Int) : Bool := (m.event == event) && ((m.src == status) && ((m.kind == kind) || (m.kind == 0)))
def moveP (event kind status : Int) : Option Mv := movesL.find? (fun m => m.fits event kind status)

def keptP (l : List Sg) (name : ByteArray) : Option Nat := l.findIdx? (fun k => decide (k.name = name))

/-- The signals behind a receiving, if it can be. -/
def receiveP (l : List Sg) (signal : ByteArray) (status number : Int) : Option (List Sg) :=
  if status = 2 then (if number = 0 then some l else none)
  else match keptP l signal with
    | some i => if number = 1 then some (l.eraseIdx i) else none
    | none => none

def setNode (l : List Ns) (i : Nat) (m : Mv) (e : Ev) : List Ns :=
  l.modify i (fun n => ⟨m.dst, if e.kind = 3 then e.num else n.tr, if m.txt then e.text else n.text⟩)

def nodeMove (ns : List Nd) (s : St) (e : Ev) (i : Nat) : Option Mv :=
  match ns[i]?, s.nodes[i]? with
  | some n, some x => moveP e.kind n.kind x.status
  | _, _ => none

def argAt (ns : List Nd) (i : Nat) : ByteArray := match ns[i]? with | some n => n.arg | none => ⟨#[]⟩

def changeNodeP (ns : List Nd) (s : St) (e : Ev) : Option St :=
  match findP ns e.node with
  | none => none
  | some i => match nodeMove ns s e i with
    | none => none
    | some m => match (if e.kind = 12 then receiveP s.sigs (argAt ns i) m.src e.num else some s.sigs) with
      | none => none
      | some l => some { s with nodes := setNode s.nodes i m e, sigs := l }

/-- The state behind an event, if the event fits. -/
def changeP (nm : ByteArray) (ns : List Nd) (s : St) (e : Ev) : Option St :=
  if s.status ≠ (if e.kind = 1 then 0 else 1) then none
  else if e.kind = 1 then some { s with status := 1, dfn := nm, par := e.text, pnode := e.node, nodes := List.replicate ns.length ⟨0, 0, ⟨#[]⟩⟩, events := s.events + 1 }
  else if e.kind = 13 then some { s with sigs := s.sigs ++ [⟨e.node, e.text⟩], events := s.events + 1 }
  else if e.kind = 15 then (if e.num = 2 ∨ e.num = 3 ∨ e.num = 4 then some { s with status := e.num, text := e.text, events := s.events + 1 } else none)
  else (changeNodeP ns s e).map (fun s' => { s' with events := s'.events + 1 })

/-! ### Cells -/

def nsC (n : Ns) : List Value := [.int .i64 n.status, .int .i64 n.tr, .string n.text]
def sgC (s : Sg) : List Value := [.string s.name, .string s.text]
def evC (e : Ev) : List Value := [.int .i64 e.kind, .string e.node, .string e.text, .int .i64 e.num]
def mlC (m : Ml) : List Value := [.int .i64 m.kind, .string m.dst, .string m.src, .string m.node, .string m.name, .string m.text, .int .i64 m.status]
def tkC (t : Tk) : List Value := [.int .i64 t.kind, .complex .f64 0 0, .string t.flow, .string t.node, .int .i64 t.tr, .int .i64 t.tm] ++ mlC t.mail
def mvC (m : Mv) : List Value := [.int .i64 m.event, .int .i64 m.kind, .int .i64 m.src, .int .i64 m.dst, .bool m.txt]
def mvV (m : Mv) : Value := .agg #[.int .i64 m.event, .int .i64 m.kind, .int .i64 m.src, .int .i64 m.dst, .bool m.txt]

end Go.Proofs.YtfjekjbkifmpfaaDoor

/-
  moveOf: what an event does to a node, found in the table of moves.
-/
namespace Go.Proofs.YtfjekjbkifmpfaaDoor
open Go.RowKit

def movesA : Array Value := #[.int .i64 2, .int .i64 1, .int .i64 0, .int .i64 1, .bool false, .int .i64 3, .int .i64 1, .int .i64 1, .int .i64 2, .bool false, .int .i64 5, .int .i64 1, .int .i64 2, .int .i64 1, .bool false, .int .i64 4, .int .i64 1, .int .i64 2, .int .i64 3, .bool true, .int .i64 6, .int .i64 0, .int .i64 2, .int .i64 4, .bool true, .int .i64 6, .int .i64 3, .int .i64 0, .int .i64 4, .bool true, .int .i64 7, .int .i64 2, .int .i64 0, .int .i64 2, .bool false, .int .i64 8, .int .i64 2, .int .i64 2, .int .i64 3, .bool false, .int .i64 9, .int .i64 3, .int .i64 0, .int .i64 2, .bool false, .int .i64 10, .int .i64 3, .int .i64 2, .int .i64 3, .bool true, .int .i64 11, .int .i64 4, .int .i64 0, .int .i64 2, .bool false, .int .i64 12, .int .i64 4, .int .i64 2, .int .i64 3, .bool true, .int .i64 12, .int .i64 4, .int .i64 0, .int .i64 3, .bool true, .int .i64 14, .int .i64 5, .int .i64 0, .int .i64 3, .bool false]

theorem movesA_is : movesA.toList = movesL.flatMap mvC := rfl

/-- The table of moves, as its initialiser lays it. -/
def MovesAt (w : World) : Prop := ∃ t fr, w.heap[0]? = some (.cells movesA t fr)

theorem MovesAt.kept {S : Nat → Prop} {w w' : World} (M : MovesAt w) (K : Kept S w w') (hS : ¬ S 0) : MovesAt w' := by
  obtain ⟨t, fr, h⟩ := M
  exact ⟨t, fr, (K.block 0 (Array.getElem?_eq_some_iff.1 h).1 hS).trans h⟩

theorem MovesAt.load {w : World} (M : MovesAt w) : (loadVar 135 ⟨0, 0, none⟩).run Tryd.prog w = .ok (.agg movesA) w := by
  obtain ⟨t, fr, h⟩ := M
  exact run_loadVar_row w 0 t 135 movesA fr _ h Tryd.underlying135 rfl (by kernel_rfl)

theorem moves_len : movesL.length = 14 := rfl

theorem moves_index (W : World) : ∀ (k : Nat) (hk : k < 14), (Instr.index 135 (.agg movesA) (.int .i64 (k : Int))).run Tryd.prog W = .ok (mvV (movesL[k]'hk)) W
  | 0, _ => by kernel_rfl
  | 1, _ => by kernel_rfl
  | 2, _ => by kernel_rfl
  | 3, _ => by kernel_rfl
  | 4, _ => by kernel_rfl
  | 5, _ => by kernel_rfl
  | 6, _ => by kernel_rfl
  | 7, _ => by kernel_rfl
  | 8, _ => by kernel_rfl
  | 9, _ => by kernel_rfl
  | 10, _ => by kernel_rfl
  | 11, _ => by kernel_rfl
  | 12, _ => by kernel_rfl
  | 13, _ => by kernel_rfl
  | k + 14, h => absurd h (by omega)

theorem moveP_found {e kd s : Int} {k : Nat} (hk : k < 14) (h : ∀ j (hj : j < k), (movesL[j]'(by rw [moves_len]; omega)).fits e kd s = false) (hf : (movesL[k]'hk).fits e kd s = true) : moveP e kd s = some (movesL[k]'hk) := by
  unfold moveP
  rw [List.find?_eq_some_iff_getElem]
  exact ⟨hf, k, hk, rfl, fun j hj => by simp [h j hj]⟩

theorem moveP_none {e kd s : Int} (h : ∀ j (hj : j < 14), (movesL[j]'hj).fits e kd s = false) : moveP e kd s = none := by
  unfold moveP
  rw [List.find?_eq_none]
  intro m hm
  obtain ⟨j, hj, rfl⟩ := List.mem_iff_getElem.1 hm
  simp [h j hj]

theorem five {w : World} {b : Nat} {T : TypeId} {u0 u1 u2 u3 u4 : Value} (h : w.heap[b]? = some (.cells #[u0, u1, u2, u3, u4] T (0, 0))) :
    (w.cell? ⟨b, 0, none⟩ = some u0 ∧ w.cell? ⟨b, 1, none⟩ = some u1 ∧ w.cell? ⟨b, 2, none⟩ = some u2 ∧ w.cell? ⟨b, 3, none⟩ = some u3 ∧ w.cell? ⟨b, 4, none⟩ = some u4) ∧
    w.frozen? ⟨b, 0, none⟩ = false ∧ w.frozen? ⟨b, 1, none⟩ = false ∧ w.frozen? ⟨b, 2, none⟩ = false ∧ w.frozen? ⟨b, 3, none⟩ = false ∧ w.frozen? ⟨b, 4, none⟩ = false := by
  simp [World.cell?, World.frozen?, h]

theorem put5 {w : World} {b : Nat} {T : TypeId} {u0 u1 u2 u3 u4 : Value} (h : w.heap[b]? = some (.cells #[u0, u1, u2, u3, u4] T (0, 0))) (v0 v1 v2 v3 v4 : Value) : (((((w.setCell ⟨b, 0, none⟩ v0).setCell ⟨b, 1, none⟩ v1).setCell ⟨b, 2, none⟩ v2).setCell ⟨b, 3, none⟩ v3).setCell ⟨b, 4, none⟩ v4).heap[b]? = some (.cells #[v0, v1, v2, v3, v4] T (0, 0)) := by
  simp [World.setCell, Array.getElem?_modify, h]

theorem kept5 {S : Nat → Prop} (w : World) {b : Nat} (hb : S b) (v0 v1 v2 v3 v4 : Value) : Kept S w (((((w.setCell ⟨b, 0, none⟩ v0).setCell ⟨b, 1, none⟩ v1).setCell ⟨b, 2, none⟩ v2).setCell ⟨b, 3, none⟩ v3).setCell ⟨b, 4, none⟩ v4) :=
  ((((Kept.setCell w _ _ hb).and (Kept.setCell _ _ _ hb)).and (Kept.setCell _ _ _ hb)).and (Kept.setCell _ _ _ hb)).and (Kept.setCell _ _ _ hb)

def zeroMv : Mv := ⟨0, 0, 0, 0, false⟩

set_option maxRecDepth 100000 in
set_option maxHeartbeats 4000000 in
theorem moveOf_any (w : World) (M : MovesAt w) (e kd s : Int) :
    Calls Tryd.prog 71 #[.int .i64 e, .int .i64 kd, .int .i64 s] w fun en w' => en = .returned (.tuple #[mvV ((moveP e kd s).getD zeroMv), .bool (moveP e kd s).isSome]) ∧ Kept (fun _ => False) w w' := by
  obtain ⟨tt, fr, hg⟩ := M.kept (Kept.alloc (fun _ => False) w (.cells #[.int .i64 0, .int .i64 0, .int .i64 0, .int .i64 0, .bool false] 116)) (fun h => h)
  clear M
  go_enter Tryd.func71, Tryd.ntmps71
  go_wp2_with (refine wpList_load_row rfl 135 _ rfl 0 rfl tt _ fr _ hg Tryd.underlying135 rfl (by kernel_rfl) ?_)
  generalize hA : movesA = A
  have hix : ∀ (W : World) (k : Nat) (hk : k < 14), (Instr.index 135 (.agg A) (.int .i64 (k : Int))).run Tryd.prog W = .ok (mvV (movesL[k]'hk)) W := fun W k hk => by rw [← hA]; exact moves_index W k hk
  clear hA hg
  go_loopw [11] (fun q wr => ∃ (k : Nat), k ≤ 14 ∧ q = .int .i64 k ∧ (∀ j (hj : j < k) (hj2 : j < 14), (movesL[j]'hj2).fits e kd s = false) ∧ Kept (fun _ => False) (w.alloc (.cells #[.int .i64 0, .int .i64 0, .int .i64 0, .int .i64 0, .bool false] 116)) wr) (fun q _ => 14 - (intOf q).toNat)
  case atStart => exact ⟨0, Nat.zero_le _, rfl, fun j hj => by omega, Kept.refl _ _⟩
  case round =>
    obtain ⟨k, hk, rfl, hno, K⟩ := hrel
    have Kw : Kept (fun _ => False) w wr := (Kept.alloc _ _ _).and K
    have hb : wr.heap[w.heap.size]? = some (.cells #[.int .i64 0, .int .i64 0, .int .i64 0, .int .i64 0, .bool false] 116 (0, 0)) := (K.block _ (by rw [World.size_alloc]; omega) (fun h => h)).trans (heap_alloc_new _ _)
    have HNo : Hid (∀ j (hj : j < k) (hj2 : j < 14), (movesL[j]'hj2).fits e kd s = false) := hno
    clear hno
    by_cases hlt : k < 14
    · have e0 : (k : Int) < 14 := by omega
      have hi := fun W => hix W k hlt
      clear hix
      have HF : Hid ((movesL[k]'hlt).fits e kd s = true → moveP e kd s = some (movesL[k]'hlt)) := fun h => moveP_found hlt (fun j hj => HNo.out j hj (by omega)) h
      have HG : Hid ((movesL[k]'hlt).fits e kd s = false → ∀ j (hj : j < k + 1) (hj2 : j < 14), (movesL[j]'hj2).fits e kd s = false) := fun h j hj hj2 => by
        by_cases hjk : j = k
        · subst hjk; exact h
        · exact HNo.out j (by omega) hj2
      generalize movesL[k]'hlt = m at *
      unfold Mv.fits at HF HG
      unfold mvV at hi
      cases b1 : (m.event == e) with
      | false =>
        have hn := HG.out (by rw [b1]; rfl)
        have HN2 : Hid (∀ j (hj : j < k + 1) (hj2 : j < 14), (movesL[j]'hj2).fits e kd s = false) := hn
        clear hn HF HG HNo
        go_wp2_with fail
        go_roundw
        case rel => exact ⟨k + 1, by omega, by go_num, HN2.out, K.and (Kept.alloc _ _ _)⟩
        case measure => simp [intOf]; omega
      | true =>
        cases b2 : (m.src == s) with
        | false =>
          have hn := HG.out (by rw [b1, b2]; rfl)
          have HN2 : Hid (∀ j (hj : j < k + 1) (hj2 : j < 14), (movesL[j]'hj2).fits e kd s = false) := hn
          clear hn HF HG HNo
          go_wp2_with fail
          go_roundw
          case rel => exact ⟨k + 1, by omega, by go_num, HN2.out, K.and (Kept.alloc _ _ _)⟩
          case measure => simp [intOf]; omega
        | true =>
          cases b3 : (m.kind == kd) with
          | true =>
            have hm := HF.out (by rw [b1, b2, b3]; rfl)
            have HM : Hid (moveP e kd s = some m) := hm
            clear hm HF HG HNo
            have hb2 : (wr.alloc (.cells #[.int .i64 m.event, .int .i64 m.kind, .int .i64 m.src, .int .i64 m.dst, .bool m.txt] 116)).heap[w.heap.size]? = some (.cells #[.int .i64 0, .int .i64 0, .int .i64 0, .int .i64 0, .bool false] 116 (0, 0)) := by rw [Below.heap_alloc _ _ _ (Array.getElem?_eq_some_iff.1 hb).1]; exact hb
            obtain ⟨⟨c0, c1, c2, c3, c4⟩, f0, f1, f2, f3, f4⟩ := five hb2
            go_wp2_with fail
            have b3 := put5 hb2 (.int .i64 m.event) (.int .i64 m.kind) (.int .i64 m.src) (.int .i64 m.dst) (.bool m.txt)
            obtain ⟨⟨g0, g1, g2, g3, g4⟩, _⟩ := five b3
            have KK := kept5 (S := fun j => j = w.heap.size) (wr.alloc (.cells #[.int .i64 m.event, .int .i64 m.kind, .int .i64 m.src, .int .i64 m.dst, .bool m.txt] 116)) rfl (.int .i64 m.event) (.int .i64 m.kind) (.int .i64 m.src) (.int .i64 m.dst) (.bool m.txt)
            refine bodyPost_ret (by simp [results, Tryd.results71, go_sem, g0, g1, g2, g3, g4]; try rfl) rfl ?_
            refine ⟨by rw [HM.out]; rfl, (Kw.and (Kept.alloc _ _ _)).trans KK (fun i h => .inr (by omega))⟩
          | false =>
            cases b4 : (m.kind == 0) with
            | true =>
              have hm := HF.out (by rw [b1, b2, b3, b4]; rfl)
              have HM : Hid (moveP e kd s = some m) := hm
              clear hm HF HG HNo
              have hb2 : (wr.alloc (.cells #[.int .i64 m.event, .int .i64 m.kind, .int .i64 m.src, .int .i64 m.dst, .bool m.txt] 116)).heap[w.heap.size]? = some (.cells #[.int .i64 0, .int .i64 0, .int .i64 0, .int .i64 0, .bool false] 116 (0, 0)) := by rw [Below.heap_alloc _ _ _ (Array.getElem?_eq_some_iff.1 hb).1]; exact hb
              obtain ⟨⟨c0, c1, c2, c3, c4⟩, f0, f1, f2, f3, f4⟩ := five hb2
              go_wp2_with fail
              have b3 := put5 hb2 (.int .i64 m.event) (.int .i64 m.kind) (.int .i64 m.src) (.int .i64 m.dst) (.bool m.txt)
              obtain ⟨⟨g0, g1, g2, g3, g4⟩, _⟩ := five b3
              have KK := kept5 (S := fun j => j = w.heap.size) (wr.alloc (.cells #[.int .i64 m.event, .int .i64 m.kind, .int .i64 m.src, .int .i64 m.dst, .bool m.txt] 116)) rfl (.int .i64 m.event) (.int .i64 m.kind) (.int .i64 m.src) (.int .i64 m.dst) (.bool m.txt)
              refine bodyPost_ret (by simp [results, Tryd.results71, go_sem, g0, g1, g2, g3, g4]; try rfl) rfl ?_
              refine ⟨by rw [HM.out]; rfl, (Kw.and (Kept.alloc _ _ _)).trans KK (fun i h => .inr (by omega))⟩
            | false =>
              have hn := HG.out (by rw [b1, b2, b3, b4]; rfl)
              have HN2 : Hid (∀ j (hj : j < k + 1) (hj2 : j < 14), (movesL[j]'hj2).fits e kd s = false) := hn
              clear hn HF HG HNo
              go_wp2_with fail
              go_roundw
              case rel => exact ⟨k + 1, by omega, by go_num, HN2.out, K.and (Kept.alloc _ _ _)⟩
              case measure => simp [intOf]; omega
    · have e0 : ¬ (k : Int) < 14 := by omega
      have hm : moveP e kd s = none := moveP_none (fun j hj => HNo.out j (by omega) hj)
      have HM : Hid (moveP e kd s = none) := hm
      clear hm HNo hix
      obtain ⟨⟨c0, c1, c2, c3, c4⟩, f0, f1, f2, f3, f4⟩ := five hb
      go_wp2_with fail
      have b3 := put5 hb (.int .i64 0) (.int .i64 0) (.int .i64 0) (.int .i64 0) (.bool false)
      obtain ⟨⟨g0, g1, g2, g3, g4⟩, _⟩ := five b3
      have KK := kept5 (S := fun j => j = w.heap.size) wr rfl (.int .i64 0) (.int .i64 0) (.int .i64 0) (.int .i64 0) (.bool false)
      refine bodyPost_ret (by simp [results, Tryd.results71, go_sem, g0, g1, g2, g3, g4]; try rfl) rfl ?_
      refine ⟨by rw [HM.out]; rfl, Kw.trans KK (fun i h => .inr (by omega))⟩

end Go.Proofs.YtfjekjbkifmpfaaDoor

/-
  Rows of records in memory, read as flat rows of cells; copies of them; a state's cells.
-/
namespace Go.Proofs.YtfjekjbkifmpfaaDoor
open Go.RowKit

def slBlk : Value → Option Nat
  | .slice (some a) _ _ => some a.block
  | _ => none

/-- A row of n records of sz cells each. -/
def FlatAt (w : World) (sz : Nat) (v : Value) (n : Nat) (l : List Value) : Prop :=
  l.length = n * sz ∧ ∃ a c, v = .slice a n c ∧ n ≤ c ∧ c ≤ maxLen ∧ (n = 0 ∨ ∃ b o, a = some ⟨b, o, none⟩ ∧ ∀ j u, l[j]? = some u → w.cell? ⟨b, o + j, none⟩ = some u)

theorem FlatAt.kept {S : Nat → Prop} {w w' : World} {sz n : Nat} {v : Value} {l : List Value} (F : FlatAt w sz v n l) (K : Kept S w w') (hS : ∀ g, slBlk v = some g → g < w.heap.size → ¬ S g) : FlatAt w' sz v n l := by
  obtain ⟨h0, a, c, rfl, h1, h2, h3⟩ := F
  refine ⟨h0, a, c, rfl, h1, h2, ?_⟩
  rcases h3 with h | ⟨b, o, rfl, hc⟩
  · exact .inl h
  · refine .inr ⟨b, o, rfl, fun j u hu => ?_⟩
    have h4 := hc j u hu
    have h5 := World.block_lt_of_cell? w _ h4
    rw [World.cell?_of_block (w := w) (K.block _ h5 (hS b rfl h5))]
    exact h4

theorem FlatAt.new {w w' : World} {sz n : Nat} {v : Value} {l : List Value} (F : FlatAt w sz v n l) (K : Kept (fun _ => False) w w') : FlatAt w' sz v n l := F.kept K (fun _ _ _ h => h)

theorem FlatAt.src {w : World} {sz n : Nat} {v : Value} {l : List Value} (F : FlatAt w sz v n l) : Src w sz v n l := by
  obtain ⟨h0, a, c, rfl, h1, h2, h3⟩ := F
  rcases h3 with h | ⟨b, o, rfl, hc⟩
  · subst h
    have hl : l = [] := List.eq_nil_of_length_eq_zero (by rw [h0, Nat.zero_mul])
    cases a with
    | none => exact .inr ⟨c, rfl, rfl, hl⟩
    | some ad => exact .inl ⟨ad, c, rfl, h0, fun j u hu => by rw [hl] at hu; simp at hu⟩
  · refine .inl ⟨⟨b, o, none⟩, c, rfl, h0, fun j u hu => ?_⟩
    rw [Addr.add_lit]
    exact hc j u hu

theorem flat_of_owns {w : World} {B T sz n : Nat} {v : Value} {l : List Value} (h : w.ownsRow B T sz v n l) : FlatAt w sz v n l := by
  refine ⟨h.1, ?_⟩
  rcases h.2 with ⟨rfl, rfl⟩ | ⟨g, cap, cur, rfl, hb, hg, hn, hm, hs, ht⟩
  · exact ⟨none, 0, rfl, Nat.le_refl _, Nat.zero_le _, .inl rfl⟩
  · refine ⟨some ⟨g, 0, none⟩, cap, rfl, hn, hm, .inr ⟨g, 0, rfl, fun j u hu => ?_⟩⟩
    have := h.cells (g := g) rfl j u hu
    rw [Addr.add_lit] at this
    exact this

theorem slBlk_owns {w : World} {B T sz n : Nat} {v : Value} {l : List Value} (h : w.ownsRow B T sz v n l) : slBlk v = v.ownBlock := by
  rcases h.2 with ⟨rfl, rfl⟩ | ⟨g, cap, cur, rfl, _⟩
  · rfl
  · rfl

/-- The last part of a row. -/
theorem FlatAt.drop {w : World} {sz n k : Nat} {a : Option Addr} {c : Nat} {l : List Value} (F : FlatAt w sz (.slice a n c) n l) (hk : k < n) : ∃ b o, a = some ⟨b, o, none⟩ ∧ FlatAt w sz (.slice (some ⟨b, o + k * sz, none⟩) (n - k) (c - k)) (n - k) (l.drop (k * sz)) := by
  obtain ⟨h0, a', c', e, h1, h2, h3⟩ := F
  obtain ⟨rfl, rfl⟩ : a = a' ∧ c = c' := by simpa using e
  rcases h3 with h | ⟨b, o, rfl, hc⟩
  · omega
  · refine ⟨b, o, rfl, ?_, _, _, rfl, by omega, by omega, .inr ⟨b, o + k * sz, rfl, fun j u hu => ?_⟩⟩
    · rw [List.length_drop, h0, Nat.sub_mul]
    · rw [List.getElem?_drop] at hu
      rw [Nat.add_assoc]
      exact hc _ u hu

theorem FlatAt.take {w : World} {sz n k : Nat} {a : Option Addr} {c : Nat} {l : List Value} (F : FlatAt w sz (.slice a n c) n l) (hk : k ≤ n) : FlatAt w sz (.slice a k c) k (l.take (k * sz)) := by
  obtain ⟨h0, a', c', e, h1, h2, h3⟩ := F
  obtain ⟨rfl, rfl⟩ : a = a' ∧ c = c' := by simpa using e
  refine ⟨?_, a, c, rfl, by omega, h2, ?_⟩
  · rw [List.length_take, h0]
    exact Nat.min_eq_left (Nat.mul_le_mul_right _ hk)
  · rcases h3 with h | ⟨b, o, rfl, hc⟩
    · exact .inl (by omega)
    · refine .inr ⟨b, o, rfl, fun j u hu => ?_⟩
      rw [List.getElem?_take] at hu
      split at hu
      · exact hc j u hu
      · cases hu

theorem flatMap_len {α : Type} {f : α → List Value} {k : Nat} (h : ∀ x, (f x).length = k) : ∀ (l : List α), (l.flatMap f).length = l.length * k
  | [] => by simp
  | x :: l => by rw [List.flatMap_cons, List.length_append, h, flatMap_len h l, List.length_cons, Nat.add_mul]; omega

theorem flatMap_at {α : Type} {f : α → List Value} {k : Nat} (h : ∀ x, (f x).length = k) : ∀ {l : List α} {i : Nat} {x : α}, l[i]? = some x → ∀ j, j < k → (l.flatMap f)[i * k + j]? = (f x)[j]?
  | [], i, x, e => by simp at e
  | y :: ys, 0, x, e => by
    intro j hj
    obtain rfl : y = x := by simpa using e
    rw [List.flatMap_cons, Nat.zero_mul, Nat.zero_add, List.getElem?_append_left (by rw [h]; exact hj)]
  | y :: ys, i + 1, x, e => by
    intro j hj
    have e' : ys[i]? = some x := by simpa using e
    have e2 : (i + 1) * k = k + i * k := by rw [Nat.add_mul, Nat.one_mul, Nat.add_comm]
    rw [List.flatMap_cons, List.getElem?_append_right (by rw [h]; omega), h, show (i + 1) * k + j - k = i * k + j by omega]
    exact flatMap_at h e' j hj

theorem nsC_len (n : Ns) : (nsC n).length = 3 := rfl
theorem sgC_len (s : Sg) : (sgC s).length = 2 := rfl
theorem evC_len (e : Ev) : (evC e).length = 4 := rfl
theorem tkC_len (t : Tk) : (tkC t).length = 13 := rfl

def nsF (l : List Ns) : List Value := l.flatMap nsC
def sgF (l : List Sg) : List Value := l.flatMap sgC
def evF (l : List Ev) : List Value := l.flatMap evC
def tkF (l : List Tk) : List Value := l.flatMap tkC

theorem ones {α : Type} {f : α → List Value} (h : ∀ x, ∀ u ∈ f x, u.oneCell' = true) (l : List α) : ∀ u ∈ l.flatMap f, u.oneCell' = true := by
  intro u hu
  obtain ⟨x, _, hx⟩ := List.mem_flatMap.1 hu
  exact h x u hx

theorem nsF_one (l : List Ns) : ∀ u ∈ nsF l, u.oneCell' = true := ones (fun x u hu => by simp [nsC] at hu; rcases hu with rfl | rfl | rfl <;> rfl) l
theorem sgF_one (l : List Sg) : ∀ u ∈ sgF l, u.oneCell' = true := ones (fun x u hu => by simp [sgC] at hu; rcases hu with rfl | rfl <;> rfl) l
theorem evF_one (l : List Ev) : ∀ u ∈ evF l, u.oneCell' = true := ones (fun x u hu => by simp [evC] at hu; rcases hu with rfl | rfl | rfl | rfl <;> rfl) l
theorem tkF_one (l : List Tk) : ∀ u ∈ tkF l, u.oneCell' = true := ones (fun x u hu => by simp [tkC, mlC] at hu; rcases hu with rfl | rfl | rfl | rfl | rfl | rfl | rfl | rfl | rfl | rfl | rfl | rfl | rfl <;> rfl) l

theorem Tryd.info61 : (Tryd.prog.info? 61).map (fun i => (i.zero, i.size, i.bytes)) = some (some (.agg #[.int .i64 0, .int .i64 0, .string ⟨#[]⟩]), 3, 32) := by kernel_rfl
theorem Tryd.info88 : (Tryd.prog.info? 88).map (fun i => (i.zero, i.size, i.bytes)) = some (some (.agg #[.string ⟨#[]⟩, .string ⟨#[]⟩]), 2, 32) := by kernel_rfl
theorem Tryd.info51 : (Tryd.prog.info? 51).map (fun i => (i.zero, i.size, i.bytes)) = some (some (.agg #[.int .i64 0, .string ⟨#[]⟩, .string ⟨#[]⟩, .int .i64 0]), 4, 48) := by kernel_rfl

set_option maxRecDepth 100000 in
theorem copyNs_any (w : World) (v : Value) (n : Nat) (l : List Value) (hF : FlatAt w 3 v n l) (h1 : ∀ u ∈ l, u.oneCell' = true) (hn : n ≤ 1000000) :
    Calls Tryd.prog 50 #[v] w fun e w' => ∃ a c, e = .returned (.slice a n c) ∧ w'.ownsRow w.heap.size 61 3 (.slice a n c) n l ∧ Kept (fun _ => False) w w' := by
  obtain ⟨i0, hi0, hz0, hz1, hz2⟩ := info_parts Tryd.info61
  have HS : Hid (Src w 3 v n l) := hF.src
  have H1 : Hid (∀ u ∈ l, u.oneCell' = true) := h1
  clear hF h1
  go_enter Tryd.func50, Tryd.ntmps50
  go_wp2_with (first
    | (at_builtin; refine wpList_append_src _ rfl _ _ 30 rfl w.heap.size 61 i0 _ 3 32 Tryd.underlying30 hi0 hz0 hz1 hz2 rfl (by decide) (.slice none 0 0) 0 _ rfl (World.ownsRow_nil _ _ _ _) _ rfl n _ HS.out H1.out (by unfold maxLen; omega) (by omega) (by omega) ?_; intro a3 cap3 w3 ho3 hg3 _ hl3)
    | fail)
  go_ret
  rw [Nat.zero_add, List.nil_append] at ho3
  exact ⟨a3, cap3, by simp, ho3, Kept.grown hg3 (fun k e => by cases e)⟩

set_option maxRecDepth 100000 in
theorem copySg_any (w : World) (v : Value) (n : Nat) (l : List Value) (hF : FlatAt w 2 v n l) (h1 : ∀ u ∈ l, u.oneCell' = true) (hn : n ≤ 1000000) :
    Calls Tryd.prog 51 #[v] w fun e w' => ∃ a c, e = .returned (.slice a n c) ∧ w'.ownsRow w.heap.size 88 2 (.slice a n c) n l ∧ Kept (fun _ => False) w w' := by
  obtain ⟨i0, hi0, hz0, hz1, hz2⟩ := info_parts Tryd.info88
  have HS : Hid (Src w 2 v n l) := hF.src
  have H1 : Hid (∀ u ∈ l, u.oneCell' = true) := h1
  clear hF h1
  go_enter Tryd.func51, Tryd.ntmps51
  go_wp2_with (first
    | (at_builtin; refine wpList_append_src _ rfl _ _ 31 rfl w.heap.size 88 i0 _ 2 32 Tryd.underlying31 hi0 hz0 hz1 hz2 rfl (by decide) (.slice none 0 0) 0 _ rfl (World.ownsRow_nil _ _ _ _) _ rfl n _ HS.out H1.out (by unfold maxLen; omega) (by omega) (by omega) ?_; intro a3 cap3 w3 ho3 hg3 _ hl3)
    | fail)
  go_ret
  rw [Nat.zero_add, List.nil_append] at ho3
  exact ⟨a3, cap3, by simp, ho3, Kept.grown hg3 (fun k e => by cases e)⟩

end Go.Proofs.YtfjekjbkifmpfaaDoor

/-
  States in memory: a state's copy; whom a name means; where a signal is kept.
-/
namespace Go.Proofs.YtfjekjbkifmpfaaDoor
open Go.RowKit

theorem nine {w : World} {b : Nat} {T : TypeId} {u0 u1 u2 u3 u4 u5 u6 u7 u8 : Value} (h : w.heap[b]? = some (.cells #[u0, u1, u2, u3, u4, u5, u6, u7, u8] T (0, 0))) :
    (w.cell? ⟨b, 0, none⟩ = some u0 ∧ w.cell? ⟨b, 1, none⟩ = some u1 ∧ w.cell? ⟨b, 2, none⟩ = some u2 ∧ w.cell? ⟨b, 3, none⟩ = some u3 ∧ w.cell? ⟨b, 4, none⟩ = some u4 ∧ w.cell? ⟨b, 5, none⟩ = some u5 ∧ w.cell? ⟨b, 6, none⟩ = some u6 ∧ w.cell? ⟨b, 7, none⟩ = some u7 ∧ w.cell? ⟨b, 8, none⟩ = some u8) ∧
    (w.frozen? ⟨b, 0, none⟩ = false ∧ w.frozen? ⟨b, 1, none⟩ = false ∧ w.frozen? ⟨b, 2, none⟩ = false ∧ w.frozen? ⟨b, 3, none⟩ = false ∧ w.frozen? ⟨b, 4, none⟩ = false ∧ w.frozen? ⟨b, 5, none⟩ = false ∧ w.frozen? ⟨b, 6, none⟩ = false ∧ w.frozen? ⟨b, 7, none⟩ = false ∧ w.frozen? ⟨b, 8, none⟩ = false) := by
  simp [World.cell?, World.frozen?, h]

theorem put9 {w : World} {b : Nat} {T : TypeId} {u0 u1 u2 u3 u4 u5 u6 u7 u8 : Value} (h : w.heap[b]? = some (.cells #[u0, u1, u2, u3, u4, u5, u6, u7, u8] T (0, 0))) (v0 v1 v2 v3 v4 v5 v6 v7 v8 : Value) : (((((((((w.setCell ⟨b, 0, none⟩ v0).setCell ⟨b, 1, none⟩ v1).setCell ⟨b, 2, none⟩ v2).setCell ⟨b, 3, none⟩ v3).setCell ⟨b, 4, none⟩ v4).setCell ⟨b, 5, none⟩ v5).setCell ⟨b, 6, none⟩ v6).setCell ⟨b, 7, none⟩ v7).setCell ⟨b, 8, none⟩ v8).heap[b]? = some (.cells #[v0, v1, v2, v3, v4, v5, v6, v7, v8] T (0, 0)) := by
  simp [World.setCell, Array.getElem?_modify, h]

theorem kept9 {S : Nat → Prop} (w : World) {b : Nat} (hb : S b) (v0 v1 v2 v3 v4 v5 v6 v7 v8 : Value) : Kept S w (((((((((w.setCell ⟨b, 0, none⟩ v0).setCell ⟨b, 1, none⟩ v1).setCell ⟨b, 2, none⟩ v2).setCell ⟨b, 3, none⟩ v3).setCell ⟨b, 4, none⟩ v4).setCell ⟨b, 5, none⟩ v5).setCell ⟨b, 6, none⟩ v6).setCell ⟨b, 7, none⟩ v7).setCell ⟨b, 8, none⟩ v8) :=
  ((((((((Kept.setCell w _ _ hb).and (Kept.setCell _ _ _ hb)).and (Kept.setCell _ _ _ hb)).and (Kept.setCell _ _ _ hb)).and (Kept.setCell _ _ _ hb)).and (Kept.setCell _ _ _ hb)).and (Kept.setCell _ _ _ hb)).and (Kept.setCell _ _ _ hb)).and (Kept.setCell _ _ _ hb)


/-- A state's nine values. -/
def stA (s : St) (v6 v7 : Value) : Array Value := #[.string s.dfn, .string s.id, .string s.par, .string s.pnode, .int .i64 s.status, .string s.text, v6, v7, .int .i64 s.events]

/-- A state that is handed in: its two rows are read. -/
structure StRd (w : World) (s : St) (v6 v7 : Value) : Prop where
  nodes : FlatAt w 3 v6 s.nodes.length (nsF s.nodes)
  sigs : FlatAt w 2 v7 s.sigs.length (sgF s.sigs)
  few6 : s.nodes.length ≤ 1000000
  few7 : s.sigs.length ≤ 1000000

theorem StRd.new {w w' : World} {s : St} {v6 v7 : Value} (R : StRd w s v6 v7) (K : Kept (fun _ => False) w w') : StRd w' s v6 v7 := ⟨R.nodes.new K, R.sigs.new K, R.few6, R.few7⟩

/-- A state that is one's own. -/
structure StOwn (w : World) (B : Nat) (s : St) (v6 v7 : Value) : Prop where
  nodes : w.ownsRow B 61 3 v6 s.nodes.length (nsF s.nodes)
  sigs : w.ownsRow B 88 2 v7 s.sigs.length (sgF s.sigs)

def zero9 : Array Value := #[.string ⟨#[]⟩, .string ⟨#[]⟩, .string ⟨#[]⟩, .string ⟨#[]⟩, .int .i64 0, .string ⟨#[]⟩, .slice none 0 0, .slice none 0 0, .int .i64 0]

def CopyPost (w : World) (s : St) (e : Ending) (w' : World) : Prop := ∃ u6 u7, e = .returned (.agg (stA s u6 u7)) ∧ StOwn w' w.heap.size s u6 u7 ∧ Kept (fun _ => False) w w'

set_option maxRecDepth 100000 in
set_option maxHeartbeats 2000000 in
theorem stateCopy_any (w : World) (s : St) (v6 v7 : Value) (R : StRd w s v6 v7) :
    Calls Tryd.prog 40 #[.agg (stA s v6 v7)] w (CopyPost w s) := by
  have K0 : Kept (fun _ => False) w ((w.alloc (.cells (stA s v6 v7) 33)).alloc (.cells zero9 33)) := (Kept.alloc _ _ _).and (Kept.alloc _ _ _)
  have R0 := R.new K0
  have h1 := copyNs_any _ v6 _ _ R0.nodes (nsF_one _) R0.few6
  unfold stA zero9 at h1 K0
  unfold stA
  have HR : Hid (StRd w s v6 v7) := R
  clear R R0
  obtain ⟨x0, x1, x2, x3, x4, x5, ln, ls, x8⟩ := s
  simp only [] at h1 K0 ⊢
  have HK0 : Hid (Kept (fun _ => False) w ((w.alloc (.cells #[.string x0, .string x1, .string x2, .string x3, .int .i64 x4, .string x5, v6, v7, .int .i64 x8] 33)).alloc (.cells #[.string ⟨#[]⟩, .string ⟨#[]⟩, .string ⟨#[]⟩, .string ⟨#[]⟩, .int .i64 0, .string ⟨#[]⟩, .slice none 0 0, .slice none 0 0, .int .i64 0] 33))) := K0
  clear K0
  go_enter Tryd.func40, Tryd.ntmps40
  go_wp2_with (first
    | (go_at_call 50; refine h1.mono ?_; rintro e w1 ⟨a6, c6, rfl, o6, K1⟩; clear h1; rw [World.size_alloc, World.size_alloc] at o6;
        have b0 : w1.heap[w.heap.size]? = some (.cells #[.string x0, .string x1, .string x2, .string x3, .int .i64 x4, .string x5, v6, v7, .int .i64 x8] 33 (0, 0)) := (by rw [K1.block _ (by rw [World.size_alloc, World.size_alloc]; omega) (fun h => h), Below.heap_alloc _ _ _ (by rw [World.size_alloc]; omega)]; exact heap_alloc_new _ _);
        have b1 : w1.heap[w.heap.size + 1]? = some (.cells #[.string ⟨#[]⟩, .string ⟨#[]⟩, .string ⟨#[]⟩, .string ⟨#[]⟩, .int .i64 0, .string ⟨#[]⟩, .slice none 0 0, .slice none 0 0, .int .i64 0] 33 (0, 0)) := (by rw [K1.block _ (by rw [World.size_alloc, World.size_alloc]; omega) (fun h => h)]; have h := heap_alloc_new (w.alloc (.cells #[.string x0, .string x1, .string x2, .string x3, .int .i64 x4, .string x5, v6, v7, .int .i64 x8] 33)) (.cells #[.string ⟨#[]⟩, .string ⟨#[]⟩, .string ⟨#[]⟩, .string ⟨#[]⟩, .int .i64 0, .string ⟨#[]⟩, .slice none 0 0, .slice none 0 0, .int .i64 0] 33); rw [World.size_alloc] at h; exact h);
        obtain ⟨⟨p0, p1, p2, p3, p4, p5, p6, p7, p8⟩, q0, q1, q2, q3, q4, q5, q6, q7, q8⟩ := nine b0;
        have ks : Kept (fun j => j = w.heap.size) w1 (w1.setCell ⟨w.heap.size, 6, none⟩ (.slice a6 ln.length c6)) := Kept.setCell _ _ _ rfl;
        have K2 : Kept (fun _ => False) w (w1.setCell ⟨w.heap.size, 6, none⟩ (.slice a6 ln.length c6)) := (HK0.out.and K1).trans ks (fun i h => .inr (by omega));
        have O6 : Hid ((w1.setCell ⟨w.heap.size, 6, none⟩ (.slice a6 ln.length c6)).ownsRow (w.heap.size + 1 + 1) 61 3 (.slice a6 ln.length c6) ln.length (nsF ln)) := ownsRow_keep o6 (fun g hg => ks.block g (ownsRow_blk o6 hg) (by have := (o6.lt g hg).1; omega));
        have B0 : Hid ((w1.setCell ⟨w.heap.size, 6, none⟩ (.slice a6 ln.length c6)).heap[w.heap.size]? = some (.cells #[.string x0, .string x1, .string x2, .string x3, .int .i64 x4, .string x5, .slice a6 ln.length c6, v7, .int .i64 x8] 33 (0, 0))) := (by show _ = _; simp [World.setCell, Array.getElem?_modify, b0]);
        have B1 : Hid ((w1.setCell ⟨w.heap.size, 6, none⟩ (.slice a6 ln.length c6)).heap[w.heap.size + 1]? = some (.cells #[.string ⟨#[]⟩, .string ⟨#[]⟩, .string ⟨#[]⟩, .string ⟨#[]⟩, .int .i64 0, .string ⟨#[]⟩, .slice none 0 0, .slice none 0 0, .int .i64 0] 33 (0, 0))) := (ks.block _ (Array.getElem?_eq_some_iff.1 b1).1 (by omega)).trans b1;
        have HK2 : Hid (Kept (fun _ => False) w (w1.setCell ⟨w.heap.size, 6, none⟩ (.slice a6 ln.length c6))) := K2;
        have h2 := copySg_any _ v7 _ _ (HR.out.new K2).sigs (sgF_one _) HR.out.few7;
        obtain ⟨⟨r0, r1, r2, r3, r4, r5, r6, r7, r8⟩, _⟩ := nine B0.out;
        clear o6 K1 ks K2 b0 b1)
    | (go_at_call 51; refine h2.mono ?_; rintro e w3 ⟨a7, c7, rfl, o7, K3⟩; clear h2 p0 p1 p2 p3 p4 p5 p6 p7 p8 q0 q1 q2 q3 q4 q5 q6 q7 q8 r0 r1 r2 r3 r4 r5 r6 r7 r8;
        have b0 := (K3.block _ (Array.getElem?_eq_some_iff.1 B0.out).1 (fun h => h)).trans B0.out;
        have b1 := (K3.block _ (Array.getElem?_eq_some_iff.1 B1.out).1 (fun h => h)).trans B1.out;
        have hz := HK2.out.size;
        have hz1 := (Array.getElem?_eq_some_iff.1 B1.out).1;
        have o6 := ownsRow_keep O6.out (fun g hg => K3.block g (ownsRow_blk O6.out hg) (fun h => h));
        obtain ⟨⟨p0, p1, p2, p3, p4, p5, p6, p7, p8⟩, q0, q1, q2, q3, q4, q5, q6, q7, q8⟩ := nine b0;
        have ks : Kept (fun j => j = w.heap.size) w3 (w3.setCell ⟨w.heap.size, 7, none⟩ (.slice a7 ls.length c7)) := Kept.setCell _ _ _ rfl;
        have O7 : Hid ((w3.setCell ⟨w.heap.size, 7, none⟩ (.slice a7 ls.length c7)).ownsRow (w.heap.size + 1 + 1) 88 2 (.slice a7 ls.length c7) ls.length (sgF ls)) := ownsRow_keep (ownsRow_low o7 (by omega)) (fun g hg => ks.block g (ownsRow_blk o7 hg) (by have := (o7.lt g hg).1; omega));
        have P6 : Hid ((w3.setCell ⟨w.heap.size, 7, none⟩ (.slice a7 ls.length c7)).ownsRow (w.heap.size + 1 + 1) 61 3 (.slice a6 ln.length c6) ln.length (nsF ln)) := ownsRow_keep o6 (fun g hg => ks.block g (ownsRow_blk o6 hg) (by have := (o6.lt g hg).1; omega));
        have D0 : (w3.setCell ⟨w.heap.size, 7, none⟩ (.slice a7 ls.length c7)).heap[w.heap.size]? = some (.cells #[.string x0, .string x1, .string x2, .string x3, .int .i64 x4, .string x5, .slice a6 ln.length c6, .slice a7 ls.length c7, .int .i64 x8] 33 (0, 0)) := (by simp [World.setCell, Array.getElem?_modify, b0]);
        have D1 : (w3.setCell ⟨w.heap.size, 7, none⟩ (.slice a7 ls.length c7)).heap[w.heap.size + 1]? = some (.cells #[.string ⟨#[]⟩, .string ⟨#[]⟩, .string ⟨#[]⟩, .string ⟨#[]⟩, .int .i64 0, .string ⟨#[]⟩, .slice none 0 0, .slice none 0 0, .int .i64 0] 33 (0, 0)) := (ks.block _ (Array.getElem?_eq_some_iff.1 b1).1 (by omega)).trans b1;
        have HK4 : Hid (Kept (fun _ => False) w (w3.setCell ⟨w.heap.size, 7, none⟩ (.slice a7 ls.length c7))) := (HK2.out.and K3).trans ks (fun i h => .inr (by omega));
        have HD1 : Hid ((w3.setCell ⟨w.heap.size, 7, none⟩ (.slice a7 ls.length c7)).heap[w.heap.size + 1]? = some (.cells #[.string ⟨#[]⟩, .string ⟨#[]⟩, .string ⟨#[]⟩, .string ⟨#[]⟩, .int .i64 0, .string ⟨#[]⟩, .slice none 0 0, .slice none 0 0, .int .i64 0] 33 (0, 0))) := D1;
        obtain ⟨⟨r0, r1, r2, r3, r4, r5, r6, r7, r8⟩, _⟩ := nine D0; obtain ⟨⟨t0, t1, t2, t3, t4, t5, t6, t7, t8⟩, f0, f1, f2, f3, f4, f5, f6, f7, f8⟩ := nine D1;
        clear o6 o7 K3 ks b0 b1 D0 D1 O6 B0 B1 HK2)
    | fail)
  have E1 := put9 HD1.out (.string x0) (.string x1) (.string x2) (.string x3) (.int .i64 x4) (.string x5) (.slice a6 ln.length c6) (.slice a7 ls.length c7) (.int .i64 x8)
  have KK := kept9 (S := fun j => j = w.heap.size + 1) (w3.setCell ⟨w.heap.size, 7, none⟩ (.slice a7 ls.length c7)) rfl (.string x0) (.string x1) (.string x2) (.string x3) (.int .i64 x4) (.string x5) (.slice a6 ln.length c6) (.slice a7 ls.length c7) (.int .i64 x8)
  have o6 := ownsRow_keep P6.out (fun g hg => KK.block g (ownsRow_blk P6.out hg) (by have := (P6.out.lt g hg).1; omega))
  have o7 := ownsRow_keep O7.out (fun g hg => KK.block g (ownsRow_blk O7.out hg) (by have := (O7.out.lt g hg).1; omega))
  obtain ⟨⟨g0, g1, g2, g3, g4, g5, g6, g7, g8⟩, _⟩ := nine E1
  have KF := HK4.out.trans KK (fun i h => .inr (by omega))
  clear P6 O7 HD1 E1 HK4 KK
  refine bodyPost_ret (by simp [results, Tryd.results40, go_sem, g0, g1, g2, g3, g4, g5, g6, g7, g8]; try rfl) rfl ?_
  exact ⟨_, _, rfl, ⟨ownsRow_low o6 (by omega), ownsRow_low o7 (by omega)⟩, KF⟩

end Go.Proofs.YtfjekjbkifmpfaaDoor
