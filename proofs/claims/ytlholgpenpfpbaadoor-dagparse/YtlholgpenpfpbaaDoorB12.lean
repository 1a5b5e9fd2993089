/-
  The document's node: all of it.
-/
import Derived.Test.YtlholgpenpfpbaaDoorB11
import Derived.Test.YtlholgpenpfpbaaDoorB07
import Derived.Test.YtlholgpenpfpbaaDoorB09
import Derived.Test.YtlholgpenpfpbaaDoorB08
import Derived.Lib.IndexLaws
namespace Go.Proofs.YtlholgpenpfpbaaDoor
open Go.RowKit

/-- What stands behind a node's kind: kind, Arg, To, Delay, Tries; whether it is well formed; what is left. -/
def kindR (x1 x2 : ByteArray) (r : List ByteArray) : Option ((Int × ByteArray × ByteArray × Int × Int) × Bool × List ByteArray) :=
  if x1 = actB then some ((1, x2, ⟨#[]⟩, (optR (optR r triB).2.2.1 tmoB).1, if (optR r triB).2.1 then (optR r triB).1 else 1), (optR r triB).2.2.2 && (optR (optR r triB).2.2.1 tmoB).2.2.2 && nameP x2, (optR (optR r triB).2.2.1 tmoB).2.2.1)
  else if x1 = timB then some ((2, ⟨#[]⟩, ⟨#[]⟩, (numR x2).1, 0), (numR x2).2, r)
  else if x1 = chiB then some ((3, x2, ⟨#[]⟩, 0, 0), nameP x2, r)
  else if x1 = waiB then some ((4, x2, ⟨#[]⟩, 0, 0), nameP x2, r)
  else if x1 = senB then (match r with
    | [] => none
    | x3 :: t => some ((5, x3, x2, 0, 0), flowP x2 && nameP x3, t))
  else none

def nodeB (x0 : ByteArray) (p : (Int × ByteArray × ByteArray × Int × Int) × Bool × List ByteArray) : Option Nd := if p.2.1 then (aftR p.2.2).map (fun t => ndOf x0 p.1 t) else none

/-- A node's words. -/
def nodeR : List ByteArray → Option Nd
  | x0 :: x1 :: x2 :: r => if nameP x0 then (match kindR x1 x2 r with
    | none => none
    | some p => nodeB x0 p) else none
  | _ => none

theorem nodeR_some {x0 x1 x2 : ByteArray} {r : List ByteArray} {p : (Int × ByteArray × ByteArray × Int × Int) × Bool × List ByteArray} (h0 : nameP x0 = true) (h : kindR x1 x2 r = some p) : nodeR (x0 :: x1 :: x2 :: r) = nodeB x0 p := by
  simp only [nodeR, h0, if_true, h]

theorem nodeR_none {x0 x1 x2 : ByteArray} {r : List ByteArray} (h0 : nameP x0 = true) (h : kindR x1 x2 r = none) : nodeR (x0 :: x1 :: x2 :: r) = none := by
  simp only [nodeR, h0, if_true, h]

set_option maxRecDepth 100000 in
/-- From the fifth region on. -/
theorem mid_any {w W : World} {b o c c5 : Nat} {a5 : Option Addr} {x0 x1 x2 : ByteArray} {r : List ByteArray} {u : Nat → Value}
    (hr : W.heap[w.heap.size]? = some (.cells #[.string ⟨#[]⟩, .int .i64 0, .string ⟨#[]⟩, .string ⟨#[]⟩, .int .i64 0, .int .i64 0, .slice none 0 0] 44 (0, 0))) (hb : W.heap[w.heap.size + 1]? = some (.cells #[.string x0, .int .i64 0, .string ⟨#[]⟩, .string ⟨#[]⟩, .int .i64 0, .int .i64 0, .slice none 0 0] 44 (0, 0)))
    (hT0 : TextsAt w (.slice (some ⟨b, o, none⟩) (x0 :: x1 :: x2 :: r).length c) (x0 :: x1 :: x2 :: r)) (hT : TextsAt w (.slice a5 r.length c5) r) (K0 : Kept (fun _ => False) w W) (hs : ∀ s ∈ x0 :: x1 :: x2 :: r, s.size ≤ 1000000) (hl : (x0 :: x1 :: x2 :: r).length ≤ 1000000) (h0 : nameP x0 = true) :
    nodeMid.wp Tryd.prog (bodyPost Tryd.prog Tryd.f18 (RNodePost w (nodeR (x0 :: x1 :: x2 :: r)))) { tmps := #[.slice (some ⟨b, o, none⟩) (x0 :: x1 :: x2 :: r).length c, u 1, .pointer (some ⟨w.heap.size, 0, none⟩), .bool false, .pointer (some ⟨w.heap.size + 1, 0, none⟩), .slice a5 r.length c5, undef, undef, undef, undef, undef, undef, undef, undef, undef, undef, u 16, u 17, u 18, u 19, u 20, u 21, u 22, u 23, u 24, u 25, u 26, u 27, u 28, u 29, u 30, u 31, u 32, undef, undef, undef, undef, undef, undef, undef, undef, undef, undef, undef, undef, undef, undef, undef, undef, undef, undef, undef, undef, undef, undef, undef, undef, undef, undef, undef, undef, undef, undef, undef, undef, undef, undef, undef, undef, undef, undef, undef, undef, undef, undef, undef, undef, undef, undef, undef, undef, undef, undef, undef, undef, undef, undef, undef, undef, undef, undef, undef, undef, undef, undef, undef, undef, undef, undef, undef, undef, undef, undef, undef, undef, undef, undef, undef, undef, undef, undef, undef, undef, undef, undef, undef, undef, undef, undef, undef, undef, undef, undef, undef, undef, undef, undef, undef, undef, undef, undef, undef, undef, undef, undef, undef, undef, undef, undef, undef, undef, undef, undef, undef, undef, undef, undef, undef, undef, undef, undef, undef, undef, undef, undef, undef, undef, undef, undef, undef, undef, undef, undef, undef, undef, undef, undef, undef, undef, undef, undef, undef, undef, undef, undef, undef, undef], defers := [] } W := by
  obtain ⟨b', o', e, hc, hx⟩ := hT0.one
  obtain ⟨rfl, rfl⟩ : b = b' ∧ o = o' := by simpa using e
  have c1 := hx 1 (by simp)
  have c2 := hx 2 (by simp)
  simp only [List.getElem_cons_succ, List.getElem_cons_zero] at c1 c2
  have hs2 := hs x2 (by simp)
  have hsr : ∀ s ∈ r, s.size ≤ 1000000 := fun s h => hs s (by simp [h])
  have hl2 : (x0 :: x1 :: x2 :: r).length = r.length + 3 := rfl
  have hlr : r.length ≤ 1000000 := by omega
  have h2 : 2 < (x0 :: x1 :: x2 :: r).length := by omega
  by_cases ka : x1 = actB
  · have hk : kindR x1 x2 r = some ((1, x2, ⟨#[]⟩, (optR (optR r triB).2.2.1 tmoB).1, if (optR r triB).2.1 then (optR r triB).1 else 1), (optR r triB).2.2.2 && (optR (optR r triB).2.2.1 tmoB).2.2.2 && nameP x2, (optR (optR r triB).2.2.1 tmoB).2.2.1) := by unfold kindR; rw [if_pos ka]
    rw [nodeR_some h0 hk]
    rcases hA : optR r triB with ⟨t1, i1, l1, f1⟩
    rcases hB : optR l1 tmoB with ⟨t2, i2, l2, f2⟩
    cases i1 with
    | false => exact mid_act0 hr hb hT K0 hsr hlr c1 c2 h2 hs2 ka hA hB
    | true => exact mid_act1 hr hb hT K0 hsr hlr c1 c2 h2 hs2 ka hA hB
  · by_cases kt : x1 = timB
    · rw [nodeR_some (p := ((2, ⟨#[]⟩, ⟨#[]⟩, (numR x2).1, 0), (numR x2).2, r)) h0 (by unfold kindR; rw [if_neg ka, if_pos kt])]
      exact mid_tim hr hb hT K0 hsr hlr c1 c2 h2 hs2 kt rfl
    · by_cases kc : x1 = chiB
      · rw [nodeR_some (p := ((3, x2, ⟨#[]⟩, 0, 0), nameP x2, r)) h0 (by unfold kindR; rw [if_neg ka, if_neg kt, if_pos kc])]
        exact mid_chi hr hb hT K0 hsr hlr c1 c2 h2 hs2 kc
      · by_cases kw : x1 = waiB
        · rw [nodeR_some (p := ((4, x2, ⟨#[]⟩, 0, 0), nameP x2, r)) h0 (by unfold kindR; rw [if_neg ka, if_neg kt, if_neg kc, if_pos kw])]
          exact mid_wai hr hb hT K0 hsr hlr c1 c2 h2 hs2 kw
        · by_cases ks : x1 = senB
          · match r, hT0, hT, hsr, hl2, hlr, hx, hc, h2, hl, hs with
            | [], hT0, hT, hsr, hl2, hlr, hx, hc, h2, hl, hs =>
              rw [nodeR_none h0 (by unfold kindR; rw [if_neg ka, if_neg kt, if_neg kc, if_neg kw, if_pos ks])]
              exact mid_sen0 hr hb hT K0 hsr hlr c1 c2 h2 hs2 ks rfl
            | x3 :: t, hT0, hT, hsr, hl2, hlr, hx, hc, h2, hl, hs =>
              rw [nodeR_some (p := ((5, x3, x2, 0, 0), flowP x2 && nameP x3, t)) h0 (by unfold kindR; rw [if_neg ka, if_neg kt, if_neg kc, if_neg kw, if_pos ks])]
              have c3 := hx 3 (by simp)
              simp only [List.getElem_cons_succ, List.getElem_cons_zero] at c3
              exact mid_sen hr hb hT K0 hsr hlr c1 c2 h2 hs2 ks rfl rfl rfl hc c3 (texts_drop (k := 4) hT0 (by simp)) (fun s h => hsr s (List.mem_cons_of_mem _ h)) hl (hsr x3 (by simp))
          · rw [nodeR_none h0 (by unfold kindR; rw [if_neg ka, if_neg kt, if_neg kc, if_neg kw, if_neg ks])]
            exact mid_def hr hb hT K0 hsr hlr c1 c2 h2 hs2 ka kt kc kw ks

theorem mid_at {w W : World} {b o c c5 : Nat} {a5 : Option Addr} {x0 x1 x2 : ByteArray} {r : List ByteArray} {a : Act}
    (ha : a = { tmps := #[.slice (some ⟨b, o, none⟩) (x0 :: x1 :: x2 :: r).length c, (a.tmps.getD 1 undef), .pointer (some ⟨w.heap.size, 0, none⟩), .bool false, .pointer (some ⟨w.heap.size + 1, 0, none⟩), .slice a5 r.length c5, undef, undef, undef, undef, undef, undef, undef, undef, undef, undef, (a.tmps.getD 16 undef), (a.tmps.getD 17 undef), (a.tmps.getD 18 undef), (a.tmps.getD 19 undef), (a.tmps.getD 20 undef), (a.tmps.getD 21 undef), (a.tmps.getD 22 undef), (a.tmps.getD 23 undef), (a.tmps.getD 24 undef), (a.tmps.getD 25 undef), (a.tmps.getD 26 undef), (a.tmps.getD 27 undef), (a.tmps.getD 28 undef), (a.tmps.getD 29 undef), (a.tmps.getD 30 undef), (a.tmps.getD 31 undef), (a.tmps.getD 32 undef), undef, undef, undef, undef, undef, undef, undef, undef, undef, undef, undef, undef, undef, undef, undef, undef, undef, undef, undef, undef, undef, undef, undef, undef, undef, undef, undef, undef, undef, undef, undef, undef, undef, undef, undef, undef, undef, undef, undef, undef, undef, undef, undef, undef, undef, undef, undef, undef, undef, undef, undef, undef, undef, undef, undef, undef, undef, undef, undef, undef, undef, undef, undef, undef, undef, undef, undef, undef, undef, undef, undef, undef, undef, undef, undef, undef, undef, undef, undef, undef, undef, undef, undef, undef, undef, undef, undef, undef, undef, undef, undef, undef, undef, undef, undef, undef, undef, undef, undef, undef, undef, undef, undef, undef, undef, undef, undef, undef, undef, undef, undef, undef, undef, undef, undef, undef, undef, undef, undef, undef, undef, undef, undef, undef, undef, undef, undef, undef, undef, undef, undef, undef, undef, undef, undef, undef, undef, undef, undef, undef, undef, undef, undef, undef], defers := [] })
    (hr : W.heap[w.heap.size]? = some (.cells #[.string ⟨#[]⟩, .int .i64 0, .string ⟨#[]⟩, .string ⟨#[]⟩, .int .i64 0, .int .i64 0, .slice none 0 0] 44 (0, 0))) (hb : W.heap[w.heap.size + 1]? = some (.cells #[.string x0, .int .i64 0, .string ⟨#[]⟩, .string ⟨#[]⟩, .int .i64 0, .int .i64 0, .slice none 0 0] 44 (0, 0)))
    (hT0 : TextsAt w (.slice (some ⟨b, o, none⟩) (x0 :: x1 :: x2 :: r).length c) (x0 :: x1 :: x2 :: r)) (hT : TextsAt w (.slice a5 r.length c5) r) (K0 : Kept (fun _ => False) w W) (hs : ∀ s ∈ x0 :: x1 :: x2 :: r, s.size ≤ 1000000) (hl : (x0 :: x1 :: x2 :: r).length ≤ 1000000) (h0 : nameP x0 = true) :
    nodeMid.wp Tryd.prog (bodyPost Tryd.prog Tryd.f18 (RNodePost w (nodeR (x0 :: x1 :: x2 :: r)))) a W := by
  rw [ha]
  exact mid_any (u := fun i => a.tmps.getD i undef) hr hb hT0 hT K0 hs hl h0

theorem ret_cells {V : World} {b : Nat} {v0 v1 v2 v3 v4 v5 v6 : Value} {tmps : Array Value} {bl : Bool} {R : Ending → World → Prop} (g : V.heap[b]? = some (.cells #[v0, v1, v2, v3, v4, v5, v6] 44 (0, 0)))
    (h2 : tmps.getD 2 undef = .pointer (some ⟨b, 0, none⟩)) (h3 : tmps.getD 3 undef = .bool bl)
    (hR : R (.returned (.tuple #[.agg #[v0, v1, v2, v3, v4, v5, v6], .bool bl])) V) : bodyPost Tryd.prog Tryd.f18 R .ret { tmps := tmps, defers := [] } V := by
  obtain ⟨⟨g0, g1, g2, g3, g4, g5, g6⟩, _⟩ := seven g
  refine bodyPost_ret ?_ rfl hR
  rw [Array.getD_eq_getD_getElem?] at h2 h3
  simp [results, go_sem, g0, g1, g2, g3, g4, g5, g6, h2, h3]
  try rfl

set_option maxRecDepth 100000 in
set_option maxHeartbeats 8000000 in
theorem refNode8_any (w : World) (a : Option Addr) (c : Nat) (ws : List ByteArray) (h : TextsAt w (.slice a ws.length c) ws) (hs : ∀ s ∈ ws, s.size ≤ 1000000) (hl : ws.length ≤ 1000000) :
    Calls Tryd.prog 18 #[.slice a ws.length c] w (RNodePost w (nodeR ws)) := by
  have short : ∀ n, n < 3 → Calls Tryd.prog 18 #[.slice a n c] w (RNodePost w none) := by
    intro n hn
    have n3 : (n : Int) < 3 := by omega
    clear h hs hl
    go_enter Tryd.func18, Tryd.ntmps18
    go_wp2_with fail
    exact ret_cells (heap_alloc_new _ _) rfl rfl (tail_none (Kept.alloc _ _ _) rfl)
  match ws, h, hs, hl with
  | [], _, _, _ => exact short 0 (by omega)
  | [_], _, _, _ => exact short 1 (by omega)
  | [_, _], _, _, _ => exact short 2 (by omega)
  | x0 :: x1 :: x2 :: r, h, hs, hl =>
    obtain ⟨b, o, rfl, hc, hx⟩ := h.one
    have y0 := keepC (Kept.alloc (fun _ => False) w (.cells #[.string ⟨#[]⟩, .int .i64 0, .string ⟨#[]⟩, .string ⟨#[]⟩, .int .i64 0, .int .i64 0, .slice none 0 0] 44)) (hx 0 (by simp)) (fun _ _ h => h)
    simp only [List.getElem_cons_zero, Nat.add_zero] at y0
    have hN := fun V => refName_any V x0 (Nat.le_trans (hs x0 (by simp)) (by decide))
    have hl2 : (x0 :: x1 :: x2 :: r).length = r.length + 3 := rfl
    have n3 : ¬ (((x0 :: x1 :: x2 :: r).length : Nat) : Int) < 3 := by omega
    have n0 : (0 : Int) < (((x0 :: x1 :: x2 :: r).length : Nat) : Int) := by omega
    have n4 : (3 : Int) ≤ (((x0 :: x1 :: x2 :: r).length : Nat) : Int) := by omega
    have n5 : (((x0 :: x1 :: x2 :: r).length : Nat) : Int) ≤ (c : Int) := by omega
    have HT : Hid (TextsAt w (.slice (some ⟨b, o, none⟩) (x0 :: x1 :: x2 :: r).length c) (x0 :: x1 :: x2 :: r)) := h
    have HE : Hid (∀ (al : Option Addr) (cl : Nat), (c = 3 → cl = 0) → (c ≠ 3 → al = some ⟨b, o + 3, none⟩ ∧ cl = c - 3) → TextsAt w (.slice al r.length cl) r) := fun al cl e1 e2 => by
      by_cases e : c = 3
      · have : r = [] := List.length_eq_zero_iff.1 (by omega)
        subst this
        rw [e1 e]
        exact texts_nil _ _ _ (Nat.zero_le _)
      · obtain ⟨rfl, rfl⟩ := e2 e
        exact texts_drop (k := 3) h (by simp)
    have HS : Hid (∀ s ∈ x0 :: x1 :: x2 :: r, s.size ≤ 1000000) := hs
    have HL : Hid ((x0 :: x1 :: x2 :: r).length ≤ 1000000) := hl
    cases h0 : nameP x0 with
    | false =>
      rw [h0] at hN
      have HN : Hid (nodeR (x0 :: x1 :: x2 :: r) = none) := by show _ = _; simp [nodeR, h0]
      rw [HN.out]
      clear h hs hl hx hl2 h0 short
      generalize (x0 :: x1 :: x2 :: r).length = n at *
      go_enter Tryd.func18, Tryd.ntmps18
      go_wp2_with (first
        | (go_at_call 17; refine (hN _).mono ?_; rintro e w5 ⟨rfl, hw⟩; subst w5; clear hN)
        | fail)
      exact ret_cells (heap_alloc_new _ _) rfl rfl (tail_none (Kept.alloc _ _ _) rfl)
    | true =>
      rw [h0] at hN
      have H0 : Hid (nameP x0 = true) := h0
      have HL2 : Hid ((x0 :: x1 :: x2 :: r).length - 3 = r.length) := rfl
      have y1 := keepC (Kept.alloc (fun _ => False) w (.cells #[.string ⟨#[]⟩, .int .i64 0, .string ⟨#[]⟩, .string ⟨#[]⟩, .int .i64 0, .int .i64 0, .slice none 0 0] 44)) (hx 0 (by simp)) (fun _ _ h => h)
      generalize hP : RNodePost w (nodeR (x0 :: x1 :: x2 :: r)) = P
      have HP : Hid _ := hP
      clear h hs hl hx hl2 h0 short hP y1
      generalize hnn : (x0 :: x1 :: x2 :: r).length = n at *
      have HN : Hid _ := hnn
      clear hnn
      go_enter Tryd.func18, Tryd.ntmps18
      generalize hQ : bodyPost Tryd.prog Tryd.f18 P = Q
      have HQ : Hid _ := hQ
      clear hQ
      refine wp_seq_k (fun K1 h1 => ?_)
      have H1 : Hid _ := h1
      clear h1
      go_wp2_with fail
      refine H1.out _ _ ?_
      clear H1 K1
      refine wp_seq_k (fun K1 h1 => ?_)
      have H1 : Hid _ := h1
      clear h1
      go_wp2_with (first
        | (go_at_call 17; refine (hN _).mono ?_; rintro e w5 ⟨rfl, hw⟩; subst w5; clear hN)
        | fail)
      refine H1.out _ _ ?_
      clear H1 K1
      refine wp_seq_k (fun K1 h1 => ?_)
      have H1 : Hid _ := h1
      clear h1
      go_wp2_with fail
      refine H1.out _ _ ?_
      clear H1 K1
      refine wp_seq_k (fun K1 h1 => ?_)
      have H1 : Hid (∀ a w, nodeMid.wp Tryd.prog Q a w → K1 a w) := h1
      clear h1
      go_wp2_with fail
      all_goals
        rw [show n - 3 = r.length by rw [← HN.out]; rfl]
        refine H1.out _ _ ?_
        rw [← HQ.out, ← HP.out, ← HN.out]
        have hTT := HT.out
        rw [← HN.out] at hTT
        have hLL := HL.out
        rw [← HN.out] at hLL
        refine mid_at rfl ?_ ?_ (by first | exact hTT | (have e : c = 3 := (by assumption); rw [e] at hTT; exact hTT)) (HE.out _ _ ?_ ?_) ((Kept.alloc _ _ _).and (Kept.alloc _ _ _)) HS.out hLL H0.out
        · rw [Below.heap_alloc _ _ _ (by simp)]; exact heap_alloc_new _ _
        · have h := heap_alloc_new (w.alloc (.cells #[.string ⟨#[]⟩, .int .i64 0, .string ⟨#[]⟩, .string ⟨#[]⟩, .int .i64 0, .int .i64 0, .slice none 0 0] 44)) (.cells #[.string x0, .int .i64 0, .string ⟨#[]⟩, .string ⟨#[]⟩, .int .i64 0, .int .i64 0, .slice none 0 0] 44); rw [World.size_alloc] at h; exact h
        all_goals (intro e; first | omega | exact ⟨rfl, rfl⟩)

end Go.Proofs.YtlholgpenpfpbaaDoor

/-
  A node's words: the document's node and the program's reader say the same. Nothing here speaks of a program.
-/
namespace Go.Proofs.YtlholgpenpfpbaaDoor
open Go.RowKit

theorem nameP_empty : nameP ByteArray.empty = false := by decide

theorem rTail_bad (l : List ByteArray) (b : Bool) : (rTail (l, b)).2.2 = (b || (aftR l).isNone) := by
  cases l with
  | nil => simp [rTail, rTake, rEnd, aftR]
  | cons x t =>
    by_cases hx : x = aftB
    · cases t with
      | nil => simp [rTail, rTake, rEnd, aftR, hx, rNames, rName, rWord]
      | cons y t =>
        simp only [rTail, rTake, rEnd, aftR, hx, rNames, rName, rWord, if_true, List.cons_ne_nil, if_false, anyBad]
        cases b <;> cases hy : nameP y <;> cases ht : t.all nameP <;> simp [hy, ht, List.any_eq_not_all_not] <;> simpa using ht
    · simp [rTail, rTake, rEnd, aftR, hx]

theorem rTail_names {l t : List ByteArray} {b : Bool} (h : aftR l = some t) : (rTail (l, b)).1 = t := by
  cases l with
  | nil => simpa [rTail, rTake, aftR] using h
  | cons x s =>
    by_cases hx : x = aftB
    · cases s with
      | nil => simp [aftR] at h
      | cons y s =>
        simp only [aftR, hx, if_true, List.cons_ne_nil, if_false] at h
        split at h
        · simp only [Option.some.injEq] at h
          subst h
          simp [rTail, rTake, hx, rNames, rName, rWord]
        · cases h
    · simp [aftR, hx] at h

/-- What the reader does where the document's option is asked. -/
def rOpt (nm : ByteArray) (d : Int) (r : RS) : Int × RS := if (rTake nm r).1 then rNum (rTake nm r).2 else (d, (rTake nm r).2)

theorem rOpt_ok {r : List ByteArray} {nm : ByteArray} (d : Int) (b : Bool) (h : (optR r nm).2.2.2 = true) : rOpt nm d (r, b) = (if (optR r nm).2.1 then (optR r nm).1 else d, ((optR r nm).2.2.1, b)) := by
  cases r with
  | nil => simp [rOpt, rTake, optR]
  | cons x t =>
    by_cases hx : x = nm
    · cases t with
      | nil => simp [optR, hx] at h
      | cons y u =>
        have h2 : numP y = true := by
          simp only [optR, hx, if_true, numR] at h
          split at h
          · assumption
          · simp at h
        simp [rOpt, rTake, optR, hx, rNum, rWord, numR, h2]
    · simp [rOpt, rTake, optR, hx]

theorem rOpt_no {r : List ByteArray} {nm : ByteArray} (d : Int) (b : Bool) (h : (optR r nm).2.2.2 = false) : (rOpt nm d (r, b)).2.2 = true := by
  cases r with
  | nil => simp [optR] at h
  | cons x t =>
    by_cases hx : x = nm
    · cases t with
      | nil => simp [rOpt, rTake, hx, rNum, rWord]
               try split
               all_goals rfl
      | cons y u =>
        have h2 : numP y = false := by
          simp only [optR, hx, if_true, numR] at h
          split at h
          · simp at h
          · simp_all
        simp [rOpt, rTake, hx, rNum, rWord, h2]
    · simp [optR, hx] at h

theorem rOpt_bad (r : List ByteArray) (nm : ByteArray) (d : Int) : (rOpt nm d (r, true)).2.2 = true := by
  cases r with
  | nil => simp [rOpt, rTake]
  | cons x t =>
    by_cases hx : x = nm
    · cases t with
      | nil => simp [rOpt, rTake, hx, rNum, rWord]
               try split
               all_goals rfl
      | cons y u =>
        simp [rOpt, rTake, hx, rNum, rWord]
        split <;> rfl
    · simp [rOpt, rTake, hx]

theorem rKind_act (r : RS) : rKind actB r = ((1, (rName r).1, ⟨#[]⟩, (rOpt tmoB 0 (rOpt triB 1 (rName r).2).2).1, (rOpt triB 1 (rName r).2).1), (rOpt tmoB 0 (rOpt triB 1 (rName r).2).2).2) := by
  simp only [rKind, if_true]
  rfl

theorem optR_zero (r : List ByteArray) (nm : ByteArray) (h : (optR r nm).2.1 = false) : (optR r nm).1 = 0 := by
  unfold optR at h ⊢
  split
  · rfl
  · split
    · split
      · rfl
      · simp_all
    · rfl

theorem kind_ok {x1 x2 : ByteArray} {r l : List ByteArray} {k : Int × ByteArray × ByteArray × Int × Int} (b : Bool) (h : kindR x1 x2 r = some (k, true, l)) : rKind x1 (x2 :: r, b) = (k, (l, b)) := by
  unfold kindR at h
  by_cases ka : x1 = actB
  · rw [if_pos ka] at h
    subst ka
    simp only [Option.some.injEq, Prod.mk.injEq, Bool.and_eq_true] at h
    obtain ⟨rfl, ⟨⟨h1, h2⟩, h3⟩, rfl⟩ := h
    rw [rKind_act]
    have e1 : rName (x2 :: r, b) = (x2, (r, b)) := by simp [rName, rWord, h3]
    rw [e1]
    simp only []
    rw [rOpt_ok 1 b h1]
    simp only []
    rw [rOpt_ok 0 b h2]
    simp only [Prod.mk.injEq, and_true, true_and]
    cases hz : (optR (optR r triB).2.2.1 tmoB).2.1
    · simp [optR_zero _ _ hz]
    · simp
  · rw [if_neg ka] at h
    by_cases kt : x1 = timB
    · rw [if_pos kt] at h
      simp only [Option.some.injEq, Prod.mk.injEq] at h
      obtain ⟨rfl, h1, rfl⟩ := h
      have h2 : numP x2 = true := by
        unfold numR at h1
        split at h1
        · assumption
        · simp at h1
      unfold rKind
      rw [if_neg ka, if_pos kt]
      simp [rNum, rWord, h2, numR]
    · rw [if_neg kt] at h
      by_cases kc : x1 = chiB
      · rw [if_pos kc] at h
        simp only [Option.some.injEq, Prod.mk.injEq] at h
        obtain ⟨rfl, h1, rfl⟩ := h
        unfold rKind
        rw [if_neg ka, if_neg kt, if_pos kc]
        simp [rName, rWord, h1]
      · rw [if_neg kc] at h
        by_cases kw : x1 = waiB
        · rw [if_pos kw] at h
          simp only [Option.some.injEq, Prod.mk.injEq] at h
          obtain ⟨rfl, h1, rfl⟩ := h
          unfold rKind
          rw [if_neg ka, if_neg kt, if_neg kc, if_pos kw]
          simp [rName, rWord, h1]
        · rw [if_neg kw] at h
          by_cases ks : x1 = senB
          · rw [if_pos ks] at h
            cases r with
            | nil => cases h
            | cons x3 t =>
              simp only [Option.some.injEq, Prod.mk.injEq, Bool.and_eq_true] at h
              obtain ⟨rfl, ⟨h1, h2⟩, rfl⟩ := h
              unfold rKind
              rw [if_neg ka, if_neg kt, if_neg kc, if_neg kw, if_pos ks]
              simp [rName, rFlow, rWord, h1, h2]
          · rw [if_neg ks] at h
            cases h

theorem kind_no {x1 x2 : ByteArray} {r : List ByteArray} (b : Bool) (h : ∀ k l, kindR x1 x2 r ≠ some (k, true, l)) : (rKind x1 (x2 :: r, b)).2.2 = true := by
  by_cases ka : x1 = actB
  · subst ka
    rw [rKind_act]
    have e1 : rName (x2 :: r, b) = (x2, (r, b || !nameP x2)) := by simp [rName, rWord]
    rw [e1]
    simp only []
    cases h3 : nameP x2 with
    | false =>
      simp only [Bool.not_false, Bool.or_true]
      have := rOpt_bad r triB 1
      generalize rOpt triB 1 (r, true) = q at *
      obtain ⟨v, q1, q2⟩ := q
      simp only [] at this
      subst this
      exact rOpt_bad _ _ _
    | true =>
      simp only [Bool.not_true, Bool.or_false]
      cases h1 : (optR r triB).2.2.2 with
      | false =>
        have := rOpt_no 1 b h1
        generalize rOpt triB 1 (r, b) = q at *
        obtain ⟨v, q1, q2⟩ := q
        simp only [] at this
        subst this
        exact rOpt_bad _ _ _
      | true =>
        rw [rOpt_ok 1 b h1]
        simp only []
        cases h2 : (optR (optR r triB).2.2.1 tmoB).2.2.2 with
        | false => exact rOpt_no 0 b h2
        | true =>
          exfalso
          refine h (1, x2, ⟨#[]⟩, (optR (optR r triB).2.2.1 tmoB).1, if (optR r triB).2.1 then (optR r triB).1 else 1) (optR (optR r triB).2.2.1 tmoB).2.2.1 ?_
          unfold kindR
          rw [if_pos rfl, h1, h2, h3]
          rfl
  · by_cases kt : x1 = timB
    · have h2 : numP x2 = false := by
        cases hn : numP x2 with
        | false => rfl
        | true =>
          exfalso
          refine h (2, ⟨#[]⟩, ⟨#[]⟩, (numR x2).1, 0) r ?_
          unfold kindR
          rw [if_neg ka, if_pos kt]
          simp [numR, hn]
      unfold rKind
      rw [if_neg ka, if_pos kt]
      simp [rNum, rWord, h2]
    · by_cases kc : x1 = chiB
      · have h2 : nameP x2 = false := by
          cases hn : nameP x2 with
          | false => rfl
          | true =>
            exfalso
            refine h (3, x2, ⟨#[]⟩, 0, 0) r ?_
            unfold kindR
            rw [if_neg ka, if_neg kt, if_pos kc, hn]
        unfold rKind
        rw [if_neg ka, if_neg kt, if_pos kc]
        simp [rName, rWord, h2]
      · by_cases kw : x1 = waiB
        · have h2 : nameP x2 = false := by
            cases hn : nameP x2 with
            | false => rfl
            | true =>
              exfalso
              refine h (4, x2, ⟨#[]⟩, 0, 0) r ?_
              unfold kindR
              rw [if_neg ka, if_neg kt, if_neg kc, if_pos kw, hn]
          unfold rKind
          rw [if_neg ka, if_neg kt, if_neg kc, if_pos kw]
          simp [rName, rWord, h2]
        · by_cases ks : x1 = senB
          · unfold rKind
            rw [if_neg ka, if_neg kt, if_neg kc, if_neg kw, if_pos ks]
            cases r with
            | nil => simp [rName, rFlow, rWord]
            | cons x3 t =>
              cases h1 : flowP x2 with
              | false => simp [rName, rFlow, rWord, h1]
              | true =>
                cases h2 : nameP x3 with
                | false => simp [rName, rFlow, rWord, h2]
                | true =>
                  exfalso
                  refine h (5, x3, x2, 0, 0) t ?_
                  unfold kindR
                  rw [if_neg ka, if_neg kt, if_neg kc, if_neg kw, if_pos ks]
                  simp [h1, h2]
          · unfold rKind
            rw [if_neg ka, if_neg kt, if_neg kc, if_neg kw, if_neg ks]

theorem rKind_bad (x : ByteArray) (l : List ByteArray) : (rKind x (l, true)).2.2 = true := by
  cases l with
  | nil =>
    unfold rKind
    split
    · have e1 : rName (([] : List ByteArray), true) = (ByteArray.empty, ([], true)) := by simp [rName, rWord]
      rw [e1]
      have := rOpt_bad [] triB 1
      show (rOpt tmoB 0 (rOpt triB 1 ([], true)).2).2.2 = true
      generalize rOpt triB 1 (([] : List ByteArray), true) = q at *
      obtain ⟨v, q1, q2⟩ := q
      simp only [] at this
      subst this
      exact rOpt_bad _ _ _
    · split
      · simp only [rNum, rWord]; by_cases hq : numP ByteArray.empty = true <;> simp [hq]
      · split
        · simp [rName, rWord]
        · split
          · simp [rName, rWord]
          · split
            · simp [rName, rFlow, rWord]
            · rfl
  | cons x2 r =>
    by_cases h : ∃ k l, kindR x x2 r = some (k, true, l)
    · obtain ⟨k, l, h⟩ := h
      rw [kind_ok true h]
    · exact kind_no true (fun k l e => h ⟨k, l, e⟩)

theorem rKind_nil (x : ByteArray) (b : Bool) : (rKind x ([], b)).2.2 = true := by
  unfold rKind
  split
  · have e1 : rName (([] : List ByteArray), b) = (ByteArray.empty, ([], true)) := by simp [rName, rWord]
    rw [e1]
    have := rOpt_bad [] triB 1
    show (rOpt tmoB 0 (rOpt triB 1 ([], true)).2).2.2 = true
    generalize rOpt triB 1 (([] : List ByteArray), true) = q at *
    obtain ⟨v, q1, q2⟩ := q
    simp only [] at this
    subst this
    exact rOpt_bad _ _ _
  · split
    · simp only [rNum, rWord]; by_cases hq : numP ByteArray.empty = true <;> simp [hq]
    · split
      · simp [rName, rWord]
      · split
        · simp [rName, rWord]
        · split
          · simp [rName, rFlow, rWord]
          · rfl

theorem tail_bad {q : RS} (h : q.2 = true) : (rTail q).2.2 = true := by
  obtain ⟨l, b⟩ := q
  rw [rTail_bad]
  simp only [] at h
  simp [h]

/-- The document's node and the program's say the same of a line's words. -/
theorem node_same8 (ws : List ByteArray) : nodeR ws = if (rNode (ws, false)).2.2 then none else some (rNode (ws, false)).1 := by
  match ws with
  | [] => 
    have : (rNode (([] : List ByteArray), false)).2.2 = true := tail_bad (rKind_nil _ _)
    rw [if_pos this]
    rfl
  | [x0] =>
    have : (rNode ([x0], false)).2.2 = true := tail_bad (rKind_nil _ _)
    rw [if_pos this]
    rfl
  | [x0, x1] =>
    have : (rNode ([x0, x1], false)).2.2 = true := tail_bad (rKind_nil _ _)
    rw [if_pos this]
    rfl
  | x0 :: x1 :: x2 :: r =>
    cases h0 : nameP x0 with
    | false =>
      have : (rNode (x0 :: x1 :: x2 :: r, false)).2.2 = true := by
        refine tail_bad ?_
        have e : (rName (x0 :: x1 :: x2 :: r, false)).2 = (x1 :: x2 :: r, true) := by simp [rName, rWord, h0]
        rw [e]
        exact rKind_bad _ _
      rw [if_pos this]
      simp [nodeR, h0]
    | true =>
      have e : (rName (x0 :: x1 :: x2 :: r, false)) = (x0, (x1 :: x2 :: r, false)) := by simp [rName, rWord, h0]
      have ew : rWord (x1 :: x2 :: r, false) = (x1, (x2 :: r, false)) := rfl
      unfold rNode
      rw [e]
      simp only [ew]
      by_cases h : ∃ k l, kindR x1 x2 r = some (k, true, l)
      · obtain ⟨k, l, h⟩ := h
        rw [nodeR_some h0 h, kind_ok false h]
        simp only [nodeB, if_true, rTail_bad, Bool.false_or]
        cases ha : aftR l with
        | none => simp
        | some t => simp [rTail_names ha]
      · have hb := tail_bad (kind_no (x1 := x1) (x2 := x2) (r := r) false (fun k l e => h ⟨k, l, e⟩))
        rw [if_pos hb]
        cases hk : kindR x1 x2 r with
        | none => exact nodeR_none h0 hk
        | some p =>
          obtain ⟨k, ok, l⟩ := p
          rw [nodeR_some h0 hk]
          cases ok with
          | true => exact absurd ⟨k, l, hk⟩ h
          | false => simp [nodeB]

end Go.Proofs.YtlholgpenpfpbaaDoor

/-
  A text as the row of its lines: what the program's reader answers, said line by line. Nothing here speaks of a program.
-/
namespace Go.Proofs.YtlholgpenpfpbaaDoor
open Go.RowKit

def rfK : List ByteArray → Nat → Bool → ByteArray → List Nd → List Nat → Option (ByteArray × List Nd × List Nat) × Nat
  | [], line, b, nm, ns, ls => if b then (some (nm, ns, ls), 0) else (none, line)
  | x :: t, line, b, nm, ns, ls =>
    if rSilent (wordsP x, false) then rfK t (line + 1) b nm ns ls
    else if b = false then
      (if (rHead (wordsP x, false)).2.2 then (none, line) else rfK t (line + 1) true (rHead (wordsP x, false)).1 ns ls)
    else
      (if (rNode (wordsP x, false)).2.2 then (none, line) else rfK t (line + 1) true nm (ns ++ [(rNode (wordsP x, false)).1]) (ls ++ [line]))

theorem rl_fold : ∀ (n : Nat) (s : ByteArray), s.size ≤ n → ∀ (line : Nat) (b : Bool) (nm : ByteArray) (ns : List Nd) (ls : List Nat), rlK (s.size + 1) s line b nm ns ls = rfK (linesP s) line b nm ns ls
  | n, s, hn, line, b, nm, ns, ls => by
    by_cases h0 : s.size = 0
    · rw [linesP_nil h0]
      simp only [rlK, rfK, h0, if_true]
    · have hp : 0 < s.size := by omega
      have hc := cutB_size hp
      cases n with
      | zero => omega
      | succ n =>
        have ih := rl_fold n (cutB s) (by omega)
        rw [rl_step hp, linesP_cons hp]
        simp only [rfK, ih]

theorem rlP_fold (t : ByteArray) : rlP t = rfK (linesP t) 1 false ⟨#[]⟩ [] [] := rl_fold t.size t (Nat.le_refl _) 1 false ⟨#[]⟩ [] []

/-- The heading's name. -/
def headR : List ByteArray → Option ByteArray
  | [x, y] => if x = wfB ∧ nameP y = true then some y else none
  | _ => none

theorem head_same (ws : List ByteArray) : headR ws = if (rHead (ws, false)).2.2 then none else some (rHead (ws, false)).1 := by
  match ws with
  | [] => simp [headR, rHead, rTake, rName, rWord, rEnd]
  | [x] =>
    by_cases hx : x = wfB <;> simp [headR, rHead, rTake, rName, rWord, rEnd, hx]
  | [x, y] =>
    by_cases hx : x = wfB
    · cases hy : nameP y <;> simp [headR, rHead, rTake, rName, rWord, rEnd, hx, hy]
    · simp [headR, rHead, rTake, rName, rWord, rEnd, hx]
  | x :: y :: z :: r =>
    by_cases hx : x = wfB
    · simp [headR, rHead, rTake, rName, rWord, rEnd, hx]
    · simp [headR, rHead, rTake, rName, rWord, rEnd, hx]

end Go.Proofs.YtlholgpenpfpbaaDoor

/-
  The document's Lines.
-/
namespace Go.Proofs.YtlholgpenpfpbaaDoor
open Go.RowKit

theorem data_at {r : ByteArray} {k : Nat} (h : k < r.size) : r.data.toList[k]? = some (r.get! k) := by
  rw [get_at h]
  obtain ⟨d⟩ := r
  have h' : k < d.toList.length := by rw [Array.length_toList]; exact h
  rw [List.getElem?_eq_getElem h']
  rfl

theorem nl_is {r : ByteArray} {o : Nat} (h : o < r.size) (h1 : r.get! o = 10) (h2 : ∀ k, k < o → r.get! k ≠ 10) : nlAt r = (o : Int) := by
  unfold nlAt
  have hge := Lib.indexByte_ge r.data.toList 10
  by_cases c : Lib.indexByte r.data.toList 10 = -1
  · exact absurd (by rw [data_at h, h1]) (Lib.indexByte_none c o)
  · obtain ⟨z, hz⟩ : ∃ z : Nat, Lib.indexByte r.data.toList 10 = (z : Int) := ⟨(Lib.indexByte r.data.toList 10).toNat, by omega⟩
    obtain ⟨g1, g2⟩ := Lib.indexByte_some hz
    have hzl : z < r.size := by
      have := (List.getElem?_eq_some_iff.1 g1).1
      simpa using this
    rw [hz]
    rcases Nat.lt_trichotomy z o with e | e | e
    · rw [data_at hzl] at g1
      exact absurd (Option.some.inj g1) (h2 z e)
    · rw [e]
    · exact absurd (by rw [data_at h, h1]) (g2 o e)

theorem nl_no {r : ByteArray} (h2 : ∀ k, k < r.size → r.get! k ≠ 10) : nlAt r = -1 := by
  unfold nlAt
  have hge := Lib.indexByte_ge r.data.toList 10
  by_cases c : Lib.indexByte r.data.toList 10 = -1
  · exact c
  · obtain ⟨z, hz⟩ : ∃ z : Nat, Lib.indexByte r.data.toList 10 = (z : Int) := ⟨(Lib.indexByte r.data.toList 10).toNat, by omega⟩
    obtain ⟨g1, _⟩ := Lib.indexByte_some hz
    have hzl : z < r.size := by
      have := (List.getElem?_eq_some_iff.1 g1).1
      simpa using this
    rw [data_at hzl] at g1
    exact absurd (Option.some.inj g1) (h2 z hzl)

theorem get_extract {t : ByteArray} {a k : Nat} (h : a + k < t.size) : (t.extract a t.size).get! k = t.get! (a + k) := by
  have h1 : k < (t.extract a t.size).size := by rw [ByteArray.size_extract]; omega
  rw [get_at h1, get_at h, ByteArray.getElem_extract]

/-- The lines from a place on. -/
def linesFrom (t : ByteArray) (i : Nat) : List ByteArray := linesP (t.extract i t.size)

theorem linesFrom_zero (t : ByteArray) : linesFrom t 0 = linesP t := by unfold linesFrom; rw [ByteArray.extract_zero_size]
theorem linesFrom_end {t : ByteArray} {i : Nat} (h : t.size ≤ i) : linesFrom t i = [] := linesP_nil (by rw [ByteArray.size_extract]; omega)

theorem linesFrom_line {t : ByteArray} {a i : Nat} (hai : a ≤ i) (hi : i < t.size) (hn : t.get! i = 10) (hw : ∀ j, a ≤ j → j < i → t.get! j ≠ 10) : linesFrom t a = t.extract a i :: linesFrom t (i + 1) := by
  unfold linesFrom
  have hsz : (t.extract a t.size).size = t.size - a := by rw [ByteArray.size_extract]; omega
  have hnl : nlAt (t.extract a t.size) = ((i - a : Nat) : Int) := nl_is (by omega) (by rw [get_extract (by omega), show a + (i - a) = i by omega]; exact hn) (fun k hk => by rw [get_extract (by omega)]; exact hw _ (by omega) (by omega))
  rw [linesP_cons (by omega)]
  have h0 : (0 : Int) ≤ ((i - a : Nat) : Int) := by omega
  have eA : cutA (t.extract a t.size) = t.extract a i := by
    unfold cutA
    rw [hnl, if_pos h0, Int.toNat_natCast, ByteArray.extract_extract]
    congr 1
    omega
  have eB : cutB (t.extract a t.size) = t.extract (i + 1) t.size := by
    unfold cutB
    rw [hnl, if_pos h0, Int.toNat_natCast, ByteArray.extract_extract, hsz]
    congr 1 <;> omega
  rw [eA, eB]

theorem linesFrom_last {t : ByteArray} {a : Nat} (ha : a < t.size) (hw : ∀ j, a ≤ j → j < t.size → t.get! j ≠ 10) : linesFrom t a = [t.extract a t.size] := by
  unfold linesFrom
  have hsz : (t.extract a t.size).size = t.size - a := by rw [ByteArray.size_extract]; omega
  have hnl : nlAt (t.extract a t.size) = -1 := nl_no (fun k hk => by rw [get_extract (by omega)]; exact hw _ (by omega) (by omega))
  rw [linesP_cons (by omega)]
  have eA : cutA (t.extract a t.size) = t.extract a t.size := by unfold cutA; rw [hnl]; rfl
  have eB : (cutB (t.extract a t.size)).size = 0 := by unfold cutB; rw [hnl]; rfl
  rw [eA, linesP_nil eB]

theorem linesK_few : ∀ (f : Nat) (s : ByteArray), (linesK f s).length ≤ s.size ∧ ∀ l ∈ linesK f s, l.size ≤ s.size
  | 0, s => ⟨Nat.zero_le _, fun l h => by simp [linesK] at h⟩
  | f + 1, s => by
    rw [linesK]
    split
    · exact ⟨Nat.zero_le _, fun l h => by simp at h⟩
    · rename_i h0
      have hc := cutB_size (t := s) (by omega)
      have ha := cutA_size s
      obtain ⟨h1, h2⟩ := linesK_few f (cutB s)
      refine ⟨by simp; omega, fun l hl => ?_⟩
      rcases List.mem_cons.1 hl with rfl | hl
      · exact ha
      · have := h2 l hl; omega

theorem lines_few (s : ByteArray) : (linesP s).length ≤ s.size ∧ ∀ l ∈ linesP s, l.size ≤ s.size := linesK_few _ s

set_option maxRecDepth 100000 in
set_option maxHeartbeats 4000000 in
theorem refLines_any (w : World) (t : ByteArray) (hs : t.size ≤ 100000) :
    Calls Tryd.prog 15 #[.string t] w fun e w' => ∃ a c, e = .returned (.slice a (linesP t).length c) ∧ w'.ownsRow w.heap.size 9 1 (.slice a (linesP t).length c) (linesP t).length (strsV (linesP t)) ∧ Kept (fun _ => False) w w' := by
  obtain ⟨j0, hj0, hy0, hy1, hy2⟩ := info_parts Tryd.info9
  have hwl := (lines_few t).1
  go_enter Tryd.func15, Tryd.ntmps15
  go_wp2_with fail
  go_loopw [5, 4, 3] (fun q u v wr => ∃ (i b : Nat) (L : List ByteArray) (a : Option Addr) (c : Nat), i ≤ t.size ∧ b ≤ i ∧ q = .int .i64 i ∧ u = .int .i64 b ∧ v = .slice a L.length c ∧ L ++ linesFrom t b = linesP t ∧ (∀ j, b ≤ j → j < i → t.get! j ≠ 10) ∧ wr.ownsRow w.heap.size 9 1 (.slice a L.length c) L.length (strsV L) ∧ Kept (fun j => w.heap.size ≤ j) w wr) (fun q _ _ _ => t.size - (intOf q).toNat)
  case atStart => exact ⟨0, 0, [], none, 0, Nat.zero_le _, Nat.le_refl _, rfl, rfl, rfl, by rw [linesFrom_zero]; rfl, fun j h1 h2 => by omega, World.ownsRow_nil _ _ _ _, Kept.refl _ _⟩
  case round =>
    obtain ⟨i, b, L, a, c, hi, hbi, rfl, rfl, rfl, hL, hnb, O, K⟩ := hrel
    have HL : Hid (L ++ linesFrom t b = linesP t) := hL
    have HNb : Hid (∀ j, b ≤ j → j < i → t.get! j ≠ 10) := hnb
    have HO : Hid (wr.ownsRow w.heap.size 9 1 (.slice a L.length c) L.length (strsV L)) := O
    have hLl : L.length ≤ 100000 := by have := congrArg List.length hL; rw [List.length_append] at this; omega
    have hzz := K.size
    clear hL O hnb
    by_cases hlt : i < t.size
    · have e0 : (i : Int) < (t.size : Int) := by omega
      have hb' : (((t[i]).toNat : Int) == 10) = decide (t.get! i = 10) := byte_is hlt 10
      by_cases h10 : t.get! i = 10
      · simp only [h10, decide_true] at hb'
        have HX : Hid ((L ++ [t.extract b i]) ++ linesFrom t (i + 1) = linesP t) := by
          show _ = _
          rw [← HL.out, linesFrom_line hbi hlt h10 HNb.out, List.append_assoc]
          rfl
        have HC : Hid (∀ u ∈ [Value.string (t.extract b i)], u.oneCell' = true) := strsV_one [t.extract b i]
        have e2 : (b : Int) ≤ (i : Int) := by omega
        have e3 : (i : Int) ≤ (t.size : Int) := by omega
        generalize hm : L.length = m at *
        clear h10
        go_wp2_with (first
          | (at_builtin; refine wpList_append_src _ rfl _ _ 22 rfl w.heap.size 9 j0 _ 1 16 Tryd.underlying22 hj0 hy0 hy1 hy2 rfl (by decide) (.slice a m c) m _ rfl (HO.out.alloc _) _ rfl 1 _ (.inl ⟨_, 1, rfl, rfl, World.news_of_block (heap_alloc_new _ _)⟩) HC.out (by unfold maxLen; omega) (by omega) (by simp; omega) ?_; intro a3 cap3 w7 ho3 hg3 _ hl3)
          | fail)
        have KG : Kept (fun g => w.heap.size ≤ g) (wr.alloc (.cells #[.string (t.extract b i)] 9)) w7 := Kept.grown hg3 (fun g e => (HO.out.lt g e).1)
        go_roundw
        case rel =>
          refine ⟨i + 1, i + 1, L ++ [t.extract b i], a3, cap3, by omega, Nat.le_refl _, by go_num, by go_num, by simp [hm], HX.out, fun j h1 h2 => by omega, ?_, (K.and (Kept.alloc _ _ _)).and KG⟩
          rw [List.length_append, List.length_singleton, hm, show strsV (L ++ [t.extract b i]) = strsV L ++ [.string (t.extract b i)] by unfold strsV; simp]
          exact ho3
        case measure => simp [intOf]; omega
      · simp only [h10, decide_false] at hb'
        have HX : Hid (∀ j, b ≤ j → j < i + 1 → t.get! j ≠ 10) := fun j h1 h2 => by
          by_cases e : j = i
          · subst e; exact h10
          · exact HNb.out j h1 (by omega)
        generalize hm : L.length = m at *
        clear h10
        go_wp2_with fail
        go_roundw
        case rel => exact ⟨i + 1, b, L, a, c, by omega, by omega, by go_num, rfl, by rw [hm], HL.out, HX.out, by rw [hm]; exact HO.out, K⟩
        case measure => simp [intOf]; omega
    · obtain rfl : i = t.size := by omega
      have e0 : ¬ (t.size : Int) < (t.size : Int) := by omega
      by_cases hbl : b < t.size
      · have e1 : (b : Int) < (t.size : Int) := by omega
        have e2 : (b : Int) ≤ (t.size : Int) := by omega
        have HX : Hid (L ++ [t.extract b t.size] = linesP t) := by show _ = _; rw [← HL.out, linesFrom_last hbl HNb.out]
        have HC : Hid (∀ u ∈ [Value.string (t.extract b t.size)], u.oneCell' = true) := strsV_one [t.extract b t.size]
        generalize hm : L.length = m at *
        go_wp2_with (first
          | (at_builtin; refine wpList_append_src _ rfl _ _ 22 rfl w.heap.size 9 j0 _ 1 16 Tryd.underlying22 hj0 hy0 hy1 hy2 rfl (by decide) (.slice a m c) m _ rfl (HO.out.alloc _) _ rfl 1 _ (.inl ⟨_, 1, rfl, rfl, World.news_of_block (heap_alloc_new _ _)⟩) HC.out (by unfold maxLen; omega) (by omega) (by simp; omega) ?_; intro a3 cap3 w7 ho3 hg3 _ hl3)
          | fail)
        have KG : Kept (fun g => w.heap.size ≤ g) (wr.alloc (.cells #[.string (t.extract b t.size)] 9)) w7 := Kept.grown hg3 (fun g e => (HO.out.lt g e).1)
        go_ret
        have hlen : (linesP t).length = m + 1 := by rw [← HX.out, List.length_append, hm]; rfl
        rw [hlen, ← HX.out, show strsV (L ++ [t.extract b t.size]) = strsV L ++ [.string (t.extract b t.size)] by unfold strsV; simp]
        exact ⟨a3, cap3, rfl, ho3, (Kept.refl (fun _ => False) w).trans ((K.and (Kept.alloc _ _ _)).and KG) (fun g h => .inr h)⟩
      · have e1 : ¬ (b : Int) < (t.size : Int) := by omega
        have hL := HL.out
        rw [linesFrom_end (by omega), List.append_nil] at hL
        have HLe : Hid (L = linesP t) := hL
        clear hL
        generalize hm : L.length = m at *
        go_wp2_with fail
        go_ret
        subst hm
        have e := HLe.out
        subst e
        exact ⟨a, c, rfl, HO.out, (Kept.refl (fun _ => False) w).trans K (fun g h => .inr h)⟩

end Go.Proofs.YtlholgpenpfpbaaDoor

/-
  The rows of an order; definitions that are taken; one node more; rings: in which round a node is told when all that may be are told at once. Nothing here speaks of a program.
-/
namespace Go.Proofs.YtlholgpenpfpbaaDoor
open Go.RowKit

/-- Each of T was told at its turn. -/
def Ordd (ns : List Nd) (T : List Nat) : Prop := ∀ k (h : k < T.length), mayB ns (T.take k) (T[k]'h) = true

theorem Ordd.nil (ns : List Nd) : Ordd ns [] := fun k h => by simp at h

theorem Ordd.snoc {ns : List Nd} {T : List Nat} (O : Ordd ns T) {i : Nat} (h : mayB ns T i = true) : Ordd ns (T ++ [i]) := by
  intro k hk
  by_cases e : k < T.length
  · rw [List.getElem_append_left e, List.take_append_of_le_length (by omega)]
    exact O k e
  · have e2 : k = T.length := by simp at hk; omega
    subst e2
    simp only [List.getElem_append_right (Nat.le_refl _), Nat.sub_self, List.getElem_cons_zero, List.take_left]
    exact h

theorem ordK_ordd {ns : List Nd} : ∀ (k : Nat) (T : List Nat), Ordd ns T → Ordd ns (ordK ns k T)
  | 0, T, h => h
  | k + 1, T, h => by
    unfold ordK
    cases hn : nextP ns T with
    | none => exact h
    | some j => exact ordK_ordd k (T ++ [j]) (h.snoc (nextP_is hn).1)

theorem ordP_ordd (ns : List Nd) : Ordd ns (ordP ns) := ordK_ordd _ _ (Ordd.nil ns)

theorem mayB_out {ns : List Nd} {T : List Nat} {i : Nat} (h : mayB ns T i = true) : i ∉ T ∧ ∀ n, ns[i]? = some n → ∀ s ∈ n.after, ∃ j, aheadP ns n s = some j ∧ j ∈ T := by
  have hl := mayB_lt h
  unfold mayB at h
  rw [List.getElem?_eq_getElem hl] at h
  simp only [Bool.and_eq_true, Bool.not_eq_true', decide_eq_true_eq] at h
  refine ⟨by simpa using h.1, fun n hn s hs => ?_⟩
  rw [List.getElem?_eq_getElem hl] at hn
  obtain rfl := Option.some.inj hn
  have h2 := h.2
  unfold need at h2
  rw [List.countP_eq_zero] at h2
  have h3 := h2 s hs
  cases ha : aheadP ns ns[i] s with
  | none => rw [ha] at h3; simp at h3
  | some j => rw [ha] at h3; exact ⟨j, rfl, by simpa using h3⟩

theorem mayB_of {ns : List Nd} {T : List Nat} {i : Nat} (hi : i ∉ T) {n : Nd} (hn : ns[i]? = some n) (h : ∀ s ∈ n.after, ∃ j, aheadP ns n s = some j ∧ j ∈ T) : mayB ns T i = true := by
  unfold mayB
  rw [hn]
  simp only [Bool.and_eq_true, Bool.not_eq_true', decide_eq_true_eq]
  refine ⟨by simpa using hi, ?_⟩
  unfold need
  rw [List.countP_eq_zero]
  intro s hs
  obtain ⟨j, hj, hT⟩ := h s hs
  rw [hj]
  simpa using hT

theorem Ordd.nodup {ns : List Nd} {T : List Nat} (O : Ordd ns T) : T.Nodup := by
  rw [List.nodup_iff_pairwise_ne, List.pairwise_iff_getElem]
  intro i j hi hj hij e
  have := (mayB_out (O j hj)).1
  rw [← e] at this
  exact this (List.mem_take_iff_getElem.2 ⟨i, by omega, rfl⟩)

theorem aheadP_fj {ns : List Nd} {n : Nd} {s : ByteArray} {j : Nat} (h : aheadP ns n s = some j) : fj ns s = j := by
  unfold aheadP at h
  split at h
  · cases h
  · unfold fj; rw [h]; rfl

/-- The rows of the first nodes of an order. -/
structure LevOk (ns : List Nd) (T : List Nat) (R : Nat → Nat) (L : Nat) : Prop where
  none : ∀ x, x ∉ T → R x = 0
  pos : ∀ x, x ∈ T → 1 ≤ R x
  aft : ∀ x, x ∈ T → ∀ n, ns[x]? = some n → ∀ s ∈ n.after, ∃ j, aheadP ns n s = some j ∧ j ∈ T ∧ R j < R x
  top : ∀ x, x ∈ T → R x = 1 ∨ ∃ n, ns[x]? = some n ∧ ∃ s ∈ n.after, ∃ j, aheadP ns n s = some j ∧ R j + 1 = R x
  le : ∀ x, R x ≤ L
  some : L = 0 ∨ ∃ x, x ∈ T ∧ R x = L

theorem curP_new {ns : List Nd} {R : Nat → Nat} {i : Nat} : ∀ (l : List ByteArray) (a : Nat), (∀ s ∈ l, fj ns s ≠ i) →
    a ≤ curP ns R i a l ∧ (∀ s ∈ l, R (fj ns s) ≤ curP ns R i a l) ∧ (curP ns R i a l = a ∨ ∃ s ∈ l, curP ns R i a l = R (fj ns s))
  | [], a, _ => ⟨Nat.le_refl _, fun s h => (by cases h), .inl rfl⟩
  | s :: l, a, h => by
    have hs := h s (List.mem_cons_self ..)
    have ih := curP_new (R := R) l (max a (R (fj ns s))) (fun t ht => h t (List.mem_cons_of_mem _ ht))
    have e : curP ns R i a (s :: l) = curP ns R i (max a (R (fj ns s))) l := by
      show curP ns R i (max a (if fj ns s = i then a else R (fj ns s))) l = _
      rw [if_neg hs]
    rw [e]
    obtain ⟨h1, h2, h3⟩ := ih
    refine ⟨by omega, fun t ht => ?_, ?_⟩
    · rcases List.mem_cons.1 ht with rfl | ht
      · omega
      · exact h2 t ht
    · rcases h3 with h3 | ⟨t, ht, h3⟩
      · by_cases c : a ≤ R (fj ns s)
        · exact .inr ⟨s, List.mem_cons_self .., by rw [h3]; omega⟩
        · left; rw [h3]; omega
      · exact .inr ⟨t, List.mem_cons_of_mem _ ht, h3⟩

theorem LevOk.step {ns : List Nd} {T : List Nat} {R : Nat → Nat} {L i : Nat} (O : LevOk ns T R L) (h : mayB ns T i = true) : LevOk ns (T ++ [i]) (depStep ns (R, L) i).1 (depStep ns (R, L) i).2 := by
  have hl := mayB_lt h
  have hn := List.getElem?_eq_getElem hl
  obtain ⟨hi, ha⟩ := mayB_out h
  have ha := ha _ hn
  unfold depStep
  rw [hn]
  simp only []
  have h0 := O.none i hi
  rw [h0]
  have hne : ∀ s ∈ (ns[i]).after, fj ns s ≠ i := fun s hs e => by
    obtain ⟨j, hj, hT⟩ := ha s hs
    rw [aheadP_fj hj] at e
    subst e
    exact hi hT
  obtain ⟨c1, c2, c3⟩ := curP_new (R := R) (ns[i]).after 0 hne
  have hcL : curP ns R i 0 (ns[i]).after ≤ L := curP_le O.le _ _ (Nat.zero_le _)
  have mi : ∀ x, x ∈ T → x ≠ i := fun x hx e => hi (e ▸ hx)
  refine ⟨fun x hx => ?_, fun x hx => ?_, fun x hx n hxn s hs => ?_, fun x hx => ?_, fun x => ?_, ?_⟩
  · simp at hx
    show (if x = i then _ else _) = _
    rw [if_neg hx.2]
    exact O.none x hx.1
  · show 1 ≤ (if x = i then _ else _)
    split
    · omega
    · rename_i e
      rcases List.mem_append.1 hx with hx | hx
      · exact O.pos x hx
      · simp at hx; exact absurd hx e
  · rcases List.mem_append.1 hx with hx | hx
    · obtain ⟨j, hj, hT, hlt⟩ := O.aft x hx n hxn s hs
      refine ⟨j, hj, List.mem_append_left _ hT, ?_⟩
      rw [if_neg (mi _ hT), if_neg (mi _ hx)]
      exact hlt
    · simp at hx; subst hx
      rw [hn] at hxn
      obtain rfl := Option.some.inj hxn
      obtain ⟨j, hj, hT⟩ := ha s hs
      refine ⟨j, hj, List.mem_append_left _ hT, ?_⟩
      rw [if_neg (mi _ hT), if_pos rfl]
      have := c2 s hs
      rw [aheadP_fj hj] at this
      omega
  · rcases List.mem_append.1 hx with hx | hx
    · rw [if_neg (mi _ hx)]
      rcases O.top x hx with h1 | ⟨n, hxn, s, hs, j, hj, h1⟩
      · exact .inl h1
      · obtain ⟨j', hj', hT', _⟩ := O.aft x hx n hxn s hs
        rw [hj] at hj'
        obtain rfl := Option.some.inj hj'
        exact .inr ⟨n, hxn, s, hs, j, hj, by rw [if_neg (mi _ hT')]; exact h1⟩
    · simp at hx; subst hx
      rw [if_pos rfl]
      rcases c3 with c3 | ⟨s, hs, c3⟩
      · left; omega
      · obtain ⟨j, hj, hT⟩ := ha s hs
        rw [aheadP_fj hj] at c3
        exact .inr ⟨_, hn, s, hs, j, hj, by rw [if_neg (mi _ hT), c3]⟩
  · show (if x = i then _ else _) ≤ max _ _
    have := O.le x
    split <;> omega
  · right
    by_cases c : L ≤ curP ns R i 0 (ns[i]).after + 1
    · exact ⟨i, by simp, by show (if i = i then _ else _) = max _ _; rw [if_pos rfl]; omega⟩
    · rcases O.some with e | ⟨x, hx, e⟩
      · omega
      · refine ⟨x, List.mem_append_left _ hx, ?_⟩
        show (if x = i then _ else _) = max _ _
        rw [if_neg (mi _ hx)]
        omega

theorem lev_take {ns : List Nd} {T : List Nat} (O : Ordd ns T) : ∀ k, k ≤ T.length → LevOk ns (T.take k) (depK ns (T.take k)).1 (depK ns (T.take k)).2
  | 0, _ => ⟨fun _ _ => rfl, fun x h => by simp at h, fun x h => by simp at h, fun x h => by simp at h, fun _ => Nat.zero_le _, .inl rfl⟩
  | k + 1, h => by
    have hk : k < T.length := by omega
    have e : T.take (k + 1) = T.take k ++ [T[k]] := by rw [List.take_add_one, List.getElem?_eq_getElem hk]; rfl
    rw [e, depK_snoc]
    exact (lev_take O k (by omega)).step (O k hk)

theorem lev_all {ns : List Nd} {T : List Nat} (O : Ordd ns T) : LevOk ns T (depK ns T).1 (depK ns T).2 := by
  have := lev_take O T.length (Nat.le_refl _)
  rwa [List.take_length] at this

/-- In which round a node is told when all that may be are told at once. -/
def rowP (ns : List Nd) (x : Nat) : Nat := (depK ns (ordP ns)).1 x

theorem mem_full : ∀ {n : Nat} {l : List Nat}, l.Nodup → (∀ i ∈ l, i < n) → l.length = n → ∀ i, i < n → i ∈ l := by
  intro n l h1 h2 h3 i hi
  by_cases hm : i ∈ l
  · exact hm
  · exfalso
    have h4 : (i :: l).Nodup := List.nodup_cons.2 ⟨hm, h1⟩
    have h5 := nodup_le h4 (fun j hj => by rcases List.mem_cons.1 hj with rfl | hj; exact hi; exact h2 j hj)
    simp at h5
    omega

theorem lev_ord (ns : List Nd) : LevOk ns (ordP ns) (rowP ns) (depP ns) := lev_all (ordP_ordd ns)

theorem ord_all {ns : List Nd} (h : (ordP ns).length = ns.length) : ∀ i, i < ns.length → i ∈ ordP ns := mem_full (ordP_ordd ns).nodup (ordP_lt ns) h

/-- The nodes that may begin when those with a mark are over, and have begun. -/
def readyB (ns : List Nd) (over begun : Nat → Bool) (i : Nat) : Bool := !begun i && match ns[i]? with | some n => n.after.all (fun s => match aheadP ns n s with | some j => over j | none => false) | none => false
def readyP (ns : List Nd) (over begun : Nat → Bool) : List Nat := (List.range ns.length).filter (readyB ns over begun)

theorem readyB_row {ns : List Nd} (h : (ordP ns).length = ns.length) (r : Nat) {i : Nat} (hi : i < ns.length) : readyB ns (fun x => decide (rowP ns x ≤ r)) (fun x => decide (rowP ns x ≤ r)) i = decide (rowP ns i = r + 1) := by
  have O := lev_ord ns
  have hm := ord_all h i hi
  have hn := List.getElem?_eq_getElem hi
  unfold readyB
  rw [hn]
  by_cases c : rowP ns i = r + 1
  · simp only [c, decide_true, Bool.and_eq_true, List.all_eq_true]
    refine ⟨by simp, fun s hs => ?_⟩
    obtain ⟨j, hj, _, hlt⟩ := O.aft i hm _ hn s hs
    rw [hj]
    simp only [decide_eq_true_eq]
    omega
  · simp only [c, decide_false, Bool.and_eq_false_iff, Bool.not_eq_false', decide_eq_true_eq]
    by_cases c2 : rowP ns i ≤ r
    · exact .inl c2
    · right
      rw [List.all_eq_false]
      have := O.pos i hm
      rcases O.top i hm with h1 | ⟨n, hxn, s, hs, j, hj, h1⟩
      · omega
      · rw [hn] at hxn
        obtain rfl := Option.some.inj hxn
        refine ⟨s, hs, ?_⟩
        rw [hj]
        simp only [decide_eq_true_eq]
        omega

theorem readyP_row {ns : List Nd} (h : (ordP ns).length = ns.length) (r : Nat) : readyP ns (fun x => decide (rowP ns x ≤ r)) (fun x => decide (rowP ns x ≤ r)) = (List.range ns.length).filter (fun i => decide (rowP ns i = r + 1)) := by
  unfold readyP
  apply List.filter_congr
  intro x hx
  exact readyB_row h r (List.mem_range.1 hx)

/-- No row is left out. -/
theorem row_each {ns : List Nd} (h : (ordP ns).length = ns.length) : ∀ d r, r + d + 1 = depP ns → ∃ x, x < ns.length ∧ rowP ns x = r + 1
  | 0, r, e => by
    rcases (lev_ord ns).some with h0 | ⟨x, hx, h1⟩
    · omega
    · exact ⟨x, ordP_lt ns x hx, by omega⟩
  | d + 1, r, e => by
    obtain ⟨x, hx, h1⟩ := row_each h d (r + 1) (by omega)
    have O := lev_ord ns
    have hm := ord_all h x hx
    rcases O.top x hm with h2 | ⟨n, hxn, s, hs, j, hj, h2⟩
    · omega
    · obtain ⟨j', hj', hT', _⟩ := O.aft x hm n hxn s hs
      rw [hj] at hj'
      obtain rfl := Option.some.inj hj'
      exact ⟨j, ordP_lt ns j hT', by omega⟩

theorem ready_some {ns : List Nd} (h : (ordP ns).length = ns.length) {r : Nat} (hr : r < depP ns) : 0 < ((List.range ns.length).filter (fun i => decide (rowP ns i = r + 1))).length := by
  obtain ⟨x, hx, h1⟩ := row_each h (depP ns - r - 1) r (by omega)
  exact List.length_pos_of_mem (List.mem_filter.2 ⟨List.mem_range.2 hx, by simpa using h1⟩)

/-- How many have been told. -/
def cntP (ns : List Nd) (r : Nat) : Nat := (List.range ns.length).countP (fun i => decide (rowP ns i ≤ r))

theorem cntP_zero {ns : List Nd} (h : (ordP ns).length = ns.length) : cntP ns 0 = 0 := by
  unfold cntP
  rw [List.countP_eq_zero]
  intro x hx
  have := (lev_ord ns).pos x (ord_all h x (List.mem_range.1 hx))
  simp only [decide_eq_true_eq]
  omega

theorem cntP_next (ns : List Nd) (r : Nat) : cntP ns (r + 1) = cntP ns r + ((List.range ns.length).filter (fun i => decide (rowP ns i = r + 1))).length := by
  unfold cntP
  rw [← List.countP_eq_length_filter]
  induction List.range ns.length with
  | nil => rfl
  | cons x l ih =>
    simp only [List.countP_cons, ih, decide_eq_true_eq]
    split <;> split <;> split <;> omega

theorem cntP_all (ns : List Nd) : cntP ns (depP ns) = ns.length := by
  unfold cntP
  rw [List.countP_eq_length.2, List.length_range]
  intro x _
  simpa using (lev_ord ns).le x

theorem cntP_le (ns : List Nd) (r : Nat) : cntP ns r ≤ ns.length := by
  unfold cntP
  have := List.countP_le_length (p := fun i => decide (rowP ns i ≤ r)) (l := List.range ns.length)
  simpa using this


/-- A definition that is taken. -/
structure Taken (name : ByteArray) (ns : List Nd) : Prop where
  name : nameP name = true
  lo : 1 ≤ ns.length
  hi : ns.length ≤ 32
  nod : ∀ i (h : i < ns.length), nodeE ns i (ns[i]'h) = 0
  aft : ∀ i (h : i < ns.length), afterE ns (ns[i]'h) = 0
  ord : (ordP ns).length = ns.length

theorem firstE_none {f : Nat → Int} : ∀ {n}, firstE f n = none → ∀ i, i < n → f i = 0
  | 0, _, i, hi => by omega
  | n + 1, h, i, hi => by
    unfold firstE at h
    cases hn : firstE f n with
    | some x => rw [hn] at h; cases h
    | none =>
      rw [hn] at h
      by_cases e : f n = 0
      · by_cases e2 : i = n
        · subst e2; exact e
        · exact firstE_none hn i (by omega)
      · simp [e] at h

theorem firstE_some {f : Nat → Int} : ∀ {n} {x : Nat × Int}, firstE f n = some x → x.2 ≠ 0
  | 0, x, h => by cases h
  | n + 1, x, h => by
    unfold firstE at h
    cases hn : firstE f n with
    | some y => rw [hn] at h; cases h; exact firstE_some hn
    | none =>
      rw [hn] at h
      by_cases e : f n = 0
      · simp [e] at h
      · simp [e] at h; subst h; exact e

theorem firstE_zero {f : Nat → Int} : ∀ {n}, (∀ i, i < n → f i = 0) → firstE f n = none
  | 0, _ => rfl
  | n + 1, h => by
    unfold firstE
    rw [firstE_zero (fun i hi => h i (by omega))]
    simp [h n (by omega)]

theorem taken_of {name : ByteArray} {ns : List Nd} (h : (checkP name ns).2 = 0) : Taken name ns := by
  rw [checkP_eq] at h
  cases g0 : nameP name with
  | false => rw [if_pos g0] at h; simp at h
  | true =>
    rw [if_neg (by rw [g0]; simp)] at h
    by_cases c : ns.length < 1 ∨ 32 < ns.length
    · rw [if_pos c] at h; simp at h
    · rw [if_neg c] at h
      cases h1 : firstE (nodeAt ns) ns.length with
      | some x => rw [h1] at h; exact absurd h (firstE_some h1)
      | none =>
        rw [h1] at h
        cases h2 : firstE (aftAt ns) ns.length with
        | some x => rw [h2] at h; exact absurd h (firstE_some h2)
        | none =>
          rw [h2] at h
          by_cases h3 : (ordP ns).length = ns.length
          · refine ⟨g0, by omega, by omega, fun i hi => ?_, fun i hi => ?_, h3⟩
            · have := firstE_none h1 i hi
              unfold nodeAt at this
              rw [List.getElem?_eq_getElem hi] at this
              exact this
            · have := firstE_none h2 i hi
              unfold aftAt at this
              rw [List.getElem?_eq_getElem hi] at this
              exact this
          · simp [h3] at h

theorem Taken.check {name : ByteArray} {ns : List Nd} (T : Taken name ns) : checkP name ns = (-1, 0) := by
  have h1 : firstE (nodeAt ns) ns.length = none := firstE_zero (fun i hi => by
    unfold nodeAt; rw [List.getElem?_eq_getElem hi]; exact T.nod i hi)
  have h2 : firstE (aftAt ns) ns.length = none := firstE_zero (fun i hi => by
    unfold aftAt; rw [List.getElem?_eq_getElem hi]; exact T.aft i hi)
  have := T.lo
  have := T.hi
  rw [checkP_eq, if_neg (by rw [T.name]; simp), if_neg (by omega), h1, h2]
  simp only []
  rw [if_pos T.ord]

/-- What is wrong but for the order. -/
theorem check_loop {name : ByteArray} {ns : List Nd} (h0 : nameP name = true) (hl : 1 ≤ ns.length) (hh : ns.length ≤ 32) (hn : ∀ i (h : i < ns.length), nodeE ns i (ns[i]'h) = 0) (ha : ∀ i (h : i < ns.length), afterE ns (ns[i]'h) = 0)
    (ho : (ordP ns).length ≠ ns.length) : checkP name ns = (-1, 15) := by
  have h1 : firstE (nodeAt ns) ns.length = none := firstE_zero (fun i hi => by
    unfold nodeAt; rw [List.getElem?_eq_getElem hi]; exact hn i hi)
  have h2 : firstE (aftAt ns) ns.length = none := firstE_zero (fun i hi => by
    unfold aftAt; rw [List.getElem?_eq_getElem hi]; exact ha i hi)
  rw [checkP_eq, if_neg (by rw [h0]; simp), if_neg (by omega), h1, h2]
  simp only []
  rw [if_neg ho]

theorem nodeE_ok {ns : List Nd} {i : Nat} {n : Nd} (h : nodeE ns i n = 0) : namedP n = true ∧ i ≤ (findP ns n.name).getD 0 ∧ fitsP n = true := by
  unfold nodeE at h
  split at h
  · rename_i h1
    split at h
    · simp at h
    · rename_i h2
      split at h
      · rename_i h3; exact ⟨h1, by omega, h3⟩
      · simp at h
  · simp at h

theorem nodeE_of {ns : List Nd} {i : Nat} {n : Nd} (h1 : namedP n = true) (h2 : i ≤ (findP ns n.name).getD 0) (h3 : fitsP n = true) : nodeE ns i n = 0 := by
  unfold nodeE
  rw [if_pos h1, if_neg (by omega), if_pos h3]

theorem afterE_ok {ns : List Nd} {n : Nd} (h : afterE ns n = 0) : (∀ s ∈ n.after, (findP ns s).isSome = true) ∧ n.after.Nodup := by
  unfold afterE at h
  split at h
  · rename_i h1
    split at h
    · rename_i h2; exact ⟨by simpa using h1, h2⟩
    · simp at h
  · simp at h

theorem afterE_of {ns : List Nd} {n : Nd} (h1 : ∀ s ∈ n.after, (findP ns s).isSome = true) (h2 : n.after.Nodup) : afterE ns n = 0 := by
  unfold afterE
  rw [if_pos (by simpa using h1), if_pos h2]

theorem findP_mem {ns : List Nd} {n : Nd} (h : n ∈ ns) : (findP ns n.name).isSome = true := by
  cases hf : findP ns n.name with
  | none => exact absurd rfl (findP_none.1 hf n h)
  | some _ => rfl

theorem Taken.self {name : ByteArray} {ns : List Nd} (T : Taken name ns) {i : Nat} (hi : i < ns.length) : findP ns (ns[i]).name = some i := by
  have h1 := findP_mem (List.getElem_mem hi)
  obtain ⟨j, hj⟩ := Option.isSome_iff_exists.1 h1
  have h2 := (nodeE_ok (T.nod i hi)).2.1
  rw [hj] at h2
  simp at h2
  by_cases e : j = i
  · rw [hj, e]
  · exact absurd rfl (findP_first hj (j := i) (by omega))

theorem Taken.inj {name : ByteArray} {ns : List Nd} (T : Taken name ns) {i j : Nat} (hi : i < ns.length) (hj : j < ns.length) (h : (ns[i]).name = (ns[j]).name) : i = j := by
  have h1 := T.self hi
  rw [h, T.self hj] at h1
  exact (Option.some.inj h1).symm

/-- One node more. -/
theorem findP_snoc (ns : List Nd) (z : Nd) (s : ByteArray) : findP (ns ++ [z]) s = (findP ns s).or (if z.name = s then some ns.length else none) := by
  unfold findP
  rw [List.findIdx?_append]
  congr 1
  by_cases h : z.name = s <;> simp [h]

theorem findP_snoc_some {ns : List Nd} (z : Nd) {s : ByteArray} (h : (findP ns s).isSome = true) : findP (ns ++ [z]) s = findP ns s := by
  rw [findP_snoc]
  obtain ⟨j, hj⟩ := Option.isSome_iff_exists.1 h
  rw [hj]; rfl

theorem aheadP_snoc {ns : List Nd} (z n : Nd) {s : ByteArray} (h : (findP ns s).isSome = true) : aheadP (ns ++ [z]) n s = aheadP ns n s := by
  unfold aheadP
  rw [findP_snoc_some z h]

theorem need_snoc {ns : List Nd} (z n : Nd) (T : List Nat) (h : ∀ s ∈ n.after, (findP ns s).isSome = true) : need (ns ++ [z]) T n = need ns T n := by
  unfold need
  apply List.countP_congr
  intro s hs
  rw [aheadP_snoc z n (h s hs)]

theorem mayB_snoc {ns : List Nd} (z : Nd) (T : List Nat) {i : Nat} (hi : i < ns.length) (h : ∀ s ∈ (ns[i]).after, (findP ns s).isSome = true) : mayB (ns ++ [z]) T i = mayB ns T i := by
  unfold mayB
  rw [List.getElem?_append_left hi, List.getElem?_eq_getElem hi]
  simp only []
  rw [need_snoc z _ T h]

theorem nextP_snoc {ns : List Nd} (z : Nd) {T : List Nat} (h : ∀ i (hi : i < ns.length), ∀ s ∈ (ns[i]).after, (findP ns s).isSome = true) {j : Nat} (hj : nextP ns T = some j) : nextP (ns ++ [z]) T = some j := by
  obtain ⟨h1, h2⟩ := nextP_is hj
  have hl := mayB_lt h1
  refine nextP_some (by rw [mayB_snoc z T hl (h j hl)]; exact h1) (fun k hk => ?_)
  have hkl : k < ns.length := by omega
  rw [mayB_snoc z T hkl (h k hkl)]
  exact h2 k hk

theorem ordK_snoc {ns : List Nd} (z : Nd) (h : ∀ i (hi : i < ns.length), ∀ s ∈ (ns[i]).after, (findP ns s).isSome = true) (m : Nat) : ∀ (k : Nat) (T : List Nat), (ordK ns k T).length = T.length + k → ordK (ns ++ [z]) (k + m) T = ordK (ns ++ [z]) m (ordK ns k T)
  | 0, T, _ => by simp [ordK]
  | k + 1, T, hlen => by
    rw [show k + 1 + m = (k + m) + 1 by omega]
    unfold ordK at hlen
    cases hn : nextP ns T with
    | none => rw [hn] at hlen; simp only [] at hlen; omega
    | some j =>
      rw [hn] at hlen
      simp only [] at hlen
      have e1 : ordK (ns ++ [z]) ((k + m) + 1) T = ordK (ns ++ [z]) (k + m) (T ++ [j]) := by
        rw [ordK, nextP_snoc z h hn]
      have e2 : ordK ns (k + 1) T = ordK ns k (T ++ [j]) := by rw [ordK, hn]
      rw [e1, e2]
      exact ordK_snoc z h m k (T ++ [j]) (by rw [hlen]; simp; omega)

/-- A node that stands behind all others is the last one. -/
theorem ordP_grow {name : ByteArray} {ns : List Nd} (T : Taken name ns) (z : Nd) (hz : z.after = ns.map (·.name)) (hf : findP ns z.name = none) : ordP (ns ++ [z]) = ordP ns ++ [ns.length] := by
  have ha : ∀ i (hi : i < ns.length), ∀ s ∈ (ns[i]).after, (findP ns s).isSome = true := fun i hi => (afterE_ok (T.aft i hi)).1
  have e : ordP (ns ++ [z]) = ordK (ns ++ [z]) 1 (ordP ns) := by
    unfold ordP
    rw [List.length_append]
    exact ordK_snoc z ha 1 ns.length [] (by have := T.ord; unfold ordP at this; rw [this]; simp)
  rw [e]
  have hall := ord_all T.ord
  have hnx : nextP (ns ++ [z]) (ordP ns) = some ns.length := by
    refine nextP_some ?_ (fun j hj => ?_)
    · refine mayB_of (n := z) (fun hm => absurd (ordP_lt ns _ hm) (Nat.lt_irrefl _)) (by simp) (fun s hs => ?_)
      rw [hz] at hs
      obtain ⟨n, hn, rfl⟩ := List.mem_map.1 hs
      have h1 := findP_mem hn
      obtain ⟨j, hj⟩ := Option.isSome_iff_exists.1 h1
      refine ⟨j, ?_, hall j (findP_lt hj)⟩
      unfold aheadP
      rw [if_neg (fun e => by rw [e, hf] at h1; cases h1), findP_snoc_some z h1, hj]
    · rw [mayB_snoc z _ hj (ha j hj)]
      unfold mayB
      simp [hall j hj]
  rw [ordK, hnx]
  rfl

theorem depK_snocNs {ns : List Nd} (z : Nd) (h : ∀ i (hi : i < ns.length), ∀ s ∈ (ns[i]).after, (findP ns s).isSome = true) : ∀ (od : List Nat), (∀ i ∈ od, i < ns.length) → ∀ st, od.foldl (depStep (ns ++ [z])) st = od.foldl (depStep ns) st
  | [], _, _ => rfl
  | i :: od, hod, st => by
    have hi := hod i (List.mem_cons_self ..)
    have hc : ∀ (l : List ByteArray) (R : Nat → Nat) (a : Nat), (∀ s ∈ l, (findP ns s).isSome = true) → curP (ns ++ [z]) R i a l = curP ns R i a l := by
      intro l R
      induction l with
      | nil => intro a _; rfl
      | cons s l ih =>
        intro a hs
        have e : fj (ns ++ [z]) s = fj ns s := by unfold fj; rw [findP_snoc_some z (hs s (List.mem_cons_self ..))]
        show curP (ns ++ [z]) R i (max a (if fj (ns ++ [z]) s = i then a else R (fj (ns ++ [z]) s))) l = curP ns R i (max a (if fj ns s = i then a else R (fj ns s))) l
        rw [e]
        exact ih _ (fun t ht => hs t (List.mem_cons_of_mem _ ht))
    have e : depStep (ns ++ [z]) st i = depStep ns st i := by
      unfold depStep
      rw [List.getElem?_append_left hi, List.getElem?_eq_getElem hi]
      simp only []
      rw [hc _ _ _ (h i hi)]
    rw [List.foldl_cons, List.foldl_cons, e]
    exact depK_snocNs z h od (fun k hk => hod k (List.mem_cons_of_mem _ hk)) _

theorem depP_grow {name : ByteArray} {ns : List Nd} (T : Taken name ns) (z : Nd) (hz : z.after = ns.map (·.name)) (hf : findP ns z.name = none) : depP (ns ++ [z]) = depP ns + 1 := by
  have ha : ∀ i (hi : i < ns.length), ∀ s ∈ (ns[i]).after, (findP ns s).isSome = true := fun i hi => (afterE_ok (T.aft i hi)).1
  have e : depK (ns ++ [z]) (ordP ns) = depK ns (ordP ns) := depK_snocNs z ha (ordP ns) (ordP_lt ns) _
  unfold depP
  rw [ordP_grow T z hz hf, depK_snoc, e]
  have O := lev_ord ns
  unfold depStep
  rw [show (ns ++ [z])[ns.length]? = some z by simp]
  simp only []
  have h0 : (depK ns (ordP ns)).1 ns.length = 0 := O.none ns.length (fun hm => absurd (ordP_lt ns _ hm) (Nat.lt_irrefl _))
  rw [h0]
  have hfj : ∀ s ∈ z.after, ∃ j, j < ns.length ∧ fj (ns ++ [z]) s = j := fun s hs => by
    rw [hz] at hs
    obtain ⟨n, hn, rfl⟩ := List.mem_map.1 hs
    have h1 := findP_mem hn
    obtain ⟨j, hj⟩ := Option.isSome_iff_exists.1 h1
    exact ⟨j, findP_lt hj, by unfold fj; rw [findP_snoc_some z h1, hj]; rfl⟩
  obtain ⟨c1, c2, c3⟩ := curP_new (ns := ns ++ [z]) (R := (depK ns (ordP ns)).1) (i := ns.length) z.after 0 (fun s hs e => by obtain ⟨j, hj, he⟩ := hfj s hs; omega)
  have hL : ∀ x, (depK ns (ordP ns)).1 x ≤ (depK ns (ordP ns)).2 := O.le
  have hle : curP (ns ++ [z]) (depK ns (ordP ns)).1 ns.length 0 z.after ≤ (depK ns (ordP ns)).2 := curP_le hL _ _ (Nat.zero_le _)
  have hge : (depK ns (ordP ns)).2 ≤ curP (ns ++ [z]) (depK ns (ordP ns)).1 ns.length 0 z.after := by
    rcases O.some with h | ⟨x, hx, hxe⟩
    · have h' : (depK ns (ordP ns)).2 = 0 := h
      omega
    · have hxl := ordP_lt ns x hx
      have hm : (ns[x]).name ∈ z.after := by rw [hz]; exact List.mem_map.2 ⟨_, List.getElem_mem hxl, rfl⟩
      have h1 := c2 _ hm
      have h2 : fj (ns ++ [z]) (ns[x]).name = x := by
        unfold fj
        rw [findP_snoc_some z (findP_mem (List.getElem_mem hxl)), T.self hxl]; rfl
      rw [h2] at h1
      have hxe' : (depK ns (ordP ns)).1 x = (depK ns (ordP ns)).2 := hxe
      omega
  omega

theorem taken_grow {name : ByteArray} {ns : List Nd} (T : Taken name ns) (h9 : ns.length ≤ 9) (z : Nd) (hz : z.after = ns.map (·.name)) (hf : findP ns z.name = none) (hn : namedP z = true) (hfit : fitsP z = true) : Taken name (ns ++ [z]) := by
  have ho := ordP_grow T z hz hf
  refine ⟨T.name, by simp, by simp; omega, fun i hi => ?_, fun i hi => ?_, by rw [ho]; simp [T.ord]⟩
  · by_cases e : i < ns.length
    · rw [List.getElem_append_left e]
      obtain ⟨h1, h2, h3⟩ := nodeE_ok (T.nod i e)
      exact nodeE_of h1 (by rw [findP_snoc_some z (findP_mem (List.getElem_mem e))]; exact h2) h3
    · have e2 : i = ns.length := by simp at hi; omega
      subst e2
      simp only [List.getElem_append_right (Nat.le_refl _), Nat.sub_self, List.getElem_cons_zero]
      exact nodeE_of hn (by rw [findP_snoc, hf]; simp) hfit
  · by_cases e : i < ns.length
    · rw [List.getElem_append_left e]
      obtain ⟨h1, h2⟩ := afterE_ok (T.aft i e)
      exact afterE_of (fun s hs => by rw [findP_snoc_some z (h1 s hs)]; exact h1 s hs) h2
    · have e2 : i = ns.length := by simp at hi; omega
      subst e2
      simp only [List.getElem_append_right (Nat.le_refl _), Nat.sub_self, List.getElem_cons_zero]
      refine afterE_of (fun s hs => ?_) ?_
      · rw [hz] at hs
        obtain ⟨n, hn, rfl⟩ := List.mem_map.1 hs
        rw [findP_snoc_some z (findP_mem hn)]
        exact findP_mem hn
      · rw [hz, List.nodup_iff_pairwise_ne, List.pairwise_iff_getElem]
        intro i j hi hj hij e
        simp only [List.getElem_map] at e
        simp at hi hj
        have := T.inj hi hj e
        omega

/-- No name in its After means itself. -/
theorem Taken.few {name : ByteArray} {ns : List Nd} (T : Taken name ns) {i : Nat} (hi : i < ns.length) : (ns[i]).after.length ≤ ns.length := by
  obtain ⟨h1, h2⟩ := afterE_ok (T.aft i hi)
  have h3 : ((ns[i]).after.map (fj ns)).Nodup := by
    rw [List.nodup_iff_pairwise_ne, List.pairwise_iff_getElem]
    intro p q hp hq hpq e
    simp only [List.getElem_map] at e
    simp at hp hq
    have f1 := h1 _ (List.getElem_mem hp)
    have f2 := h1 _ (List.getElem_mem hq)
    obtain ⟨j1, g1⟩ := Option.isSome_iff_exists.1 f1
    obtain ⟨j2, g2⟩ := Option.isSome_iff_exists.1 f2
    unfold fj at e
    rw [g1, g2] at e
    simp at e
    subst e
    have n1 := findP_name g1
    have n2 := findP_name g2
    rw [n1] at n2
    have := (List.nodup_iff_pairwise_ne.1 h2)
    rw [List.pairwise_iff_getElem] at this
    exact this p q hp hq hpq n2
  have h4 := nodup_le h3 (n := ns.length) (fun k hk => by
    obtain ⟨s, hs, rfl⟩ := List.mem_map.1 hk
    obtain ⟨j, hj⟩ := Option.isSome_iff_exists.1 (h1 s hs)
    unfold fj; rw [hj]; exact findP_lt hj)
  simpa using h4


/-- From b one comes to a by going to what stands ahead. -/
inductive Path (ns : List Nd) (b : Nat) : Nat → Prop
  | refl : Path ns b b
  | step {i j : Nat} {n : Nd} {s : ByteArray} : Path ns b i → ns[i]? = some n → s ∈ n.after → findP ns s = some j → Path ns b j

/-- Node a gets one more name in its After. -/
def addA (n : Nd) (s : ByteArray) : Nd := { n with after := n.after ++ [s] }
def loopNs (ns : List Nd) (a : Nat) (s : ByteArray) : List Nd := ns.modify a (fun n => addA n s)

theorem loopNs_len (ns : List Nd) (a : Nat) (s : ByteArray) : (loopNs ns a s).length = ns.length := by unfold loopNs; simp

theorem loopNs_at {ns : List Nd} {a : Nat} {s : ByteArray} {i : Nat} : (loopNs ns a s)[i]? = (ns[i]?).map (fun n => if a = i then addA n s else n) := by
  unfold loopNs
  rw [List.getElem?_modify]
  cases ns[i]? <;> rfl

theorem findP_names : ∀ {l m : List Nd}, l.map (·.name) = m.map (·.name) → ∀ s, findP l s = findP m s := by
  intro l m h s
  have e : ∀ (l : List Nd), findP l s = (l.map (·.name)).findIdx? (fun n => decide (n = s)) := fun l => by
    unfold findP
    rw [List.findIdx?_map]
    rfl
  rw [e, e, h]

theorem loopNs_names (ns : List Nd) (a : Nat) (s : ByteArray) : (loopNs ns a s).map (·.name) = ns.map (·.name) := by
  apply List.ext_getElem?
  intro i
  rw [List.getElem?_map, List.getElem?_map, loopNs_at]
  cases ns[i]? with
  | none => rfl
  | some n => by_cases e : a = i <;> simp [e, addA]

theorem loopNs_find (ns : List Nd) (a : Nat) (s t : ByteArray) : findP (loopNs ns a s) t = findP ns t := findP_names (loopNs_names ns a s) t

theorem aheadP_find {ns : List Nd} {n : Nd} {s : ByteArray} {j : Nat} (h : aheadP ns n s = some j) : findP ns s = some j := by
  unfold aheadP at h
  split at h
  · cases h
  · exact h

theorem loop_not {name : ByteArray} {ns : List Nd} (T : Taken name ns) {a b : Nat} (ha : a < ns.length) (hb : b < ns.length) (P : Path ns b a) : (ordP (loopNs ns a (ns[b]).name)).length ≠ (loopNs ns a (ns[b]).name).length := by
  intro hf
  have O := lev_ord (loopNs ns a (ns[b]).name)
  have hall := ord_all hf
  rw [loopNs_len] at hall
  have hle : ∀ j, Path ns b j → j < ns.length ∧ rowP (loopNs ns a (ns[b]).name) j ≤ rowP (loopNs ns a (ns[b]).name) b := by
    intro j p
    induction p with
    | refl => exact ⟨hb, Nat.le_refl _⟩
    | @step i j n s p hn hs hj ih =>
      obtain ⟨hi, hle⟩ := ih
      have hm := hall i hi
      have hn' : (loopNs ns a (ns[b]).name)[i]? = some (if a = i then addA n (ns[b]).name else n) := by rw [loopNs_at, hn]; rfl
      obtain ⟨j', hj', _, hlt⟩ := O.aft i hm _ hn' s (by split; (exact List.mem_append_left _ hs); exact hs)
      have e : j' = j := by
        have hj'' := aheadP_find hj'
        rw [loopNs_find, hj] at hj''
        exact (Option.some.inj hj'').symm
      subst e
      exact ⟨findP_lt hj, by omega⟩
  have h1 := (hle a P).2
  have hn' : (loopNs ns a (ns[b]).name)[a]? = some (addA ns[a] (ns[b]).name) := by rw [loopNs_at, List.getElem?_eq_getElem ha]; simp
  obtain ⟨j', hj', _, hlt⟩ := O.aft a (hall a ha) _ hn' (ns[b]).name (List.mem_append_right _ (by simp))
  have e : j' = b := by
    have hj'' := aheadP_find hj'
    rw [loopNs_find, T.self hb] at hj''
    exact (Option.some.inj hj'').symm
  subst e
  omega

theorem loop_check {name : ByteArray} {ns : List Nd} (T : Taken name ns) {a b : Nat} (ha : a < ns.length) (hb : b < ns.length) (P : Path ns b a) (hm : (ns[b]).name ∉ (ns[a]).after) : checkP name (loopNs ns a (ns[b]).name) = (-1, 15) := by
  have hl := loopNs_len ns a (ns[b]).name
  have hat : ∀ i (h : i < (loopNs ns a (ns[b]).name).length), ∃ hi : i < ns.length, (loopNs ns a (ns[b]).name)[i] = if a = i then addA ns[i] (ns[b]).name else ns[i] := fun i h => by
    have hi : i < ns.length := by omega
    refine ⟨hi, ?_⟩
    have := loopNs_at (ns := ns) (a := a) (s := (ns[b]).name) (i := i)
    rw [List.getElem?_eq_getElem h, List.getElem?_eq_getElem hi] at this
    exact Option.some.inj this
  refine check_loop T.name (by have := T.lo; omega) (by have := T.hi; omega) (fun i h => ?_) (fun i h => ?_) (loop_not T ha hb P)
  · obtain ⟨hi, e⟩ := hat i h
    obtain ⟨h1, h2, h3⟩ := nodeE_ok (T.nod i hi)
    rw [e]
    refine nodeE_of ?_ ?_ ?_
    · split; (exact h1); exact h1
    · rw [loopNs_find]; split; (exact h2); exact h2
    · split; (exact h3); exact h3
  · obtain ⟨hi, e⟩ := hat i h
    obtain ⟨h1, h2⟩ := afterE_ok (T.aft i hi)
    rw [e]
    by_cases c : a = i
    · subst c
      rw [if_pos rfl]
      refine afterE_of (fun s hs => ?_) ?_
      · rw [loopNs_find]
        rcases List.mem_append.1 hs with hs | hs
        · exact h1 s hs
        · simp at hs; subst hs; exact findP_mem (List.getElem_mem hb)
      · show ((ns[a]).after ++ [(ns[b]).name]).Nodup
        rw [List.nodup_append]
        exact ⟨h2, by simp, fun x hx y hy e => by simp at hy; subst hy; subst e; exact hm hx⟩
    · rw [if_neg c]
      exact afterE_of (fun s hs => by rw [loopNs_find]; exact h1 s hs) h2

end Go.Proofs.YtlholgpenpfpbaaDoor

/-
  ReadyNodes: the nodes that may begin.
-/
namespace Go.Proofs.YtlholgpenpfpbaaDoor
open Go.RowKit

/-- One name of a node's After is over. -/
def oneP (ns : List Nd) (n : Nd) (l : List Bool) (s : ByteArray) : Bool := match aheadP ns n s with | some j => l.getD j false | none => false
def overP (ns : List Nd) (n : Nd) (l : List Bool) : Bool := n.after.all (oneP ns n l)

theorem over_next {ns : List Nd} {n : Nd} {l : List Bool} {k : Nat} (hk : k < n.after.length) (h : (n.after.take k).all (oneP ns n l) = true) (h1 : oneP ns n l n.after[k] = true) : (n.after.take (k + 1)).all (oneP ns n l) = true := by
  rw [List.take_add_one, List.getElem?_eq_getElem hk, Option.toList_some, List.all_append, h]
  simp [h1]

theorem over_not {ns : List Nd} {n : Nd} {l : List Bool} {k : Nat} (hk : k < n.after.length) (h1 : oneP ns n l n.after[k] = false) : overP ns n l = false := by
  unfold overP
  rw [List.all_eq_false]
  exact ⟨n.after[k], List.getElem_mem hk, by simp [h1]⟩

/-- The nodes that may begin, among the first. -/
def rdyB (ns : List Nd) (lo lb : List Bool) (i : Nat) : Bool := !lb.getD i false && match ns[i]? with | some n => overP ns n lo | none => false
def rdyL (ns : List Nd) (lo lb : List Bool) (k : Nat) : List Nat := (List.range k).filter (rdyB ns lo lb)

theorem rdyL_hit {ns : List Nd} {lo lb : List Bool} {k : Nat} (h : rdyB ns lo lb k = true) : rdyL ns lo lb (k + 1) = rdyL ns lo lb k ++ [k] := by
  unfold rdyL
  rw [List.range_succ, List.filter_append]
  simp [h]

theorem rdyL_miss {ns : List Nd} {lo lb : List Bool} {k : Nat} (h : rdyB ns lo lb k = false) : rdyL ns lo lb (k + 1) = rdyL ns lo lb k := by
  unfold rdyL
  rw [List.range_succ, List.filter_append]
  simp [h]

theorem rdyL_len (ns : List Nd) (lo lb : List Bool) (k : Nat) : (rdyL ns lo lb k).length ≤ k := by
  unfold rdyL
  have := List.length_filter_le (rdyB ns lo lb) (List.range k)
  simpa using this

theorem natsV_snoc (l : List Nat) (i : Nat) : natsV (l ++ [i]) = natsV l ++ [.int .i64 (i : Nat)] := by unfold natsV; simp

end Go.Proofs.YtlholgpenpfpbaaDoor
