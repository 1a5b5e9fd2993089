/-
  A definition's text is read as the definition; so is the text with doubled blanks, lines and remarks between. Nothing here speaks of a program.
-/
import Derived.Test.YtlholgpenpfpbaaDoorDTextW
namespace Go.Proofs.YtlholgpenpfpbaaDoor
open Go.RowKit

theorem empty_of {s : ByteArray} (h : s.size = 0) : s = ⟨#[]⟩ := by
  obtain ⟨d⟩ := s
  have : d.size = 0 := h
  rw [Array.eq_empty_of_size_eq_zero this]

theorem tail_back {l : List ByteArray} (h : ∀ s ∈ l, nameP s = true) : rTail (aftW l, false) = (l, ([], false)) := by
  cases l with
  | nil => rfl
  | cons x t =>
    have ht : anyBad t = false := by
      unfold anyBad
      rw [List.any_eq_false]
      intro s hs
      simp [h s (by simp [hs])]
    have hx := h x (by simp)
    have e1 : rTake aftB (aftB :: x :: t, false) = (true, (x :: t, false)) := by simp [rTake]
    rw [show aftW (x :: t) = aftB :: x :: t by simp [aftW]]
    unfold rTail
    rw [e1]
    simp [rNames, rName, rWord, rEnd, hx, ht]

theorem kind_back {n : Nd} (h : NdRight n) (r : List ByteArray) (hr : r = [] ∨ ∃ t, r = aftB :: t) (k : ByteArray) (ws : List ByteArray) (hk : kindW n = k :: ws) :
    rKind k (ws ++ r, false) = ((n.kind, n.arg, n.to, n.delay, n.tries), (r, false)) := by
  have hnm := h.named
  have hf := h.fits
  unfold namedP at hnm
  unfold fitsP at hf
  simp only [Bool.and_eq_true, Bool.or_eq_true, beq_iff_eq, bne_iff_ne] at hnm
  obtain ⟨⟨_, ha⟩, ht⟩ := hnm
  have hdel : 0 ≤ n.delay ∧ n.delay ≤ 1000000 := by
    by_cases hd : (n.delay < 0 || n.delay > 1000000) = true
    · rw [if_pos hd] at hf; cases hf
    · simp at hd; exact ⟨hd.1, hd.2⟩
  have hd' : (decide (n.delay < 0) || decide (n.delay > 1000000)) = false := by simp; omega
  rw [hd'] at hf
  simp only [Bool.false_eq_true, if_false] at hf
  have nd := num_back hdel.1 hdel.2
  have x1 : timB ≠ actB := by decide
  have x2 : chiB ≠ actB ∧ chiB ≠ timB := by decide
  have x3 : waiB ≠ actB ∧ waiB ≠ timB ∧ waiB ≠ chiB := by decide
  have x4 : senB ≠ actB ∧ senB ≠ timB ∧ senB ≠ chiB ∧ senB ≠ waiB := by decide
  have y1 : aftB ≠ triB ∧ aftB ≠ tmoB ∧ tmoB ≠ triB := by decide
  unfold kindW at hk
  by_cases k1 : n.kind = 1
  · rw [if_pos k1] at hk
    simp only [k1, beq_self_eq_true, if_true, Bool.and_eq_true, decide_eq_true_eq] at hf
    obtain ⟨⟨t1, t2⟩, t3⟩ := hf
    have nt := num_back (z := n.tries) (by omega) (by omega)
    have harg : nameP n.arg = true := by rcases ha with h | h; · omega
                                         · exact h
    have hto := empty_of t3
    simp only [List.cons_append, List.nil_append, List.cons.injEq] at hk
    obtain ⟨rfl, rfl⟩ := hk
    have rest : ∀ (b : Bool) (q : List ByteArray), rTake tmoB (r ++ q, b) = (false, (r ++ q, b)) ∨ r = [] := by
      intro b q
      rcases hr with e | ⟨t, e⟩
      · exact .inr e
      · left; rw [e]; simp [rTake, y1.2.1]
    have rt : rTake tmoB (r, false) = (false, (r, false)) := by
      rcases hr with e | ⟨t, e⟩
      · rw [e]; rfl
      · rw [e]; simp [rTake, y1.2.1]
    have rt3 : rTake triB (r, false) = (false, (r, false)) := by
      rcases hr with e | ⟨t, e⟩
      · rw [e]; rfl
      · rw [e]; simp [rTake, y1.1]
    have e1 : ∀ q, rName (n.arg :: q, false) = (n.arg, (q, false)) := fun q => by simp [rName, rWord, harg]
    have e2 : ∀ q, rNum (itB n.tries :: q, false) = (n.tries, (q, false)) := fun q => by simp [rNum, rWord, nt.1, nt.2]
    have e3 : ∀ q, rNum (itB n.delay :: q, false) = (n.delay, (q, false)) := fun q => by simp [rNum, rWord, nd.1, nd.2]
    have f1 : ∀ q, rTake triB (triB :: q, false) = (true, (q, false)) := fun q => by simp [rTake]
    have f2 : ∀ q, rTake tmoB (tmoB :: q, false) = (true, (q, false)) := fun q => by simp [rTake]
    have f3 : ∀ q, rTake triB (tmoB :: q, false) = (false, (tmoB :: q, false)) := fun q => by simp [rTake, y1.2.2]
    unfold rKind
    rw [if_pos rfl, List.cons_append, e1]
    by_cases ht1 : n.tries = 1
    · by_cases hd0 : n.delay = 0
      · simp [ht1, hd0, rt3, rt, k1, hto]
      · simp [ht1, hd0, f3, f2, e3, k1, hto]
    · by_cases hd0 : n.delay = 0
      · simp [ht1, hd0, f1, e2, rt, k1, hto]
      · simp [ht1, hd0, f1, e2, f2, e3, k1, hto]
  · rw [if_neg k1] at hk
    have b1 : (n.kind == 1) = false := by simp [k1]
    rw [b1] at hf
    simp only [Bool.false_eq_true, if_false] at hf
    by_cases k2 : n.kind = 2
    · rw [if_pos k2] at hk
      simp only [k2, beq_self_eq_true, if_true, Bool.and_eq_true, beq_iff_eq, decide_eq_true_eq] at hf
      obtain ⟨⟨t1, t2⟩, t3⟩ := hf
      simp only [List.cons.injEq] at hk
      obtain ⟨rfl, rfl⟩ := hk
      have e3 : ∀ q, rNum (itB n.delay :: q, false) = (n.delay, (q, false)) := fun q => by simp [rNum, rWord, nd.1, nd.2]
      unfold rKind
      rw [if_neg x1, if_pos rfl, List.singleton_append, e3]
      simp [k2, t1, empty_of t2, empty_of t3]
    · rw [if_neg k2] at hk
      have b2 : (n.kind == 2) = false := by simp [k2]
      rw [b2] at hf
      simp only [Bool.false_eq_true, if_false] at hf
      have harg : nameP n.arg = true := by rcases ha with h | h; · exact absurd h k2
                                           · exact h
      have e1 : ∀ q, rName (n.arg :: q, false) = (n.arg, (q, false)) := fun q => by simp [rName, rWord, harg]
      by_cases k3 : n.kind = 3
      · rw [if_pos k3] at hk
        simp only [k3, beq_self_eq_true, Bool.true_or, if_true, Bool.and_eq_true, beq_iff_eq, decide_eq_true_eq] at hf
        obtain ⟨⟨t1, t2⟩, t3⟩ := hf
        simp only [List.cons.injEq] at hk
        obtain ⟨rfl, rfl⟩ := hk
        unfold rKind
        rw [if_neg x2.1, if_neg x2.2, if_pos rfl, List.singleton_append, e1]
        simp [k3, t1, empty_of t2, t3]
      · rw [if_neg k3] at hk
        by_cases k4 : n.kind = 4
        · rw [if_pos k4] at hk
          simp only [k4, beq_self_eq_true, Bool.or_true, if_true, Bool.and_eq_true, beq_iff_eq, decide_eq_true_eq] at hf
          obtain ⟨⟨t1, t2⟩, t3⟩ := hf
          simp only [List.cons.injEq] at hk
          obtain ⟨rfl, rfl⟩ := hk
          unfold rKind
          rw [if_neg x3.1, if_neg x3.2.1, if_neg x3.2.2, if_pos rfl, List.singleton_append, e1]
          simp [k4, t1, empty_of t2, t3]
        · rw [if_neg k4] at hk
          have b3 : (n.kind == 3 || n.kind == 4) = false := by simp [k3, k4]
          rw [b3] at hf
          simp only [Bool.false_eq_true, if_false] at hf
          by_cases k5 : n.kind = 5
          · rw [if_pos k5] at hk
            simp only [k5, beq_self_eq_true, if_true, Bool.and_eq_true, beq_iff_eq] at hf
            obtain ⟨t1, t3⟩ := hf
            simp only [List.cons.injEq] at hk
            obtain ⟨rfl, rfl⟩ := hk
            have hto : flowP n.to = true := by rcases ht with h | h; · exact absurd k5 h
                                               · exact h
            have e2 : ∀ q, rFlow (n.to :: q, false) = (n.to, (q, false)) := fun q => by simp [rFlow, rWord, hto]
            unfold rKind
            rw [if_neg x4.1, if_neg x4.2.1, if_neg x4.2.2.1, if_neg x4.2.2.2, if_pos rfl, List.cons_append, e2, List.singleton_append, e1]
            simp [k5, t1, t3]
          · rw [if_neg k5] at hk
            cases hk

theorem kindW_cons {n : Nd} (h : NdRight n) : ∃ k ws, kindW n = k :: ws := by
  have hf := h.fits
  unfold kindW
  by_cases k1 : n.kind = 1
  · rw [if_pos k1]; exact ⟨_, _, rfl⟩
  · rw [if_neg k1]
    by_cases k2 : n.kind = 2
    · rw [if_pos k2]; exact ⟨_, _, rfl⟩
    · rw [if_neg k2]
      by_cases k3 : n.kind = 3
      · rw [if_pos k3]; exact ⟨_, _, rfl⟩
      · rw [if_neg k3]
        by_cases k4 : n.kind = 4
        · rw [if_pos k4]; exact ⟨_, _, rfl⟩
        · rw [if_neg k4]
          by_cases k5 : n.kind = 5
          · rw [if_pos k5]; exact ⟨_, _, rfl⟩
          · unfold fitsP at hf
            simp [k1, k2, k3, k4, k5] at hf

theorem node_back {n : Nd} (h : NdRight n) : rNode (wordsW n, false) = (n, ([], false)) := by
  have hnm := h.named
  unfold namedP at hnm
  simp only [Bool.and_eq_true] at hnm
  obtain ⟨k, ws, hk⟩ := kindW_cons h
  have hkb := kind_back h (aftW n.after) (by unfold aftW; split; · exact .inl rfl
                                             · exact .inr ⟨_, rfl⟩) k ws hk
  have e1 : ∀ q, rName (n.name :: q, false) = (n.name, (q, false)) := fun q => by simp [rName, rWord, hnm.1.1]
  have e2 : ∀ q, rWord (k :: q, false) = (k, (q, false)) := fun q => rfl
  unfold rNode wordsW
  rw [hk, e1, List.cons_append, e2]
  simp only []
  rw [hkb]
  simp only []
  rw [tail_back h.after]
  rfl

/-! ### The text -/

def bytesW (ws : List ByteArray) : List (List UInt8) := ws.map (·.data.toList)

theorem wordsW_ok {n : Nd} (h : NdRight n) : ∀ w ∈ bytesW (wordsW n), WordOk w := by
  have hf := h.fits
  have hnm := h.named
  unfold namedP at hnm
  simp only [Bool.and_eq_true, Bool.or_eq_true, beq_iff_eq, bne_iff_ne] at hnm
  obtain ⟨⟨hn, ha⟩, ht⟩ := hnm
  obtain ⟨⟨l1, l2, l3, l4, l5⟩, l6, l7, l8, l9⟩ := lit_words
  have hdel : 0 ≤ n.delay := by
    unfold fitsP at hf
    by_cases hd : (n.delay < 0 || n.delay > 1000000) = true
    · rw [if_pos hd] at hf; cases hf
    · simp at hd; exact hd.1
  have htr : n.kind = 1 → 0 ≤ n.tries := by
    intro k1
    unfold fitsP at hf
    by_cases hd : (n.delay < 0 || n.delay > 1000000) = true
    · rw [if_pos hd] at hf; cases hf
    · rw [if_neg hd] at hf
      simp [k1] at hf
      omega
  have dw := dig_word n.delay hdel
  intro w hw
  obtain ⟨s, hs, rfl⟩ := List.mem_map.1 hw
  unfold wordsW at hs
  rw [List.mem_cons, List.mem_append] at hs
  rcases hs with rfl | hs | hs
  · exact name_word hn
  · unfold kindW at hs
    by_cases k1 : n.kind = 1
    · have tw := dig_word n.tries (htr k1)
      have harg : nameP n.arg = true := by rcases ha with h | h; · omega
                                           · exact h
      rw [if_pos k1] at hs
      simp only [List.cons_append, List.nil_append, List.mem_cons, List.mem_append] at hs
      rcases hs with rfl | rfl | hs | hs
      · exact l1
      · exact name_word harg
      · split at hs
        · cases hs
        · simp only [List.mem_cons, List.not_mem_nil, or_false] at hs
          rcases hs with rfl | rfl
          · exact l6
          · unfold itB; rw [mkB_list]; exact tw
      · split at hs
        · cases hs
        · simp only [List.mem_cons, List.not_mem_nil, or_false] at hs
          rcases hs with rfl | rfl
          · exact l7
          · unfold itB; rw [mkB_list]; exact dw
    · rw [if_neg k1] at hs
      by_cases k2 : n.kind = 2
      · rw [if_pos k2] at hs
        simp only [List.mem_cons, List.not_mem_nil, or_false] at hs
        rcases hs with rfl | rfl
        · exact l2
        · unfold itB; rw [mkB_list]; exact dw
      · rw [if_neg k2] at hs
        have harg : nameP n.arg = true := by rcases ha with h | h; · exact absurd h k2
                                             · exact h
        by_cases k3 : n.kind = 3
        · rw [if_pos k3] at hs
          simp only [List.mem_cons, List.not_mem_nil, or_false] at hs
          rcases hs with rfl | rfl
          · exact l3
          · exact name_word harg
        · rw [if_neg k3] at hs
          by_cases k4 : n.kind = 4
          · rw [if_pos k4] at hs
            simp only [List.mem_cons, List.not_mem_nil, or_false] at hs
            rcases hs with rfl | rfl
            · exact l4
            · exact name_word harg
          · rw [if_neg k4] at hs
            by_cases k5 : n.kind = 5
            · rw [if_pos k5] at hs
              have hto : flowP n.to = true := by rcases ht with h | h; · exact absurd k5 h
                                                 · exact h
              simp only [List.mem_cons, List.not_mem_nil, or_false] at hs
              rcases hs with rfl | rfl | rfl
              · exact l5
              · exact flow_word hto
              · exact name_word harg
            · rw [if_neg k5] at hs; cases hs
  · unfold aftW at hs
    split at hs
    · cases hs
    · rw [List.mem_cons] at hs
      rcases hs with rfl | hs
      · exact l8
      · exact name_word (h.after s hs)

/-- A definition's lines, word by word. -/
def linesW (nm : ByteArray) (ns : List Nd) : List (List ByteArray) := [wfB, nm] :: ns.map wordsW

/-- What is written of words: sep between, a line's end behind. -/
def lineL (sep : List UInt8) (ws : List ByteArray) : List UInt8 := Lib.join (bytesW ws) sep
def textL (sep : List UInt8) (ls : List (List ByteArray)) : List UInt8 := ls.flatMap (fun ws => lineL sep ws ++ [10])

theorem textL_cons (sep : List UInt8) (ws : List ByteArray) (ls : List (List ByteArray)) : textL sep (ws :: ls) = lineL sep ws ++ 10 :: textL sep ls := by simp [textL]

theorem bytesW_back (ws : List ByteArray) : (bytesW ws).map mkB = ws := by
  unfold bytesW
  rw [List.map_map]
  conv => rhs; rw [← List.map_id ws]
  apply List.map_congr_left
  intro s _
  exact mkB_data s

/-- Words that are there, and whose first is no remark. -/
def LineOk (ws : List ByteArray) : Prop := ws ≠ [] ∧ ∀ w ∈ bytesW ws, WordOk w

theorem line_words {sep : List UInt8} (hs : sep ≠ []) (hb : ∀ b ∈ sep, b = 32) {ws : List ByteArray} (h : LineOk ws) (e : List UInt8) (he : ∀ b ∈ e, b = 32) : wordsP (mkB (e ++ lineL sep ws)) = ws := by
  rw [wordsP_split, splitW_blanks e _ he]
  unfold lineL
  rw [splitW_join sep hs hb (bytesW ws) h.2, bytesW_back]

theorem line_loud {ws : List ByteArray} (h : LineOk ws) : rSilent (ws, false) = false := by
  cases ws with
  | nil => exact absurd rfl h.1
  | cons x t =>
    have := (h.2 x.data.toList (by simp [bytesW])).2.2
    unfold rSilent
    simp only [beq_eq_false_iff_ne]
    exact this

theorem joinTail_mem {sep : List UInt8} {ws : List (List UInt8)} {b : UInt8} (h : b ∈ Lib.joinTail sep ws) : b ∈ sep ∨ ∃ w ∈ ws, b ∈ w := by
  unfold Lib.joinTail at h
  rw [List.mem_flatten] at h
  obtain ⟨l, hl, hb⟩ := h
  obtain ⟨w, hw, rfl⟩ := List.mem_map.1 hl
  rcases List.mem_append.1 hb with hb | hb
  · exact .inl hb
  · exact .inr ⟨w, hw, hb⟩

theorem line_noNl {sep : List UInt8} (hb : ∀ b ∈ sep, b = 32) {ws : List ByteArray} (h : LineOk ws) : ∀ b ∈ lineL sep ws, b ≠ 10 := by
  intro b hmem
  unfold lineL at hmem
  cases hw : bytesW ws with
  | nil => rw [hw] at hmem; simp [Lib.join_nil] at hmem
  | cons x t =>
    have h2 := h.2
    rw [hw] at hmem h2
    rw [Lib.join_cons, List.mem_append] at hmem
    rcases hmem with hm | hm
    · exact ((h2 x (by simp)).2.1 b hm).2
    · rcases joinTail_mem hm with hm | ⟨w, hw', hm⟩
      · rw [hb b hm]; decide
      · exact ((h2 w (by simp [hw'])).2.1 b hm).2

theorem text_says {sep : List UInt8} (hs : sep ≠ []) (hb : ∀ b ∈ sep, b = 32) : ∀ (ls : List (List ByteArray)) (r : List UInt8), (∀ ws ∈ ls, LineOk ws) → saysL (linesP (mkB (textL sep ls ++ r))) = ls ++ saysL (linesP (mkB r))
  | [], r, _ => rfl
  | ws :: ls, r, h => by
    have hw := h ws (by simp)
    have e := line_words hs hb hw [] (by simp)
    rw [List.nil_append] at e
    rw [textL_cons, List.append_assoc, List.cons_append, linesP_line _ _ (line_noNl hb hw), saysL_says (by rw [e]; exact line_loud hw), e, text_says hs hb ls r (fun x hx => h x (by simp [hx]))]
    rfl

theorem lines_ok {nm : ByteArray} {ns : List Nd} (h : (checkP nm ns).2 = 0) : ∀ ws ∈ linesW nm ns, LineOk ws := by
  obtain ⟨hnm, _, _, hns⟩ := check_right h
  intro ws hw
  unfold linesW at hw
  rw [List.mem_cons] at hw
  rcases hw with rfl | hw
  · refine ⟨by simp, fun w hw => ?_⟩
    simp only [bytesW, List.map_cons, List.map_nil, List.mem_cons, List.not_mem_nil, or_false] at hw
    rcases hw with rfl | rfl
    · exact lit_words.2.2.2.2
    · exact name_word hnm
  · obtain ⟨n, hn, rfl⟩ := List.mem_map.1 hw
    exact ⟨by simp [wordsW], wordsW_ok (hns n hn).1⟩

theorem says_parse {t nm : ByteArray} {ns : List Nd} (hc : (checkP nm ns).2 = 0) (hsz : t.size ≤ 16384) (h : saysL (linesP t) = linesW nm ns) : parseP t = (some (nm, ns), 0, 0) := by
  obtain ⟨hnm, _, _, hns⟩ := check_right hc
  exact parse_of_says wordsW hsz h hc hnm (fun n hn => node_back (hns n hn).1)

/-- What Text answers. -/
def textP (nm : ByteArray) (ns : List Nd) : ByteArray := if (checkP nm ns).2 = 0 then mkB (textL [32] (linesW nm ns)) else ⟨#[]⟩

theorem text_parse {nm : ByteArray} {ns : List Nd} (hc : (checkP nm ns).2 = 0) (hsz : (textP nm ns).size ≤ 16384) : parseP (textP nm ns) = (some (nm, ns), 0, 0) := by
  refine says_parse hc hsz ?_
  have e := text_says (sep := [32]) (by simp) (by simp) (linesW nm ns) [] (lines_ok hc)
  rw [List.append_nil, linesP_mk0, saysL_nil, List.append_nil] at e
  unfold textP
  rw [if_pos hc, e]

end Go.Proofs.YtlholgpenpfpbaaDoor
