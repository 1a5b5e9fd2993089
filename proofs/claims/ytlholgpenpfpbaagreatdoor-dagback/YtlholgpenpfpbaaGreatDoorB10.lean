/-
  A definition's text is read as the definition; so is the text with doubled blanks, lines and remarks between. Nothing here speaks of a program.
-/
import Derived.Test.YtlholgpenpfpbaaGreatDoorB09
import Derived.Test.YtlholgpenpfpbaaGreatDoorProg
import Derived.Test.YtlholgpenpfpbaaGreatDoorB08
import Derived.Shelf.Strings.OnBuilder
import Derived.Shelf.Strconv.Itoa3
import Derived.Ground.NamesProg
import Derived.Lib.LaidTab
import Derived.Shelf.Strings.BuilderK
namespace Go.Proofs.YtlholgpenpfpbaaGreatDoor
open Go.RowKit

theorem empty_of {s : ByteArray} (h : s.size = 0) : s = ⟨#[]⟩ := by
  obtain ⟨d⟩ := s
  have : d.size = 0 := h
  rw [Array.eq_empty_of_size_eq_zero this]

theorem tail_back {l : List ByteArray} (h : ∀ s ∈ l, nameP s = true) : rTail (aftW l, false) = (l, ([], false)) := by
  cases l with
  | nil => rfl
  | cons x t =>
    have ht : anyBad t = false := by
      unfold anyBad
      rw [List.any_eq_false]
      intro s hs
      simp [h s (by simp [hs])]
    have hx := h x (by simp)
    have e1 : rTake aftB (aftB :: x :: t, false) = (true, (x :: t, false)) := by simp [rTake]
    rw [show aftW (x :: t) = aftB :: x :: t by simp [aftW]]
    unfold rTail
    rw [e1]
    simp [rNames, rName, rWord, rEnd, hx, ht]

theorem kind_back {n : Nd} (h : NdRight n) (r : List ByteArray) (hr : r = [] ∨ ∃ t, r = aftB :: t) (k : ByteArray) (ws : List ByteArray) (hk : kindW n = k :: ws) :
    rKind k (ws ++ r, false) = ((n.kind, n.arg, n.to, n.delay, n.tries), (r, false)) := by
  have hnm := h.named
  have hf := h.fits
  unfold namedP at hnm
  unfold fitsP at hf
  simp only [Bool.and_eq_true, Bool.or_eq_true, beq_iff_eq, bne_iff_ne] at hnm
  obtain ⟨⟨_, ha⟩, ht⟩ := hnm
  have hdel : 0 ≤ n.delay ∧ n.delay ≤ 1000000 := by
    by_cases hd : (n.delay < 0 || n.delay > 1000000) = true
    · rw [if_pos hd] at hf; cases hf
    · simp at hd; exact ⟨hd.1, hd.2⟩
  have hd' : (decide (n.delay < 0) || decide (n.delay > 1000000)) = false := by simp; omega
  rw [hd'] at hf
  simp only [Bool.false_eq_true, if_false] at hf
  have nd := num_back hdel.1 hdel.2
  have x1 : timB ≠ actB := by decide
  have x2 : chiB ≠ actB ∧ chiB ≠ timB := by decide
  have x3 : waiB ≠ actB ∧ waiB ≠ timB ∧ waiB ≠ chiB := by decide
  have x4 : senB ≠ actB ∧ senB ≠ timB ∧ senB ≠ chiB ∧ senB ≠ waiB := by decide
  have y1 : aftB ≠ triB ∧ aftB ≠ tmoB ∧ tmoB ≠ triB := by decide
  unfold kindW at hk
  by_cases k1 : n.kind = 1
  · rw [if_pos k1] at hk
    simp only [k1, beq_self_eq_true, if_true, Bool.and_eq_true, decide_eq_true_eq] at hf
    obtain ⟨⟨t1, t2⟩, t3⟩ := hf
    have nt := num_back (z := n.tries) (by omega) (by omega)
    have harg : nameP n.arg = true := by rcases ha with h | h; · omega
                                         · exact h
    have hto := empty_of t3
    simp only [List.cons_append, List.nil_append, List.cons.injEq] at hk
    obtain ⟨rfl, rfl⟩ := hk
    have rest : ∀ (b : Bool) (q : List ByteArray), rTake tmoB (r ++ q, b) = (false, (r ++ q, b)) ∨ r = [] := by
      intro b q
      rcases hr with e | ⟨t, e⟩
      · exact .inr e
      · left; rw [e]; simp [rTake, y1.2.1]
    have rt : rTake tmoB (r, false) = (false, (r, false)) := by
      rcases hr with e | ⟨t, e⟩
      · rw [e]; rfl
      · rw [e]; simp [rTake, y1.2.1]
    have rt3 : rTake triB (r, false) = (false, (r, false)) := by
      rcases hr with e | ⟨t, e⟩
      · rw [e]; rfl
      · rw [e]; simp [rTake, y1.1]
    have e1 : ∀ q, rName (n.arg :: q, false) = (n.arg, (q, false)) := fun q => by simp [rName, rWord, harg]
    have e2 : ∀ q, rNum (itB n.tries :: q, false) = (n.tries, (q, false)) := fun q => by simp [rNum, rWord, nt.1, nt.2]
    have e3 : ∀ q, rNum (itB n.delay :: q, false) = (n.delay, (q, false)) := fun q => by simp [rNum, rWord, nd.1, nd.2]
    have f1 : ∀ q, rTake triB (triB :: q, false) = (true, (q, false)) := fun q => by simp [rTake]
    have f2 : ∀ q, rTake tmoB (tmoB :: q, false) = (true, (q, false)) := fun q => by simp [rTake]
    have f3 : ∀ q, rTake triB (tmoB :: q, false) = (false, (tmoB :: q, false)) := fun q => by simp [rTake, y1.2.2]
    unfold rKind
    rw [if_pos rfl, List.cons_append, e1]
    by_cases ht1 : n.tries = 1
    · by_cases hd0 : n.delay = 0
      · simp [ht1, hd0, rt3, rt, k1, hto]
      · simp [ht1, hd0, f3, f2, e3, k1, hto]
    · by_cases hd0 : n.delay = 0
      · simp [ht1, hd0, f1, e2, rt, k1, hto]
      · simp [ht1, hd0, f1, e2, f2, e3, k1, hto]
  · rw [if_neg k1] at hk
    have b1 : (n.kind == 1) = false := by simp [k1]
    rw [b1] at hf
    simp only [Bool.false_eq_true, if_false] at hf
    by_cases k2 : n.kind = 2
    · rw [if_pos k2] at hk
      simp only [k2, beq_self_eq_true, if_true, Bool.and_eq_true, beq_iff_eq, decide_eq_true_eq] at hf
      obtain ⟨⟨t1, t2⟩, t3⟩ := hf
      simp only [List.cons.injEq] at hk
      obtain ⟨rfl, rfl⟩ := hk
      have e3 : ∀ q, rNum (itB n.delay :: q, false) = (n.delay, (q, false)) := fun q => by simp [rNum, rWord, nd.1, nd.2]
      unfold rKind
      rw [if_neg x1, if_pos rfl, List.singleton_append, e3]
      simp [k2, t1, empty_of t2, empty_of t3]
    · rw [if_neg k2] at hk
      have b2 : (n.kind == 2) = false := by simp [k2]
      rw [b2] at hf
      simp only [Bool.false_eq_true, if_false] at hf
      have harg : nameP n.arg = true := by rcases ha with h | h; · exact absurd h k2
                                           · exact h
      have e1 : ∀ q, rName (n.arg :: q, false) = (n.arg, (q, false)) := fun q => by simp [rName, rWord, harg]
      by_cases k3 : n.kind = 3
      · rw [if_pos k3] at hk
        simp only [k3, beq_self_eq_true, Bool.true_or, if_true, Bool.and_eq_true, beq_iff_eq, decide_eq_true_eq] at hf
        obtain ⟨⟨t1, t2⟩, t3⟩ := hf
        simp only [List.cons.injEq] at hk
        obtain ⟨rfl, rfl⟩ := hk
        unfold rKind
        rw [if_neg x2.1, if_neg x2.2, if_pos rfl, List.singleton_append, e1]
        simp [k3, t1, empty_of t2, t3]
      · rw [if_neg k3] at hk
        by_cases k4 : n.kind = 4
        · rw [if_pos k4] at hk
          simp only [k4, beq_self_eq_true, Bool.or_true, if_true, Bool.and_eq_true, beq_iff_eq, decide_eq_true_eq] at hf
          obtain ⟨⟨t1, t2⟩, t3⟩ := hf
          simp only [List.cons.injEq] at hk
          obtain ⟨rfl, rfl⟩ := hk
          unfold rKind
          rw [if_neg x3.1, if_neg x3.2.1, if_neg x3.2.2, if_pos rfl, List.singleton_append, e1]
          simp [k4, t1, empty_of t2, t3]
        · rw [if_neg k4] at hk
          have b3 : (n.kind == 3 || n.kind == 4) = false := by simp [k3, k4]
          rw [b3] at hf
          simp only [Bool.false_eq_true, if_false] at hf
          by_cases k5 : n.kind = 5
          · rw [if_pos k5] at hk
            simp only [k5, beq_self_eq_true, if_true, Bool.and_eq_true, beq_iff_eq] at hf
            obtain ⟨t1, t3⟩ := hf
            simp only [List.cons.injEq] at hk
            obtain ⟨rfl, rfl⟩ := hk
            have hto : flowP n.to = true := by rcases ht with h | h; · exact absurd k5 h
                                               · exact h
            have e2 : ∀ q, rFlow (n.to :: q, false) = (n.to, (q, false)) := fun q => by simp [rFlow, rWord, hto]
            unfold rKind
            rw [if_neg x4.1, if_neg x4.2.1, if_neg x4.2.2.1, if_neg x4.2.2.2, if_pos rfl, List.cons_append, e2, List.singleton_append, e1]
            simp [k5, t1, t3]
          · rw [if_neg k5] at hk
            cases hk

theorem kindW_cons {n : Nd} (h : NdRight n) : ∃ k ws, kindW n = k :: ws := by
  have hf := h.fits
  unfold kindW
  by_cases k1 : n.kind = 1
  · rw [if_pos k1]; exact ⟨_, _, rfl⟩
  · rw [if_neg k1]
    by_cases k2 : n.kind = 2
    · rw [if_pos k2]; exact ⟨_, _, rfl⟩
    · rw [if_neg k2]
      by_cases k3 : n.kind = 3
      · rw [if_pos k3]; exact ⟨_, _, rfl⟩
      · rw [if_neg k3]
        by_cases k4 : n.kind = 4
        · rw [if_pos k4]; exact ⟨_, _, rfl⟩
        · rw [if_neg k4]
          by_cases k5 : n.kind = 5
          · rw [if_pos k5]; exact ⟨_, _, rfl⟩
          · unfold fitsP at hf
            simp [k1, k2, k3, k4, k5] at hf

theorem node_back {n : Nd} (h : NdRight n) : rNode (wordsW n, false) = (n, ([], false)) := by
  have hnm := h.named
  unfold namedP at hnm
  simp only [Bool.and_eq_true] at hnm
  obtain ⟨k, ws, hk⟩ := kindW_cons h
  have hkb := kind_back h (aftW n.after) (by unfold aftW; split; · exact .inl rfl
                                             · exact .inr ⟨_, rfl⟩) k ws hk
  have e1 : ∀ q, rName (n.name :: q, false) = (n.name, (q, false)) := fun q => by simp [rName, rWord, hnm.1.1]
  have e2 : ∀ q, rWord (k :: q, false) = (k, (q, false)) := fun q => rfl
  unfold rNode wordsW
  rw [hk, e1, List.cons_append, e2]
  simp only []
  rw [hkb]
  simp only []
  rw [tail_back h.after]
  rfl

/-! ### The text -/

def bytesW (ws : List ByteArray) : List (List UInt8) := ws.map (·.data.toList)

theorem wordsW_ok {n : Nd} (h : NdRight n) : ∀ w ∈ bytesW (wordsW n), WordOk w := by
  have hf := h.fits
  have hnm := h.named
  unfold namedP at hnm
  simp only [Bool.and_eq_true, Bool.or_eq_true, beq_iff_eq, bne_iff_ne] at hnm
  obtain ⟨⟨hn, ha⟩, ht⟩ := hnm
  obtain ⟨⟨l1, l2, l3, l4, l5⟩, l6, l7, l8, l9⟩ := lit_words
  have hdel : 0 ≤ n.delay := by
    unfold fitsP at hf
    by_cases hd : (n.delay < 0 || n.delay > 1000000) = true
    · rw [if_pos hd] at hf; cases hf
    · simp at hd; exact hd.1
  have htr : n.kind = 1 → 0 ≤ n.tries := by
    intro k1
    unfold fitsP at hf
    by_cases hd : (n.delay < 0 || n.delay > 1000000) = true
    · rw [if_pos hd] at hf; cases hf
    · rw [if_neg hd] at hf
      simp [k1] at hf
      omega
  have dw := dig_word n.delay hdel
  intro w hw
  obtain ⟨s, hs, rfl⟩ := List.mem_map.1 hw
  unfold wordsW at hs
  rw [List.mem_cons, List.mem_append] at hs
  rcases hs with rfl | hs | hs
  · exact name_word hn
  · unfold kindW at hs
    by_cases k1 : n.kind = 1
    · have tw := dig_word n.tries (htr k1)
      have harg : nameP n.arg = true := by rcases ha with h | h; · omega
                                           · exact h
      rw [if_pos k1] at hs
      simp only [List.cons_append, List.nil_append, List.mem_cons, List.mem_append] at hs
      rcases hs with rfl | rfl | hs | hs
      · exact l1
      · exact name_word harg
      · split at hs
        · cases hs
        · simp only [List.mem_cons, List.not_mem_nil, or_false] at hs
          rcases hs with rfl | rfl
          · exact l6
          · unfold itB; rw [mkB_list]; exact tw
      · split at hs
        · cases hs
        · simp only [List.mem_cons, List.not_mem_nil, or_false] at hs
          rcases hs with rfl | rfl
          · exact l7
          · unfold itB; rw [mkB_list]; exact dw
    · rw [if_neg k1] at hs
      by_cases k2 : n.kind = 2
      · rw [if_pos k2] at hs
        simp only [List.mem_cons, List.not_mem_nil, or_false] at hs
        rcases hs with rfl | rfl
        · exact l2
        · unfold itB; rw [mkB_list]; exact dw
      · rw [if_neg k2] at hs
        have harg : nameP n.arg = true := by rcases ha with h | h; · exact absurd h k2
                                             · exact h
        by_cases k3 : n.kind = 3
        · rw [if_pos k3] at hs
          simp only [List.mem_cons, List.not_mem_nil, or_false] at hs
          rcases hs with rfl | rfl
          · exact l3
          · exact name_word harg
        · rw [if_neg k3] at hs
          by_cases k4 : n.kind = 4
          · rw [if_pos k4] at hs
            simp only [List.mem_cons, List.not_mem_nil, or_false] at hs
            rcases hs with rfl | rfl
            · exact l4
            · exact name_word harg
          · rw [if_neg k4] at hs
            by_cases k5 : n.kind = 5
            · rw [if_pos k5] at hs
              have hto : flowP n.to = true := by rcases ht with h | h; · exact absurd k5 h
                                                 · exact h
              simp only [List.mem_cons, List.not_mem_nil, or_false] at hs
              rcases hs with rfl | rfl | rfl
              · exact l5
              · exact flow_word hto
              · exact name_word harg
            · rw [if_neg k5] at hs; cases hs
  · unfold aftW at hs
    split at hs
    · cases hs
    · rw [List.mem_cons] at hs
      rcases hs with rfl | hs
      · exact l8
      · exact name_word (h.after s hs)

/-- A definition's lines, word by word. -/
def linesW (nm : ByteArray) (ns : List Nd) : List (List ByteArray) := [wfB, nm] :: ns.map wordsW

/-- What is written of words: sep between, a line's end behind. -/
def lineL (sep : List UInt8) (ws : List ByteArray) : List UInt8 := Lib.join (bytesW ws) sep
def textL (sep : List UInt8) (ls : List (List ByteArray)) : List UInt8 := ls.flatMap (fun ws => lineL sep ws ++ [10])

theorem textL_cons (sep : List UInt8) (ws : List ByteArray) (ls : List (List ByteArray)) : textL sep (ws :: ls) = lineL sep ws ++ 10 :: textL sep ls := by simp [textL]

theorem bytesW_back (ws : List ByteArray) : (bytesW ws).map mkB = ws := by
  unfold bytesW
  rw [List.map_map]
  conv => rhs; rw [← List.map_id ws]
  apply List.map_congr_left
  intro s _
  exact mkB_data s

/-- Words that are there, and whose first is no remark. -/
def LineOk (ws : List ByteArray) : Prop := ws ≠ [] ∧ ∀ w ∈ bytesW ws, WordOk w

theorem line_words {sep : List UInt8} (hs : sep ≠ []) (hb : ∀ b ∈ sep, b = 32) {ws : List ByteArray} (h : LineOk ws) (e : List UInt8) (he : ∀ b ∈ e, b = 32) : wordsP (mkB (e ++ lineL sep ws)) = ws := by
  rw [wordsP_split, splitW_blanks e _ he]
  unfold lineL
  rw [splitW_join sep hs hb (bytesW ws) h.2, bytesW_back]

theorem line_loud {ws : List ByteArray} (h : LineOk ws) : rSilent (ws, false) = false := by
  cases ws with
  | nil => exact absurd rfl h.1
  | cons x t =>
    have := (h.2 x.data.toList (by simp [bytesW])).2.2
    unfold rSilent
    simp only [beq_eq_false_iff_ne]
    exact this

theorem joinTail_mem {sep : List UInt8} {ws : List (List UInt8)} {b : UInt8} (h : b ∈ Lib.joinTail sep ws) : b ∈ sep ∨ ∃ w ∈ ws, b ∈ w := by
  unfold Lib.joinTail at h
  rw [List.mem_flatten] at h
  obtain ⟨l, hl, hb⟩ := h
  obtain ⟨w, hw, rfl⟩ := List.mem_map.1 hl
  rcases List.mem_append.1 hb with hb | hb
  · exact .inl hb
  · exact .inr ⟨w, hw, hb⟩

theorem line_noNl {sep : List UInt8} (hb : ∀ b ∈ sep, b = 32) {ws : List ByteArray} (h : LineOk ws) : ∀ b ∈ lineL sep ws, b ≠ 10 := by
  intro b hmem
  unfold lineL at hmem
  cases hw : bytesW ws with
  | nil => rw [hw] at hmem; simp [Lib.join_nil] at hmem
  | cons x t =>
    have h2 := h.2
    rw [hw] at hmem h2
    rw [Lib.join_cons, List.mem_append] at hmem
    rcases hmem with hm | hm
    · exact ((h2 x (by simp)).2.1 b hm).2
    · rcases joinTail_mem hm with hm | ⟨w, hw', hm⟩
      · rw [hb b hm]; decide
      · exact ((h2 w (by simp [hw'])).2.1 b hm).2

theorem text_says {sep : List UInt8} (hs : sep ≠ []) (hb : ∀ b ∈ sep, b = 32) : ∀ (ls : List (List ByteArray)) (r : List UInt8), (∀ ws ∈ ls, LineOk ws) → saysL (linesP (mkB (textL sep ls ++ r))) = ls ++ saysL (linesP (mkB r))
  | [], r, _ => rfl
  | ws :: ls, r, h => by
    have hw := h ws (by simp)
    have e := line_words hs hb hw [] (by simp)
    rw [List.nil_append] at e
    rw [textL_cons, List.append_assoc, List.cons_append, linesP_line _ _ (line_noNl hb hw), saysL_says (by rw [e]; exact line_loud hw), e, text_says hs hb ls r (fun x hx => h x (by simp [hx]))]
    rfl

theorem lines_ok {nm : ByteArray} {ns : List Nd} (h : (checkP nm ns).2 = 0) : ∀ ws ∈ linesW nm ns, LineOk ws := by
  obtain ⟨hnm, _, _, hns⟩ := check_right h
  intro ws hw
  unfold linesW at hw
  rw [List.mem_cons] at hw
  rcases hw with rfl | hw
  · refine ⟨by simp, fun w hw => ?_⟩
    simp only [bytesW, List.map_cons, List.map_nil, List.mem_cons, List.not_mem_nil, or_false] at hw
    rcases hw with rfl | rfl
    · exact lit_words.2.2.2.2
    · exact name_word hnm
  · obtain ⟨n, hn, rfl⟩ := List.mem_map.1 hw
    exact ⟨by simp [wordsW], wordsW_ok (hns n hn).1⟩

theorem says_parse {t nm : ByteArray} {ns : List Nd} (hc : (checkP nm ns).2 = 0) (hsz : t.size ≤ 16384) (h : saysL (linesP t) = linesW nm ns) : parseP t = (some (nm, ns), 0, 0) := by
  obtain ⟨hnm, _, _, hns⟩ := check_right hc
  exact parse_of_says wordsW hsz h hc hnm (fun n hn => node_back (hns n hn).1)

/-- What Text answers. -/
def textP (nm : ByteArray) (ns : List Nd) : ByteArray := if (checkP nm ns).2 = 0 then mkB (textL [32] (linesW nm ns)) else ⟨#[]⟩

theorem text_parse {nm : ByteArray} {ns : List Nd} (hc : (checkP nm ns).2 = 0) (hsz : (textP nm ns).size ≤ 16384) : parseP (textP nm ns) = (some (nm, ns), 0, 0) := by
  refine says_parse hc hsz ?_
  have e := text_says (sep := [32]) (by simp) (by simp) (linesW nm ns) [] (lines_ok hc)
  rw [List.append_nil, linesP_mk0, saysL_nil, List.append_nil] at e
  unfold textP
  rw [if_pos hc, e]

end Go.Proofs.YtlholgpenpfpbaaGreatDoor

/-
  The numbers under which this program bears strings.Join, the writers of strings.Builder and strconv.Itoa: written by program for this dump.
-/
namespace Go.Proofs
open Go.Shelf
def Tryz.joinL_ren : Go.Shelf.Ren := ⟨fun | 156 => 12 | 165 => 26 | 166 => 11 | 169 => 14 | 240 => 25 | 241 => 46 | 276 => 45 | 277 => 67 | n => n, fun | 31 => 33 | 9 => 9 | 3 => 3 | 4 => 4 | 0 => 0 | 20 => 20 | 72 => 41 | 76 => 44 | 70 => 38 | 37 => 39 | 75 => 43 | 127 => 61 | 164 => 82 | 5 => 5 | 80 => 48 | n => n, fun | n => n⟩
theorem Tryz.joinL : Go.Proofs.Lays.n156 Tryz.prog Tryz.joinL_ren := {
  mixed := by kernel_rfl
  f156 := Tryz.func12.trans (congrArg some (by kernel_rfl))
  f165 := Tryz.func26.trans (congrArg some (by kernel_rfl))
  f166 := Tryz.func11.trans (congrArg some (by kernel_rfl))
  f169 := Tryz.func14.trans (congrArg some (by kernel_rfl))
  f240 := Tryz.func25.trans (congrArg some (by kernel_rfl))
  f241 := Tryz.func46.trans (congrArg some (by kernel_rfl))
  f276 := Tryz.func45.trans (congrArg some (by kernel_rfl))
  f277 := Tryz.func67.trans (congrArg some (by kernel_rfl))
  t0 := Tryz.underlying0
  a0 := Tryz.isAgg0
  z0 := Tryz.sizeOf0
  v0 := Tryz.zeroValue0
  t3 := Tryz.underlying3
  a3 := Tryz.isAgg3
  z3 := Tryz.sizeOf3
  v3 := Tryz.zeroValue3
  t4 := Tryz.underlying4
  a4 := Tryz.isAgg4
  z4 := Tryz.sizeOf4
  v4 := Tryz.zeroValue4
  t9 := Tryz.underlying9
  a9 := Tryz.isAgg9
  z9 := Tryz.sizeOf9
  v9 := Tryz.zeroValue9
  t20 := Tryz.underlying20
  a20 := Tryz.isAgg20
  z20 := Tryz.sizeOf20
  v20 := Tryz.zeroValue20
  t31 := Tryz.underlying33
  a31 := Tryz.isAgg33
  z31 := Tryz.sizeOf33
  v31 := Tryz.zeroValue33
  t37 := Tryz.underlying39
  a37 := Tryz.isAgg39
  z37 := Tryz.sizeOf39
  v37 := Tryz.zeroValue39
  t70 := Tryz.underlying38
  a70 := Tryz.isAgg38
  z70 := Tryz.sizeOf38
  v70 := Tryz.zeroValue38
  t72 := Tryz.underlying41
  a72 := Tryz.isAgg41
  z72 := Tryz.sizeOf41
  v72 := Tryz.zeroValue41
  t75 := Tryz.underlying43
  a75 := Tryz.isAgg43
  z75 := Tryz.sizeOf43
  v75 := Tryz.zeroValue43
  t76 := Tryz.underlying44
  a76 := Tryz.isAgg44
  z76 := Tryz.sizeOf44
  v76 := Tryz.zeroValue44
  t127 := Tryz.underlying61
  a127 := Tryz.isAgg61
  z127 := Tryz.sizeOf61
  v127 := Tryz.zeroValue61
  t164 := Tryz.underlying82
  a164 := Tryz.isAgg82
  z164 := Tryz.sizeOf82
  v164 := Tryz.zeroValue82 }
def Tryz.itoaM_ren : Go.Shelf.Ren := ⟨fun | 171 => 27 | 243 => 47 | 246 => 68 | 283 => 74 | 284 => 75 | 285 => 76 | 286 => 77 | 129 => 85 | 317 => 84 | 318 => 86 | 319 => 87 | 320 => 88 | 337 => 95 | 338 => 96 | n => n, fun | 3 => 3 | 9 => 9 | 2 => 2 | 4 => 4 | 171 => 104 | 0 => 0 | 53 => 105 | 37 => 39 | 5 => 5 | 173 => 108 | 212 => 114 | 51 => 115 | 20 => 20 | 213 => 116 | 46 => 111 | 232 => 134 | 233 => 135 | n => n, fun | 17 => 1 | 18 => 4 | 19 => 5 | n => n⟩
theorem Tryz.itoaM : Go.Proofs.LaysM.n171 Tryz.prog Tryz.itoaM_ren := {
  mixed := by kernel_rfl
  f129 := Tryz.func85.trans (congrArg some (by kernel_rfl))
  f171 := Tryz.func27.trans (congrArg some (by kernel_rfl))
  f243 := Tryz.func47.trans (congrArg some (by kernel_rfl))
  f246 := Tryz.func68.trans (congrArg some (by kernel_rfl))
  f283 := Tryz.func74.trans (congrArg some (by kernel_rfl))
  f284 := Tryz.func75.trans (congrArg some (by kernel_rfl))
  f285 := Tryz.func76.trans (congrArg some (by kernel_rfl))
  f286 := Tryz.func77.trans (congrArg some (by kernel_rfl))
  f317 := Tryz.func84.trans (congrArg some (by kernel_rfl))
  f318 := Tryz.func86.trans (congrArg some (by kernel_rfl))
  f319 := Tryz.func87.trans (congrArg some (by kernel_rfl))
  f320 := Tryz.func88.trans (congrArg some (by kernel_rfl))
  f337 := Tryz.func95.trans (congrArg some (by kernel_rfl))
  f338 := Tryz.func96.trans (congrArg some (by kernel_rfl))
  t0 := Tryz.underlying0
  a0 := Tryz.isAgg0
  z0 := Tryz.sizeOf0
  v0 := Tryz.zeroValue0
  t2 := Tryz.underlying2
  a2 := Tryz.isAgg2
  z2 := Tryz.sizeOf2
  v2 := Tryz.zeroValue2
  t3 := Tryz.underlying3
  a3 := Tryz.isAgg3
  z3 := Tryz.sizeOf3
  v3 := Tryz.zeroValue3
  t4 := Tryz.underlying4
  a4 := Tryz.isAgg4
  z4 := Tryz.sizeOf4
  v4 := Tryz.zeroValue4
  t5 := Tryz.underlying5
  a5 := Tryz.isAgg5
  z5 := Tryz.sizeOf5
  v5 := Tryz.zeroValue5
  t9 := Tryz.underlying9
  a9 := Tryz.isAgg9
  z9 := Tryz.sizeOf9
  v9 := Tryz.zeroValue9
  t20 := Tryz.underlying20
  a20 := Tryz.isAgg20
  z20 := Tryz.sizeOf20
  v20 := Tryz.zeroValue20
  t37 := Tryz.underlying39
  a37 := Tryz.isAgg39
  z37 := Tryz.sizeOf39
  v37 := Tryz.zeroValue39
  t46 := Tryz.underlying111
  a46 := Tryz.isAgg111
  z46 := Tryz.sizeOf111
  v46 := Tryz.zeroValue111
  t51 := Tryz.underlying115
  a51 := Tryz.isAgg115
  z51 := Tryz.sizeOf115
  v51 := Tryz.zeroValue115
  t53 := Tryz.underlying105
  a53 := Tryz.isAgg105
  z53 := Tryz.sizeOf105
  v53 := Tryz.zeroValue105
  t171 := Tryz.underlying104
  a171 := Tryz.isAgg104
  z171 := Tryz.sizeOf104
  v171 := Tryz.zeroValue104
  t173 := Tryz.underlying108
  a173 := Tryz.isAgg108
  z173 := Tryz.sizeOf108
  v173 := Tryz.zeroValue108
  t212 := Tryz.underlying114
  a212 := Tryz.isAgg114
  z212 := Tryz.sizeOf114
  v212 := Tryz.zeroValue114
  t213 := Tryz.underlying116
  a213 := Tryz.isAgg116
  z213 := Tryz.sizeOf116
  t232 := Tryz.underlying134
  a232 := Tryz.isAgg134
  z232 := Tryz.sizeOf134
  v232 := Tryz.zeroValue134
  t233 := Tryz.underlying135
  a233 := Tryz.isAgg135
  z233 := Tryz.sizeOf135
  v233 := Tryz.zeroValue135
  g17 := by kernel_rfl
  g18 := by kernel_rfl
  g19 := by kernel_rfl
  i0 := by kernel_rfl
  i2 := by kernel_rfl
  i3 := by kernel_rfl
  i4 := by kernel_rfl
  i5 := by kernel_rfl
  i9 := by kernel_rfl
  i20 := by kernel_rfl
  i37 := by kernel_rfl
  i46 := by kernel_rfl
  i51 := by kernel_rfl
  i53 := by kernel_rfl
  i171 := by kernel_rfl
  i173 := by kernel_rfl
  i212 := by kernel_rfl
  i232 := by kernel_rfl
  i233 := by kernel_rfl
  m17 := by kernel_rfl
  m18 := by kernel_rfl
  m19 := by kernel_rfl }
end Go.Proofs

/-
  strconv.Itoa at every int (its table is laid); strings.Join and strings.Builder at this program.
-/
namespace Go.Proofs.YtlholgpenpfpbaaGreatDoor
open Go.RowKit Go.Sort Go.ChangeShapes Go.WideShapes Go.ChangeAt

/-- The table of the powers of ten, as its initialiser lays it. -/
abbrev Pow10 (w : World) : Prop := Lib.TabIs Tryz.prog w "internal/strconv.uint64pow10" .u64 Lib.pow10Tab

theorem Pow10.kept {w w' : World} (T : Pow10 w) (K : Kept (fun _ => False) w w') : Pow10 w' := by
  unfold Pow10 Lib.TabIs World.var? at T ⊢
  cases hg : Tryz.prog.globalNamed "internal/strconv.uint64pow10" with
  | none => rw [hg] at T; cases T
  | some g =>
    rw [hg] at T
    simp only [Option.bind_some] at T ⊢
    have hlt : g < w.heap.size := by
      rcases Nat.lt_or_ge g w.heap.size with h' | h'
      · exact h'
      · rw [Array.getElem?_eq_none h'] at T; cases T
    rw [K.block g hlt (fun h => h)]
    exact T

theorem laid_tail {P : Program} {x : String × DataW Unit} {r : List (String × DataW Unit)} {w : World} (h : laidMet P (x :: r) w) : laidMet P r w := by
  obtain ⟨ps, ⟨g, t, cs, fuel, p, q, _, _, _, _, hr, rfl⟩, hn, hc⟩ := h
  exact ⟨q, hr, (List.nodup_append.1 hn).2.1, fun b off hb => hc b off (List.mem_append.2 (.inr hb))⟩

theorem pow10_laid {W : World} (h : laidMetH Tryz.prog laidL W) : Pow10 W := by
  have h1 : laidMet Tryz.prog [("math/bits.deBruijn32tab", Rows.laid_math_bits_deBruijn32tab), ("math/bits.deBruijn64tab", Rows.laid_math_bits_deBruijn64tab), ("internal/strconv.uint64pow10", Lib.tabData .u64 Lib.pow10Tab), ("strconv.ErrRange", Rows.laid_strconv_ErrRange), ("strconv.ErrSyntax", Rows.laid_strconv_ErrSyntax)] W := h
  exact Lib.tabIs_of_head (g := (Tryz.prog.globalNamed "internal/strconv.uint64pow10").getD 0) (t := 114) (e := 105) (n := 20) (by kernel_rfl) (by kernel_rfl) (by kernel_rfl) (by kernel_rfl) (by kernel_rfl) (by kernel_rfl) (laid_tail (laid_tail h1))

theorem kept_grow (w : World) (q : Nat) (os : Array Obj) : Kept (fun _ => False) w (grow (w.drewN q) os) :=
  ⟨rfl, rfl, rfl, by simp [grow], fun i hi _ => by
    show ((w.drewN q).heap ++ os)[i]? = _
    rw [Array.getElem?_append_left (by show i < w.heap.size; omega)]
    rfl⟩

theorem i64_bounds {x : Int} (h : isI64 x) : -9223372036854775808 ≤ x ∧ x ≤ 9223372036854775807 := by
  unfold isI64 at h
  simp [Lit.wf, IntKind.min, IntKind.max, IntKind.signed, IntKind.bits] at h
  omega

theorem itoa_any (w : World) (T : Pow10 w) (n : Int) (hlo : -9223372036854775808 ≤ n) (hhi : n ≤ 9223372036854775807) :
    Calls Tryz.prog 27 #[.int .i64 n] w fun e w' => e = .returned (.string (itB n)) ∧ Kept (fun _ => False) w w' :=
  (Any.strconv_Itoa Tryz.itoaM n hlo hhi w T).mono fun e w' ⟨he, k, os, hw⟩ => ⟨he, by rw [hw]; exact kept_grow w k os⟩

end Go.Proofs.YtlholgpenpfpbaaGreatDoor

/-
  The words of a node's line, as the program makes them.
-/
namespace Go.Proofs.YtlholgpenpfpbaaGreatDoor
open Go.RowKit

/-- The words so far. -/
structure WrSt (w W : World) (C : Array Value) (v : Value) (k : Nat) (l : List ByteArray) : Prop where
  blk : W.heap[w.heap.size]? = some (.cells C 35 (0, 0))
  own : W.ownsRow (w.heap.size + 1) 9 1 v k (strsV l)
  kept : Kept (fun _ => False) w W

theorem WrSt.call {w W W' : World} {C : Array Value} {v : Value} {k : Nat} {l : List ByteArray} (S : WrSt w W C v k l) (K : Kept (fun _ => False) W W') : WrSt w W' C v k l :=
  ⟨(K.block _ (Array.getElem?_eq_some_iff.1 S.blk).1 (fun h => h)).trans S.blk, ownsRow_keep S.own (fun g hg => K.block g (ownsRow_blk S.own hg) (fun h => h)), S.kept.and K⟩

theorem WrSt.begun (w : World) (C : Array Value) (x : ByteArray) : WrSt w ((w.alloc (.cells C 35)).alloc (.cells #[.string x] 9)) C (.slice (some ⟨w.heap.size + 1, 0, none⟩) 1 1) 1 [x] := by
  have h := World.ownsRow_lit (base := w.heap.size + 1) (e := 9) (size := 1) (w.alloc (.cells C 35)) #[.string x] 1 (by rw [World.size_alloc]; exact Nat.le_refl _) (by simp [maxLen]) rfl
  rw [World.size_alloc] at h
  refine ⟨?_, h, (Kept.alloc _ _ _).and (Kept.alloc _ _ _)⟩
  rw [Below.heap_alloc _ _ _ (by rw [World.size_alloc]; omega)]
  exact heap_alloc_new _ _

theorem WrSt.more {w W w3 : World} {C : Array Value} {v v' : Value} {k k' : Nat} {l m : List ByteArray} {o : Obj} (S : WrSt w W C v k l) (ho : w3.ownsRow (w.heap.size + 1) 9 1 v' k' (strsV l ++ strsV m)) (hg : (W.alloc o).grownBy w3 v.ownBlock) : WrSt w w3 C v' k' (l ++ m) := by
  have K : Kept (fun g => w.heap.size + 1 ≤ g) W w3 := (Kept.alloc _ _ _).and (Kept.grown hg (fun g e => (S.own.lt g e).1))
  refine ⟨(K.block _ (Array.getElem?_eq_some_iff.1 S.blk).1 (by omega)).trans S.blk, ?_, S.kept.trans K (fun i h => .inr (by omega))⟩
  rw [show strsV (l ++ m) = strsV l ++ strsV m by simp [strsV]]
  exact ho

theorem WrSt.more0 {w W w3 : World} {C : Array Value} {v v' : Value} {k k' : Nat} {l m : List ByteArray} (S : WrSt w W C v k l) (ho : w3.ownsRow (w.heap.size + 1) 9 1 v' k' (strsV l ++ strsV m)) (hg : W.grownBy w3 v.ownBlock) : WrSt w w3 C v' k' (l ++ m) := by
  have K : Kept (fun g => w.heap.size + 1 ≤ g) W w3 := Kept.grown hg (fun g e => (S.own.lt g e).1)
  refine ⟨(K.block _ (Array.getElem?_eq_some_iff.1 S.blk).1 (by omega)).trans S.blk, ?_, S.kept.trans K (fun i h => .inr (by omega))⟩
  rw [show strsV (l ++ m) = strsV l ++ strsV m by simp [strsV]]
  exact ho

theorem heap_new3 (w : World) (a b o : Obj) : (((w.alloc a).alloc b).alloc o).heap[w.heap.size + 1 + 1]? = some o := by
  have h := heap_alloc_new ((w.alloc a).alloc b) o
  rw [World.size_alloc, World.size_alloc] at h
  exact h

theorem WrSt.top {w W : World} {C : Array Value} {v : Value} {k : Nat} {l : List ByteArray} (S : WrSt w W C v k l) : w.heap.size + 1 ≤ W.heap.size := (Array.getElem?_eq_some_iff.1 S.blk).1

def WrPost (w : World) (ws : List ByteArray) (e : Ending) (w' : World) : Prop := ∃ a c, e = .returned (.slice a ws.length c) ∧ w'.ownsRow w.heap.size 9 1 (.slice a ws.length c) ws.length (strsV ws) ∧ Kept (fun _ => False) w w'

theorem WrSt.post {w W : World} {C : Array Value} {a : Option Addr} {k c : Nat} {l : List ByteArray} (S : WrSt w W C (.slice a k c) k l) (hk : k = l.length) : WrPost w l (.returned (.slice a k c)) W := by
  subst hk
  exact ⟨a, c, rfl, ownsRow_lowS S.own (by omega), S.kept⟩

set_option maxRecDepth 100000 in
set_option maxHeartbeats 4000000 in
theorem wr1Att (w : World) (x0 x2 x3 : ByteArray) (x4 x5 : Int) (l : List ByteArray) (av : Option Addr) (cv : Nat) (hT : TextsAt w (.slice av l.length cv) l) (hl : l.length ≤ 1000000) (T10 : Pow10 w) (h4 : isI64 x4) (h5 : isI64 x5) (ht : x5 ≠ 1) (hd : x4 ≠ 0) (hn : 0 < l.length) :
    Calls Tryz.prog 13 #[.agg #[.string x0, .int .i64 1, .string x2, .string x3, .int .i64 x4, .int .i64 x5, .slice av l.length cv]] w (WrPost w ([x0, actB, x2, triB, itB x5, tmoB, itB x4, aftB] ++ l)) := by
  obtain ⟨i0, hi0, hz0, hz1, hz2⟩ := info_parts Tryz.info9
  obtain ⟨h4a, h4b⟩ := i64_bounds h4
  obtain ⟨h5a, h5b⟩ := i64_bounds h5
  have HT : Hid (TextsAt w (.slice av l.length cv) l) := hT
  have HP : Hid (Pow10 w) := T10
  have S : Hid (WrSt w ((w.alloc (.cells #[.string x0, .int .i64 1, .string x2, .string x3, .int .i64 x4, .int .i64 x5, .slice av l.length cv] 35)).alloc (.cells #[.string x0] 9)) #[.string x0, .int .i64 1, .string x2, .string x3, .int .i64 x4, .int .i64 x5, .slice av l.length cv] (.slice (some ⟨w.heap.size + 1, 0, none⟩) 1 1) 1 [x0]) := WrSt.begun w _ x0
  obtain ⟨⟨p0, p1, p2, p3, p4, p5, p6⟩, _⟩ := seven S.out.blk
  clear hT T10 h4 h5
  go_enter Tryz.func13, Tryz.ntmps13
  have e0 : (0 : Int) < (l.length : Int) := by omega
  clear hn
  have e1 : (x5 != 1) = true := by simp [ht]
  have e2 : (x4 != 0) = true := by simp [hd]
  clear ht hd
  go_wp2_with (first
    | (at_builtin; have ht := S.out.top; refine wpList_append_src _ rfl _ _ 33 rfl (w.heap.size + 1) 9 i0 _ 1 16 Tryz.underlying33 hi0 hz0 hz1 hz2 rfl (by decide) _ 1 _ rfl (S.out.own.alloc _) _ rfl 2 (strsV [actB, x2]) (.inl ⟨_, 2, rfl, rfl, World.news_of_block (heap_new3 _ _ _ _)⟩) (strsV_one _) (by unfold maxLen; omega) (by omega) (by rw [World.size_alloc]; omega) ?_; intro a3 c3 w3 ho hg _ _; have S2 : Hid (WrSt w w3 _ (.slice a3 3 c3) 3 [x0, actB, x2]) := S.out.more ho hg; clear S p0 p1 p2 p3 p4 p5 p6 ho hg; have S := S2; clear S2; obtain ⟨⟨p0, p1, p2, p3, p4, p5, p6⟩, _⟩ := seven S.out.blk)
    | (go_at_call 27; refine (itoa_any _ (HP.out.kept S.out.kept) x5 h5a h5b).mono ?_; rintro e wi ⟨rfl, Ki⟩; have S2 : Hid (WrSt w wi _ _ _ _) := S.out.call Ki; clear S p0 p1 p2 p3 p4 p5 p6 Ki; have S := S2; clear S2; obtain ⟨⟨p0, p1, p2, p3, p4, p5, p6⟩, _⟩ := seven S.out.blk)
    | (at_builtin; have ht := S.out.top; refine wpList_append_src _ rfl _ _ 33 rfl (w.heap.size + 1) 9 i0 _ 1 16 Tryz.underlying33 hi0 hz0 hz1 hz2 rfl (by decide) _ 3 _ rfl (S.out.own.alloc _) _ rfl 2 (strsV [triB, itB x5]) (.inl ⟨_, 2, rfl, rfl, World.news_of_block (heap_alloc_new _ _)⟩) (strsV_one _) (by unfold maxLen; omega) (by omega) (by rw [World.size_alloc]; omega) ?_; intro a5 c5 w5 ho hg _ _; have S2 : Hid (WrSt w w5 _ (.slice a5 5 c5) 5 [x0, actB, x2, triB, itB x5]) := S.out.more ho hg; clear S p0 p1 p2 p3 p4 p5 p6 ho hg; have S := S2; clear S2; obtain ⟨⟨p0, p1, p2, p3, p4, p5, p6⟩, _⟩ := seven S.out.blk)
    | (go_at_call 27; refine (itoa_any _ (HP.out.kept S.out.kept) x4 h4a h4b).mono ?_; rintro e wi ⟨rfl, Ki⟩; have S2 : Hid (WrSt w wi _ _ _ _) := S.out.call Ki; clear S p0 p1 p2 p3 p4 p5 p6 Ki; have S := S2; clear S2; obtain ⟨⟨p0, p1, p2, p3, p4, p5, p6⟩, _⟩ := seven S.out.blk)
    | (at_builtin; have ht := S.out.top; refine wpList_append_src _ rfl _ _ 33 rfl (w.heap.size + 1) 9 i0 _ 1 16 Tryz.underlying33 hi0 hz0 hz1 hz2 rfl (by decide) _ 5 _ rfl (S.out.own.alloc _) _ rfl 2 (strsV [tmoB, itB x4]) (.inl ⟨_, 2, rfl, rfl, World.news_of_block (heap_alloc_new _ _)⟩) (strsV_one _) (by unfold maxLen; omega) (by omega) (by rw [World.size_alloc]; omega) ?_; intro a7 c7 w7 ho hg _ _; have S2 : Hid (WrSt w w7 _ (.slice a7 7 c7) 7 [x0, actB, x2, triB, itB x5, tmoB, itB x4]) := S.out.more ho hg; clear S p0 p1 p2 p3 p4 p5 p6 ho hg; have S := S2; clear S2; obtain ⟨⟨p0, p1, p2, p3, p4, p5, p6⟩, _⟩ := seven S.out.blk)
    | (at_builtin; have ht := S.out.top; refine wpList_append_src _ rfl _ _ 33 rfl (w.heap.size + 1) 9 i0 _ 1 16 Tryz.underlying33 hi0 hz0 hz1 hz2 rfl (by decide) _ 7 _ rfl (S.out.own.alloc _) _ rfl 1 (strsV [aftB]) (.inl ⟨_, 1, rfl, rfl, World.news_of_block (heap_alloc_new _ _)⟩) (strsV_one _) (by unfold maxLen; omega) (by omega) (by rw [World.size_alloc]; omega) ?_; intro a8 c8 w8 ho hg _ _; have S2 : Hid (WrSt w w8 _ (.slice a8 8 c8) 8 [x0, actB, x2, triB, itB x5, tmoB, itB x4, aftB]) := S.out.more ho hg; clear S p0 p1 p2 p3 p4 p5 p6 ho hg; have S := S2; clear S2; obtain ⟨⟨p0, p1, p2, p3, p4, p5, p6⟩, _⟩ := seven S.out.blk)
    | (at_builtin; have ht := S.out.top; refine wpList_append_src _ rfl _ _ 33 rfl (w.heap.size + 1) 9 i0 _ 1 16 Tryz.underlying33 hi0 hz0 hz1 hz2 rfl (by decide) _ 8 _ rfl S.out.own _ rfl l.length (strsV l) (HT.out.kept S.out.kept (fun _ _ h => h)).src (strsV_one _) (by unfold maxLen; omega) (by omega) (by omega) ?_; intro az cz wz ho hg _ _; have S2 : Hid (WrSt w wz _ (.slice az (8 + l.length) cz) (8 + l.length) ([x0, actB, x2, triB, itB x5, tmoB, itB x4, aftB] ++ l)) := S.out.more0 ho hg; clear S p0 p1 p2 p3 p4 p5 p6 ho hg; have S := S2; clear S2)
    | fail)
  go_ret
  exact S.out.post (by simp; omega)

set_option maxRecDepth 100000 in
set_option maxHeartbeats 4000000 in
theorem wr1Atf (w : World) (x0 x2 x3 : ByteArray) (x4 x5 : Int) (l : List ByteArray) (av : Option Addr) (cv : Nat) (hT : TextsAt w (.slice av l.length cv) l) (hl : l.length ≤ 1000000) (T10 : Pow10 w) (h4 : isI64 x4) (h5 : isI64 x5) (ht : x5 ≠ 1) (hd : x4 = 0) (hn : 0 < l.length) :
    Calls Tryz.prog 13 #[.agg #[.string x0, .int .i64 1, .string x2, .string x3, .int .i64 x4, .int .i64 x5, .slice av l.length cv]] w (WrPost w ([x0, actB, x2, triB, itB x5, aftB] ++ l)) := by
  obtain ⟨i0, hi0, hz0, hz1, hz2⟩ := info_parts Tryz.info9
  obtain ⟨h4a, h4b⟩ := i64_bounds h4
  obtain ⟨h5a, h5b⟩ := i64_bounds h5
  have HT : Hid (TextsAt w (.slice av l.length cv) l) := hT
  have HP : Hid (Pow10 w) := T10
  have S : Hid (WrSt w ((w.alloc (.cells #[.string x0, .int .i64 1, .string x2, .string x3, .int .i64 x4, .int .i64 x5, .slice av l.length cv] 35)).alloc (.cells #[.string x0] 9)) #[.string x0, .int .i64 1, .string x2, .string x3, .int .i64 x4, .int .i64 x5, .slice av l.length cv] (.slice (some ⟨w.heap.size + 1, 0, none⟩) 1 1) 1 [x0]) := WrSt.begun w _ x0
  obtain ⟨⟨p0, p1, p2, p3, p4, p5, p6⟩, _⟩ := seven S.out.blk
  clear hT T10 h4 h5
  go_enter Tryz.func13, Tryz.ntmps13
  have e0 : (0 : Int) < (l.length : Int) := by omega
  clear hn
  have e1 : (x5 != 1) = true := by simp [ht]
  have e2 : (x4 != 0) = false := by simp [hd]
  clear ht hd
  go_wp2_with (first
    | (at_builtin; have ht := S.out.top; refine wpList_append_src _ rfl _ _ 33 rfl (w.heap.size + 1) 9 i0 _ 1 16 Tryz.underlying33 hi0 hz0 hz1 hz2 rfl (by decide) _ 1 _ rfl (S.out.own.alloc _) _ rfl 2 (strsV [actB, x2]) (.inl ⟨_, 2, rfl, rfl, World.news_of_block (heap_new3 _ _ _ _)⟩) (strsV_one _) (by unfold maxLen; omega) (by omega) (by rw [World.size_alloc]; omega) ?_; intro a3 c3 w3 ho hg _ _; have S2 : Hid (WrSt w w3 _ (.slice a3 3 c3) 3 [x0, actB, x2]) := S.out.more ho hg; clear S p0 p1 p2 p3 p4 p5 p6 ho hg; have S := S2; clear S2; obtain ⟨⟨p0, p1, p2, p3, p4, p5, p6⟩, _⟩ := seven S.out.blk)
    | (go_at_call 27; refine (itoa_any _ (HP.out.kept S.out.kept) x5 h5a h5b).mono ?_; rintro e wi ⟨rfl, Ki⟩; have S2 : Hid (WrSt w wi _ _ _ _) := S.out.call Ki; clear S p0 p1 p2 p3 p4 p5 p6 Ki; have S := S2; clear S2; obtain ⟨⟨p0, p1, p2, p3, p4, p5, p6⟩, _⟩ := seven S.out.blk)
    | (at_builtin; have ht := S.out.top; refine wpList_append_src _ rfl _ _ 33 rfl (w.heap.size + 1) 9 i0 _ 1 16 Tryz.underlying33 hi0 hz0 hz1 hz2 rfl (by decide) _ 3 _ rfl (S.out.own.alloc _) _ rfl 2 (strsV [triB, itB x5]) (.inl ⟨_, 2, rfl, rfl, World.news_of_block (heap_alloc_new _ _)⟩) (strsV_one _) (by unfold maxLen; omega) (by omega) (by rw [World.size_alloc]; omega) ?_; intro a5 c5 w5 ho hg _ _; have S2 : Hid (WrSt w w5 _ (.slice a5 5 c5) 5 [x0, actB, x2, triB, itB x5]) := S.out.more ho hg; clear S p0 p1 p2 p3 p4 p5 p6 ho hg; have S := S2; clear S2; obtain ⟨⟨p0, p1, p2, p3, p4, p5, p6⟩, _⟩ := seven S.out.blk)
    | (at_builtin; have ht := S.out.top; refine wpList_append_src _ rfl _ _ 33 rfl (w.heap.size + 1) 9 i0 _ 1 16 Tryz.underlying33 hi0 hz0 hz1 hz2 rfl (by decide) _ 5 _ rfl (S.out.own.alloc _) _ rfl 1 (strsV [aftB]) (.inl ⟨_, 1, rfl, rfl, World.news_of_block (heap_alloc_new _ _)⟩) (strsV_one _) (by unfold maxLen; omega) (by omega) (by rw [World.size_alloc]; omega) ?_; intro a6 c6 w6 ho hg _ _; have S2 : Hid (WrSt w w6 _ (.slice a6 6 c6) 6 [x0, actB, x2, triB, itB x5, aftB]) := S.out.more ho hg; clear S p0 p1 p2 p3 p4 p5 p6 ho hg; have S := S2; clear S2; obtain ⟨⟨p0, p1, p2, p3, p4, p5, p6⟩, _⟩ := seven S.out.blk)
    | (at_builtin; have ht := S.out.top; refine wpList_append_src _ rfl _ _ 33 rfl (w.heap.size + 1) 9 i0 _ 1 16 Tryz.underlying33 hi0 hz0 hz1 hz2 rfl (by decide) _ 6 _ rfl S.out.own _ rfl l.length (strsV l) (HT.out.kept S.out.kept (fun _ _ h => h)).src (strsV_one _) (by unfold maxLen; omega) (by omega) (by omega) ?_; intro az cz wz ho hg _ _; have S2 : Hid (WrSt w wz _ (.slice az (6 + l.length) cz) (6 + l.length) ([x0, actB, x2, triB, itB x5, aftB] ++ l)) := S.out.more0 ho hg; clear S p0 p1 p2 p3 p4 p5 p6 ho hg; have S := S2; clear S2)
    | fail)
  go_ret
  exact S.out.post (by simp; omega)

set_option maxRecDepth 100000 in
set_option maxHeartbeats 4000000 in
theorem wr1Aft (w : World) (x0 x2 x3 : ByteArray) (x4 x5 : Int) (l : List ByteArray) (av : Option Addr) (cv : Nat) (hT : TextsAt w (.slice av l.length cv) l) (hl : l.length ≤ 1000000) (T10 : Pow10 w) (h4 : isI64 x4) (h5 : isI64 x5) (ht : x5 = 1) (hd : x4 ≠ 0) (hn : 0 < l.length) :
    Calls Tryz.prog 13 #[.agg #[.string x0, .int .i64 1, .string x2, .string x3, .int .i64 x4, .int .i64 x5, .slice av l.length cv]] w (WrPost w ([x0, actB, x2, tmoB, itB x4, aftB] ++ l)) := by
  obtain ⟨i0, hi0, hz0, hz1, hz2⟩ := info_parts Tryz.info9
  obtain ⟨h4a, h4b⟩ := i64_bounds h4
  obtain ⟨h5a, h5b⟩ := i64_bounds h5
  have HT : Hid (TextsAt w (.slice av l.length cv) l) := hT
  have HP : Hid (Pow10 w) := T10
  have S : Hid (WrSt w ((w.alloc (.cells #[.string x0, .int .i64 1, .string x2, .string x3, .int .i64 x4, .int .i64 x5, .slice av l.length cv] 35)).alloc (.cells #[.string x0] 9)) #[.string x0, .int .i64 1, .string x2, .string x3, .int .i64 x4, .int .i64 x5, .slice av l.length cv] (.slice (some ⟨w.heap.size + 1, 0, none⟩) 1 1) 1 [x0]) := WrSt.begun w _ x0
  obtain ⟨⟨p0, p1, p2, p3, p4, p5, p6⟩, _⟩ := seven S.out.blk
  clear hT T10 h4 h5
  go_enter Tryz.func13, Tryz.ntmps13
  have e0 : (0 : Int) < (l.length : Int) := by omega
  clear hn
  have e1 : (x5 != 1) = false := by simp [ht]
  have e2 : (x4 != 0) = true := by simp [hd]
  clear ht hd
  go_wp2_with (first
    | (at_builtin; have ht := S.out.top; refine wpList_append_src _ rfl _ _ 33 rfl (w.heap.size + 1) 9 i0 _ 1 16 Tryz.underlying33 hi0 hz0 hz1 hz2 rfl (by decide) _ 1 _ rfl (S.out.own.alloc _) _ rfl 2 (strsV [actB, x2]) (.inl ⟨_, 2, rfl, rfl, World.news_of_block (heap_new3 _ _ _ _)⟩) (strsV_one _) (by unfold maxLen; omega) (by omega) (by rw [World.size_alloc]; omega) ?_; intro a3 c3 w3 ho hg _ _; have S2 : Hid (WrSt w w3 _ (.slice a3 3 c3) 3 [x0, actB, x2]) := S.out.more ho hg; clear S p0 p1 p2 p3 p4 p5 p6 ho hg; have S := S2; clear S2; obtain ⟨⟨p0, p1, p2, p3, p4, p5, p6⟩, _⟩ := seven S.out.blk)
    | (go_at_call 27; refine (itoa_any _ (HP.out.kept S.out.kept) x4 h4a h4b).mono ?_; rintro e wi ⟨rfl, Ki⟩; have S2 : Hid (WrSt w wi _ _ _ _) := S.out.call Ki; clear S p0 p1 p2 p3 p4 p5 p6 Ki; have S := S2; clear S2; obtain ⟨⟨p0, p1, p2, p3, p4, p5, p6⟩, _⟩ := seven S.out.blk)
    | (at_builtin; have ht := S.out.top; refine wpList_append_src _ rfl _ _ 33 rfl (w.heap.size + 1) 9 i0 _ 1 16 Tryz.underlying33 hi0 hz0 hz1 hz2 rfl (by decide) _ 3 _ rfl (S.out.own.alloc _) _ rfl 2 (strsV [tmoB, itB x4]) (.inl ⟨_, 2, rfl, rfl, World.news_of_block (heap_alloc_new _ _)⟩) (strsV_one _) (by unfold maxLen; omega) (by omega) (by rw [World.size_alloc]; omega) ?_; intro a5 c5 w5 ho hg _ _; have S2 : Hid (WrSt w w5 _ (.slice a5 5 c5) 5 [x0, actB, x2, tmoB, itB x4]) := S.out.more ho hg; clear S p0 p1 p2 p3 p4 p5 p6 ho hg; have S := S2; clear S2; obtain ⟨⟨p0, p1, p2, p3, p4, p5, p6⟩, _⟩ := seven S.out.blk)
    | (at_builtin; have ht := S.out.top; refine wpList_append_src _ rfl _ _ 33 rfl (w.heap.size + 1) 9 i0 _ 1 16 Tryz.underlying33 hi0 hz0 hz1 hz2 rfl (by decide) _ 5 _ rfl (S.out.own.alloc _) _ rfl 1 (strsV [aftB]) (.inl ⟨_, 1, rfl, rfl, World.news_of_block (heap_alloc_new _ _)⟩) (strsV_one _) (by unfold maxLen; omega) (by omega) (by rw [World.size_alloc]; omega) ?_; intro a6 c6 w6 ho hg _ _; have S2 : Hid (WrSt w w6 _ (.slice a6 6 c6) 6 [x0, actB, x2, tmoB, itB x4, aftB]) := S.out.more ho hg; clear S p0 p1 p2 p3 p4 p5 p6 ho hg; have S := S2; clear S2; obtain ⟨⟨p0, p1, p2, p3, p4, p5, p6⟩, _⟩ := seven S.out.blk)
    | (at_builtin; have ht := S.out.top; refine wpList_append_src _ rfl _ _ 33 rfl (w.heap.size + 1) 9 i0 _ 1 16 Tryz.underlying33 hi0 hz0 hz1 hz2 rfl (by decide) _ 6 _ rfl S.out.own _ rfl l.length (strsV l) (HT.out.kept S.out.kept (fun _ _ h => h)).src (strsV_one _) (by unfold maxLen; omega) (by omega) (by omega) ?_; intro az cz wz ho hg _ _; have S2 : Hid (WrSt w wz _ (.slice az (6 + l.length) cz) (6 + l.length) ([x0, actB, x2, tmoB, itB x4, aftB] ++ l)) := S.out.more0 ho hg; clear S p0 p1 p2 p3 p4 p5 p6 ho hg; have S := S2; clear S2)
    | fail)
  go_ret
  exact S.out.post (by simp; omega)

set_option maxRecDepth 100000 in
set_option maxHeartbeats 4000000 in
theorem wr1Aff (w : World) (x0 x2 x3 : ByteArray) (x4 x5 : Int) (l : List ByteArray) (av : Option Addr) (cv : Nat) (hT : TextsAt w (.slice av l.length cv) l) (hl : l.length ≤ 1000000) (T10 : Pow10 w) (h4 : isI64 x4) (h5 : isI64 x5) (ht : x5 = 1) (hd : x4 = 0) (hn : 0 < l.length) :
    Calls Tryz.prog 13 #[.agg #[.string x0, .int .i64 1, .string x2, .string x3, .int .i64 x4, .int .i64 x5, .slice av l.length cv]] w (WrPost w ([x0, actB, x2, aftB] ++ l)) := by
  obtain ⟨i0, hi0, hz0, hz1, hz2⟩ := info_parts Tryz.info9
  obtain ⟨h4a, h4b⟩ := i64_bounds h4
  obtain ⟨h5a, h5b⟩ := i64_bounds h5
  have HT : Hid (TextsAt w (.slice av l.length cv) l) := hT
  have HP : Hid (Pow10 w) := T10
  have S : Hid (WrSt w ((w.alloc (.cells #[.string x0, .int .i64 1, .string x2, .string x3, .int .i64 x4, .int .i64 x5, .slice av l.length cv] 35)).alloc (.cells #[.string x0] 9)) #[.string x0, .int .i64 1, .string x2, .string x3, .int .i64 x4, .int .i64 x5, .slice av l.length cv] (.slice (some ⟨w.heap.size + 1, 0, none⟩) 1 1) 1 [x0]) := WrSt.begun w _ x0
  obtain ⟨⟨p0, p1, p2, p3, p4, p5, p6⟩, _⟩ := seven S.out.blk
  clear hT T10 h4 h5
  go_enter Tryz.func13, Tryz.ntmps13
  have e0 : (0 : Int) < (l.length : Int) := by omega
  clear hn
  have e1 : (x5 != 1) = false := by simp [ht]
  have e2 : (x4 != 0) = false := by simp [hd]
  clear ht hd
  go_wp2_with (first
    | (at_builtin; have ht := S.out.top; refine wpList_append_src _ rfl _ _ 33 rfl (w.heap.size + 1) 9 i0 _ 1 16 Tryz.underlying33 hi0 hz0 hz1 hz2 rfl (by decide) _ 1 _ rfl (S.out.own.alloc _) _ rfl 2 (strsV [actB, x2]) (.inl ⟨_, 2, rfl, rfl, World.news_of_block (heap_new3 _ _ _ _)⟩) (strsV_one _) (by unfold maxLen; omega) (by omega) (by rw [World.size_alloc]; omega) ?_; intro a3 c3 w3 ho hg _ _; have S2 : Hid (WrSt w w3 _ (.slice a3 3 c3) 3 [x0, actB, x2]) := S.out.more ho hg; clear S p0 p1 p2 p3 p4 p5 p6 ho hg; have S := S2; clear S2; obtain ⟨⟨p0, p1, p2, p3, p4, p5, p6⟩, _⟩ := seven S.out.blk)
    | (at_builtin; have ht := S.out.top; refine wpList_append_src _ rfl _ _ 33 rfl (w.heap.size + 1) 9 i0 _ 1 16 Tryz.underlying33 hi0 hz0 hz1 hz2 rfl (by decide) _ 3 _ rfl (S.out.own.alloc _) _ rfl 1 (strsV [aftB]) (.inl ⟨_, 1, rfl, rfl, World.news_of_block (heap_alloc_new _ _)⟩) (strsV_one _) (by unfold maxLen; omega) (by omega) (by rw [World.size_alloc]; omega) ?_; intro a4 c4 w4 ho hg _ _; have S2 : Hid (WrSt w w4 _ (.slice a4 4 c4) 4 [x0, actB, x2, aftB]) := S.out.more ho hg; clear S p0 p1 p2 p3 p4 p5 p6 ho hg; have S := S2; clear S2; obtain ⟨⟨p0, p1, p2, p3, p4, p5, p6⟩, _⟩ := seven S.out.blk)
    | (at_builtin; have ht := S.out.top; refine wpList_append_src _ rfl _ _ 33 rfl (w.heap.size + 1) 9 i0 _ 1 16 Tryz.underlying33 hi0 hz0 hz1 hz2 rfl (by decide) _ 4 _ rfl S.out.own _ rfl l.length (strsV l) (HT.out.kept S.out.kept (fun _ _ h => h)).src (strsV_one _) (by unfold maxLen; omega) (by omega) (by omega) ?_; intro az cz wz ho hg _ _; have S2 : Hid (WrSt w wz _ (.slice az (4 + l.length) cz) (4 + l.length) ([x0, actB, x2, aftB] ++ l)) := S.out.more0 ho hg; clear S p0 p1 p2 p3 p4 p5 p6 ho hg; have S := S2; clear S2)
    | fail)
  go_ret
  exact S.out.post (by simp; omega)

set_option maxRecDepth 100000 in
set_option maxHeartbeats 4000000 in
theorem wr2A (w : World) (x0 x2 x3 : ByteArray) (x4 x5 : Int) (l : List ByteArray) (av : Option Addr) (cv : Nat) (hT : TextsAt w (.slice av l.length cv) l) (hl : l.length ≤ 1000000) (T10 : Pow10 w) (h4 : isI64 x4) (h5 : isI64 x5) (hn : 0 < l.length) :
    Calls Tryz.prog 13 #[.agg #[.string x0, .int .i64 2, .string x2, .string x3, .int .i64 x4, .int .i64 x5, .slice av l.length cv]] w (WrPost w ([x0, timB, itB x4, aftB] ++ l)) := by
  obtain ⟨i0, hi0, hz0, hz1, hz2⟩ := info_parts Tryz.info9
  obtain ⟨h4a, h4b⟩ := i64_bounds h4
  obtain ⟨h5a, h5b⟩ := i64_bounds h5
  have HT : Hid (TextsAt w (.slice av l.length cv) l) := hT
  have HP : Hid (Pow10 w) := T10
  have S : Hid (WrSt w ((w.alloc (.cells #[.string x0, .int .i64 2, .string x2, .string x3, .int .i64 x4, .int .i64 x5, .slice av l.length cv] 35)).alloc (.cells #[.string x0] 9)) #[.string x0, .int .i64 2, .string x2, .string x3, .int .i64 x4, .int .i64 x5, .slice av l.length cv] (.slice (some ⟨w.heap.size + 1, 0, none⟩) 1 1) 1 [x0]) := WrSt.begun w _ x0
  obtain ⟨⟨p0, p1, p2, p3, p4, p5, p6⟩, _⟩ := seven S.out.blk
  clear hT T10 h4 h5
  go_enter Tryz.func13, Tryz.ntmps13
  have e0 : (0 : Int) < (l.length : Int) := by omega
  clear hn
  go_wp2_with (first
    | (go_at_call 27; refine (itoa_any _ (HP.out.kept S.out.kept) x4 h4a h4b).mono ?_; rintro e wi ⟨rfl, Ki⟩; have S2 : Hid (WrSt w wi _ _ _ _) := S.out.call Ki; clear S p0 p1 p2 p3 p4 p5 p6 Ki; have S := S2; clear S2; obtain ⟨⟨p0, p1, p2, p3, p4, p5, p6⟩, _⟩ := seven S.out.blk)
    | (at_builtin; have ht := S.out.top; refine wpList_append_src _ rfl _ _ 33 rfl (w.heap.size + 1) 9 i0 _ 1 16 Tryz.underlying33 hi0 hz0 hz1 hz2 rfl (by decide) _ 1 _ rfl (S.out.own.alloc _) _ rfl 2 (strsV [timB, itB x4]) (.inl ⟨_, 2, rfl, rfl, World.news_of_block (heap_alloc_new _ _)⟩) (strsV_one _) (by unfold maxLen; omega) (by omega) (by rw [World.size_alloc]; omega) ?_; intro a3 c3 w3 ho hg _ _; have S2 : Hid (WrSt w w3 _ (.slice a3 3 c3) 3 [x0, timB, itB x4]) := S.out.more ho hg; clear S p0 p1 p2 p3 p4 p5 p6 ho hg; have S := S2; clear S2; obtain ⟨⟨p0, p1, p2, p3, p4, p5, p6⟩, _⟩ := seven S.out.blk)
    | (at_builtin; have ht := S.out.top; refine wpList_append_src _ rfl _ _ 33 rfl (w.heap.size + 1) 9 i0 _ 1 16 Tryz.underlying33 hi0 hz0 hz1 hz2 rfl (by decide) _ 3 _ rfl (S.out.own.alloc _) _ rfl 1 (strsV [aftB]) (.inl ⟨_, 1, rfl, rfl, World.news_of_block (heap_alloc_new _ _)⟩) (strsV_one _) (by unfold maxLen; omega) (by omega) (by rw [World.size_alloc]; omega) ?_; intro a4 c4 w4 ho hg _ _; have S2 : Hid (WrSt w w4 _ (.slice a4 4 c4) 4 [x0, timB, itB x4, aftB]) := S.out.more ho hg; clear S p0 p1 p2 p3 p4 p5 p6 ho hg; have S := S2; clear S2; obtain ⟨⟨p0, p1, p2, p3, p4, p5, p6⟩, _⟩ := seven S.out.blk)
    | (at_builtin; have ht := S.out.top; refine wpList_append_src _ rfl _ _ 33 rfl (w.heap.size + 1) 9 i0 _ 1 16 Tryz.underlying33 hi0 hz0 hz1 hz2 rfl (by decide) _ 4 _ rfl S.out.own _ rfl l.length (strsV l) (HT.out.kept S.out.kept (fun _ _ h => h)).src (strsV_one _) (by unfold maxLen; omega) (by omega) (by omega) ?_; intro az cz wz ho hg _ _; have S2 : Hid (WrSt w wz _ (.slice az (4 + l.length) cz) (4 + l.length) ([x0, timB, itB x4, aftB] ++ l)) := S.out.more0 ho hg; clear S p0 p1 p2 p3 p4 p5 p6 ho hg; have S := S2; clear S2)
    | fail)
  go_ret
  exact S.out.post (by simp; omega)

set_option maxRecDepth 100000 in
set_option maxHeartbeats 4000000 in
theorem wr3A (w : World) (x0 x2 x3 : ByteArray) (x4 x5 : Int) (l : List ByteArray) (av : Option Addr) (cv : Nat) (hT : TextsAt w (.slice av l.length cv) l) (hl : l.length ≤ 1000000) (T10 : Pow10 w) (h4 : isI64 x4) (h5 : isI64 x5) (hn : 0 < l.length) :
    Calls Tryz.prog 13 #[.agg #[.string x0, .int .i64 3, .string x2, .string x3, .int .i64 x4, .int .i64 x5, .slice av l.length cv]] w (WrPost w ([x0, chiB, x2, aftB] ++ l)) := by
  obtain ⟨i0, hi0, hz0, hz1, hz2⟩ := info_parts Tryz.info9
  obtain ⟨h4a, h4b⟩ := i64_bounds h4
  obtain ⟨h5a, h5b⟩ := i64_bounds h5
  have HT : Hid (TextsAt w (.slice av l.length cv) l) := hT
  have HP : Hid (Pow10 w) := T10
  have S : Hid (WrSt w ((w.alloc (.cells #[.string x0, .int .i64 3, .string x2, .string x3, .int .i64 x4, .int .i64 x5, .slice av l.length cv] 35)).alloc (.cells #[.string x0] 9)) #[.string x0, .int .i64 3, .string x2, .string x3, .int .i64 x4, .int .i64 x5, .slice av l.length cv] (.slice (some ⟨w.heap.size + 1, 0, none⟩) 1 1) 1 [x0]) := WrSt.begun w _ x0
  obtain ⟨⟨p0, p1, p2, p3, p4, p5, p6⟩, _⟩ := seven S.out.blk
  clear hT T10 h4 h5
  go_enter Tryz.func13, Tryz.ntmps13
  have e0 : (0 : Int) < (l.length : Int) := by omega
  clear hn
  go_wp2_with (first
    | (at_builtin; have ht := S.out.top; refine wpList_append_src _ rfl _ _ 33 rfl (w.heap.size + 1) 9 i0 _ 1 16 Tryz.underlying33 hi0 hz0 hz1 hz2 rfl (by decide) _ 1 _ rfl (S.out.own.alloc _) _ rfl 2 (strsV [chiB, x2]) (.inl ⟨_, 2, rfl, rfl, World.news_of_block (heap_new3 _ _ _ _)⟩) (strsV_one _) (by unfold maxLen; omega) (by omega) (by rw [World.size_alloc]; omega) ?_; intro a3 c3 w3 ho hg _ _; have S2 : Hid (WrSt w w3 _ (.slice a3 3 c3) 3 [x0, chiB, x2]) := S.out.more ho hg; clear S p0 p1 p2 p3 p4 p5 p6 ho hg; have S := S2; clear S2; obtain ⟨⟨p0, p1, p2, p3, p4, p5, p6⟩, _⟩ := seven S.out.blk)
    | (at_builtin; have ht := S.out.top; refine wpList_append_src _ rfl _ _ 33 rfl (w.heap.size + 1) 9 i0 _ 1 16 Tryz.underlying33 hi0 hz0 hz1 hz2 rfl (by decide) _ 3 _ rfl (S.out.own.alloc _) _ rfl 1 (strsV [aftB]) (.inl ⟨_, 1, rfl, rfl, World.news_of_block (heap_alloc_new _ _)⟩) (strsV_one _) (by unfold maxLen; omega) (by omega) (by rw [World.size_alloc]; omega) ?_; intro a4 c4 w4 ho hg _ _; have S2 : Hid (WrSt w w4 _ (.slice a4 4 c4) 4 [x0, chiB, x2, aftB]) := S.out.more ho hg; clear S p0 p1 p2 p3 p4 p5 p6 ho hg; have S := S2; clear S2; obtain ⟨⟨p0, p1, p2, p3, p4, p5, p6⟩, _⟩ := seven S.out.blk)
    | (at_builtin; have ht := S.out.top; refine wpList_append_src _ rfl _ _ 33 rfl (w.heap.size + 1) 9 i0 _ 1 16 Tryz.underlying33 hi0 hz0 hz1 hz2 rfl (by decide) _ 4 _ rfl S.out.own _ rfl l.length (strsV l) (HT.out.kept S.out.kept (fun _ _ h => h)).src (strsV_one _) (by unfold maxLen; omega) (by omega) (by omega) ?_; intro az cz wz ho hg _ _; have S2 : Hid (WrSt w wz _ (.slice az (4 + l.length) cz) (4 + l.length) ([x0, chiB, x2, aftB] ++ l)) := S.out.more0 ho hg; clear S p0 p1 p2 p3 p4 p5 p6 ho hg; have S := S2; clear S2)
    | fail)
  go_ret
  exact S.out.post (by simp; omega)

set_option maxRecDepth 100000 in
set_option maxHeartbeats 4000000 in
theorem wr4A (w : World) (x0 x2 x3 : ByteArray) (x4 x5 : Int) (l : List ByteArray) (av : Option Addr) (cv : Nat) (hT : TextsAt w (.slice av l.length cv) l) (hl : l.length ≤ 1000000) (T10 : Pow10 w) (h4 : isI64 x4) (h5 : isI64 x5) (hn : 0 < l.length) :
    Calls Tryz.prog 13 #[.agg #[.string x0, .int .i64 4, .string x2, .string x3, .int .i64 x4, .int .i64 x5, .slice av l.length cv]] w (WrPost w ([x0, waiB, x2, aftB] ++ l)) := by
  obtain ⟨i0, hi0, hz0, hz1, hz2⟩ := info_parts Tryz.info9
  obtain ⟨h4a, h4b⟩ := i64_bounds h4
  obtain ⟨h5a, h5b⟩ := i64_bounds h5
  have HT : Hid (TextsAt w (.slice av l.length cv) l) := hT
  have HP : Hid (Pow10 w) := T10
  have S : Hid (WrSt w ((w.alloc (.cells #[.string x0, .int .i64 4, .string x2, .string x3, .int .i64 x4, .int .i64 x5, .slice av l.length cv] 35)).alloc (.cells #[.string x0] 9)) #[.string x0, .int .i64 4, .string x2, .string x3, .int .i64 x4, .int .i64 x5, .slice av l.length cv] (.slice (some ⟨w.heap.size + 1, 0, none⟩) 1 1) 1 [x0]) := WrSt.begun w _ x0
  obtain ⟨⟨p0, p1, p2, p3, p4, p5, p6⟩, _⟩ := seven S.out.blk
  clear hT T10 h4 h5
  go_enter Tryz.func13, Tryz.ntmps13
  have e0 : (0 : Int) < (l.length : Int) := by omega
  clear hn
  go_wp2_with (first
    | (at_builtin; have ht := S.out.top; refine wpList_append_src _ rfl _ _ 33 rfl (w.heap.size + 1) 9 i0 _ 1 16 Tryz.underlying33 hi0 hz0 hz1 hz2 rfl (by decide) _ 1 _ rfl (S.out.own.alloc _) _ rfl 2 (strsV [waiB, x2]) (.inl ⟨_, 2, rfl, rfl, World.news_of_block (heap_new3 _ _ _ _)⟩) (strsV_one _) (by unfold maxLen; omega) (by omega) (by rw [World.size_alloc]; omega) ?_; intro a3 c3 w3 ho hg _ _; have S2 : Hid (WrSt w w3 _ (.slice a3 3 c3) 3 [x0, waiB, x2]) := S.out.more ho hg; clear S p0 p1 p2 p3 p4 p5 p6 ho hg; have S := S2; clear S2; obtain ⟨⟨p0, p1, p2, p3, p4, p5, p6⟩, _⟩ := seven S.out.blk)
    | (at_builtin; have ht := S.out.top; refine wpList_append_src _ rfl _ _ 33 rfl (w.heap.size + 1) 9 i0 _ 1 16 Tryz.underlying33 hi0 hz0 hz1 hz2 rfl (by decide) _ 3 _ rfl (S.out.own.alloc _) _ rfl 1 (strsV [aftB]) (.inl ⟨_, 1, rfl, rfl, World.news_of_block (heap_alloc_new _ _)⟩) (strsV_one _) (by unfold maxLen; omega) (by omega) (by rw [World.size_alloc]; omega) ?_; intro a4 c4 w4 ho hg _ _; have S2 : Hid (WrSt w w4 _ (.slice a4 4 c4) 4 [x0, waiB, x2, aftB]) := S.out.more ho hg; clear S p0 p1 p2 p3 p4 p5 p6 ho hg; have S := S2; clear S2; obtain ⟨⟨p0, p1, p2, p3, p4, p5, p6⟩, _⟩ := seven S.out.blk)
    | (at_builtin; have ht := S.out.top; refine wpList_append_src _ rfl _ _ 33 rfl (w.heap.size + 1) 9 i0 _ 1 16 Tryz.underlying33 hi0 hz0 hz1 hz2 rfl (by decide) _ 4 _ rfl S.out.own _ rfl l.length (strsV l) (HT.out.kept S.out.kept (fun _ _ h => h)).src (strsV_one _) (by unfold maxLen; omega) (by omega) (by omega) ?_; intro az cz wz ho hg _ _; have S2 : Hid (WrSt w wz _ (.slice az (4 + l.length) cz) (4 + l.length) ([x0, waiB, x2, aftB] ++ l)) := S.out.more0 ho hg; clear S p0 p1 p2 p3 p4 p5 p6 ho hg; have S := S2; clear S2)
    | fail)
  go_ret
  exact S.out.post (by simp; omega)

set_option maxRecDepth 100000 in
set_option maxHeartbeats 4000000 in
theorem wr5A (w : World) (x0 x2 x3 : ByteArray) (x4 x5 : Int) (l : List ByteArray) (av : Option Addr) (cv : Nat) (hT : TextsAt w (.slice av l.length cv) l) (hl : l.length ≤ 1000000) (T10 : Pow10 w) (h4 : isI64 x4) (h5 : isI64 x5) (hn : 0 < l.length) :
    Calls Tryz.prog 13 #[.agg #[.string x0, .int .i64 5, .string x2, .string x3, .int .i64 x4, .int .i64 x5, .slice av l.length cv]] w (WrPost w ([x0, senB, x3, x2, aftB] ++ l)) := by
  obtain ⟨i0, hi0, hz0, hz1, hz2⟩ := info_parts Tryz.info9
  obtain ⟨h4a, h4b⟩ := i64_bounds h4
  obtain ⟨h5a, h5b⟩ := i64_bounds h5
  have HT : Hid (TextsAt w (.slice av l.length cv) l) := hT
  have HP : Hid (Pow10 w) := T10
  have S : Hid (WrSt w ((w.alloc (.cells #[.string x0, .int .i64 5, .string x2, .string x3, .int .i64 x4, .int .i64 x5, .slice av l.length cv] 35)).alloc (.cells #[.string x0] 9)) #[.string x0, .int .i64 5, .string x2, .string x3, .int .i64 x4, .int .i64 x5, .slice av l.length cv] (.slice (some ⟨w.heap.size + 1, 0, none⟩) 1 1) 1 [x0]) := WrSt.begun w _ x0
  obtain ⟨⟨p0, p1, p2, p3, p4, p5, p6⟩, _⟩ := seven S.out.blk
  clear hT T10 h4 h5
  go_enter Tryz.func13, Tryz.ntmps13
  have e0 : (0 : Int) < (l.length : Int) := by omega
  clear hn
  go_wp2_with (first
    | (at_builtin; have ht := S.out.top; refine wpList_append_src _ rfl _ _ 33 rfl (w.heap.size + 1) 9 i0 _ 1 16 Tryz.underlying33 hi0 hz0 hz1 hz2 rfl (by decide) _ 1 _ rfl (S.out.own.alloc _) _ rfl 3 (strsV [senB, x3, x2]) (.inl ⟨_, 3, rfl, rfl, World.news_of_block (heap_new3 _ _ _ _)⟩) (strsV_one _) (by unfold maxLen; omega) (by omega) (by rw [World.size_alloc]; omega) ?_; intro a4 c4 w4 ho hg _ _; have S2 : Hid (WrSt w w4 _ (.slice a4 4 c4) 4 [x0, senB, x3, x2]) := S.out.more ho hg; clear S p0 p1 p2 p3 p4 p5 p6 ho hg; have S := S2; clear S2; obtain ⟨⟨p0, p1, p2, p3, p4, p5, p6⟩, _⟩ := seven S.out.blk)
    | (at_builtin; have ht := S.out.top; refine wpList_append_src _ rfl _ _ 33 rfl (w.heap.size + 1) 9 i0 _ 1 16 Tryz.underlying33 hi0 hz0 hz1 hz2 rfl (by decide) _ 4 _ rfl (S.out.own.alloc _) _ rfl 1 (strsV [aftB]) (.inl ⟨_, 1, rfl, rfl, World.news_of_block (heap_alloc_new _ _)⟩) (strsV_one _) (by unfold maxLen; omega) (by omega) (by rw [World.size_alloc]; omega) ?_; intro a5 c5 w5 ho hg _ _; have S2 : Hid (WrSt w w5 _ (.slice a5 5 c5) 5 [x0, senB, x3, x2, aftB]) := S.out.more ho hg; clear S p0 p1 p2 p3 p4 p5 p6 ho hg; have S := S2; clear S2; obtain ⟨⟨p0, p1, p2, p3, p4, p5, p6⟩, _⟩ := seven S.out.blk)
    | (at_builtin; have ht := S.out.top; refine wpList_append_src _ rfl _ _ 33 rfl (w.heap.size + 1) 9 i0 _ 1 16 Tryz.underlying33 hi0 hz0 hz1 hz2 rfl (by decide) _ 5 _ rfl S.out.own _ rfl l.length (strsV l) (HT.out.kept S.out.kept (fun _ _ h => h)).src (strsV_one _) (by unfold maxLen; omega) (by omega) (by omega) ?_; intro az cz wz ho hg _ _; have S2 : Hid (WrSt w wz _ (.slice az (5 + l.length) cz) (5 + l.length) ([x0, senB, x3, x2, aftB] ++ l)) := S.out.more0 ho hg; clear S p0 p1 p2 p3 p4 p5 p6 ho hg; have S := S2; clear S2)
    | fail)
  go_ret
  exact S.out.post (by simp; omega)

set_option maxRecDepth 100000 in
set_option maxHeartbeats 4000000 in
theorem wr1Ntt (w : World) (x0 x2 x3 : ByteArray) (x4 x5 : Int) (l : List ByteArray) (av : Option Addr) (cv : Nat) (hT : TextsAt w (.slice av l.length cv) l) (hl : l.length ≤ 1000000) (T10 : Pow10 w) (h4 : isI64 x4) (h5 : isI64 x5) (ht : x5 ≠ 1) (hd : x4 ≠ 0) (hn : l = []) :
    Calls Tryz.prog 13 #[.agg #[.string x0, .int .i64 1, .string x2, .string x3, .int .i64 x4, .int .i64 x5, .slice av l.length cv]] w (WrPost w ([x0, actB, x2, triB, itB x5, tmoB, itB x4])) := by
  obtain ⟨i0, hi0, hz0, hz1, hz2⟩ := info_parts Tryz.info9
  obtain ⟨h4a, h4b⟩ := i64_bounds h4
  obtain ⟨h5a, h5b⟩ := i64_bounds h5
  have HT : Hid (TextsAt w (.slice av l.length cv) l) := hT
  have HP : Hid (Pow10 w) := T10
  have S : Hid (WrSt w ((w.alloc (.cells #[.string x0, .int .i64 1, .string x2, .string x3, .int .i64 x4, .int .i64 x5, .slice av l.length cv] 35)).alloc (.cells #[.string x0] 9)) #[.string x0, .int .i64 1, .string x2, .string x3, .int .i64 x4, .int .i64 x5, .slice av l.length cv] (.slice (some ⟨w.heap.size + 1, 0, none⟩) 1 1) 1 [x0]) := WrSt.begun w _ x0
  obtain ⟨⟨p0, p1, p2, p3, p4, p5, p6⟩, _⟩ := seven S.out.blk
  clear hT T10 h4 h5
  go_enter Tryz.func13, Tryz.ntmps13
  have e0 : ¬ (0 : Int) < (l.length : Int) := by rw [hn]; simp
  clear hn
  have e1 : (x5 != 1) = true := by simp [ht]
  have e2 : (x4 != 0) = true := by simp [hd]
  clear ht hd
  go_wp2_with (first
    | (at_builtin; have ht := S.out.top; refine wpList_append_src _ rfl _ _ 33 rfl (w.heap.size + 1) 9 i0 _ 1 16 Tryz.underlying33 hi0 hz0 hz1 hz2 rfl (by decide) _ 1 _ rfl (S.out.own.alloc _) _ rfl 2 (strsV [actB, x2]) (.inl ⟨_, 2, rfl, rfl, World.news_of_block (heap_new3 _ _ _ _)⟩) (strsV_one _) (by unfold maxLen; omega) (by omega) (by rw [World.size_alloc]; omega) ?_; intro a3 c3 w3 ho hg _ _; have S2 : Hid (WrSt w w3 _ (.slice a3 3 c3) 3 [x0, actB, x2]) := S.out.more ho hg; clear S p0 p1 p2 p3 p4 p5 p6 ho hg; have S := S2; clear S2; obtain ⟨⟨p0, p1, p2, p3, p4, p5, p6⟩, _⟩ := seven S.out.blk)
    | (go_at_call 27; refine (itoa_any _ (HP.out.kept S.out.kept) x5 h5a h5b).mono ?_; rintro e wi ⟨rfl, Ki⟩; have S2 : Hid (WrSt w wi _ _ _ _) := S.out.call Ki; clear S p0 p1 p2 p3 p4 p5 p6 Ki; have S := S2; clear S2; obtain ⟨⟨p0, p1, p2, p3, p4, p5, p6⟩, _⟩ := seven S.out.blk)
    | (at_builtin; have ht := S.out.top; refine wpList_append_src _ rfl _ _ 33 rfl (w.heap.size + 1) 9 i0 _ 1 16 Tryz.underlying33 hi0 hz0 hz1 hz2 rfl (by decide) _ 3 _ rfl (S.out.own.alloc _) _ rfl 2 (strsV [triB, itB x5]) (.inl ⟨_, 2, rfl, rfl, World.news_of_block (heap_alloc_new _ _)⟩) (strsV_one _) (by unfold maxLen; omega) (by omega) (by rw [World.size_alloc]; omega) ?_; intro a5 c5 w5 ho hg _ _; have S2 : Hid (WrSt w w5 _ (.slice a5 5 c5) 5 [x0, actB, x2, triB, itB x5]) := S.out.more ho hg; clear S p0 p1 p2 p3 p4 p5 p6 ho hg; have S := S2; clear S2; obtain ⟨⟨p0, p1, p2, p3, p4, p5, p6⟩, _⟩ := seven S.out.blk)
    | (go_at_call 27; refine (itoa_any _ (HP.out.kept S.out.kept) x4 h4a h4b).mono ?_; rintro e wi ⟨rfl, Ki⟩; have S2 : Hid (WrSt w wi _ _ _ _) := S.out.call Ki; clear S p0 p1 p2 p3 p4 p5 p6 Ki; have S := S2; clear S2; obtain ⟨⟨p0, p1, p2, p3, p4, p5, p6⟩, _⟩ := seven S.out.blk)
    | (at_builtin; have ht := S.out.top; refine wpList_append_src _ rfl _ _ 33 rfl (w.heap.size + 1) 9 i0 _ 1 16 Tryz.underlying33 hi0 hz0 hz1 hz2 rfl (by decide) _ 5 _ rfl (S.out.own.alloc _) _ rfl 2 (strsV [tmoB, itB x4]) (.inl ⟨_, 2, rfl, rfl, World.news_of_block (heap_alloc_new _ _)⟩) (strsV_one _) (by unfold maxLen; omega) (by omega) (by rw [World.size_alloc]; omega) ?_; intro a7 c7 w7 ho hg _ _; have S2 : Hid (WrSt w w7 _ (.slice a7 7 c7) 7 [x0, actB, x2, triB, itB x5, tmoB, itB x4]) := S.out.more ho hg; clear S p0 p1 p2 p3 p4 p5 p6 ho hg; have S := S2; clear S2; obtain ⟨⟨p0, p1, p2, p3, p4, p5, p6⟩, _⟩ := seven S.out.blk)
    | fail)
  go_ret
  exact S.out.post (by simp)

set_option maxRecDepth 100000 in
set_option maxHeartbeats 4000000 in
theorem wr1Ntf (w : World) (x0 x2 x3 : ByteArray) (x4 x5 : Int) (l : List ByteArray) (av : Option Addr) (cv : Nat) (hT : TextsAt w (.slice av l.length cv) l) (hl : l.length ≤ 1000000) (T10 : Pow10 w) (h4 : isI64 x4) (h5 : isI64 x5) (ht : x5 ≠ 1) (hd : x4 = 0) (hn : l = []) :
    Calls Tryz.prog 13 #[.agg #[.string x0, .int .i64 1, .string x2, .string x3, .int .i64 x4, .int .i64 x5, .slice av l.length cv]] w (WrPost w ([x0, actB, x2, triB, itB x5])) := by
  obtain ⟨i0, hi0, hz0, hz1, hz2⟩ := info_parts Tryz.info9
  obtain ⟨h4a, h4b⟩ := i64_bounds h4
  obtain ⟨h5a, h5b⟩ := i64_bounds h5
  have HT : Hid (TextsAt w (.slice av l.length cv) l) := hT
  have HP : Hid (Pow10 w) := T10
  have S : Hid (WrSt w ((w.alloc (.cells #[.string x0, .int .i64 1, .string x2, .string x3, .int .i64 x4, .int .i64 x5, .slice av l.length cv] 35)).alloc (.cells #[.string x0] 9)) #[.string x0, .int .i64 1, .string x2, .string x3, .int .i64 x4, .int .i64 x5, .slice av l.length cv] (.slice (some ⟨w.heap.size + 1, 0, none⟩) 1 1) 1 [x0]) := WrSt.begun w _ x0
  obtain ⟨⟨p0, p1, p2, p3, p4, p5, p6⟩, _⟩ := seven S.out.blk
  clear hT T10 h4 h5
  go_enter Tryz.func13, Tryz.ntmps13
  have e0 : ¬ (0 : Int) < (l.length : Int) := by rw [hn]; simp
  clear hn
  have e1 : (x5 != 1) = true := by simp [ht]
  have e2 : (x4 != 0) = false := by simp [hd]
  clear ht hd
  go_wp2_with (first
    | (at_builtin; have ht := S.out.top; refine wpList_append_src _ rfl _ _ 33 rfl (w.heap.size + 1) 9 i0 _ 1 16 Tryz.underlying33 hi0 hz0 hz1 hz2 rfl (by decide) _ 1 _ rfl (S.out.own.alloc _) _ rfl 2 (strsV [actB, x2]) (.inl ⟨_, 2, rfl, rfl, World.news_of_block (heap_new3 _ _ _ _)⟩) (strsV_one _) (by unfold maxLen; omega) (by omega) (by rw [World.size_alloc]; omega) ?_; intro a3 c3 w3 ho hg _ _; have S2 : Hid (WrSt w w3 _ (.slice a3 3 c3) 3 [x0, actB, x2]) := S.out.more ho hg; clear S p0 p1 p2 p3 p4 p5 p6 ho hg; have S := S2; clear S2; obtain ⟨⟨p0, p1, p2, p3, p4, p5, p6⟩, _⟩ := seven S.out.blk)
    | (go_at_call 27; refine (itoa_any _ (HP.out.kept S.out.kept) x5 h5a h5b).mono ?_; rintro e wi ⟨rfl, Ki⟩; have S2 : Hid (WrSt w wi _ _ _ _) := S.out.call Ki; clear S p0 p1 p2 p3 p4 p5 p6 Ki; have S := S2; clear S2; obtain ⟨⟨p0, p1, p2, p3, p4, p5, p6⟩, _⟩ := seven S.out.blk)
    | (at_builtin; have ht := S.out.top; refine wpList_append_src _ rfl _ _ 33 rfl (w.heap.size + 1) 9 i0 _ 1 16 Tryz.underlying33 hi0 hz0 hz1 hz2 rfl (by decide) _ 3 _ rfl (S.out.own.alloc _) _ rfl 2 (strsV [triB, itB x5]) (.inl ⟨_, 2, rfl, rfl, World.news_of_block (heap_alloc_new _ _)⟩) (strsV_one _) (by unfold maxLen; omega) (by omega) (by rw [World.size_alloc]; omega) ?_; intro a5 c5 w5 ho hg _ _; have S2 : Hid (WrSt w w5 _ (.slice a5 5 c5) 5 [x0, actB, x2, triB, itB x5]) := S.out.more ho hg; clear S p0 p1 p2 p3 p4 p5 p6 ho hg; have S := S2; clear S2; obtain ⟨⟨p0, p1, p2, p3, p4, p5, p6⟩, _⟩ := seven S.out.blk)
    | fail)
  go_ret
  exact S.out.post (by simp)

set_option maxRecDepth 100000 in
set_option maxHeartbeats 4000000 in
theorem wr1Nft (w : World) (x0 x2 x3 : ByteArray) (x4 x5 : Int) (l : List ByteArray) (av : Option Addr) (cv : Nat) (hT : TextsAt w (.slice av l.length cv) l) (hl : l.length ≤ 1000000) (T10 : Pow10 w) (h4 : isI64 x4) (h5 : isI64 x5) (ht : x5 = 1) (hd : x4 ≠ 0) (hn : l = []) :
    Calls Tryz.prog 13 #[.agg #[.string x0, .int .i64 1, .string x2, .string x3, .int .i64 x4, .int .i64 x5, .slice av l.length cv]] w (WrPost w ([x0, actB, x2, tmoB, itB x4])) := by
  obtain ⟨i0, hi0, hz0, hz1, hz2⟩ := info_parts Tryz.info9
  obtain ⟨h4a, h4b⟩ := i64_bounds h4
  obtain ⟨h5a, h5b⟩ := i64_bounds h5
  have HT : Hid (TextsAt w (.slice av l.length cv) l) := hT
  have HP : Hid (Pow10 w) := T10
  have S : Hid (WrSt w ((w.alloc (.cells #[.string x0, .int .i64 1, .string x2, .string x3, .int .i64 x4, .int .i64 x5, .slice av l.length cv] 35)).alloc (.cells #[.string x0] 9)) #[.string x0, .int .i64 1, .string x2, .string x3, .int .i64 x4, .int .i64 x5, .slice av l.length cv] (.slice (some ⟨w.heap.size + 1, 0, none⟩) 1 1) 1 [x0]) := WrSt.begun w _ x0
  obtain ⟨⟨p0, p1, p2, p3, p4, p5, p6⟩, _⟩ := seven S.out.blk
  clear hT T10 h4 h5
  go_enter Tryz.func13, Tryz.ntmps13
  have e0 : ¬ (0 : Int) < (l.length : Int) := by rw [hn]; simp
  clear hn
  have e1 : (x5 != 1) = false := by simp [ht]
  have e2 : (x4 != 0) = true := by simp [hd]
  clear ht hd
  go_wp2_with (first
    | (at_builtin; have ht := S.out.top; refine wpList_append_src _ rfl _ _ 33 rfl (w.heap.size + 1) 9 i0 _ 1 16 Tryz.underlying33 hi0 hz0 hz1 hz2 rfl (by decide) _ 1 _ rfl (S.out.own.alloc _) _ rfl 2 (strsV [actB, x2]) (.inl ⟨_, 2, rfl, rfl, World.news_of_block (heap_new3 _ _ _ _)⟩) (strsV_one _) (by unfold maxLen; omega) (by omega) (by rw [World.size_alloc]; omega) ?_; intro a3 c3 w3 ho hg _ _; have S2 : Hid (WrSt w w3 _ (.slice a3 3 c3) 3 [x0, actB, x2]) := S.out.more ho hg; clear S p0 p1 p2 p3 p4 p5 p6 ho hg; have S := S2; clear S2; obtain ⟨⟨p0, p1, p2, p3, p4, p5, p6⟩, _⟩ := seven S.out.blk)
    | (go_at_call 27; refine (itoa_any _ (HP.out.kept S.out.kept) x4 h4a h4b).mono ?_; rintro e wi ⟨rfl, Ki⟩; have S2 : Hid (WrSt w wi _ _ _ _) := S.out.call Ki; clear S p0 p1 p2 p3 p4 p5 p6 Ki; have S := S2; clear S2; obtain ⟨⟨p0, p1, p2, p3, p4, p5, p6⟩, _⟩ := seven S.out.blk)
    | (at_builtin; have ht := S.out.top; refine wpList_append_src _ rfl _ _ 33 rfl (w.heap.size + 1) 9 i0 _ 1 16 Tryz.underlying33 hi0 hz0 hz1 hz2 rfl (by decide) _ 3 _ rfl (S.out.own.alloc _) _ rfl 2 (strsV [tmoB, itB x4]) (.inl ⟨_, 2, rfl, rfl, World.news_of_block (heap_alloc_new _ _)⟩) (strsV_one _) (by unfold maxLen; omega) (by omega) (by rw [World.size_alloc]; omega) ?_; intro a5 c5 w5 ho hg _ _; have S2 : Hid (WrSt w w5 _ (.slice a5 5 c5) 5 [x0, actB, x2, tmoB, itB x4]) := S.out.more ho hg; clear S p0 p1 p2 p3 p4 p5 p6 ho hg; have S := S2; clear S2; obtain ⟨⟨p0, p1, p2, p3, p4, p5, p6⟩, _⟩ := seven S.out.blk)
    | fail)
  go_ret
  exact S.out.post (by simp)

set_option maxRecDepth 100000 in
set_option maxHeartbeats 4000000 in
theorem wr1Nff (w : World) (x0 x2 x3 : ByteArray) (x4 x5 : Int) (l : List ByteArray) (av : Option Addr) (cv : Nat) (hT : TextsAt w (.slice av l.length cv) l) (hl : l.length ≤ 1000000) (T10 : Pow10 w) (h4 : isI64 x4) (h5 : isI64 x5) (ht : x5 = 1) (hd : x4 = 0) (hn : l = []) :
    Calls Tryz.prog 13 #[.agg #[.string x0, .int .i64 1, .string x2, .string x3, .int .i64 x4, .int .i64 x5, .slice av l.length cv]] w (WrPost w ([x0, actB, x2])) := by
  obtain ⟨i0, hi0, hz0, hz1, hz2⟩ := info_parts Tryz.info9
  obtain ⟨h4a, h4b⟩ := i64_bounds h4
  obtain ⟨h5a, h5b⟩ := i64_bounds h5
  have HT : Hid (TextsAt w (.slice av l.length cv) l) := hT
  have HP : Hid (Pow10 w) := T10
  have S : Hid (WrSt w ((w.alloc (.cells #[.string x0, .int .i64 1, .string x2, .string x3, .int .i64 x4, .int .i64 x5, .slice av l.length cv] 35)).alloc (.cells #[.string x0] 9)) #[.string x0, .int .i64 1, .string x2, .string x3, .int .i64 x4, .int .i64 x5, .slice av l.length cv] (.slice (some ⟨w.heap.size + 1, 0, none⟩) 1 1) 1 [x0]) := WrSt.begun w _ x0
  obtain ⟨⟨p0, p1, p2, p3, p4, p5, p6⟩, _⟩ := seven S.out.blk
  clear hT T10 h4 h5
  go_enter Tryz.func13, Tryz.ntmps13
  have e0 : ¬ (0 : Int) < (l.length : Int) := by rw [hn]; simp
  clear hn
  have e1 : (x5 != 1) = false := by simp [ht]
  have e2 : (x4 != 0) = false := by simp [hd]
  clear ht hd
  go_wp2_with (first
    | (at_builtin; have ht := S.out.top; refine wpList_append_src _ rfl _ _ 33 rfl (w.heap.size + 1) 9 i0 _ 1 16 Tryz.underlying33 hi0 hz0 hz1 hz2 rfl (by decide) _ 1 _ rfl (S.out.own.alloc _) _ rfl 2 (strsV [actB, x2]) (.inl ⟨_, 2, rfl, rfl, World.news_of_block (heap_new3 _ _ _ _)⟩) (strsV_one _) (by unfold maxLen; omega) (by omega) (by rw [World.size_alloc]; omega) ?_; intro a3 c3 w3 ho hg _ _; have S2 : Hid (WrSt w w3 _ (.slice a3 3 c3) 3 [x0, actB, x2]) := S.out.more ho hg; clear S p0 p1 p2 p3 p4 p5 p6 ho hg; have S := S2; clear S2; obtain ⟨⟨p0, p1, p2, p3, p4, p5, p6⟩, _⟩ := seven S.out.blk)
    | fail)
  go_ret
  exact S.out.post (by simp)

set_option maxRecDepth 100000 in
set_option maxHeartbeats 4000000 in
theorem wr2N (w : World) (x0 x2 x3 : ByteArray) (x4 x5 : Int) (l : List ByteArray) (av : Option Addr) (cv : Nat) (hT : TextsAt w (.slice av l.length cv) l) (hl : l.length ≤ 1000000) (T10 : Pow10 w) (h4 : isI64 x4) (h5 : isI64 x5) (hn : l = []) :
    Calls Tryz.prog 13 #[.agg #[.string x0, .int .i64 2, .string x2, .string x3, .int .i64 x4, .int .i64 x5, .slice av l.length cv]] w (WrPost w ([x0, timB, itB x4])) := by
  obtain ⟨i0, hi0, hz0, hz1, hz2⟩ := info_parts Tryz.info9
  obtain ⟨h4a, h4b⟩ := i64_bounds h4
  obtain ⟨h5a, h5b⟩ := i64_bounds h5
  have HT : Hid (TextsAt w (.slice av l.length cv) l) := hT
  have HP : Hid (Pow10 w) := T10
  have S : Hid (WrSt w ((w.alloc (.cells #[.string x0, .int .i64 2, .string x2, .string x3, .int .i64 x4, .int .i64 x5, .slice av l.length cv] 35)).alloc (.cells #[.string x0] 9)) #[.string x0, .int .i64 2, .string x2, .string x3, .int .i64 x4, .int .i64 x5, .slice av l.length cv] (.slice (some ⟨w.heap.size + 1, 0, none⟩) 1 1) 1 [x0]) := WrSt.begun w _ x0
  obtain ⟨⟨p0, p1, p2, p3, p4, p5, p6⟩, _⟩ := seven S.out.blk
  clear hT T10 h4 h5
  go_enter Tryz.func13, Tryz.ntmps13
  have e0 : ¬ (0 : Int) < (l.length : Int) := by rw [hn]; simp
  clear hn
  go_wp2_with (first
    | (go_at_call 27; refine (itoa_any _ (HP.out.kept S.out.kept) x4 h4a h4b).mono ?_; rintro e wi ⟨rfl, Ki⟩; have S2 : Hid (WrSt w wi _ _ _ _) := S.out.call Ki; clear S p0 p1 p2 p3 p4 p5 p6 Ki; have S := S2; clear S2; obtain ⟨⟨p0, p1, p2, p3, p4, p5, p6⟩, _⟩ := seven S.out.blk)
    | (at_builtin; have ht := S.out.top; refine wpList_append_src _ rfl _ _ 33 rfl (w.heap.size + 1) 9 i0 _ 1 16 Tryz.underlying33 hi0 hz0 hz1 hz2 rfl (by decide) _ 1 _ rfl (S.out.own.alloc _) _ rfl 2 (strsV [timB, itB x4]) (.inl ⟨_, 2, rfl, rfl, World.news_of_block (heap_alloc_new _ _)⟩) (strsV_one _) (by unfold maxLen; omega) (by omega) (by rw [World.size_alloc]; omega) ?_; intro a3 c3 w3 ho hg _ _; have S2 : Hid (WrSt w w3 _ (.slice a3 3 c3) 3 [x0, timB, itB x4]) := S.out.more ho hg; clear S p0 p1 p2 p3 p4 p5 p6 ho hg; have S := S2; clear S2; obtain ⟨⟨p0, p1, p2, p3, p4, p5, p6⟩, _⟩ := seven S.out.blk)
    | fail)
  go_ret
  exact S.out.post (by simp)

set_option maxRecDepth 100000 in
set_option maxHeartbeats 4000000 in
theorem wr3N (w : World) (x0 x2 x3 : ByteArray) (x4 x5 : Int) (l : List ByteArray) (av : Option Addr) (cv : Nat) (hT : TextsAt w (.slice av l.length cv) l) (hl : l.length ≤ 1000000) (T10 : Pow10 w) (h4 : isI64 x4) (h5 : isI64 x5) (hn : l = []) :
    Calls Tryz.prog 13 #[.agg #[.string x0, .int .i64 3, .string x2, .string x3, .int .i64 x4, .int .i64 x5, .slice av l.length cv]] w (WrPost w ([x0, chiB, x2])) := by
  obtain ⟨i0, hi0, hz0, hz1, hz2⟩ := info_parts Tryz.info9
  obtain ⟨h4a, h4b⟩ := i64_bounds h4
  obtain ⟨h5a, h5b⟩ := i64_bounds h5
  have HT : Hid (TextsAt w (.slice av l.length cv) l) := hT
  have HP : Hid (Pow10 w) := T10
  have S : Hid (WrSt w ((w.alloc (.cells #[.string x0, .int .i64 3, .string x2, .string x3, .int .i64 x4, .int .i64 x5, .slice av l.length cv] 35)).alloc (.cells #[.string x0] 9)) #[.string x0, .int .i64 3, .string x2, .string x3, .int .i64 x4, .int .i64 x5, .slice av l.length cv] (.slice (some ⟨w.heap.size + 1, 0, none⟩) 1 1) 1 [x0]) := WrSt.begun w _ x0
  obtain ⟨⟨p0, p1, p2, p3, p4, p5, p6⟩, _⟩ := seven S.out.blk
  clear hT T10 h4 h5
  go_enter Tryz.func13, Tryz.ntmps13
  have e0 : ¬ (0 : Int) < (l.length : Int) := by rw [hn]; simp
  clear hn
  go_wp2_with (first
    | (at_builtin; have ht := S.out.top; refine wpList_append_src _ rfl _ _ 33 rfl (w.heap.size + 1) 9 i0 _ 1 16 Tryz.underlying33 hi0 hz0 hz1 hz2 rfl (by decide) _ 1 _ rfl (S.out.own.alloc _) _ rfl 2 (strsV [chiB, x2]) (.inl ⟨_, 2, rfl, rfl, World.news_of_block (heap_new3 _ _ _ _)⟩) (strsV_one _) (by unfold maxLen; omega) (by omega) (by rw [World.size_alloc]; omega) ?_; intro a3 c3 w3 ho hg _ _; have S2 : Hid (WrSt w w3 _ (.slice a3 3 c3) 3 [x0, chiB, x2]) := S.out.more ho hg; clear S p0 p1 p2 p3 p4 p5 p6 ho hg; have S := S2; clear S2; obtain ⟨⟨p0, p1, p2, p3, p4, p5, p6⟩, _⟩ := seven S.out.blk)
    | fail)
  go_ret
  exact S.out.post (by simp)

set_option maxRecDepth 100000 in
set_option maxHeartbeats 4000000 in
theorem wr4N (w : World) (x0 x2 x3 : ByteArray) (x4 x5 : Int) (l : List ByteArray) (av : Option Addr) (cv : Nat) (hT : TextsAt w (.slice av l.length cv) l) (hl : l.length ≤ 1000000) (T10 : Pow10 w) (h4 : isI64 x4) (h5 : isI64 x5) (hn : l = []) :
    Calls Tryz.prog 13 #[.agg #[.string x0, .int .i64 4, .string x2, .string x3, .int .i64 x4, .int .i64 x5, .slice av l.length cv]] w (WrPost w ([x0, waiB, x2])) := by
  obtain ⟨i0, hi0, hz0, hz1, hz2⟩ := info_parts Tryz.info9
  obtain ⟨h4a, h4b⟩ := i64_bounds h4
  obtain ⟨h5a, h5b⟩ := i64_bounds h5
  have HT : Hid (TextsAt w (.slice av l.length cv) l) := hT
  have HP : Hid (Pow10 w) := T10
  have S : Hid (WrSt w ((w.alloc (.cells #[.string x0, .int .i64 4, .string x2, .string x3, .int .i64 x4, .int .i64 x5, .slice av l.length cv] 35)).alloc (.cells #[.string x0] 9)) #[.string x0, .int .i64 4, .string x2, .string x3, .int .i64 x4, .int .i64 x5, .slice av l.length cv] (.slice (some ⟨w.heap.size + 1, 0, none⟩) 1 1) 1 [x0]) := WrSt.begun w _ x0
  obtain ⟨⟨p0, p1, p2, p3, p4, p5, p6⟩, _⟩ := seven S.out.blk
  clear hT T10 h4 h5
  go_enter Tryz.func13, Tryz.ntmps13
  have e0 : ¬ (0 : Int) < (l.length : Int) := by rw [hn]; simp
  clear hn
  go_wp2_with (first
    | (at_builtin; have ht := S.out.top; refine wpList_append_src _ rfl _ _ 33 rfl (w.heap.size + 1) 9 i0 _ 1 16 Tryz.underlying33 hi0 hz0 hz1 hz2 rfl (by decide) _ 1 _ rfl (S.out.own.alloc _) _ rfl 2 (strsV [waiB, x2]) (.inl ⟨_, 2, rfl, rfl, World.news_of_block (heap_new3 _ _ _ _)⟩) (strsV_one _) (by unfold maxLen; omega) (by omega) (by rw [World.size_alloc]; omega) ?_; intro a3 c3 w3 ho hg _ _; have S2 : Hid (WrSt w w3 _ (.slice a3 3 c3) 3 [x0, waiB, x2]) := S.out.more ho hg; clear S p0 p1 p2 p3 p4 p5 p6 ho hg; have S := S2; clear S2; obtain ⟨⟨p0, p1, p2, p3, p4, p5, p6⟩, _⟩ := seven S.out.blk)
    | fail)
  go_ret
  exact S.out.post (by simp)

set_option maxRecDepth 100000 in
set_option maxHeartbeats 4000000 in
theorem wr5N (w : World) (x0 x2 x3 : ByteArray) (x4 x5 : Int) (l : List ByteArray) (av : Option Addr) (cv : Nat) (hT : TextsAt w (.slice av l.length cv) l) (hl : l.length ≤ 1000000) (T10 : Pow10 w) (h4 : isI64 x4) (h5 : isI64 x5) (hn : l = []) :
    Calls Tryz.prog 13 #[.agg #[.string x0, .int .i64 5, .string x2, .string x3, .int .i64 x4, .int .i64 x5, .slice av l.length cv]] w (WrPost w ([x0, senB, x3, x2])) := by
  obtain ⟨i0, hi0, hz0, hz1, hz2⟩ := info_parts Tryz.info9
  obtain ⟨h4a, h4b⟩ := i64_bounds h4
  obtain ⟨h5a, h5b⟩ := i64_bounds h5
  have HT : Hid (TextsAt w (.slice av l.length cv) l) := hT
  have HP : Hid (Pow10 w) := T10
  have S : Hid (WrSt w ((w.alloc (.cells #[.string x0, .int .i64 5, .string x2, .string x3, .int .i64 x4, .int .i64 x5, .slice av l.length cv] 35)).alloc (.cells #[.string x0] 9)) #[.string x0, .int .i64 5, .string x2, .string x3, .int .i64 x4, .int .i64 x5, .slice av l.length cv] (.slice (some ⟨w.heap.size + 1, 0, none⟩) 1 1) 1 [x0]) := WrSt.begun w _ x0
  obtain ⟨⟨p0, p1, p2, p3, p4, p5, p6⟩, _⟩ := seven S.out.blk
  clear hT T10 h4 h5
  go_enter Tryz.func13, Tryz.ntmps13
  have e0 : ¬ (0 : Int) < (l.length : Int) := by rw [hn]; simp
  clear hn
  go_wp2_with (first
    | (at_builtin; have ht := S.out.top; refine wpList_append_src _ rfl _ _ 33 rfl (w.heap.size + 1) 9 i0 _ 1 16 Tryz.underlying33 hi0 hz0 hz1 hz2 rfl (by decide) _ 1 _ rfl (S.out.own.alloc _) _ rfl 3 (strsV [senB, x3, x2]) (.inl ⟨_, 3, rfl, rfl, World.news_of_block (heap_new3 _ _ _ _)⟩) (strsV_one _) (by unfold maxLen; omega) (by omega) (by rw [World.size_alloc]; omega) ?_; intro a4 c4 w4 ho hg _ _; have S2 : Hid (WrSt w w4 _ (.slice a4 4 c4) 4 [x0, senB, x3, x2]) := S.out.more ho hg; clear S p0 p1 p2 p3 p4 p5 p6 ho hg; have S := S2; clear S2; obtain ⟨⟨p0, p1, p2, p3, p4, p5, p6⟩, _⟩ := seven S.out.blk)
    | fail)
  go_ret
  exact S.out.post (by simp)

/-- The words of a node that is right. -/
theorem written_any (w : World) (n : Nd) (av : Option Addr) (cv : Nat) (hT : TextsAt w (.slice av n.after.length cv) n.after) (hl : n.after.length ≤ 1000000) (T10 : Pow10 w) (h4 : isI64 n.delay) (h5 : isI64 n.tries) (R : NdRight n) :
    Calls Tryz.prog 13 #[.agg #[.string n.name, .int .i64 n.kind, .string n.arg, .string n.to, .int .i64 n.delay, .int .i64 n.tries, .slice av n.after.length cv]] w (WrPost w (wordsW n)) := by
  obtain ⟨k, ws, hk⟩ := kindW_cons R
  obtain ⟨x0, x1, x2, x3, x4, x5, l⟩ := n
  simp only [] at hT hl h4 h5 ⊢
  unfold wordsW
  unfold kindW at hk ⊢
  unfold aftW
  simp only [] at hk ⊢
  clear R
  have hx1 : x1 = 1 ∨ x1 = 2 ∨ x1 = 3 ∨ x1 = 4 ∨ x1 = 5 := by
    by_cases k1 : x1 = 1; · exact .inl k1
    by_cases k2 : x1 = 2; · exact .inr (.inl k2)
    by_cases k3 : x1 = 3; · exact .inr (.inr (.inl k3))
    by_cases k4 : x1 = 4; · exact .inr (.inr (.inr (.inl k4)))
    by_cases k5 : x1 = 5; · exact .inr (.inr (.inr (.inr k5)))
    simp [k1, k2, k3, k4, k5] at hk
  clear hk
  by_cases hn : l = []
  · rw [if_pos hn]
    rcases hx1 with rfl | rfl | rfl | rfl | rfl
    · by_cases ht : x5 = 1
      · by_cases hd : x4 = 0
        · simpa [ht, hd] using wr1Nff w x0 x2 x3 x4 x5 l av cv hT hl T10 h4 h5 ht hd hn
        · simpa [ht, hd] using wr1Nft w x0 x2 x3 x4 x5 l av cv hT hl T10 h4 h5 ht hd hn
      · by_cases hd : x4 = 0
        · simpa [ht, hd] using wr1Ntf w x0 x2 x3 x4 x5 l av cv hT hl T10 h4 h5 ht hd hn
        · simpa [ht, hd] using wr1Ntt w x0 x2 x3 x4 x5 l av cv hT hl T10 h4 h5 ht hd hn
    · simpa using wr2N w x0 x2 x3 x4 x5 l av cv hT hl T10 h4 h5 hn
    · simpa using wr3N w x0 x2 x3 x4 x5 l av cv hT hl T10 h4 h5 hn
    · simpa using wr4N w x0 x2 x3 x4 x5 l av cv hT hl T10 h4 h5 hn
    · simpa using wr5N w x0 x2 x3 x4 x5 l av cv hT hl T10 h4 h5 hn
  · rw [if_neg hn]
    have hn : 0 < l.length := List.length_pos_iff.2 hn
    rcases hx1 with rfl | rfl | rfl | rfl | rfl
    · by_cases ht : x5 = 1
      · by_cases hd : x4 = 0
        · simpa [ht, hd] using wr1Aff w x0 x2 x3 x4 x5 l av cv hT hl T10 h4 h5 ht hd hn
        · simpa [ht, hd] using wr1Aft w x0 x2 x3 x4 x5 l av cv hT hl T10 h4 h5 ht hd hn
      · by_cases hd : x4 = 0
        · simpa [ht, hd] using wr1Atf w x0 x2 x3 x4 x5 l av cv hT hl T10 h4 h5 ht hd hn
        · simpa [ht, hd] using wr1Att w x0 x2 x3 x4 x5 l av cv hT hl T10 h4 h5 ht hd hn
    · simpa using wr2A w x0 x2 x3 x4 x5 l av cv hT hl T10 h4 h5 hn
    · simpa using wr3A w x0 x2 x3 x4 x5 l av cv hT hl T10 h4 h5 hn
    · simpa using wr4A w x0 x2 x3 x4 x5 l av cv hT hl T10 h4 h5 hn
    · simpa using wr5A w x0 x2 x3 x4 x5 l av cv hT hl T10 h4 h5 hn

end Go.Proofs.YtlholgpenpfpbaaGreatDoor

/-
  Text: what is written of a definition.
-/
namespace Go.Proofs.YtlholgpenpfpbaaGreatDoor
open Go.RowKit

theorem joinX : Builder.Extra Tryz.prog Tryz.joinL_ren := {
  sizeBuilder := by kernel_rfl
  liesBuilder := by kernel_rfl
  t5 := Tryz.underlying5
  a5 := Tryz.isAgg5
  z5 := Tryz.sizeOf5
  v5 := Tryz.zeroValue5
  infoByte := by kernel_rfl
  cellsByte := by kernel_rfl
  sizeByte := by kernel_rfl
  neB5 := by decide }

theorem builder_keep {T e : TypeId} {B b : Nat} {bs : List Value} {W W' : World} (h : Lib.IsBuilderF T e B b bs W) (K : Kept (fun _ => False) W W') : Lib.IsBuilderF T e B b bs W' := by
  have key : ∀ p, Lib.BuilderAtF T e B b p bs W → Lib.BuilderAtF T e B b p bs W' := by
    rintro p ⟨hB, v, hb, ho, hne⟩
    refine ⟨hB, v, (K.block _ (Array.getElem?_eq_some_iff.1 hb).1 (fun h => h)).trans hb, ⟨ho.1, ?_⟩, hne⟩
    rcases ho.2 with h0 | ⟨g, cap, cur, fz, hv, hg0, hg, rest⟩
    · exact .inl h0
    · exact .inr ⟨g, cap, cur, fz, hv, hg0, (K.block _ (Array.getElem?_eq_some_iff.1 hg).1 (fun h => h)).trans hg, rest⟩
  rcases h with h | h
  · exact .inl (key _ h)
  · exact .inr (key _ h)

theorem kept_below {w W W' : World} {b : Nat} (K : Kept (fun _ => False) w W) (hb : w.heap.size ≤ b) (h : Below b W W') : Kept (fun _ => False) w W' :=
  ⟨h.os.trans K.os, h.tape.trans K.tape, h.output.trans K.output, Nat.le_trans K.size h.size, fun k hk hn => (h.block k (by omega)).trans (K.block k hk hn)⟩

/-- A builder at b with the bytes l; the definition's two cells. -/
structure BSt (w W : World) (C : Array Value) (b : Nat) (l : List UInt8) : Prop where
  bld : Lib.IsBuilderF (Tryz.joinL_ren.t 72) (Tryz.joinL_ren.t 5) b b (Lib.byteCells l) W
  box : W.heap[w.heap.size]? = some (.cells C 24 (0, 0))
  kept : Kept (fun _ => False) w W
  low : w.heap.size < b
  top : b < W.heap.size

theorem BSt.call {w W W' : World} {C : Array Value} {b : Nat} {l : List UInt8} (S : BSt w W C b l) (K : Kept (fun _ => False) W W') : BSt w W' C b l :=
  ⟨builder_keep S.bld K, (K.block _ (Array.getElem?_eq_some_iff.1 S.box).1 (fun h => h)).trans S.box, S.kept.and K, S.low, Nat.lt_of_lt_of_le S.top K.size⟩

theorem write_any {w W : World} {C : Array Value} {b : Nat} {l : List UInt8} (S : BSt w W C b l) (s : ByteArray) (hl : l.length + s.size ≤ 100000000) :
    Calls Tryz.prog 11 #[.pointer (some ⟨b, 0, none⟩), .string s] W fun e w' => e = .returned (.tuple #[.int .i64 s.size, .nilIface]) ∧ BSt w w' C b (l ++ s.data.toList) := by
  have hlow := S.low
  have htop := S.top
  refine (Any.Builder_WriteString_k { Tryz.joinL with } joinX b b (Lib.byteCells l) s W S.bld (by unfold Lib.byteCells; rw [List.length_map]; omega) (by omega)).mono fun e w' h => ?_
  obtain ⟨he, hb, hbel, _⟩ := h
  refine ⟨he, .inr ?_, (hbel.block _ hlow).trans S.box, kept_below S.kept (by omega) hbel, hlow, Nat.lt_of_lt_of_le htop hbel.size⟩
  rw [show Lib.byteCells (l ++ s.data.toList) = Lib.byteCells l ++ Lib.strCells s by unfold Lib.byteCells Lib.strCells; rw [List.map_append]]
  exact hb

theorem string_any {w W : World} {C : Array Value} {b : Nat} {l : List UInt8} (S : BSt w W C b l) :
    Calls Tryz.prog 14 #[.pointer (some ⟨b, 0, none⟩)] W fun e w' => e = .returned (.string (mkB l)) ∧ Kept (fun _ => False) w w' := by
  have hlow := S.low
  have htop := S.top
  refine (Any.Builder_String_any_k { Tryz.joinL with } joinX b b l W S.bld (by omega)).mono fun e w' h => ?_
  obtain ⟨he, _, hbel, _⟩ := h
  exact ⟨he, kept_below S.kept (by omega) hbel⟩

/-- Words joined by blanks. -/
theorem join_any (w : World) (ws : List ByteArray) (a : Option Addr) (c B : Nat) (hw : ws ≠ []) (ho : w.ownsRow B 9 1 (.slice a ws.length c) ws.length (strsV ws)) (hN : ws.length ≤ 1000000) (hl : (lineL [32] ws).length ≤ 1000000) :
    Calls Tryz.prog 12 #[.slice a ws.length c, .string ⟨#[32]⟩] w fun e w' => e = .returned (.string (mkB (lineL [32] ws))) ∧ Kept (fun _ => False) w w' := by
  have hp : 0 < ws.length := List.length_pos_iff.2 hw
  rcases ho.2 with ⟨h0, hn⟩ | ⟨g, cap, cur, hv, hb, hg, hcap, hm, hsz, htake⟩
  · omega
  · obtain ⟨rfl, rfl⟩ : a = some ⟨g, 0, none⟩ ∧ c = cap := by simpa using hv
    refine (Any.strings_Join Tryz.joinL joinX g 0 c ws ⟨#[32]⟩ w (fun j x hx => ?_) (Array.getElem?_eq_some_iff.1 hg).1 (by omega) hcap (by unfold lineL bytesW at hl; exact Nat.le_trans hl (by omega))).mono fun e w' h => ?_
    · rw [Nat.zero_add]
      have hj : j < ws.length := (List.getElem?_eq_some_iff.1 hx).1
      have hc : (strsV ws)[j]? = some (.string x) := by unfold strsV; rw [List.getElem?_map, hx]; rfl
      rw [← htake, List.getElem?_take_of_lt (by omega)] at hc
      have hcur : cur[j]? = some (.string x) := by simpa using hc
      simp [World.cell?, hg, hcur]
    · obtain ⟨he, hbel⟩ := h
      exact ⟨he, hbel.os, hbel.tape, hbel.output, hbel.size, fun k hk _ => hbel.block k hk⟩

end Go.Proofs.YtlholgpenpfpbaaGreatDoor
