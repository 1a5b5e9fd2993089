/-
  A text with each blank doubled, and a remark and an empty line behind some of its lines, says the same. Nothing here speaks of a program.
-/
import Derived.Test.YtlholgpenpfpbaaDoorDTextR
namespace Go.Proofs.YtlholgpenpfpbaaDoor
open Go.RowKit

/-- A remark's text: without line ends, cut. -/
def plainP (s : ByteArray) : List UInt8 := (s.data.toList.take 40).filter (fun b => b != 10)

def wideK (rem : Nat → ByteArray) (m : Nat) : List UInt8 → Nat → List UInt8
  | [], _ => []
  | b :: t, k => b :: ((if b = 32 then [32] else []) ++ (if b = 10 ∧ k < m then [32, 32, 35] ++ (plainP (rem k) ++ ([10, 32, 10] ++ wideK rem m t (k + 1))) else wideK rem m t k))

theorem wideK_blank (rem : Nat → ByteArray) (m : Nat) (t : List UInt8) (k : Nat) : wideK rem m (32 :: t) k = [32, 32] ++ wideK rem m t k := by
  rw [wideK, if_pos rfl, if_neg (by simp)]
  rfl

theorem wideK_end (rem : Nat → ByteArray) {m : Nat} (t : List UInt8) {k : Nat} (h : k < m) : wideK rem m (10 :: t) k = [10] ++ ([32, 32, 35] ++ (plainP (rem k) ++ ([10, 32, 10] ++ wideK rem m t (k + 1)))) := by
  rw [wideK, if_neg (by simp), if_pos ⟨rfl, h⟩]
  rfl

theorem wideK_other (rem : Nat → ByteArray) (m : Nat) (t : List UInt8) (k : Nat) {b : UInt8} (h1 : b ≠ 32) (h2 : ¬ (b = 10 ∧ k < m)) : wideK rem m (b :: t) k = [b] ++ wideK rem m t k := by
  rw [wideK, if_neg h1, if_neg h2]
  rfl

/-- Blanks doubled. -/
def dbl (l : List UInt8) : List UInt8 := l.flatMap (fun b => if b = 32 then [32, 32] else [b])

theorem dbl_append (a b : List UInt8) : dbl (a ++ b) = dbl a ++ dbl b := by simp [dbl]
theorem dbl_word {w : List UInt8} (h : ∀ b ∈ w, b ≠ 32) : dbl w = w := by
  induction w with
  | nil => rfl
  | cons b t ih =>
    have h1 := h b (by simp)
    have h2 := ih (fun x hx => h x (by simp [hx]))
    unfold dbl at h2 ⊢
    rw [List.flatMap_cons, if_neg h1, h2]
    rfl

theorem dbl_tail : ∀ {ws : List (List UInt8)}, (∀ w ∈ ws, WordOk w) → dbl (Lib.joinTail [32] ws) = Lib.joinTail [32, 32] ws
  | [], _ => rfl
  | x :: ws, h => by
    have e1 : Lib.joinTail [32] (x :: ws) = [32] ++ (x ++ Lib.joinTail [32] ws) := by simp [Lib.joinTail]
    have e2 : Lib.joinTail [32, 32] (x :: ws) = [32, 32] ++ (x ++ Lib.joinTail [32, 32] ws) := by simp [Lib.joinTail]
    rw [e1, e2, dbl_append, dbl_append, dbl_tail (fun w hw => h w (by simp [hw])), dbl_word (fun b hb => ((h x (by simp)).2.1 b hb).1)]
    rfl

theorem dbl_line {ws : List ByteArray} (h : ∀ w ∈ bytesW ws, WordOk w) : dbl (lineL [32] ws) = lineL [32, 32] ws := by
  unfold lineL
  cases hw : bytesW ws with
  | nil => rfl
  | cons x t =>
    rw [hw] at h
    rw [Lib.join_cons, Lib.join_cons, dbl_append, dbl_word (fun b hb => ((h x (by simp)).2.1 b hb).1), dbl_tail (fun w hw => h w (by simp [hw]))]

theorem wideK_line (rem : Nat → ByteArray) (m : Nat) (r : List UInt8) (k : Nat) : ∀ (l : List UInt8), (∀ b ∈ l, b ≠ 10) → wideK rem m (l ++ r) k = dbl l ++ wideK rem m r k
  | [], _ => rfl
  | b :: l, h => by
    have ih := wideK_line rem m r k l (fun x hx => h x (by simp [hx]))
    have hb := h b (by simp)
    by_cases h32 : b = 32
    · subst h32
      rw [List.cons_append, wideK_blank, ih]
      simp [dbl]
    · rw [List.cons_append, wideK_other rem m _ k h32 (fun hh => hb hh.1), ih]
      simp [dbl, h32]

theorem plain_noNl (s : ByteArray) : ∀ b ∈ plainP s, b ≠ 10 := by
  intro b hb
  unfold plainP at hb
  have := (List.mem_filter.1 hb).2
  simpa using this

theorem blank_silent : rSilent (wordsP (mkB [32]), false) = true := by rw [wordsP_split]; rfl
theorem blanks_silent : rSilent (wordsP (mkB [32, 32]), false) = true := by rw [wordsP_split]; rfl
theorem remark_silent (p : List UInt8) : rSilent (wordsP (mkB ([32, 32, 35] ++ p)), false) = true := by
  rw [wordsP_split]
  obtain ⟨w, r, e⟩ := splitW_first p 35 []
  have e2 : splitW ([32, 32, 35] ++ p) [] = splitW p [35] := by
    show splitW (32 :: 32 :: 35 :: p) [] = _
    rw [splitW, if_pos rfl, if_pos rfl, splitW, if_pos rfl, if_pos rfl, splitW, if_neg (by decide)]
    rfl
  rw [e2, e, List.map_cons]
  unfold rSilent
  simp only [mkB_list, List.headD_cons]
  rfl

theorem wide_says (rem : Nat → ByteArray) (m : Nat) : ∀ (ls : List (List ByteArray)) (k : Nat), (∀ ws ∈ ls, LineOk ws) → saysL (linesP (mkB (wideK rem m (textL [32] ls) k))) = ls
  | [], k, _ => rfl
  | ws :: ls, k, h => by
    have hw := h ws (by simp)
    have hl := line_noNl (sep := [32]) (by simp) hw
    have hl2 := line_noNl (sep := [32, 32]) (by simp) hw
    have e := line_words (sep := [32, 32]) (by simp) (by simp) hw [] (by simp)
    rw [List.nil_append] at e
    rw [textL_cons, wideK_line rem m _ k _ hl, dbl_line hw.2]
    by_cases hk : k < m
    · rw [wideK_end rem _ hk]
      have hp := plain_noNl (rem k)
      have hr : ∀ b ∈ [32, 32, 35] ++ plainP (rem k), b ≠ (10 : UInt8) := by
        intro b hb
        rcases List.mem_append.1 hb with hb | hb
        · simp at hb; rcases hb with rfl | rfl <;> decide
        · exact hp b hb
      show saysL (linesP (mkB (lineL [32, 32] ws ++ 10 :: ([32, 32, 35] ++ (plainP (rem k) ++ ([10, 32, 10] ++ wideK rem m (textL [32] ls) (k + 1))))))) = ws :: ls
      rw [linesP_line _ _ hl2, saysL_says (by rw [e]; exact line_loud hw), e]
      rw [← List.append_assoc]
      show ws :: saysL (linesP (mkB (([32, 32, 35] ++ plainP (rem k)) ++ 10 :: ([32] ++ 10 :: wideK rem m (textL [32] ls) (k + 1))))) = ws :: ls
      rw [linesP_line _ _ hr, saysL_silent (remark_silent _), linesP_line _ _ (by simp), saysL_silent blank_silent, wide_says rem m ls (k + 1) (fun x hx => h x (by simp [hx]))]
    · rw [wideK_other rem m _ k (by decide) (fun hh => hk hh.2)]
      show saysL (linesP (mkB (lineL [32, 32] ws ++ 10 :: wideK rem m (textL [32] ls) k))) = ws :: ls
      rw [linesP_line _ _ hl2, saysL_says (by rw [e]; exact line_loud hw), e, wide_says rem m ls k (fun x hx => h x (by simp [hx]))]

theorem wide_parse {nm : ByteArray} {ns : List Nd} (hc : (checkP nm ns).2 = 0) (rem : Nat → ByteArray) (m : Nat) (hsz : (mkB ([32, 32, 10] ++ wideK rem m (textP nm ns).data.toList 0)).size ≤ 16384) : parseP (mkB ([32, 32, 10] ++ wideK rem m (textP nm ns).data.toList 0)) = (some (nm, ns), 0, 0) := by
  refine says_parse hc hsz ?_
  have e : (textP nm ns).data.toList = textL [32] (linesW nm ns) := by unfold textP; rw [if_pos hc, mkB_list]
  have e2 : ∀ X : List UInt8, [32, 32, 10] ++ X = [32, 32] ++ 10 :: X := fun X => rfl
  rw [e, e2, linesP_line _ _ (by simp), saysL_silent blanks_silent]
  exact wide_says rem m (linesW nm ns) 0 (lines_ok hc)

/-- How far the text has been gone through. -/
structure WdSt (rem : Nat → ByteArray) (m : Nat) (s : ByteArray) (i k : Nat) (acc : ByteArray) : Prop where
  is : acc.data.toList ++ wideK rem m (s.data.toList.drop i) k = wideK rem m s.data.toList 0
  few : acc.size ≤ 2 * i + 50 * k
  le : k ≤ m

theorem WdSt.zero (rem : Nat → ByteArray) (m : Nat) (s : ByteArray) : WdSt rem m s 0 0 ⟨#[]⟩ := ⟨rfl, Nat.zero_le _, Nat.zero_le _⟩

theorem drop_byte {s : ByteArray} {i : Nat} (h : i < s.size) : s.data.toList.drop i = s.get! i :: s.data.toList.drop (i + 1) := by
  rw [List.drop_eq_getElem_cons (by simpa using h)]
  have := get_list h
  rw [List.getElem?_eq_getElem (by simpa using h)] at this
  rw [Option.some.inj this]

theorem one_byte {s : ByteArray} {i : Nat} (h : i < s.size) : (s.extract i (i + 1)).data.toList = [s.get! i] := by
  rw [extract_list, drop_byte h, show i + 1 - i = 1 by omega]
  rfl

theorem add_list (x y : ByteArray) : (x ++ y).data.toList = x.data.toList ++ y.data.toList := by
  rw [ByteArray.data_append]
  simp

theorem plain_len (s : ByteArray) : (plainP s).length ≤ 40 := by
  unfold plainP
  have h1 := List.length_filter_le (fun b => b != 10) (s.data.toList.take 40)
  rw [List.length_take] at h1
  omega

theorem WdSt.blank {rem : Nat → ByteArray} {m : Nat} {s : ByteArray} {i k : Nat} {acc : ByteArray} (S : WdSt rem m s i k acc) (hi : i < s.size) (hb : s.get! i = 32) : WdSt rem m s (i + 1) k (acc ++ s.extract i (i + 1) ++ ⟨#[32]⟩) := by
  refine ⟨?_, ?_, S.le⟩
  · have h := S.is
    rw [drop_byte hi, hb, wideK_blank] at h
    rw [add_list, add_list, one_byte hi, hb, List.append_assoc, List.append_assoc]
    exact h
  · have h := S.few
    rw [ByteArray.size_append, ByteArray.size_append, ByteArray.size_extract]
    have : (⟨#[32]⟩ : ByteArray).size = 1 := rfl
    omega

theorem WdSt.other {rem : Nat → ByteArray} {m : Nat} {s : ByteArray} {i k : Nat} {acc : ByteArray} (S : WdSt rem m s i k acc) (hi : i < s.size) (h1 : s.get! i ≠ 32) (h2 : ¬ (s.get! i = 10 ∧ k < m)) : WdSt rem m s (i + 1) k (acc ++ s.extract i (i + 1)) := by
  refine ⟨?_, ?_, S.le⟩
  · have h := S.is
    rw [drop_byte hi, wideK_other rem m _ k h1 h2] at h
    rw [add_list, one_byte hi, List.append_assoc]
    exact h
  · have h := S.few
    rw [ByteArray.size_append, ByteArray.size_extract]
    omega

theorem WdSt.end {rem : Nat → ByteArray} {m : Nat} {s : ByteArray} {i k : Nat} {acc : ByteArray} (S : WdSt rem m s i k acc) (hi : i < s.size) (hb : s.get! i = 10) (hk : k < m) : WdSt rem m s (i + 1) (k + 1) (acc ++ s.extract i (i + 1) ++ ⟨#[32, 32, 35]⟩ ++ mkB (plainP (rem k)) ++ ⟨#[10, 32, 10]⟩) := by
  refine ⟨?_, ?_, hk⟩
  · have h := S.is
    rw [drop_byte hi, hb, wideK_end rem _ hk] at h
    rw [add_list, add_list, add_list, add_list, one_byte hi, hb, mkB_list, List.append_assoc, List.append_assoc, List.append_assoc, List.append_assoc]
    exact h
  · have h := S.few
    have h4 := plain_len (rem k)
    rw [ByteArray.size_append, ByteArray.size_append, ByteArray.size_append, ByteArray.size_append, ByteArray.size_extract, mkB_size]
    have : (⟨#[32, 32, 35]⟩ : ByteArray).size = 3 := rfl
    have : (⟨#[10, 32, 10]⟩ : ByteArray).size = 3 := rfl
    omega

theorem WdSt.done {rem : Nat → ByteArray} {m : Nat} {s : ByteArray} {i k : Nat} {acc : ByteArray} (S : WdSt rem m s i k acc) (hi : s.size ≤ i) : (⟨#[32, 32, 10]⟩ : ByteArray) ++ acc = mkB ([32, 32, 10] ++ wideK rem m s.data.toList 0) := by
  have h := S.is
  rw [List.drop_of_length_le (by simpa using hi)] at h
  have h2 : acc.data.toList = wideK rem m s.data.toList 0 := by rw [← h]; simp [wideK]
  rw [← mkB_data ((⟨#[32, 32, 10]⟩ : ByteArray) ++ acc), add_list, h2]

end Go.Proofs.YtlholgpenpfpbaaDoor
