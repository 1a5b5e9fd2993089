/-
  What is written of a definition is read as it, with blanks, empty lines and remarks too. Nothing here speaks of a program.
-/
import Derived.Test.YtlholgpenpfpbaaDoorDParseP
import Derived.Lib.IndexLaws
import Derived.Lib.ItoaNum
import Derived.Lib.Join
namespace Go.Proofs.YtlholgpenpfpbaaDoor
open Go.RowKit

/-- Bytes as a text. -/
def mkB (l : List UInt8) : ByteArray := ⟨l.toArray⟩
theorem mkB_list (l : List UInt8) : (mkB l).data.toList = l := by simp [mkB]
theorem mkB_size (l : List UInt8) : (mkB l).size = l.length := by show l.toArray.size = _; simp
theorem mkB_data (s : ByteArray) : mkB s.data.toList = s := by cases s; simp [mkB]
theorem mkB_inj {a b : List UInt8} (h : mkB a = mkB b) : a = b := by rw [← mkB_list a, h, mkB_list]

/-- A line's words, byte by byte. -/
def splitW : List UInt8 → List UInt8 → List (List UInt8)
  | [], cur => if cur = [] then [] else [cur]
  | b :: t, cur => if b = 32 then (if cur = [] then splitW t [] else cur :: splitW t []) else splitW t (cur ++ [b])

theorem get_list {s : ByteArray} {k : Nat} (h : k < s.size) : s.data.toList[k]? = some (s.get! k) := by
  obtain ⟨d⟩ := s
  have h' : k < d.size := h
  show d.toList[k]? = some d[k]!
  rw [getElem!_pos d k h']
  simp [h']

theorem extract_list (s : ByteArray) (i k : Nat) : (s.extract i k).data.toList = (s.data.toList.drop i).take (k - i) := by
  rw [ByteArray.data_extract, Array.toList_extract]

theorem wordsFrom_split (s : ByteArray) : ∀ (n i k : Nat), s.size - k ≤ n → i ≤ k → k ≤ s.size → (∀ j, i ≤ j → j < k → s.get! j ≠ 32) →
    wordsFrom s i = (splitW (s.data.toList.drop k) ((s.data.toList.drop i).take (k - i))).map mkB
  | n, i, k, hn, hik, hk, hw => by
    have hlen : s.data.toList.length = s.size := by simp
    have hcur : ((s.data.toList.drop i).take (k - i)).length = k - i := by rw [List.length_take, List.length_drop, hlen]; omega
    by_cases hks : k < s.size
    · have hd : s.data.toList.drop k = s.get! k :: s.data.toList.drop (k + 1) := by
        rw [List.drop_eq_getElem_cons (by omega)]
        have := get_list hks
        rw [List.getElem?_eq_getElem (by omega)] at this
        rw [Option.some.inj this]
      rw [hd]
      cases n with
      | zero => omega
      | succ n =>
        by_cases hb : s.get! k = 32
        · rw [splitW, if_pos hb]
          by_cases hi : i = k
          · subst hi
            rw [if_pos (by rw [Nat.sub_self]; rfl), wordsFrom_blank hks hb, wordsFrom_split s n (i + 1) (i + 1) (by omega) (Nat.le_refl _) (by omega) (fun j h1 h2 => by omega), Nat.sub_self]
            rfl
          · have hne : ¬ (s.data.toList.drop i).take (k - i) = [] := by
              intro h
              rw [h] at hcur
              simp at hcur
              omega
            rw [if_neg hne, wordsFrom_word (k := k) (by omega) hk hw (.inr hb), wordsFrom_blank hks hb, wordsFrom_split s n (k + 1) (k + 1) (by omega) (Nat.le_refl _) (by omega) (fun j h1 h2 => by omega), Nat.sub_self, List.map_cons]
            congr 1
            rw [← extract_list, mkB_data]
        · rw [splitW, if_neg hb, wordsFrom_split s n i (k + 1) (by omega) (by omega) (by omega) (fun j h1 h2 => by
            by_cases hj : j = k
            · rw [hj]; exact hb
            · exact hw j h1 (by omega))]
          congr 2
          rw [show k + 1 - i = (k - i) + 1 by omega, List.take_add_one, List.getElem?_drop, show i + (k - i) = k by omega, get_list hks]
          rfl
    · have hke : k = s.size := by omega
      rw [List.drop_of_length_le (by omega), splitW]
      by_cases hi : i = k
      · subst hi
        rw [if_pos (by rw [Nat.sub_self]; rfl), wordsFrom_end s (by omega)]
        rfl
      · have hne : ¬ (s.data.toList.drop i).take (k - i) = [] := by
          intro h
          rw [h] at hcur
          simp at hcur
          omega
        rw [if_neg hne, wordsFrom_word (k := k) (by omega) hk hw (.inl hke), wordsFrom_end s (by omega), ← extract_list, List.map_cons, mkB_data]
        rfl

theorem wordsP_split (l : List UInt8) : wordsP (mkB l) = (splitW l []).map mkB := by
  rw [words_from, wordsFrom_split (mkB l) (mkB l).size 0 0 (by omega) (Nat.le_refl _) (by omega) (fun j h1 h2 => by omega), mkB_list]
  rfl

theorem splitW_word : ∀ (w r cur : List UInt8), (∀ b ∈ w, b ≠ 32) → splitW (w ++ r) cur = splitW r (cur ++ w)
  | [], r, cur, _ => by simp
  | b :: w, r, cur, h => by
    rw [List.cons_append, splitW, if_neg (h b (by simp)), splitW_word w r (cur ++ [b]) (fun x hx => h x (by simp [hx]))]
    simp

theorem splitW_blanks : ∀ (e r : List UInt8), (∀ b ∈ e, b = 32) → splitW (e ++ r) [] = splitW r []
  | [], r, _ => rfl
  | b :: e, r, h => by
    rw [List.cons_append, splitW, if_pos (h b (by simp)), if_pos rfl]
    exact splitW_blanks e r (fun x hx => h x (by simp [hx]))

theorem splitW_end {cur : List UInt8} (h : cur ≠ []) {e : List UInt8} (he : e ≠ []) (hb : ∀ b ∈ e, b = 32) (r : List UInt8) : splitW (e ++ r) cur = cur :: splitW r [] := by
  cases e with
  | nil => exact absurd rfl he
  | cons b e =>
    rw [List.cons_append, splitW, if_pos (hb b (by simp)), if_neg h, splitW_blanks e r (fun x hx => hb x (by simp [hx]))]

/-- A word: at least one byte, no blank, no end of a line, no remark. -/
def WordOk (w : List UInt8) : Prop := w ≠ [] ∧ (∀ b ∈ w, b ≠ 32 ∧ b ≠ 10) ∧ w.headD 0 ≠ 35

theorem splitW_tail (sep : List UInt8) (hs : sep ≠ []) (hb : ∀ b ∈ sep, b = 32) : ∀ (ws : List (List UInt8)) (x : List UInt8), WordOk x → (∀ w ∈ ws, WordOk w) → splitW (Lib.joinTail sep ws) x = x :: ws
  | [], x, hx, _ => by simp [Lib.joinTail, splitW, hx.1]
  | y :: ws, x, hx, h => by
    have hy := h y (by simp)
    have e : Lib.joinTail sep (y :: ws) = sep ++ (y ++ Lib.joinTail sep ws) := by simp [Lib.joinTail]
    rw [e, splitW_end hx.1 hs hb, splitW_word y _ [] (fun b hb' => (hy.2.1 b hb').1), List.nil_append, splitW_tail sep hs hb ws y hy (fun w hw => h w (by simp [hw]))]

theorem splitW_join (sep : List UInt8) (hs : sep ≠ []) (hb : ∀ b ∈ sep, b = 32) (ws : List (List UInt8)) (h : ∀ w ∈ ws, WordOk w) : splitW (Lib.join ws sep) [] = ws := by
  cases ws with
  | nil => rfl
  | cons x ws =>
    rw [Lib.join_cons, splitW_word x _ [] (fun b hb' => ((h x (by simp)).2.1 b hb').1), List.nil_append, splitW_tail sep hs hb ws x (h x (by simp)) (fun w hw => h w (by simp [hw]))]

/-- What a line begins with is its first word's beginning. -/
theorem splitW_first : ∀ (t : List UInt8) (c : UInt8) (cur : List UInt8), ∃ w r, splitW t (c :: cur) = (c :: w) :: r
  | [], c, cur => ⟨cur, [], by simp [splitW]⟩
  | b :: t, c, cur => by
    rw [splitW]
    split
    · rw [if_neg (by simp)]; exact ⟨cur, _, rfl⟩
    · exact splitW_first t c (cur ++ [b])

/-! ### Lines -/

theorem indexByte_at : ∀ (l r : List UInt8), (∀ b ∈ l, b ≠ 10) → Lib.indexByte (l ++ 10 :: r) 10 = l.length
  | [], r, _ => rfl
  | b :: l, r, h => by
    have hb : (b == 10) = false := by simp [h b (by simp)]
    have ih := indexByte_at l r (fun x hx => h x (by simp [hx]))
    rw [List.cons_append, Lib.indexByte, hb, ih]
    have h0 : ((l.length : Int) == -1) = false := by simp
    rw [h0]
    simp

theorem indexByte_no : ∀ (l : List UInt8), (∀ b ∈ l, b ≠ 10) → Lib.indexByte l 10 = -1
  | [], _ => rfl
  | b :: l, h => by
    have hb : (b == 10) = false := by simp [h b (by simp)]
    rw [Lib.indexByte, hb, indexByte_no l (fun x hx => h x (by simp [hx]))]
    rfl

theorem linesP_line (l r : List UInt8) (h : ∀ b ∈ l, b ≠ 10) : linesP (mkB (l ++ 10 :: r)) = mkB l :: linesP (mkB r) := by
  have hn : nlAt (mkB (l ++ 10 :: r)) = l.length := by unfold nlAt; rw [mkB_list, indexByte_at l r h]
  have ha : cutA (mkB (l ++ 10 :: r)) = mkB l := by
    unfold cutA
    rw [hn, if_pos (by omega), ← mkB_data (ByteArray.extract _ _ _), extract_list, mkB_list]
    simp
  have hb : cutB (mkB (l ++ 10 :: r)) = mkB r := by
    unfold cutB
    rw [hn, if_pos (by omega), ← mkB_data (ByteArray.extract _ _ _), extract_list, mkB_list, mkB_size]
    congr 1
    rw [show ((l.length : Int).toNat + 1) = l.length + 1 by simp, List.drop_append, List.drop_of_length_le (by omega), List.nil_append, show l.length + 1 - l.length = 1 by omega, List.drop_succ_cons, List.drop_zero, List.take_of_length_le]
    rw [List.length_append, List.length_cons]
    omega
  rw [linesP_cons (by rw [mkB_size, List.length_append, List.length_cons]; omega), ha, hb]

theorem linesP_last (l : List UInt8) (h : ∀ b ∈ l, b ≠ 10) (h0 : l ≠ []) : linesP (mkB l) = [mkB l] := by
  have hn : nlAt (mkB l) = -1 := by unfold nlAt; rw [mkB_list, indexByte_no l h]
  have hp : 0 < l.length := List.length_pos_iff.2 h0
  rw [linesP_cons (by rw [mkB_size]; exact hp)]
  unfold cutA cutB
  rw [hn, if_neg (by omega), if_neg (by omega), linesP_nil rfl]

theorem linesP_mk0 : linesP (mkB []) = [] := linesP_nil rfl

/-- What the lines of a text say, those that say nothing left out. -/
def saysL (L : List ByteArray) : List (List ByteArray) := (L.map wordsP).filter (fun ws => !rSilent (ws, false))

theorem saysL_nil : saysL [] = [] := rfl
theorem saysL_silent {x : ByteArray} {L : List ByteArray} (h : rSilent (wordsP x, false) = true) : saysL (x :: L) = saysL L := by simp [saysL, h]
theorem saysL_says {x : ByteArray} {L : List ByteArray} (h : rSilent (wordsP x, false) = false) : saysL (x :: L) = wordsP x :: saysL L := by simp [saysL, h]

theorem rfK_nodes (W : Nd → List ByteArray) (nm : ByteArray) : ∀ (L : List ByteArray) (line : Nat) (ns0 ns : List Nd) (ls : List Nat), saysL L = ns.map W → (∀ n ∈ ns, rNode (W n, false) = (n, ([], false))) →
    ∃ ls', rfK L line true nm ns0 ls = (some (nm, ns0 ++ ns, ls'), 0)
  | [], line, ns0, ns, ls, h, _ => by
    cases ns with
    | nil => exact ⟨ls, by simp [rfK]⟩
    | cons n ns => simp [saysL_nil] at h
  | x :: L, line, ns0, ns, ls, h, hr => by
    by_cases hs : rSilent (wordsP x, false) = true
    · rw [saysL_silent hs] at h
      obtain ⟨ls', e⟩ := rfK_nodes W nm L (line + 1) ns0 ns ls h hr
      exact ⟨ls', by rw [rfK, if_pos hs, e]⟩
    · have hs' : rSilent (wordsP x, false) = false := by simpa using hs
      rw [saysL_says hs'] at h
      cases ns with
      | nil => simp at h
      | cons n ns =>
        simp only [List.map_cons, List.cons.injEq] at h
        have hn := hr n (by simp)
        obtain ⟨ls', e⟩ := rfK_nodes W nm L (line + 1) (ns0 ++ [n]) ns (ls ++ [line]) h.2 (fun y hy => hr y (by simp [hy]))
        refine ⟨ls', ?_⟩
        rw [rfK, if_neg hs, if_neg (by simp), h.1, hn]
        simp only [Bool.false_eq_true, if_false]
        rw [e, List.append_assoc]
        rfl

theorem rfK_head (W : Nd → List ByteArray) (nm : ByteArray) (hnm : nameP nm = true) : ∀ (L : List ByteArray) (line : Nat) (ns : List Nd), saysL L = [wfB, nm] :: ns.map W → (∀ n ∈ ns, rNode (W n, false) = (n, ([], false))) →
    ∃ ls', rfK L line false ⟨#[]⟩ [] [] = (some (nm, ns, ls'), 0)
  | [], line, ns, h, _ => by simp [saysL_nil] at h
  | x :: L, line, ns, h, hr => by
    by_cases hs : rSilent (wordsP x, false) = true
    · rw [saysL_silent hs] at h
      obtain ⟨ls', e⟩ := rfK_head W nm hnm L (line + 1) ns h hr
      exact ⟨ls', by rw [rfK, if_pos hs, e]⟩
    · have hs' : rSilent (wordsP x, false) = false := by simpa using hs
      rw [saysL_says hs'] at h
      simp only [List.cons.injEq] at h
      obtain ⟨ls', e⟩ := rfK_nodes W nm L (line + 1) [] ns [] h.2 hr
      have hh : rHead ([wfB, nm], false) = (nm, ([], false)) := by simp [rHead, rTake, rName, rWord, rEnd, hnm]
      refine ⟨ls', ?_⟩
      rw [rfK, if_neg hs, if_pos rfl, h.1, hh]
      simp only [Bool.false_eq_true, if_false]
      rw [e, List.nil_append]

theorem parse_of_says (W : Nd → List ByteArray) {t nm : ByteArray} {ns : List Nd} (hsz : t.size ≤ 16384) (h : saysL (linesP t) = [wfB, nm] :: ns.map W) (hc : (checkP nm ns).2 = 0) (hnm : nameP nm = true) (hr : ∀ n ∈ ns, rNode (W n, false) = (n, ([], false))) :
    parseP t = (some (nm, ns), 0, 0) := by
  unfold parseP
  rw [if_neg (by omega), rlP_fold]
  obtain ⟨ls', e⟩ := rfK_head W nm hnm (linesP t) 1 ns h hr
  rw [e]
  simp only [hc, if_true]

end Go.Proofs.YtlholgpenpfpbaaDoor
