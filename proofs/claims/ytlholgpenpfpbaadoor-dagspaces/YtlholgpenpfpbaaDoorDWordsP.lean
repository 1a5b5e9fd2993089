/-
  A line's words byte by byte; a text's lines. Nothing here speaks of a program.
-/
import Derived.Test.YtlholgpenpfpbaaDoorDLines2
import Derived.Lib.MapLaws
namespace Go.Proofs.YtlholgpenpfpbaaDoor
open Go.RowKit

/-- The words' places, byte by byte: d bytes are left. -/
def spB (s : ByteArray) : Nat → Nat → Option Nat → List (Nat × Nat) → List (Nat × Nat) × Option Nat
  | 0, _, st, acc => (acc, st)
  | d + 1, pos, st, acc =>
    if s.get! pos = 32 then
      (match st with
       | some a => spB s d (pos + 1) none (acc ++ [(a, pos)])
       | none => spB s d (pos + 1) none acc)
    else spB s d (pos + 1) (some (st.getD pos)) acc

theorem spB_succ (s : ByteArray) (d pos : Nat) (st : Option Nat) (acc : List (Nat × Nat)) : spB s (d + 1) pos st acc = if s.get! pos = 32 then (match st with
       | some a => spB s d (pos + 1) none (acc ++ [(a, pos)])
       | none => spB s d (pos + 1) none acc)
    else spB s d (pos + 1) (some (st.getD pos)) acc := rfl

theorem spF_succ (p : Nat → Bool) (s : ByteArray) (f pos : Nat) (st : Option Nat) (acc : List (Nat × Nat)) (h : pos < s.size) : Lib.spansFromP p s (f + 1) pos st acc = if p (Utf8.decode s pos).1 then
        (match st with
         | some a => Lib.spansFromP p s f (pos + (Utf8.decode s pos).2) none (acc ++ [(a, pos)])
         | none => Lib.spansFromP p s f (pos + (Utf8.decode s pos).2) none acc)
       else
        (match st with
         | some a => Lib.spansFromP p s f (pos + (Utf8.decode s pos).2) (some a) acc
         | none => Lib.spansFromP p s f (pos + (Utf8.decode s pos).2) (some pos) acc) := by
  exact if_pos h

theorem spB_acc (s : ByteArray) : ∀ (d pos : Nat) (st : Option Nat) (a0 acc : List (Nat × Nat)), spB s d pos st (a0 ++ acc) = (a0 ++ (spB s d pos st acc).1, (spB s d pos st acc).2)
  | 0, _, _, _, _ => rfl
  | d + 1, pos, st, a0, acc => by
    unfold spB
    split
    · cases st with
      | some a => simp only []; rw [List.append_assoc]; exact spB_acc s d _ _ _ _
      | none => exact spB_acc s d _ _ _ _
    · exact spB_acc s d _ _ _ _

theorem spB_skip (s : ByteArray) : ∀ (w d pos : Nat) (st : Option Nat) (acc : List (Nat × Nat)), 1 ≤ w → w ≤ d → (∀ j, j < w → s.get! (pos + j) ≠ 32) → spB s d pos st acc = spB s (d - w) (pos + w) (some (st.getD pos)) acc
  | 0, _, _, _, _, h, _, _ => by omega
  | w + 1, d, pos, st, acc, _, h2, h3 => by
    obtain ⟨d', rfl⟩ : ∃ d', d = d' + 1 := ⟨d - 1, by omega⟩
    have h0 := h3 0 (by omega)
    rw [Nat.add_zero] at h0
    rw [spB_succ, if_neg h0]
    by_cases hw : w = 0
    · subst hw; rfl
    · rw [spB_skip s w d' (pos + 1) _ acc (by omega) (by omega) (fun j hj => by have := h3 (j + 1) (by omega); rwa [show pos + (j + 1) = pos + 1 + j by omega] at this)]
      rw [show d' + 1 - (w + 1) = d' - w by omega, show pos + (w + 1) = pos + 1 + w by omega]
      rfl

theorem u8_ne {x : UInt8} (h : 128 ≤ x.toNat) : x ≠ 32 := fun e => by subst e; simp at h

theorem spans_bytes (s : ByteArray) : ∀ (n d f pos : Nat) (st : Option Nat) (acc : List (Nat × Nat)), d ≤ n → pos + d = s.size → d ≤ f → Lib.spansFromP (fun r => r == 32) s f pos st acc = spB s d pos st acc
  | n, 0, f, pos, st, acc, _, hp, _ => Lib.spansFromP_end _ _ _ _ _ _ (by omega)
  | 0, d + 1, _, _, _, _, hn, _, _ => by omega
  | n + 1, d + 1, f, pos, st, acc, hn, hp, hf => by
    obtain ⟨f', rfl⟩ : ∃ f', f = f' + 1 := ⟨f - 1, by omega⟩
    have hpos : pos < s.size := by omega
    rw [spF_succ _ _ _ _ _ _ hpos, Lib.decode_at]
    rcases Lib.decodeN_shape (s.size - pos) (s.get! pos).toNat (s.get! (pos + 1)).toNat (s.get! (pos + 2)).toNat (s.get! (pos + 3)).toNat with ⟨h0, e⟩ | ⟨h0, hN, h1, h2, e⟩ | ⟨h0, hN, h1, h2, h3, h4, e⟩ | ⟨h0, hN, h1, h2, h3, h4, h5, e⟩ | e
    · rw [e]
      simp only []
      rw [spB_succ]
      by_cases c : s.get! pos = 32
      · rw [if_pos c, c]
        simp only [show ((32 : UInt8).toNat == 32) = true from rfl, if_true]
        cases st with
        | some a => exact spans_bytes s n d f' (pos + 1) none _ (by omega) (by omega) (by omega)
        | none => exact spans_bytes s n d f' (pos + 1) none _ (by omega) (by omega) (by omega)
      · have c2 : ((s.get! pos).toNat == 32) = false := by
          rw [beq_eq_false_iff_ne]
          intro h
          exact c (UInt8.toNat_inj.1 h)
        rw [if_neg c, c2]
        simp only [Bool.false_eq_true, if_false]
        cases st with
        | some a => exact spans_bytes s n d f' (pos + 1) _ _ (by omega) (by omega) (by omega)
        | none => exact spans_bytes s n d f' (pos + 1) _ _ (by omega) (by omega) (by omega)
    · rw [e]
      simp only []
      have c2 : ((s.get! pos).toNat % 32 * 64 + (s.get! (pos + 1)).toNat % 64 == 32) = false := by rw [beq_eq_false_iff_ne]; omega
      rw [c2]
      simp only [Bool.false_eq_true, if_false]
      rw [spB_skip s 2 (d + 1) pos st acc (by omega) (by omega) (fun j hj => by
        match j, hj with
        | 0, _ => exact u8_ne (by rw [Nat.add_zero]; omega)
        | 1, _ => exact u8_ne (by omega))]
      cases st with
      | some a => exact spans_bytes s n (d + 1 - 2) f' (pos + 2) _ _ (by omega) (by omega) (by omega)
      | none => exact spans_bytes s n (d + 1 - 2) f' (pos + 2) _ _ (by omega) (by omega) (by omega)
    · rw [e]
      simp only []
      have c2 : ((s.get! pos).toNat % 16 * 4096 + (s.get! (pos + 1)).toNat % 64 * 64 + (s.get! (pos + 2)).toNat % 64 == 32) = false := by rw [beq_eq_false_iff_ne]; omega
      rw [c2]
      simp only [Bool.false_eq_true, if_false]
      rw [spB_skip s 3 (d + 1) pos st acc (by omega) (by omega) (fun j hj => by
        match j, hj with
        | 0, _ => exact u8_ne (by rw [Nat.add_zero]; omega)
        | 1, _ => exact u8_ne (by omega)
        | 2, _ => exact u8_ne (by omega))]
      cases st with
      | some a => exact spans_bytes s n (d + 1 - 3) f' (pos + 3) _ _ (by omega) (by omega) (by omega)
      | none => exact spans_bytes s n (d + 1 - 3) f' (pos + 3) _ _ (by omega) (by omega) (by omega)
    · rw [e]
      simp only []
      have c2 : ((s.get! pos).toNat % 8 * 262144 + (s.get! (pos + 1)).toNat % 64 * 4096 + (s.get! (pos + 2)).toNat % 64 * 64 + (s.get! (pos + 3)).toNat % 64 == 32) = false := by rw [beq_eq_false_iff_ne]; omega
      rw [c2]
      simp only [Bool.false_eq_true, if_false]
      rw [spB_skip s 4 (d + 1) pos st acc (by omega) (by omega) (fun j hj => by
        match j, hj with
        | 0, _ => exact u8_ne (by rw [Nat.add_zero]; omega)
        | 1, _ => exact u8_ne (by omega)
        | 2, _ => exact u8_ne (by omega)
        | 3, _ => exact u8_ne (by omega))]
      cases st with
      | some a => exact spans_bytes s n (d + 1 - 4) f' (pos + 4) _ _ (by omega) (by omega) (by omega)
      | none => exact spans_bytes s n (d + 1 - 4) f' (pos + 4) _ _ (by omega) (by omega) (by omega)
    · have hne : s.get! pos ≠ 32 := fun h => by
        rw [h] at e
        rw [Lib.decodeN, if_pos (by decide)] at e
        simp at e
      rw [e]
      simp only [show ((65533 : Nat) == 32) = false from rfl, Bool.false_eq_true, if_false]
      rw [spB_succ, if_neg hne]
      cases st with
      | some a => exact spans_bytes s n d f' (pos + 1) _ _ (by omega) (by omega) (by omega)
      | none => exact spans_bytes s n d f' (pos + 1) _ _ (by omega) (by omega) (by omega)

/-- The words from a place on. -/
def wordsFrom (s : ByteArray) (i : Nat) : List ByteArray := (Lib.closeSpans s (spB s (s.size - i) i none [])).map (fun x => s.extract x.1 x.2)

theorem words_from (s : ByteArray) : wordsP s = wordsFrom s 0 := by
  unfold wordsP Lib.goFieldsP Lib.spansOfP wordsFrom
  rw [spans_bytes s s.size s.size s.size 0 none [] (Nat.le_refl _) (by omega) (Nat.le_refl _), Nat.sub_zero]

theorem wordsFrom_end (s : ByteArray) {i : Nat} (h : s.size ≤ i) : wordsFrom s i = [] := by
  unfold wordsFrom
  rw [show s.size - i = 0 by omega]
  rfl

theorem wordsFrom_blank {s : ByteArray} {i : Nat} (h : i < s.size) (hb : s.get! i = 32) : wordsFrom s i = wordsFrom s (i + 1) := by
  unfold wordsFrom
  rw [show s.size - i = (s.size - (i + 1)) + 1 by omega, spB_succ, if_pos hb]

theorem close_acc (s : ByteArray) (x : Nat × Nat) (p : List (Nat × Nat) × Option Nat) : Lib.closeSpans s (x :: p.1, p.2) = x :: Lib.closeSpans s p := by
  unfold Lib.closeSpans
  cases p.2 <;> rfl

theorem wordsFrom_word {s : ByteArray} {i k : Nat} (hik : i < k) (hk : k ≤ s.size) (hw : ∀ j, i ≤ j → j < k → s.get! j ≠ 32) (he : k = s.size ∨ s.get! k = 32) : wordsFrom s i = s.extract i k :: wordsFrom s k := by
  have h1 := spB_skip s (k - i) (s.size - i) i none [] (by omega) (by omega) (fun j hj => hw _ (by omega) (by omega))
  rw [show i + (k - i) = k by omega, show s.size - i - (k - i) = s.size - k by omega] at h1
  rcases he with he | he
  · have h2 : wordsFrom s i = [s.extract i k] := by
      unfold wordsFrom
      rw [h1, show s.size - k = 0 by omega]
      show [s.extract i s.size] = _
      rw [he]
    rw [h2, wordsFrom_end s (by omega)]
  · by_cases hks : k < s.size
    · rw [wordsFrom_blank hks he]
      unfold wordsFrom
      rw [h1, show s.size - k = (s.size - (k + 1)) + 1 by omega, spB_succ, if_pos he]
      simp only [Option.getD_none, List.nil_append]
      have h3 := spB_acc s (s.size - (k + 1)) (k + 1) none [(i, k)] []
      rw [List.append_nil] at h3
      rw [h3, List.singleton_append, close_acc]
      rfl
    · have h2 : wordsFrom s i = [s.extract i k] := by
        unfold wordsFrom
        rw [h1, show s.size - k = 0 by omega]
        show [s.extract i s.size] = _
        rw [show k = s.size by omega]
      rw [h2, wordsFrom_end s (by omega)]

/-- A text's lines. -/
def linesK : Nat → ByteArray → List ByteArray
  | 0, _ => []
  | f + 1, s => if s.size = 0 then [] else cutA s :: linesK f (cutB s)

theorem linesK_more : ∀ (n f g : Nat) (s : ByteArray), s.size ≤ n → s.size < f → s.size < g → linesK f s = linesK g s
  | n, f, g, s, hn, hf, hg => by
    obtain ⟨f', rfl⟩ : ∃ f', f = f' + 1 := ⟨f - 1, by omega⟩
    obtain ⟨g', rfl⟩ : ∃ g', g = g' + 1 := ⟨g - 1, by omega⟩
    rw [linesK, linesK]
    split
    · rfl
    · rename_i h0
      have hc := cutB_size (t := s) (by omega)
      cases n with
      | zero => omega
      | succ n => rw [linesK_more n f' g' (cutB s) (by omega) (by omega) (by omega)]

def linesP (s : ByteArray) : List ByteArray := linesK (s.size + 1) s

theorem linesP_nil {s : ByteArray} (h : s.size = 0) : linesP s = [] := by unfold linesP; rw [linesK, if_pos h]
theorem linesP_cons {s : ByteArray} (h : 0 < s.size) : linesP s = cutA s :: linesP (cutB s) := by
  unfold linesP
  rw [linesK, if_neg (by omega)]
  have hc := cutB_size h
  rw [linesK_more (cutB s).size s.size ((cutB s).size + 1) (cutB s) (Nat.le_refl _) hc (by omega)]

end Go.Proofs.YtlholgpenpfpbaaDoor
