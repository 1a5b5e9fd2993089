/-
  The document's words and Lines.
-/
import Derived.Test.YtlholgpenpfpbaaDoorDWordsP
import Derived.Test.YtlholgpenpfpbaaDoorDLines3
namespace Go.Proofs.YtlholgpenpfpbaaDoor
open Go.RowKit

theorem get_at {s : ByteArray} {i : Nat} (h : i < s.size) : s.get! i = s[i] := by
  obtain ⟨d⟩ := s
  exact getElem!_pos d i h

theorem byte_is {s : ByteArray} {i : Nat} (h : i < s.size) (c : UInt8) : (((s[i]).toNat : Int) == (c.toNat : Int)) = decide (s.get! i = c) := by
  rw [get_at h]
  by_cases e : s[i] = c
  · rw [e]; simp
  · have : ¬ ((s[i]).toNat : Int) = (c.toNat : Int) := fun h2 => e (UInt8.toNat_inj.1 (by omega))
    simp [e, this]

theorem byte_not {s : ByteArray} {i : Nat} (h : i < s.size) (c : UInt8) : (((s[i]).toNat : Int) != (c.toNat : Int)) = !decide (s.get! i = c) := by
  have := byte_is h c
  rw [bne, this]

/-- A word more is put behind the others. -/
theorem words_push {s : ByteArray} {L : List ByteArray} {i k : Nat} (h : L ++ wordsFrom s i = wordsP s) (hik : i < k) (hk : k ≤ s.size) (hw : ∀ j, i ≤ j → j < k → s.get! j ≠ 32) (he : k = s.size ∨ s.get! k = 32) : (L ++ [s.extract i k]) ++ wordsFrom s k = wordsP s := by
  rw [← h, wordsFrom_word hik hk hw he, List.append_assoc]
  rfl

set_option maxRecDepth 100000 in
set_option maxHeartbeats 4000000 in
theorem refWords_any (w : World) (s : ByteArray) (hs : s.size ≤ 100000) :
    Calls Tryd.prog 16 #[.string s] w fun e w' => ∃ a c, e = .returned (.slice a (wordsP s).length c) ∧ w'.ownsRow w.heap.size 9 1 (.slice a (wordsP s).length c) (wordsP s).length (strsV (wordsP s)) ∧ Kept (fun _ => False) w w' := by
  obtain ⟨j0, hj0, hy0, hy1, hy2⟩ := info_parts Tryd.info9
  have hwl := (words_ok s).1
  go_enter Tryd.func16, Tryd.ntmps16
  go_wp2_with fail
  go_loopw [4, 3] (fun q v wr => ∃ (i : Nat) (L : List ByteArray) (a : Option Addr) (c : Nat), i ≤ s.size ∧ q = .int .i64 i ∧ v = .slice a L.length c ∧ L ++ wordsFrom s i = wordsP s ∧ wr.ownsRow w.heap.size 9 1 (.slice a L.length c) L.length (strsV L) ∧ Kept (fun j => w.heap.size ≤ j) w wr) (fun q _ _ => s.size - (intOf q).toNat)
  case atStart => exact ⟨0, [], none, 0, Nat.zero_le _, rfl, rfl, by rw [words_from]; rfl, World.ownsRow_nil _ _ _ _, Kept.refl _ _⟩
  case round =>
    obtain ⟨i, L, a, c, hi, rfl, rfl, hL, O, K⟩ := hrel
    have HL : Hid (L ++ wordsFrom s i = wordsP s) := hL
    have HO : Hid (wr.ownsRow w.heap.size 9 1 (.slice a L.length c) L.length (strsV L)) := O
    have hLl : L.length ≤ 100000 := by have := congrArg List.length hL; rw [List.length_append] at this; omega
    clear hL O
    by_cases hlt : i < s.size
    · have e0 : (i : Int) < (s.size : Int) := by omega
      have hb := byte_is hlt 32
      have hb' : (((s[i]).toNat : Int) == 32) = decide (s.get! i = 32) := hb
      clear hb
      by_cases h32 : s.get! i = 32
      · simp only [h32, decide_true] at hb'
        have HX : Hid (L ++ wordsFrom s (i + 1) = wordsP s) := by show _ = _; rw [← wordsFrom_blank hlt h32]; exact HL.out
        generalize hm : L.length = m at *
        clear h32
        go_wp2_with fail
        go_roundw
        case rel => exact ⟨i + 1, L, a, c, by omega, by go_num, by rw [hm], HX.out, by rw [hm]; exact HO.out, K⟩
        case measure => simp [intOf]; omega
      · simp only [h32, decide_false] at hb'
        have H32 : Hid (s.get! i ≠ 32) := h32
        generalize hm : L.length = m at *
        obtain ⟨wo, hwo⟩ : ∃ wo, wo = wr := ⟨_, rfl⟩
        subst hwo
        clear h32
        go_wp2_with fail
        go_loopw [5] (fun q wr => ∃ (k : Nat), i ≤ k ∧ k ≤ s.size ∧ q = .int .i64 k ∧ (∀ j, i ≤ j → j < k → s.get! j ≠ 32) ∧ wr = wo) (fun q _ => s.size - (intOf q).toNat)
        case atStart => exact ⟨i, Nat.le_refl _, by omega, rfl, fun j h1 h2 => by omega, rfl⟩
        case round =>
          obtain ⟨k, hik, hk, rfl, hnb, hwq⟩ := hrel
          subst hwq
          have HNb : Hid (∀ j, i ≤ j → j < k → s.get! j ≠ 32) := hnb
          clear hnb hb'
          have fin : k = s.size ∨ s.get! k = 32 → i < k := fun h => by
            by_cases e : i = k
            · subst e
              rcases h with h | h
              · omega
              · exact absurd h H32.out
            · omega
          have HFin : Hid (k = s.size ∨ s.get! k = 32 → i < k) := fin
          have HC : Hid (∀ u ∈ [Value.string (s.extract i k)], u.oneCell' = true) := strsV_one [s.extract i k]
          have hzz := K.size
          clear fin
          by_cases hlk : k < s.size
          · have e1 : (k : Int) < (s.size : Int) := by omega
            have hn' : (((s[k]).toNat : Int) != 32) = !decide (s.get! k = 32) := byte_not hlk 32
            by_cases h32 : s.get! k = 32
            · simp only [h32, decide_true, Bool.not_true] at hn'
              have HX : Hid ((L ++ [s.extract i k]) ++ wordsFrom s k = wordsP s) := words_push HL.out (HFin.out (.inr h32)) hk HNb.out (.inr h32)
              have hik2 := HFin.out (.inr h32)
              have e2 : (i : Int) ≤ (k : Int) := by omega
              have e3 : (k : Int) ≤ (s.size : Int) := by omega
              clear h32
              go_wp2_with (first
                | (at_builtin; refine wpList_append_src _ rfl _ _ 22 rfl w.heap.size 9 j0 _ 1 16 Tryd.underlying22 hj0 hy0 hy1 hy2 rfl (by decide) (.slice a m c) m _ rfl (HO.out.alloc _) _ rfl 1 _ (.inl ⟨_, 1, rfl, rfl, World.news_of_block (heap_alloc_new _ _)⟩) HC.out (by unfold maxLen; omega) (by omega) (by simp; omega) ?_; intro a3 cap3 w7 ho3 hg3 _ hl3)
                | fail)
              have KG : Kept (fun g => w.heap.size ≤ g) (wr.alloc (.cells #[.string (s.extract i k)] 9)) w7 := Kept.grown hg3 (fun g e => (HO.out.lt g e).1)
              go_roundw
              case rel =>
                refine ⟨k, L ++ [s.extract i k], a3, cap3, hk, rfl, by simp [hm], HX.out, ?_, (K.and (Kept.alloc _ _ _)).and KG⟩
                rw [List.length_append, List.length_singleton, hm, show strsV (L ++ [s.extract i k]) = strsV L ++ [.string (s.extract i k)] by unfold strsV; simp]
                exact ho3
              case measure => simp [intOf]; omega
            · simp only [h32, decide_false, Bool.not_false] at hn'
              have HX : Hid (∀ j, i ≤ j → j < k + 1 → s.get! j ≠ 32) := fun j h1 h2 => by
                by_cases e : j = k
                · subst e; exact h32
                · exact HNb.out j h1 (by omega)
              clear h32
              go_wp2_with fail
              go_roundw
              case rel => exact ⟨k + 1, by omega, by omega, by go_num, HX.out, trivial⟩
              case measure => simp [intOf]; omega
          · obtain rfl : k = s.size := by omega
            have HX : Hid ((L ++ [s.extract i s.size]) ++ wordsFrom s s.size = wordsP s) := words_push HL.out hlt (Nat.le_refl _) HNb.out (.inl rfl)
            have e1 : ¬ (s.size : Int) < (s.size : Int) := by omega
            have e2 : (i : Int) ≤ (s.size : Int) := by omega
            have e3 : (s.size : Int) ≤ (s.size : Int) := by omega
            go_wp2_with (first
              | (at_builtin; refine wpList_append_src _ rfl _ _ 22 rfl w.heap.size 9 j0 _ 1 16 Tryd.underlying22 hj0 hy0 hy1 hy2 rfl (by decide) (.slice a m c) m _ rfl (HO.out.alloc _) _ rfl 1 _ (.inl ⟨_, 1, rfl, rfl, World.news_of_block (heap_alloc_new _ _)⟩) HC.out (by unfold maxLen; omega) (by omega) (by simp; omega) ?_; intro a3 cap3 w7 ho3 hg3 _ hl3)
              | fail)
            have KG : Kept (fun g => w.heap.size ≤ g) (wr.alloc (.cells #[.string (s.extract i s.size)] 9)) w7 := Kept.grown hg3 (fun g e => (HO.out.lt g e).1)
            go_roundw
            case rel =>
              refine ⟨s.size, L ++ [s.extract i s.size], a3, cap3, Nat.le_refl _, rfl, by simp [hm], HX.out, ?_, (K.and (Kept.alloc _ _ _)).and KG⟩
              rw [List.length_append, List.length_singleton, hm, show strsV (L ++ [s.extract i s.size]) = strsV L ++ [.string (s.extract i s.size)] by unfold strsV; simp]
              exact ho3
            case measure => simp [intOf]; omega
    · obtain rfl : i = s.size := by omega
      have hL := HL.out
      rw [wordsFrom_end s (Nat.le_refl _), List.append_nil] at hL
      have HLe : Hid (L = wordsP s) := hL
      have e0 : ¬ (s.size : Int) < (s.size : Int) := by omega
      clear hL
      generalize hm : L.length = m at *
      go_wp2_with fail
      go_ret
      subst hm
      have e := HLe.out
      subst e
      exact ⟨a, c, rfl, HO.out, (Kept.refl (fun _ => False) w).trans K (fun g h => .inr h)⟩

end Go.Proofs.YtlholgpenpfpbaaDoor
