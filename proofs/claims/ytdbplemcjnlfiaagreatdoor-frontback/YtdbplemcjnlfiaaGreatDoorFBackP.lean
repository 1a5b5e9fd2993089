/-
  What Quote writes of a text is read as that text, as data. Nothing here speaks of a program.
-/
import Derived.Test.YtdbplemcjnlfiaaGreatDoorFEncD
import Derived.Test.YtdbplemcjnlfiaaGreatDoorFSpoP
import Derived.Test.YtdbplemcjnlfiaaGreatDoorFQuo
namespace Go.Proofs.YtdbplemcjnlfiaaGreatDoor
open Go.RowKit

/-- From i on the bytes l stand there, and then r. -/
def Lies (S : ByteArray) (i : Nat) (l : List UInt8) : Prop := ∀ k (h : k < l.length), S.data.toList[i + k]? = some (l[k]'h)

theorem Lies.head {S : ByteArray} {i : Nat} {c : UInt8} {l : List UInt8} (h : Lies S i (c :: l)) : S.data.toList[i]? = some c ∧ Lies S (i + 1) l := by
  refine ⟨h 0 (by simp), fun k hk => ?_⟩
  have := h (k + 1) (by simpa using hk)
  rw [show i + 1 + k = i + (k + 1) by omega, this]
  rfl

theorem Lies.parts {S : ByteArray} {i : Nat} {l r : List UInt8} (h : Lies S i (l ++ r)) : Lies S i l ∧ Lies S (i + l.length) r := by
  refine ⟨fun k hk => ?_, fun k hk => ?_⟩
  · have := h k (by rw [List.length_append]; omega)
    rw [this, List.getElem_append_left hk]
  · have := h (l.length + k) (by rw [List.length_append]; omega)
    rw [show i + l.length + k = i + (l.length + k) by omega, this, List.getElem_append_right (by omega)]
    simp

theorem lies_all (l : List UInt8) : Lies (mkB l) 0 l := fun k hk => by
  rw [mkB_list, Nat.zero_add, List.getElem?_eq_getElem hk]

theorem Lies.lt {S : ByteArray} {i : Nat} {l : List UInt8} (h : Lies S i l) : i + l.length ≤ S.size ∨ l = [] := by
  cases hl : l.length with
  | zero => exact .inr (List.length_eq_zero_iff.1 hl)
  | succ n =>
    have := h n (by omega)
    have h1 := (List.getElem?_eq_some_iff.1 this).1
    have h2 : S.data.toList.length = S.size := by simp
    exact .inl (by omega)

theorem stands_of {S : ByteArray} {i : Nat} {c : UInt8} (h : S.data.toList[i]? = some c) (d : UInt8) : standsP S i d = (c == d) := by
  unfold standsP
  rw [h]
  rfl

theorem char_esc {S : ByteArray} {i : Nat} {l : List UInt8} (h : Lies S i (92 :: l)) : charP S i = escP S i := by
  unfold charP
  rw [h.head.1]
  rfl

/-- Each byte that is escaped is read again. -/
theorem esc_back {S : ByteArray} {i : Nat} {c : UInt8} (hc : c.toNat < 32 ∨ c = 34 ∨ c = 92) (h : Lies S i (escd c)) : charP S i = ((c.toNat : Int), i + (escd c).length, true) := by
  have key : ∀ n : Fin 256, (n.1 < 32 ∨ n.1 = 34 ∨ n.1 = 92) → ∃ l, escd (UInt8.ofNat n.1) = 92 :: l ∧ (l = [98] ∧ n.1 = 8 ∨ l = [102] ∧ n.1 = 12 ∨ l = [110] ∧ n.1 = 10 ∨ l = [114] ∧ n.1 = 13 ∨ l = [116] ∧ n.1 = 9 ∨ l = [34] ∧ n.1 = 34 ∨ l = [92] ∧ n.1 = 92 ∨ ∃ x y, l = [117, 48, 48, x, y] ∧ hexD x = (n.1 / 16 : Nat) ∧ hexD y = (n.1 % 16 : Nat)) := by
    intro n hn
    have : ∀ n : Fin 256, (n.1 < 32 ∨ n.1 = 34 ∨ n.1 = 92) → (escd (UInt8.ofNat n.1) = [92, 98] ∧ n.1 = 8 ∨ escd (UInt8.ofNat n.1) = [92, 102] ∧ n.1 = 12 ∨ escd (UInt8.ofNat n.1) = [92, 110] ∧ n.1 = 10 ∨ escd (UInt8.ofNat n.1) = [92, 114] ∧ n.1 = 13 ∨ escd (UInt8.ofNat n.1) = [92, 116] ∧ n.1 = 9 ∨ escd (UInt8.ofNat n.1) = [92, 34] ∧ n.1 = 34 ∨ escd (UInt8.ofNat n.1) = [92, 92] ∧ n.1 = 92 ∨ (escd (UInt8.ofNat n.1) = [92, 117, 48, 48, hexC (n.1 / 16), hexC (n.1 % 16)] ∧ hexD (hexC (n.1 / 16)) = (n.1 / 16 : Nat) ∧ hexD (hexC (n.1 % 16)) = (n.1 % 16 : Nat))) := by decide +kernel
    rcases this n hn with ⟨e, h⟩ | ⟨e, h⟩ | ⟨e, h⟩ | ⟨e, h⟩ | ⟨e, h⟩ | ⟨e, h⟩ | ⟨e, h⟩ | ⟨e, h1, h2⟩
    · exact ⟨_, e, .inl ⟨rfl, h⟩⟩
    · exact ⟨_, e, .inr (.inl ⟨rfl, h⟩)⟩
    · exact ⟨_, e, .inr (.inr (.inl ⟨rfl, h⟩))⟩
    · exact ⟨_, e, .inr (.inr (.inr (.inl ⟨rfl, h⟩)))⟩
    · exact ⟨_, e, .inr (.inr (.inr (.inr (.inl ⟨rfl, h⟩))))⟩
    · exact ⟨_, e, .inr (.inr (.inr (.inr (.inr (.inl ⟨rfl, h⟩)))))⟩
    · exact ⟨_, e, .inr (.inr (.inr (.inr (.inr (.inr (.inl ⟨rfl, h⟩))))))⟩
    · exact ⟨_, e, .inr (.inr (.inr (.inr (.inr (.inr (.inr ⟨_, _, rfl, h1, h2⟩))))))⟩
  have hk := key ⟨c.toNat, c.toNat_lt⟩ (by
    rcases hc with h | h | h
    · exact .inl h
    · subst h; exact .inr (.inl rfl)
    · subst h; exact .inr (.inr rfl))
  simp only [UInt8.ofNat_toNat] at hk
  obtain ⟨l, e, hl⟩ := hk
  rw [e] at h ⊢
  rw [char_esc h]
  have h1 := h.head.2
  have hlen : (92 :: l).length = l.length + 1 := rfl
  rw [hlen]
  unfold escP
  rcases hl with ⟨rfl, hn⟩ | ⟨rfl, hn⟩ | ⟨rfl, hn⟩ | ⟨rfl, hn⟩ | ⟨rfl, hn⟩ | ⟨rfl, hn⟩ | ⟨rfl, hn⟩ | ⟨x, y, rfl, hx, hy⟩
  all_goals try (rw [h1.head.1, hn]; rfl)
  rw [h1.head.1]
  have h2 := h1.head.2
  have h3 := h2.head.2
  have h4 := h3.head.2
  have h5 := h4.head.2
  show hexF S i 4 (i + 2) 0 = _
  have z0 : hexD 48 = 0 := by decide
  have b0 : c.toNat / 16 < 16 := by have := c.toNat_lt; omega
  have nx : ¬ hexD x < 0 := by rw [hx]; omega
  have ny : ¬ hexD y < 0 := by rw [hy]; omega
  unfold hexF
  rw [show i + 2 = i + 1 + 1 by omega, h2.head.1]
  simp only [z0]
  rw [if_neg (by decide)]
  unfold hexF
  rw [h3.head.1]
  simp only [z0]
  rw [if_neg (by decide)]
  unfold hexF
  rw [h4.head.1]
  simp only
  rw [if_neg nx]
  unfold hexF
  rw [h5.head.1]
  simp only
  rw [if_neg ny]
  unfold hexF
  rw [hx, hy]
  have hv : ((0 * 16 + 0) * 16 + 0) * 16 + ((c.toNat / 16 : Nat) : Int) = ((c.toNat / 16 : Nat) : Int) := by omega
  have e2 : (((0 * 16 + 0) * 16 + 0) * 16 + ((c.toNat / 16 : Nat) : Int)) * 16 + ((c.toNat % 16 : Nat) : Int) = (c.toNat : Int) := by omega
  rw [e2, if_pos (by
    unfold Lib.validRune
    have := c.toNat_lt
    rw [decide_eq_true (by omega)])]
  simp only [List.length_cons, List.length_nil]

theorem decodeN_at {m m' b0 b1 b2 b3 c1 c2 c3 : Nat} (h : ¬ ((Lib.decodeN m b0 b1 b2 b3).1 = 65533 ∧ (Lib.decodeN m b0 b1 b2 b3).2 = 1)) (hm : (Lib.decodeN m b0 b1 b2 b3).2 ≤ m') (h1 : 1 < (Lib.decodeN m b0 b1 b2 b3).2 → c1 = b1) (h2 : 2 < (Lib.decodeN m b0 b1 b2 b3).2 → c2 = b2) (h3 : 3 < (Lib.decodeN m b0 b1 b2 b3).2 → c3 = b3) : Lib.decodeN m' b0 c1 c2 c3 = Lib.decodeN m b0 b1 b2 b3 := by
  unfold Lib.decodeN at h hm h1 h2 h3 ⊢
  by_cases a0 : b0 < 128
  · rw [if_pos a0, if_pos a0]
  rw [if_neg a0] at h hm h1 h2 h3
  rw [if_neg a0, if_neg a0]
  by_cases a1 : b0 / 32 = 6 ∧ (1 < m ∧ b1 / 64 = 2)
  · rw [if_pos a1] at h hm h1 h2 h3
    by_cases v : b0 % 32 * 64 + b1 % 64 ≥ 128
    · rw [if_pos v] at hm h1
      have e1 := h1 (show (1 : Nat) < 2 by decide)
      subst e1
      rw [if_pos a1, if_pos ⟨a1.1, hm, a1.2.2⟩]
    · rw [if_neg v] at h; exact absurd ⟨rfl, rfl⟩ h
  rw [if_neg a1] at h hm h1 h2 h3
  rw [if_neg a1]
  by_cases a2 : b0 / 16 = 14 ∧ (1 < m ∧ b1 / 64 = 2) ∧ (2 < m ∧ b2 / 64 = 2)
  · rw [if_pos a2] at h hm h1 h2 h3
    by_cases v : b0 % 16 * 4096 + b1 % 64 * 64 + b2 % 64 ≥ 2048 ∧ (b0 % 16 * 4096 + b1 % 64 * 64 + b2 % 64 < 55296 ∨ (57344 ≤ b0 % 16 * 4096 + b1 % 64 * 64 + b2 % 64 ∧ b0 % 16 * 4096 + b1 % 64 * 64 + b2 % 64 ≤ 1114111))
    · rw [if_pos v] at hm h1 h2
      have e1 := h1 (show (1 : Nat) < 3 by decide)
      have e2 := h2 (show (2 : Nat) < 3 by decide)
      have hm' : 3 ≤ m' := hm
      subst e1 e2
      rw [if_neg (by omega), if_pos a2, if_pos ⟨a2.1, ⟨by omega, a2.2.1.2⟩, by omega, a2.2.2.2⟩]
    · rw [if_neg v] at h; exact absurd ⟨rfl, rfl⟩ h
  rw [if_neg a2] at h hm h1 h2 h3
  rw [if_neg a2]
  by_cases a3 : b0 / 8 = 30 ∧ (1 < m ∧ b1 / 64 = 2) ∧ (2 < m ∧ b2 / 64 = 2) ∧ (3 < m ∧ b3 / 64 = 2)
  · rw [if_pos a3] at h hm h1 h2 h3
    by_cases v : b0 % 8 * 262144 + b1 % 64 * 4096 + b2 % 64 * 64 + b3 % 64 ≥ 65536 ∧ (b0 % 8 * 262144 + b1 % 64 * 4096 + b2 % 64 * 64 + b3 % 64 < 55296 ∨ (57344 ≤ b0 % 8 * 262144 + b1 % 64 * 4096 + b2 % 64 * 64 + b3 % 64 ∧ b0 % 8 * 262144 + b1 % 64 * 4096 + b2 % 64 * 64 + b3 % 64 ≤ 1114111))
    · rw [if_pos v] at hm h1 h2 h3
      have e1 := h1 (show (1 : Nat) < 4 by decide)
      have e2 := h2 (show (2 : Nat) < 4 by decide)
      have e3 := h3 (show (3 : Nat) < 4 by decide)
      have hm' : 4 ≤ m' := hm
      subst e1 e2 e3
      rw [if_neg (by omega), if_neg (by omega), if_pos a3, if_pos ⟨a3.1, ⟨by omega, a3.2.1.2⟩, ⟨by omega, a3.2.2.1.2⟩, by omega, a3.2.2.2.2⟩]
    · rw [if_neg v] at h; exact absurd ⟨rfl, rfl⟩ h
  rw [if_neg a3] at h
  exact absurd ⟨rfl, rfl⟩ h

theorem get!_some {S : ByteArray} {i : Nat} {b : UInt8} (h : S.data.toList[i]? = some b) : S.get! i = b := by
  have hlt : i < S.size := by
    have := (List.getElem?_eq_some_iff.1 h).1
    simpa using this
  rw [Utf8W.get!_of_lt S i hlt]
  rw [get_lt S hlt] at h
  exact Option.some.inj h

/-- A character that stands in s at p stands in S at i. -/
theorem raw_dec {s S : ByteArray} {p i : Nat} (hp : p < s.size) (hb : ¬ ((Utf8.decode s p).1 = 65533 ∧ (Utf8.decode s p).2 = 1)) (h : Lies S i (s.extract p (p + (Utf8.decode s p).2)).data.toList) : Utf8.decode S i = Utf8.decode s p ∧ S.data.toList[i]? = some (s[p]'hp) ∧ i + (Utf8.decode s p).2 ≤ S.size := by
  have hl := dec_le s hp
  have hd := dec_pos s hp
  have hlen : (s.extract p (p + (Utf8.decode s p).2)).data.toList.length = (Utf8.decode s p).2 := by
    have : (s.extract p (p + (Utf8.decode s p).2)).data.toList.length = (s.extract p (p + (Utf8.decode s p).2)).size := Array.length_toList
    rw [this, ByteArray.size_extract]
    omega
  have hat : ∀ k, k < (Utf8.decode s p).2 → S.data.toList[i + k]? = s.data.toList[p + k]? := fun k hk => by
    rw [h k (by omega), ← List.getElem?_eq_getElem, ← sub_extract s p (p + (Utf8.decode s p).2)]
    show (subL s p (p + (Utf8.decode s p).2))[k]? = s.data.toList[p + k]?
    unfold subL
    rw [List.getElem?_take, if_pos (by omega), List.getElem?_drop]
  have hg : ∀ k, k < (Utf8.decode s p).2 → S.get! (i + k) = s.get! (p + k) := fun k hk => by
    have h1 := hat k hk
    rw [get_lt s (show p + k < s.size by omega)] at h1
    rw [get!_some h1, Utf8W.get!_of_lt s (p + k) (by omega)]
  have h0 := hat 0 (by omega)
  have hsz : i + (Utf8.decode s p).2 ≤ S.size := by
    rcases h.lt with h1 | h1
    · omega
    · rw [h1] at hlen; simp at hlen; omega
  refine ⟨?_, ?_, hsz⟩
  · have hb' := hb
    have g0 := hg 0 (by omega)
    rw [Nat.add_zero, Nat.add_zero] at g0
    have g1 := hg 1
    have g2 := hg 2
    have g3 := hg 3
    rw [Lib.decode_at] at hb' g1 g2 g3
    rw [Lib.decode_at S i, Lib.decode_at s p, g0]
    rw [Lib.decode_at s p] at hsz
    exact decodeN_at hb' (by omega) (fun h => by rw [g1 h]) (fun h => by rw [g2 h]) (fun h => by rw [g3 h])
  · rw [Nat.add_zero, Nat.add_zero, get_lt s hp] at h0
    exact h0

/-- What stands in the middle of a character is great. -/
theorem dec_first {s : ByteArray} {p : Nat} (hp : p < s.size) (hb : ¬ ((Utf8.decode s p).1 = 65533 ∧ (Utf8.decode s p).2 = 1)) (h : ¬ ((Utf8.decode s p).1 < 32 ∨ (Utf8.decode s p).1 = 34 ∨ (Utf8.decode s p).1 = 92)) : 32 ≤ (s[p]'hp).toNat ∧ (s[p]'hp).toNat ≠ 34 ∧ (s[p]'hp).toNat ≠ 92 := by
  by_cases hs : (Utf8.decode s p).1 < 128
  · have h1 := dec_small hp hs hb
    omega
  · have : 128 ≤ (s[p]'hp).toNat := by
      rcases Nat.lt_or_ge (s[p]'hp).toNat 128 with h1 | h1
      · rw [decode_ascii s p hp h1] at hs
        exact absurd h1 hs
      · exact h1
    omega

/-- Behind p all is UTF-8. -/
def okF (s : ByteArray) : Nat → Nat → Prop
  | 0, _ => True
  | n + 1, p => p < s.size → ¬ ((Utf8.decode s p).1 = 65533 ∧ (Utf8.decode s p).2 = 1) ∧ okF s n (p + (Utf8.decode s p).2)

theorem text_back (s S : ByteArray) : ∀ (n p i m : Nat) (acc : List UInt8), s.size ≤ p + n → p ≤ s.size → okF s n p → Lies S i (quoteF s n p ++ [34]) → (quoteF s n p).length + 1 ≤ m → textF S m i acc = (acc ++ s.data.toList.drop p, i + (quoteF s n p).length + 1, true)
  | n, p, i, 0, acc, _, _, _, _, hm => by omega
  | n, p, i, m + 1, acc, hn, hp, hok, hL, hm => by
    by_cases hlt : p < s.size
    · cases n with
      | zero => omega
      | succ n =>
        rw [quoteF_more hlt, List.append_assoc] at hL
        rw [quoteF_more hlt] at hm ⊢
        obtain ⟨hb, hok'⟩ := hok hlt
        obtain ⟨hL1, hL2⟩ := hL.parts
        have hdp := dec_pos s hlt
        have hdl := dec_le s hlt
        have hdrop : acc ++ s.data.toList.drop p = (acc ++ (s.extract p (p + (Utf8.decode s p).2)).data.toList) ++ s.data.toList.drop (p + (Utf8.decode s p).2) := by
          rw [← sub_extract s p (p + (Utf8.decode s p).2)]
          have h7 := List.take_append_drop (Utf8.decode s p).2 (s.data.toList.drop p)
          rw [List.drop_drop] at h7
          show _ = (acc ++ subL s p (p + (Utf8.decode s p).2)) ++ _
          unfold subL
          rw [show p + (Utf8.decode s p).2 - p = (Utf8.decode s p).2 by omega, List.append_assoc, h7]
        have he := enc_dec hlt hb
        have hstep : standsP S i 34 = false ∧ charP S i = (((Utf8.decode s p).1 : Int), i + (pieceP s p).length, true) ∧ 1 ≤ (pieceP s p).length := by
          unfold pieceP at hL1 ⊢
          rw [if_neg hb] at hL1 ⊢
          by_cases hc : (Utf8.decode s p).1 < 32 ∨ (Utf8.decode s p).1 = 34 ∨ (Utf8.decode s p).1 = 92
          · rw [if_pos hc] at hL1 ⊢
            have h1 := dec_small hlt (by omega) hb
            have hg : s.data.toList.getD p 0 = s[p]'hlt := by rw [List.getD, get_lt s hlt]; rfl
            rw [hg] at hL1 ⊢
            have hc' : (s[p]'hlt).toNat < 32 ∨ (s[p]'hlt) = 34 ∨ (s[p]'hlt) = 92 := by
              rcases hc with h | h | h
              · exact .inl (by omega)
              · exact .inr (.inl (UInt8.toNat_inj.1 (by have h2 : (34 : UInt8).toNat = 34 := rfl; omega)))
              · exact .inr (.inr (UInt8.toNat_inj.1 (by have h2 : (92 : UInt8).toNat = 92 := rfl; omega)))
            have hb2 := esc_back hc' hL1
            rw [hb2, h1.2]
            have hne : ∃ l, escd (s[p]'hlt) = 92 :: l := by
              unfold escd
              repeat' split
              all_goals exact ⟨_, rfl⟩
            obtain ⟨l, hl⟩ := hne
            rw [hl] at hL1
            refine ⟨?_, rfl, by rw [hl]; simp⟩
            rw [stands_of hL1.head.1]
            rfl
          · rw [if_neg hc] at hL1 ⊢
            obtain ⟨r1, r2, r3⟩ := raw_dec hlt hb hL1
            have hf := dec_first hlt hb hc
            have hlen : (s.extract p (p + (Utf8.decode s p).2)).data.toList.length = (Utf8.decode s p).2 := by
              have : (s.extract p (p + (Utf8.decode s p).2)).data.toList.length = (s.extract p (p + (Utf8.decode s p).2)).size := Array.length_toList
              rw [this, ByteArray.size_extract]
              omega
            rw [hlen]
            refine ⟨?_, ?_, hdp⟩
            · rw [stands_of r2, beq_eq_false_iff_ne]
              intro e
              rw [e] at hf
              exact hf.2.1 rfl
            · unfold charP
              rw [r2]
              simp only
              rw [if_neg (by omega), if_neg (fun e => by rw [e] at hf; exact hf.2.2 rfl), r1, if_neg hb]
        unfold textF
        rw [if_neg (by rw [hstep.1]; decide), hstep.2.1]
        simp only [if_true]
        rw [he, hdrop, List.length_append]
        rw [List.length_append] at hm
        have := text_back s S n (p + (Utf8.decode s p).2) (i + (pieceP s p).length) m (acc ++ (s.extract p (p + (Utf8.decode s p).2)).data.toList) (by omega) hdl.1 hok' hL2 (by have := hstep.2.2; omega)
        rw [this, show i + (pieceP s p).length + (quoteF s n (p + (Utf8.decode s p).2)).length + 1 = i + ((pieceP s p).length + (quoteF s n (p + (Utf8.decode s p).2)).length) + 1 by omega]
    · have hq : quoteF s n p = [] := quoteF_end hlt
      rw [hq] at hL ⊢
      unfold textF
      rw [if_pos (by rw [stands_of hL.head.1]; rfl), List.drop_of_length_le (by simpa using hlt), List.append_nil]
      rfl

/-- What Quote writes is read as the text. -/
theorem quote_back (s S : ByteArray) (i : Nat) (hok : okF s (s.size + 1) 0) (h : Lies S i (quoteP s)) : textP S i = (s.data.toList, i + (quoteP s).length, true) := by
  unfold quoteP at h ⊢
  have h1 := h.head
  have hl : i + (34 :: (quoteF s (s.size + 1) 0 ++ [34])).length ≤ S.size := by
    rcases h.lt with h2 | h2
    · exact h2
    · cases h2
  simp only [List.length_cons, List.length_append, List.length_nil] at hl ⊢
  unfold textP
  rw [if_pos (by rw [stands_of h1.1]; rfl), text_back s S (s.size + 1) 0 (i + 1) (S.size + 1 - (i + 1)) [] (by omega) (Nat.zero_le _) hok h1.2 (by omega)]
  simp only [List.nil_append, List.drop_zero]
  congr 2
  omega

end Go.Proofs.YtdbplemcjnlfiaaGreatDoor
