/-
  Quote, walked.
-/
import Derived.Test.YtdbplemcjnlfiaaGreatDoorFQuo
namespace Go.Proofs.YtdbplemcjnlfiaaGreatDoor
open Go.RowKit

theorem tail_size (s : ByteArray) (i : Nat) (h : i ≤ s.size) : (s.extract i s.size).size = s.size - i := by rw [ByteArray.size_extract]; omega

theorem tail_tail (s : ByteArray) (i k : Nat) : (s.extract i s.size).extract k (s.extract i s.size).size = s.extract (i + k) s.size := by
  rw [ByteArray.extract_extract, ByteArray.size_extract]
  congr 1
  omega

theorem tail_head (s : ByteArray) (i k : Nat) (h : i + k ≤ s.size) : (s.extract i s.size).extract 0 k = s.extract i (i + k) := by
  rw [ByteArray.extract_extract]
  congr 1
  omega

theorem tail_get (s : ByteArray) (i : Nat) (h : i < s.size) (h2 : 0 < (s.extract i s.size).size) : (s.extract i s.size)[0]'h2 = s[i]'h := by
  rw [ByteArray.getElem_extract]
  rfl

theorem getD_at (s : ByteArray) (i : Nat) (h : i < s.size) : s.data.toList.getD i 0 = s[i]'h := by
  rw [List.getD, get_lt s h]
  rfl

set_option maxRecDepth 100000 in
set_option maxHeartbeats 2000000 in
theorem quote_any (w : World) (s : ByteArray) (hs : s.size ≤ 1000000000000) (T : Utf8At w) :
    Calls Tryz.prog 7 #[.string s] w fun e w' => e = .returned (.string (mkB (quoteP s))) ∧ Kept (fun _ => False) w w' := by
  have HT := hid T
  have HB : Hid (BSt w (w.alloc (.cells #[.pointer none, .slice none 0 0] 49)) w.heap.size []) := BSt.begun w
  have hW0 := writeByte_any HB.out 34 (by simp)
  change Calls Tryz.prog 16 #[_, .int .u8 34] _ _ at hW0
  clear T
  go_enter Tryz.func7, Tryz.ntmps7
  go_wp2_with (first
    | (go_at_call 16; refine hW0.mono ?_; rintro e w1 ⟨rfl, S1⟩; clear hW0)
    | fail)
  go_loopw [0, 4, 5] (fun v _ _ wr => ∃ (i n : Nat) (q acc : _), i ≤ s.size ∧ s.size ≤ i + n ∧ v = .string q ∧ q = s.extract i s.size ∧ acc.length ≤ 1 + 6 * i ∧ BSt w wr w.heap.size acc ∧ acc ++ quoteF s n i = 34 :: quoteF s (s.size + 1) 0) (fun v _ _ _ => Lib.strSize v)
  case atStart => exact ⟨0, s.size + 1, s, [34], by omega, by omega, rfl, (by rw [show s.extract 0 s.size = s from ByteArray.extract_zero_size]), by simp, S1, rfl⟩
  case round =>
    clear S1
    obtain ⟨i, n, q, acc, hi, hn, rfl, hq, hacc, S, hF⟩ := hrel
    have HF : Hid (acc ++ quoteF s n i = 34 :: quoteF s (s.size + 1) 0) := hF
    have HS := hid S
    have HQ := hid hq
    have hqs : q.size = s.size - i := by rw [hq]; exact tail_size s i hi
    clear hF
    by_cases hlt : i < s.size
    · obtain ⟨m, rfl⟩ : ∃ m, n = m + 1 := ⟨n - 1, by omega⟩
      have hD := Any.utf8_DecodeRuneInString Tryz.decodeL (s.extract i s.size) wr (HT.out.kept S.kept)
      rw [go_tail s i hlt, ← hq] at hD
      change Calls Tryz.prog 17 _ _ _ at hD
      have hp := dec_pos s hlt
      obtain ⟨hl1, hl2⟩ := dec_le s hlt
      have HM : Hid (quoteF s (m + 1) i = pieceP s i ++ quoteF s m (i + (Utf8.decode s i).2)) := quoteF_more hlt
      have hpl := piece_len s i hlt
      have HT1 : Hid (q.extract (Utf8.decode s i).2 q.size = s.extract (i + (Utf8.decode s i).2) s.size) := by
        show q.extract _ q.size = _
        rw [hq]
        exact tail_tail s i _
      have e0 : (0 : Int) < (q.size : Int) := by omega
      have e1 : (((Utf8.decode s i).2 : Nat) : Int) ≤ (q.size : Int) := by omega
      have HQS := hid hqs
      have hq0 : 0 < q.size := by omega
      have hix := ix_str q hq0
      have hg0 : q[0]'hq0 = s[i]'hlt := by subst hq; exact tail_get s i hlt hq0
      rw [hg0] at hix
      change ∀ W, (Instr.index 9 (.string q) (.int .i64 0)).run Tryz.prog W = _ at hix
      clear hqs hg0
      by_cases hb : (Utf8.decode s i).1 = 65533 ∧ (Utf8.decode s i).2 = 1
      · have HP : Hid (pieceP s i = [92, 117, 102, 102, 102, 100]) := by
          show pieceP s i = _
          unfold pieceP
          rw [if_pos hb]
        obtain ⟨hb1, hb2⟩ := hb
        rw [hb1, hb2] at hD
        rw [hb2] at e1
        have HZ := hid hb2
        clear hb1 hb2 hq S hpl
        go_wp2_with (first
          | (go_at_call 17; refine hD.mono ?_; rintro e w2 ⟨rfl, K2⟩; clear hD; have hW := write_any (HS.out.call (below_kept K2)) ⟨#[92, 117, 102, 102, 102, 100]⟩ (by show _ + 6 ≤ _; omega); clear K2)
          | (go_at_call 18; refine hW.mono ?_; rintro e w3 ⟨rfl, S3⟩; clear hW)
          | fail)
        go_roundw
        case rel =>
          refine ⟨i + 1, m, _, acc ++ [92, 117, 102, 102, 102, 100], by omega, by omega, rfl, ?_, by rw [List.length_append]; simp; omega, S3, ?_⟩
          · have := HT1.out; rw [HZ.out] at this; exact this
          · rw [← HF.out, HM.out, HP.out, HZ.out, List.append_assoc]
        case measure => simp [Lib.strSize, ByteArray.size_extract]; omega
      · by_cases hsm : (Utf8.decode s i).1 < 32 ∨ (Utf8.decode s i).1 = 34 ∨ (Utf8.decode s i).1 = 92
        · obtain ⟨hz, hc⟩ := dec_small hlt (by omega) hb
          have HP : Hid (pieceP s i = escd (s[i]'hlt)) := by
            show pieceP s i = _
            unfold pieceP
            rw [if_neg hb, if_pos hsm, getD_at s i hlt]
          have hE := fun W => escaped_any W (s[i]'hlt) (by
            rcases hsm with h | h | h
            · left; omega
            · right; left; exact UInt8.toNat_inj.1 (by rw [hc, h]; rfl)
            · right; right; exact UInt8.toNat_inj.1 (by rw [hc, h]; rfl))
          have HZ := hid hz
          rw [hz] at hD e1
          generalize (((s[i]'hlt).toNat : Nat) : Int) = cc at *
          generalize (Utf8.decode s i).1 = r at *
          clear hb hc hz hq S hpl
          rcases hsm with h | h | h
          · have f1 : ((r : Int) == 65533) = false := by rw [beq_eq_false_iff_ne]; omega
            have f2 : (r : Int) < 32 := by omega
            go_wp2_with (first
              | (go_at_call 17; refine hD.mono ?_; rintro e w2 ⟨rfl, K2⟩; clear hD; have HS2 := hid (HS.out.call (below_kept K2)); clear K2)
              | (go_at_call 19; refine (hE _).mono ?_; rintro e w3 ⟨rfl, K3⟩; clear hE; have hW := write_any (HS2.out.call K3) (mkB (escd (s[i]'hlt))) (by rw [mkB_size]; have := escd_len (s[i]'hlt); omega); clear HS2 K3)
              | (go_at_call 18; refine hW.mono ?_; rintro e w4 ⟨rfl, S4⟩; clear hW)
              | fail)
            go_roundw
            case rel =>
              refine ⟨i + 1, m, _, acc ++ escd (s[i]'hlt), by omega, by omega, rfl, ?_, by rw [List.length_append]; have := escd_len (s[i]'hlt); omega, S4, ?_⟩
              · have := HT1.out; rw [HZ.out] at this; exact this
              · rw [← HF.out, HM.out, HP.out, HZ.out, List.append_assoc]
            case measure => simp [Lib.strSize, ByteArray.size_extract]; omega
          · subst h
            go_wp2_with (first
              | (go_at_call 17; refine hD.mono ?_; rintro e w2 ⟨rfl, K2⟩; clear hD; have HS2 := hid (HS.out.call (below_kept K2)); clear K2)
              | (go_at_call 19; refine (hE _).mono ?_; rintro e w3 ⟨rfl, K3⟩; clear hE; have hW := write_any (HS2.out.call K3) (mkB (escd (s[i]'hlt))) (by rw [mkB_size]; have := escd_len (s[i]'hlt); omega); clear HS2 K3)
              | (go_at_call 18; refine hW.mono ?_; rintro e w4 ⟨rfl, S4⟩; clear hW)
              | fail)
            go_roundw
            case rel =>
              refine ⟨i + 1, m, _, acc ++ escd (s[i]'hlt), by omega, by omega, rfl, ?_, by rw [List.length_append]; have := escd_len (s[i]'hlt); omega, S4, ?_⟩
              · have := HT1.out; rw [HZ.out] at this; exact this
              · rw [← HF.out, HM.out, HP.out, HZ.out, List.append_assoc]
            case measure => simp [Lib.strSize, ByteArray.size_extract]; omega
          · subst h
            go_wp2_with (first
              | (go_at_call 17; refine hD.mono ?_; rintro e w2 ⟨rfl, K2⟩; clear hD; have HS2 := hid (HS.out.call (below_kept K2)); clear K2)
              | (go_at_call 19; refine (hE _).mono ?_; rintro e w3 ⟨rfl, K3⟩; clear hE; have hW := write_any (HS2.out.call K3) (mkB (escd (s[i]'hlt))) (by rw [mkB_size]; have := escd_len (s[i]'hlt); omega); clear HS2 K3)
              | (go_at_call 18; refine hW.mono ?_; rintro e w4 ⟨rfl, S4⟩; clear hW)
              | fail)
            go_roundw
            case rel =>
              refine ⟨i + 1, m, _, acc ++ escd (s[i]'hlt), by omega, by omega, rfl, ?_, by rw [List.length_append]; have := escd_len (s[i]'hlt); omega, S4, ?_⟩
              · have := HT1.out; rw [HZ.out] at this; exact this
              · rw [← HF.out, HM.out, HP.out, HZ.out, List.append_assoc]
            case measure => simp [Lib.strSize, ByteArray.size_extract]; omega
        · have HP : Hid (pieceP s i = (s.extract i (i + (Utf8.decode s i).2)).data.toList) := by
            show pieceP s i = _
            unfold pieceP
            rw [if_neg hb, if_neg hsm]
          have HX : Hid (q.extract 0 (Utf8.decode s i).2 = s.extract i (i + (Utf8.decode s i).2)) := by
            show q.extract 0 _ = _
            rw [hq]
            exact tail_head s i _ hl1
          have hxl : (s.extract i (i + (Utf8.decode s i).2)).size = (Utf8.decode s i).2 := by rw [ByteArray.size_extract]; omega
          have hz4 : (Utf8.decode s i).2 ≤ 4 := by
            rw [Lib.decode_at]
            unfold Lib.decodeN
            repeat' split
            all_goals (simp only; omega)
          generalize (Utf8.decode s i).1 = r at *
          generalize (Utf8.decode s i).2 = zz at *
          have f2 : ¬ (r : Int) < 32 := by omega
          have f3 : ((r : Int) == 34) = false := by rw [beq_eq_false_iff_ne]; omega
          have f4 : ((r : Int) == 92) = false := by rw [beq_eq_false_iff_ne]; omega
          have hsl : ∀ W, (Instr.slice 9 (.string q) none (some (.int .i64 (zz : Int))) none).run Tryz.prog W = .ok (.string (s.extract i (i + zz))) W := fun W => by
            rw [← HX.out]
            have := run_slice_string_h (P := Tryz.prog) W 9 q Tryz.underlying9 .i64 (zz : Int) (by omega) e1
            simpa using this
          have hr : ((r : Int) == 65533) = false ∨ (((r : Int) == 65533) = true ∧ ((zz : Int) == 1) = false) := by
            by_cases h : r = 65533
            · right
              exact ⟨by rw [beq_iff_eq]; omega, by rw [beq_eq_false_iff_ne]; omega⟩
            · left
              rw [beq_eq_false_iff_ne]
              omega
          have HXL := hid hxl
          generalize s.extract i (i + zz) = pc at *
          clear hb hsm hq S hpl hxl HX
          rcases hr with f1 | ⟨f1, f5⟩
          · go_wp2_with (first
              | (go_at_call 17; refine hD.mono ?_; rintro e w2 ⟨rfl, K2⟩; clear hD; have hW := write_any (HS.out.call (below_kept K2)) pc (by have := HXL.out; omega); clear K2)
              | (go_at_call 18; refine hW.mono ?_; rintro e w4 ⟨rfl, S4⟩; clear hW)
              | fail)
            go_roundw
            case rel =>
              refine ⟨i + zz, m, _, acc ++ pc.data.toList, by omega, by omega, rfl, HT1.out, ?_, S4, ?_⟩
              · rw [List.length_append, show pc.data.toList.length = pc.size from Array.length_toList, HXL.out]; omega
              · rw [← HF.out, HM.out, HP.out, List.append_assoc]
            case measure => simp [Lib.strSize, ByteArray.size_extract]; omega
          · go_wp2_with (first
              | (go_at_call 17; refine hD.mono ?_; rintro e w2 ⟨rfl, K2⟩; clear hD; have hW := write_any (HS.out.call (below_kept K2)) pc (by have := HXL.out; omega); clear K2)
              | (go_at_call 18; refine hW.mono ?_; rintro e w4 ⟨rfl, S4⟩; clear hW)
              | fail)
            go_roundw
            case rel =>
              refine ⟨i + zz, m, _, acc ++ pc.data.toList, by omega, by omega, rfl, HT1.out, ?_, S4, ?_⟩
              · rw [List.length_append, show pc.data.toList.length = pc.size from Array.length_toList, HXL.out]; omega
              · rw [← HF.out, HM.out, HP.out, List.append_assoc]
            case measure => simp [Lib.strSize, ByteArray.size_extract]; omega
    · have hW2 := writeByte_any S 34 (by omega)
      change Calls Tryz.prog 16 #[_, .int .u8 34] _ _ at hW2
      have e0 : ¬ (0 : Int) < (q.size : Int) := by omega
      have HE : Hid (acc ++ [34] = quoteP s) := by
        show acc ++ [34] = quoteP s
        have := HF.out
        rw [quoteF_end hlt, List.append_nil] at this
        rw [this]
        rfl
      clear hq S
      go_wp2_with (first
        | (go_at_call 16; refine hW2.mono ?_; rintro e w2 ⟨rfl, S2⟩; clear hW2; have hSt := string_any S2; rw [HE.out] at hSt; clear S2)
        | (go_at_call 20; refine hSt.mono ?_; rintro e w3 ⟨rfl, K3⟩; clear hSt)
        | fail)
      go_ret
      exact ⟨rfl, K3⟩

end Go.Proofs.YtdbplemcjnlfiaaGreatDoor
