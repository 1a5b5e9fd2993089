/-
  FrontEscapes: every character below 2^16 can be said by its number, the halves of pairs can't. For every list of numbers.
-/
import Derived.Test.YtimipkhjcgmioabGreatDoorFWakes
import Derived.Test.YtimipkhjcgmioabGreatDoorFEscP
import Derived.Laws.Cover4
import Derived.Laws.BitsLemmas
namespace Go.Proofs.YtimipkhjcgmioabGreatDoor
open Go.ChangeShapes Go.WideShapes Go.ChangeAt Go.RowKit Go.Deep

/-- The digits of a number below 2^16. -/
def digL (great : Bool) (n : Nat) : List UInt8 := [(hexS great).getD (n / 4096 % 16) 0, (hexS great).getD (n / 256 % 16) 0, (hexS great).getD (n / 16 % 16) 0, (hexS great).getD (n % 16) 0]

theorem and15 (x : Nat) (h : x < 65536) : bits .and .i64 (x : Int) 15 = ((x % 16 : Nat) : Int) := by
  have := bits_mask .i64 62 (by decide) (fun n h0 h1 => by rw [IntKind.wrap_i64]; omega) 4 (by decide) (x : Int) (by omega) (by omega)
  rw [show (2 : Int) ^ 4 - 1 = 15 by decide] at this
  rw [this]
  omega

theorem mkB_cat (a b : List UInt8) : mkB a ++ mkB b = mkB (a ++ b) := by
  apply ByteArray.ext
  rw [ByteArray.data_append]
  show a.toArray ++ b.toArray = (a ++ b).toArray
  simp

theorem run_cat (W : World) (a b : List UInt8) (h : a.length + b.length ≤ 1000000) : (Op.stringOp .add (mkB a) (mkB b)).run Tryz.prog W = .ok (.string (mkB (a ++ b))) W := by
  unfold Op.stringOp
  dsimp only
  rw [if_neg (by rw [mkB_size, mkB_size]; simp [IntKind.max, IntKind.signed, IntKind.bits]; omega), mkB_cat]
  rfl

theorem dig_true (d : Nat) (hd : d < 16) (W : World) : (Instr.slice 9 (.string ⟨#[48, 49, 50, 51, 52, 53, 54, 55, 56, 57, 65, 66, 67, 68, 69, 70]⟩) (some (.int .i64 (d : Int))) (some (.int .i64 ((d : Int) + 1))) none).run Tryz.prog W = .ok (.string (mkB [(hexS true).getD d 0])) W := by
  rw [run_slice_string W _ _ _ _ _ _ Tryz.underlying9 (by omega) (by omega) (by show (d : Int) + 1 ≤ 16; omega)]
  have h : ∀ k : Fin 16, (⟨#[48, 49, 50, 51, 52, 53, 54, 55, 56, 57, 65, 66, 67, 68, 69, 70]⟩ : ByteArray).extract ((k.1 : Int)).toNat ((k.1 : Int) + 1).toNat = mkB [(hexS true).getD k.1 0] := by decide +kernel
  rw [h ⟨d, hd⟩]

theorem dig_false (d : Nat) (hd : d < 16) (W : World) : (Instr.slice 9 (.string ⟨#[48, 49, 50, 51, 52, 53, 54, 55, 56, 57, 97, 98, 99, 100, 101, 102]⟩) (some (.int .i64 (d : Int))) (some (.int .i64 ((d : Int) + 1))) none).run Tryz.prog W = .ok (.string (mkB [(hexS false).getD d 0])) W := by
  rw [run_slice_string W _ _ _ _ _ _ Tryz.underlying9 (by omega) (by omega) (by show (d : Int) + 1 ≤ 16; omega)]
  have h : ∀ k : Fin 16, (⟨#[48, 49, 50, 51, 52, 53, 54, 55, 56, 57, 97, 98, 99, 100, 101, 102]⟩ : ByteArray).extract ((k.1 : Int)).toNat ((k.1 : Int) + 1).toNat = mkB [(hexS false).getD k.1 0] := by decide +kernel
  rw [h ⟨d, hd⟩]

theorem text_one (t : List UInt8) : fldV (textOf (fieldP [([97], 34 :: t)] [97])) = .tuple #[.string (mkB t), .bool true] := rfl

theorem esc_runes (n : Nat) (h : n < 65536) (hs : ¬ (55296 ≤ n ∧ n ≤ 57343)) : runesBytes [(n : Int)] = mkB (Lib.encodeRune (n : Int)) := by
  show ByteArray.empty ++ Utf8.encode (n : Int) = _
  have e0 : ByteArray.empty ++ Utf8.encode (n : Int) = Utf8.encode (n : Int) := by
    apply ByteArray.ext
    rw [ByteArray.data_append]
    show #[] ++ _ = _
    simp
  rw [e0]
  have hv : Utf8.valid (n : Int) = true := by
    unfold Utf8.valid
    simp
    omega
  unfold Utf8.encode
  simp only [hv, if_true, Int.toNat_natCast]
  unfold Lib.encodeRune Lib.encodeRuneZ
  by_cases h1 : n < 128
  · rw [if_pos h1, if_pos ⟨by omega, by omega⟩]
    show _ = mkB [((n : Int)).toNat.toUInt8]
    simp [mkB]
  · rw [if_neg h1, if_neg (show ¬ (0 ≤ (n : Int) ∧ (n : Int) ≤ 127) by omega)]
    by_cases h2 : n < 2048
    · rw [if_pos h2, if_pos (show 128 ≤ (n : Int) ∧ (n : Int) ≤ 2047 by omega)]
      show _ = mkB [(192 + (n : Int) / 64).toNat.toUInt8, (128 + (n : Int) % 64).toNat.toUInt8]
      rw [show (192 + (n : Int) / 64).toNat = 192 + n / 64 by omega, show (128 + (n : Int) % 64).toNat = 128 + n % 64 by omega]
      rfl
    · rw [if_neg h2, if_neg (show ¬ (128 ≤ (n : Int) ∧ (n : Int) ≤ 2047) by omega), if_pos (show n < 65536 by omega), if_pos (show (2048 ≤ (n : Int) ∧ (n : Int) < 55296) ∨ (57343 < (n : Int) ∧ (n : Int) ≤ 65535) by omega)]
      show _ = mkB [(224 + (n : Int) / 4096).toNat.toUInt8, (128 + (n : Int) / 64 % 64).toNat.toUInt8, (128 + (n : Int) % 64).toNat.toUInt8]
      rw [show (224 + (n : Int) / 4096).toNat = 224 + n / 4096 by omega, show (128 + (n : Int) / 64 % 64).toNat = 128 + n / 64 % 64 by omega, show (128 + (n : Int) % 64).toNat = 128 + n % 64 by omega]
      rfl

theorem esc_conv (n : Nat) (h : n < 65536) (hs : ¬ (55296 ≤ n ∧ n ≤ 57343)) (W : World) : (convert 39 9 (.slice (some ⟨W.heap.size, 0, none⟩) 1 1)).run Tryz.prog (W.alloc (.cells #[.int .i32 (n : Int)] 21)) = .ok (.string (mkB (Lib.encodeRune (n : Int)))) (W.alloc (.cells #[.int .i32 (n : Int)] 21)) := by
  have := run_convert_runes (W.alloc (.cells #[.int .i32 (n : Int)] 21)) 39 9 21 ⟨W.heap.size, 0, none⟩ 1 1 [(n : Int)] (by simp) Tryz.underlying39 Tryz.underlying21 Tryz.underlying9 (fun j hj => by
    have : j = 0 := by simpa using hj
    subst this
    rw [Addr.add_lit]
    simp only [World.cell?, heap_alloc_new]
    rfl)
  rw [this]
  show Result.ok (Value.string (runesBytes [(n : Int)])) _ = _
  rw [esc_runes n h hs]

set_option maxRecDepth 100000 in
set_option maxHeartbeats 4000000 in
theorem frontEscapes_walk (w : World) (a : Option Addr) (len cap : Nat) (z : Nat → Int) (great : Bool) (hN : NumsIn w a len z) (T : Utf8At w) (M : MaxAt w) :
    Calls Tryz.prog 4 #[.slice a len cap, .bool great] w fun e w' => e = .returned (.bool true) ∧ Below w.heap.size w w' := by
  have HT := hid T
  have HM := hid M
  have HN := hid hN
  clear T M hN
  cases great with
  | false =>
    go_enter Tryz.func4, Tryz.ntmps4
    go_wp2
    go_loopw [6] (fun i wr => ∃ (k : Nat), k ≤ len ∧ i = .int .i64 (k : Int) ∧ Kept (fun _ => False) w wr) (fun i _ => len - (intOf i).toNat)
    case atStart => exact ⟨0, Nat.zero_le _, rfl, Kept.refl _ _⟩
    case round =>
      obtain ⟨k, hk, rfl, K⟩ := hrel
      have HK := hid K
      by_cases hlt : k < len ∧ k < 30
      · obtain ⟨h1, h2⟩ := hlt
        have e1 : (k : Int) < (len : Int) := by omega
        have e2 : (k : Int) < 30 := by omega
        rcases HN.out.kept K with h0 | ⟨b, o, rfl, hcell⟩
        · omega
        · have c0 := hcell k h1
          have hW := within_any wr (z k) 65536 (by decide) (by decide)
          obtain ⟨n, hn⟩ : ∃ n : Nat, z k % 65536 = (n : Int) := ⟨(z k % 65536).toNat, by omega⟩
          have hn2 : n < 65536 := by omega
          rw [hn] at hW
          clear hcell hn K
          generalize z k = zk at *
          go_wp2_with (first
            | (go_at_call 11; refine hW.mono ?_; rintro e w1 ⟨rfl, hw1⟩; subst w1; clear hW)
            | fail)
          go_loopw [8, 9] (fun s v wr' => ∃ (j : Nat), j ≤ 4 ∧ v = .int .i64 (12 - 4 * (j : Int)) ∧ s = .string (mkB ((digL false n).take j)) ∧ wr' = wr) (fun _ v _ => ((intOf v) + 4).toNat)
          case atStart => exact ⟨0, by decide, rfl, rfl, rfl⟩
          case round =>
            obtain ⟨j, hj, rfl, rfl, hwr⟩ := hrel
            subst hwr
            match j, hj with
            | 0, _ =>
              have hb : bits .and .i64 ((n : Int) / 4096) 15 = ((n / 4096 % 16 : Nat) : Int) := and15 (n / 4096) (by omega)
              have hd : n / 4096 % 16 < 16 := by omega
              have hsl := dig_false (n / 4096 % 16) hd
              have HX : Hid ((digL false n).take 1 = (digL false n).take 0 ++ [(hexS false).getD (n / 4096 % 16) 0]) := rfl
              have hct := fun W => run_cat W ((digL false n).take 0) [(hexS false).getD (n / 4096 % 16) 0] (by simp [digL])
              generalize (hexS false).getD (n / 4096 % 16) 0 = hx at *
              generalize n / 4096 % 16 = dd at *
              generalize mkB ((digL false n).take 0) = sj at *
              generalize (digL false n).take 0 = lj at *
              have hdd : (dd : Int) < 16 := by omega
              go_wp2
              go_roundw
              case rel => exact ⟨1, by decide, by go_num, by rw [HX.out], trivial⟩
              case measure => simp [intOf]
            | 1, _ =>
              have hb : bits .and .i64 ((n : Int) / 256) 15 = ((n / 256 % 16 : Nat) : Int) := and15 (n / 256) (by omega)
              have hd : n / 256 % 16 < 16 := by omega
              have hsl := dig_false (n / 256 % 16) hd
              have HX : Hid ((digL false n).take 2 = (digL false n).take 1 ++ [(hexS false).getD (n / 256 % 16) 0]) := rfl
              have hct := fun W => run_cat W ((digL false n).take 1) [(hexS false).getD (n / 256 % 16) 0] (by simp [digL])
              generalize (hexS false).getD (n / 256 % 16) 0 = hx at *
              generalize n / 256 % 16 = dd at *
              generalize mkB ((digL false n).take 1) = sj at *
              generalize (digL false n).take 1 = lj at *
              have hdd : (dd : Int) < 16 := by omega
              go_wp2
              go_roundw
              case rel => exact ⟨2, by decide, by go_num, by rw [HX.out], trivial⟩
              case measure => simp [intOf]
            | 2, _ =>
              have hb : bits .and .i64 ((n : Int) / 16) 15 = ((n / 16 % 16 : Nat) : Int) := and15 (n / 16) (by omega)
              have hd : n / 16 % 16 < 16 := by omega
              have hsl := dig_false (n / 16 % 16) hd
              have HX : Hid ((digL false n).take 3 = (digL false n).take 2 ++ [(hexS false).getD (n / 16 % 16) 0]) := rfl
              have hct := fun W => run_cat W ((digL false n).take 2) [(hexS false).getD (n / 16 % 16) 0] (by simp [digL])
              generalize (hexS false).getD (n / 16 % 16) 0 = hx at *
              generalize n / 16 % 16 = dd at *
              generalize mkB ((digL false n).take 2) = sj at *
              generalize (digL false n).take 2 = lj at *
              have hdd : (dd : Int) < 16 := by omega
              go_wp2
              go_roundw
              case rel => exact ⟨3, by decide, by go_num, by rw [HX.out], trivial⟩
              case measure => simp [intOf]
            | 3, _ =>
              have hb : bits .and .i64 ((n : Int)) 15 = ((n % 16 : Nat) : Int) := and15 (n) (by omega)
              have hd : n % 16 < 16 := by omega
              have hsl := dig_false (n % 16) hd
              have HX : Hid ((digL false n).take 4 = (digL false n).take 3 ++ [(hexS false).getD (n % 16) 0]) := rfl
              have hct := fun W => run_cat W ((digL false n).take 3) [(hexS false).getD (n % 16) 0] (by simp [digL])
              generalize (hexS false).getD (n % 16) 0 = hx at *
              generalize n % 16 = dd at *
              generalize mkB ((digL false n).take 3) = sj at *
              generalize (digL false n).take 3 = lj at *
              have hdd : (dd : Int) < 16 := by omega
              go_wp2
              go_roundw
              case rel => exact ⟨4, by decide, by go_num, by rw [HX.out], trivial⟩
              case measure => simp [intOf]
            | 4, _ =>
              have hct1 : ∀ W, (Op.stringOp .add ⟨#[123, 34, 97, 34, 58, 34, 92, 117]⟩ (mkB ((digL false n).take 4))).run Tryz.prog W = .ok (.string (mkB ([123, 34, 97, 34, 58, 34, 92, 117] ++ digL false n))) W := fun W => run_cat W [123, 34, 97, 34, 58, 34, 92, 117] (digL false n) (by simp [digL])
              have hct2 : ∀ W, (Op.stringOp .add (mkB ([123, 34, 97, 34, 58, 34, 92, 117] ++ digL false n)) ⟨#[34, 125]⟩).run Tryz.prog W = .ok (.string (escN false n)) W := fun W => run_cat W ([123, 34, 97, 34, 58, 34, 92, 117] ++ digL false n) [34, 125] (by simp [digL])
              have hO := object_any wr (escN false n) (by show 14 ≤ _; decide) (HT.out.kept HK.out)
              rw [esc_obj false n hn2] at hO
              by_cases hs : 55296 ≤ n ∧ n ≤ 57343
              · rw [if_pos hs] at hO
                obtain ⟨hs1, hs2⟩ := hs
                have f1 : (55296 : Int) ≤ (n : Int) := by omega
                have f2 : (n : Int) ≤ 57343 := by omega
                generalize escN false n = en at *
                generalize mkB ([123, 34, 97, 34, 58, 34, 92, 117] ++ digL false n) = e1' at *
                generalize mkB ((digL false n).take 4) = e4 at *
                go_wp2_with (first
                  | (go_at_call 12; refine hO.mono ?_; rintro e w2 ⟨v2, rfl, S2⟩; clear hO; have HK2 := hid (HK.out.and S2.choose_spec.choose_spec.2.2); clear S2)
                  | fail)
                go_roundw
                case rel => exact ⟨k + 1, by omega, by go_num, HK2.out⟩
                case measure => simp [intOf]; omega
              · rw [if_neg hs] at hO
                have hcv := esc_conv n hn2 hs
                have hTx : ∀ W a' c', PairsAt W a' [([97], 34 :: Lib.encodeRune (n : Int))] → Calls Tryz.prog 13 #[.slice a' 1 c', .string ⟨#[97]⟩] W fun e w' => e = .returned (.tuple #[.string (mkB (Lib.encodeRune (n : Int))), .bool true]) ∧ Kept (fun _ => False) W w' := fun W a' c' hP => by
                  have h := text_any W a' c' [([97], 34 :: Lib.encodeRune (n : Int))] [97] hP (by decide : (1 : Nat) ≤ 1000000)
                  rw [text_one] at h
                  exact h
                have hnb : (¬ (55296 : Int) ≤ (n : Int)) ∨ ((55296 : Int) ≤ (n : Int) ∧ ¬ (n : Int) ≤ 57343) := by omega
                have hn3 : (n : Int) ≤ 65535 := by omega
                clear hs
                have hO2 : Calls Tryz.prog 12 #[.string (escN false n)] wr fun e w' => ∃ a' c', e = .returned (.tuple #[.slice a' 1 c', .int .i64 0, .int .i64 0]) ∧ Kept (fun _ => False) wr w' ∧ PairsAt w' a' [([97], 34 :: Lib.encodeRune (n : Int))] := hO.mono fun e w' h => by
                  obtain ⟨v, he, a', c', rfl, ho, K2⟩ := h
                  exact ⟨a', c', he, K2, PairsAt.of_row ho⟩
                clear hO
                have HCV := hid hcv
                have HTX := hid hTx
                clear hcv hTx
                generalize escN false n = en at *
                generalize mkB ([123, 34, 97, 34, 58, 34, 92, 117] ++ digL false n) = e1' at *
                generalize mkB ((digL false n).take 4) = e4 at *
                generalize mkB (Lib.encodeRune (n : Int)) = er at *
                have hn0 : (0 : Int) ≤ (n : Int) := by omega
                clear hn2
                generalize ((n : Nat) : Int) = N at *
                rcases hnb with f1 | ⟨f1, f2⟩
                · go_wp2_with (first
                    | (go_at_call 12; refine hO2.mono ?_; rintro e w2 ⟨a2, c2, rfl, K2, hP2⟩; clear hO2; have HK2 := hid (HK.out.and K2); have hT2 := HTX.out _ a2 c2 hP2; clear HTX K2 hP2)
                    | (go_at_call 13; refine hT2.mono ?_; rintro e w3 ⟨rfl, K3⟩; clear hT2; have HK3 := hid ((HK2.out.and K3).and (Kept.alloc _ _ (.cells #[.int .i32 N] 21))); have hcv3 := HCV.out w3; have qe : (er.toList == er.toList) = true := (by simp); clear HCV K3)
                    | fail)
                  go_roundw
                  case rel => exact ⟨k + 1, by omega, by go_num, HK3.out⟩
                  case measure => simp [intOf]; omega
                · go_wp2_with (first
                    | (go_at_call 12; refine hO2.mono ?_; rintro e w2 ⟨a2, c2, rfl, K2, hP2⟩; clear hO2; have HK2 := hid (HK.out.and K2); have hT2 := HTX.out _ a2 c2 hP2; clear HTX K2 hP2)
                    | (go_at_call 13; refine hT2.mono ?_; rintro e w3 ⟨rfl, K3⟩; clear hT2; have HK3 := hid ((HK2.out.and K3).and (Kept.alloc _ _ (.cells #[.int .i32 N] 21))); have hcv3 := HCV.out w3; have qe : (er.toList == er.toList) = true := (by simp); clear HCV K3)
                    | fail)
                  go_roundw
                  case rel => exact ⟨k + 1, by omega, by go_num, HK3.out⟩
                  case measure => simp [intOf]; omega
      · have e1 : (k : Int) < (len : Int) ∨ ¬ (k : Int) < (len : Int) := by omega
        have hWk := wakes_any wr (HT.out.kept K) (HM.out.kept K)
        rcases e1 with e1 | e1
        · have e2 : ¬ (k : Int) < 30 := by omega
          go_wp2_with (first
            | (go_at_call 7; refine hWk.mono ?_; rintro e w2 ⟨rfl, K2⟩; clear hWk)
            | fail)
          go_ret
          exact ⟨rfl, (HK.out.and K2).below (Nat.le_refl _) (fun i h => h.elim)⟩
        · go_wp2_with (first
            | (go_at_call 7; refine hWk.mono ?_; rintro e w2 ⟨rfl, K2⟩; clear hWk)
            | fail)
          go_ret
          exact ⟨rfl, (HK.out.and K2).below (Nat.le_refl _) (fun i h => h.elim)⟩
  | true =>
    go_enter Tryz.func4, Tryz.ntmps4
    go_wp2
    go_loopw [6] (fun i wr => ∃ (k : Nat), k ≤ len ∧ i = .int .i64 (k : Int) ∧ Kept (fun _ => False) w wr) (fun i _ => len - (intOf i).toNat)
    case atStart => exact ⟨0, Nat.zero_le _, rfl, Kept.refl _ _⟩
    case round =>
      obtain ⟨k, hk, rfl, K⟩ := hrel
      have HK := hid K
      by_cases hlt : k < len ∧ k < 30
      · obtain ⟨h1, h2⟩ := hlt
        have e1 : (k : Int) < (len : Int) := by omega
        have e2 : (k : Int) < 30 := by omega
        rcases HN.out.kept K with h0 | ⟨b, o, rfl, hcell⟩
        · omega
        · have c0 := hcell k h1
          have hW := within_any wr (z k) 65536 (by decide) (by decide)
          obtain ⟨n, hn⟩ : ∃ n : Nat, z k % 65536 = (n : Int) := ⟨(z k % 65536).toNat, by omega⟩
          have hn2 : n < 65536 := by omega
          rw [hn] at hW
          clear hcell hn K
          generalize z k = zk at *
          go_wp2_with (first
            | (go_at_call 11; refine hW.mono ?_; rintro e w1 ⟨rfl, hw1⟩; subst w1; clear hW)
            | fail)
          go_loopw [8, 9] (fun s v wr' => ∃ (j : Nat), j ≤ 4 ∧ v = .int .i64 (12 - 4 * (j : Int)) ∧ s = .string (mkB ((digL true n).take j)) ∧ wr' = wr) (fun _ v _ => ((intOf v) + 4).toNat)
          case atStart => exact ⟨0, by decide, rfl, rfl, rfl⟩
          case round =>
            obtain ⟨j, hj, rfl, rfl, hwr⟩ := hrel
            subst hwr
            match j, hj with
            | 0, _ =>
              have hb : bits .and .i64 ((n : Int) / 4096) 15 = ((n / 4096 % 16 : Nat) : Int) := and15 (n / 4096) (by omega)
              have hd : n / 4096 % 16 < 16 := by omega
              have hsl := dig_true (n / 4096 % 16) hd
              have HX : Hid ((digL true n).take 1 = (digL true n).take 0 ++ [(hexS true).getD (n / 4096 % 16) 0]) := rfl
              have hct := fun W => run_cat W ((digL true n).take 0) [(hexS true).getD (n / 4096 % 16) 0] (by simp [digL])
              generalize (hexS true).getD (n / 4096 % 16) 0 = hx at *
              generalize n / 4096 % 16 = dd at *
              generalize mkB ((digL true n).take 0) = sj at *
              generalize (digL true n).take 0 = lj at *
              have hdd : (dd : Int) < 16 := by omega
              go_wp2
              go_roundw
              case rel => exact ⟨1, by decide, by go_num, by rw [HX.out], trivial⟩
              case measure => simp [intOf]
            | 1, _ =>
              have hb : bits .and .i64 ((n : Int) / 256) 15 = ((n / 256 % 16 : Nat) : Int) := and15 (n / 256) (by omega)
              have hd : n / 256 % 16 < 16 := by omega
              have hsl := dig_true (n / 256 % 16) hd
              have HX : Hid ((digL true n).take 2 = (digL true n).take 1 ++ [(hexS true).getD (n / 256 % 16) 0]) := rfl
              have hct := fun W => run_cat W ((digL true n).take 1) [(hexS true).getD (n / 256 % 16) 0] (by simp [digL])
              generalize (hexS true).getD (n / 256 % 16) 0 = hx at *
              generalize n / 256 % 16 = dd at *
              generalize mkB ((digL true n).take 1) = sj at *
              generalize (digL true n).take 1 = lj at *
              have hdd : (dd : Int) < 16 := by omega
              go_wp2
              go_roundw
              case rel => exact ⟨2, by decide, by go_num, by rw [HX.out], trivial⟩
              case measure => simp [intOf]
            | 2, _ =>
              have hb : bits .and .i64 ((n : Int) / 16) 15 = ((n / 16 % 16 : Nat) : Int) := and15 (n / 16) (by omega)
              have hd : n / 16 % 16 < 16 := by omega
              have hsl := dig_true (n / 16 % 16) hd
              have HX : Hid ((digL true n).take 3 = (digL true n).take 2 ++ [(hexS true).getD (n / 16 % 16) 0]) := rfl
              have hct := fun W => run_cat W ((digL true n).take 2) [(hexS true).getD (n / 16 % 16) 0] (by simp [digL])
              generalize (hexS true).getD (n / 16 % 16) 0 = hx at *
              generalize n / 16 % 16 = dd at *
              generalize mkB ((digL true n).take 2) = sj at *
              generalize (digL true n).take 2 = lj at *
              have hdd : (dd : Int) < 16 := by omega
              go_wp2
              go_roundw
              case rel => exact ⟨3, by decide, by go_num, by rw [HX.out], trivial⟩
              case measure => simp [intOf]
            | 3, _ =>
              have hb : bits .and .i64 ((n : Int)) 15 = ((n % 16 : Nat) : Int) := and15 (n) (by omega)
              have hd : n % 16 < 16 := by omega
              have hsl := dig_true (n % 16) hd
              have HX : Hid ((digL true n).take 4 = (digL true n).take 3 ++ [(hexS true).getD (n % 16) 0]) := rfl
              have hct := fun W => run_cat W ((digL true n).take 3) [(hexS true).getD (n % 16) 0] (by simp [digL])
              generalize (hexS true).getD (n % 16) 0 = hx at *
              generalize n % 16 = dd at *
              generalize mkB ((digL true n).take 3) = sj at *
              generalize (digL true n).take 3 = lj at *
              have hdd : (dd : Int) < 16 := by omega
              go_wp2
              go_roundw
              case rel => exact ⟨4, by decide, by go_num, by rw [HX.out], trivial⟩
              case measure => simp [intOf]
            | 4, _ =>
              have hct1 : ∀ W, (Op.stringOp .add ⟨#[123, 34, 97, 34, 58, 34, 92, 117]⟩ (mkB ((digL true n).take 4))).run Tryz.prog W = .ok (.string (mkB ([123, 34, 97, 34, 58, 34, 92, 117] ++ digL true n))) W := fun W => run_cat W [123, 34, 97, 34, 58, 34, 92, 117] (digL true n) (by simp [digL])
              have hct2 : ∀ W, (Op.stringOp .add (mkB ([123, 34, 97, 34, 58, 34, 92, 117] ++ digL true n)) ⟨#[34, 125]⟩).run Tryz.prog W = .ok (.string (escN true n)) W := fun W => run_cat W ([123, 34, 97, 34, 58, 34, 92, 117] ++ digL true n) [34, 125] (by simp [digL])
              have hO := object_any wr (escN true n) (by show 14 ≤ _; decide) (HT.out.kept HK.out)
              rw [esc_obj true n hn2] at hO
              by_cases hs : 55296 ≤ n ∧ n ≤ 57343
              · rw [if_pos hs] at hO
                obtain ⟨hs1, hs2⟩ := hs
                have f1 : (55296 : Int) ≤ (n : Int) := by omega
                have f2 : (n : Int) ≤ 57343 := by omega
                generalize escN true n = en at *
                generalize mkB ([123, 34, 97, 34, 58, 34, 92, 117] ++ digL true n) = e1' at *
                generalize mkB ((digL true n).take 4) = e4 at *
                go_wp2_with (first
                  | (go_at_call 12; refine hO.mono ?_; rintro e w2 ⟨v2, rfl, S2⟩; clear hO; have HK2 := hid (HK.out.and S2.choose_spec.choose_spec.2.2); clear S2)
                  | fail)
                go_roundw
                case rel => exact ⟨k + 1, by omega, by go_num, HK2.out⟩
                case measure => simp [intOf]; omega
              · rw [if_neg hs] at hO
                have hcv := esc_conv n hn2 hs
                have hTx : ∀ W a' c', PairsAt W a' [([97], 34 :: Lib.encodeRune (n : Int))] → Calls Tryz.prog 13 #[.slice a' 1 c', .string ⟨#[97]⟩] W fun e w' => e = .returned (.tuple #[.string (mkB (Lib.encodeRune (n : Int))), .bool true]) ∧ Kept (fun _ => False) W w' := fun W a' c' hP => by
                  have h := text_any W a' c' [([97], 34 :: Lib.encodeRune (n : Int))] [97] hP (by decide : (1 : Nat) ≤ 1000000)
                  rw [text_one] at h
                  exact h
                have hnb : (¬ (55296 : Int) ≤ (n : Int)) ∨ ((55296 : Int) ≤ (n : Int) ∧ ¬ (n : Int) ≤ 57343) := by omega
                have hn3 : (n : Int) ≤ 65535 := by omega
                clear hs
                have hO2 : Calls Tryz.prog 12 #[.string (escN true n)] wr fun e w' => ∃ a' c', e = .returned (.tuple #[.slice a' 1 c', .int .i64 0, .int .i64 0]) ∧ Kept (fun _ => False) wr w' ∧ PairsAt w' a' [([97], 34 :: Lib.encodeRune (n : Int))] := hO.mono fun e w' h => by
                  obtain ⟨v, he, a', c', rfl, ho, K2⟩ := h
                  exact ⟨a', c', he, K2, PairsAt.of_row ho⟩
                clear hO
                have HCV := hid hcv
                have HTX := hid hTx
                clear hcv hTx
                generalize escN true n = en at *
                generalize mkB ([123, 34, 97, 34, 58, 34, 92, 117] ++ digL true n) = e1' at *
                generalize mkB ((digL true n).take 4) = e4 at *
                generalize mkB (Lib.encodeRune (n : Int)) = er at *
                have hn0 : (0 : Int) ≤ (n : Int) := by omega
                clear hn2
                generalize ((n : Nat) : Int) = N at *
                rcases hnb with f1 | ⟨f1, f2⟩
                · go_wp2_with (first
                    | (go_at_call 12; refine hO2.mono ?_; rintro e w2 ⟨a2, c2, rfl, K2, hP2⟩; clear hO2; have HK2 := hid (HK.out.and K2); have hT2 := HTX.out _ a2 c2 hP2; clear HTX K2 hP2)
                    | (go_at_call 13; refine hT2.mono ?_; rintro e w3 ⟨rfl, K3⟩; clear hT2; have HK3 := hid ((HK2.out.and K3).and (Kept.alloc _ _ (.cells #[.int .i32 N] 21))); have hcv3 := HCV.out w3; have qe : (er.toList == er.toList) = true := (by simp); clear HCV K3)
                    | fail)
                  go_roundw
                  case rel => exact ⟨k + 1, by omega, by go_num, HK3.out⟩
                  case measure => simp [intOf]; omega
                · go_wp2_with (first
                    | (go_at_call 12; refine hO2.mono ?_; rintro e w2 ⟨a2, c2, rfl, K2, hP2⟩; clear hO2; have HK2 := hid (HK.out.and K2); have hT2 := HTX.out _ a2 c2 hP2; clear HTX K2 hP2)
                    | (go_at_call 13; refine hT2.mono ?_; rintro e w3 ⟨rfl, K3⟩; clear hT2; have HK3 := hid ((HK2.out.and K3).and (Kept.alloc _ _ (.cells #[.int .i32 N] 21))); have hcv3 := HCV.out w3; have qe : (er.toList == er.toList) = true := (by simp); clear HCV K3)
                    | fail)
                  go_roundw
                  case rel => exact ⟨k + 1, by omega, by go_num, HK3.out⟩
                  case measure => simp [intOf]; omega
      · have e1 : (k : Int) < (len : Int) ∨ ¬ (k : Int) < (len : Int) := by omega
        have hWk := wakes_any wr (HT.out.kept K) (HM.out.kept K)
        rcases e1 with e1 | e1
        · have e2 : ¬ (k : Int) < 30 := by omega
          go_wp2_with (first
            | (go_at_call 7; refine hWk.mono ?_; rintro e w2 ⟨rfl, K2⟩; clear hWk)
            | fail)
          go_ret
          exact ⟨rfl, (HK.out.and K2).below (Nat.le_refl _) (fun i h => h.elim)⟩
        · go_wp2_with (first
            | (go_at_call 7; refine hWk.mono ?_; rintro e w2 ⟨rfl, K2⟩; clear hWk)
            | fail)
          go_ret
          exact ⟨rfl, (HK.out.and K2).below (Nat.le_refl _) (fun i h => h.elim)⟩

set_option maxHeartbeats 4000000 in
set_option maxRecDepth 100000 in
theorem frontEscapes_lifted (os : Os) (started : os.Started) (H : Type) (enc : TypeId × Value → H) :
    ReturnsInHanded {} Tryz.checked os 4 .any (fun w args => (Rows.frontEscapesSpec.pre enc Tryz.prog Tryz.f4 [] false w args ∧ laidMetH Tryz.prog laidL w) ∧ sizedMet enc Tryz.prog Tryz.f4 (OpenSpec.ofChange Rows.frontEscapesSpec) false w args)
      (Rows.frontEscapesSpec.post enc Tryz.prog Tryz.f4 false true false false) := by
  refine returns_front (C := Tryz.checked) (X := fun w _ => laidMetH Tryz.prog laidL w) (fun _ _ _ hh h => h.of_heap hh) Tryz.own started (by kernel_rfl) Tryz.func4
    (ChangeSpec.witness_shaped (enc := enc) (C := Tryz.checked) (os := os) (X := fun w _ => laidMetH Tryz.prog laidL w) false (World.laidAll Tryz.prog os laidL) #[.slice none 0 0, .bool false] 8 (World.laidAll_os _ _ _) (World.shaped_of_ZipB (by kernel_rfl) (by kernel_rfl)) (by kernel_rfl) (by kernel_rfl) (by kernel_rfl) (laid_met os _)) ?_
  intro W base args ds gs before hval0 hW _ hz hL hSh _
  have hval : ∀ (j : Nat) t v, Tryz.f4.params[j]? = some t → args[j]? = some v → Value.okWide Tryz.prog W .any base t v := hval0
  have hW' := hW
  obtain ⟨p, q, hA0, hV, rfl, _, _⟩ := hW
  have hA : DataW.TrodAll enc Tryz.prog W 0 (fun _ => true) true Tryz.f4.params.toList args.toList ds p := hA0
  rw [Tryz.params4] at hA hval
  obtain ⟨v0, vs0, d0, ds0, p0, q0, hargs, rfl, rfl, h0, r0⟩ := trodAll_cons hA
  obtain ⟨v1, vs1, d1, ds1, p1, q1, rfl, rfl, rfl, h1, r1⟩ := trodAll_cons r0
  obtain ⟨rfl, rfl, rfl⟩ := trodAll_nil r1
  obtain rfl : args = #[v0, v1] := by cases args; simp_all
  obtain ⟨rfl, rfl⟩ := trodVars_none hV
  have k0 := h0
  have k1 := h1
  have lt0 : ∀ x ∈ p0, x.block < W.heap.size := by obtain ⟨m, hm⟩ := k0; exact DataW.trod_lt m _ _ _ hm
  have lt1 : ∀ x ∈ p1, x.block < W.heap.size := by obtain ⟨m, hm⟩ := k1; exact DataW.trod_lt m _ _ _ hm
  obtain ⟨a0', len0', cap0', rfl⟩ := okWide_slice Tryz.underlying31 (hval 0 31 v0 rfl rfl)
  obtain ⟨a0, len0, cap0, z0, e0, w0⟩ : ∃ a len cap z, Value.slice a0' len0' cap0' = .slice a len cap ∧ NumsIn W a len z := by
    obtain ⟨fuel, hf⟩ := h0
    exact nums_open Tryz.underlying31 Tryz.underlying3 (by kernel_rfl) hf
  simp only [Value.slice.injEq] at e0
  obtain ⟨rfl, rfl, rfl⟩ := e0
  obtain ⟨n1, rfl, rfl, rfl⟩ := open_bool Tryz.underlying4 (hval 1 4 v1 rfl rfl) h1
  clear hA0 hval0
  refine (frontEscapes_walk W _ _ _ z0 n1 w0 (utf8_laid hL) (max_shaped hSh)).mono fun e W' ⟨he, bel⟩ => ?_
  subst he
  exact ⟨_, rfl, _, _, _, [], _, [], hW', trodAll_mk1 (shut_bool Tryz.underlying4 _), (trodAll_cons_mk (Below.trod Tryz.laidOut (by kernel_rfl) (of_decide_eq_true (by kernel_rfl)) k0 bel lt0) (trodAll_cons_mk (Below.trod Tryz.laidOut (by kernel_rfl) (of_decide_eq_true (by kernel_rfl)) k1 bel lt1) trodAll_mk0)), rfl, bel.frame _, fun h => by cases h⟩

theorem frontEscapes_row : Rows.FrontEscapesSaid :=
  OpenClaim.holds_of_wide 4 Tryz.f4 rfl rfl rfl rfl rfl rfl rfl ⟨rfl, rfl, rfl, rfl, rfl⟩ rfl rfl rfl rfl rfl (by kernel_rfl) Tryz.func4 (by kernel_rfl)
    (of_decide_eq_true (by kernel_rfl)) (by unfold Func.isWrapper; first | (rw [if_pos (by decide +kernel)]; kernel_rfl) | (rw [if_neg (by decide +kernel)]; exact ⟨rfl, rfl⟩))
    (fun os started H enc _ => frontEscapes_lifted os started H enc)

theorem frontEscapes_holds : Rows.FrontEscapesCardSaid :=
  Claim7.holds_tied_plain_at .later [] [.data, .data, .data, .data, .sentinel, .sentinel, .data, .data, .pinned, .pinned] true Rows.frontEscapesCard.stood.harness true
    frontEscapes_row (fun _ h => by cases h) (by kernel_rfl) (fun _ h => by cases h) frontEscapes_row_tie rfl ⟨rfl, rfl⟩ (by kernel_rfl) rfl
    (fun f fn hf hfn => by
      obtain rfl : f = 4 := Option.some.inj ((show Tryz.prog.funcNamed "tiller/tillerlaw13.FrontEscapes" = some 4 by kernel_rfl).symm.trans hf) |>.symm
      obtain rfl : fn = Tryz.f4 := (Option.some.inj (Tryz.func4.symm.trans hfn)).symm
      exact ⟨by kernel_rfl, fun j t ht => by
        rw [Tryz.params4] at ht
        have hm : t ∈ [31, 4] := by simpa using Array.mem_of_getElem? ht
        have hall : ([31, 4].all fun u => !Tryz.prog.wantsStandIn u) = true := by kernel_rfl
        exact (show Tryz.prog.wantsStandIn t = false by simpa using List.all_eq_true.1 hall t hm)⟩)
    (by kernel_rfl)

end Go.Proofs.YtimipkhjcgmioabGreatDoor
