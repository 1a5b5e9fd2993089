/-
  FrontReplies: a text is quoted, a reply is written, a path is cut and an error is told as the document does. For every list of texts, every status and every list of codes.
-/
import Derived.Test.YtimipkhjcgmioaaGreatDoorFRep6
import Derived.Test.YtimipkhjcgmioaaGreatDoorFQry
import Derived.Test.YtimipkhjcgmioaaGreatDoorFWakes
import Derived.Test.YtimipkhjcgmioaaGreatDoorFRefQ
import Derived.Deep.Strs
import Derived.Laws.Cover4
namespace Go.Proofs.YtimipkhjcgmioaaGreatDoor
open Go.ChangeShapes Go.WideShapes Go.ChangeAt Go.RowKit Go.Deep

/-- Texts that are handed in. -/
def StrsAt (w : World) (a : Option Addr) (len : Nat) (S : Nat → ByteArray) : Prop :=
  len = 0 ∨ ∃ b o, a = some ⟨b, o, none⟩ ∧ ∀ i, i < len → w.cell? ⟨b, o + i, none⟩ = some (.string (S i)) ∧ (S i).size ≤ maxLen

theorem strs_open {H : Type} {enc : TypeId × Value → H} {P : Program} {w : World} {base : Nat} {held : Bool} {t e : TypeId} {fuel : Nat} {v : Value} {x : DataW H × List MemPlace} (ht : P.underlying t = some (.slice e)) (he : P.underlying e = some .string) (hc : P.cellsOf e = 1)
    (h : DataW.trod enc P w base (fun _ => true) held fuel t [v] = some x) : ∃ a len cap S, v = .slice a len cap ∧ len ≤ cap ∧ cap ≤ maxLen ∧ StrsAt w a len S := by
  rcases open_strs ht he hc h with ⟨hcs, _⟩ | ⟨a, l, c, m, S, hcs, _, hl, hm, hmm, _, hcell⟩
  · simp only [List.cons.injEq, and_true] at hcs
    exact ⟨_, _, _, fun _ => ByteArray.empty, hcs, Nat.le_refl _, Nat.zero_le _, .inl rfl⟩
  · simp only [List.cons.injEq, and_true] at hcs
    simp only [if_true] at hmm
    subst hmm
    rcases Nat.eq_zero_or_pos l with h0 | h0
    · exact ⟨_, _, _, S, hcs, hl, hm, .inl h0⟩
    · obtain ⟨b, o, rfl⟩ := addr_form (hcell 0 (by omega)).1
      exact ⟨_, _, _, S, hcs, hl, hm, .inr ⟨b, o, rfl, fun i hi => by have := hcell i (by omega); rw [Addr.add_lit] at this; exact this⟩⟩

theorem StrsAt.kept {w w' : World} {a : Option Addr} {len : Nat} {S : Nat → ByteArray} (h : StrsAt w a len S) (K : Kept (fun _ => False) w w') : StrsAt w' a len S := by
  rcases h with h0 | ⟨b, o, rfl, hc⟩
  · exact .inl h0
  · refine .inr ⟨b, o, rfl, fun i hi => ?_⟩
    have h := hc i hi
    rw [World.cell?_of_block (w := w) (K.block _ (World.block_lt_of_cell? w _ h.1) (fun h => h))]
    exact h

set_option maxRecDepth 100000 in
theorem short_any (w : World) (s : ByteArray) (hs : s.size ≤ maxLen) : ∃ l : List UInt8, l.length ≤ 1500 ∧ Calls Tryz.prog 15 #[.string s] w fun e w' => e = .returned (.string (mkB l)) ∧ w' = w := by
  unfold maxLen at hs
  by_cases h : 1500 < s.size
  · refine ⟨(s.extract 0 1500).data.toList, ?_, ?_⟩
    · have : (s.extract 0 1500).data.toList.length = (s.extract 0 1500).size := Array.length_toList
      rw [this, ByteArray.size_extract]
      omega
    · rw [mkB_of]
      have h1 : (s.size : Int) > 1500 := by omega
      have h2 : (1500 : Int) ≤ (s.size : Int) := by omega
      go_enter Tryz.func15, Tryz.ntmps15
      go_wp2
      go_ret
      exact ⟨rfl, rfl⟩
  · refine ⟨s.data.toList, ?_, ?_⟩
    · have : s.data.toList.length = s.size := Array.length_toList
      omega
    · rw [mkB_of]
      have h1 : ¬ (s.size : Int) > 1500 := by omega
      go_enter Tryz.func15, Tryz.ntmps15
      go_wp2
      go_ret
      exact ⟨rfl, rfl⟩

theorem RowF.kept {w w' : World} {v : Value} {n : Nat} (h : RowF w v n) (K : Kept (fun _ => False) w w') : RowF w' v n := by
  obtain ⟨g, cap, cur, e, fz, hv, hh, hf, h1, h2, h3⟩ := h
  exact ⟨g, cap, cur, e, fz, hv, (K.block g (Array.getElem?_eq_some_iff.1 hh).1 (fun h => h)).trans hh, hf, h1, h2, h3⟩

/-- The bytes of a reply are its text. -/
theorem reply_str (W V : World) (l : List UInt8) (K : Kept (fun _ => False) (Lib.bytesWorld W 5 (mkB l)) V) :
    (convert 23 9 (.slice (some ⟨W.heap.size, 0, none⟩) l.length (grownCap W l.length 0 5))).run Tryz.prog V = .ok (.string (mkB l)) V := by
  have B : BytesAt V (some ⟨W.heap.size, 0, none⟩) l.length (grownCap W l.length 0 5) (l.map (fun b => (b.toNat : Int))) := by
    refine ⟨by simp, grownCap_ge W l.length 0 5, fun h => (by cases h), fun ad e j u hu => ?_, fun y hy => ?_⟩
    · cases e
      have hj : j < l.length := by have := (List.getElem?_eq_some_iff.1 hu).1; simpa using this
      have hc := Lib.bytesWorld_cell W 5 (mkB l) j (by rw [mkB_size]; exact hj)
      rw [Addr.add_lit, Nat.zero_add, World.cell?_of_block (w := Lib.bytesWorld W 5 (mkB l)) (K.block _ (World.block_lt_of_cell? _ _ hc) (fun h => h)), hc]
      simp [mkB, hj] at hu ⊢
      exact hu
    · obtain ⟨b, _, rfl⟩ := List.mem_map.1 hy
      have := b.toNat_lt
      omega
  have h := B.str
  rwa [nums_mk] at h

/-- What the document's Reply gives, as a text. -/
theorem refReply_str (V : World) (n : Int) (body : List UInt8) (hlo : -9223372036854775808 ≤ n) (hhi : n ≤ 9223372036854775807) (hb : body.length ≤ 1000000000) :
    Calls Tryz.prog 33 #[.int .i64 n, .string (mkB body)] V fun e w' => ∃ a n' c, e = .returned (.slice a n' c) ∧ Kept (fun _ => False) V w' ∧ (convert 23 9 (.slice a n' c)).run Tryz.prog w' = .ok (.string (mkB (replyP n body))) w' :=
  (refReply_any V n body hlo hhi hb).mono fun e w' ⟨W, K, he, hw⟩ => ⟨_, _, _, he, by rw [hw]; exact K.and (bytesKept _ _ _ _), by rw [hw]; exact reply_str W _ _ (Kept.refl _ _)⟩

theorem replyP_len (n : Int) (body : List UInt8) (hlo : -9223372036854775808 ≤ n) (hhi : n ≤ 9223372036854775807) (hb : body.length ≤ 1500) : (replyP n body).length ≤ 10000 := by
  have h1 := itoa_le n hlo hhi
  have h2 := itoa_le (body.length : Int) (by omega) (by omega)
  have h3 := wordP_len n
  unfold replyP
  simp only [List.length_append, List.length_cons, List.length_nil]
  omega

set_option maxRecDepth 100000 in
set_option maxHeartbeats 4000000 in
theorem frontReplies_walk (w : World) (a : Option Addr) (len cap : Nat) (S : Nat → ByteArray) (st : Int) (a2 : Option Addr) (len2 cap2 : Nat) (z : Nat → Int) (hS : StrsAt w a len S) (hlo : -9223372036854775808 ≤ st) (hhi : st ≤ 9223372036854775807) (hN : NumsIn w a2 len2 z) (T : Utf8At w) (M : MaxAt w) (P10 : Pow10 w) :
    Calls Tryz.prog 6 #[.slice a len cap, .int .i64 st, .slice a2 len2 cap2] w fun e w' => e = .returned (.bool true) ∧ Below w.heap.size w w' := by
  have HT := hid T
  have HM := hid M
  have HN := hid hN
  have HS := hid hS
  have HP := hid P10
  clear T M hN hS P10
  go_enter Tryz.func6, Tryz.ntmps6
  go_wp2
  go_loopw [7] (fun i wr => ∃ (k : Nat), k ≤ len ∧ i = .int .i64 (k : Int) ∧ Kept (fun _ => False) w wr) (fun i _ => len - (intOf i).toNat)
  case atStart => exact ⟨0, Nat.zero_le _, rfl, Kept.refl _ _⟩
  case round =>
    obtain ⟨k, hk, rfl, K⟩ := hrel
    have HK := hid K
    by_cases hlt : k < len ∧ k < 12
    · obtain ⟨h1, h2⟩ := hlt
      have e1 : (k : Int) < (len : Int) := by omega
      have e2 : (k : Int) < 12 := by omega
      rcases HS.out.kept K with h0 | ⟨b, o, rfl, hcell⟩
      · omega
      · obtain ⟨c0, hsz⟩ := hcell k h1
        obtain ⟨l, hl, hSh⟩ := short_any wr (S k) hsz
        have hRp := reply_any wr st l hlo hhi (by omega) (HP.out.kept K)
        have hlen := replyP_len st l hlo hhi hl
        have HRS := hid (fun V => refReply_str V st l hlo hhi (by omega))
        have HQ := hid (fun V (T : Utf8At V) => quote_any V (mkB l) (by rw [mkB_size]; omega) T)
        have HRQ := hid (fun V => refQuote_any V (mkB l) (by rw [mkB_size]; omega))
        have HY := hid (fun V (M : MaxAt V) => query_any V l (by omega) M)
        have HRY := hid (fun V => refQuery_any V l (by omega))
        have HRep := hid (fun W V => reply_str W V (replyP st l))
        have HRow := hid (fun W => RowF.ofBytes W (replyP st l))
        clear hcell hsz K
        generalize S k = sk at *
        generalize mkB (quoteP (mkB l)) = qs at *
        generalize mkB (Lib.cut l [63]).1 = y1 at *
        generalize mkB (Lib.cut l [63]).2.1 = y2 at *
        generalize replyP st l = rl at *
        generalize mkB l = sb at *
        go_wp2_with (first
          | (go_at_call 15; refine hSh.mono ?_; rintro e w1 ⟨rfl, hw1⟩; subst w1; clear hSh)
          | (go_at_call 31; refine hRp.mono ?_; rintro e w2 ⟨W, KW, rfl, hw2⟩; clear hRp; have HW2 := hid hw2; clear hw2)
          | fail)
        have hw2 := HW2.out
        clear HW2
        have K2 : Kept (fun _ => False) w w2 := HK.out.and (KW.and (by rw [hw2]; exact bytesKept _ _ _ _))
        have HK2 := hid K2
        have hcv : ∀ V, Kept (fun _ => False) w2 V → (convert 23 9 (.slice (some ⟨W.heap.size, 0, none⟩) rl.length (grownCap W rl.length 0 5))).run Tryz.prog V = .ok (.string (mkB rl)) V := fun V KV => HRep.out W V (by rw [hw2] at KV; exact KV)
        have hrow : RowF w2 (.slice (some ⟨W.heap.size, 0, none⟩) rl.length (grownCap W rl.length 0 5)) rl.length := by rw [hw2]; exact HRow.out W
        have hq := HQ.out w2.drew (HT.out.kept (K2.and (Kept.drew _ _)))
        have hg : w.heap.size ≤ W.heap.size := (HK.out.and KW).size
        have HG := hid hg
        have HL := hid hlen
        have HROW := hid hrow
        clear hw2 HRep HRow KW K2 hrow hg hlen
        generalize W.heap.size = g at *
        generalize grownCap W rl.length 0 5 = cp at *
        generalize mkB rl = rp at *
        generalize rl.length = ln at *
        refine wp_onlyN (replies6 (rp := rp) (qs := qs) _ hcv hq HRQ.out HRS.out ?_)
        intro v37 v38 v39 v40 v41 v42 v43 v44 v45 v46 v47 v48 v49 w7 K7
        clear hcv hq HRQ HRS HQ
        have hsp : Calls Tryz.prog 34 #[.slice (some ⟨g, 0, none⟩) ln cp] w7 fun e w' => e = .returned (.tuple #[]) ∧ Kept (fun _ => False) w w' :=
          (spoilF_any w7 _ _ (HROW.out.kept K7) (by have := HL.out; omega)).mono fun e w' ⟨he, K2⟩ => ⟨he, (HK2.out.and K7).trans K2 fun k hk => .inr (by
            have hkk : g = k := Option.some.inj hk
            have := HG.out
            omega)⟩
        have q1 : (y1.toList == y1.toList) = true := by simp
        have q2 : (y2.toList == y2.toList) = true := by simp
        clear K7
        go_wp2_with (first
          | (go_at_call 34; refine hsp.mono ?_; rintro e w8 ⟨rfl, K8⟩; clear hsp; have hqy := HY.out w8 (HM.out.kept K8); have HK8 := hid K8; clear K8)
          | (go_at_call 35; refine hqy.mono ?_; rintro e w9 ⟨rfl, K9⟩; clear hqy; have HK9 := hid (HK8.out.and K9); clear K9)
          | (go_at_call 36; refine (HRY.out _).mono ?_; rintro e w10 ⟨rfl, K10⟩; have HK10 := hid (HK9.out.and K10); clear K10)
          | fail)
        go_roundw
        case rel => exact ⟨k + 1, by omega, by go_num, HK10.out⟩
        case measure => simp [intOf]; omega
    · have e1 : (k : Int) < (len : Int) ∨ ¬ (k : Int) < (len : Int) := by omega
      clear K
      rcases e1 with e1 | e1
      · have e2 : ¬ (k : Int) < 12 := by omega
        go_wp2
        go_loopw [14] (fun i wr' => ∃ (j : Nat), j ≤ len2 ∧ i = .int .i64 (j : Int) ∧ Kept (fun _ => False) w wr') (fun i _ => len2 - (intOf i).toNat)
        case atStart => exact ⟨0, Nat.zero_le _, rfl, HK.out⟩
        case round =>
          obtain ⟨j, hj, rfl, KJ⟩ := hrel
          have HKJ := hid KJ
          by_cases hlt2 : j < len2 ∧ j < 30
          · obtain ⟨g1, g2⟩ := hlt2
            have e3 : (j : Int) < (len2 : Int) := by omega
            have e4 : (j : Int) < 30 := by omega
            rcases HN.out with h0 | ⟨b2, o2, rfl, hcell⟩
            · omega
            · have HC : Hid (∀ V, Kept (fun _ => False) w V → V.cell? ⟨b2, o2 + j, none⟩ = some (.int .i64 (z j))) := fun V KV => by
                rw [World.cell?_of_block (w := w) (KV.block _ (World.block_lt_of_cell? w _ (hcell j g1)) (fun h => h))]
                exact hcell j g1
              have c0 := HC.out _ KJ
              have hE := error_any wr (z j) (HT.out.kept KJ)
              have HRE := hid (fun V => refError_any V (z j))
              clear hcell KJ
              generalize (refP (z j)).1 = r1 at *
              generalize mkB (errP (z j)) = r2 at *
              generalize z j = zj at *
              have q3 : (r2.toList == r2.toList) = true := by simp
              go_wp2_with (first
                | (go_at_call 37; refine hE.mono ?_; rintro e w3 ⟨rfl, K3⟩; clear hE; have c3 := HC.out _ (HKJ.out.and K3); have HK3 := hid (HKJ.out.and K3); clear K3)
                | (go_at_call 38; refine (HRE.out _).mono ?_; rintro e w4 ⟨rfl, hw4⟩; subst w4)
                | fail)
              go_roundw
              case rel => exact ⟨j + 1, by omega, by go_num, HK3.out⟩
              case measure => simp [intOf]; omega
          · have e3 : (j : Int) < (len2 : Int) ∨ ¬ (j : Int) < (len2 : Int) := by omega
            have hWk := wakes_any wr (HT.out.kept KJ) (HM.out.kept KJ)
            rcases e3 with e3 | e3
            · have e4 : ¬ (j : Int) < 30 := by omega
              go_wp2_with (first
                | (go_at_call 14; refine hWk.mono ?_; rintro e w2 ⟨rfl, K2⟩; clear hWk)
                | fail)
              go_ret
              exact ⟨rfl, (HKJ.out.and K2).below (Nat.le_refl _) (fun i h => h.elim)⟩
            · go_wp2_with (first
                | (go_at_call 14; refine hWk.mono ?_; rintro e w2 ⟨rfl, K2⟩; clear hWk)
                | fail)
              go_ret
              exact ⟨rfl, (HKJ.out.and K2).below (Nat.le_refl _) (fun i h => h.elim)⟩
      · go_wp2
        go_loopw [14] (fun i wr' => ∃ (j : Nat), j ≤ len2 ∧ i = .int .i64 (j : Int) ∧ Kept (fun _ => False) w wr') (fun i _ => len2 - (intOf i).toNat)
        case atStart => exact ⟨0, Nat.zero_le _, rfl, HK.out⟩
        case round =>
          obtain ⟨j, hj, rfl, KJ⟩ := hrel
          have HKJ := hid KJ
          by_cases hlt2 : j < len2 ∧ j < 30
          · obtain ⟨g1, g2⟩ := hlt2
            have e3 : (j : Int) < (len2 : Int) := by omega
            have e4 : (j : Int) < 30 := by omega
            rcases HN.out with h0 | ⟨b2, o2, rfl, hcell⟩
            · omega
            · have HC : Hid (∀ V, Kept (fun _ => False) w V → V.cell? ⟨b2, o2 + j, none⟩ = some (.int .i64 (z j))) := fun V KV => by
                rw [World.cell?_of_block (w := w) (KV.block _ (World.block_lt_of_cell? w _ (hcell j g1)) (fun h => h))]
                exact hcell j g1
              have c0 := HC.out _ KJ
              have hE := error_any wr (z j) (HT.out.kept KJ)
              have HRE := hid (fun V => refError_any V (z j))
              clear hcell KJ
              generalize (refP (z j)).1 = r1 at *
              generalize mkB (errP (z j)) = r2 at *
              generalize z j = zj at *
              have q3 : (r2.toList == r2.toList) = true := by simp
              go_wp2_with (first
                | (go_at_call 37; refine hE.mono ?_; rintro e w3 ⟨rfl, K3⟩; clear hE; have c3 := HC.out _ (HKJ.out.and K3); have HK3 := hid (HKJ.out.and K3); clear K3)
                | (go_at_call 38; refine (HRE.out _).mono ?_; rintro e w4 ⟨rfl, hw4⟩; subst w4)
                | fail)
              go_roundw
              case rel => exact ⟨j + 1, by omega, by go_num, HK3.out⟩
              case measure => simp [intOf]; omega
          · have e3 : (j : Int) < (len2 : Int) ∨ ¬ (j : Int) < (len2 : Int) := by omega
            have hWk := wakes_any wr (HT.out.kept KJ) (HM.out.kept KJ)
            rcases e3 with e3 | e3
            · have e4 : ¬ (j : Int) < 30 := by omega
              go_wp2_with (first
                | (go_at_call 14; refine hWk.mono ?_; rintro e w2 ⟨rfl, K2⟩; clear hWk)
                | fail)
              go_ret
              exact ⟨rfl, (HKJ.out.and K2).below (Nat.le_refl _) (fun i h => h.elim)⟩
            · go_wp2_with (first
                | (go_at_call 14; refine hWk.mono ?_; rintro e w2 ⟨rfl, K2⟩; clear hWk)
                | fail)
              go_ret
              exact ⟨rfl, (HKJ.out.and K2).below (Nat.le_refl _) (fun i h => h.elim)⟩

theorem wf_bounds {n : Int} (h : (Lit.int .i64 n).wf = true) : -9223372036854775808 ≤ n ∧ n ≤ 9223372036854775807 := by
  simp only [Lit.wf, Bool.and_eq_true, decide_eq_true_eq] at h
  exact ⟨h.1, h.2⟩

end Go.Proofs.YtimipkhjcgmioaaGreatDoor
