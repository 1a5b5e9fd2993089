/-
  Texts that are handed in to a law, and the law's cut of a text.
-/
import Derived.Test.YtfiaaaflpjpnjaaGreatDoorFBld
import Derived.Test.YtfiaaaflpjpnjaaGreatDoorFCard
import Derived.Test.YtfiaaaflpjpnjaaGreatDoorWM1
import Derived.Test.YtfiaaaflpjpnjaaGreatDoorWM2
import Derived.Test.YtfiaaaflpjpnjaaGreatDoorFUtf
import Derived.Test.YtfiaaaflpjpnjaaGreatDoorFHdW
import Derived.Test.YtfiaaaflpjpnjaaGreatDoorFWakes
import Derived.Deep.Strs
import Derived.Laws.Cover4
import Derived.Deep.CutRange
import Derived.SizedLaws
namespace Go.Proofs.YtfiaaaflpjpnjaaGreatDoor
open Go.ChangeShapes Go.WideShapes Go.ChangeAt Go.RowKit Go.Deep

/-- Texts that are handed in. -/
def StrsAt (w : World) (a : Option Addr) (len : Nat) (S : Nat → ByteArray) : Prop :=
  len = 0 ∨ ∃ b o, a = some ⟨b, o, none⟩ ∧ ∀ i, i < len → w.cell? ⟨b, o + i, none⟩ = some (.string (S i)) ∧ (S i).size ≤ maxLen

theorem strs_open {H : Type} {enc : TypeId × Value → H} {P : Program} {w : World} {base : Nat} {held : Bool} {t e : TypeId} {fuel : Nat} {v : Value} {x : DataW H × List MemPlace} (ht : P.underlying t = some (.slice e)) (he : P.underlying e = some .string) (hc : P.cellsOf e = 1)
    (h : DataW.trod enc P w base (fun _ => true) held fuel t [v] = some x) : ∃ a len cap S, v = .slice a len cap ∧ len ≤ cap ∧ cap ≤ maxLen ∧ StrsAt w a len S := by
  rcases open_strs ht he hc h with ⟨hcs, _⟩ | ⟨a, l, c, m, S, hcs, _, hl, hm, hmm, _, hcell⟩
  · simp only [List.cons.injEq, and_true] at hcs
    exact ⟨_, _, _, fun _ => ByteArray.empty, hcs, Nat.le_refl _, Nat.zero_le _, .inl rfl⟩
  · simp only [List.cons.injEq, and_true] at hcs
    simp only [if_true] at hmm
    subst hmm
    rcases Nat.eq_zero_or_pos l with h0 | h0
    · exact ⟨_, _, _, S, hcs, hl, hm, .inl h0⟩
    · obtain ⟨b, o, rfl⟩ := addr_form (hcell 0 (by omega)).1
      exact ⟨_, _, _, S, hcs, hl, hm, .inr ⟨b, o, rfl, fun i hi => by have := hcell i (by omega); rw [Addr.add_lit] at this; exact this⟩⟩

theorem StrsAt.kept {w w' : World} {a : Option Addr} {len : Nat} {S : Nat → ByteArray} (h : StrsAt w a len S) (K : Kept (fun _ => False) w w') : StrsAt w' a len S := by
  rcases h with h0 | ⟨b, o, rfl, hc⟩
  · exact .inl h0
  · refine .inr ⟨b, o, rfl, fun i hi => ?_⟩
    have h := hc i hi
    rw [World.cell?_of_block (w := w) (K.block _ (World.block_lt_of_cell? w _ h.1) (fun h => h))]
    exact h


theorem wf_bounds {n : Int} (h : (Lit.int .i64 n).wf = true) : -9223372036854775808 ≤ n ∧ n ≤ 9223372036854775807 := by
  simp only [Lit.wf, Bool.and_eq_true, decide_eq_true_eq] at h
  exact ⟨h.1, h.2⟩

end Go.Proofs.YtfiaaaflpjpnjaaGreatDoor

/-
  Rows of bytes that are handed in; a row of bytes as a text.
-/
namespace Go.Proofs.YtfiaaaflpjpnjaaGreatDoor
open Go.ChangeShapes Go.WideShapes Go.ChangeAt Go.RowKit

abbrev PX := Option Addr × Nat × Nat × List Int

/-- Rows of bytes that are handed in. -/
def RowsAt (w : World) (a : Option Addr) (n : Nat) (A : Nat → PX) : Prop :=
  n = 0 ∨ ∃ vb vo, a = some ⟨vb, vo, none⟩ ∧ ∀ i, i < n → w.cell? ⟨vb, vo + i, none⟩ = some (.slice (A i).1 (A i).2.1 (A i).2.2.1) ∧ BytesAt w (A i).1 (A i).2.1 (A i).2.2.1 (A i).2.2.2

set_option maxRecDepth 100000 in
theorem rows_open {H : Type} {enc : TypeId × Value → H} {W : World} {base : Nat} {held : Bool} {v : Value} {fuel : Nat} {x : DataW H × List MemPlace} (hf : DataW.trod enc Tryz.prog W base (fun _ => true) held fuel 22 [v] = some x) (hv : ∃ a n c, v = .slice a n c) :
    ∃ a n c A, v = .slice a n c ∧ n ≤ maxLen ∧ RowsAt W a n A := by
  obtain ⟨a0, n0, c0, rfl⟩ := hv
  haveI : Inhabited PX := ⟨(none, 0, 0, [])⟩
  rcases Deep.open_slice1 Tryz.underlying22 (by kernel_rfl) hf with ⟨hcs, _⟩ | ⟨a, len, cap, m, n, V, D, Pl, hcs, hb, hl, hm, hmm, _, hel⟩
  · simp only [List.cons.injEq, and_true, Value.slice.injEq] at hcs
    obtain ⟨rfl, rfl, rfl⟩ := hcs
    exact ⟨none, 0, 0, fun _ => default, rfl, Nat.zero_le _, .inl rfl⟩
  · simp only [List.cons.injEq, and_true, Value.slice.injEq] at hcs
    obtain ⟨rfl, rfl, rfl⟩ := hcs
    have hlm : n0 ≤ m := by rw [hmm]; split <;> omega
    have each : ∀ i, i < n0 → ∃ x : PX, V i = .slice x.1 x.2.1 x.2.2.1 ∧ BytesAt W x.1 x.2.1 x.2.2.1 x.2.2.2 := by
      intro i hi
      obtain ⟨_, h2⟩ := hel i (by omega)
      obtain ⟨a1, l1, c1, zs, e, h⟩ := isRow_open Tryz.underlying23 Tryz.underlying5 (by kernel_rfl) h2
      exact ⟨(a1, l1, c1, zs.take l1), e, h.bytes⟩
    obtain ⟨q, hq⟩ := Deep.choose_lt each
    refine ⟨some a, n0, c0, q, rfl, by omega, ?_⟩
    rcases Nat.eq_zero_or_pos n0 with h0 | h0
    · exact .inl h0
    · have h00 := (hel 0 (by omega)).1
      rw [(hq 0 h0).1] at h00
      obtain ⟨b, off, rfl⟩ := addr_form h00
      refine .inr ⟨b, off, rfl, fun i hi => ⟨?_, (hq i hi).2⟩⟩
      have hc := (hel i (by omega)).1
      rw [(hq i hi).1, Addr.add_lit] at hc
      exact hc

/-- A row of bytes as a text. -/
theorem row_text {w : World} {a : Option Addr} {m c : Nat} {l : List Int} (B : BytesAt w a m c l) : ∃ b o, (strOfNums l).size = m ∧ (0 < (strOfNums l).size → a = some ⟨b, o, none⟩) ∧ m ≤ c ∧ BsAt w b o (strOfNums l) := by
  have hsz : (strOfNums l).size = m := by
    rw [← B.len]
    simp [strOfNums, ByteArray.size]
  cases a with
  | none =>
    have h0 := B.nil rfl
    refine ⟨0, 0, hsz, fun h => by omega, B.cap, fun j hj => by omega⟩
  | some ad =>
    rcases Nat.eq_zero_or_pos m with h0 | h0
    · exact ⟨0, 0, hsz, fun h => by omega, B.cap, fun j hj => by omega⟩
    · have hl0 : 0 < l.length := by rw [B.len]; exact h0
      have hc0 := B.cells ad rfl 0 (.int .u8 l[0]) (by rw [List.getElem?_map, List.getElem?_eq_getElem hl0]; rfl)
      obtain ⟨b, o, rfl⟩ := addr_form hc0
      refine ⟨b, o, hsz, fun _ => rfl, B.cap, fun j hj => ?_⟩
      have hlj : j < l.length := by rw [B.len]; omega
      have hcj := B.cells _ rfl j (.int .u8 l[j]) (by rw [List.getElem?_map, List.getElem?_eq_getElem hlj]; rfl)
      rw [Addr.add_lit] at hcj
      rw [hcj]
      have hb := B.byte l[j] (List.getElem_mem hlj)
      have hx : (strOfNums l)[j]'hj = UInt8.ofNat (l[j]).toNat := by
        have h1 := Lib.data_getElem? (strOfNums l) j hj
        have h2 : (strOfNums l).data.toList = l.map (fun n => UInt8.ofNat n.toNat) := by simp [strOfNums]
        rw [h2, List.getElem?_map, List.getElem?_eq_getElem hlj] at h1
        exact (Option.some.inj h1).symm
      rw [← atB_is hj, hx]
      have : ((UInt8.ofNat (l[j]).toNat).toNat : Int) = l[j] := by
        rw [UInt8.toNat_ofNat']
        omega
      rw [this]

/-- Bytes' beginning. -/
theorem BytesAt.first {w : World} {a : Option Addr} {m c : Nat} {l : List Int} (B : BytesAt w a m c l) {k : Nat} (hk : k ≤ m) : BytesAt w a k c (l.take k) := by
  refine ⟨by rw [List.length_take, B.len]; omega, Nat.le_trans hk B.cap, fun h => by have := B.nil h; omega, fun ad h j u hu => ?_, fun y hy => B.byte y (List.mem_of_mem_take hy)⟩
  refine B.cells ad h j u ?_
  rw [List.map_take, List.getElem?_take] at hu
  split at hu
  · exact hu
  · cases hu

end Go.Proofs.YtfiaaaflpjpnjaaGreatDoor

/-
  Read: any bytes, read as the data say.
-/
namespace Go.Proofs.YtfiaaaflpjpnjaaGreatDoor
open Go.RowKit

set_option maxRecDepth 100000 in
set_option maxHeartbeats 16000000 in
theorem read_any (w : World) (ad : Option Addr) (cp b o : Nat) (s : ByteArray) (had : 0 < s.size → ad = some ⟨b, o, none⟩) (hcp : s.size ≤ cp) (hs : s.size ≤ 1000000) (B : BsAt w b o s) (T : Utf8At w) (MX : MaxAt w) :
    Calls Tryz.prog 7 #[.slice ad s.size cp] w fun e w' => e = .returned (rdV (rdP s)) ∧ Kept (fun _ => False) w w' := by
  have HB := hid B
  have HT := hid T
  have HM := hid MX
  have HK1 : Hid (Kept (fun _ => False) w (w.alloc (.cells #[.int .u8 13, .int .u8 10, .int .u8 13, .int .u8 10] 5 (4, 5)))) := Kept.alloc _ _ _
  have hcc := Lib.run_convert_bytes_const w 23 5 #[.int .u8 13, .int .u8 10, .int .u8 13, .int .u8 10] 4 4 Tryz.underlying23 Tryz.underlying5
  obtain ⟨M, hM⟩ : ∃ M, M = min s.size 4096 := ⟨_, rfl⟩
  have hI := index_any (w.alloc (.cells #[.int .u8 13, .int .u8 10, .int .u8 13, .int .u8 10] 5 (4, 5))) ad M cp b o w.heap.size s had hM hcp (B.kept HK1.out) (MX.kept HK1.out) (heap_alloc_new w (.cells #[.int .u8 13, .int .u8 10, .int .u8 13, .int .u8 10] 5 (4, 5)))
  have hmin : min ((s.size : Nat) : Int) 4096 = ((M : Nat) : Int) := by omega
  have hMc : ((M : Nat) : Int) ≤ ((cp : Nat) : Int) := by omega
  clear hM B T MX
  by_cases h0 : 0 ≤ cutAt s
  · go_enter Tryz.func7, Tryz.ntmps7
    have hroom := cutAt_room h0
    obtain ⟨hd, hhd⟩ : ∃ hd, hd = s.extract 0 (cutAt s).toNat := ⟨_, rfl⟩
    have hhz : hd.size = (cutAt s).toNat := by rw [hhd, ByteArray.size_extract]; omega
    have hhB : BsAt w b o hd := by
      rw [hhd]
      have := HB.out.sub (k := 0) (n := (cutAt s).toNat) (by omega)
      rwa [Nat.add_zero] at this
    have hcv : ∀ W, Kept (fun _ => False) w W → (convert 23 9 (.slice ad hd.size cp)).run Tryz.prog W = .ok (.string hd) W := fun W K => bs_str (fun h => had (by omega)) (by omega) (hhB.kept K)
    have HHd : Hid (s.extract 0 (cutAt s).toNat = hd) := hhd.symm
    obtain ⟨z, hz⟩ : ∃ z : Int, z = cutAt s := ⟨_, rfl⟩
    have hza : z = ((hd.size : Nat) : Int) := by omega
    have c0 : ¬ ((hd.size : Nat) : Int) < 0 := by omega
    have c1 : ((hd.size : Nat) : Int) ≤ ((cp : Nat) : Int) := by omega
    have hI2 : Calls Tryz.prog 13 #[.slice ad M cp, .slice (some ⟨w.heap.size, 0, none⟩) 4 4] (w.alloc (.cells #[.int .u8 13, .int .u8 10, .int .u8 13, .int .u8 10] 5 (4, 5))) fun e w' => e = .returned (.int .i64 ((hd.size : Nat) : Int)) ∧ Kept (fun _ => False) (w.alloc (.cells #[.int .u8 13, .int .u8 10, .int .u8 13, .int .u8 10] 5 (4, 5))) w' := by
      rw [← hza, hz]; exact hI
    have hHd0 := fun V (K : Kept (fun _ => False) w V) => head_any V hd (by omega) (HM.out.kept K)
    have HHd0 := hid hHd0
    have HCV := hid hcv
    have HX := hid hza
    clear hI hhB hhz hhd hcv hHd0 hza
    go_upto_region 2 with (first
      | (go_at_call 13; refine hI2.mono ?_; rintro e w3 ⟨rfl, K3⟩; clear hI2 hcc; have HK3 := hid (HK1.out.and K3); clear K3)
      | fail)
    have cv := HCV.out w3 HK3.out
    have hHd := HHd0.out w3 HK3.out
    clear HHd0 HCV HK1
    cases hx : hdP hd with
    | none =>
      rw [hx] at hHd
      have HG : Hid (rdP s = (⟨#[]⟩, ⟨#[]⟩, ⟨#[]⟩, 400)) := by
        show _ = _
        unfold rdP
        rw [if_neg (by omega), HHd.out, hx]
      clear hx
      have hHd2 : Calls Tryz.prog 14 #[.string hd] w3 fun e w' => e = .returned (.tuple #[.agg #[.string ⟨#[]⟩, .string ⟨#[]⟩, .int .i64 0], .bool false]) ∧ Kept (fun _ => False) w3 w' := hHd
      clear hHd
      go_upto_region 8 with (first
        | (go_at_call 14; refine hHd2.mono ?_; rintro e w4 ⟨rfl, K4⟩; clear hHd2; have HK4 := hid ((HK3.out.and K4).and (Kept.alloc (fun _ => False) w4 (.cells #[.string ⟨#[]⟩, .string ⟨#[]⟩, .int .i64 0] 35))); clear K4)
        | fail)
      go_wp2
      refine bodyPost_ret (by simp [results, Tryz.results7, go_sem]; try rfl) rfl ?_
      exact ⟨by rw [HG.out]; rfl, HK4.out⟩
    | some x =>
      obtain ⟨m, p, n⟩ := x
      rw [hx] at hHd
      have hHd2 : Calls Tryz.prog 14 #[.string hd] w3 fun e w' => e = .returned (.tuple #[.agg #[.string m, .string p, .int .i64 ((n : Nat) : Int)], .bool true]) ∧ Kept (fun _ => False) w3 w' := hHd
      clear hHd
      have HG1 : Hid (rdP s = if (m.data.toList == [71, 69, 84]) = false ∧ (m.data.toList == [80, 79, 83, 84]) = false then (⟨#[]⟩, ⟨#[]⟩, ⟨#[]⟩, 405) else if 4096 < n then (⟨#[]⟩, ⟨#[]⟩, ⟨#[]⟩, 413) else if (s.extract ((cutAt s).toNat + 4) s.size).size ≠ n ∨ vf (s.extract ((cutAt s).toNat + 4) s.size) 0 = false then (⟨#[]⟩, ⟨#[]⟩, ⟨#[]⟩, 400) else (m, p, s.extract ((cutAt s).toNat + 4) s.size, 200)) := by
        show _ = _
        unfold rdP
        rw [if_neg (by omega), HHd.out, hx]
      clear hx
      go_upto_region 9 with (first
        | (go_at_call 14; refine hHd2.mono ?_; rintro e w4 ⟨rfl, K4⟩; clear hHd2; have HK4 := hid (HK3.out.and K4); clear K4)
        | fail)
      have HK5 := hid (HK4.out.and (Kept.alloc (fun _ => False) w4 (.cells #[.string m, .string p, .int .i64 ((n : Nat) : Int)] 35)))
      have hb5 := heap_alloc_new w4 (.cells #[.string m, .string p, .int .i64 ((n : Nat) : Int)] 35)
      have hsz5 : w.heap.size ≤ w4.heap.size := HK4.out.size
      generalize w4.alloc (.cells #[.string m, .string p, .int .i64 ((n : Nat) : Int)] 35) = w5 at *
      generalize w4.heap.size = hb at *
      obtain ⟨⟨y0, y1, y2⟩, _⟩ := three_cells hb5
      have HB5 := hid hb5
      clear hb5 hsz5
      cases hg1 : (m.data.toList == [71, 69, 84]) with
      | true =>
        have g1 : (m.toList == [71, 69, 84]) = true := by rw [Lib.toList_data]; exact hg1
        by_cases hn4 : 4096 < n
        · have n1 : (4096 : Int) < ((n : Nat) : Int) := by omega
          have HG : Hid (rdP s = (⟨#[]⟩, ⟨#[]⟩, ⟨#[]⟩, 413)) := by
            show _ = _
            rw [HG1.out, if_neg (by rw [hg1]; simp), if_pos hn4]
          clear hn4 hg1
          go_wp2
          refine bodyPost_ret (by simp [results, Tryz.results7, go_sem]; try rfl) rfl ?_
          exact ⟨by rw [HG.out]; rfl, HK5.out⟩
        · have n1 : ¬ (4096 : Int) < ((n : Nat) : Int) := by omega
          have HG2 : Hid (rdP s = if (s.extract ((cutAt s).toNat + 4) s.size).size ≠ n ∨ vf (s.extract ((cutAt s).toNat + 4) s.size) 0 = false then (⟨#[]⟩, ⟨#[]⟩, ⟨#[]⟩, 400) else (m, p, s.extract ((cutAt s).toNat + 4) s.size, 200)) := by
            show _ = _
            rw [HG1.out, if_neg (by rw [hg1]; simp), if_neg hn4]
          clear hn4 hg1 HG1
          have hroom := cutAt_room h0
          obtain ⟨rest, hrest⟩ : ∃ rest, rest = s.extract ((cutAt s).toNat + 4) s.size := ⟨_, rfl⟩
          have hrz : rest.size = s.size - ((cutAt s).toNat + 4) := by rw [hrest, ByteArray.size_extract]; omega
          have HRB : Hid (BsAt w b (o + ((cutAt s).toNat + 4)) rest) := by
            show BsAt w b (o + ((cutAt s).toNat + 4)) rest
            rw [hrest]
            exact HB.out.sub (Nat.le_refl _)
          have HRE := hid hrest
          have HRZ := hid hrz
          clear hrest hrz
          have HAA : Hid ((cutAt s).toNat = hd.size) := by show _ = _; have := HX.out; omega
          have hA4 : hd.size + 4 ≤ s.size := by have := HAA.out; omega
          have had0 := had (by omega)
          subst had0
          have hcpA : ((hd.size : Nat) : Int) + 4 ≤ ((s.size : Nat) : Int) := by omega
          have hwr : IntKind.i64.wrap (((hd.size : Nat) : Int) + 4) = ((hd.size : Nat) : Int) + 4 := by rw [IntKind.wrap_i64]; omega
          have HRL : Hid (s.size - (hd.size + 4) = rest.size) := by
            show _ = _
            have h1 := HRZ.out
            have h2 := HAA.out
            omega
          go_upto_region 13 with fail
          go_cut [0, 9] from 44 (fun v0 v wx => (∃ ad2 c2, v = .slice ad2 rest.size c2 ∧ rest.size ≤ c2 ∧ (0 < rest.size → ad2 = some ⟨b, o + ((cutAt s).toNat + 4), none⟩)) ∧ wx = w5)
          case first =>
            by_cases hca : cp = hd.size + 4
            · subst hca
              go_wp2_with fail
              go_meet
              case rel =>
                have hr0 : rest.size = 0 := by have := HRL.out; omega
                exact ⟨⟨_, _, by rw [hr0], by rw [hr0]; exact Nat.le_refl _, fun h => absurd h (by rw [hr0]; decide)⟩, rfl⟩
            · go_wp2_with fail
              go_meet
              case rel => exact ⟨⟨_, _, by rw [← HRL.out], by have := HRL.out; omega, fun _ => by rw [HAA.out]⟩, rfl⟩
          case rest =>
            obtain ⟨⟨ad2, c2, hc1, hc2, had2⟩, hcw⟩ := hcut
            subst wc
            subst hc1
            have hV := valid8_any w5 ad2 c2 b (o + ((cutAt s).toNat + 4)) rest had2 hc2 (HRB.out.kept HK5.out) (HT.out.kept HK5.out)
            have hcv2 : ∀ W, Kept (fun _ => False) w W → (convert 23 9 (.slice ad2 rest.size c2)).run Tryz.prog W = .ok (.string rest) W := fun W K => bs_str had2 hc2 (HRB.out.kept K)
            have HCV := hid hcv2
            clear hcv2 had2 hc2
            by_cases hn : rest.size = n
            · have z1 : (((rest.size : Nat) : Int) != ((n : Nat) : Int)) = false := by rw [hn]; simp
              cases hvf : vf rest 0 with
              | true =>
                rw [hvf] at hV
                have HG : Hid (rdP s = (m, p, rest, 200)) := by
                  show _ = _
                  rw [HG2.out, ← HRE.out, if_neg]
                  rintro (h1 | h1)
                  · exact h1 hn
                  · rw [hvf] at h1; cases h1
                clear hvf hn
                go_upto_region 16 with (first
                  | (go_at_call 15; refine hV.mono ?_; rintro e w6 ⟨rfl, K6⟩; clear hV; have HK6 := hid (HK5.out.and K6); have K65 := hid K6; clear K6)
                  | fail)
                obtain ⟨⟨y0, y1, y2⟩, _⟩ := three_cells (((K65.out.block _ (Array.getElem?_eq_some_iff.1 HB5.out).1 (fun h => h)).trans HB5.out))
                have cv1 := HCV.out w6 HK6.out
                have cv2 := HCV.out w6.drew (HK6.out.and (Kept.drew _ _))
                go_region
                go_wp2
                refine bodyPost_ret (by simp [results, Tryz.results7, go_sem]; try rfl) rfl ?_
                exact ⟨by rw [HG.out]; rfl, HK6.out.and (Kept.drew _ _)⟩
              | false =>
                rw [hvf] at hV
                have HG : Hid (rdP s = (⟨#[]⟩, ⟨#[]⟩, ⟨#[]⟩, 400)) := by
                  show _ = _
                  rw [HG2.out, ← HRE.out, if_pos (.inr hvf)]
                clear hvf hn
                go_upto_region 15 with (first
                  | (go_at_call 15; refine hV.mono ?_; rintro e w6 ⟨rfl, K6⟩; clear hV; have HK6 := hid (HK5.out.and K6); clear K6)
                  | fail)
                go_wp2
                refine bodyPost_ret (by simp [results, Tryz.results7, go_sem]; try rfl) rfl ?_
                exact ⟨by rw [HG.out]; rfl, HK6.out⟩
            · have z1 : (((rest.size : Nat) : Int) != ((n : Nat) : Int)) = true := by rw [bne_iff_ne]; omega
              have HG : Hid (rdP s = (⟨#[]⟩, ⟨#[]⟩, ⟨#[]⟩, 400)) := by
                show _ = _
                rw [HG2.out, ← HRE.out, if_pos (.inl hn)]
              clear hn hV
              go_wp2
              refine bodyPost_ret (by simp [results, Tryz.results7, go_sem]; try rfl) rfl ?_
              exact ⟨by rw [HG.out]; rfl, HK5.out⟩
      | false =>
        have g1 : (m.toList == [71, 69, 84]) = false := by rw [Lib.toList_data]; exact hg1
        cases hg2 : (m.data.toList == [80, 79, 83, 84]) with
        | false =>
          have g2 : (m.toList == [80, 79, 83, 84]) = false := by rw [Lib.toList_data]; exact hg2
          have HG : Hid (rdP s = (⟨#[]⟩, ⟨#[]⟩, ⟨#[]⟩, 405)) := by
            show _ = _
            rw [HG1.out, if_pos ⟨hg1, hg2⟩]
          clear hg1 hg2
          go_wp2
          refine bodyPost_ret (by simp [results, Tryz.results7, go_sem]; try rfl) rfl ?_
          exact ⟨by rw [HG.out]; rfl, HK5.out⟩
        | true =>
          have g2 : (m.toList == [80, 79, 83, 84]) = true := by rw [Lib.toList_data]; exact hg2
          by_cases hn4 : 4096 < n
          · have n1 : (4096 : Int) < ((n : Nat) : Int) := by omega
            have HG : Hid (rdP s = (⟨#[]⟩, ⟨#[]⟩, ⟨#[]⟩, 413)) := by
              show _ = _
              rw [HG1.out, if_neg (by rw [hg1, hg2]; simp), if_pos hn4]
            clear hn4 hg1 hg2
            go_wp2
            refine bodyPost_ret (by simp [results, Tryz.results7, go_sem]; try rfl) rfl ?_
            exact ⟨by rw [HG.out]; rfl, HK5.out⟩
          · have n1 : ¬ (4096 : Int) < ((n : Nat) : Int) := by omega
            have HG2 : Hid (rdP s = if (s.extract ((cutAt s).toNat + 4) s.size).size ≠ n ∨ vf (s.extract ((cutAt s).toNat + 4) s.size) 0 = false then (⟨#[]⟩, ⟨#[]⟩, ⟨#[]⟩, 400) else (m, p, s.extract ((cutAt s).toNat + 4) s.size, 200)) := by
              show _ = _
              rw [HG1.out, if_neg (by rw [hg1, hg2]; simp), if_neg hn4]
            clear hn4 hg1 hg2 HG1
            have hroom := cutAt_room h0
            obtain ⟨rest, hrest⟩ : ∃ rest, rest = s.extract ((cutAt s).toNat + 4) s.size := ⟨_, rfl⟩
            have hrz : rest.size = s.size - ((cutAt s).toNat + 4) := by rw [hrest, ByteArray.size_extract]; omega
            have HRB : Hid (BsAt w b (o + ((cutAt s).toNat + 4)) rest) := by
              show BsAt w b (o + ((cutAt s).toNat + 4)) rest
              rw [hrest]
              exact HB.out.sub (Nat.le_refl _)
            have HRE := hid hrest
            have HRZ := hid hrz
            clear hrest hrz
            have HAA : Hid ((cutAt s).toNat = hd.size) := by show _ = _; have := HX.out; omega
            have hA4 : hd.size + 4 ≤ s.size := by have := HAA.out; omega
            have had0 := had (by omega)
            subst had0
            have hcpA : ((hd.size : Nat) : Int) + 4 ≤ ((s.size : Nat) : Int) := by omega
            have hwr : IntKind.i64.wrap (((hd.size : Nat) : Int) + 4) = ((hd.size : Nat) : Int) + 4 := by rw [IntKind.wrap_i64]; omega
            have HRL : Hid (s.size - (hd.size + 4) = rest.size) := by
              show _ = _
              have h1 := HRZ.out
              have h2 := HAA.out
              omega
            go_upto_region 13 with fail
            go_cut [0, 9] from 44 (fun v0 v wx => (∃ ad2 c2, v = .slice ad2 rest.size c2 ∧ rest.size ≤ c2 ∧ (0 < rest.size → ad2 = some ⟨b, o + ((cutAt s).toNat + 4), none⟩)) ∧ wx = w5)
            case first =>
              by_cases hca : cp = hd.size + 4
              · subst hca
                go_wp2_with fail
                go_meet
                case rel =>
                  have hr0 : rest.size = 0 := by have := HRL.out; omega
                  exact ⟨⟨_, _, by rw [hr0], by rw [hr0]; exact Nat.le_refl _, fun h => absurd h (by rw [hr0]; decide)⟩, rfl⟩
              · go_wp2_with fail
                go_meet
                case rel => exact ⟨⟨_, _, by rw [← HRL.out], by have := HRL.out; omega, fun _ => by rw [HAA.out]⟩, rfl⟩
            case rest =>
              obtain ⟨⟨ad2, c2, hc1, hc2, had2⟩, hcw⟩ := hcut
              subst wc
              subst hc1
              have hV := valid8_any w5 ad2 c2 b (o + ((cutAt s).toNat + 4)) rest had2 hc2 (HRB.out.kept HK5.out) (HT.out.kept HK5.out)
              have hcv2 : ∀ W, Kept (fun _ => False) w W → (convert 23 9 (.slice ad2 rest.size c2)).run Tryz.prog W = .ok (.string rest) W := fun W K => bs_str had2 hc2 (HRB.out.kept K)
              have HCV := hid hcv2
              clear hcv2 had2 hc2
              by_cases hn : rest.size = n
              · have z1 : (((rest.size : Nat) : Int) != ((n : Nat) : Int)) = false := by rw [hn]; simp
                cases hvf : vf rest 0 with
                | true =>
                  rw [hvf] at hV
                  have HG : Hid (rdP s = (m, p, rest, 200)) := by
                    show _ = _
                    rw [HG2.out, ← HRE.out, if_neg]
                    rintro (h1 | h1)
                    · exact h1 hn
                    · rw [hvf] at h1; cases h1
                  clear hvf hn
                  go_upto_region 16 with (first
                    | (go_at_call 15; refine hV.mono ?_; rintro e w6 ⟨rfl, K6⟩; clear hV; have HK6 := hid (HK5.out.and K6); have K65 := hid K6; clear K6)
                    | fail)
                  obtain ⟨⟨y0, y1, y2⟩, _⟩ := three_cells (((K65.out.block _ (Array.getElem?_eq_some_iff.1 HB5.out).1 (fun h => h)).trans HB5.out))
                  have cv1 := HCV.out w6 HK6.out
                  have cv2 := HCV.out w6.drew (HK6.out.and (Kept.drew _ _))
                  go_region
                  go_wp2
                  refine bodyPost_ret (by simp [results, Tryz.results7, go_sem]; try rfl) rfl ?_
                  exact ⟨by rw [HG.out]; rfl, HK6.out.and (Kept.drew _ _)⟩
                | false =>
                  rw [hvf] at hV
                  have HG : Hid (rdP s = (⟨#[]⟩, ⟨#[]⟩, ⟨#[]⟩, 400)) := by
                    show _ = _
                    rw [HG2.out, ← HRE.out, if_pos (.inr hvf)]
                  clear hvf hn
                  go_upto_region 15 with (first
                    | (go_at_call 15; refine hV.mono ?_; rintro e w6 ⟨rfl, K6⟩; clear hV; have HK6 := hid (HK5.out.and K6); clear K6)
                    | fail)
                  go_wp2
                  refine bodyPost_ret (by simp [results, Tryz.results7, go_sem]; try rfl) rfl ?_
                  exact ⟨by rw [HG.out]; rfl, HK6.out⟩
              · have z1 : (((rest.size : Nat) : Int) != ((n : Nat) : Int)) = true := by rw [bne_iff_ne]; omega
                have HG : Hid (rdP s = (⟨#[]⟩, ⟨#[]⟩, ⟨#[]⟩, 400)) := by
                  show _ = _
                  rw [HG2.out, ← HRE.out, if_pos (.inl hn)]
                clear hn hV
                go_wp2
                refine bodyPost_ret (by simp [results, Tryz.results7, go_sem]; try rfl) rfl ?_
                exact ⟨by rw [HG.out]; rfl, HK5.out⟩
  · go_enter Tryz.func7, Tryz.ntmps7
    have c0 : cutAt s < 0 := by omega
    have hz : cutAt s = -1 := by have := cutAt_ge s; omega
    rw [hz] at hI
    by_cases hbig : 4096 ≤ s.size
    · have g1 : ((s.size : Nat) : Int) ≥ 4096 := by omega
      have HG : Hid (rdP s = (⟨#[]⟩, ⟨#[]⟩, ⟨#[]⟩, 431)) := by
        show _ = _
        unfold rdP
        rw [if_pos c0, if_pos hbig]
      clear c0 hz hbig
      go_upto_region 4 with (first
        | (go_at_call 13; refine hI.mono ?_; rintro e w3 ⟨rfl, K3⟩; clear hI hcc; have HK3 := hid (HK1.out.and K3); clear K3)
        | fail)
      go_wp2
      refine bodyPost_ret (by simp [results, Tryz.results7, go_sem]; try rfl) rfl ?_
      exact ⟨by rw [HG.out]; rfl, HK3.out⟩
    · have g1 : ¬ ((s.size : Nat) : Int) ≥ 4096 := by omega
      have HG : Hid (rdP s = (⟨#[]⟩, ⟨#[]⟩, ⟨#[]⟩, 400)) := by
        show _ = _
        unfold rdP
        rw [if_pos c0, if_neg hbig]
      clear c0 hz hbig
      go_upto_region 5 with (first
        | (go_at_call 13; refine hI.mono ?_; rintro e w3 ⟨rfl, K3⟩; clear hI hcc; have HK3 := hid (HK1.out.and K3); clear K3)
        | fail)
      go_wp2
      refine bodyPost_ret (by simp [results, Tryz.results7, go_sem]; try rfl) rfl ?_
      exact ⟨by rw [HG.out]; rfl, HK3.out⟩

end Go.Proofs.YtfiaaaflpjpnjaaGreatDoor

/-
  The document's Read, walked for any bytes: it answers as the data say, just as the program's.
-/
namespace Go.Proofs.YtfiaaaflpjpnjaaGreatDoor
open Go.RowKit

theorem allP_empty (f : UInt8 → Bool) {s : ByteArray} (h : s.toList.isEmpty = true) : allP f s.data.toList = false := by
  rw [Lib.toList_data] at h
  unfold allP
  rw [h]
  simp

theorem allP_ne (f : UInt8 → Bool) {s : ByteArray} (h : s.toList.isEmpty = false) : allP f s.data.toList = s.data.toList.all f := by
  rw [Lib.toList_data] at h
  unfold allP
  rw [h]
  simp

theorem path_empty {s : ByteArray} (h : s.toList.isEmpty = true) : pathP s.data.toList = false := by
  rw [Lib.toList_data, List.isEmpty_iff] at h
  rw [h]
  rfl

theorem path_all (p : ByteArray) (h0 : 0 < p.size) : pathP p.data.toList = ((p[0]'h0) == 47 && p.data.toList.all pathB) := by
  have hz : p.data.toList.length = p.size := Array.length_toList
  have hx : p.data.toList[0]'(by omega) = p[0]'h0 := by rw [Array.getElem_toList]; rfl
  cases hl : p.data.toList with
  | nil => rw [hl] at hz; simp at hz; omega
  | cons c r =>
    simp only [hl, List.getElem_cons_zero] at hx
    rw [← hx]
    show (c == 47 && (r.isEmpty || r.all pathB)) = (c == 47 && (c :: r).all pathB)
    by_cases hc : c = 47
    · subst hc
      cases r <;> simp [pathB]
    · have : (c == 47) = false := by rw [beq_eq_false_iff_ne]; exact hc
      rw [this]
      rfl

theorem val_test (a : Bool) (val : List UInt8) : (!true || !a || (!val.isEmpty && !allP valB val)) = (!a || !val.all valB) := by
  unfold allP
  cases val <;> cases a <;> simp

set_option maxRecDepth 100000 in
set_option maxHeartbeats 16000000 in
theorem refRead_any (w : World) (ad : Option Addr) (cp b o : Nat) (s : ByteArray) (had : 0 < s.size → ad = some ⟨b, o, none⟩) (hcp : s.size ≤ cp) (hs : s.size ≤ 1000000) (B : BsAt w b o s) :
    Calls Tryz.prog 8 #[.slice ad s.size cp] w fun e w' => e = .returned (rdV (rdP s)) ∧ Kept (fun _ => False) w w' := by
  have hst := bs_str had hcp B
  have hI := fun W => refIndex_any W s ⟨#[13, 10, 13, 10]⟩ (by decide) (by decide) (by omega)
  change ∀ W, Calls Tryz.prog 16 #[.string s, .string ⟨#[13, 10, 13, 10]⟩] W fun e w' => e = .returned (.int .i64 (Lib.index s.data.toList [13, 10, 13, 10])) ∧ w' = W at hI
  have hct : cutAt s = if 0 ≤ Lib.index s.data.toList [13, 10, 13, 10] ∧ Lib.index s.data.toList [13, 10, 13, 10] + 4 ≤ 4096 then Lib.index s.data.toList [13, 10, 13, 10] else -1 := idx_take _ _ 4096 (by simp)
  have hge := Lib.index_ge s.data.toList [13, 10, 13, 10]
  have hroom : 0 ≤ Lib.index s.data.toList [13, 10, 13, 10] → Lib.index s.data.toList [13, 10, 13, 10] + 4 ≤ (s.size : Int) := fun h => by
    have h2 := Lib.index_room _ _ h
    have hz : s.data.toList.length = s.size := Array.length_toList
    simp only [List.length_cons, List.length_nil] at h2
    omega
  generalize Lib.index s.data.toList [13, 10, 13, 10] = z at *
  clear B had hcp
  by_cases h0 : 0 ≤ z
  · have hr := hroom h0
    clear hroom hge
    by_cases h4 : z + 4 ≤ 4096
    · skip
      obtain ⟨k, rfl⟩ : ∃ k : Nat, z = k := ⟨z.toNat, by omega⟩
      have c1 : ¬ (k : Int) < 0 := by omega
      have c2 : ¬ 4096 < (k : Int) + 4 := by omega
      have c3 : (k : Int) ≤ (s.size : Int) := by omega
      have c4 : (k : Int) + 4 ≤ (s.size : Int) := by omega
      have hca : cutAt s = k := by rw [hct, if_pos ⟨h0, h4⟩]
      have hk : (s.extract 0 k).size = k := by rw [ByteArray.size_extract]; omega
      have HR0 : Hid (hdP (s.extract 0 k) = none → rdP s = (⟨#[]⟩, ⟨#[]⟩, ⟨#[]⟩, 400)) := fun h => by
        unfold rdP
        rw [hca, if_neg (by omega), Int.toNat_natCast, h]
      have HR1 : Hid (∀ m p n, hdP (s.extract 0 k) = some (m, p, n) → rdP s = if (m.data.toList == [71, 69, 84]) = false ∧ (m.data.toList == [80, 79, 83, 84]) = false then (⟨#[]⟩, ⟨#[]⟩, ⟨#[]⟩, 405) else if 4096 < n then (⟨#[]⟩, ⟨#[]⟩, ⟨#[]⟩, 413) else if (s.extract (k + 4) s.size).size ≠ n ∨ vf (s.extract (k + 4) s.size) 0 = false then (⟨#[]⟩, ⟨#[]⟩, ⟨#[]⟩, 400) else (m, p, s.extract (k + 4) s.size, 200)) := fun m p n h => by
        unfold rdP
        rw [hca, if_neg (by omega), Int.toNat_natCast, h]
      have hS1 := fun W => refSplit_any W (s.extract 0 k) ⟨#[13, 10]⟩ (by decide) (by decide) (by omega)
      have hlz : ∀ x ∈ pieces ⟨#[13, 10]⟩ (s.extract 0 k), x.size ≤ 4096 := fun x hx => by
        have := splitB_size _ _ _ x hx
        omega
      have hne : (pieces ⟨#[13, 10]⟩ (s.extract 0 k)).length = Lib.countB (s.extract 0 k) ⟨#[13, 10]⟩ + 1 := split_len _ _ (by decide)
      obtain ⟨ls, hls⟩ : ∃ ls, ls = pieces ⟨#[13, 10]⟩ (s.extract 0 k) := ⟨_, rfl⟩
      rw [← hls] at hS1 hlz hne
      have HLS : Hid (linesP (s.extract 0 k) = ls) := hls.symm
      clear hls hct hca h0 h4
      cases ls with
      | nil => cases hne
      | cons l0 r =>
        have hne1 := hid hne
        clear hne
        obtain ⟨n1, hn1⟩ : ∃ n1, n1 = (l0 :: r).length := ⟨_, rfl⟩
        rw [← hn1] at hS1 hne1
        have HN1 : Hid (n1 = r.length + 1) := hn1
        have hn1p : 1 ≤ n1 := by rw [hn1, List.length_cons]; omega
        clear hn1
        have hn1b : n1 ≤ 5000 := by
          have h1 := Lib.countB_le ⟨#[13, 10]⟩ (by decide) (s.extract 0 k).size (s.extract 0 k) (Nat.le_refl _)
          have h2 := hne1.out
          omega
        have HLZ := hid hlz
        have hl0 := hlz l0 List.mem_cons_self
        have hS2 := fun W => refSplit_any W l0 ⟨#[32]⟩ (by decide) (by decide) (by omega)
        have hwz : ∀ x ∈ pieces ⟨#[32]⟩ l0, x.size ≤ 4096 := fun x hx => by
          have := splitB_size _ _ _ x hx
          omega
        have HGd0 : Hid (hdP (s.extract 0 k) = if goodW (pieces ⟨#[32]⟩ l0) = true then hdR ((pieces ⟨#[32]⟩ l0).getD 0 ⟨#[]⟩) ((pieces ⟨#[32]⟩ l0).getD 1 ⟨#[]⟩) r else none) := hdP_eq HLS.out
        generalize pieces ⟨#[32]⟩ l0 = ws at *
        obtain ⟨n2, hn2⟩ : ∃ n2, n2 = ws.length := ⟨_, rfl⟩
        rw [← hn2] at hS2
        have HN2 := hid hn2
        have HWZ := hid hwz
        clear hn2 hwz hlz HLS hl0
        go_enter Tryz.func8, Tryz.ntmps8
        go_upto_region 8 with (first
          | (go_at_call 16; refine (hI _).mono ?_; rintro e w1 ⟨rfl, hw1⟩; subst w1; clear hI)
          | (go_at_call 17; refine (hS1 _).mono ?_; rintro e w3 ⟨b1, cc1, hb1, rfl, hcc1, L1, K3⟩; clear hS1 hst)
          | fail)
        have x0 := L1 0 (by rw [List.length_cons]; omega)
        change w3.cell? _ = some (.string l0) at x0
        have f0 : (0 : Int) < (n1 : Int) := by omega
        have L13 := hid L1
        have HK33 := hid K3
        clear L1 K3 hb1 hcc1
        go_upto_region 9 with (first
          | (go_at_call 17; refine (hS2 _).mono ?_; rintro e W4 ⟨b2, cc2, hb2, rfl, hcc2, L2, K4⟩; clear hS2)
          | fail)
        have L1 := hid (L13.out.kept K4)
        have HK3 := hid (HK33.out.and K4)
        have hL2 := hid L2
        clear L2 x0 f0 L13 HK33 hb2 hcc2 K4
        have L2 := hL2
        clear hL2
        obtain ⟨bad, hbad⟩ : ∃ bad : Bool, bad = !goodW ws := ⟨_, rfl⟩
        have HBad := hid hbad
        clear hbad
        go_cut [84] from 43 to 84 (fun v wx => v = .bool bad ∧ wx = W4)
        case first =>
          by_cases h3 : n2 = 3
          · obtain ⟨m, p, v, hws⟩ : ∃ m p v, ws = [m, p, v] := three_of (by rw [← HN2.out]; exact h3)
            subst hws
            have f3 : ((((n2 : Nat) : Int)) != 3) = false := by rw [h3]; rfl
            have f0 : (0 : Int) < ((n2 : Nat) : Int) := by omega
            have f1 : (1 : Int) < ((n2 : Nat) : Int) := by omega
            have f2 : (2 : Int) < ((n2 : Nat) : Int) := by omega
            have w0 := L2.out 0 (by show 0 < 3; decide)
            have w1 := L2.out 1 (by show 1 < 3; decide)
            have w2 := L2.out 2 (by show 2 < 3; decide)
            change W4.cell? _ = some (.string m) at w0
            change W4.cell? _ = some (.string p) at w1
            change W4.cell? _ = some (.string v) at w2
            have hmz := HWZ.out m (by simp)
            have hpz := HWZ.out p (by simp)
            have hA := fun V => refWithin_any V m (by omega) 65 90
            have hP := fun V => refWithin_any V p (by omega) 33 126
            change ∀ V, Calls Tryz.prog 18 #[.string m, .int .u8 65, .int .u8 90] V fun e w' => e = .returned (.bool (m.data.toList.all capB)) ∧ w' = V at hA
            change ∀ V, Calls Tryz.prog 18 #[.string p, .int .u8 33, .int .u8 126] V fun e w' => e = .returned (.bool (p.data.toList.all pathB)) ∧ w' = V at hP
            clear h3
            cases hme : m.toList.isEmpty with
            | true =>
              have HB : Hid (bad = true) := by show bad = _; rw [HBad.out]; show (!(allP capB m.data.toList && pathP p.data.toList && (v.data.toList == [72, 84, 84, 80, 47, 49, 46, 49]))) = _; rw [allP_empty capB hme]; rfl
              go_wp2_with (first
                | fail)
              go_meet
              case rel => exact ⟨by rw [HB.out], rfl⟩
            | false =>
              cases ha : m.data.toList.all capB with
              | false =>
                rw [ha] at hA
                have HB : Hid (bad = true) := by show bad = _; rw [HBad.out]; show (!(allP capB m.data.toList && pathP p.data.toList && (v.data.toList == [72, 84, 84, 80, 47, 49, 46, 49]))) = _; rw [allP_ne capB hme, ha]; rfl
                go_wp2_with (first
                  | (go_at_call_of 18 (Value.string m); refine (hA _).mono ?_; rintro e w1 ⟨rfl, hw1⟩; subst w1; clear hA)
                  | fail)
                go_meet
                case rel => exact ⟨by rw [HB.out], rfl⟩
              | true =>
                rw [ha] at hA
                cases hpe : p.toList.isEmpty with
                | true =>
                  have HB : Hid (bad = true) := by show bad = _; rw [HBad.out]; show (!(allP capB m.data.toList && pathP p.data.toList && (v.data.toList == [72, 84, 84, 80, 47, 49, 46, 49]))) = _; rw [path_empty hpe, Bool.and_false]; rfl
                  go_wp2_with (first
                    | (go_at_call_of 18 (Value.string m); refine (hA _).mono ?_; rintro e w1 ⟨rfl, hw1⟩; subst w1; clear hA)
                    | fail)
                  go_meet
                  case rel => exact ⟨by rw [HB.out], rfl⟩
                | false =>
                  have h0 : 0 < p.size := by
                    rcases Nat.eq_zero_or_pos p.size with h | h
                    · have : p.data.toList = [] := List.eq_nil_of_length_eq_zero (by rw [Array.length_toList]; exact h)
                      rw [Lib.toList_data, this] at hpe
                      cases hpe
                    · exact h
                  have hix := ix_str p h0
                  change ∀ W, (Instr.index 9 (.string p) (.int .i64 0)).run Tryz.prog W = _ at hix
                  have hu := u8_beq (p[0]'h0) 47
                  have hu' : (((p[0]'h0).toNat : Int) != 47) = !((p[0]'h0) == 47) := congrArg not hu
                  have hpp : pathP p.data.toList = ((p[0]'h0) == 47 && p.data.toList.all pathB) := path_all p h0
                  clear hu
                  generalize (p[0]'h0) = pc at *
                  generalize (pc.toNat : Int) = x at *
                  cases hc : (pc == 47) with
                  | false =>
                    rw [hc] at hu'
                    change _ = true at hu'
                    have HB : Hid (bad = true) := by show bad = _; rw [HBad.out]; show (!(allP capB m.data.toList && pathP p.data.toList && (v.data.toList == [72, 84, 84, 80, 47, 49, 46, 49]))) = _; rw [hpp, hc, Bool.false_and, Bool.and_false]; rfl
                    go_wp2_with (first
                      | (go_at_call_of 18 (Value.string m); refine (hA _).mono ?_; rintro e w1 ⟨rfl, hw1⟩; subst w1; clear hA)
                      | fail)
                    go_meet
                    case rel => exact ⟨by rw [HB.out], rfl⟩
                  | true =>
                    rw [hc] at hu'
                    change _ = false at hu'
                    cases hp : p.data.toList.all pathB with
                    | false =>
                      rw [hp] at hP
                      have HB : Hid (bad = true) := by show bad = _; rw [HBad.out]; show (!(allP capB m.data.toList && pathP p.data.toList && (v.data.toList == [72, 84, 84, 80, 47, 49, 46, 49]))) = _; rw [hpp, hp, Bool.and_false, Bool.and_false]; rfl
                      go_wp2_with (first
                        | (go_at_call_of 18 (Value.string m); refine (hA _).mono ?_; rintro e w1 ⟨rfl, hw1⟩; subst w1; clear hA)
                        | (go_at_call_of 18 (Value.string p); refine (hP _).mono ?_; rintro e w1 ⟨rfl, hw1⟩; subst w1; clear hP)
                        | fail)
                      go_meet
                      case rel => exact ⟨by rw [HB.out], rfl⟩
                    | true =>
                      rw [hp] at hP
                      cases hv : (v.data.toList == [72, 84, 84, 80, 47, 49, 46, 49]) with
                      | false =>
                        have g1 : (v.toList == [72, 84, 84, 80, 47, 49, 46, 49]) = false := by rw [Lib.toList_data]; exact hv
                        have HB : Hid (bad = true) := by show bad = _; rw [HBad.out]; show (!(allP capB m.data.toList && pathP p.data.toList && (v.data.toList == [72, 84, 84, 80, 47, 49, 46, 49]))) = _; rw [hv, Bool.and_false]; rfl
                        go_wp2_with (first
                          | (go_at_call_of 18 (Value.string m); refine (hA _).mono ?_; rintro e w1 ⟨rfl, hw1⟩; subst w1; clear hA)
                          | (go_at_call_of 18 (Value.string p); refine (hP _).mono ?_; rintro e w1 ⟨rfl, hw1⟩; subst w1; clear hP)
                          | fail)
                        go_meet
                        case rel => exact ⟨by rw [HB.out], rfl⟩
                      | true =>
                        have g1 : (v.toList == [72, 84, 84, 80, 47, 49, 46, 49]) = true := by rw [Lib.toList_data]; exact hv
                        have HB : Hid (bad = false) := by show bad = _; rw [HBad.out]; show (!(allP capB m.data.toList && pathP p.data.toList && (v.data.toList == [72, 84, 84, 80, 47, 49, 46, 49]))) = _; rw [allP_ne capB hme, ha, hpp, hc, hp, hv]; rfl
                        go_wp2_with (first
                          | (go_at_call_of 18 (Value.string m); refine (hA _).mono ?_; rintro e w1 ⟨rfl, hw1⟩; subst w1; clear hA)
                          | (go_at_call_of 18 (Value.string p); refine (hP _).mono ?_; rintro e w1 ⟨rfl, hw1⟩; subst w1; clear hP)
                          | fail)
                        go_meet
                        case rel => exact ⟨by rw [HB.out], rfl⟩
          · have f3 : ((((n2 : Nat) : Int)) != 3) = true := by
              rw [bne_iff_ne]
              omega
            have HB : Hid (bad = true) := by
              show bad = true
              rw [HBad.out]
              cases hg : goodW ws with
              | false => rfl
              | true => exact absurd (HN2.out.trans (goodW_len hg)) h3
            clear h3
            go_wp2_with fail
            go_meet
            case rel => exact ⟨by rw [HB.out], rfl⟩
        case rest =>
          obtain ⟨hc1, hcw⟩ := hcut
          subst wc
          subst hc1
          cases bad with
          | true =>
            have HG : Hid (rdP s = (⟨#[]⟩, ⟨#[]⟩, ⟨#[]⟩, 400)) := HR0.out (by
              rw [HGd0.out, if_neg]
              intro h
              have := HBad.out
              rw [h] at this
              cases this)
            go_wp2
            refine bodyPost_ret (by simp [results, Tryz.results8, go_sem]; try rfl) rfl ?_
            exact ⟨by rw [HG.out]; rfl, HK3.out⟩
          | false =>
            have hgw : goodW ws = true := by have := HBad.out; cases hg : goodW ws with | true => rfl | false => rw [hg] at this; cases this
            obtain ⟨m, p, v, hws⟩ := goodW_three hgw
            subst hws
            have HGd : Hid (hdP (s.extract 0 k) = hdR m p r) := by
              show _ = _
              rw [HGd0.out, if_pos hgw]
              rfl
            clear HGd0 hgw HBad
            go_wp2
            go_loopw [10, 11, 12, 13, 14, 15] (fun nv sv iv kv xv ov wr => ∃ (i n : Nat) (said : Bool), 1 ≤ i ∧ i ≤ n1 ∧ n < 1000000000 ∧ nv = .int .i64 ((n : Nat) : Int) ∧ sv = .bool said ∧ iv = .int .i64 ((i : Nat) : Int) ∧ hdF (r.drop (i - 1)) said n = hdF r false 0 ∧ Kept (fun _ => False) W4 wr) (fun _ _ iv _ _ _ _ => n1 - (intOf iv).toNat)
            case atStart => exact ⟨1, 0, false, by decide, hn1p, by decide, rfl, rfl, rfl, rfl, Kept.refl _ _⟩
            case round =>
              obtain ⟨i, n, said, hi1, hi2, hn9, rfl, rfl, rfl, hv, K⟩ := hrel
              have HV := hid hv
              have HK4 := hid K
              have HK := hid (HK3.out.and K)
              clear hv
              by_cases hlt : i < n1
              · have e0 : ((i : Nat) : Int) < ((n1 : Nat) : Int) := by omega
                have hir : i - 1 < r.length := by have := HN1.out; omega
                have c0 : wr.cell? ⟨b1, i, none⟩ = some (.string (r[i - 1]'hir)) := by
                  have h := (L1.out.kept K) i (by rw [List.length_cons]; omega)
                  rw [h]
                  have : (l0 :: r)[i]'(by rw [List.length_cons]; omega) = r[i - 1]'hir := by
                    rw [List.getElem_cons, dif_neg (by omega)]
                  rw [this]
                have hlz := HLZ.out (r[i - 1]'hir) (List.mem_cons_of_mem _ (List.getElem_mem hir))
                rw [List.drop_eq_getElem_cons hir, Nat.sub_add_cancel hi1] at HV
                clear K
                generalize r[i - 1]'hir = l at *
                have hIx := fun W => refIndex_any W l ⟨#[58]⟩ (by decide) (by decide) (by omega)
                change ∀ W, Calls Tryz.prog 16 #[.string l, .string ⟨#[58]⟩] W fun e w' => e = .returned (.int .i64 (Lib.index l.data.toList [58])) ∧ w' = W at hIx
                have hge := Lib.index_ge l.data.toList [58]
                have hzl : l.data.toList.length = l.size := Array.length_toList
                by_cases hq0 : 0 ≤ Lib.index l.data.toList [58]
                · obtain ⟨q, hq⟩ : ∃ q : Nat, Lib.index l.data.toList [58] = q := ⟨(Lib.index l.data.toList [58]).toNat, by omega⟩
                  have hroom := Lib.index_room l.data.toList [58] hq0
                  rw [hq] at hIx hroom
                  simp only [List.length_cons, List.length_nil, hzl] at hroom
                  have hcut : Lib.cut l.data.toList [58] = (l.data.toList.take q, l.data.toList.drop (q + 1), true) := by
                    unfold Lib.cut
                    rw [if_pos hq0, hq]
                    rfl
                  have hx1 : (l.extract 0 q).data.toList = l.data.toList.take q := Lib.extract_from_zero l q
                  have hx2 : (l.extract (q + 1) l.size).data.toList = l.data.toList.drop (q + 1) := Lib.extract_to_end l (q + 1)
                  have hA2 := fun V => refName_any V (l.extract 0 q) (by rw [ByteArray.size_extract]; omega)
                  have hA3 := fun V => refWithin_any V (l.extract (q + 1) l.size) (by rw [ByteArray.size_extract]; omega) 32 126
                  have hLo := fun V => refLower_any V (l.extract 0 q).data.toList (by rw [Array.length_toList]; show (l.extract 0 q).size ≤ _; rw [ByteArray.size_extract]; omega)
                  have hTr := fun V => refTrim_any V (l.extract (q + 1) l.size).data.toList (by rw [Array.length_toList]; show (l.extract (q + 1) l.size).size ≤ _; rw [ByteArray.size_extract]; omega)
                  simp only [mkB_of] at hLo hTr
                  have HLR : Hid (lineR l.data.toList = if true = false then none else if allP nmB (l.extract 0 q).data.toList = false then none else if (l.extract (q + 1) l.size).data.toList ≠ [] ∧ allP valB (l.extract (q + 1) l.size).data.toList = false then none else if Lib.equalFold (l.extract 0 q).data.toList clenL = false then some none else some (some (l.extract (q + 1) l.size).data.toList)) := by
                    show _ = _
                    rw [hx1, hx2]
                    unfold lineR
                    rw [hcut]
                  have hvl : (l.extract (q + 1) l.size).data.toList.length ≤ 100000 := by rw [hx2, List.length_drop]; omega
                  have g0 : ¬ (q : Int) < 0 := by omega
                  have g1 : (q : Int) ≤ (l.size : Int) := by omega
                  have g2 : (q : Int) + 1 ≤ (l.size : Int) := by omega
                  clear hq0 hq hge hzl hcut hx1 hx2 hroom
                  generalize (l.extract 0 q).data.toList = nm at *
                  generalize (l.extract (q + 1) l.size).data.toList = val at *
                  change ∀ V, Calls Tryz.prog 18 #[.string (l.extract (q + 1) l.size), .int .u8 32, .int .u8 126] V fun e w' => e = .returned (.bool (val.all valB)) ∧ w' = V at hA3
                  obtain ⟨bad2, hbad2⟩ : ∃ bad2 : Bool, bad2 = (!allP nmB nm || !val.all valB) := ⟨_, rfl⟩
                  have HBad2 := hid hbad2
                  clear hbad2
                  go_upto_region 16 with (first
                    | (go_at_call 16; refine (hIx _).mono ?_; rintro e w1 ⟨rfl, hw1⟩; subst w1; clear hIx)
                    | fail)
                  go_cut [118] from 96 to 118 (fun v wx => v = .bool bad2 ∧ wx = wr)
                  case first =>
                    cases ha : allP nmB nm with
                    | false =>
                      rw [ha] at hA2
                      have HB : Hid (bad2 = true) := by show bad2 = _; rw [HBad2.out]; simp [*]
                      go_wp2_with (first
                        | (go_at_call 19; refine (hA2 _).mono ?_; rintro e w1 ⟨rfl, hw1⟩; subst w1; clear hA2)
                        | fail)
                      go_meet
                      case rel => exact ⟨by rw [HB.out], rfl⟩
                    | true =>
                      rw [ha] at hA2
                      cases hv : val.all valB with
                      | false =>
                        rw [hv] at hA3
                        have HB : Hid (bad2 = true) := by show bad2 = _; rw [HBad2.out]; simp [*]
                        go_wp2_with (first
                          | (go_at_call 19; refine (hA2 _).mono ?_; rintro e w1 ⟨rfl, hw1⟩; subst w1; clear hA2)
                          | (go_at_call 18; refine (hA3 _).mono ?_; rintro e w1 ⟨rfl, hw1⟩; subst w1; clear hA3)
                          | fail)
                        go_meet
                        case rel => exact ⟨by rw [HB.out], rfl⟩
                      | true =>
                        rw [hv] at hA3
                        have HB : Hid (bad2 = false) := by show bad2 = _; rw [HBad2.out]; simp [*]
                        go_wp2_with (first
                          | (go_at_call 19; refine (hA2 _).mono ?_; rintro e w1 ⟨rfl, hw1⟩; subst w1; clear hA2)
                          | (go_at_call 18; refine (hA3 _).mono ?_; rintro e w1 ⟨rfl, hw1⟩; subst w1; clear hA3)
                          | fail)
                        go_meet
                        case rel => exact ⟨by rw [HB.out]; exact congrArg Value.bool (decide_eq_false (show ¬ (q : Int) < 0 by omega)), rfl⟩
                  case rest =>
                    obtain ⟨hc1, hcw⟩ := hcut
                    subst wc
                    subst hc1
                    clear hA2 hA3
                    cases bad2 with
                    | true =>
                      have HNx : Hid (hdF (l :: r.drop i) said n = none) := by
                        show _ = _
                        have h := HBad2.out
                        unfold hdF
                        rw [line_bad HLR.out (by rw [val_test]; exact h.symm)]
                      have HZ0 : Hid (hdP (s.extract 0 k) = none) := by show _ = _; rw [HGd.out]; unfold hdR; rw [HV.out.symm.trans HNx.out]; rfl
                      have HG : Hid (rdP s = (⟨#[]⟩, ⟨#[]⟩, ⟨#[]⟩, 400)) := HR0.out HZ0.out
                      go_wp2
                      refine bodyPost_ret (by simp [results, Tryz.results8, go_sem]; try rfl) rfl ?_
                      exact ⟨by rw [HG.out]; rfl, HK.out⟩
                    | false =>
                      obtain ⟨hnm, hlr⟩ := line_good HLR.out (by rw [val_test]; exact HBad2.out.symm)
                      clear HLR
                      have HLR := hid hlr
                      have hlo : ((mkB (nm.map lowB)).toList == [99, 111, 110, 116, 101, 110, 116, 45, 108, 101, 110, 103, 116, 104]) = Lib.equalFold nm clenL := by
                        rw [fold_clen, Lib.toList_data, mkB_list]
                        rfl
                      have hLn := fun V => refLength_any V (mkB (Lib.trimB val 32)) (by rw [mkB_size]; exact Nat.le_trans (trim_len val) (by omega))
                      simp only [mkB_list] at hLn
                      clear hlr hnm
                      cases hfd : Lib.equalFold nm clenL with
                      | false =>
                        rw [hfd] at hlo
                        have HNx : Hid (hdF (l :: r.drop i) said n = hdF (r.drop i) said n) := hdF_skip (HLR.out.trans (by rw [hfd]; rfl))
                        clear hfd
                        generalize mkB (nm.map lowB) = lo at *
                        go_wp2_with (first
                          | (go_at_call 20; refine (hLo _).mono ?_; rintro e w8 ⟨rfl, K8⟩; clear hLo; have HK8 := hid (HK.out.and K8); have HJ8 := hid (HK4.out.and K8); have x8 := (World.cell?_of_block (K8.block _ (World.block_lt_of_cell? _ _ c0) (fun h => h))).trans c0; clear K8)
                          | fail)
                        go_roundw
                        case rel => exact ⟨i + 1, n, said, by omega, by omega, hn9, rfl, rfl, by go_num, by rw [Nat.add_sub_cancel]; exact HNx.out.symm.trans HV.out, HJ8.out⟩
                        case measure => simp [intOf]; omega
                      | true =>
                        rw [hfd] at hlo
                        cases hx : lenP (Lib.trimB val 32) with
                        | none =>
                          rw [hx] at hLn
                          have HNx : Hid (hdF (l :: r.drop i) said n = none) := hdF_len0 (HLR.out.trans (by rw [hfd]; rfl)) hx
                          have HZ0 : Hid (hdP (s.extract 0 k) = none) := by show _ = _; rw [HGd.out]; unfold hdR; rw [HV.out.symm.trans HNx.out]; rfl
                          have HG : Hid (rdP s = (⟨#[]⟩, ⟨#[]⟩, ⟨#[]⟩, 400)) := HR0.out HZ0.out
                          clear hfd hx
                          generalize mkB (nm.map lowB) = lo at *
                          generalize mkB (Lib.trimB val 32) = tv at *
                          go_upto_region 20 with (first
                            | (go_at_call 20; refine (hLo _).mono ?_; rintro e w8 ⟨rfl, K8⟩; clear hLo; have HK8 := hid (HK.out.and K8); have HJ8 := hid (HK4.out.and K8); have x8 := (World.cell?_of_block (K8.block _ (World.block_lt_of_cell? _ _ c0) (fun h => h))).trans c0; clear K8)
                            | (go_at_call 22; refine (hTr _).mono ?_; rintro e w9 ⟨rfl, K9⟩; clear hTr; have HK9 := hid (HK8.out.and K9); have HJ9 := hid (HJ8.out.and K9); clear K9)
                            | (go_at_call 21; refine (hLn _).mono ?_; rintro e w1 ⟨rfl, hw1⟩; subst w1; clear hLn)
                            | fail)
                          go_wp2
                          refine bodyPost_ret (by simp [results, Tryz.results8, go_sem]; try rfl) rfl ?_
                          exact ⟨by rw [HG.out]; rfl, HK9.out⟩
                        | some x =>
                          rw [hx] at hLn
                          have hx9 := lenP_lt hx
                          cases said with
                          | true =>
                            have HNx : Hid (hdF (l :: r.drop i) true n = none) := (hdF_len1 (HLR.out.trans (by rw [hfd]; rfl)) hx).trans rfl
                            have HZ0 : Hid (hdP (s.extract 0 k) = none) := by show _ = _; rw [HGd.out]; unfold hdR; rw [HV.out.symm.trans HNx.out]; rfl
                            have HG : Hid (rdP s = (⟨#[]⟩, ⟨#[]⟩, ⟨#[]⟩, 400)) := HR0.out HZ0.out
                            clear hfd hx
                            generalize mkB (nm.map lowB) = lo at *
                            generalize mkB (Lib.trimB val 32) = tv at *
                            go_upto_region 20 with (first
                              | (go_at_call 20; refine (hLo _).mono ?_; rintro e w8 ⟨rfl, K8⟩; clear hLo; have HK8 := hid (HK.out.and K8); have HJ8 := hid (HK4.out.and K8); have x8 := (World.cell?_of_block (K8.block _ (World.block_lt_of_cell? _ _ c0) (fun h => h))).trans c0; clear K8)
                              | (go_at_call 22; refine (hTr _).mono ?_; rintro e w9 ⟨rfl, K9⟩; clear hTr; have HK9 := hid (HK8.out.and K9); have HJ9 := hid (HJ8.out.and K9); clear K9)
                              | (go_at_call 21; refine (hLn _).mono ?_; rintro e w1 ⟨rfl, hw1⟩; subst w1; clear hLn)
                              | fail)
                            go_wp2
                            refine bodyPost_ret (by simp [results, Tryz.results8, go_sem]; try rfl) rfl ?_
                            exact ⟨by rw [HG.out]; rfl, HK9.out⟩
                          | false =>
                            have HNx : Hid (hdF (l :: r.drop i) false n = hdF (r.drop i) true x) := (hdF_len1 (HLR.out.trans (by rw [hfd]; rfl)) hx).trans rfl
                            clear hfd hx
                            generalize mkB (nm.map lowB) = lo at *
                            generalize mkB (Lib.trimB val 32) = tv at *
                            go_upto_region 20 with (first
                              | (go_at_call 20; refine (hLo _).mono ?_; rintro e w8 ⟨rfl, K8⟩; clear hLo; have HK8 := hid (HK.out.and K8); have HJ8 := hid (HK4.out.and K8); have x8 := (World.cell?_of_block (K8.block _ (World.block_lt_of_cell? _ _ c0) (fun h => h))).trans c0; clear K8)
                              | (go_at_call 22; refine (hTr _).mono ?_; rintro e w9 ⟨rfl, K9⟩; clear hTr; have HK9 := hid (HK8.out.and K9); have HJ9 := hid (HJ8.out.and K9); clear K9)
                              | (go_at_call 21; refine (hLn _).mono ?_; rintro e w1 ⟨rfl, hw1⟩; subst w1; clear hLn)
                              | fail)
                            go_wp2
                            go_roundw
                            case rel => exact ⟨i + 1, x, true, by omega, by omega, hx9, rfl, rfl, by go_num, by rw [Nat.add_sub_cancel]; exact HNx.out.symm.trans HV.out, HJ9.out⟩
                            case measure => simp [intOf]; omega
                · have hq : Lib.index l.data.toList [58] < 0 := by omega
                  have hcut : Lib.cut l.data.toList [58] = (l.data.toList, [], false) := by
                    unfold Lib.cut
                    rw [if_neg hq0]
                  have HNx : Hid (hdF (l :: r.drop i) said n = none) := by
                    show _ = _
                    unfold hdF
                    have : lineR l.data.toList = none := by
                      unfold lineR
                      rw [hcut]
                      rfl
                    rw [this]
                  have HZ0 : Hid (hdP (s.extract 0 k) = none) := by show _ = _; rw [HGd.out]; unfold hdR; rw [HV.out.symm.trans HNx.out]; rfl
                  have HG : Hid (rdP s = (⟨#[]⟩, ⟨#[]⟩, ⟨#[]⟩, 400)) := HR0.out HZ0.out
                  clear hcut hq0 hzl hge
                  generalize Lib.index l.data.toList [58] = zi at *
                  go_upto_region 16 with (first
                    | (go_at_call 16; refine (hIx _).mono ?_; rintro e w1 ⟨rfl, hw1⟩; subst w1; clear hIx)
                    | fail)
                  go_wp2
                  refine bodyPost_ret (by simp [results, Tryz.results8, go_sem]; try rfl) rfl ?_
                  exact ⟨by rw [HG.out]; rfl, HK.out⟩
              · have e0 : ¬ ((i : Nat) : Int) < ((n1 : Nat) : Int) := by omega
                have HFin : Hid (hdP (s.extract 0 k) = some (m, p, n)) := by
                  show _ = _
                  rw [HGd.out]
                  unfold hdR
                  rw [← HV.out, List.drop_eq_nil_of_le (by have := HN1.out; omega)]
                  rfl
                have HG1 : Hid (rdP s = if (m.data.toList == [71, 69, 84]) = false ∧ (m.data.toList == [80, 79, 83, 84]) = false then (⟨#[]⟩, ⟨#[]⟩, ⟨#[]⟩, 405) else if 4096 < n then (⟨#[]⟩, ⟨#[]⟩, ⟨#[]⟩, 413) else if (s.extract (k + 4) s.size).size ≠ n ∨ vf (s.extract (k + 4) s.size) 0 = false then (⟨#[]⟩, ⟨#[]⟩, ⟨#[]⟩, 400) else (m, p, s.extract (k + 4) s.size, 200)) := HR1.out m p n HFin.out
                have hL2 := L2.out.kept HK4.out
                have hL2d := L2.out.kept (HK4.out.and (Kept.drew _ _))
                have w0 := hL2 0 (by show 0 < 3; decide)
                have w1 := hL2 1 (by show 1 < 3; decide)
                change wr.cell? _ = some (.string m) at w0
                change wr.cell? _ = some (.string p) at w1
                have f0 : (0 : Int) < ((n2 : Nat) : Int) := by have h : n2 = 3 := HN2.out; omega
                have f1 : (1 : Int) < ((n2 : Nat) : Int) := by have h : n2 = 3 := HN2.out; omega
                have hV := fun V => valid_any V (s.extract (k + 4) s.size) (by rw [ByteArray.size_extract]; omega)
                simp only [vf_all] at hV
                clear hL2 hL2d
                go_upto_region 24 with fail
                generalize s.extract (k + 4) s.size = rest at *
                cases hg1 : (m.data.toList == [71, 69, 84]) with
                | true =>
                  have g1 : (m.toList == [71, 69, 84]) = true := by rw [Lib.toList_data]; exact hg1
                  by_cases hn4 : 4096 < n
                  · have nn1 : (4096 : Int) < ((n : Nat) : Int) := by omega
                    have HG : Hid (rdP s = (⟨#[]⟩, ⟨#[]⟩, ⟨#[]⟩, 413)) := by show _ = _; rw [HG1.out, if_neg (by simp [hg1]), if_pos hn4]
                    clear hn4 hV
                    go_wp2
                    refine bodyPost_ret (by simp [results, Tryz.results8, go_sem]; try rfl) rfl ?_
                    exact ⟨by rw [HG.out]; rfl, HK.out⟩
                  · have nn1 : ¬ (4096 : Int) < ((n : Nat) : Int) := by omega
                    by_cases hn : rest.size = n
                    · have z1 : (((rest.size : Nat) : Int) != ((n : Nat) : Int)) = false := by rw [hn]; simp
                      cases hvf : vf rest 0 with
                      | false =>
                        rw [hvf] at hV
                        have HG : Hid (rdP s = (⟨#[]⟩, ⟨#[]⟩, ⟨#[]⟩, 400)) := by show _ = _; rw [HG1.out, if_neg (by simp [hg1]), if_neg hn4, if_pos (.inr hvf)]
                        clear hn4 hn hvf
                        go_upto_region 29 with (first
                          | (go_at_call 23; refine (hV _).mono ?_; rintro e w1 ⟨rfl, hw1⟩; subst w1; clear hV)
                          | fail)
                        go_wp2
                        refine bodyPost_ret (by simp [results, Tryz.results8, go_sem]; try rfl) rfl ?_
                        exact ⟨by rw [HG.out]; rfl, HK.out⟩
                      | true =>
                        rw [hvf] at hV
                        have HG : Hid (rdP s = (m, p, rest, 200)) := by show _ = _; rw [HG1.out, if_neg (by simp [hg1]), if_neg hn4, if_neg (by rintro (h | h); exact h hn; rw [hvf] at h; cases h)]
                        clear hn4 hn hvf
                        go_upto_region 30 with (first
                          | (go_at_call 23; refine (hV _).mono ?_; rintro e w1 ⟨rfl, hw1⟩; subst w1; clear hV)
                          | fail)
                        go_quiet (fail)
                        go_wp2
                        refine bodyPost_ret (by simp [results, Tryz.results8, go_sem]; try rfl) rfl ?_
                        exact ⟨by rw [HG.out]; rfl, HK.out.and (Kept.drewN _ _ _)⟩
                    · have z1 : (((rest.size : Nat) : Int) != ((n : Nat) : Int)) = true := by rw [bne_iff_ne]; omega
                      have HG : Hid (rdP s = (⟨#[]⟩, ⟨#[]⟩, ⟨#[]⟩, 400)) := by show _ = _; rw [HG1.out, if_neg (by simp [hg1]), if_neg hn4, if_pos (.inl hn)]
                      clear hn4 hn hV
                      go_wp2
                      refine bodyPost_ret (by simp [results, Tryz.results8, go_sem]; try rfl) rfl ?_
                      exact ⟨by rw [HG.out]; rfl, HK.out⟩
                | false =>
                  have g1 : (m.toList == [71, 69, 84]) = false := by rw [Lib.toList_data]; exact hg1
                  cases hg2 : (m.data.toList == [80, 79, 83, 84]) with
                  | true =>
                    have g2 : (m.toList == [80, 79, 83, 84]) = true := by rw [Lib.toList_data]; exact hg2
                    by_cases hn4 : 4096 < n
                    · have nn1 : (4096 : Int) < ((n : Nat) : Int) := by omega
                      have HG : Hid (rdP s = (⟨#[]⟩, ⟨#[]⟩, ⟨#[]⟩, 413)) := by show _ = _; rw [HG1.out, if_neg (by simp [hg1, hg2]), if_pos hn4]
                      clear hn4 hV
                      go_wp2
                      refine bodyPost_ret (by simp [results, Tryz.results8, go_sem]; try rfl) rfl ?_
                      exact ⟨by rw [HG.out]; rfl, HK.out⟩
                    · have nn1 : ¬ (4096 : Int) < ((n : Nat) : Int) := by omega
                      by_cases hn : rest.size = n
                      · have z1 : (((rest.size : Nat) : Int) != ((n : Nat) : Int)) = false := by rw [hn]; simp
                        cases hvf : vf rest 0 with
                        | false =>
                          rw [hvf] at hV
                          have HG : Hid (rdP s = (⟨#[]⟩, ⟨#[]⟩, ⟨#[]⟩, 400)) := by show _ = _; rw [HG1.out, if_neg (by simp [hg1, hg2]), if_neg hn4, if_pos (.inr hvf)]
                          clear hn4 hn hvf
                          go_upto_region 29 with (first
                            | (go_at_call 23; refine (hV _).mono ?_; rintro e w1 ⟨rfl, hw1⟩; subst w1; clear hV)
                            | fail)
                          go_wp2
                          refine bodyPost_ret (by simp [results, Tryz.results8, go_sem]; try rfl) rfl ?_
                          exact ⟨by rw [HG.out]; rfl, HK.out⟩
                        | true =>
                          rw [hvf] at hV
                          have HG : Hid (rdP s = (m, p, rest, 200)) := by show _ = _; rw [HG1.out, if_neg (by simp [hg1, hg2]), if_neg hn4, if_neg (by rintro (h | h); exact h hn; rw [hvf] at h; cases h)]
                          clear hn4 hn hvf
                          go_upto_region 30 with (first
                            | (go_at_call 23; refine (hV _).mono ?_; rintro e w1 ⟨rfl, hw1⟩; subst w1; clear hV)
                            | fail)
                          go_quiet (fail)
                          go_wp2
                          refine bodyPost_ret (by simp [results, Tryz.results8, go_sem]; try rfl) rfl ?_
                          exact ⟨by rw [HG.out]; rfl, HK.out.and (Kept.drewN _ _ _)⟩
                      · have z1 : (((rest.size : Nat) : Int) != ((n : Nat) : Int)) = true := by rw [bne_iff_ne]; omega
                        have HG : Hid (rdP s = (⟨#[]⟩, ⟨#[]⟩, ⟨#[]⟩, 400)) := by show _ = _; rw [HG1.out, if_neg (by simp [hg1, hg2]), if_neg hn4, if_pos (.inl hn)]
                        clear hn4 hn hV
                        go_wp2
                        refine bodyPost_ret (by simp [results, Tryz.results8, go_sem]; try rfl) rfl ?_
                        exact ⟨by rw [HG.out]; rfl, HK.out⟩
                  | false =>
                    have g2 : (m.toList == [80, 79, 83, 84]) = false := by rw [Lib.toList_data]; exact hg2
                    have HG : Hid (rdP s = (⟨#[]⟩, ⟨#[]⟩, ⟨#[]⟩, 405)) := by show _ = _; rw [HG1.out, if_pos ⟨hg1, hg2⟩]
                    clear hV hg1 hg2
                    go_wp2
                    refine bodyPost_ret (by simp [results, Tryz.results8, go_sem]; try rfl) rfl ?_
                    exact ⟨by rw [HG.out]; rfl, HK.out⟩
    · have c1 : ¬ z < 0 := by omega
      have c2 : 4096 < z + 4 := by omega
      have c3 : (4096 : Int) ≤ (s.size : Int) := by omega
      have hca : cutAt s = -1 := by rw [hct, if_neg (by omega)]
      have HG : Hid (rdP s = (⟨#[]⟩, ⟨#[]⟩, ⟨#[]⟩, 431)) := by
        show _ = _
        unfold rdP
        rw [if_pos (by rw [hca]; decide), if_pos (by omega)]
      clear hct hca
      go_enter Tryz.func8, Tryz.ntmps8
      go_wp2_with (first
        | (go_at_call 16; refine (hI _).mono ?_; rintro e w1 ⟨rfl, hw1⟩; subst w1; clear hI)
        | fail)
      refine bodyPost_ret (by simp [results, Tryz.results8, go_sem]; try rfl) rfl ?_
      exact ⟨by rw [HG.out]; rfl, Kept.refl _ _⟩
  · have c1 : z < 0 := by omega
    clear hroom hge
    by_cases hb : 4096 ≤ s.size
    · have c3 : (4096 : Int) ≤ (s.size : Int) := by omega
      have hca : cutAt s = -1 := by rw [hct, if_neg (by omega)]
      have HG : Hid (rdP s = (⟨#[]⟩, ⟨#[]⟩, ⟨#[]⟩, 431)) := by
        show _ = _
        unfold rdP
        rw [if_pos (by rw [hca]; decide), if_pos hb]
      clear hct hca
      go_enter Tryz.func8, Tryz.ntmps8
      go_wp2_with (first
        | (go_at_call 16; refine (hI _).mono ?_; rintro e w1 ⟨rfl, hw1⟩; subst w1; clear hI)
        | fail)
      refine bodyPost_ret (by simp [results, Tryz.results8, go_sem]; try rfl) rfl ?_
      exact ⟨by rw [HG.out]; rfl, Kept.refl _ _⟩
    · have c3 : ¬ (4096 : Int) ≤ (s.size : Int) := by omega
      have hca : cutAt s = -1 := by rw [hct, if_neg (by omega)]
      have HG : Hid (rdP s = (⟨#[]⟩, ⟨#[]⟩, ⟨#[]⟩, 400)) := by
        show _ = _
        unfold rdP
        rw [if_pos (by rw [hca]; decide), if_neg hb]
      clear hct hca
      go_enter Tryz.func8, Tryz.ntmps8
      go_wp2_with (first
        | (go_at_call 16; refine (hI _).mono ?_; rintro e w1 ⟨rfl, hw1⟩; subst w1; clear hI)
        | fail)
      refine bodyPost_ret (by simp [results, Tryz.results8, go_sem]; try rfl) rfl ?_
      exact ⟨by rw [HG.out]; rfl, Kept.refl _ _⟩

end Go.Proofs.YtfiaaaflpjpnjaaGreatDoor

/-
  FrontRead, walked: any bytes are a request, or they are answered by a status that says why not.
-/
namespace Go.Proofs.YtfiaaaflpjpnjaaGreatDoor
open Go.ChangeShapes Go.WideShapes Go.ChangeAt Go.RowKit Go.Deep

theorem read_row (W : World) {a : Option Addr} {m c : Nat} {l : List Int} (B : BytesAt W a m c l) (hm : m ≤ 9000) (T : Utf8At W) (M : MaxAt W) :
    Calls Tryz.prog 7 #[.slice a m c] W fun e w' => e = .returned (rdV (rdP (strOfNums l))) ∧ Kept (fun _ => False) W w' := by
  obtain ⟨b, o, hz, had, hc, hB⟩ := row_text B
  have h := read_any W a c b o (strOfNums l) had (by omega) (by omega) hB T M
  rwa [hz] at h

theorem refRead_row (W : World) {a : Option Addr} {m c : Nat} {l : List Int} (B : BytesAt W a m c l) (hm : m ≤ 9000) :
    Calls Tryz.prog 8 #[.slice a m c] W fun e w' => e = .returned (rdV (rdP (strOfNums l))) ∧ Kept (fun _ => False) W w' := by
  obtain ⟨b, o, hz, had, hc, hB⟩ := row_text B
  have h := refRead_any W a c b o (strOfNums l) had (by omega) (by omega) hB
  rwa [hz] at h

theorem lent_bytes {w : World} {base g m cap : Nat} {b : List Int} (hb : b.length = m) (hy : ∀ y ∈ b, 0 ≤ y ∧ y ≤ 255) (ho : w.ownsRow base 5 1 (.slice (some ⟨g, 0, none⟩) (m + 4) cap) (m + 4) (lentOf b)) : BytesAt w (some ⟨g, 0, none⟩) m cap b := by
  have hl : (b ++ [201, 202, 203, 204]).length = m + 4 := by rw [List.length_append, hb]; rfl
  have h2 : w.ownsRow base 5 1 (.slice (some ⟨g, 0, none⟩) (b ++ [201, 202, 203, 204]).length cap) (b ++ [201, 202, 203, 204]).length ((b ++ [201, 202, 203, 204]).map (Value.int .u8)) := by
    rw [hl, List.map_append]; exact ho
  have h3 := BytesAt.ofRow h2 (fun x hx => by
    rcases List.mem_append.1 hx with h | h
    · exact hy x h
    · simp at h; omega)
  rw [hl] at h3
  have h4 := h3.first (k := m) (by omega)
  have e : (b ++ [201, 202, 203, 204] : List Int).take m = b := by
    subst hb
    exact List.take_left
  rwa [e] at h4

def ClipPost (w : World) (a : Option Addr) (c : Nat) (e : Ending) (w' : World) : Prop := ∃ m2 l2, m2 ≤ 9000 ∧ e = .returned (.slice a m2 c) ∧ BytesAt w a m2 c l2 ∧ w' = w

set_option maxHeartbeats 1000000 in
theorem clip_any (w : World) (a : Option Addr) (m c : Nat) (l : List Int) (B : BytesAt w a m c l) :
    Calls Tryz.prog 5 #[.slice a m c] w fun e w' => ClipPost w a c e w' := by
  by_cases h : 9000 < m
  · have e1 : (9000 : Int) < (m : Int) := by omega
    have hc := B.cap
    have e2 : (9000 : Int) ≤ (c : Int) := by omega
    cases a with
    | none => have := B.nil rfl; omega
    | some ad =>
      have HB := hid (B.first (k := 9000) (by omega))
      clear B h hc
      go_enter Tryz.func5, Tryz.ntmps5
      go_wp2
      go_ret
      exact ⟨9000, _, Nat.le_refl _, rfl, HB.out, rfl⟩
  · have e1 : ¬ (9000 : Int) < (m : Int) := by omega
    have HB := hid B
    clear B
    go_enter Tryz.func5, Tryz.ntmps5
    go_wp2
    go_ret
    exact ⟨m, l, by omega, rfl, HB.out, rfl⟩

set_option maxRecDepth 100000 in
set_option maxHeartbeats 16000000 in
theorem frontRead_walk (w : World) (av : Option Addr) (n cv : Nat) (A : Nat → PX) (R : RowsAt w av n A) (T : Utf8At w) (M : MaxAt w) :
    Calls Tryz.prog 3 #[.slice av n cv] w fun e w' => e = .returned (.bool true) ∧ Below w.heap.size w w' := by
  have HT := hid T
  have HM := hid M
  have HR := hid R
  have hWk := fun V (K : Kept (fun _ => False) w V) => wakes_any V (HT.out.kept K) (HM.out.kept K)
  have HWk := hid hWk
  clear hWk T M R
  go_enter Tryz.func3, Tryz.ntmps3
  go_wp2
  go_loopw [3, 4, 5, 6, 7, 8, 9, 10, 11, 12, 13] (fun i v4 v5 v6 v7 v8 v9 v10 v11 v12 v13 wr => ∃ j : Nat, j ≤ n ∧ j ≤ 12 ∧ i = .int .i64 (j : Int) ∧ Kept (fun _ => False) w wr) (fun i _ _ _ _ _ _ _ _ _ _ _ => 12 - (intOf i).toNat)
  case atStart => exact ⟨0, Nat.zero_le _, Nat.zero_le _, rfl, Kept.refl _ _⟩
  case round =>
    obtain ⟨j, hj, hj12, rfl, K⟩ := hrel
    have HK := hid K
    clear K
    obtain ⟨c, hc⟩ : ∃ c : Bool, c = decide (j < n ∧ j < 12) := ⟨_, rfl⟩
    have HC := hid hc
    clear hc
    go_upto_region 2 with fail
    go_cut [21] from 14 to 68 (fun v wx => v = .bool c ∧ wx = wr)
    case first =>
      by_cases h1 : (j : Int) < (n : Int)
      · by_cases h2 : (j : Int) < 12
        · have HB : Hid (c = true) := by show c = true; rw [HC.out, decide_eq_true_eq]; omega
          go_wp2_with fail
          go_meet
          case rel => exact ⟨by rw [HB.out], rfl⟩
        · have HB : Hid (c = false) := by show c = false; rw [HC.out, decide_eq_false_iff_not]; omega
          go_wp2_with fail
          go_meet
          case rel => exact ⟨by rw [HB.out], rfl⟩
      · have HB : Hid (c = false) := by show c = false; rw [HC.out, decide_eq_false_iff_not]; omega
        go_wp2_with fail
        go_meet
        case rel => exact ⟨by rw [HB.out], rfl⟩
    case rest =>
      obtain ⟨hc, hcw⟩ := hcut
      subst wc
      subst hc
      cases c with
      | true =>
        have hb2 : j < n ∧ j < 12 := of_decide_eq_true HC.out.symm
        obtain ⟨h1, h2⟩ := hb2
        have e1 : (j : Int) < (n : Int) := by omega
        rcases HR.out with h0 | ⟨vb, vo, hav, hcell⟩
        · omega
        subst hav
        obtain ⟨hcj, hB⟩ := hcell j h1
        have hx : wr.cell? ⟨vb, vo + j, none⟩ = some (.slice (A j).1 (A j).2.1 (A j).2.2.1) := (World.cell?_of_block (HK.out.block vb (World.block_lt_of_cell? w _ hcj) (fun h => h))).trans hcj
        have hB1 := hB.kept HK.out (fun _ _ _ h => h)
        clear hcell hcj hB
        generalize (A j).1 = a1 at *
        generalize (A j).2.1 = m1 at *
        generalize (A j).2.2.1 = c1 at *
        generalize (A j).2.2.2 = l1 at *
        have hCl := clip_any wr a1 m1 c1 l1 hB1
        clear hB1
        go_upto_region 5 with (first
          | (go_at_call 5; refine hCl.mono ?_; rintro e w1 ⟨m2, l2, hm2, rfl, B2, hw1⟩; subst w1; clear hCl)
          | fail)
        have hLe := lend_any wr a1 m2 c1 l2 B2 (by omega)
        have HB2 := hid B2
        have hyl := B2.byte
        have hll := B2.len
        have HYL := hid hyl
        have HLL := hid hll
        clear B2 hyl hll
        go_upto_region 6 with (first
          | (go_at_call 6; refine hLe.mono ?_; rintro e w2 ⟨g, cap, rfl, ho, K2⟩; clear hLe)
          | fail)
        have hgb := (ho.lt g rfl).1
        have hRd := read_row w2 (lent_bytes HLL.out HYL.out ho) hm2 (HT.out.kept (HK.out.and K2)) (HM.out.kept (HK.out.and K2))
        have HO := hid ho
        have HK2 := hid K2
        have HGB := hid hgb
        obtain ⟨rr, hrr⟩ : ∃ rr, rr = rdP (strOfNums l2) := ⟨_, rfl⟩
        rw [← hrr] at hRd
        have HRR := hid hrr
        clear ho K2 hgb hrr
        obtain ⟨x1, x2, x3, x4⟩ := rr
        have hRd2 : Calls Tryz.prog 7 #[.slice (some ⟨g, 0, none⟩) m2 cap] w2 fun e w' => e = .returned (.tuple #[.string x1, .string x2, .string x3, .int .i64 x4]) ∧ Kept (fun _ => False) w2 w' := hRd
        clear hRd
        go_upto_region 7 with (first
          | (go_at_call 7; refine hRd2.mono ?_; rintro e w3 ⟨rfl, K3⟩; clear hRd2)
          | fail)
        have HK3 := hid (HK2.out.and K3)
        have HK23 := hid K3
        have hRf := refRead_row w3 (HB2.out.kept HK3.out (fun _ _ _ h => h)) hm2
        rw [← HRR.out] at hRf
        have hRf2 : Calls Tryz.prog 8 #[.slice a1 m2 c1] w3 fun e w' => e = .returned (.tuple #[.string x1, .string x2, .string x3, .int .i64 x4]) ∧ Kept (fun _ => False) w3 w' := hRf
        clear hRf K3
        go_upto_region 8 with (first
          | (go_at_call 8; refine hRf2.mono ?_; rintro e w4 ⟨rfl, K4⟩; clear hRf2)
          | fail)
        have HK4 := hid (HK3.out.and K4)
        have hI := intact_any w4 wr.heap.size g m2 cap a1 c1 l2 (HB2.out.kept HK4.out (fun _ _ _ h => h)) (ownsRow_keep HO.out (fun k hk => ((HK23.out.and K4).block k (HO.out.lt k hk).2 (fun h => h)))) (by omega)
        have k1 : (x1.toList == x1.toList) = true := by simp
        have k2 : (x2.toList == x2.toList) = true := by simp
        have k3 : (x3.toList == x3.toList) = true := by simp
        clear K4
        go_wp2_with (first
          | (go_at_call 9; refine hI.mono ?_; rintro e w5 ⟨rfl, K5⟩; clear hI)
          | fail)
        have HK5 := hid ((HK.out.and HK4.out).trans K5 (fun i hi => .inr (by have h1 := HGB.out; have h2 := HK.out.size; omega)))
        clear K5
        go_roundw
        case rel => exact ⟨j + 1, by omega, by omega, by go_num, HK5.out⟩
        case measure => simp [intOf]; omega
      | false =>
        have hWk := HWk.out wr HK.out
        go_wp2_with (first
          | (go_at_call 10; refine hWk.mono ?_; rintro e w5 ⟨rfl, K5⟩; clear hWk)
          | fail)
        go_ret
        exact ⟨rfl, (HK.out.and K5).below (Nat.le_refl _) (fun i h => h.elim)⟩

end Go.Proofs.YtfiaaaflpjpnjaaGreatDoor

/-
  FrontRead: any bytes are a request, or they are answered by a status that says why not; they are neither changed nor kept. For every list of rows of bytes.
-/
namespace Go.Proofs.YtfiaaaflpjpnjaaGreatDoor
open Go.ChangeShapes Go.WideShapes Go.ChangeAt Go.RowKit Go.Deep

set_option maxHeartbeats 4000000 in
set_option maxRecDepth 100000 in
theorem frontRead_lifted (os : Os) (started : os.Started) (H : Type) (enc : TypeId × Value → H) :
    ReturnsInHanded {} Tryz.checked os 3 .any (fun w args => (Rows.frontReadSpec.pre enc Tryz.prog Tryz.f3 [] false w args ∧ laidMetH Tryz.prog laidL w) ∧ sizedMet enc Tryz.prog Tryz.f3 (OpenSpec.ofChange Rows.frontReadSpec) false w args)
      (Rows.frontReadSpec.post enc Tryz.prog Tryz.f3 false true false false) := by
  refine returns_front (C := Tryz.checked) (X := fun w _ => laidMetH Tryz.prog laidL w) (fun _ _ _ hh h => h.of_heap hh) Tryz.own started (by kernel_rfl) Tryz.func3
    (ChangeSpec.witness_shaped (enc := enc) (C := Tryz.checked) (os := os) (X := fun w _ => laidMetH Tryz.prog laidL w) false (World.laidAll Tryz.prog os laidL) #[.slice none 0 0] 8 (World.laidAll_os _ _ _) (World.shaped_of_ZipB (by kernel_rfl) (by kernel_rfl)) (by kernel_rfl) (by kernel_rfl) (by kernel_rfl) (laid_met os _)) ?_
  intro W base args ds gs before hval0 hW _ hz hL hSh _
  have hval : ∀ (j : Nat) t v, Tryz.f3.params[j]? = some t → args[j]? = some v → Value.okWide Tryz.prog W .any base t v := hval0
  have hW' := hW
  obtain ⟨p, q, hA0, hV, rfl, _, _⟩ := hW
  have hA : DataW.TrodAll enc Tryz.prog W 0 (fun _ => true) true Tryz.f3.params.toList args.toList ds p := hA0
  rw [Tryz.params3] at hA hval
  obtain ⟨v0, vs0, d0, ds0, p0, q0, hargs, rfl, rfl, h0, r0⟩ := trodAll_cons hA
  obtain ⟨rfl, rfl, rfl⟩ := trodAll_nil r0
  obtain rfl : args = #[v0] := by cases args; simp_all
  obtain ⟨rfl, rfl⟩ := trodVars_none hV
  have k0 := h0
  have lt0 : ∀ x ∈ p0, x.block < W.heap.size := by obtain ⟨m, hm⟩ := k0; exact DataW.trod_lt m _ _ _ hm
  obtain ⟨a0', len0', cap0', rfl⟩ := okWide_slice Tryz.underlying22 (hval 0 22 v0 rfl rfl)
  obtain ⟨a0, len0, cap0, A0, e0, y0, w0⟩ : ∃ a len cap A, Value.slice a0' len0' cap0' = .slice a len cap ∧ len ≤ maxLen ∧ RowsAt W a len A := by
    obtain ⟨fuel, hf⟩ := h0
    exact rows_open hf ⟨_, _, _, rfl⟩
  simp only [Value.slice.injEq] at e0
  obtain ⟨rfl, rfl, rfl⟩ := e0
  clear hA0 hval0
  refine (frontRead_walk W _ _ _ A0 w0 (utf8_laid hL) (max_shaped hSh)).mono fun e W' ⟨he, bel⟩ => ?_
  subst he
  exact ⟨_, rfl, _, _, _, [], _, [], hW', trodAll_mk1 (shut_bool Tryz.underlying4 _), (trodAll_cons_mk (Below.trod Tryz.laidOut (by kernel_rfl) (of_decide_eq_true (by kernel_rfl)) k0 bel lt0) trodAll_mk0), rfl, bel.frame _, fun h => by cases h⟩

theorem frontRead_row : Rows.FrontReadSaid :=
  OpenClaim.holds_of_wide 3 Tryz.f3 rfl rfl rfl rfl rfl rfl rfl ⟨rfl, rfl, rfl, rfl, rfl⟩ rfl rfl rfl rfl rfl (by kernel_rfl) Tryz.func3 (by kernel_rfl)
    (of_decide_eq_true (by kernel_rfl)) (by unfold Func.isWrapper; first | (rw [if_pos (by decide +kernel)]; kernel_rfl) | (rw [if_neg (by decide +kernel)]; exact ⟨rfl, rfl⟩))
    (fun os started H enc _ => frontRead_lifted os started H enc)

theorem frontRead_holds : Rows.FrontReadCardSaid :=
  Claim7.holds_tied_plain_at .later [] [.data, .data, .data, .data, .sentinel, .sentinel, .data, .data, .pinned, .pinned] true Rows.frontReadCard.stood.harness true
    frontRead_row (fun _ h => by cases h) (by kernel_rfl) (fun _ h => by cases h) frontRead_row_tie rfl ⟨rfl, rfl⟩ (by kernel_rfl) rfl
    (fun f fn hf hfn => by
      obtain rfl : f = 3 := Option.some.inj ((show Tryz.prog.funcNamed "tiller/tillerlaw13.FrontRead" = some 3 by kernel_rfl).symm.trans hf) |>.symm
      obtain rfl : fn = Tryz.f3 := (Option.some.inj (Tryz.func3.symm.trans hfn)).symm
      exact ⟨by kernel_rfl, fun j t ht => by
        rw [Tryz.params3] at ht
        have hm : t ∈ [22] := by simpa using Array.mem_of_getElem? ht
        have hall : ([22].all fun u => !Tryz.prog.wantsStandIn u) = true := by kernel_rfl
        exact (show Tryz.prog.wantsStandIn t = false by simpa using List.all_eq_true.1 hall t hm)⟩)
    (by kernel_rfl)

end Go.Proofs.YtfiaaaflpjpnjaaGreatDoor
