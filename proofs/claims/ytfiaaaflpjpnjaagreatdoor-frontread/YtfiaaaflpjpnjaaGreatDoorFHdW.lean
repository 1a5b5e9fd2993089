/-
  readHead: any head, read as the data say.
-/
import Derived.Test.YtfiaaaflpjpnjaaGreatDoorFHd
namespace Go.Proofs.YtfiaaaflpjpnjaaGreatDoor
open Go.RowKit

theorem splitB_size (sep : ByteArray) : ∀ (k : Nat) (s x : ByteArray), x ∈ Lib.splitB sep 0 k s → x.size ≤ s.size
  | 0, s, x, h => by
    rw [Lib.splitB_zero] at h
    simp only [List.mem_singleton] at h
    subst h
    exact Nat.le_refl _
  | k + 1, s, x, h => by
    unfold Lib.splitB at h
    split at h
    · simp only [List.mem_singleton] at h
      subst h
      exact Nat.le_refl _
    · rcases List.mem_cons.1 h with h | h
      · subst h
        rw [ByteArray.size_extract]
        omega
      · have := splitB_size sep k _ x h
        rw [ByteArray.size_extract] at this
        omega

theorem goodW_three {ws : List ByteArray} (h : goodW ws = true) : ∃ m p v, ws = [m, p, v] := by
  unfold goodW at h
  split at h
  · exact ⟨_, _, _, rfl⟩
  · cases h

theorem goodW_len {ws : List ByteArray} (h : goodW ws = true) : ws.length = 3 := by
  obtain ⟨m, p, v, rfl⟩ := goodW_three h
  rfl

theorem three_of {α : Type} {l : List α} (h : l.length = 3) : ∃ a b c, l = [a, b, c] := by
  match l, h with
  | [a, b, c], _ => exact ⟨a, b, c, rfl⟩

def hdR (m p : ByteArray) (r : List ByteArray) : Option (ByteArray × ByteArray × Nat) := (hdF r false 0).map (fun n => (m, p, n))

theorem hdP_eq {s l0 : ByteArray} {r : List ByteArray} (h : linesP s = l0 :: r) : hdP s = if goodW (wordsP l0) = true then hdR ((wordsP l0).getD 0 ⟨#[]⟩) ((wordsP l0).getD 1 ⟨#[]⟩) r else none := by
  unfold hdP
  rw [h]
  dsimp only
  split
  · rename_i m p v heq
    rw [heq]
    rfl
  · rename_i hne
    rw [if_neg]
    intro hg
    obtain ⟨m, p, v, e⟩ := goodW_three hg
    exact hne m p v e

theorem line_bad {l : List UInt8} {ok : Bool} {nm val : List UInt8} (h : lineR l = if ok = false then none else if allP nmB nm = false then none else if val ≠ [] ∧ allP valB val = false then none else if Lib.equalFold nm clenL = false then some none else some (some val)) (hb : (!ok || !allP nmB nm || (!val.isEmpty && !allP valB val)) = true) : lineR l = none := by
  rw [h]
  cases ok with
  | false => rfl
  | true =>
    rw [if_neg (by decide)]
    cases ha : allP nmB nm with
    | false => rfl
    | true =>
      rw [if_neg (by decide)]
      rw [ha] at hb
      simp only [Bool.not_true, Bool.false_or, Bool.and_eq_true, Bool.not_eq_true', List.isEmpty_eq_false_iff] at hb
      rw [if_pos hb]

theorem line_good {l : List UInt8} {ok : Bool} {nm val : List UInt8} (h : lineR l = if ok = false then none else if allP nmB nm = false then none else if val ≠ [] ∧ allP valB val = false then none else if Lib.equalFold nm clenL = false then some none else some (some val)) (hb : (!ok || !allP nmB nm || (!val.isEmpty && !allP valB val)) = false) : allP nmB nm = true ∧ lineR l = if Lib.equalFold nm clenL = false then some none else some (some val) := by
  rw [h]
  cases ok with
  | false => cases hb
  | true =>
    cases ha : allP nmB nm with
    | false => rw [ha] at hb; cases hb
    | true =>
      rw [ha] at hb
      simp only [Bool.not_true, Bool.false_or, Bool.and_eq_false_iff, Bool.not_eq_false', List.isEmpty_iff] at hb
      refine ⟨rfl, ?_⟩
      rw [if_neg (by decide), if_neg (by decide), if_neg]
      rintro ⟨h1, h2⟩
      rcases hb with h3 | h3
      · exact h1 h3
      · rw [h3] at h2; cases h2

theorem hdF_skip {l : ByteArray} {r : List ByteArray} {said : Bool} {n : Nat} (h : lineR l.data.toList = some none) : hdF (l :: r) said n = hdF r said n := by
  simp only [hdF, h]

theorem hdF_len0 {l : ByteArray} {r : List ByteArray} {said : Bool} {n : Nat} {v : List UInt8} (h : lineR l.data.toList = some (some v)) (hx : lenP (Lib.trimB v 32) = none) : hdF (l :: r) said n = none := by
  simp only [hdF, h, hx]

theorem hdF_len1 {l : ByteArray} {r : List ByteArray} {said : Bool} {n x : Nat} {v : List UInt8} (h : lineR l.data.toList = some (some v)) (hx : lenP (Lib.trimB v 32) = some x) : hdF (l :: r) said n = if said then none else hdF r true x := by
  simp only [hdF, h, hx]

theorem trim_len (l : List UInt8) : (Lib.trimB l 32).length ≤ l.length := by
  unfold Lib.trimB Lib.trimLeftB Lib.trimRightB
  refine Nat.le_trans (List.dropWhile_sublist _).length_le ?_
  rw [List.length_reverse]
  refine Nat.le_trans (List.dropWhile_sublist _).length_le ?_
  rw [List.length_reverse]
  exact Nat.le_refl _

set_option maxRecDepth 100000 in
set_option maxHeartbeats 16000000 in
theorem head_any (w : World) (s : ByteArray) (hs : s.size ≤ 100000) (M : MaxAt w) :
    Calls Tryz.prog 14 #[.string s] w fun e w' => e = .returned (hdV (hdP s)) ∧ Kept (fun _ => False) w w' := by
  have HM := hid M
  obtain ⟨ls, hls⟩ : ∃ ls, linesP s = ls := ⟨_, rfl⟩
  have hlz : ∀ x ∈ ls, x.size ≤ 100000 := fun x hx => by
    rw [← hls] at hx
    exact Nat.le_trans (splitB_size _ _ _ x hx) hs
  have hll : 1 ≤ ls.length := by
    rw [← hls]
    unfold linesP
    rw [split_len _ _ (by decide)]
    omega
  have hl9 : ls.length ≤ 100001 := by
    rw [← hls]
    unfold linesP
    rw [split_len _ _ (by decide)]
    have := Lib.countB_le ⟨#[13, 10]⟩ (by decide) s.size s (Nat.le_refl _)
    omega
  cases ls with
  | nil => cases hll
  | cons l0 r =>
    have hrl : r.length ≤ 100000 := by rw [List.length_cons] at hl9; omega
    have HRL := hid hrl
    clear hl9 hrl
    obtain ⟨ws, hws⟩ : ∃ ws, wordsP l0 = ws := ⟨_, rfl⟩
    have HLZ := hid hlz
    have hl0 := hlz l0 List.mem_cons_self
    have HWZ : Hid (∀ x ∈ ws, x.size ≤ 100000) := fun x hx => by
      rw [← hws] at hx
      exact Nat.le_trans (splitB_size _ _ _ x hx) hl0
    have HGd0 : Hid (hdP s = if goodW ws = true then hdR (ws.getD 0 ⟨#[]⟩) (ws.getD 1 ⟨#[]⟩) r else none) := by
      show _ = _
      rw [hdP_eq hls, hws]
    have K0 : Kept (fun _ => False) w (w.alloc (.cells #[.string ⟨#[]⟩, .string ⟨#[]⟩, .int .i64 0] 35)) := Kept.alloc _ _ _
    have hb0 := heap_alloc_new w (.cells #[.string ⟨#[]⟩, .string ⟨#[]⟩, .int .i64 0] 35)
    have K1 : Kept (fun _ => False) (w.alloc (.cells #[.string ⟨#[]⟩, .string ⟨#[]⟩, .int .i64 0] 35)) ((w.alloc (.cells #[.string ⟨#[]⟩, .string ⟨#[]⟩, .int .i64 0] 35)).alloc (.cells #[.string ⟨#[]⟩, .string ⟨#[]⟩, .int .i64 0] 35)) := Kept.alloc _ _ _
    have hb1 := heap_alloc_new (w.alloc (.cells #[.string ⟨#[]⟩, .string ⟨#[]⟩, .int .i64 0] 35)) (.cells #[.string ⟨#[]⟩, .string ⟨#[]⟩, .int .i64 0] 35)
    have hsz : (w.alloc (.cells #[.string ⟨#[]⟩, .string ⟨#[]⟩, .int .i64 0] 35)).heap.size = w.heap.size + 1 := World.size_alloc _ _
    rw [hsz] at hb1
    have hbz : ((w.alloc (.cells #[.string ⟨#[]⟩, .string ⟨#[]⟩, .int .i64 0] 35)).alloc (.cells #[.string ⟨#[]⟩, .string ⟨#[]⟩, .int .i64 0] 35)).heap[w.heap.size]? = some (.cells #[.string ⟨#[]⟩, .string ⟨#[]⟩, .int .i64 0] 35) := by
      rw [K1.block w.heap.size (by rw [hsz]; omega) (fun h => h)]; exact hb0
    have hs2 : ((w.alloc (.cells #[.string ⟨#[]⟩, .string ⟨#[]⟩, .int .i64 0] 35)).alloc (.cells #[.string ⟨#[]⟩, .string ⟨#[]⟩, .int .i64 0] 35)).heap.size = w.heap.size + 2 := by rw [World.size_alloc, hsz]
    have hS1 : Calls Tryz.prog 31 #[.string s, .string ⟨#[13, 10]⟩] ((w.alloc (.cells #[.string ⟨#[]⟩, .string ⟨#[]⟩, .int .i64 0] 35)).alloc (.cells #[.string ⟨#[]⟩, .string ⟨#[]⟩, .int .i64 0] 35)) fun e w' => ∃ b, w.heap.size + 2 ≤ b ∧ e = .returned (.slice (some ⟨b, 0, none⟩) (l0 :: r).length (l0 :: r).length) ∧ LsAt w' b (l0 :: r) ∧ Kept (fun _ => False) ((w.alloc (.cells #[.string ⟨#[]⟩, .string ⟨#[]⟩, .int .i64 0] 35)).alloc (.cells #[.string ⟨#[]⟩, .string ⟨#[]⟩, .int .i64 0] 35)) w' := by
      have h := split_any ((w.alloc (.cells #[.string ⟨#[]⟩, .string ⟨#[]⟩, .int .i64 0] 35)).alloc (.cells #[.string ⟨#[]⟩, .string ⟨#[]⟩, .int .i64 0] 35)) s ⟨#[13, 10]⟩ (by omega) (by decide) (M.kept (K0.and K1))
      rw [show Lib.splitB ⟨#[13, 10]⟩ 0 (Lib.countB s ⟨#[13, 10]⟩) s = l0 :: r from hls, hs2] at h
      exact h
    have HK2 := hid (K0.and K1)
    have HbZ := hid hbz
    have Hb1 := hid hb1
    clear hb0 hb1 hbz hsz hs2 K0 K1 hll hlz hls M
    go_enter Tryz.func14, Tryz.ntmps14
    go_upto_region 2 with fail
    generalize (w.alloc (.cells #[.string ⟨#[]⟩, .string ⟨#[]⟩, .int .i64 0] 35)).alloc (.cells #[.string ⟨#[]⟩, .string ⟨#[]⟩, .int .i64 0] 35) = W2 at *
    obtain ⟨n1, hn1⟩ : ∃ n1, (l0 :: r).length = n1 := ⟨_, rfl⟩
    rw [hn1] at hS1
    have HN1 : Hid (n1 = r.length + 1) := by show n1 = _; rw [← hn1]; rfl
    clear hn1
    generalize hr0 : w.heap.size = r0 at *
    generalize hh0 : r0 + 1 = h0 at *
    go_upto_region 3 with (first
      | (go_at_call 31; refine hS1.mono ?_; rintro e W3 ⟨lb, hlb, rfl, L1, K3⟩; clear hS1)
      | fail)
    have HO : Hid (w.heap.size ≤ r0 ∧ w.heap.size ≤ h0 ∧ r0 ≠ h0 ∧ lb ≠ h0) := by show _ ∧ _; omega
    clear hr0 hh0 hlb
    have S3 : Hid (HdG w W3 r0 h0 lb ⟨#[]⟩ ⟨#[]⟩ 0 (l0 :: r)) := ⟨(K3.block _ (Array.getElem?_eq_some_iff.1 HbZ.out).1 (fun h => h)).trans HbZ.out, (K3.block _ (Array.getElem?_eq_some_iff.1 Hb1.out).1 (fun h => h)).trans Hb1.out, L1, HK2.out.and K3⟩
    have d0 := L1 0 (by rw [List.length_cons]; omega)
    change W3.cell? _ = some (.string l0) at d0
    have g0 : (0 : Int) < ((n1 : Nat) : Int) := by have := HN1.out; omega
    have hS2 : Calls Tryz.prog 31 #[.string l0, .string ⟨#[32]⟩] W3 fun e w' => ∃ b, e = .returned (.slice (some ⟨b, 0, none⟩) ws.length ws.length) ∧ LsAt w' b ws ∧ Kept (fun _ => False) W3 w' := by
      have h := split_any W3 l0 ⟨#[32]⟩ (by omega) (by decide) (HM.out.kept S3.out.kept)
      rw [show Lib.splitB ⟨#[32]⟩ 0 (Lib.countB l0 ⟨#[32]⟩) l0 = ws from hws] at h
      exact h.mono fun e w' ⟨b, _, h1, h2, h3⟩ => ⟨b, h1, h2, h3⟩
    obtain ⟨n2, hn2⟩ : ∃ n2, ws.length = n2 := ⟨_, rfl⟩
    rw [hn2] at hS2
    have HN2 : Hid (n2 = ws.length) := hn2.symm
    clear hn2 HbZ Hb1 HK2 L1 K3 hws
    go_upto_region 4 with (first
      | (go_at_call 31; refine hS2.mono ?_; rintro e W4 ⟨wb, rfl, L2', K4⟩; clear hS2 d0)
      | fail)
    have L2 := hid L2'
    have S4 := hid (S3.out.call K4)
    clear L2' K4 S3
    obtain ⟨bad, hbad⟩ : ∃ bad : Bool, bad = !goodW ws := ⟨_, rfl⟩
    have HBad := hid hbad
    clear hbad
    go_cut [42] from 14 (fun v wx => v = .bool bad ∧ wx = W4)
    case first =>
      by_cases h3 : n2 = 3
      · obtain ⟨m, p, v, hws⟩ : ∃ m p v, ws = [m, p, v] := three_of (by rw [← HN2.out]; exact h3)
        subst hws
        have f3 : ((((n2 : Nat) : Int)) != 3) = false := by rw [h3]; rfl
        have f0 : (0 : Int) < ((n2 : Nat) : Int) := by omega
        have f1 : (1 : Int) < ((n2 : Nat) : Int) := by omega
        have f2 : (2 : Int) < ((n2 : Nat) : Int) := by omega
        have w0 := L2.out 0 (by show 0 < 3; decide)
        have w1 := L2.out 1 (by show 1 < 3; decide)
        have w2 := L2.out 2 (by show 2 < 3; decide)
        change W4.cell? _ = some (.string m) at w0
        change W4.cell? _ = some (.string p) at w1
        change W4.cell? _ = some (.string v) at w2
        have hA := all_isCapital W4 m (by have := HWZ.out m (by simp); omega)
        have hP := path_any W4 p (by have := HWZ.out p (by simp); omega)
        clear h3
        cases ha : allP capB m.data.toList with
        | false =>
          rw [ha] at hA
          have HB : Hid (bad = true) := by show bad = _; rw [HBad.out]; show (!(allP capB m.data.toList && pathP p.data.toList && (v.data.toList == [72, 84, 84, 80, 47, 49, 46, 49]))) = _; rw [ha]; rfl
          go_wp2_with (first
            | (go_at_call 32; refine hA.mono ?_; rintro e w1 ⟨rfl, hw1⟩; subst w1; clear hA)
            | (go_at_call 34; refine hP.mono ?_; rintro e w1 ⟨rfl, hw1⟩; subst w1; clear hP)
            | fail)
          go_meet
          case rel => exact ⟨by rw [HB.out], rfl⟩
        | true =>
          rw [ha] at hA
          cases hp : pathP p.data.toList with
          | false =>
            rw [hp] at hP
            have HB : Hid (bad = true) := by show bad = _; rw [HBad.out]; show (!(allP capB m.data.toList && pathP p.data.toList && (v.data.toList == [72, 84, 84, 80, 47, 49, 46, 49]))) = _; rw [ha, hp]; rfl
            go_wp2_with (first
              | (go_at_call 32; refine hA.mono ?_; rintro e w1 ⟨rfl, hw1⟩; subst w1; clear hA)
              | (go_at_call 34; refine hP.mono ?_; rintro e w1 ⟨rfl, hw1⟩; subst w1; clear hP)
              | fail)
            go_meet
            case rel => exact ⟨by rw [HB.out], rfl⟩
          | true =>
            rw [hp] at hP
            cases hv : (v.data.toList == [72, 84, 84, 80, 47, 49, 46, 49]) with
            | false =>
              have g1 : (v.toList == [72, 84, 84, 80, 47, 49, 46, 49]) = false := by rw [Lib.toList_data]; exact hv
              have HB : Hid (bad = true) := by show bad = _; rw [HBad.out]; show (!(allP capB m.data.toList && pathP p.data.toList && (v.data.toList == [72, 84, 84, 80, 47, 49, 46, 49]))) = _; rw [ha, hp, hv]; rfl
              go_wp2_with (first
                | (go_at_call 32; refine hA.mono ?_; rintro e w1 ⟨rfl, hw1⟩; subst w1; clear hA)
                | (go_at_call 34; refine hP.mono ?_; rintro e w1 ⟨rfl, hw1⟩; subst w1; clear hP)
                | fail)
              go_meet
              case rel => exact ⟨by rw [HB.out], rfl⟩
            | true =>
              have g1 : (v.toList == [72, 84, 84, 80, 47, 49, 46, 49]) = true := by rw [Lib.toList_data]; exact hv
              have HB : Hid (bad = false) := by show bad = _; rw [HBad.out]; show (!(allP capB m.data.toList && pathP p.data.toList && (v.data.toList == [72, 84, 84, 80, 47, 49, 46, 49]))) = _; rw [ha, hp, hv]; rfl
              go_wp2_with (first
                | (go_at_call 32; refine hA.mono ?_; rintro e w1 ⟨rfl, hw1⟩; subst w1; clear hA)
                | (go_at_call 34; refine hP.mono ?_; rintro e w1 ⟨rfl, hw1⟩; subst w1; clear hP)
                | fail)
              go_meet
              case rel => exact ⟨by rw [HB.out], rfl⟩
      · have f3 : ((((n2 : Nat) : Int)) != 3) = true := by
          rw [bne_iff_ne]
          omega
        have HB : Hid (bad = true) := by
          show bad = true
          rw [HBad.out]
          cases hg : goodW ws with
          | false => rfl
          | true => exact absurd (HN2.out.trans (goodW_len hg)) h3
        clear h3
        go_wp2_with fail
        go_meet
        case rel => exact ⟨by rw [HB.out], rfl⟩
    case rest =>
      obtain ⟨hc0, hcw⟩ := hcut
      subst wc
      subst hc0
      cases bad with
      | true =>
        have HZ0 : Hid (hdP s = none) := by
          show _ = _
          have h := HBad.out
          rw [HGd0.out, if_neg]
          intro hg
          rw [hg] at h
          cases h
        obtain ⟨hb, KK⟩ := S4.out.answer HO.out.1 ⟨#[]⟩ ⟨#[]⟩ 0
        obtain ⟨⟨a0, a1, a2⟩, _⟩ := three_cells hb
        obtain ⟨⟨o0, o1, o2⟩, q0, q1, q2⟩ := three_cells S4.out.b0
        have HKK := hid KK
        clear hb KK
        go_wp2
        refine bodyPost_ret (v := .tuple #[.agg #[.string ⟨#[]⟩, .string ⟨#[]⟩, .int .i64 0], .bool false]) (by simp [results, Tryz.results14, go_sem, a0, a1, a2]) rfl ?_
        exact ⟨by rw [HZ0.out]; rfl, HKK.out⟩
      | false =>
        have HGW : Hid (goodW ws = true) := by
          show _ = true
          have h := HBad.out
          cases hg : goodW ws with
          | true => rfl
          | false => rw [hg] at h; cases h
        obtain ⟨m, p, v, hws⟩ := goodW_three HGW.out
        subst hws
        have HGd : Hid (hdP s = hdR m p r) := by
          show _ = _
          rw [HGd0.out, HGW.out]
          rfl
        have w0 := L2.out 0 (by show 0 < 3; decide)
        have w1 := L2.out 1 (by show 1 < 3; decide)
        change W4.cell? _ = some (.string m) at w0
        change W4.cell? _ = some (.string p) at w1
        have f0 : (0 : Int) < ((n2 : Nat) : Int) := by have h : n2 = 3 := HN2.out; omega
        have f1 : (1 : Int) < ((n2 : Nat) : Int) := by have h : n2 = 3 := HN2.out; omega
        obtain ⟨⟨y0, y1, y2⟩, z0, z1, z2⟩ := three_cells S4.out.b1
        go_upto_region 6 with fail
        go_region
        have S6 := hid (S4.out.put HO.out.2.1 HO.out.2.2.1 HO.out.2.2.2 m p)
        generalize ((W4.setCell ⟨h0, 0, none⟩ (.string m)).setCell ⟨h0, 1, none⟩ (.string p)).drew = W6 at *
        clear w0 w1 f0 f1 y0 y1 y2 z0 z1 z2 S4
        obtain ⟨R, hR⟩ : ∃ R, R = r.length := ⟨_, rfl⟩
        have HRR := hid hR
        clear hR
        go_upto_region 8 with fail
        go_cut [5, 53, 54, 55] from 14 (fun v5 v53 v54 v55 wx => (∃ ad, v53 = .slice ad R R ∧ (0 < R → ad = some ⟨lb, 1, none⟩)) ∧ v54 = .int .i64 ((R : Nat) : Int) ∧ v55 = .int .i64 0 ∧ wx = W6)
        case first =>
          have HNN : Hid (n1 = R + 1) := by show _ = _; have := HN1.out; have := HRR.out; omega
          by_cases h11 : n1 = 1
          · obtain rfl : R = 0 := by have := HNN.out; omega
            subst h11
            go_wp2_with fail
            go_meet
            case rel => exact ⟨⟨_, rfl, fun h => absurd h (by decide)⟩, rfl, rfl, rfl⟩
          · have g1 : (1 : Int) ≤ ((n1 : Nat) : Int) := by have := HNN.out; omega
            have HR3 : Hid (n1 - 1 = R) := by show _ = _; have := HNN.out; omega
            go_wp2_with fail
            go_meet
            case rel => exact ⟨⟨_, by rw [HR3.out], fun _ => rfl⟩, by rw [HR3.out], rfl, rfl⟩
        case rest =>
          obtain ⟨⟨ad, hc1, had⟩, hc2, hc3, hcw⟩ := hcut
          subst wc
          subst hc1
          subst hc2
          subst hc3
          go_wp2
          go_loopg [7, 9, 10, 11, 12, 13, 55] R (fun gk sd v9 v10 v11 v12 v13 i wr => ∃ (k : Nat) (said : Bool) (n : Nat), k ≤ R ∧ gk + k = R ∧ i = .int .i64 ((k : Nat) : Int) ∧ sd = .bool said ∧ hdF (r.drop k) said n = hdF r false 0 ∧ HdG w wr r0 h0 lb m p n (l0 :: r))
          case atStart => exact ⟨0, false, 0, Nat.zero_le _, by omega, rfl, rfl, rfl, S6.out⟩
          case round =>
            obtain ⟨k, said, n, hk, hgk, rfl, rfl, hv, S⟩ := hrel
            have HS := hid S
            have HV := hid hv
            clear S hv
            have HGK := hid hgk
            have hrl := HRL.out
            by_cases hlt : k < R
            · have e0 : ((k : Nat) : Int) < ((R : Nat) : Int) := by omega
              obtain ⟨rfl, hkr⟩ : ad = some ⟨lb, 1, none⟩ ∧ k < r.length := ⟨had (by omega), by have := HRR.out; omega⟩
              have c0 : wr.cell? ⟨lb, 1 + k, none⟩ = some (.string (r[k]'hkr)) := by
                rw [Nat.add_comm 1 k]
                exact HS.out.ln (k + 1) (by rw [List.length_cons]; omega)
              have hlz := HLZ.out (r[k]'hkr) (List.mem_cons_of_mem _ (List.getElem_mem hkr))
              rw [List.drop_eq_getElem_cons hkr] at HV
              generalize r[k]'hkr = l at *
              have hC := cut_any wr l (by omega) (HM.out.kept HS.out.kept)
              have hcl := cut_len l.data.toList
              have hzl : l.data.toList.length = l.size := Array.length_toList
              have HLR : Hid (lineR l.data.toList = if (Lib.cut l.data.toList [58]).2.2 = false then none else if allP nmB (Lib.cut l.data.toList [58]).1 = false then none else if (Lib.cut l.data.toList [58]).2.1 ≠ [] ∧ allP valB (Lib.cut l.data.toList [58]).2.1 = false then none else if Lib.equalFold (Lib.cut l.data.toList [58]).1 clenL = false then some none else some (some (Lib.cut l.data.toList [58]).2.1)) := rfl
              generalize (Lib.cut l.data.toList [58]).2.2 = ok at *
              generalize (Lib.cut l.data.toList [58]).2.1 = val at *
              generalize (Lib.cut l.data.toList [58]).1 = nm at *
              obtain ⟨bad2, hbad2⟩ : ∃ bad2 : Bool, bad2 = (!ok || !allP nmB nm || (!val.isEmpty && !allP valB val)) := ⟨_, rfl⟩
              have HBad2 := hid hbad2
              clear hbad2
              go_upto_region 12 with (first
                | (go_at_call 35; refine hC.mono ?_; rintro e w7 ⟨rfl, K7⟩; clear hC; have S7 := hid (HS.out.call K7); clear K7 HS)
                | fail)
              have hA2 := all_isNameByte w7 (mkB nm) (by rw [mkB_size]; omega)
              have hA3 := all_isValueByte w7 (mkB val) (by rw [mkB_size]; omega)
              rw [mkB_list] at hA2 hA3
              go_cut [55, 80] from 55 to 99 (fun u v wx => u = .int .i64 ((k : Nat) : Int) ∧ v = .bool bad2 ∧ wx = w7)
              case first =>
                cases ok with
                | false =>
                  have HB : Hid (bad2 = true) := by show bad2 = _; rw [HBad2.out]; simp [*]
                  go_wp2_with (first
                    | fail)
                  go_meet
                  case rel => exact ⟨rfl, by rw [HB.out], rfl⟩
                | true =>
                  cases ha : allP nmB nm with
                  | false =>
                    rw [ha] at hA2
                    have HB : Hid (bad2 = true) := by show bad2 = _; rw [HBad2.out]; simp [*]
                    go_wp2_with (first
                      | (go_at_call_of 32 (Value.string (mkB nm)); refine hA2.mono ?_; rintro e w1 ⟨rfl, hw1⟩; subst w1; clear hA2)
                      | fail)
                    go_meet
                    case rel => exact ⟨rfl, by rw [HB.out], rfl⟩
                  | true =>
                    rw [ha] at hA2
                    cases val with
                    | nil =>
                      have g1 : (mkB []).toList.isEmpty = true := by decide +kernel
                      have HB : Hid (bad2 = false) := by show bad2 = _; rw [HBad2.out]; simp [*]
                      go_wp2_with (first
                        | (go_at_call_of 32 (Value.string (mkB nm)); refine hA2.mono ?_; rintro e w1 ⟨rfl, hw1⟩; subst w1; clear hA2)
                        | fail)
                      go_meet
                      case rel => exact ⟨rfl, by rw [HB.out], rfl⟩
                    | cons c2 t2 =>
                      have g1 : (mkB (c2 :: t2)).toList.isEmpty = false := by rw [Lib.toList_data]; rfl
                      cases hv : allP valB (c2 :: t2) with
                      | false =>
                        rw [hv] at hA3
                        have HB : Hid (bad2 = true) := by show bad2 = _; rw [HBad2.out]; simp [*]
                        go_wp2_with (first
                          | (go_at_call_of 32 (Value.string (mkB nm)); refine hA2.mono ?_; rintro e w1 ⟨rfl, hw1⟩; subst w1; clear hA2)
                          | (go_at_call 32; refine hA3.mono ?_; rintro e w1 ⟨rfl, hw1⟩; subst w1; clear hA3)
                          | fail)
                        go_meet
                        case rel => exact ⟨rfl, by rw [HB.out], rfl⟩
                      | true =>
                        rw [hv] at hA3
                        have HB : Hid (bad2 = false) := by show bad2 = _; rw [HBad2.out]; simp [*]
                        go_wp2_with (first
                          | (go_at_call_of 32 (Value.string (mkB nm)); refine hA2.mono ?_; rintro e w1 ⟨rfl, hw1⟩; subst w1; clear hA2)
                          | (go_at_call 32; refine hA3.mono ?_; rintro e w1 ⟨rfl, hw1⟩; subst w1; clear hA3)
                          | fail)
                        go_meet
                        case rel => exact ⟨rfl, by rw [HB.out], rfl⟩
              case rest =>
                obtain ⟨hc1, hc2, hcw⟩ := hcut
                subst wc
                subst hc1
                subst hc2
                clear hA2 hA3
                cases bad2 with
                | true =>
                  have HNx : Hid (hdF (l :: r.drop (k + 1)) said n = none) := by
                    show _ = _
                    have h := HBad2.out
                    unfold hdF
                    rw [line_bad HLR.out h.symm]
                  have HZ0 : Hid (hdP s = none) := by show _ = _; rw [HGd.out]; unfold hdR; rw [HV.out.symm.trans HNx.out]; rfl
                  obtain ⟨hb, KK⟩ := S7.out.answer HO.out.1 ⟨#[]⟩ ⟨#[]⟩ 0
                  obtain ⟨⟨a0, a1, a2⟩, _⟩ := three_cells hb
                  obtain ⟨⟨o0, o1, o2⟩, q0, q1, q2⟩ := three_cells S7.out.b0
                  have HKK := hid KK
                  clear hb KK
                  go_wp2
                  refine bodyPost_ret (v := .tuple #[.agg #[.string ⟨#[]⟩, .string ⟨#[]⟩, .int .i64 0], .bool false]) (by simp [results, Tryz.results14, go_sem, a0, a1, a2]) rfl ?_
                  exact ⟨by rw [HZ0.out]; rfl, HKK.out⟩
                | false =>
                  obtain ⟨hnm, hlr⟩ := line_good HLR.out HBad2.out.symm
                  clear HLR
                  have HLR := hid hlr
                  have hE := fold_any w7 nm (by omega) hnm
                  have hT := trim_any w7 val (by omega)
                  have HTZ : Hid ((Lib.trimB val 32).length ≤ 100000) := by
                    show _ ≤ _
                    exact Nat.le_trans (trim_len val) (by omega)
                  clear hlr hnm
                  cases hfd : Lib.equalFold nm clenL with
                  | false =>
                    rw [hfd] at hE
                    have HNx : Hid (hdF (l :: r.drop (k + 1)) said n = hdF (r.drop (k + 1)) said n) := hdF_skip (HLR.out.trans (by rw [hfd]; rfl))
                    clear hT hfd
                    go_wp2_with (first
                      | (go_at_call 38; refine hE.mono ?_; rintro e w8 ⟨rfl, hw8⟩; subst w8; clear hE)
                      | fail)
                    go_roundg (R - (k + 1))
                    case measure => omega
                    case rel => exact ⟨k + 1, said, n, hlt, by have := HGK.out; omega, by go_num, rfl, HNx.out.symm.trans HV.out, S7.out⟩
                  | true =>
                    rw [hfd] at hE
                    have hLn := fun V => length_any V (mkB (Lib.trimB val 32)) (by rw [mkB_size]; exact Nat.le_trans HTZ.out (by decide))
                    rw [mkB_list] at hLn
                    cases hx : lenP (Lib.trimB val 32) with
                    | none =>
                      rw [hx] at hLn
                      have HNx : Hid (hdF (l :: r.drop (k + 1)) said n = none) := hdF_len0 (HLR.out.trans (by rw [hfd]; rfl)) hx
                      have HZ0 : Hid (hdP s = none) := by show _ = _; rw [HGd.out]; unfold hdR; rw [HV.out.symm.trans HNx.out]; rfl
                      clear hfd hx
                      generalize mkB (Lib.trimB val 32) = tv at *
                      go_upto_region 17 with (first
                        | (go_at_call 38; refine hE.mono ?_; rintro e w8 ⟨rfl, hw8⟩; subst w8; clear hE)
                        | (go_at_call 40; refine hT.mono ?_; rintro e w8 ⟨rfl, K8⟩; clear hT; have S8 := hid (S7.out.call K8); clear K8)
                        | (go_at_call 39; refine (hLn _).mono ?_; rintro e w9 ⟨rfl, K9⟩; clear hLn; have S9 := hid (S8.out.call K9); clear K9)
                        | fail)
                      obtain ⟨hb, KK⟩ := S9.out.answer HO.out.1 ⟨#[]⟩ ⟨#[]⟩ 0
                      obtain ⟨⟨a0, a1, a2⟩, _⟩ := three_cells hb
                      obtain ⟨⟨o0, o1, o2⟩, q0, q1, q2⟩ := three_cells S9.out.b0
                      have HKK := hid KK
                      clear hb KK
                      go_wp2
                      refine bodyPost_ret (v := .tuple #[.agg #[.string ⟨#[]⟩, .string ⟨#[]⟩, .int .i64 0], .bool false]) (by simp [results, Tryz.results14, go_sem, a0, a1, a2]) rfl ?_
                      exact ⟨by rw [HZ0.out]; rfl, HKK.out⟩
                    | some x =>
                      rw [hx] at hLn
                      cases said with
                      | true =>
                        have HNx : Hid (hdF (l :: r.drop (k + 1)) true n = none) := (hdF_len1 (HLR.out.trans (by rw [hfd]; rfl)) hx).trans rfl
                        have HZ0 : Hid (hdP s = none) := by show _ = _; rw [HGd.out]; unfold hdR; rw [HV.out.symm.trans HNx.out]; rfl
                        clear hfd hx
                        generalize mkB (Lib.trimB val 32) = tv at *
                        go_upto_region 17 with (first
                          | (go_at_call 38; refine hE.mono ?_; rintro e w8 ⟨rfl, hw8⟩; subst w8; clear hE)
                          | (go_at_call 40; refine hT.mono ?_; rintro e w8 ⟨rfl, K8⟩; clear hT; have S8 := hid (S7.out.call K8); clear K8)
                          | (go_at_call 39; refine (hLn _).mono ?_; rintro e w9 ⟨rfl, K9⟩; clear hLn; have S9 := hid (S8.out.call K9); clear K9)
                          | fail)
                        obtain ⟨hb, KK⟩ := S9.out.answer HO.out.1 ⟨#[]⟩ ⟨#[]⟩ 0
                        obtain ⟨⟨a0, a1, a2⟩, _⟩ := three_cells hb
                        obtain ⟨⟨o0, o1, o2⟩, q0, q1, q2⟩ := three_cells S9.out.b0
                        have HKK := hid KK
                        clear hb KK
                        go_wp2
                        refine bodyPost_ret (v := .tuple #[.agg #[.string ⟨#[]⟩, .string ⟨#[]⟩, .int .i64 0], .bool false]) (by simp [results, Tryz.results14, go_sem, a0, a1, a2]) rfl ?_
                        exact ⟨by rw [HZ0.out]; rfl, HKK.out⟩
                      | false =>
                        have HNx : Hid (hdF (l :: r.drop (k + 1)) false n = hdF (r.drop (k + 1)) true x) := (hdF_len1 (HLR.out.trans (by rw [hfd]; rfl)) hx).trans rfl
                        clear hfd hx
                        generalize mkB (Lib.trimB val 32) = tv at *
                        go_upto_region 18 with (first
                          | (go_at_call 38; refine hE.mono ?_; rintro e w8 ⟨rfl, hw8⟩; subst w8; clear hE)
                          | (go_at_call 40; refine hT.mono ?_; rintro e w8 ⟨rfl, K8⟩; clear hT; have S8 := hid (S7.out.call K8); clear K8)
                          | (go_at_call 39; refine (hLn _).mono ?_; rintro e w9 ⟨rfl, K9⟩; clear hLn; have S9 := hid (S8.out.call K9); clear K9)
                          | fail)
                        obtain ⟨⟨y0, y1, y2⟩, z0, z1, z2⟩ := three_cells S9.out.b1
                        have S10 := hid (S9.out.len HO.out.2.1 HO.out.2.2.1 HO.out.2.2.2 x)
                        go_wp2
                        go_roundg (R - (k + 1))
                        case measure => omega
                        case rel => exact ⟨k + 1, true, x, hlt, by have := HGK.out; omega, by go_num, rfl, HNx.out.symm.trans HV.out, S10.out⟩
            · have e0 : ¬ ((k : Nat) : Int) < ((R : Nat) : Int) := by omega
              have HFin : Hid (hdP s = some (m, p, n)) := by
                show _ = _
                rw [HGd.out]
                unfold hdR
                rw [HV.out.symm, List.drop_eq_nil_of_le (by have := HRR.out; omega)]
                rfl
              obtain ⟨hb, KK⟩ := HS.out.answer HO.out.1 m p (n : Int)
              obtain ⟨⟨a0, a1, a2⟩, _⟩ := three_cells hb
              obtain ⟨⟨o0, o1, o2⟩, q0, q1, q2⟩ := three_cells HS.out.b0
              obtain ⟨⟨y0, y1, y2⟩, _⟩ := three_cells HS.out.b1
              have HKK := hid KK
              clear hb KK
              go_wp2
              refine bodyPost_ret (v := .tuple #[.agg #[.string m, .string p, .int .i64 (n : Int)], .bool true]) (by simp [results, Tryz.results14, go_sem, a0, a1, a2]) rfl ?_
              exact ⟨by rw [HFin.out]; rfl, HKK.out⟩

end Go.Proofs.YtfiaaaflpjpnjaaGreatDoor
