/-
  A request, as data; what its reading needs of memory.
-/
import Derived.Test.YtfiaaaflpjpnjaaGreatDoorFHdW
import Derived.Test.YtfiaaaflpjpnjaaGreatDoorFVal
import Derived.Test.YtfiaaaflpjpnjaaGreatDoorFBld
import Derived.Lib.IndexLaws
import Derived.Lib.IndexBytes
namespace Go.Proofs.YtfiaaaflpjpnjaaGreatDoor
open Go.RowKit

/-- Where a head ends; -1: nowhere within the bound. -/
def cutAt (s : ByteArray) : Int := Lib.index (s.data.toList.take 4096) [13, 10, 13, 10]

def rdP (s : ByteArray) : ByteArray × ByteArray × ByteArray × Int :=
  if cutAt s < 0 then (⟨#[]⟩, ⟨#[]⟩, ⟨#[]⟩, if 4096 ≤ s.size then 431 else 400)
  else match hdP (s.extract 0 (cutAt s).toNat) with
    | none => (⟨#[]⟩, ⟨#[]⟩, ⟨#[]⟩, 400)
    | some (m, p, n) =>
      if (m.data.toList == [71, 69, 84]) = false ∧ (m.data.toList == [80, 79, 83, 84]) = false then (⟨#[]⟩, ⟨#[]⟩, ⟨#[]⟩, 405)
      else if 4096 < n then (⟨#[]⟩, ⟨#[]⟩, ⟨#[]⟩, 413)
      else if (s.extract ((cutAt s).toNat + 4) s.size).size ≠ n ∨ vf (s.extract ((cutAt s).toNat + 4) s.size) 0 = false then (⟨#[]⟩, ⟨#[]⟩, ⟨#[]⟩, 400)
      else (m, p, s.extract ((cutAt s).toNat + 4) s.size, 200)

def rdV (r : ByteArray × ByteArray × ByteArray × Int) : Value := .tuple #[.string r.1, .string r.2.1, .string r.2.2.1, .int .i64 r.2.2.2]

theorem cutAt_ge (s : ByteArray) : -1 ≤ cutAt s := Lib.index_ge _ _

theorem cutAt_room {s : ByteArray} (h : 0 ≤ cutAt s) : (cutAt s).toNat + 4 ≤ s.size ∧ (cutAt s).toNat + 4 ≤ 4096 := by
  have h2 := Lib.index_room _ _ h
  have hz : s.data.toList.length = s.size := Array.length_toList
  simp only [List.length_take, List.length_cons, List.length_nil] at h2
  unfold cutAt at h ⊢
  omega

theorem atB_ext {s : ByteArray} {k n j : Nat} (hn : n ≤ s.size) (hj : j < n - k) : atB (s.extract k n) j = atB s (k + j) := by
  have h1 : j < (s.extract k n).size := by rw [ByteArray.size_extract]; omega
  rw [← atB_is h1, ← atB_is (show k + j < s.size by omega), ByteArray.getElem_extract]

theorem BsAt.sub {w : World} {b o k n : Nat} {s : ByteArray} (B : BsAt w b o s) (hn : n ≤ s.size) : BsAt w b (o + k) (s.extract k n) := fun j hj => by
  rw [ByteArray.size_extract] at hj
  rw [atB_ext hn (by omega), Nat.add_assoc]
  exact B (k + j) (by omega)

theorem list_atB (s : ByteArray) (j : Nat) (h : j < s.size) : (s.data.toList.map (fun b => (b.toNat : Int)))[j]? = some ((atB s j : Nat) : Int) := by
  have hz : s.data.toList.length = s.size := Array.length_toList
  rw [List.getElem?_map, List.getElem?_eq_getElem (by omega), ← atB_is h, Array.getElem_toList]
  rfl

theorem nums_mkB (l : List UInt8) : strOfNums (l.map (fun b => (b.toNat : Int))) = mkB l := by
  have h : (l.map (fun b => (b.toNat : Int))).map (fun n => UInt8.ofNat n.toNat) = l := by
    rw [List.map_map]
    conv => rhs; rw [← List.map_id l]
    apply List.map_congr_left
    intro b _
    simp
  show (⟨((l.map (fun b => (b.toNat : Int))).map (fun n => UInt8.ofNat n.toNat)).toArray⟩ : ByteArray) = ⟨l.toArray⟩
  rw [h]

theorem bs_bytes {w : World} {ad : Option Addr} {b o c : Nat} {s : ByteArray} (had : 0 < s.size → ad = some ⟨b, o, none⟩) (hc : s.size ≤ c) (B : BsAt w b o s) : BytesAt w ad s.size c (s.data.toList.map (fun b => (b.toNat : Int))) := by
  have hz : s.data.toList.length = s.size := Array.length_toList
  refine ⟨by rw [List.length_map]; exact hz, hc, fun h => ?_, fun a ha j u hu => ?_, fun y hy => ?_⟩
  · rcases Nat.eq_zero_or_pos s.size with h0 | h0
    · exact h0
    · rw [had h0] at h; cases h
  · have hj : j < s.size := by
      have h2 := (List.getElem?_eq_some_iff.1 hu).1
      simp only [List.length_map] at h2
      omega
    have h3 := had (by omega)
    rw [ha] at h3
    cases h3
    rw [List.getElem?_map, list_atB s j hj] at hu
    simp only [Option.map_some, Option.some.injEq] at hu
    subst hu
    rw [Addr.add_lit]
    exact B j hj
  · obtain ⟨x, _, rfl⟩ := List.mem_map.1 hy
    have := x.toNat_lt
    omega

theorem bs_str {w : World} {ad : Option Addr} {b o c : Nat} {s : ByteArray} (had : 0 < s.size → ad = some ⟨b, o, none⟩) (hc : s.size ≤ c) (B : BsAt w b o s) : (convert 23 9 (.slice ad s.size c)).run Tryz.prog w = .ok (.string s) w := by
  have h := (bs_bytes had hc B).str
  rwa [nums_mkB, mkB_of] at h

theorem index_any (W : World) (ad : Option Addr) (M cp b o g : Nat) (s : ByteArray) (had : 0 < s.size → ad = some ⟨b, o, none⟩) (hM : M = min s.size 4096) (hcp : s.size ≤ cp) (B : BsAt W b o s) (MX : MaxAt W) (hg : W.heap[g]? = some (.cells #[.int .u8 13, .int .u8 10, .int .u8 13, .int .u8 10] 5 (4, 5))) :
    Calls Tryz.prog 13 #[.slice ad M cp, .slice (some ⟨g, 0, none⟩) 4 4] W fun e w' => e = .returned (.int .i64 (cutAt s)) ∧ Kept (fun _ => False) W w' := by
  have hz : s.data.toList.length = s.size := Array.length_toList
  by_cases h4 : M < 4
  · have hc : cutAt s = -1 := by
      have h1 := cutAt_ge s
      by_cases h0 : 0 ≤ cutAt s
      · have := cutAt_room h0
        omega
      · omega
    rw [hc]
    exact (Any.bytes_Index_longer Tryz.bytesIndexL ad (some ⟨g, 0, none⟩) M cp 4 4 W (by decide) h4 (by decide)).mono fun e w' ⟨he, hw⟩ => ⟨he, by subst hw; exact Kept.refl _ _⟩
  · obtain rfl := had (by omega)
    obtain ⟨m, hm⟩ := MX
    have hx : ∀ i, i < M → ((s.data.toList.take 4096).map (fun b => (b.toNat : Int))).getD i 0 = ((atB s i : Nat) : Int) := fun i hi => by
      have h := list_atB s i (by omega)
      rw [List.map_take, List.getD_eq_getElem?_getD, List.getElem?_take, if_pos (by omega), h]
      rfl
    have hI := Any.bytes_Index_at Tryz.bytesIndexL ⟨b, o, none⟩ ⟨g, 0, none⟩ M cp 4 4 ((s.data.toList.take 4096).map (fun b => (b.toNat : Int))) [13, 10, 13, 10] m W (by rw [List.length_map, List.length_take]; omega) rfl
      (fun x hx => by obtain ⟨y, _, rfl⟩ := List.mem_map.1 hx; have := y.toNat_lt; omega) (by decide)
      (fun i hi => by rw [Addr.add_lit, hx i hi]; exact B i (by omega))
      (fun i hi => by
        rw [Addr.add_lit, Nat.zero_add]
        simp only [World.cell?, hg]
        exact ints_at [13, 10, 13, 10] i hi)
      (by omega) (by omega) (by decide) hm
    have e1 : Lib.bytesOf ((s.data.toList.take 4096).map (fun b => (b.toNat : Int))) = s.data.toList.take 4096 := by
      unfold Lib.bytesOf
      rw [List.map_map]
      conv => rhs; rw [← List.map_id (s.data.toList.take 4096)]
      refine List.map_congr_left (fun x _ => ?_)
      simp
    rw [e1] at hI
    exact hI.mono fun e w' ⟨he, q, hw⟩ => ⟨he, by rw [hw]; exact Kept.drewN' _ _⟩

end Go.Proofs.YtfiaaaflpjpnjaaGreatDoor

/-
  The document's Read, as data: what its readers come to.
-/
namespace Go.Proofs.YtfiaaaflpjpnjaaGreatDoor
open Go.RowKit

theorem occ_take {l sub : List UInt8} {n j : Nat} (h : Lib.occAt (l.take n) sub j = true) : Lib.occAt l sub j = true := by
  unfold Lib.occAt at h ⊢
  rw [List.isPrefixOf_iff_prefix] at h ⊢
  refine h.trans ?_
  rw [List.drop_take]
  exact List.take_prefix _ _

/-- Where a part stands in a beginning. -/
theorem idx_take (l sub : List UInt8) (n : Nat) (hs : sub ≠ []) : Lib.index (l.take n) sub = if 0 ≤ Lib.index l sub ∧ Lib.index l sub + sub.length ≤ n then Lib.index l sub else -1 := by
  rcases Lib.index_spec l sub with ⟨h, hno⟩ | ⟨i, h, hi, ho, hno⟩
  · rw [h, if_neg (by omega)]
    refine Lib.index_none fun j hj => ?_
    cases h2 : Lib.occAt (l.take n) sub j with
    | false => rfl
    | true =>
      have h3 := occ_take h2
      have h4 := (Lib.occAt_room h3).resolve_right hs
      rw [hno j (by omega)] at h3
      cases h3
  · have hroom : i + sub.length ≤ l.length := (Lib.occAt_room ho).resolve_right hs
    by_cases hr : i + sub.length ≤ n
    · rw [h, if_pos (by omega)]
      refine Lib.index_first (by rw [List.length_take]; omega) ?_ (fun j hj => ?_)
      · rw [Lib.occAt_iff_take _ _ _ (by rw [List.length_take]; omega)]
        rw [Lib.occAt_iff_take _ _ _ hroom] at ho
        rw [List.drop_take, List.take_take, Nat.min_eq_left (by omega)]
        exact ho
      · cases h2 : Lib.occAt (l.take n) sub j with
        | false => rfl
        | true =>
          have h3 := occ_take h2
          rw [hno j hj] at h3
          cases h3
    · rw [if_neg (by rw [h]; omega)]
      refine Lib.index_none fun j hj => ?_
      cases h2 : Lib.occAt (l.take n) sub j with
      | false => rfl
      | true =>
        have h3 := occ_take h2
        have h4 := (Lib.occAt_room h2).resolve_right hs
        rw [List.length_take] at h4
        by_cases hji : j < i
        · rw [hno j hji] at h3
          cases h3
        · omega

/-- The document's small letters. -/
def lowB (c : UInt8) : UInt8 := if 65 ≤ c.toNat ∧ c.toNat ≤ 90 then c + 32 else c

theorem fold_one (x y : UInt8) (hy : ¬ (65 ≤ y.toNat ∧ y.toNat ≤ 90)) : Lib.foldEq x y = (lowB x == y) := by
  have hx := x.toNat_lt
  rw [Bool.eq_iff_iff]
  unfold Lib.foldEq lowB
  simp only [decide_eq_true_eq, beq_iff_eq, ← UInt8.toNat_inj]
  by_cases h : 65 ≤ x.toNat ∧ x.toNat ≤ 90
  · rw [if_pos h]
    have : (x + 32).toNat = x.toNat + 32 := by rw [UInt8.toNat_add]; show (x.toNat + 32) % 256 = _; omega
    rw [this]
    omega
  · rw [if_neg h]
    omega

theorem fold_low : ∀ (l t : List UInt8), (∀ c ∈ t, ¬ (65 ≤ c.toNat ∧ c.toNat ≤ 90)) → Lib.equalFold l t = (l.map lowB == t)
  | [], [], _ => rfl
  | [], _ :: _, _ => rfl
  | _ :: _, [], _ => rfl
  | x :: s, y :: t, h => by
    have ih := fold_low s t (fun c hc => h c (List.mem_cons_of_mem _ hc))
    have hy := fold_one x y (h y List.mem_cons_self)
    show (Lib.foldEq x y && Lib.equalFold s t) = (lowB x :: s.map lowB == y :: t)
    rw [ih, hy, List.cons_beq_cons]

theorem fold_clen (l : List UInt8) : Lib.equalFold l clenL = (l.map lowB == clenL) := fold_low l clenL (by decide)

/-- A text without blanks around it. -/
theorem drop_all {r : List UInt8} : ∀ (a : List UInt8), (∀ c ∈ a, c = 32) → (a ++ r).dropWhile (· == 32) = r.dropWhile (· == 32)
  | [], _ => rfl
  | c :: a, h => by
    rw [List.cons_append, List.dropWhile_cons, if_pos (by rw [h c List.mem_cons_self]; rfl)]
    exact drop_all a (fun x hx => h x (List.mem_cons_of_mem _ hx))

theorem drop_not {r : List UInt8} (h : r.head? ≠ some 32) : r.dropWhile (· == 32) = r := by
  cases r with
  | nil => rfl
  | cons c r =>
    rw [List.dropWhile_cons, if_neg]
    intro e
    rw [beq_iff_eq] at e
    subst e
    exact h rfl

theorem trim_is (a r b : List UInt8) (ha : ∀ c ∈ a, c = 32) (hb : ∀ c ∈ b, c = 32) (h1 : r.head? ≠ some 32) (h2 : r.getLast? ≠ some 32) : Lib.trimB (a ++ r ++ b) 32 = r := by
  have hbr : ∀ c ∈ b.reverse, c = 32 := fun c hc => hb c (List.mem_reverse.1 hc)
  have har : ∀ c ∈ a.reverse, c = 32 := fun c hc => ha c (List.mem_reverse.1 hc)
  unfold Lib.trimB Lib.trimLeftB Lib.trimRightB
  rw [List.reverse_append, drop_all _ hbr, List.reverse_append]
  cases hr : r with
  | nil =>
    rw [List.reverse_nil, List.nil_append]
    have h3 := drop_all (r := []) _ har
    rw [List.append_nil] at h3
    rw [h3]
    rfl
  | cons c t =>
    rw [← hr]
    have h3 : (r.reverse ++ a.reverse).head? ≠ some 32 := by
      rw [List.head?_append, List.head?_reverse]
      cases hg : r.getLast? with
      | none => exact absurd (List.getLast?_eq_none_iff.1 hg) (by rw [hr]; simp)
      | some x => rw [hg] at h2; exact h2
    rw [drop_not h3, List.reverse_append, List.reverse_reverse, List.reverse_reverse, drop_all _ ha, drop_not h1]

/-- The document's bytes from lo to hi. -/
def inB (lo hi : Nat) (c : UInt8) : Bool := decide (lo ≤ c.toNat) && decide (c.toNat ≤ hi)

theorem cap_in : inB 65 90 = capB := rfl
theorem path_in : inB 33 126 = pathB := rfl
theorem val_in : inB 32 126 = valB := rfl
theorem dig_in (c : UInt8) : inB 48 57 c = isDig c := rfl

end Go.Proofs.YtfiaaaflpjpnjaaGreatDoor

/-
  The document's index.
-/
namespace Go.Proofs.YtfiaaaflpjpnjaaGreatDoor
open Go.RowKit

set_option maxRecDepth 100000 in
set_option maxHeartbeats 2000000 in
theorem refIndex_any (w : World) (s sub : ByteArray) (h1 : 1 ≤ sub.size) (h2 : sub.size ≤ 1000) (hs : s.size ≤ 1000000000) :
    Calls Tryz.prog 16 #[.string s, .string sub] w fun e w' => e = .returned (.int .i64 (Lib.index s.data.toList sub.data.toList)) ∧ w' = w := by
  go_enter Tryz.func16, Tryz.ntmps16
  go_wp2
  go_loopw [5] (fun x wr => ∃ i : Nat, i ≤ s.size + 1 ∧ x = .int .i64 (i : Int) ∧ Lib.NoOcc s.data.toList sub.data.toList i ∧ wr = w) (fun x _ => s.size + 1 - (intOf x).toNat)
  case atStart => exact ⟨0, by omega, rfl, Lib.NoOcc.zero _ _, rfl⟩
  case round =>
    obtain ⟨i, hi, rfl, hno, rfl⟩ := hrel
    have HN := hid hno
    clear hno
    by_cases hin : i + sub.size ≤ s.size
    · have hp := Lib.occ_of_piece s sub i hin
      have hpi : ((i : Int) + (sub.size : Int)) ≤ (s.size : Int) := by omega
      cases ho : Lib.occAt s.data.toList sub.data.toList i with
      | true =>
        have HX : Hid (Lib.index s.data.toList sub.data.toList = i) := Lib.index_hit HN.out (by rw [← Lib.size_eq]; omega) ho
        rw [ho] at hp
        replace hp := hp.symm
        go_wp2
        go_ret
        rw [HX.out]
        exact ⟨rfl, rfl⟩
      | false =>
        have HX : Hid (Lib.NoOcc s.data.toList sub.data.toList (i + 1)) := HN.out.succ ho
        rw [ho] at hp
        replace hp := hp.symm
        go_wp2
        go_roundw
        case rel => exact ⟨i + 1, by omega, rfl, HX.out, trivial⟩
        case measure => simp [intOf]; omega
    · have hpi : ¬ ((i : Int) + (sub.size : Int)) ≤ (s.size : Int) := by omega
      have HX : Hid (Lib.index s.data.toList sub.data.toList = -1) := Lib.index_past (fun e => by have : sub.size = 0 := by rw [Lib.size_eq, e]; rfl
                                                                                                  omega) HN.out (by rw [← Lib.size_eq, ← Lib.size_eq]; omega)
      go_wp2
      go_ret
      rw [HX.out]
      exact ⟨rfl, rfl⟩

end Go.Proofs.YtfiaaaflpjpnjaaGreatDoor

/-
  The document's within, name, trim.
-/
namespace Go.Proofs.YtfiaaaflpjpnjaaGreatDoor
open Go.RowKit

set_option maxRecDepth 100000 in
set_option maxHeartbeats 1000000 in
theorem refWithin_any (w : World) (s : ByteArray) (hs : s.size ≤ 281474976710656) (lo hi : Nat) :
    Calls Tryz.prog 18 #[.string s, .int .u8 (lo : Int), .int .u8 (hi : Int)] w fun e w' => e = .returned (.bool (s.data.toList.all (inB lo hi))) ∧ w' = w := by
  obtain ⟨ans, hans⟩ : ∃ b, b = s.data.toList.all (inB lo hi) := ⟨_, rfl⟩
  rw [← hans]
  have HAns := hid hans
  clear hans
  go_enter Tryz.func18, Tryz.ntmps18
  go_wp2
  go_loopw [7] (fun v wr => ∃ (k : Nat), k ≤ s.size ∧ v = .int .i64 (k : Int) ∧ wr = w ∧ (s.data.toList.take k).all (inB lo hi) = true) (fun v _ => s.size - (intOf v).toNat)
  case atStart => exact ⟨0, Nat.zero_le _, rfl, rfl, rfl⟩
  case round =>
    obtain ⟨k, hk, rfl, hwr, hall⟩ := hrel
    subst wr
    by_cases hlt : k < s.size
    · have hix := ix_str s hlt
      have hnx := all_next s (inB lo hi) hlt
      rw [hall, Bool.true_and] at hnx
      have e0 : (k : Int) < (s.size : Int) := by omega
      have HA : Hid ((s.data.toList.take (k + 1)).all (inB lo hi) = (decide (lo ≤ (s[k]'hlt).toNat) && decide ((s[k]'hlt).toNat ≤ hi))) := hnx
      clear hnx hall
      generalize (s[k]'hlt).toNat = x at *
      by_cases h1 : lo ≤ x
      · by_cases h2 : x ≤ hi
        · have f1 : ¬ (x : Int) < (lo : Int) := by omega
          have f2 : ¬ (hi : Int) < (x : Int) := by omega
          have HB : Hid ((s.data.toList.take (k + 1)).all (inB lo hi) = true) := by
            show _ = _
            rw [HA.out, decide_eq_true h1, decide_eq_true h2]
            rfl
          clear HA h1 h2
          go_wp2
          go_roundw
          case rel => exact ⟨k + 1, by omega, by go_num, trivial, HB.out⟩
          case measure => simp [intOf]; omega
        · have f1 : ¬ (x : Int) < (lo : Int) := by omega
          have f2 : (hi : Int) < (x : Int) := by omega
          have HB : Hid ((s.data.toList.take (k + 1)).all (inB lo hi) = false) := by
            show _ = _
            rw [HA.out, decide_eq_true h1, decide_eq_false h2]
            rfl
          clear HA h1 h2
          go_wp2
          go_ret
          exact ⟨congrArg (fun z => Ending.returned (Value.bool z)) (HAns.out.trans (all_ge _ _ (k + 1) HB.out)).symm, rfl⟩
      · have f1 : (x : Int) < (lo : Int) := by omega
        have HB : Hid ((s.data.toList.take (k + 1)).all (inB lo hi) = false) := by
          show _ = _
          rw [HA.out, decide_eq_false h1]
          rfl
        clear HA h1
        go_wp2
        go_ret
        exact ⟨congrArg (fun z => Ending.returned (Value.bool z)) (HAns.out.trans (all_ge _ _ (k + 1) HB.out)).symm, rfl⟩
    · obtain rfl : k = s.size := by omega
      have e : s.data.toList.take s.size = s.data.toList := List.take_of_length_le (by simp)
      rw [e] at hall
      have HB : Hid (s.data.toList.all (inB lo hi) = true) := hall
      clear hall e
      go_wp2
      go_ret
      exact ⟨congrArg (fun z => Ending.returned (Value.bool z)) (HAns.out.trans HB.out).symm, rfl⟩

end Go.Proofs.YtfiaaaflpjpnjaaGreatDoor

/-
  The document's name: letters, digits, hyphens.
-/
namespace Go.Proofs.YtfiaaaflpjpnjaaGreatDoor
open Go.RowKit

theorem nm_iff (c : UInt8) : nmB c = true ↔ ((48 ≤ c.toNat ∧ c.toNat ≤ 57) ∨ (65 ≤ c.toNat ∧ c.toNat ≤ 90) ∨ (97 ≤ c.toNat ∧ c.toNat ≤ 122) ∨ c.toNat = 45) := by
  unfold nmB isDig capB smallB
  simp only [Bool.or_eq_true, Bool.and_eq_true, decide_eq_true_eq, beq_iff_eq, ← UInt8.toNat_inj]
  show _ ∨ c.toNat = 45 ↔ _
  omega

set_option maxRecDepth 100000 in
set_option maxHeartbeats 2000000 in
theorem refName_any (w : World) (s : ByteArray) (hs : s.size ≤ 281474976710656) :
    Calls Tryz.prog 19 #[.string s] w fun e w' => e = .returned (.bool (allP nmB s.data.toList)) ∧ w' = w := by
  obtain ⟨ans, hans⟩ : ∃ b, b = allP nmB s.data.toList := ⟨_, rfl⟩
  rw [← hans]
  have HAns := hid hans
  clear hans
  go_enter Tryz.func19, Tryz.ntmps19
  go_wp2
  go_loopw [3] (fun v wr => ∃ (k : Nat), k ≤ s.size ∧ v = .int .i64 (k : Int) ∧ wr = w ∧ (s.data.toList.take k).all nmB = true) (fun v _ => s.size - (intOf v).toNat)
  case atStart => exact ⟨0, Nat.zero_le _, rfl, rfl, rfl⟩
  case round =>
    obtain ⟨k, hk, rfl, hwr, hall⟩ := hrel
    subst wr
    by_cases hlt : k < s.size
    · have hix := ix_str s hlt
      have hnx := all_next s nmB hlt
      rw [hall, Bool.true_and] at hnx
      have e0 : (k : Int) < (s.size : Int) := by omega
      have HA : Hid ((s.data.toList.take (k + 1)).all nmB = nmB (s[k]'hlt)) := hnx
      clear hnx hall
      generalize (s[k]'hlt) = c at *
      have HT : Hid (((48 ≤ c.toNat ∧ c.toNat ≤ 57) ∨ (65 ≤ c.toNat ∧ c.toNat ≤ 90) ∨ (97 ≤ c.toNat ∧ c.toNat ≤ 122) ∨ c.toNat = 45) → nmB c = true) := (nm_iff c).2
      have HF : Hid (¬ ((48 ≤ c.toNat ∧ c.toNat ≤ 57) ∨ (65 ≤ c.toNat ∧ c.toNat ≤ 90) ∨ (97 ≤ c.toNat ∧ c.toNat ≤ 122) ∨ c.toNat = 45) → nmB c = false) := fun h => by
        cases hb : nmB c with
        | false => rfl
        | true => exact absurd ((nm_iff c).1 hb) h
      obtain ⟨x, hx⟩ : ∃ x : Int, x = (c.toNat : Int) := ⟨_, rfl⟩
      rw [← hx] at hix
      have HX := hid hx
      clear hx
      rcases (show (97 ≤ x ∧ x ≤ 122) ∨ (65 ≤ x ∧ x ≤ 90) ∨ (48 ≤ x ∧ x ≤ 57) ∨ (x = 45) ∨ (122 < x) ∨ (90 < x ∧ x < 97) ∨ (57 < x ∧ x < 65) ∨ (x < 48 ∧ x ≠ 45) by omega) with h | h | h | h | h | h | h | h
      · have f0 : 97 ≤ x := by omega
        have f1 : x ≤ 122 := by omega
        have h0 : (48 ≤ c.toNat ∧ c.toNat ≤ 57) ∨ (65 ≤ c.toNat ∧ c.toNat ≤ 90) ∨ (97 ≤ c.toNat ∧ c.toNat ≤ 122) ∨ c.toNat = 45 := by have := HX.out; omega
        have HB : Hid ((s.data.toList.take (k + 1)).all nmB = true) := HA.out.trans (HT.out h0)
        clear h h0 HA HT HF HX
        go_wp2
        go_roundw
        case rel => exact ⟨k + 1, by omega, by go_num, trivial, HB.out⟩
        case measure => simp [intOf]; omega
      · have f0 : ¬ 97 ≤ x := by omega
        have f1 : 65 ≤ x := by omega
        have f2 : x ≤ 90 := by omega
        have h0 : (48 ≤ c.toNat ∧ c.toNat ≤ 57) ∨ (65 ≤ c.toNat ∧ c.toNat ≤ 90) ∨ (97 ≤ c.toNat ∧ c.toNat ≤ 122) ∨ c.toNat = 45 := by have := HX.out; omega
        have HB : Hid ((s.data.toList.take (k + 1)).all nmB = true) := HA.out.trans (HT.out h0)
        clear h h0 HA HT HF HX
        go_wp2
        go_roundw
        case rel => exact ⟨k + 1, by omega, by go_num, trivial, HB.out⟩
        case measure => simp [intOf]; omega
      · have f0 : ¬ 97 ≤ x := by omega
        have f1 : ¬ 65 ≤ x := by omega
        have f2 : 48 ≤ x := by omega
        have f3 : x ≤ 57 := by omega
        have h0 : (48 ≤ c.toNat ∧ c.toNat ≤ 57) ∨ (65 ≤ c.toNat ∧ c.toNat ≤ 90) ∨ (97 ≤ c.toNat ∧ c.toNat ≤ 122) ∨ c.toNat = 45 := by have := HX.out; omega
        have HB : Hid ((s.data.toList.take (k + 1)).all nmB = true) := HA.out.trans (HT.out h0)
        clear h h0 HA HT HF HX
        go_wp2
        go_roundw
        case rel => exact ⟨k + 1, by omega, by go_num, trivial, HB.out⟩
        case measure => simp [intOf]; omega
      · have f0 : ¬ 97 ≤ x := by omega
        have f1 : ¬ 65 ≤ x := by omega
        have f2 : ¬ 48 ≤ x := by omega
        have f3 : (x == 45) = true := by rw [beq_iff_eq]; exact h
        have h0 : (48 ≤ c.toNat ∧ c.toNat ≤ 57) ∨ (65 ≤ c.toNat ∧ c.toNat ≤ 90) ∨ (97 ≤ c.toNat ∧ c.toNat ≤ 122) ∨ c.toNat = 45 := by have := HX.out; omega
        have HB : Hid ((s.data.toList.take (k + 1)).all nmB = true) := HA.out.trans (HT.out h0)
        clear h h0 HA HT HF HX
        go_wp2
        go_roundw
        case rel => exact ⟨k + 1, by omega, by go_num, trivial, HB.out⟩
        case measure => simp [intOf]; omega
      · have f0 : 97 ≤ x := by omega
        have f1 : ¬ x ≤ 122 := by omega
        have f2 : 65 ≤ x := by omega
        have f3 : ¬ x ≤ 90 := by omega
        have f4 : 48 ≤ x := by omega
        have f5 : ¬ x ≤ 57 := by omega
        have f6 : (x == 45) = false := by rw [beq_eq_false_iff_ne]; omega
        have h0 : ¬ ((48 ≤ c.toNat ∧ c.toNat ≤ 57) ∨ (65 ≤ c.toNat ∧ c.toNat ≤ 90) ∨ (97 ≤ c.toNat ∧ c.toNat ≤ 122) ∨ c.toNat = 45) := by have := HX.out; omega
        have HB : Hid ((s.data.toList.take (k + 1)).all nmB = false) := HA.out.trans (HF.out h0)
        clear h h0 HA HT HF HX
        go_wp2
        go_ret
        have HG : Hid (allP nmB s.data.toList = false) := by
          show _ = _
          unfold allP
          rw [all_ge _ _ (k + 1) HB.out]
          rfl
        exact ⟨congrArg (fun z => Ending.returned (Value.bool z)) (HAns.out.trans HG.out).symm, rfl⟩
      · have f0 : ¬ 97 ≤ x := by omega
        have f1 : 65 ≤ x := by omega
        have f2 : ¬ x ≤ 90 := by omega
        have f3 : 48 ≤ x := by omega
        have f4 : ¬ x ≤ 57 := by omega
        have f5 : (x == 45) = false := by rw [beq_eq_false_iff_ne]; omega
        have h0 : ¬ ((48 ≤ c.toNat ∧ c.toNat ≤ 57) ∨ (65 ≤ c.toNat ∧ c.toNat ≤ 90) ∨ (97 ≤ c.toNat ∧ c.toNat ≤ 122) ∨ c.toNat = 45) := by have := HX.out; omega
        have HB : Hid ((s.data.toList.take (k + 1)).all nmB = false) := HA.out.trans (HF.out h0)
        clear h h0 HA HT HF HX
        go_wp2
        go_ret
        have HG : Hid (allP nmB s.data.toList = false) := by
          show _ = _
          unfold allP
          rw [all_ge _ _ (k + 1) HB.out]
          rfl
        exact ⟨congrArg (fun z => Ending.returned (Value.bool z)) (HAns.out.trans HG.out).symm, rfl⟩
      · have f0 : ¬ 97 ≤ x := by omega
        have f1 : ¬ 65 ≤ x := by omega
        have f2 : 48 ≤ x := by omega
        have f3 : ¬ x ≤ 57 := by omega
        have f4 : (x == 45) = false := by rw [beq_eq_false_iff_ne]; omega
        have h0 : ¬ ((48 ≤ c.toNat ∧ c.toNat ≤ 57) ∨ (65 ≤ c.toNat ∧ c.toNat ≤ 90) ∨ (97 ≤ c.toNat ∧ c.toNat ≤ 122) ∨ c.toNat = 45) := by have := HX.out; omega
        have HB : Hid ((s.data.toList.take (k + 1)).all nmB = false) := HA.out.trans (HF.out h0)
        clear h h0 HA HT HF HX
        go_wp2
        go_ret
        have HG : Hid (allP nmB s.data.toList = false) := by
          show _ = _
          unfold allP
          rw [all_ge _ _ (k + 1) HB.out]
          rfl
        exact ⟨congrArg (fun z => Ending.returned (Value.bool z)) (HAns.out.trans HG.out).symm, rfl⟩
      · have f0 : ¬ 97 ≤ x := by omega
        have f1 : ¬ 65 ≤ x := by omega
        have f2 : ¬ 48 ≤ x := by omega
        have f3 : (x == 45) = false := by rw [beq_eq_false_iff_ne]; omega
        have h0 : ¬ ((48 ≤ c.toNat ∧ c.toNat ≤ 57) ∨ (65 ≤ c.toNat ∧ c.toNat ≤ 90) ∨ (97 ≤ c.toNat ∧ c.toNat ≤ 122) ∨ c.toNat = 45) := by have := HX.out; omega
        have HB : Hid ((s.data.toList.take (k + 1)).all nmB = false) := HA.out.trans (HF.out h0)
        clear h h0 HA HT HF HX
        go_wp2
        go_ret
        have HG : Hid (allP nmB s.data.toList = false) := by
          show _ = _
          unfold allP
          rw [all_ge _ _ (k + 1) HB.out]
          rfl
        exact ⟨congrArg (fun z => Ending.returned (Value.bool z)) (HAns.out.trans HG.out).symm, rfl⟩
    · obtain rfl : k = s.size := by omega
      have e : s.data.toList.take s.size = s.data.toList := List.take_of_length_le (by simp)
      rw [e] at hall
      have HB : Hid (s.data.toList.all nmB = true) := hall
      clear hall e
      have HG : Hid (allP nmB s.data.toList = decide (0 < s.size)) := by
        show _ = _
        have hz : s.data.toList.length = s.size := Array.length_toList
        unfold allP
        rw [HB.out, ← hz]
        cases s.data.toList <;> simp
      clear HB
      go_wp2
      go_ret
      exact ⟨congrArg (fun z => Ending.returned (Value.bool z)) (HAns.out.trans HG.out).symm, rfl⟩

end Go.Proofs.YtfiaaaflpjpnjaaGreatDoor

/-
  The document's trim: a text without blanks around it.
-/
namespace Go.Proofs.YtfiaaaflpjpnjaaGreatDoor
open Go.RowKit

theorem mk_get (l : List UInt8) (k : Nat) (h : k < (mkB l).size) (h2 : k < l.length) : (mkB l)[k]'h = l[k]'h2 := by
  show l.toArray[k] = l[k]
  simp

set_option maxRecDepth 100000 in
set_option maxHeartbeats 2000000 in
theorem refTrim_any (w : World) (l : List UInt8) (hs : l.length ≤ 1000000000) :
    Calls Tryz.prog 22 #[.string (mkB l)] w fun e w' => e = .returned (.string (mkB (Lib.trimB l 32))) ∧ Kept (fun _ => False) w w' := by
  go_enter Tryz.func22, Tryz.ntmps22
  go_wp2
  go_loopw [0] (fun v wr => ∃ (a r : List UInt8), l = a ++ r ∧ (∀ c ∈ a, c = 32) ∧ v = .string (mkB r) ∧ Kept (fun _ => False) w wr) (fun v _ => match v with | .string s => s.size | _ => 0)
  case atStart => exact ⟨[], l, rfl, by simp, rfl, Kept.refl _ _⟩
  case round =>
    obtain ⟨a, r, hl, ha, rfl, K⟩ := hrel
    have HL := hid hl
    have HA := hid ha
    have HK := hid K
    have hrl : r.length ≤ 1000000000 := by have := congrArg List.length hl; rw [List.length_append] at this; omega
    have hsz : (mkB r).size = r.length := mkB_size r
    clear hl ha K
    cases r with
    | nil =>
      have HG : Hid (Lib.trimB l 32 = []) := by
        show _ = _
        have h := trim_is a [] [] HA.out (by simp) (by simp) (by simp)
        rw [HL.out]
        simpa using h
      have HX : Hid (mkB [] = mkB (Lib.trimB l 32)) := by show _ = _; rw [HG.out]
      have f1 : ¬ (0 : Int) < ((mkB []).size : Int) := by rw [hsz]; decide
      clear hsz
      generalize mkB [] = s at *
      go_wp2
      go_loopw [0] (fun v wr => v = .string s ∧ Kept (fun _ => False) w wr) (fun _ _ => 0)
      case atStart => exact ⟨rfl, HK.out⟩
      case round =>
        obtain ⟨rfl, K⟩ := hrel
        have HK := hid K
        clear K
        go_wp2
        go_ret
        exact ⟨congrArg (fun z => Ending.returned (Value.string z)) HX.out, HK.out⟩
    | cons c t =>
      have hsz2 : (mkB (c :: t)).size = t.length + 1 := by rw [hsz, List.length_cons]
      have h0 : 0 < (mkB (c :: t)).size := by omega
      have hix := ix_str (mkB (c :: t)) h0
      rw [mk_get (c :: t) 0 h0 (by simp)] at hix
      change ∀ W, (Instr.index 9 (.string (mkB (c :: t))) (.int .i64 0)).run Tryz.prog W = .ok (.int .u8 ((c.toNat : Nat) : Int)) W at hix
      have f1 : (0 : Int) < ((mkB (c :: t)).size : Int) := by omega
      have hu := u8_beq c 32
      have hu' : ((c.toNat : Int) == 32) = (c == 32) := hu
      clear hu
      by_cases hc : c = 32
      · rw [show (c == 32) = true by rw [beq_iff_eq]; exact hc] at hu'
        have HX : Hid ((mkB (c :: t)).extract 1 (mkB (c :: t)).size = mkB t) := Lib.extract_from (mkB (c :: t)) 1
        have hle : (1 : Int) ≤ ((mkB (c :: t)).size : Int) := by omega
        have HL2 : Hid (l = (a ++ [c]) ++ t) := by show _ = _; rw [HL.out, List.append_assoc]; rfl
        have HA2 : Hid (∀ x ∈ a ++ [c], x = 32) := fun x hx => by
          rcases List.mem_append.1 hx with h | h
          · exact HA.out x h
          · simp only [List.mem_singleton] at h
            rw [h, hc]
        have HS : Hid ((mkB t).size < (mkB (c :: t)).size) := by show _ < _; rw [hsz2, mkB_size]; omega
        clear hsz hsz2 hc HL HA
        generalize hgs : mkB (c :: t) = s at *
        generalize ((c.toNat : Nat) : Int) = x at *
        clear hgs
        go_wp2
        go_roundw
        case rel => exact ⟨a ++ [c], t, HL2.out, HA2.out, by rw [HX.out], HK.out⟩
        case measure => rw [HX.out]; exact HS.out
      · rw [show (c == 32) = false by rw [beq_eq_false_iff_ne]; exact hc] at hu'
        have HC := hid hc
        clear hc hsz hsz2
        generalize hgs : mkB (c :: t) = s at *
        generalize ((c.toNat : Nat) : Int) = x at *
        have HGS := hid hgs
        clear hgs
        go_wp2
        clear hix f1 hu' h0
        go_loopw [0] (fun v wr => ∃ (q : List UInt8) (d : UInt8) (b : List UInt8), c :: t = (q ++ [d]) ++ b ∧ (∀ y ∈ b, y = 32) ∧ v = .string (mkB (q ++ [d])) ∧ Kept (fun _ => False) w wr) (fun v _ => match v with | .string s => s.size | _ => 0)
        case atStart =>
          rcases List.eq_nil_or_concat (c :: t) with h | ⟨q, d, h⟩
          · cases h
          · rw [List.concat_eq_append] at h
            exact ⟨q, d, [], by rw [List.append_nil]; exact h, by simp, by rw [← h, ← HGS.out], HK.out⟩
        case round =>
          obtain ⟨q, d, b, hq, hb, rfl, K⟩ := hrel
          have HQ := hid hq
          have HB := hid hb
          have HK := hid K
          have hql : q.length ≤ 1000000000 := by have := congrArg List.length hq; simp only [List.length_append, List.length_cons] at this hrl; omega
          clear hq hb K
          have hsz : (mkB (q ++ [d])).size = q.length + 1 := by rw [mkB_size, List.length_append]; rfl
          have h0 : q.length < (mkB (q ++ [d])).size := by omega
          have hix := ix_str (mkB (q ++ [d])) h0
          rw [mk_get (q ++ [d]) q.length h0 (by simp)] at hix
          have hgd : (q ++ [d])[q.length]'(by simp) = d := by simp
          rw [hgd] at hix
          clear hgd
          have f1 : (0 : Int) < ((mkB (q ++ [d])).size : Int) := by omega
          have f2 : ((mkB (q ++ [d])).size : Int) - 1 = (q.length : Int) := by omega
          have hu := u8_beq d 32
          have hu' : ((d.toNat : Int) == 32) = (d == 32) := hu
          clear hu
          by_cases hd : d = 32
          · rw [show (d == 32) = true by rw [beq_iff_eq]; exact hd] at hu'
            have HX : Hid ((mkB (q ++ [d])).extract 0 q.length = mkB q) := by
              show _ = _
              have h := Lib.extract_upto (mkB (q ++ [d])) q.length
              rw [h]
              show mkB ((q ++ [d]).take q.length) = mkB q
              rw [List.take_left]
            have hle : (q.length : Int) ≤ ((mkB (q ++ [d])).size : Int) := by omega
            have HS : Hid ((mkB q).size < (mkB (q ++ [d])).size) := by show _ < _; rw [hsz, mkB_size]; omega
            have HR : Hid (∃ q2 d2, q = q2 ++ [d2]) := by
              show ∃ q2 d2, q = q2 ++ [d2]
              rcases List.eq_nil_or_concat q with h | ⟨q2, d2, h⟩
              · have h2 := HQ.out
                rw [h] at h2
                simp only [List.nil_append, List.cons_append, List.cons.injEq] at h2
                exact absurd (h2.1.trans hd) HC.out
              · exact ⟨q2, d2, by rw [h, List.concat_eq_append]⟩
            have HQ2 : Hid (c :: t = q ++ ([d] ++ b)) := by show _ = _; rw [HQ.out, List.append_assoc]
            have HB2 : Hid (∀ y ∈ [d] ++ b, y = 32) := fun y hy => by
              rcases List.mem_append.1 hy with h | h
              · simp only [List.mem_singleton] at h
                rw [h, hd]
              · exact HB.out y h
            clear hsz hd HQ HB
            generalize hgs : mkB (q ++ [d]) = s2 at *
            generalize ((d.toNat : Nat) : Int) = x2 at *
            generalize hgn : q.length = m at *
            clear hgs hgn
            go_wp2
            go_roundw
            case rel =>
              obtain ⟨q2, d2, h⟩ := HR.out
              exact ⟨q2, d2, [d] ++ b, by rw [← h]; exact HQ2.out, HB2.out, by rw [HX.out, h], HK.out⟩
            case measure => rw [HX.out]; exact HS.out
          · rw [show (d == 32) = false by rw [beq_eq_false_iff_ne]; exact hd] at hu'
            have HG : Hid (mkB (q ++ [d]) = mkB (Lib.trimB l 32)) := by
              show _ = _
              have h := trim_is a (q ++ [d]) b HA.out HB.out (by
                intro h
                have h2 := congrArg List.head? HQ.out
                rw [List.head?_append, h] at h2
                exact HC.out (Option.some.inj h2)) (by rw [List.getLast?_append]; simp; exact hd)
              rw [HL.out, HQ.out, ← List.append_assoc, h]
            clear hsz hd
            generalize hgs : mkB (q ++ [d]) = s2 at *
            generalize ((d.toNat : Nat) : Int) = x2 at *
            generalize hgn : q.length = m at *
            clear hgs hgn
            go_wp2
            go_ret
            exact ⟨congrArg (fun z => Ending.returned (Value.string z)) HG.out, HK.out⟩

end Go.Proofs.YtfiaaaflpjpnjaaGreatDoor
