/-
  A request, as data; what its reading needs of memory.
-/
import Derived.Test.YtfiaaaflpjpnjaaGreatDoorFHdW
import Derived.Test.YtfiaaaflpjpnjaaGreatDoorFVal
import Derived.Test.YtfiaaaflpjpnjaaGreatDoorFObj
namespace Go.Proofs.YtfiaaaflpjpnjaaGreatDoor
open Go.RowKit

/-- Where a head ends; -1: nowhere within the bound. -/
def cutAt (s : ByteArray) : Int := Lib.index (s.data.toList.take 4096) [13, 10, 13, 10]

def rdP (s : ByteArray) : ByteArray × ByteArray × ByteArray × Int :=
  if cutAt s < 0 then (⟨#[]⟩, ⟨#[]⟩, ⟨#[]⟩, if 4096 ≤ s.size then 431 else 400)
  else match hdP (s.extract 0 (cutAt s).toNat) with
    | none => (⟨#[]⟩, ⟨#[]⟩, ⟨#[]⟩, 400)
    | some (m, p, n) =>
      if (m.data.toList == [71, 69, 84]) = false ∧ (m.data.toList == [80, 79, 83, 84]) = false then (⟨#[]⟩, ⟨#[]⟩, ⟨#[]⟩, 405)
      else if 4096 < n then (⟨#[]⟩, ⟨#[]⟩, ⟨#[]⟩, 413)
      else if (s.extract ((cutAt s).toNat + 4) s.size).size ≠ n ∨ vf (s.extract ((cutAt s).toNat + 4) s.size) 0 = false then (⟨#[]⟩, ⟨#[]⟩, ⟨#[]⟩, 400)
      else (m, p, s.extract ((cutAt s).toNat + 4) s.size, 200)

def rdV (r : ByteArray × ByteArray × ByteArray × Int) : Value := .tuple #[.string r.1, .string r.2.1, .string r.2.2.1, .int .i64 r.2.2.2]

theorem cutAt_ge (s : ByteArray) : -1 ≤ cutAt s := Lib.index_ge _ _

theorem cutAt_room {s : ByteArray} (h : 0 ≤ cutAt s) : (cutAt s).toNat + 4 ≤ s.size ∧ (cutAt s).toNat + 4 ≤ 4096 := by
  have h2 := Lib.index_room _ _ h
  have hz : s.data.toList.length = s.size := Array.length_toList
  simp only [List.length_take, List.length_cons, List.length_nil] at h2
  unfold cutAt at h ⊢
  omega

theorem atB_ext {s : ByteArray} {k n j : Nat} (hn : n ≤ s.size) (hj : j < n - k) : atB (s.extract k n) j = atB s (k + j) := by
  have h1 : j < (s.extract k n).size := by rw [ByteArray.size_extract]; omega
  rw [← atB_is h1, ← atB_is (show k + j < s.size by omega), ByteArray.getElem_extract]

theorem BsAt.sub {w : World} {b o k n : Nat} {s : ByteArray} (B : BsAt w b o s) (hn : n ≤ s.size) : BsAt w b (o + k) (s.extract k n) := fun j hj => by
  rw [ByteArray.size_extract] at hj
  rw [atB_ext hn (by omega), Nat.add_assoc]
  exact B (k + j) (by omega)

theorem list_atB (s : ByteArray) (j : Nat) (h : j < s.size) : (s.data.toList.map (fun b => (b.toNat : Int)))[j]? = some ((atB s j : Nat) : Int) := by
  have hz : s.data.toList.length = s.size := Array.length_toList
  rw [List.getElem?_map, List.getElem?_eq_getElem (by omega), ← atB_is h, Array.getElem_toList]
  rfl

theorem nums_mkB (l : List UInt8) : strOfNums (l.map (fun b => (b.toNat : Int))) = mkB l := by
  have h : (l.map (fun b => (b.toNat : Int))).map (fun n => UInt8.ofNat n.toNat) = l := by
    rw [List.map_map]
    conv => rhs; rw [← List.map_id l]
    apply List.map_congr_left
    intro b _
    simp
  show (⟨((l.map (fun b => (b.toNat : Int))).map (fun n => UInt8.ofNat n.toNat)).toArray⟩ : ByteArray) = ⟨l.toArray⟩
  rw [h]

theorem bs_bytes {w : World} {ad : Option Addr} {b o c : Nat} {s : ByteArray} (had : 0 < s.size → ad = some ⟨b, o, none⟩) (hc : s.size ≤ c) (B : BsAt w b o s) : BytesAt w ad s.size c (s.data.toList.map (fun b => (b.toNat : Int))) := by
  have hz : s.data.toList.length = s.size := Array.length_toList
  refine ⟨by rw [List.length_map]; exact hz, hc, fun h => ?_, fun a ha j u hu => ?_, fun y hy => ?_⟩
  · rcases Nat.eq_zero_or_pos s.size with h0 | h0
    · exact h0
    · rw [had h0] at h; cases h
  · have hj : j < s.size := by
      have h2 := (List.getElem?_eq_some_iff.1 hu).1
      simp only [List.length_map] at h2
      omega
    have h3 := had (by omega)
    rw [ha] at h3
    cases h3
    rw [List.getElem?_map, list_atB s j hj] at hu
    simp only [Option.map_some, Option.some.injEq] at hu
    subst hu
    rw [Addr.add_lit]
    exact B j hj
  · obtain ⟨x, _, rfl⟩ := List.mem_map.1 hy
    have := x.toNat_lt
    omega

theorem bs_str {w : World} {ad : Option Addr} {b o c : Nat} {s : ByteArray} (had : 0 < s.size → ad = some ⟨b, o, none⟩) (hc : s.size ≤ c) (B : BsAt w b o s) : (convert 23 9 (.slice ad s.size c)).run Tryz.prog w = .ok (.string s) w := by
  have h := (bs_bytes had hc B).str
  rwa [nums_mkB, mkB_of] at h

theorem index_any (W : World) (ad : Option Addr) (M cp b o g : Nat) (s : ByteArray) (had : 0 < s.size → ad = some ⟨b, o, none⟩) (hM : M = min s.size 4096) (hcp : s.size ≤ cp) (B : BsAt W b o s) (MX : MaxAt W) (hg : W.heap[g]? = some (.cells #[.int .u8 13, .int .u8 10, .int .u8 13, .int .u8 10] 5 (4, 5))) :
    Calls Tryz.prog 13 #[.slice ad M cp, .slice (some ⟨g, 0, none⟩) 4 4] W fun e w' => e = .returned (.int .i64 (cutAt s)) ∧ Kept (fun _ => False) W w' := by
  have hz : s.data.toList.length = s.size := Array.length_toList
  by_cases h4 : M < 4
  · have hc : cutAt s = -1 := by
      have h1 := cutAt_ge s
      by_cases h0 : 0 ≤ cutAt s
      · have := cutAt_room h0
        omega
      · omega
    rw [hc]
    exact (Any.bytes_Index_longer Tryz.bytesIndexL ad (some ⟨g, 0, none⟩) M cp 4 4 W (by decide) h4 (by decide)).mono fun e w' ⟨he, hw⟩ => ⟨he, by subst hw; exact Kept.refl _ _⟩
  · obtain rfl := had (by omega)
    obtain ⟨m, hm⟩ := MX
    have hx : ∀ i, i < M → ((s.data.toList.take 4096).map (fun b => (b.toNat : Int))).getD i 0 = ((atB s i : Nat) : Int) := fun i hi => by
      have h := list_atB s i (by omega)
      rw [List.map_take, List.getD_eq_getElem?_getD, List.getElem?_take, if_pos (by omega), h]
      rfl
    have hI := Any.bytes_Index_at Tryz.bytesIndexL ⟨b, o, none⟩ ⟨g, 0, none⟩ M cp 4 4 ((s.data.toList.take 4096).map (fun b => (b.toNat : Int))) [13, 10, 13, 10] m W (by rw [List.length_map, List.length_take]; omega) rfl
      (fun x hx => by obtain ⟨y, _, rfl⟩ := List.mem_map.1 hx; have := y.toNat_lt; omega) (by decide)
      (fun i hi => by rw [Addr.add_lit, hx i hi]; exact B i (by omega))
      (fun i hi => by
        rw [Addr.add_lit, Nat.zero_add]
        simp only [World.cell?, hg]
        exact ints_at [13, 10, 13, 10] i hi)
      (by omega) (by omega) (by decide) hm
    have e1 : Lib.bytesOf ((s.data.toList.take 4096).map (fun b => (b.toNat : Int))) = s.data.toList.take 4096 := by
      unfold Lib.bytesOf
      rw [List.map_map]
      conv => rhs; rw [← List.map_id (s.data.toList.take 4096)]
      refine List.map_congr_left (fun x _ => ?_)
      simp
    rw [e1] at hI
    exact hI.mono fun e w' ⟨he, q, hw⟩ => ⟨he, by rw [hw]; exact Kept.drewN' _ _⟩

end Go.Proofs.YtfiaaaflpjpnjaaGreatDoor

/-
  A request that is written line by line is read line by line, as data.
-/
namespace Go.Proofs.YtfiaaaflpjpnjaaGreatDoor
open Go.RowKit

theorem idx_zero {l sub : List UInt8} (h : sub.isPrefixOf l = true) (hl : l ≠ []) : Lib.index l sub = 0 := by
  cases l with
  | nil => exact absurd rfl hl
  | cons c t => unfold Lib.index; rw [if_pos h]

theorem idx_ne {c d : UInt8} {t sub : List UInt8} (hc : c ≠ d) (h : 0 ≤ Lib.index t (d :: sub)) : Lib.index (c :: t) (d :: sub) = Lib.index t (d :: sub) + 1 := by
  conv => lhs; unfold Lib.index
  rw [if_neg (by simp [List.isPrefixOf, Ne.symm hc]), if_neg (by simp; omega)]

theorem idx_none {d : UInt8} {sub : List UInt8} : ∀ (l : List UInt8), (∀ c ∈ l, c ≠ d) → Lib.index l (d :: sub) = -1
  | [], _ => rfl
  | c :: t, h => by
    have h1 := idx_none (sub := sub) t (fun x hx => h x (List.mem_cons_of_mem _ hx))
    have hc := h c List.mem_cons_self
    conv => lhs; unfold Lib.index
    rw [if_neg (by simp [List.isPrefixOf, Ne.symm hc]), if_pos (by rw [h1]; rfl)]

theorem idx_run {d : UInt8} {sub t : List UInt8} : ∀ (l : List UInt8), (∀ c ∈ l, c ≠ d) → 0 ≤ Lib.index t (d :: sub) → Lib.index (l ++ t) (d :: sub) = (l.length : Int) + Lib.index t (d :: sub)
  | [], _, _ => by simp
  | c :: l, h, h0 => by
    have h1 := idx_run l (fun x hx => h x (List.mem_cons_of_mem _ hx)) h0
    rw [List.cons_append, idx_ne (h c List.mem_cons_self) (by rw [h1]; omega), h1, List.length_cons]
    omega

theorem idx_crlf {c : UInt8} {t : List UInt8} (hc : c ≠ 13) (h : 0 ≤ Lib.index (c :: t) [13, 10, 13, 10]) : Lib.index (13 :: 10 :: c :: t) [13, 10, 13, 10] = Lib.index (c :: t) [13, 10, 13, 10] + 2 := by
  have h1 : Lib.index (10 :: c :: t) [13, 10, 13, 10] = Lib.index (c :: t) [13, 10, 13, 10] + 1 := idx_ne (by decide) h
  conv => lhs; unfold Lib.index
  rw [if_neg (by simp [List.isPrefixOf, Ne.symm hc]), if_neg (by rw [h1]; simp; omega), h1]
  omega

/-- A line of a head. -/
def okLine (l : List UInt8) : Prop := l ≠ [] ∧ ∀ c ∈ l, c ≠ 13

/-- Lines, laid behind each other. -/
def joinL : List (List UInt8) → List UInt8
  | [] => []
  | [l] => l
  | l :: l2 :: r => l ++ 13 :: 10 :: joinL (l2 :: r)

theorem joinL_head : ∀ (l : List UInt8) (r : List (List UInt8)), okLine l → ∃ c t, joinL (l :: r) = c :: t ∧ c ≠ 13
  | [], _, h => absurd rfl h.1
  | c :: t, [], h => ⟨c, t, rfl, h.2 c List.mem_cons_self⟩
  | c :: t, l2 :: r, h => ⟨c, t ++ 13 :: 10 :: joinL (l2 :: r), rfl, h.2 c List.mem_cons_self⟩

theorem idx_join (b : List UInt8) : ∀ (l : List UInt8) (r : List (List UInt8)), (∀ x ∈ l :: r, okLine x) → Lib.index (joinL (l :: r) ++ 13 :: 10 :: 13 :: 10 :: b) [13, 10, 13, 10] = ((joinL (l :: r)).length : Int)
  | l, [], h => by
    have h0 : Lib.index (13 :: 10 :: 13 :: 10 :: b) [13, 10, 13, 10] = 0 := idx_zero (by simp [List.isPrefixOf]) (by simp)
    show Lib.index (l ++ 13 :: 10 :: 13 :: 10 :: b) [13, 10, 13, 10] = (l.length : Int)
    rw [idx_run l (h l List.mem_cons_self).2 (by rw [h0]; omega), h0]
    omega
  | l, l2 :: r, h => by
    have h1 := idx_join b l2 r (fun x hx => h x (List.mem_cons_of_mem _ hx))
    obtain ⟨c, t, hj, hc⟩ := joinL_head l2 r (h l2 (List.mem_cons_of_mem _ List.mem_cons_self))
    have h2 : Lib.index (13 :: 10 :: (joinL (l2 :: r) ++ 13 :: 10 :: 13 :: 10 :: b)) [13, 10, 13, 10] = Lib.index (joinL (l2 :: r) ++ 13 :: 10 :: 13 :: 10 :: b) [13, 10, 13, 10] + 2 := by
      rw [hj] at h1 ⊢
      exact idx_crlf hc (by
        have h3 : 0 ≤ Lib.index (c :: t ++ 13 :: 10 :: 13 :: 10 :: b) [13, 10, 13, 10] := by rw [h1]; omega
        exact h3)
    show Lib.index ((l ++ 13 :: 10 :: joinL (l2 :: r)) ++ 13 :: 10 :: 13 :: 10 :: b) [13, 10, 13, 10] = (((l ++ 13 :: 10 :: joinL (l2 :: r)).length : Nat) : Int)
    rw [List.append_assoc, List.cons_append, List.cons_append, idx_run l (h l List.mem_cons_self).2 (by rw [h2, h1]; omega), h2, h1, List.length_append, List.length_cons, List.length_cons]
    omega

theorem mk_front (a b : List UInt8) : (mkB (a ++ b)).extract 0 a.length = mkB a := by
  refine ByteArray.ext (Array.ext' ?_)
  rw [ByteArray.data_extract, Array.toList_extract]
  show List.extract (a ++ b) 0 a.length = a
  simp [List.extract]

theorem mk_back (a b : List UInt8) : (mkB (a ++ b)).extract a.length (mkB (a ++ b)).size = mkB b := by
  refine ByteArray.ext (Array.ext' ?_)
  rw [ByteArray.data_extract, Array.toList_extract, mkB_size]
  show List.extract (a ++ b) a.length (a ++ b).length = b
  simp [List.extract]

/-- A text is split at the first instance. -/
theorem split_step {sep a b : List UInt8} (hs : sep ≠ []) (h : Lib.index (a ++ (sep ++ b)) sep = (a.length : Int)) : Lib.splitB (mkB sep) 0 (Lib.countB (mkB (a ++ (sep ++ b))) (mkB sep)) (mkB (a ++ (sep ++ b))) = mkB a :: Lib.splitB (mkB sep) 0 (Lib.countB (mkB b) (mkB sep)) (mkB b) := by
  have hi : Lib.indexB (mkB (a ++ (sep ++ b))) (mkB sep) = (a.length : Int) := h
  have h1 : 1 ≤ (mkB sep).size := by rw [mkB_size]; exact List.length_pos_iff.2 hs
  have e : (mkB (a ++ (sep ++ b))).extract (a.length + (mkB sep).size) (mkB (a ++ (sep ++ b))).size = mkB b := by
    have h2 := mk_back (a ++ sep) b
    rw [List.append_assoc, List.length_append] at h2
    rw [mkB_size]
    exact h2
  rw [Lib.countB_hit _ _ a.length h1 hi, e, Nat.add_comm 1]
  conv => lhs; unfold Lib.splitB
  rw [if_neg (by rw [hi]; simp), hi, Int.toNat_natCast, e, Nat.add_zero, mk_front]

theorem split_last {sep a : List UInt8} (h : Lib.index a sep = -1) : Lib.splitB (mkB sep) 0 (Lib.countB (mkB a) (mkB sep)) (mkB a) = [mkB a] :=
  Lib.splitB_miss _ _ _ _ h

theorem lines_join : ∀ (l : List UInt8) (r : List (List UInt8)), (∀ x ∈ l :: r, okLine x) → linesP (mkB (joinL (l :: r))) = (l :: r).map mkB
  | l, [], h => split_last (sep := [13, 10]) (idx_none l (h l List.mem_cons_self).2)
  | l, l2 :: r, h => by
    have h0 : Lib.index (13 :: 10 :: joinL (l2 :: r)) [13, 10] = 0 := idx_zero (by simp [List.isPrefixOf]) (by simp)
    have h1 : Lib.index (l ++ ([13, 10] ++ joinL (l2 :: r))) [13, 10] = (l.length : Int) := by
      show Lib.index (l ++ 13 :: 10 :: joinL (l2 :: r)) [13, 10] = _
      rw [idx_run l (h l List.mem_cons_self).2 (by rw [h0]; omega), h0]
      omega
    have h2 := split_step (sep := [13, 10]) (by simp) h1
    have h3 := lines_join l2 r (fun x hx => h x (List.mem_cons_of_mem _ hx))
    unfold linesP at h3 ⊢
    show Lib.splitB (mkB [13, 10]) 0 (Lib.countB (mkB (l ++ ([13, 10] ++ joinL (l2 :: r)))) (mkB [13, 10])) (mkB (l ++ ([13, 10] ++ joinL (l2 :: r)))) = _
    rw [h2]
    exact congrArg (fun z => mkB l :: z) h3

theorem words_three {m p v : List UInt8} (hm : ∀ c ∈ m, c ≠ 32) (hp : ∀ c ∈ p, c ≠ 32) (hv : ∀ c ∈ v, c ≠ 32) : wordsP (mkB (m ++ 32 :: (p ++ 32 :: v))) = [mkB m, mkB p, mkB v] := by
  have i0 : ∀ t : List UInt8, Lib.index (32 :: t) [32] = 0 := fun t => idx_zero (by simp [List.isPrefixOf]) (by simp)
  have h1 : Lib.index (m ++ ([32] ++ (p ++ 32 :: v))) [32] = (m.length : Int) := by
    show Lib.index (m ++ 32 :: (p ++ 32 :: v)) [32] = _
    rw [idx_run m hm (by rw [i0]; omega), i0]
    omega
  have h2 : Lib.index (p ++ ([32] ++ v)) [32] = (p.length : Int) := by
    show Lib.index (p ++ 32 :: v) [32] = _
    rw [idx_run p hp (by rw [i0]; omega), i0]
    omega
  have s1 := split_step (sep := [32]) (by simp) h1
  have s2 := split_step (sep := [32]) (by simp) h2
  have s3 := split_last (sep := [32]) (idx_none v hv)
  unfold wordsP
  show Lib.splitB (mkB [32]) 0 (Lib.countB (mkB (m ++ ([32] ++ (p ++ 32 :: v)))) (mkB [32])) (mkB (m ++ ([32] ++ (p ++ 32 :: v)))) = _
  rw [s1]
  show mkB m :: Lib.splitB (mkB [32]) 0 (Lib.countB (mkB (p ++ ([32] ++ v))) (mkB [32])) (mkB (p ++ ([32] ++ v))) = _
  rw [s2, s3]

/-- A head that is written is read. -/
theorem hdP_join {m p v : List UInt8} {r : List (List UInt8)} (hm : ∀ c ∈ m, c ≠ 32) (hp : ∀ c ∈ p, c ≠ 32) (hv : ∀ c ∈ v, c ≠ 32) (hl : okLine (m ++ 32 :: (p ++ 32 :: v))) (hr : ∀ x ∈ r, okLine x) (hg : goodW [mkB m, mkB p, mkB v] = true) :
    hdP (mkB (joinL ((m ++ 32 :: (p ++ 32 :: v)) :: r))) = (hdF (r.map mkB) false 0).map (fun n => (mkB m, mkB p, n)) := by
  have h1 := lines_join (m ++ 32 :: (p ++ 32 :: v)) r (fun x hx => by
    rcases List.mem_cons.1 hx with h | h
    · subst h; exact hl
    · exact hr x h)
  rw [List.map_cons] at h1
  rw [hdP_eq h1, words_three hm hp hv, if_pos hg]
  rfl

/-- A request that is written is read. -/
theorem cut_join {l : List UInt8} {r : List (List UInt8)} {b : List UInt8} (h : ∀ x ∈ l :: r, okLine x) (hn : (joinL (l :: r)).length + 4 ≤ 4096) : cutAt (mkB (joinL (l :: r) ++ 13 :: 10 :: 13 :: 10 :: b)) = ((joinL (l :: r)).length : Int) ∧
    (mkB (joinL (l :: r) ++ 13 :: 10 :: 13 :: 10 :: b)).extract 0 (joinL (l :: r)).length = mkB (joinL (l :: r)) ∧
    (mkB (joinL (l :: r) ++ 13 :: 10 :: 13 :: 10 :: b)).extract ((joinL (l :: r)).length + 4) (mkB (joinL (l :: r) ++ 13 :: 10 :: 13 :: 10 :: b)).size = mkB b := by
  refine ⟨?_, mk_front _ _, ?_⟩
  · unfold cutAt
    rw [mkB_list]
    have e : (joinL (l :: r) ++ 13 :: 10 :: 13 :: 10 :: b).take 4096 = joinL (l :: r) ++ 13 :: 10 :: 13 :: 10 :: b.take (4096 - (joinL (l :: r)).length - 4) := by
      rw [List.take_append, List.take_of_length_le (by omega)]
      congr 1
      rw [show 4096 - (joinL (l :: r)).length = (4096 - (joinL (l :: r)).length - 4) + 4 by omega]
      simp
    rw [e]
    exact idx_join _ l r h
  · have h2 := mk_back (joinL (l :: r) ++ [13, 10, 13, 10]) b
    rw [List.append_assoc, List.length_append] at h2
    exact h2

end Go.Proofs.YtfiaaaflpjpnjaaGreatDoor

/-
  FrontWhole: the request that the law writes, as data.
-/
namespace Go.Proofs.YtfiaaaflpjpnjaaGreatDoor
open Go.RowKit

theorem digV_snoc (c : UInt8) : ∀ (l : List UInt8) (acc : Nat), digV acc (l ++ [c]) = 10 * digV acc l + (c.toNat - 48)
  | [], _ => rfl
  | _ :: l, _ => digV_snoc c l _

theorem digV_dec : ∀ (k u : Nat), u ≤ k → digV 0 (Lib.decDigits u) = u
  | k, u, hk => by
    by_cases h : u < 10
    · rw [dec_last h]
      have : (UInt8.ofNat (48 + u % 10)).toNat = 48 + u % 10 := by
        show (48 + u % 10) % 256 = _
        omega
      show 10 * 0 + ((UInt8.ofNat (48 + u % 10)).toNat - 48) = u
      omega
    · cases k with
      | zero => omega
      | succ k =>
        rw [dec_step h, digV_snoc, digV_dec k (u / 10) (by omega)]
        have : (UInt8.ofNat (48 + u % 10)).toNat = 48 + u % 10 := by
          show (48 + u % 10) % 256 = _
          omega
        omega

theorem lenP_dec (u : Nat) (hu : u < 1000000) : lenP (Lib.decDigits u) = some u := by
  obtain ⟨hd, c, r, hcr, hnz⟩ := dec_all u
  have hl := digs_le 5 u (by omega)
  have ha : allP isDig (Lib.decDigits u) = true := by
    unfold allP
    rw [Bool.and_eq_true, List.all_eq_true]
    exact ⟨hd, by rw [hcr]; rfl⟩
  unfold lenP
  rw [if_neg (by omega), if_neg (by rw [ha]; decide), if_neg, digV_dec u u (Nat.le_refl _)]
  rintro ⟨h1, h2⟩
  rw [hcr] at h2
  have h3 : c = 48 := Option.some.inj h2
  by_cases h0 : u = 0
  · subst h0
    rw [dec_last (by decide)] at h1
    simp at h1
  · exact hnz h0 h3

theorem trim_one {l : List UInt8} (h : ∀ c ∈ l, c ≠ 32) : Lib.trimB (32 :: l) 32 = l := by
  cases hl : l with
  | nil => decide
  | cons a t =>
    have hr : Lib.trimRightB (32 :: l) 32 = 32 :: l := by
      unfold Lib.trimRightB
      obtain ⟨b, q, hq⟩ : ∃ b q, (32 :: l).reverse = b :: q ∧ b ≠ 32 := by
        rw [List.reverse_cons]
        cases hv : l.reverse with
        | nil => rw [List.reverse_eq_nil_iff] at hv; rw [hv] at hl; cases hl
        | cons b q =>
          refine ⟨b, q ++ [32], rfl, h b ?_⟩
          rw [← List.mem_reverse, hv]
          exact List.mem_cons_self
      rw [hq.1, List.dropWhile_cons_of_neg (by simp [hq.2]), ← hq.1, List.reverse_reverse]
    unfold Lib.trimB
    rw [← hl, hr]
    unfold Lib.trimLeftB
    rw [List.dropWhile_cons_of_pos (by simp), hl, List.dropWhile_cons_of_neg (by simp [h a (by rw [hl]; exact List.mem_cons_self)])]

/-- The plain bytes among the first sixty. -/
def plainL (s : ByteArray) : List UInt8 := (s.data.toList.take 60).filter valB

theorem plain_ok (s : ByteArray) : (∀ c ∈ plainL s, valB c = true) ∧ (plainL s).length ≤ 60 := by
  unfold plainL
  refine ⟨fun c hc => (List.mem_filter.1 hc).2, Nat.le_trans (List.length_filter_le _ _) ?_⟩
  rw [List.length_take]
  omega

theorem valB_ne {c : UInt8} (h : valB c = true) : c ≠ 13 ∧ 32 ≤ c.toNat ∧ c.toNat ≤ 126 := by
  unfold valB at h
  simp only [Bool.and_eq_true, decide_eq_true_eq] at h
  refine ⟨fun e => ?_, h⟩
  rw [e] at h
  exact absurd h.1 (by decide)

/-- A header of the law's. -/
def hdrL (i : Nat) (p : List UInt8) : List UInt8 := 88 :: 45 :: UInt8.ofNat (97 + i) :: 58 :: 32 :: p

theorem hdr_cut (i : Nat) (hi : i < 5) (p : List UInt8) : Lib.cut (hdrL i p) [58] = ([88, 45, UInt8.ofNat (97 + i)], 32 :: p, true) := by
  have h0 : Lib.index (58 :: 32 :: p) [58] = 0 := idx_zero (by simp [List.isPrefixOf]) (by simp)
  have h1 : Lib.index (hdrL i p) [58] = 3 := by
    show Lib.index ([88, 45, UInt8.ofNat (97 + i)] ++ 58 :: 32 :: p) [58] = 3
    rw [idx_run _ (fun c hc => ?_) (by rw [h0]; omega), h0]
    · rfl
    · have : i = 0 ∨ i = 1 ∨ i = 2 ∨ i = 3 ∨ i = 4 := by omega
      simp only [List.mem_cons, List.not_mem_nil, or_false] at hc
      rcases this with rfl | rfl | rfl | rfl | rfl <;> rcases hc with rfl | rfl | rfl <;> decide
  unfold Lib.cut
  rw [h1, if_pos (by decide)]
  rfl

theorem hdr_line (i : Nat) (hi : i < 5) (p : List UInt8) (hp : ∀ c ∈ p, valB c = true) : lineR (hdrL i p) = some none := by
  unfold lineR
  rw [hdr_cut i hi p]
  have hv : allP valB (32 :: p) = true := by
    unfold allP
    rw [Bool.and_eq_true, List.all_eq_true]
    refine ⟨fun c hc => ?_, rfl⟩
    rcases List.mem_cons.1 hc with h | h
    · subst h; decide
    · exact hp c h
  have hn : allP nmB [88, 45, UInt8.ofNat (97 + i)] = true ∧ Lib.equalFold [88, 45, UInt8.ofNat (97 + i)] clenL = false := by
    have : i = 0 ∨ i = 1 ∨ i = 2 ∨ i = 3 ∨ i = 4 := by omega
    rcases this with rfl | rfl | rfl | rfl | rfl <;> decide
  dsimp only
  rw [if_neg (by decide), if_neg (by rw [hn.1]; decide), if_neg (by rw [hv]; rintro ⟨_, h⟩; cases h), if_pos hn.2]

def clenT (n : Nat) : List UInt8 := [67, 79, 78, 84, 69, 78, 84, 45, 108, 101, 110, 103, 116, 104, 58, 32] ++ Lib.decDigits n

theorem clen_line (n : Nat) (_hn : n < 1000000) : lineR (clenT n) = some (some (32 :: Lib.decDigits n)) := by
  have h0 : Lib.index (58 :: 32 :: Lib.decDigits n) [58] = 0 := idx_zero (by simp [List.isPrefixOf]) (by simp)
  have h1 : Lib.index (clenT n) [58] = 14 := by
    show Lib.index ([67, 79, 78, 84, 69, 78, 84, 45, 108, 101, 110, 103, 116, 104] ++ 58 :: 32 :: Lib.decDigits n) [58] = 14
    rw [idx_run _ (by decide) (by rw [h0]; omega), h0]
    rfl
  have hc : Lib.cut (clenT n) [58] = ([67, 79, 78, 84, 69, 78, 84, 45, 108, 101, 110, 103, 116, 104], 32 :: Lib.decDigits n, true) := by
    unfold Lib.cut
    rw [h1, if_pos (by decide)]
    rfl
  obtain ⟨hd, _⟩ := dec_all n
  have hv : allP valB (32 :: Lib.decDigits n) = true := by
    unfold allP
    rw [Bool.and_eq_true, List.all_eq_true]
    refine ⟨fun c hc => ?_, rfl⟩
    rcases List.mem_cons.1 hc with h | h
    · subst h; decide
    · have := dig_range (hd c h)
      unfold valB
      simp only [Bool.and_eq_true, decide_eq_true_eq]
      omega
  unfold lineR
  rw [hc]
  dsimp only
  rw [if_neg (by decide), if_neg (by decide), if_neg (by rw [hv]; rintro ⟨_, h⟩; cases h), if_neg (by decide)]

/-- The law's headers: some plain lines, then the length. -/
theorem hdF_law (n : Nat) (hn : n < 1000000) : ∀ (ls : List (List UInt8)), (∀ l ∈ ls, lineR l = some none) → hdF ((ls ++ [clenT n]).map mkB) false 0 = some n
  | [], _ => by
    obtain ⟨hd, _⟩ := dec_all n
    have hx : lenP (Lib.trimB (32 :: Lib.decDigits n) 32) = some n := by
      rw [trim_one (fun c hc => by have := dig_range (hd c hc); intro e; rw [e] at this; exact absurd this.1 (by decide)), lenP_dec n hn]
    show hdF [mkB (clenT n)] false 0 = some n
    rw [hdF_len1 (v := 32 :: Lib.decDigits n) (by rw [mkB_list]; exact clen_line n hn) hx]
    rfl
  | l :: r, h => by
    show hdF (mkB l :: (r ++ [clenT n]).map mkB) false 0 = some n
    rw [hdF_skip (by rw [mkB_list]; exact h l List.mem_cons_self)]
    exact hdF_law n hn r (fun x hx => h x (List.mem_cons_of_mem _ hx))

/-- Lines, each with its end. -/
def flatL (ls : List (List UInt8)) : List UInt8 := ls.flatMap (fun l => l ++ [13, 10])

theorem flat_join (c : List UInt8) : ∀ (ls : List (List UInt8)), flatL ls ++ c = joinL (ls ++ [c])
  | [] => rfl
  | [l] => by
    show (l ++ [13, 10] ++ []) ++ c = l ++ 13 :: 10 :: c
    simp
  | l :: l2 :: r => by
    have h := flat_join c (l2 :: r)
    show (l ++ [13, 10] ++ flatL (l2 :: r)) ++ c = l ++ 13 :: 10 :: joinL (l2 :: r ++ [c])
    rw [← h]
    simp

theorem flat_snoc (ls : List (List UInt8)) (l : List UInt8) : flatL (ls ++ [l]) = flatL ls ++ l ++ [13, 10] := by
  unfold flatL
  simp

end Go.Proofs.YtfiaaaflpjpnjaaGreatDoor

/-
  FrontWhole: the request that the law writes is read whole, as data.
-/
namespace Go.Proofs.YtfiaaaflpjpnjaaGreatDoor
open Go.RowKit

def pathL : List UInt8 := [47, 112, 47, 97, 63, 98, 61, 99]
def versL : List UInt8 := [72, 84, 84, 80, 47, 49, 46, 49]
def methL (b : Bool) : List UInt8 := if b then [80, 79, 83, 84] else [71, 69, 84]
def firstL (b : Bool) : List UInt8 := methL b ++ 32 :: (pathL ++ 32 :: versL)

/-- A row of the law's headers. -/
def HdrsOk (hs : List (List UInt8)) : Prop := hs.length ≤ 5 ∧ ∀ l ∈ hs, lineR l = some none ∧ okLine l ∧ l.length ≤ 65

theorem HdrsOk.nil : HdrsOk [] := ⟨by simp, fun l h => by cases h⟩

theorem HdrsOk.snoc {hs : List (List UInt8)} (H : HdrsOk hs) (h5 : hs.length < 5) {i : Nat} (hi : i < 5) (s : ByteArray) : HdrsOk (hs ++ [hdrL i (plainL s)]) := by
  obtain ⟨hv, hl⟩ := plain_ok s
  refine ⟨by rw [List.length_append, List.length_singleton]; omega, fun l h => ?_⟩
  rcases List.mem_append.1 h with h | h
  · exact H.2 l h
  · simp only [List.mem_singleton] at h
    subst h
    refine ⟨hdr_line i hi _ hv, ⟨by simp [hdrL], fun c hc => ?_⟩, ?_⟩
    · unfold hdrL at hc
      simp only [List.mem_cons] at hc
      have : i = 0 ∨ i = 1 ∨ i = 2 ∨ i = 3 ∨ i = 4 := by omega
      rcases hc with h | h | h | h | h | h
      · subst h; decide
      · subst h; decide
      · subst h; rcases this with rfl | rfl | rfl | rfl | rfl <;> decide
      · subst h; decide
      · subst h; decide
      · exact (valB_ne (hv c h)).1
    · show (plainL s).length + 5 ≤ 65
      omega

theorem join_len : ∀ (l : List UInt8) (r : List (List UInt8)), (∀ x ∈ l :: r, x.length ≤ 65) → (joinL (l :: r)).length ≤ 67 * (r.length + 1)
  | l, [], h => by
    have := h l List.mem_cons_self
    show l.length ≤ _
    simp only [List.length_nil]
    omega
  | l, l2 :: r, h => by
    have h1 := join_len l2 r (fun x hx => h x (List.mem_cons_of_mem _ hx))
    have h2 := h l List.mem_cons_self
    show (l ++ 13 :: 10 :: joinL (l2 :: r)).length ≤ _
    rw [List.length_append, List.length_cons, List.length_cons, List.length_cons]
    omega

theorem flat_len : ∀ (ls : List (List UInt8)), (∀ x ∈ ls, x.length ≤ 65) → (flatL ls).length ≤ 67 * ls.length
  | [], _ => by decide
  | l :: r, h => by
    have h1 := flat_len r (fun x hx => h x (List.mem_cons_of_mem _ hx))
    have h2 := h l List.mem_cons_self
    show (l ++ [13, 10] ++ flatL r).length ≤ _
    simp only [List.length_append, List.length_cons, List.length_nil]
    omega

theorem first_len (b : Bool) {qs : List (List UInt8)} (H : HdrsOk qs) : (flatL (firstL b :: qs)).length ≤ 402 := by
  have h := flat_len (firstL b :: qs) (fun x hx => by
    rcases List.mem_cons.1 hx with h | h
    · subst h; cases b <;> decide
    · exact (H.2 x h).2.2)
  have h5 := H.1
  rw [List.length_cons] at h
  omega

theorem clen_ok (n : Nat) (hn : n < 1000000) : okLine (clenT n) ∧ (clenT n).length ≤ 65 := by
  obtain ⟨hd, _⟩ := dec_all n
  have hl := digs_le 5 n (by omega)
  refine ⟨⟨by simp [clenT], fun c hc => ?_⟩, by unfold clenT; rw [List.length_append]; simp only [List.length_cons, List.length_nil]; omega⟩
  unfold clenT at hc
  rcases List.mem_append.1 hc with h | h
  · have hh : ∀ x ∈ ([67, 79, 78, 84, 69, 78, 84, 45, 108, 101, 110, 103, 116, 104, 58, 32] : List UInt8), x ≠ 13 := by decide
    exact hh c h
  · have := dig_range (hd c h)
    intro e
    rw [e] at this
    exact absurd this.1 (by decide)

/-- The law's request, read. -/
theorem who_rd (b : Bool) (hs : List (List UInt8)) (H : HdrsOk hs) (s : ByteArray) (hs2 : s.size ≤ 1000) (hv : vf s 0 = true) :
    rdP (mkB (flatL (firstL b :: hs) ++ clenT s.size ++ [13, 10, 13, 10] ++ s.data.toList)) = (mkB (methL b), mkB pathL, s, 200) ∧ (flatL (firstL b :: hs) ++ clenT s.size ++ [13, 10, 13, 10] ++ s.data.toList).length ≤ 3000 := by
  have hz : s.data.toList.length = s.size := Array.length_toList
  obtain ⟨ck, cl⟩ := clen_ok s.size (by omega)
  have hf : okLine (firstL b) ∧ (firstL b).length ≤ 65 := by
    unfold okLine
    cases b <;> decide
  have hall : ∀ x ∈ firstL b :: (hs ++ [clenT s.size]), okLine x ∧ x.length ≤ 65 := fun x hx => by
    rcases List.mem_cons.1 hx with h | h
    · subst h; exact hf
    · rcases List.mem_append.1 h with h | h
      · exact (H.2 x h).2
      · simp only [List.mem_singleton] at h
        subst h
        exact ⟨ck, cl⟩
  have hlen := join_len (firstL b) (hs ++ [clenT s.size]) (fun x hx => (hall x hx).2)
  rw [List.length_append, List.length_singleton] at hlen
  have h5 := H.1
  have e : flatL (firstL b :: hs) ++ clenT s.size = joinL (firstL b :: (hs ++ [clenT s.size])) := flat_join (clenT s.size) (firstL b :: hs)
  rw [e, List.append_assoc]
  show rdP (mkB (joinL (firstL b :: (hs ++ [clenT s.size])) ++ 13 :: 10 :: 13 :: 10 :: s.data.toList)) = _ ∧ (joinL (firstL b :: (hs ++ [clenT s.size])) ++ 13 :: 10 :: 13 :: 10 :: s.data.toList).length ≤ 3000
  obtain ⟨c1, c2, c3⟩ := cut_join (b := s.data.toList) (fun x hx => (hall x hx).1) (by omega)
  have hh : hdP (mkB (joinL (firstL b :: (hs ++ [clenT s.size])))) = some (mkB (methL b), mkB pathL, s.size) := by
    have h1 := hdP_join (m := methL b) (p := pathL) (v := versL) (r := hs ++ [clenT s.size]) (by cases b <;> decide) (by decide) (by decide) hf.1 (fun x hx => (hall x (List.mem_cons_of_mem _ hx)).1) (by cases b <;> decide)
    rw [hdF_law s.size (by omega) hs (fun l hl => (H.2 l hl).1)] at h1
    exact h1
  refine ⟨?_, ?_⟩
  · unfold rdP
    rw [c1, if_neg (by omega), Int.toNat_natCast, c2, hh]
    dsimp only
    rw [c3, if_neg, if_neg (by omega), mkB_of, if_neg]
    · rw [hv]
      simp
    · cases b <;> decide
  · rw [List.length_append]
    simp only [List.length_cons]
    omega

end Go.Proofs.YtfiaaaflpjpnjaaGreatDoor

/-
  []byte of a text that is no constant: its row.
-/
namespace Go.Proofs.YtfiaaaflpjpnjaaGreatDoor
open Go.RowKit

theorem who_bytes (l : List UInt8) (W : World) : (convert 9 23 (.string (mkB l))).run Tryz.prog W = .ok (.slice (some ⟨W.heap.size, 0, none⟩) (mkB l).size (grownCap W l.length 0 5)) (Lib.bytesWorld W 5 (mkB l)) := by
  have h := Lib.run_convert_string_bytes (P := Tryz.prog) W 9 23 5 (mkB l) Tryz.underlying9 Tryz.underlying23 Tryz.underlying5
  rw [mkB_size] at h ⊢
  exact h

theorem who_at (s : ByteArray) (W : World) : BsAt (Lib.bytesWorld W 5 s) W.heap.size 0 s := fun j hj => by
  rw [Nat.zero_add, Lib.bytesWorld_cell W 5 s j hj, ← atB_is hj]
  have hz : s.data.toList.length = s.size := Array.length_toList
  rw [List.getD_eq_getElem?_getD, List.getElem?_eq_getElem (by omega), Array.getElem_toList]
  rfl

theorem low_bytes (l : List UInt8) (W : World) : (convert 9 23 (.string (mkB l))).run Tryz.prog W = .ok (.slice (some ⟨W.heap.size, 0, none⟩) l.length (grownCap W l.length 0 5)) (Lib.bytesWorld W 5 (mkB l)) := by
  have h := who_bytes l W
  rwa [mkB_size] at h

end Go.Proofs.YtfiaaaflpjpnjaaGreatDoor

/-
  Texts put behind each other.
-/
namespace Go.Proofs.YtfiaaaflpjpnjaaGreatDoor
open Go.RowKit

theorem mk_cat (a b : List UInt8) : mkB a ++ mkB b = mkB (a ++ b) := by
  apply ByteArray.ext
  rw [ByteArray.data_append]
  show a.toArray ++ b.toArray = (a ++ b).toArray
  simp

theorem run_add (W : World) (a b : List UInt8) (h : a.length + b.length ≤ 1000000000000000) : (Op.stringOp .add (mkB a) (mkB b)).run Tryz.prog W = .ok (.string (mkB (a ++ b))) W := by
  unfold Op.stringOp
  dsimp only
  rw [if_neg (by rw [mkB_size, mkB_size]; simp [IntKind.max, IntKind.signed, IntKind.bits]; omega), mk_cat]
  rfl

theorem ext_one (s : ByteArray) {j : Nat} (h : j < s.size) : s.extract j (j + 1) = mkB [s[j]'h] := by
  refine ByteArray.ext (Array.ext' ?_)
  have h2 := sub_extract s j (j + 1)
  show (s.extract j (j + 1)).data.toList = [s[j]'h]
  rw [← h2]
  show subL s j (j + 1) = [s[j]'h]
  unfold subL
  rw [show j + 1 - j = 1 by omega, drop_next s h]
  rfl

theorem run_cat (a b : List UInt8) (h : a.length + b.length ≤ 1000000000000000) : ∃ c, Hid (c = a ++ b) ∧ ∀ W, (Op.stringOp .add (mkB a) (mkB b)).run Tryz.prog W = .ok (.string (mkB c)) W :=
  ⟨a ++ b, hid rfl, fun W => run_add W a b h⟩

end Go.Proofs.YtfiaaaflpjpnjaaGreatDoor
