/-
  A request that is written line by line is read line by line, as data.
-/
import Derived.Test.YtfiaaaflpjpnjaaGreatDoorWM1
import Derived.Test.YtfiaaaflpjpnjaaGreatDoorFVal
import Derived.Lib.FrozenHead
namespace Go.Proofs.YtfiaaaflpjpnjaaGreatDoor
open Go.RowKit

theorem idx_zero {l sub : List UInt8} (h : sub.isPrefixOf l = true) (hl : l ≠ []) : Lib.index l sub = 0 := by
  cases l with
  | nil => exact absurd rfl hl
  | cons c t => unfold Lib.index; rw [if_pos h]

theorem idx_ne {c d : UInt8} {t sub : List UInt8} (hc : c ≠ d) (h : 0 ≤ Lib.index t (d :: sub)) : Lib.index (c :: t) (d :: sub) = Lib.index t (d :: sub) + 1 := by
  conv => lhs; unfold Lib.index
  rw [if_neg (by simp [List.isPrefixOf, Ne.symm hc]), if_neg (by simp; omega)]

theorem idx_none {d : UInt8} {sub : List UInt8} : ∀ (l : List UInt8), (∀ c ∈ l, c ≠ d) → Lib.index l (d :: sub) = -1
  | [], _ => rfl
  | c :: t, h => by
    have h1 := idx_none (sub := sub) t (fun x hx => h x (List.mem_cons_of_mem _ hx))
    have hc := h c List.mem_cons_self
    conv => lhs; unfold Lib.index
    rw [if_neg (by simp [List.isPrefixOf, Ne.symm hc]), if_pos (by rw [h1]; rfl)]

theorem idx_run {d : UInt8} {sub t : List UInt8} : ∀ (l : List UInt8), (∀ c ∈ l, c ≠ d) → 0 ≤ Lib.index t (d :: sub) → Lib.index (l ++ t) (d :: sub) = (l.length : Int) + Lib.index t (d :: sub)
  | [], _, _ => by simp
  | c :: l, h, h0 => by
    have h1 := idx_run l (fun x hx => h x (List.mem_cons_of_mem _ hx)) h0
    rw [List.cons_append, idx_ne (h c List.mem_cons_self) (by rw [h1]; omega), h1, List.length_cons]
    omega

theorem idx_crlf {c : UInt8} {t : List UInt8} (hc : c ≠ 13) (h : 0 ≤ Lib.index (c :: t) [13, 10, 13, 10]) : Lib.index (13 :: 10 :: c :: t) [13, 10, 13, 10] = Lib.index (c :: t) [13, 10, 13, 10] + 2 := by
  have h1 : Lib.index (10 :: c :: t) [13, 10, 13, 10] = Lib.index (c :: t) [13, 10, 13, 10] + 1 := idx_ne (by decide) h
  conv => lhs; unfold Lib.index
  rw [if_neg (by simp [List.isPrefixOf, Ne.symm hc]), if_neg (by rw [h1]; simp; omega), h1]
  omega

/-- A line of a head. -/
def okLine (l : List UInt8) : Prop := l ≠ [] ∧ ∀ c ∈ l, c ≠ 13

/-- Lines, laid behind each other. -/
def joinL : List (List UInt8) → List UInt8
  | [] => []
  | [l] => l
  | l :: l2 :: r => l ++ 13 :: 10 :: joinL (l2 :: r)

theorem joinL_head : ∀ (l : List UInt8) (r : List (List UInt8)), okLine l → ∃ c t, joinL (l :: r) = c :: t ∧ c ≠ 13
  | [], _, h => absurd rfl h.1
  | c :: t, [], h => ⟨c, t, rfl, h.2 c List.mem_cons_self⟩
  | c :: t, l2 :: r, h => ⟨c, t ++ 13 :: 10 :: joinL (l2 :: r), rfl, h.2 c List.mem_cons_self⟩

theorem idx_join (b : List UInt8) : ∀ (l : List UInt8) (r : List (List UInt8)), (∀ x ∈ l :: r, okLine x) → Lib.index (joinL (l :: r) ++ 13 :: 10 :: 13 :: 10 :: b) [13, 10, 13, 10] = ((joinL (l :: r)).length : Int)
  | l, [], h => by
    have h0 : Lib.index (13 :: 10 :: 13 :: 10 :: b) [13, 10, 13, 10] = 0 := idx_zero (by simp [List.isPrefixOf]) (by simp)
    show Lib.index (l ++ 13 :: 10 :: 13 :: 10 :: b) [13, 10, 13, 10] = (l.length : Int)
    rw [idx_run l (h l List.mem_cons_self).2 (by rw [h0]; omega), h0]
    omega
  | l, l2 :: r, h => by
    have h1 := idx_join b l2 r (fun x hx => h x (List.mem_cons_of_mem _ hx))
    obtain ⟨c, t, hj, hc⟩ := joinL_head l2 r (h l2 (List.mem_cons_of_mem _ List.mem_cons_self))
    have h2 : Lib.index (13 :: 10 :: (joinL (l2 :: r) ++ 13 :: 10 :: 13 :: 10 :: b)) [13, 10, 13, 10] = Lib.index (joinL (l2 :: r) ++ 13 :: 10 :: 13 :: 10 :: b) [13, 10, 13, 10] + 2 := by
      rw [hj] at h1 ⊢
      exact idx_crlf hc (by
        have h3 : 0 ≤ Lib.index (c :: t ++ 13 :: 10 :: 13 :: 10 :: b) [13, 10, 13, 10] := by rw [h1]; omega
        exact h3)
    show Lib.index ((l ++ 13 :: 10 :: joinL (l2 :: r)) ++ 13 :: 10 :: 13 :: 10 :: b) [13, 10, 13, 10] = (((l ++ 13 :: 10 :: joinL (l2 :: r)).length : Nat) : Int)
    rw [List.append_assoc, List.cons_append, List.cons_append, idx_run l (h l List.mem_cons_self).2 (by rw [h2, h1]; omega), h2, h1, List.length_append, List.length_cons, List.length_cons]
    omega

theorem mk_front (a b : List UInt8) : (mkB (a ++ b)).extract 0 a.length = mkB a := by
  refine ByteArray.ext (Array.ext' ?_)
  rw [ByteArray.data_extract, Array.toList_extract]
  show List.extract (a ++ b) 0 a.length = a
  simp [List.extract]

theorem mk_back (a b : List UInt8) : (mkB (a ++ b)).extract a.length (mkB (a ++ b)).size = mkB b := by
  refine ByteArray.ext (Array.ext' ?_)
  rw [ByteArray.data_extract, Array.toList_extract, mkB_size]
  show List.extract (a ++ b) a.length (a ++ b).length = b
  simp [List.extract]

/-- A text is split at the first instance. -/
theorem split_step {sep a b : List UInt8} (hs : sep ≠ []) (h : Lib.index (a ++ (sep ++ b)) sep = (a.length : Int)) : Lib.splitB (mkB sep) 0 (Lib.countB (mkB (a ++ (sep ++ b))) (mkB sep)) (mkB (a ++ (sep ++ b))) = mkB a :: Lib.splitB (mkB sep) 0 (Lib.countB (mkB b) (mkB sep)) (mkB b) := by
  have hi : Lib.indexB (mkB (a ++ (sep ++ b))) (mkB sep) = (a.length : Int) := h
  have h1 : 1 ≤ (mkB sep).size := by rw [mkB_size]; exact List.length_pos_iff.2 hs
  have e : (mkB (a ++ (sep ++ b))).extract (a.length + (mkB sep).size) (mkB (a ++ (sep ++ b))).size = mkB b := by
    have h2 := mk_back (a ++ sep) b
    rw [List.append_assoc, List.length_append] at h2
    rw [mkB_size]
    exact h2
  rw [Lib.countB_hit _ _ a.length h1 hi, e, Nat.add_comm 1]
  conv => lhs; unfold Lib.splitB
  rw [if_neg (by rw [hi]; simp), hi, Int.toNat_natCast, e, Nat.add_zero, mk_front]

theorem split_last {sep a : List UInt8} (h : Lib.index a sep = -1) : Lib.splitB (mkB sep) 0 (Lib.countB (mkB a) (mkB sep)) (mkB a) = [mkB a] :=
  Lib.splitB_miss _ _ _ _ h

theorem lines_join : ∀ (l : List UInt8) (r : List (List UInt8)), (∀ x ∈ l :: r, okLine x) → linesP (mkB (joinL (l :: r))) = (l :: r).map mkB
  | l, [], h => split_last (sep := [13, 10]) (idx_none l (h l List.mem_cons_self).2)
  | l, l2 :: r, h => by
    have h0 : Lib.index (13 :: 10 :: joinL (l2 :: r)) [13, 10] = 0 := idx_zero (by simp [List.isPrefixOf]) (by simp)
    have h1 : Lib.index (l ++ ([13, 10] ++ joinL (l2 :: r))) [13, 10] = (l.length : Int) := by
      show Lib.index (l ++ 13 :: 10 :: joinL (l2 :: r)) [13, 10] = _
      rw [idx_run l (h l List.mem_cons_self).2 (by rw [h0]; omega), h0]
      omega
    have h2 := split_step (sep := [13, 10]) (by simp) h1
    have h3 := lines_join l2 r (fun x hx => h x (List.mem_cons_of_mem _ hx))
    unfold linesP at h3 ⊢
    show Lib.splitB (mkB [13, 10]) 0 (Lib.countB (mkB (l ++ ([13, 10] ++ joinL (l2 :: r)))) (mkB [13, 10])) (mkB (l ++ ([13, 10] ++ joinL (l2 :: r)))) = _
    rw [h2]
    exact congrArg (fun z => mkB l :: z) h3

theorem words_three {m p v : List UInt8} (hm : ∀ c ∈ m, c ≠ 32) (hp : ∀ c ∈ p, c ≠ 32) (hv : ∀ c ∈ v, c ≠ 32) : wordsP (mkB (m ++ 32 :: (p ++ 32 :: v))) = [mkB m, mkB p, mkB v] := by
  have i0 : ∀ t : List UInt8, Lib.index (32 :: t) [32] = 0 := fun t => idx_zero (by simp [List.isPrefixOf]) (by simp)
  have h1 : Lib.index (m ++ ([32] ++ (p ++ 32 :: v))) [32] = (m.length : Int) := by
    show Lib.index (m ++ 32 :: (p ++ 32 :: v)) [32] = _
    rw [idx_run m hm (by rw [i0]; omega), i0]
    omega
  have h2 : Lib.index (p ++ ([32] ++ v)) [32] = (p.length : Int) := by
    show Lib.index (p ++ 32 :: v) [32] = _
    rw [idx_run p hp (by rw [i0]; omega), i0]
    omega
  have s1 := split_step (sep := [32]) (by simp) h1
  have s2 := split_step (sep := [32]) (by simp) h2
  have s3 := split_last (sep := [32]) (idx_none v hv)
  unfold wordsP
  show Lib.splitB (mkB [32]) 0 (Lib.countB (mkB (m ++ ([32] ++ (p ++ 32 :: v)))) (mkB [32])) (mkB (m ++ ([32] ++ (p ++ 32 :: v)))) = _
  rw [s1]
  show mkB m :: Lib.splitB (mkB [32]) 0 (Lib.countB (mkB (p ++ ([32] ++ v))) (mkB [32])) (mkB (p ++ ([32] ++ v))) = _
  rw [s2, s3]

/-- A head that is written is read. -/
theorem hdP_join {m p v : List UInt8} {r : List (List UInt8)} (hm : ∀ c ∈ m, c ≠ 32) (hp : ∀ c ∈ p, c ≠ 32) (hv : ∀ c ∈ v, c ≠ 32) (hl : okLine (m ++ 32 :: (p ++ 32 :: v))) (hr : ∀ x ∈ r, okLine x) (hg : goodW [mkB m, mkB p, mkB v] = true) :
    hdP (mkB (joinL ((m ++ 32 :: (p ++ 32 :: v)) :: r))) = (hdF (r.map mkB) false 0).map (fun n => (mkB m, mkB p, n)) := by
  have h1 := lines_join (m ++ 32 :: (p ++ 32 :: v)) r (fun x hx => by
    rcases List.mem_cons.1 hx with h | h
    · subst h; exact hl
    · exact hr x h)
  rw [List.map_cons] at h1
  rw [hdP_eq h1, words_three hm hp hv, if_pos hg]
  rfl

/-- A request that is written is read. -/
theorem cut_join {l : List UInt8} {r : List (List UInt8)} {b : List UInt8} (h : ∀ x ∈ l :: r, okLine x) (hn : (joinL (l :: r)).length + 4 ≤ 4096) : cutAt (mkB (joinL (l :: r) ++ 13 :: 10 :: 13 :: 10 :: b)) = ((joinL (l :: r)).length : Int) ∧
    (mkB (joinL (l :: r) ++ 13 :: 10 :: 13 :: 10 :: b)).extract 0 (joinL (l :: r)).length = mkB (joinL (l :: r)) ∧
    (mkB (joinL (l :: r) ++ 13 :: 10 :: 13 :: 10 :: b)).extract ((joinL (l :: r)).length + 4) (mkB (joinL (l :: r) ++ 13 :: 10 :: 13 :: 10 :: b)).size = mkB b := by
  refine ⟨?_, mk_front _ _, ?_⟩
  · unfold cutAt
    rw [mkB_list]
    have e : (joinL (l :: r) ++ 13 :: 10 :: 13 :: 10 :: b).take 4096 = joinL (l :: r) ++ 13 :: 10 :: 13 :: 10 :: b.take (4096 - (joinL (l :: r)).length - 4) := by
      rw [List.take_append, List.take_of_length_le (by omega)]
      congr 1
      rw [show 4096 - (joinL (l :: r)).length = (4096 - (joinL (l :: r)).length - 4) + 4 by omega]
      simp
    rw [e]
    exact idx_join _ l r h
  · have h2 := mk_back (joinL (l :: r) ++ [13, 10, 13, 10]) b
    rw [List.append_assoc, List.length_append] at h2
    exact h2

end Go.Proofs.YtfiaaaflpjpnjaaGreatDoor

/-
  FrontWhole: the request that the law writes, as data.
-/
namespace Go.Proofs.YtfiaaaflpjpnjaaGreatDoor
open Go.RowKit

theorem digV_snoc (c : UInt8) : ∀ (l : List UInt8) (acc : Nat), digV acc (l ++ [c]) = 10 * digV acc l + (c.toNat - 48)
  | [], _ => rfl
  | _ :: l, _ => digV_snoc c l _

theorem digV_dec : ∀ (k u : Nat), u ≤ k → digV 0 (Lib.decDigits u) = u
  | k, u, hk => by
    by_cases h : u < 10
    · rw [dec_last h]
      have : (UInt8.ofNat (48 + u % 10)).toNat = 48 + u % 10 := by
        show (48 + u % 10) % 256 = _
        omega
      show 10 * 0 + ((UInt8.ofNat (48 + u % 10)).toNat - 48) = u
      omega
    · cases k with
      | zero => omega
      | succ k =>
        rw [dec_step h, digV_snoc, digV_dec k (u / 10) (by omega)]
        have : (UInt8.ofNat (48 + u % 10)).toNat = 48 + u % 10 := by
          show (48 + u % 10) % 256 = _
          omega
        omega

theorem lenP_dec (u : Nat) (hu : u < 1000000) : lenP (Lib.decDigits u) = some u := by
  obtain ⟨hd, c, r, hcr, hnz⟩ := dec_all u
  have hl := digs_le 5 u (by omega)
  have ha : allP isDig (Lib.decDigits u) = true := by
    unfold allP
    rw [Bool.and_eq_true, List.all_eq_true]
    exact ⟨hd, by rw [hcr]; rfl⟩
  unfold lenP
  rw [if_neg (by omega), if_neg (by rw [ha]; decide), if_neg, digV_dec u u (Nat.le_refl _)]
  rintro ⟨h1, h2⟩
  rw [hcr] at h2
  have h3 : c = 48 := Option.some.inj h2
  by_cases h0 : u = 0
  · subst h0
    rw [dec_last (by decide)] at h1
    simp at h1
  · exact hnz h0 h3

theorem trim_one {l : List UInt8} (h : ∀ c ∈ l, c ≠ 32) : Lib.trimB (32 :: l) 32 = l := by
  cases hl : l with
  | nil => decide
  | cons a t =>
    have hr : Lib.trimRightB (32 :: l) 32 = 32 :: l := by
      unfold Lib.trimRightB
      obtain ⟨b, q, hq⟩ : ∃ b q, (32 :: l).reverse = b :: q ∧ b ≠ 32 := by
        rw [List.reverse_cons]
        cases hv : l.reverse with
        | nil => rw [List.reverse_eq_nil_iff] at hv; rw [hv] at hl; cases hl
        | cons b q =>
          refine ⟨b, q ++ [32], rfl, h b ?_⟩
          rw [← List.mem_reverse, hv]
          exact List.mem_cons_self
      rw [hq.1, List.dropWhile_cons_of_neg (by simp [hq.2]), ← hq.1, List.reverse_reverse]
    unfold Lib.trimB
    rw [← hl, hr]
    unfold Lib.trimLeftB
    rw [List.dropWhile_cons_of_pos (by simp), hl, List.dropWhile_cons_of_neg (by simp [h a (by rw [hl]; exact List.mem_cons_self)])]

/-- The plain bytes among the first sixty. -/
def plainL (s : ByteArray) : List UInt8 := (s.data.toList.take 60).filter valB

theorem plain_ok (s : ByteArray) : (∀ c ∈ plainL s, valB c = true) ∧ (plainL s).length ≤ 60 := by
  unfold plainL
  refine ⟨fun c hc => (List.mem_filter.1 hc).2, Nat.le_trans (List.length_filter_le _ _) ?_⟩
  rw [List.length_take]
  omega

theorem valB_ne {c : UInt8} (h : valB c = true) : c ≠ 13 ∧ 32 ≤ c.toNat ∧ c.toNat ≤ 126 := by
  unfold valB at h
  simp only [Bool.and_eq_true, decide_eq_true_eq] at h
  refine ⟨fun e => ?_, h⟩
  rw [e] at h
  exact absurd h.1 (by decide)

/-- A header of the law's. -/
def hdrL (i : Nat) (p : List UInt8) : List UInt8 := 88 :: 45 :: UInt8.ofNat (97 + i) :: 58 :: 32 :: p

theorem hdr_cut (i : Nat) (hi : i < 5) (p : List UInt8) : Lib.cut (hdrL i p) [58] = ([88, 45, UInt8.ofNat (97 + i)], 32 :: p, true) := by
  have h0 : Lib.index (58 :: 32 :: p) [58] = 0 := idx_zero (by simp [List.isPrefixOf]) (by simp)
  have h1 : Lib.index (hdrL i p) [58] = 3 := by
    show Lib.index ([88, 45, UInt8.ofNat (97 + i)] ++ 58 :: 32 :: p) [58] = 3
    rw [idx_run _ (fun c hc => ?_) (by rw [h0]; omega), h0]
    · rfl
    · have : i = 0 ∨ i = 1 ∨ i = 2 ∨ i = 3 ∨ i = 4 := by omega
      simp only [List.mem_cons, List.not_mem_nil, or_false] at hc
      rcases this with rfl | rfl | rfl | rfl | rfl <;> rcases hc with rfl | rfl | rfl <;> decide
  unfold Lib.cut
  rw [h1, if_pos (by decide)]
  rfl

theorem hdr_line (i : Nat) (hi : i < 5) (p : List UInt8) (hp : ∀ c ∈ p, valB c = true) : lineR (hdrL i p) = some none := by
  unfold lineR
  rw [hdr_cut i hi p]
  have hv : allP valB (32 :: p) = true := by
    unfold allP
    rw [Bool.and_eq_true, List.all_eq_true]
    refine ⟨fun c hc => ?_, rfl⟩
    rcases List.mem_cons.1 hc with h | h
    · subst h; decide
    · exact hp c h
  have hn : allP nmB [88, 45, UInt8.ofNat (97 + i)] = true ∧ Lib.equalFold [88, 45, UInt8.ofNat (97 + i)] clenL = false := by
    have : i = 0 ∨ i = 1 ∨ i = 2 ∨ i = 3 ∨ i = 4 := by omega
    rcases this with rfl | rfl | rfl | rfl | rfl <;> decide
  dsimp only
  rw [if_neg (by decide), if_neg (by rw [hn.1]; decide), if_neg (by rw [hv]; rintro ⟨_, h⟩; cases h), if_pos hn.2]

def clenT (n : Nat) : List UInt8 := [67, 79, 78, 84, 69, 78, 84, 45, 108, 101, 110, 103, 116, 104, 58, 32] ++ Lib.decDigits n

theorem clen_line (n : Nat) (_hn : n < 1000000) : lineR (clenT n) = some (some (32 :: Lib.decDigits n)) := by
  have h0 : Lib.index (58 :: 32 :: Lib.decDigits n) [58] = 0 := idx_zero (by simp [List.isPrefixOf]) (by simp)
  have h1 : Lib.index (clenT n) [58] = 14 := by
    show Lib.index ([67, 79, 78, 84, 69, 78, 84, 45, 108, 101, 110, 103, 116, 104] ++ 58 :: 32 :: Lib.decDigits n) [58] = 14
    rw [idx_run _ (by decide) (by rw [h0]; omega), h0]
    rfl
  have hc : Lib.cut (clenT n) [58] = ([67, 79, 78, 84, 69, 78, 84, 45, 108, 101, 110, 103, 116, 104], 32 :: Lib.decDigits n, true) := by
    unfold Lib.cut
    rw [h1, if_pos (by decide)]
    rfl
  obtain ⟨hd, _⟩ := dec_all n
  have hv : allP valB (32 :: Lib.decDigits n) = true := by
    unfold allP
    rw [Bool.and_eq_true, List.all_eq_true]
    refine ⟨fun c hc => ?_, rfl⟩
    rcases List.mem_cons.1 hc with h | h
    · subst h; decide
    · have := dig_range (hd c h)
      unfold valB
      simp only [Bool.and_eq_true, decide_eq_true_eq]
      omega
  unfold lineR
  rw [hc]
  dsimp only
  rw [if_neg (by decide), if_neg (by decide), if_neg (by rw [hv]; rintro ⟨_, h⟩; cases h), if_neg (by decide)]

/-- The law's headers: some plain lines, then the length. -/
theorem hdF_law (n : Nat) (hn : n < 1000000) : ∀ (ls : List (List UInt8)), (∀ l ∈ ls, lineR l = some none) → hdF ((ls ++ [clenT n]).map mkB) false 0 = some n
  | [], _ => by
    obtain ⟨hd, _⟩ := dec_all n
    have hx : lenP (Lib.trimB (32 :: Lib.decDigits n) 32) = some n := by
      rw [trim_one (fun c hc => by have := dig_range (hd c hc); intro e; rw [e] at this; exact absurd this.1 (by decide)), lenP_dec n hn]
    show hdF [mkB (clenT n)] false 0 = some n
    rw [hdF_len1 (v := 32 :: Lib.decDigits n) (by rw [mkB_list]; exact clen_line n hn) hx]
    rfl
  | l :: r, h => by
    show hdF (mkB l :: (r ++ [clenT n]).map mkB) false 0 = some n
    rw [hdF_skip (by rw [mkB_list]; exact h l List.mem_cons_self)]
    exact hdF_law n hn r (fun x hx => h x (List.mem_cons_of_mem _ hx))

/-- Lines, each with its end. -/
def flatL (ls : List (List UInt8)) : List UInt8 := ls.flatMap (fun l => l ++ [13, 10])

theorem flat_join (c : List UInt8) : ∀ (ls : List (List UInt8)), flatL ls ++ c = joinL (ls ++ [c])
  | [] => rfl
  | [l] => by
    show (l ++ [13, 10] ++ []) ++ c = l ++ 13 :: 10 :: c
    simp
  | l :: l2 :: r => by
    have h := flat_join c (l2 :: r)
    show (l ++ [13, 10] ++ flatL (l2 :: r)) ++ c = l ++ 13 :: 10 :: joinL (l2 :: r ++ [c])
    rw [← h]
    simp

theorem flat_snoc (ls : List (List UInt8)) (l : List UInt8) : flatL (ls ++ [l]) = flatL ls ++ l ++ [13, 10] := by
  unfold flatL
  simp

end Go.Proofs.YtfiaaaflpjpnjaaGreatDoor

/-
  The document's length: a content-length's value.
-/
namespace Go.Proofs.YtfiaaaflpjpnjaaGreatDoor
open Go.RowKit

theorem all_dig (l : List UInt8) : l.all (inB 48 57) = l.all isDig := rfl

theorem dig_take (l : List UInt8) {k : Nat} (h : k < l.length) : digV 0 (l.take (k + 1)) = 10 * digV 0 (l.take k) + ((l[k]'h).toNat - 48) := by
  rw [List.take_add_one, List.getElem?_eq_getElem h]
  exact digV_snoc _ _ _

set_option maxRecDepth 100000 in
set_option maxHeartbeats 2000000 in
theorem refLength_any (w : World) (s : ByteArray) (hs : s.size ≤ 1000000) :
    Calls Tryz.prog 21 #[.string s] w fun e w' => e = .returned (.tuple #[.int .i64 (((lenP s.data.toList).getD 0 : Nat) : Int), .bool (lenP s.data.toList).isSome]) ∧ w' = w := by
  have hz : s.data.toList.length = s.size := Array.length_toList
  have hW := refWithin_any w s (by omega) 48 57
  rw [all_dig] at hW
  change Calls Tryz.prog 18 #[.string s, .int .u8 48, .int .u8 57] w fun e w' => e = .returned (.bool (s.data.toList.all isDig)) ∧ w' = w at hW
  by_cases h1 : s.size < 1
  · have HG : Hid (lenP s.data.toList = none) := by
      show _ = _
      rw [List.eq_nil_of_length_eq_zero (show s.data.toList.length = 0 by omega)]
      rfl
    have f1 : (s.size : Int) < 1 := by omega
    clear hW hz h1
    go_enter Tryz.func21, Tryz.ntmps21
    go_wp2
    go_ret2
    exact ⟨by rw [HG.out]; rfl, rfl⟩
  · have f1 : ¬ (s.size : Int) < 1 := by omega
    by_cases h9 : 9 < s.size
    · have HG : Hid (lenP s.data.toList = none) := by show _ = _; unfold lenP; rw [if_pos (by omega)]
      have f2 : (9 : Int) < (s.size : Int) := by omega
      clear hW hz h1 h9
      go_enter Tryz.func21, Tryz.ntmps21
      go_wp2
      go_ret2
      exact ⟨by rw [HG.out]; rfl, rfl⟩
    · have f2 : ¬ (9 : Int) < (s.size : Int) := by omega
      have h0 : 0 < s.size := by omega
      have hix := ix_str s h0
      change ∀ W, (Instr.index 9 (.string s) (.int .i64 0)).run Tryz.prog W = _ at hix
      have hne : s.data.toList ≠ [] := by intro h; rw [h] at hz; simp at hz; omega
      have hhd : s.data.toList.head? = some (s[0]'h0) := by
        have h2 : 0 < s.data.toList.length := by omega
        rw [List.head?_eq_getElem?, List.getElem?_eq_getElem h2, Array.getElem_toList]
        rfl
      have hu := u8_beq (s[0]'h0) 48
      have hu' : (((s[0]'h0).toNat : Int) == 48) = ((s[0]'h0) == 48) := hu
      clear hu
      have hall : allP isDig s.data.toList = s.data.toList.all isDig := by
        unfold allP
        rw [List.isEmpty_eq_false_iff.2 hne]
        simp
      cases ha : s.data.toList.all isDig with
      | false =>
        have HG : Hid (lenP s.data.toList = none) := by
          show _ = _
          unfold lenP
          rw [if_neg (by omega), if_pos (by rw [hall, ha])]
        rw [ha] at hW
        obtain ⟨b, hb⟩ : ∃ b, b = ((s[0]'h0) == 48) := ⟨_, rfl⟩
        rw [← hb] at hu'
        clear hz h1 h9 hne hhd hall ha hb
        generalize (((s[0]'h0).toNat : Nat) : Int) = x at *
        by_cases h2 : 1 < s.size
        · have f3 : (1 : Int) < (s.size : Int) := by omega
          cases b with
          | true =>
            go_enter Tryz.func21, Tryz.ntmps21
            go_wp2
            go_ret2
            exact ⟨by rw [HG.out]; rfl, rfl⟩
          | false =>
            go_enter Tryz.func21, Tryz.ntmps21
            go_wp2_with (first
              | (go_at_call 18; refine hW.mono ?_; rintro e w1 ⟨rfl, hw1⟩; subst w1; clear hW)
              | fail)
            go_ret2
            exact ⟨by rw [HG.out]; rfl, rfl⟩
        · have f3 : ¬ (1 : Int) < (s.size : Int) := by omega
          cases b with
          | true =>
            go_enter Tryz.func21, Tryz.ntmps21
            go_wp2_with (first
              | (go_at_call 18; refine hW.mono ?_; rintro e w1 ⟨rfl, hw1⟩; subst w1; clear hW)
              | fail)
            go_ret2
            exact ⟨by rw [HG.out]; rfl, rfl⟩
          | false =>
            go_enter Tryz.func21, Tryz.ntmps21
            go_wp2_with (first
              | (go_at_call 18; refine hW.mono ?_; rintro e w1 ⟨rfl, hw1⟩; subst w1; clear hW)
              | fail)
            go_ret2
            exact ⟨by rw [HG.out]; rfl, rfl⟩
      | true =>
        rw [ha] at hW
        have hd : ∀ c ∈ s.data.toList, isDig c = true := List.all_eq_true.1 ha
        by_cases h2 : 1 < s.size ∧ (s[0]'h0) = 48
        · have HG : Hid (lenP s.data.toList = none) := by
            show _ = _
            unfold lenP
            rw [if_neg (by omega), if_neg (by rw [hall, ha]; decide), if_pos ⟨by omega, by rw [hhd, h2.2]⟩]
          have f3 : (1 : Int) < (s.size : Int) := by omega
          rw [show ((s[0]'h0) == 48) = true by rw [beq_iff_eq]; exact h2.2] at hu'
          clear hz h1 h9 hne hhd hall ha hd h2 hW
          generalize (((s[0]'h0).toNat : Nat) : Int) = x at *
          go_enter Tryz.func21, Tryz.ntmps21
          go_wp2
          go_ret2
          exact ⟨by rw [HG.out]; rfl, rfl⟩
        · have HG : Hid (lenP s.data.toList = some (digV 0 s.data.toList)) := by
            show _ = _
            unfold lenP
            rw [if_neg (by omega), if_neg (by rw [hall, ha]; decide), if_neg (fun h => h2 ⟨by omega, by rw [hhd] at h; exact Option.some.inj h.2⟩)]
          have hx : ∃ b : Bool, (((s[0]'h0).toNat : Int) == 48) = b ∧ (b = true → ¬ (1 : Int) < (s.size : Int)) := ⟨_, hu', fun h h3 => h2 ⟨by omega, by rw [beq_iff_eq] at h; exact h⟩⟩
          clear hu'
          obtain ⟨b, hu', hb⟩ := hx
          have HD := hid hd
          have HZ := hid hz
          have HI : Hid (∀ k (h : k < s.size), ∀ W, (Instr.index 9 (.string s) (.int .i64 (k : Int))).run Tryz.prog W = .ok (.int .u8 (((s[k]'h).toNat : Nat) : Int)) W) := fun k h W => ix_str s h W
          clear hz h1 hne hhd hall ha hd h2
          generalize (((s[0]'h0).toNat : Nat) : Int) = x at *
          have hf3 : b = false ∨ (b = true ∧ ¬ (1 : Int) < (s.size : Int)) := by
            cases b with
            | false => exact .inl rfl
            | true => exact .inr ⟨rfl, hb rfl⟩
          clear hb
          rcases hf3 with hbb | ⟨hbb, f3⟩
          all_goals (
            subst hbb
            go_enter Tryz.func21, Tryz.ntmps21
            go_wp2_with (first
              | (go_at_call 18; refine hW.mono ?_; rintro e w1 ⟨rfl, hw1⟩; subst w1; clear hW)
              | fail)
            clear hix hu'
            go_loopw [4, 5] (fun n i wr => ∃ k : Nat, k ≤ s.size ∧ i = .int .i64 (k : Int) ∧ n = .int .i64 ((digV 0 (s.data.toList.take k) : Nat) : Int) ∧ wr = w) (fun _ i _ => s.size - (intOf i).toNat)
            case atStart => exact ⟨0, Nat.zero_le _, rfl, rfl, rfl⟩
            case round =>
              obtain ⟨k, hk, rfl, rfl, hwr⟩ := hrel
              subst wr
              by_cases hlt : k < s.size
              · have e0 : (k : Int) < (s.size : Int) := by omega
                have hix := HI.out k hlt
                have hkl : k < s.data.toList.length := by rw [HZ.out]; exact hlt
                have hN := dig_take s.data.toList hkl
                have hgk : s.data.toList[k]'hkl = s[k]'hlt := by rw [Array.getElem_toList]; rfl
                rw [hgk] at hN
                have hdk := HD.out (s[k]'hlt) (by rw [← hgk]; exact List.getElem_mem hkl)
                have hb9 := digV_lt (s.data.toList.take k) (fun c hc => HD.out c (List.mem_of_mem_take hc)) 0 0 (by decide)
                rw [Nat.zero_add] at hb9
                have hp9 : 10 ^ (s.data.toList.take k).length ≤ 10 ^ 9 := Nat.pow_le_pow_right (by decide) (by rw [List.length_take]; omega)
                have hd9 : digV 0 (s.data.toList.take k) ≤ 999999999 := by omega
                unfold isDig at hdk
                simp only [Bool.and_eq_true, decide_eq_true_eq] at hdk
                obtain ⟨hd1, hd2⟩ := hdk
                have HN : Hid (digV 0 (s.data.toList.take (k + 1)) = 10 * digV 0 (s.data.toList.take k) + ((s[k]'hlt).toNat - 48)) := hN
                clear hN hb9 hp9 hgk hkl
                generalize digV 0 (s.data.toList.take k) = d at *
                generalize (s[k]'hlt).toNat = x at *
                have e1 : (x : Int) - 48 = ((x - 48 : Nat) : Int) := by omega
                have e2 : x - 48 ≤ 9 := by omega
                go_wp2
                go_roundw
                case rel => exact ⟨k + 1, by omega, by go_num, by rw [HN.out]; go_num, by trivial⟩
                case measure => simp [intOf]; omega
              · obtain rfl : k = s.size := by omega
                have HN : Hid (digV 0 (s.data.toList.take s.size) = digV 0 s.data.toList) := by
                  show _ = _
                  rw [List.take_of_length_le (by rw [HZ.out]; exact Nat.le_refl _)]
                go_wp2
                go_ret2
                exact ⟨by rw [HG.out, HN.out]; rfl, rfl⟩)

end Go.Proofs.YtfiaaaflpjpnjaaGreatDoor

/-
  FrontWhole: the request that the law writes is read whole, as data.
-/
namespace Go.Proofs.YtfiaaaflpjpnjaaGreatDoor
open Go.RowKit

def pathL : List UInt8 := [47, 112, 47, 97, 63, 98, 61, 99]
def versL : List UInt8 := [72, 84, 84, 80, 47, 49, 46, 49]
def methL (b : Bool) : List UInt8 := if b then [80, 79, 83, 84] else [71, 69, 84]
def firstL (b : Bool) : List UInt8 := methL b ++ 32 :: (pathL ++ 32 :: versL)

/-- A row of the law's headers. -/
def HdrsOk (hs : List (List UInt8)) : Prop := hs.length ≤ 5 ∧ ∀ l ∈ hs, lineR l = some none ∧ okLine l ∧ l.length ≤ 65

theorem HdrsOk.nil : HdrsOk [] := ⟨by simp, fun l h => by cases h⟩

theorem HdrsOk.snoc {hs : List (List UInt8)} (H : HdrsOk hs) (h5 : hs.length < 5) {i : Nat} (hi : i < 5) (s : ByteArray) : HdrsOk (hs ++ [hdrL i (plainL s)]) := by
  obtain ⟨hv, hl⟩ := plain_ok s
  refine ⟨by rw [List.length_append, List.length_singleton]; omega, fun l h => ?_⟩
  rcases List.mem_append.1 h with h | h
  · exact H.2 l h
  · simp only [List.mem_singleton] at h
    subst h
    refine ⟨hdr_line i hi _ hv, ⟨by simp [hdrL], fun c hc => ?_⟩, ?_⟩
    · unfold hdrL at hc
      simp only [List.mem_cons] at hc
      have : i = 0 ∨ i = 1 ∨ i = 2 ∨ i = 3 ∨ i = 4 := by omega
      rcases hc with h | h | h | h | h | h
      · subst h; decide
      · subst h; decide
      · subst h; rcases this with rfl | rfl | rfl | rfl | rfl <;> decide
      · subst h; decide
      · subst h; decide
      · exact (valB_ne (hv c h)).1
    · show (plainL s).length + 5 ≤ 65
      omega

theorem join_len : ∀ (l : List UInt8) (r : List (List UInt8)), (∀ x ∈ l :: r, x.length ≤ 65) → (joinL (l :: r)).length ≤ 67 * (r.length + 1)
  | l, [], h => by
    have := h l List.mem_cons_self
    show l.length ≤ _
    simp only [List.length_nil]
    omega
  | l, l2 :: r, h => by
    have h1 := join_len l2 r (fun x hx => h x (List.mem_cons_of_mem _ hx))
    have h2 := h l List.mem_cons_self
    show (l ++ 13 :: 10 :: joinL (l2 :: r)).length ≤ _
    rw [List.length_append, List.length_cons, List.length_cons, List.length_cons]
    omega

theorem flat_len : ∀ (ls : List (List UInt8)), (∀ x ∈ ls, x.length ≤ 65) → (flatL ls).length ≤ 67 * ls.length
  | [], _ => by decide
  | l :: r, h => by
    have h1 := flat_len r (fun x hx => h x (List.mem_cons_of_mem _ hx))
    have h2 := h l List.mem_cons_self
    show (l ++ [13, 10] ++ flatL r).length ≤ _
    simp only [List.length_append, List.length_cons, List.length_nil]
    omega

theorem first_len (b : Bool) {qs : List (List UInt8)} (H : HdrsOk qs) : (flatL (firstL b :: qs)).length ≤ 402 := by
  have h := flat_len (firstL b :: qs) (fun x hx => by
    rcases List.mem_cons.1 hx with h | h
    · subst h; cases b <;> decide
    · exact (H.2 x h).2.2)
  have h5 := H.1
  rw [List.length_cons] at h
  omega

theorem clen_ok (n : Nat) (hn : n < 1000000) : okLine (clenT n) ∧ (clenT n).length ≤ 65 := by
  obtain ⟨hd, _⟩ := dec_all n
  have hl := digs_le 5 n (by omega)
  refine ⟨⟨by simp [clenT], fun c hc => ?_⟩, by unfold clenT; rw [List.length_append]; simp only [List.length_cons, List.length_nil]; omega⟩
  unfold clenT at hc
  rcases List.mem_append.1 hc with h | h
  · have hh : ∀ x ∈ ([67, 79, 78, 84, 69, 78, 84, 45, 108, 101, 110, 103, 116, 104, 58, 32] : List UInt8), x ≠ 13 := by decide
    exact hh c h
  · have := dig_range (hd c h)
    intro e
    rw [e] at this
    exact absurd this.1 (by decide)

/-- The law's request, read. -/
theorem who_rd (b : Bool) (hs : List (List UInt8)) (H : HdrsOk hs) (s : ByteArray) (hs2 : s.size ≤ 1000) (hv : vf s 0 = true) :
    rdP (mkB (flatL (firstL b :: hs) ++ clenT s.size ++ [13, 10, 13, 10] ++ s.data.toList)) = (mkB (methL b), mkB pathL, s, 200) ∧ (flatL (firstL b :: hs) ++ clenT s.size ++ [13, 10, 13, 10] ++ s.data.toList).length ≤ 3000 := by
  have hz : s.data.toList.length = s.size := Array.length_toList
  obtain ⟨ck, cl⟩ := clen_ok s.size (by omega)
  have hf : okLine (firstL b) ∧ (firstL b).length ≤ 65 := by
    unfold okLine
    cases b <;> decide
  have hall : ∀ x ∈ firstL b :: (hs ++ [clenT s.size]), okLine x ∧ x.length ≤ 65 := fun x hx => by
    rcases List.mem_cons.1 hx with h | h
    · subst h; exact hf
    · rcases List.mem_append.1 h with h | h
      · exact (H.2 x h).2
      · simp only [List.mem_singleton] at h
        subst h
        exact ⟨ck, cl⟩
  have hlen := join_len (firstL b) (hs ++ [clenT s.size]) (fun x hx => (hall x hx).2)
  rw [List.length_append, List.length_singleton] at hlen
  have h5 := H.1
  have e : flatL (firstL b :: hs) ++ clenT s.size = joinL (firstL b :: (hs ++ [clenT s.size])) := flat_join (clenT s.size) (firstL b :: hs)
  rw [e, List.append_assoc]
  show rdP (mkB (joinL (firstL b :: (hs ++ [clenT s.size])) ++ 13 :: 10 :: 13 :: 10 :: s.data.toList)) = _ ∧ (joinL (firstL b :: (hs ++ [clenT s.size])) ++ 13 :: 10 :: 13 :: 10 :: s.data.toList).length ≤ 3000
  obtain ⟨c1, c2, c3⟩ := cut_join (b := s.data.toList) (fun x hx => (hall x hx).1) (by omega)
  have hh : hdP (mkB (joinL (firstL b :: (hs ++ [clenT s.size])))) = some (mkB (methL b), mkB pathL, s.size) := by
    have h1 := hdP_join (m := methL b) (p := pathL) (v := versL) (r := hs ++ [clenT s.size]) (by cases b <;> decide) (by decide) (by decide) hf.1 (fun x hx => (hall x (List.mem_cons_of_mem _ hx)).1) (by cases b <;> decide)
    rw [hdF_law s.size (by omega) hs (fun l hl => (H.2 l hl).1)] at h1
    exact h1
  refine ⟨?_, ?_⟩
  · unfold rdP
    rw [c1, if_neg (by omega), Int.toNat_natCast, c2, hh]
    dsimp only
    rw [c3, if_neg, if_neg (by omega), mkB_of, if_neg]
    · rw [hv]
      simp
    · cases b <;> decide
  · rw [List.length_append]
    simp only [List.length_cons]
    omega

end Go.Proofs.YtfiaaaflpjpnjaaGreatDoor

/-
  FrontLimits: the requests at the bounds, read, as data.
-/
namespace Go.Proofs.YtfiaaaflpjpnjaaGreatDoor
open Go.RowKit

theorem idx_run_none {d : UInt8} {sub t : List UInt8} : ∀ (l : List UInt8), (∀ c ∈ l, c ≠ d) → Lib.index t (d :: sub) = -1 → Lib.index (l ++ t) (d :: sub) = -1
  | [], _, h0 => h0
  | c :: l, h, h0 => by
    have h1 := idx_run_none l (fun x hx => h x (List.mem_cons_of_mem _ hx)) h0
    have hc := h c List.mem_cons_self
    rw [List.cons_append]
    conv => lhs; unfold Lib.index
    rw [if_neg (by simp [List.isPrefixOf, Ne.symm hc]), if_pos (by rw [h1]; rfl)]

theorem vf_asc (l : List UInt8) (h : ∀ c ∈ l, c.toNat < 128) : vf (mkB l) 0 = true := by
  have hz : (mkB l).size = l.length := mkB_size l
  rw [vf_run (s := mkB l) l.length 0 (fun j hj => ⟨by omega, h _ (by
    show (mkB l)[0 + j] ∈ l
    have : ∀ (k : Nat) (hk : k < (mkB l).size), (mkB l)[k]'hk ∈ l := fun k hk => by
      have h2 : k < l.length := by omega
      have h3 : (mkB l)[k]'hk = l[k]'h2 := by
        show l.toArray[k] = l[k]
        simp
      rw [h3]
      exact List.getElem_mem h2
    exact this _ _)⟩), vf_end (by omega)]

def xs (n : Nat) : List UInt8 := List.replicate n 120

theorem xs_mem {n : Nat} {c : UInt8} (h : c ∈ xs n) : c = 120 := (List.mem_replicate.1 h).2

/-- Content-Length, in the law's letters. -/
def clT (n : Nat) : List UInt8 := [67, 111, 110, 116, 101, 110, 116, 45, 76, 101, 110, 103, 116, 104, 58, 32] ++ Lib.decDigits n

theorem clT_line (n : Nat) : lineR (clT n) = some (some (32 :: Lib.decDigits n)) := by
  have h0 : Lib.index (58 :: 32 :: Lib.decDigits n) [58] = 0 := idx_zero (by simp [List.isPrefixOf]) (by simp)
  have h1 : Lib.index (clT n) [58] = 14 := by
    show Lib.index ([67, 111, 110, 116, 101, 110, 116, 45, 76, 101, 110, 103, 116, 104] ++ 58 :: 32 :: Lib.decDigits n) [58] = 14
    rw [idx_run _ (by decide) (by rw [h0]; omega), h0]
    rfl
  have hc : Lib.cut (clT n) [58] = ([67, 111, 110, 116, 101, 110, 116, 45, 76, 101, 110, 103, 116, 104], 32 :: Lib.decDigits n, true) := by
    unfold Lib.cut
    rw [h1, if_pos (by decide)]
    rfl
  obtain ⟨hd, _⟩ := dec_all n
  have hv : allP valB (32 :: Lib.decDigits n) = true := by
    unfold allP
    rw [Bool.and_eq_true, List.all_eq_true]
    refine ⟨fun c hc => ?_, rfl⟩
    rcases List.mem_cons.1 hc with h | h
    · subst h; decide
    · have := dig_range (hd c h)
      unfold valB
      simp only [Bool.and_eq_true, decide_eq_true_eq]
      omega
  unfold lineR
  rw [hc]
  dsimp only
  rw [if_neg (by decide), if_neg (by decide), if_neg (by rw [hv]; rintro ⟨_, h⟩; cases h), if_neg (by decide)]

theorem clT_ok (n : Nat) (hn : n < 1000000) : okLine (clT n) ∧ (clT n).length ≤ 65 := by
  obtain ⟨hd, _⟩ := dec_all n
  have hl := digs_le 5 n (by omega)
  refine ⟨⟨by simp [clT], fun c hc => ?_⟩, by unfold clT; rw [List.length_append]; simp only [List.length_cons, List.length_nil]; omega⟩
  unfold clT at hc
  rcases List.mem_append.1 hc with h | h
  · have hh : ∀ x ∈ ([67, 111, 110, 116, 101, 110, 116, 45, 76, 101, 110, 103, 116, 104, 58, 32] : List UInt8), x ≠ 13 := by decide
    exact hh c h
  · have := dig_range (hd c h)
    intro e
    rw [e] at this
    exact absurd this.1 (by decide)

def postL : List UInt8 := [80, 79, 83, 84] ++ 32 :: ([47] ++ 32 :: versL)

/-- A body at the bound. -/
theorem lim_body (n : Nat) (hn : n < 1000000) : rdP (mkB (joinL [postL, clT n] ++ 13 :: 10 :: 13 :: 10 :: xs n)) = if n ≤ 4096 then (mkB [80, 79, 83, 84], mkB [47], mkB (xs n), 200) else (⟨#[]⟩, ⟨#[]⟩, ⟨#[]⟩, 413) := by
  obtain ⟨ck, cl⟩ := clT_ok n hn
  have hf : okLine postL ∧ postL.length ≤ 65 := by unfold okLine; decide
  have hall : ∀ x ∈ [postL, clT n], okLine x ∧ x.length ≤ 65 := fun x hx => by
    simp only [List.mem_cons, List.not_mem_nil, or_false] at hx
    rcases hx with h | h
    · subst h; exact hf
    · subst h; exact ⟨ck, cl⟩
  have hlen := join_len postL [clT n] (fun x hx => (hall x hx).2)
  simp only [List.length_cons, List.length_nil] at hlen
  obtain ⟨c1, c2, c3⟩ := cut_join (b := xs n) (fun x hx => (hall x hx).1) (by omega)
  have hx : lenP (Lib.trimB (32 :: Lib.decDigits n) 32) = some n := by
    obtain ⟨hd, _⟩ := dec_all n
    rw [trim_one (fun c hc => by have := dig_range (hd c hc); intro e; rw [e] at this; exact absurd this.1 (by decide)), lenP_dec n hn]
  have h2 : hdF ([clT n].map mkB) false 0 = some n := by
    show hdF [mkB (clT n)] false 0 = some n
    rw [hdF_len1 (v := 32 :: Lib.decDigits n) (by rw [mkB_list]; exact clT_line n) hx]
    rfl
  have hh : hdP (mkB (joinL [postL, clT n])) = some (mkB [80, 79, 83, 84], mkB [47], n) := by
    have h1 := hdP_join (m := [80, 79, 83, 84]) (p := [47]) (v := versL) (r := [clT n]) (by decide) (by decide) (by decide) hf.1 (fun x hx => (hall x (List.mem_cons_of_mem _ hx)).1) (by decide)
    rw [h2] at h1
    exact h1
  have hsz : (mkB (xs n)).size = n := by rw [mkB_size]; exact List.length_replicate
  unfold rdP
  rw [c1, if_neg (by omega), Int.toNat_natCast, c2, hh]
  dsimp only
  rw [c3, if_neg (by decide)]
  by_cases h : n ≤ 4096
  · rw [if_neg (by omega), if_pos h, if_neg]
    rw [vf_asc (xs n) (fun c hc => by rw [xs_mem hc]; decide), hsz]
    simp
  · rw [if_pos (by omega), if_neg h]

def getL (r : Nat) : List UInt8 := [71, 69, 84] ++ 32 :: ((47 :: xs r) ++ 32 :: versL)

theorem getL_ne (r : Nat) : ∀ c ∈ getL r, c ≠ 13 := by
  intro c hc
  unfold getL at hc
  rcases List.mem_append.1 hc with h | h
  · have hh : ∀ x ∈ ([71, 69, 84] : List UInt8), x ≠ 13 := by decide
    exact hh c h
  · rcases List.mem_cons.1 h with h | h
    · subst h; decide
    · rcases List.mem_append.1 h with h | h
      · rcases List.mem_cons.1 h with h | h
        · subst h; decide
        · rw [xs_mem h]; decide
      · have hh : ∀ x ∈ 32 :: versL, x ≠ 13 := by decide
        exact hh c h

theorem getL_len (r : Nat) : (getL r).length = r + 14 := by
  unfold getL xs
  simp only [List.length_append, List.length_cons, List.length_nil, List.length_replicate, show versL.length = 8 from rfl]
  omega

/-- A head at the bound. -/
theorem lim_head (r : Nat) (hr : r + 18 ≤ 4098) : rdP (mkB (getL r ++ [13, 10, 13, 10])) = if r + 18 ≤ 4096 then (mkB [71, 69, 84], mkB (47 :: xs r), ⟨#[]⟩, 200) else (⟨#[]⟩, ⟨#[]⟩, ⟨#[]⟩, 431) := by
  have hl := getL_len r
  have hok : okLine (getL r) := ⟨by intro h; rw [h] at hl; simp at hl, getL_ne r⟩
  by_cases h : r + 18 ≤ 4096
  · rw [if_pos h]
    obtain ⟨c1, c2, c3⟩ := cut_join (l := getL r) (r := []) (b := []) (fun x hx => by simp only [List.mem_cons, List.not_mem_nil, or_false] at hx; subst hx; exact hok) (by show (getL r).length + 4 ≤ 4096; omega)
    have hp : pathP (47 :: xs r) = true := by
      unfold pathP
      rw [Bool.and_eq_true, Bool.or_eq_true, List.all_eq_true]
      exact ⟨rfl, .inr fun c hc => by rw [xs_mem hc]; decide⟩
    have hg : goodW [mkB [71, 69, 84], mkB (47 :: xs r), mkB versL] = true := by
      show (allP capB [71, 69, 84] && pathP (47 :: xs r) && (versL == [72, 84, 84, 80, 47, 49, 46, 49])) = true
      rw [hp]
      decide
    have hp32 : ∀ c ∈ 47 :: xs r, c ≠ 32 := fun c hc => by
      rcases List.mem_cons.1 hc with h | h
      · subst h; decide
      · rw [xs_mem h]; decide
    have hh : hdP (mkB (joinL [getL r])) = some (mkB [71, 69, 84], mkB (47 :: xs r), 0) := by
      have h1 := hdP_join (m := [71, 69, 84]) (p := 47 :: xs r) (v := versL) (r := []) (by decide) hp32 (by decide) hok (fun x hx => by cases hx) hg
      exact h1
    have e : getL r ++ [13, 10, 13, 10] = joinL [getL r] ++ 13 :: 10 :: 13 :: 10 :: [] := rfl
    rw [e]
    unfold rdP
    rw [c1, if_neg (by omega), Int.toNat_natCast, c2, hh]
    dsimp only
    rw [c3, if_neg (by rw [mkB_list]; decide), if_neg (by decide), if_neg (by decide)]
    rfl
  · rw [if_neg h]
    have hc : cutAt (mkB (getL r ++ [13, 10, 13, 10])) = -1 := by
      unfold cutAt
      rw [mkB_list, List.take_append, List.take_of_length_le (by omega), hl]
      have : r = 4080 ∨ r = 4079 := by omega
      rcases this with h | h
      · subst h
        exact idx_run_none _ (getL_ne 4080) (by decide)
      · subst h
        exact idx_run_none _ (getL_ne 4079) (by decide)
    unfold rdP
    rw [hc, if_pos (by decide), if_pos]
    rw [mkB_size, List.length_append, hl]
    simp only [List.length_cons, List.length_nil]
    omega

end Go.Proofs.YtfiaaaflpjpnjaaGreatDoor

/-
  A row of bytes that is made of a text ([]byte(s): it is marked behind its end), and append of one byte onto it.
-/
namespace Go.Proofs.YtfiaaaflpjpnjaaGreatDoor
open Go.RowKit

/-- A row in a block of one's own, none of whose cells is frozen. -/
def RowT (w : World) (base : Nat) (e : TypeId) (v : Value) (n : Nat) (xs : List Value) : Prop :=
  xs.length = n ∧ ∃ g cap cur fz, v = .slice (some ⟨g, 0, none⟩) n cap ∧ base ≤ g ∧ w.heap[g]? = some (.cells cur e fz) ∧ (cap ≤ fz.1 ∨ fz.2 = 0) ∧ n ≤ cap ∧ cap ≤ maxLen ∧ cur.size = cap ∧ cur.toList.take n = xs

theorem RowT.lt {w : World} {base : Nat} {e : TypeId} {v : Value} {n : Nat} {xs : List Value} (R : RowT w base e v n xs) : ∀ k, v.ownBlock = some k → base ≤ k ∧ k < w.heap.size := by
  obtain ⟨_, g, cap, cur, fz, rfl, hb, hg, _⟩ := R
  intro k hk
  have hk' : g = k := by simpa [Value.ownBlock] using hk
  subst hk'
  exact ⟨hb, (Array.getElem?_eq_some_iff.1 hg).1⟩

theorem RowT.shape {w : World} {base : Nat} {e : TypeId} {v : Value} {n : Nat} {xs : List Value} (R : RowT w base e v n xs) : ∃ a c, v = .slice a n c := by
  obtain ⟨_, g, cap, _, _, hv, _⟩ := R
  exact ⟨_, _, hv⟩

theorem RowT.keep {w w' : World} {base : Nat} {e : TypeId} {v : Value} {n : Nat} {xs : List Value} (R : RowT w base e v n xs) (K : Kept (fun _ => False) w w') : RowT w' base e v n xs := by
  obtain ⟨hl, g, cap, cur, fz, hv, hb, hg, h⟩ := R
  exact ⟨hl, g, cap, cur, fz, hv, hb, by rw [K.block g (Array.getElem?_eq_some_iff.1 hg).1 (fun h => h)]; exact hg, h⟩

theorem RowT.of {w : World} {base : Nat} {e : TypeId} {v : Value} {n : Nat} {xs : List Value} (h : w.ownsRow base e 1 v n xs) (hn : 0 < n) : RowT w base e v n xs := by
  obtain ⟨hl, h | ⟨g, cap, cur, hv, hb, hg, hnc, hcm, hcs, ht⟩⟩ := h
  · omega
  · rw [Nat.mul_one] at hl hcs ht
    exact ⟨hl, g, cap, cur, (0, 0), hv, hb, hg, .inr rfl, hnc, hcm, hcs, ht⟩

theorem RowT.cells {w : World} {base : Nat} {e : TypeId} {v : Value} {n : Nat} {xs : List Value} (R : RowT w base e v n xs) : ∃ g cap, v = .slice (some ⟨g, 0, none⟩) n cap ∧ n ≤ cap ∧ ∀ j u, xs[j]? = some u → w.cell? ⟨g, j, none⟩ = some u := by
  obtain ⟨hl, g, cap, cur, fz, hv, hb, hg, _, hnc, _, hcs, ht⟩ := R
  refine ⟨g, cap, hv, hnc, fun j u hu => ?_⟩
  rw [← ht] at hu
  have hj : j < n := by
    have := (List.getElem?_eq_some_iff.1 hu).1
    rw [List.length_take] at this
    omega
  rw [List.getElem?_take_of_lt hj] at hu
  simp only [World.cell?, hg]
  rw [← Array.getElem?_toList]
  exact hu

/-- One byte is appended. -/
theorem run_append_one {P : Program} (w : World) (base : Nat) (t ty e : TypeId) (i : TypeInfo) (ht : P.underlying t = some (.slice e)) (hi : P.info? e = some i) (hz : i.zero = some (.int .u8 0)) (hsize : i.size = 1) (hby : i.bytes = 1)
    (v : Value) (n : Nat) (xs : List Value) (R : RowT w base e v n xs) (a : Addr) (c : Nat) (u : Value) (hu : w.cell? a = some u) (h1 : u.oneCell' = true) (hn : n ≤ 1000000000000) (hbase : base ≤ w.heap.size) :
    ∃ v' w', (Builtin.append_ #[t, t] ty #[v, .slice (some a) 1 c]).run P w = .ok v' w' ∧ RowT w' base e v' (n + 1) (xs ++ [u]) ∧ w.grownBy w' v.ownBlock := by
  obtain ⟨hl, g, cap, cur, fz, rfl, hb, hg, hfz, hnc, hcm, hcs, hta⟩ := R
  have hnews : ∀ j x, [u][j]? = some x → w.cell? (a.add j) = some x := fun j x hx => by
    cases j with
    | zero => simp only [List.getElem?_cons_zero, Option.some.injEq] at hx; subst hx; exact hu
    | succ j => simp at hx
  have hl1 : ([u] : List Value).length = 1 * i.size := by rw [hsize]; rfl
  have hlen : (xs ++ [u]).length = n + 1 := by rw [List.length_append, hl]; rfl
  by_cases hroom : n + 1 ≤ cap
  · have hlt : n < cur.size := by omega
    have hf := run_firstCells_some (P := P) w i.size 1 a 1 c [u] hl1 hnews
    have hcell : w.cell? ⟨g, n, none⟩ = some cur[n] := by simp [World.cell?, hg, hlt]
    have hfro : w.frozen? ⟨g, n, none⟩ = false := by
      obtain ⟨lo, hi'⟩ := fz
      simp only [World.frozen?, hg, Bool.and_eq_false_iff, decide_eq_false_iff_not]
      simp only at hfz
      omega
    have hst : (store ⟨g, n, none⟩ u).run P w = .ok () (w.setRow g (cur.setIfInBounds n u)) := by
      rw [run_store P w _ u _ h1, hcell]
      simp [hfro, setCell_eq_setRow w g n cur e fz u hg]
    have hr : (Builtin.append_ #[t, t] ty #[.slice (some ⟨g, 0, none⟩) n cap, .slice (some a) 1 c]).run P w = .ok (.slice (some ⟨g, 0, none⟩) (n + 1) cap) (w.setRow g (cur.setIfInBounds n u)) := by
      rw [hsize] at hf
      simp [Builtin.append_, run_underlying ht, sizeOf, typeInfo, hi, hsize, Builtin.lenOf, hroom, hf, Addr.add_lit, storeCells, hst]
    refine ⟨_, _, hr, ⟨hlen, g, cap, _, fz, rfl, hb, setRow_heap w g cur _ e _ hg, hfz, hroom, hcm, by simp [hcs], ?_⟩, ⟨rfl, rfl, rfl, by simp, fun k _ hk => setRow_other w g k _ (fun e => hk (by simp [Value.ownBlock, e]))⟩⟩
    rw [Array.toList_setIfInBounds, List.take_add_one, List.take_set_of_le (Nat.le_refl _), hta]
    simp [hlt]
  · have holds : ∀ j x, xs[j]? = some x → w.cell? ((⟨g, 0, none⟩ : Addr).add j) = some x := fun j x hx => by
      rw [Addr.add_lit, Nat.zero_add]
      rw [← hta] at hx
      have hj : j < n := by
        have := (List.getElem?_eq_some_iff.1 hx).1
        rw [List.length_take] at this
        omega
      rw [List.getElem?_take_of_lt hj] at hx
      simp only [World.cell?, hg]
      rw [← Array.getElem?_toList]
      exact hx
    have hr := run_append_grow (P := P) w t ty e i (.int .u8 0) ht hi hz ⟨g, 0, none⟩ n cap xs (by rw [hsize, hl, Nat.mul_one]) holds a 1 c [u] hl1 hnews (by omega) (by omega) (growslice_fits (by omega) (by rw [hby]; omega))
    have hge := grownCap_ge w (n + 1) cap e
    have hcm2 : grownCap w (n + 1) cap e ≤ maxLen := grownCap_le_maxLen w (n + 1) cap e (by unfold maxLen; omega)
    refine ⟨_, _, hr, ⟨hlen, w.heap.size, _, _, (0, 0), rfl, hbase, heap_alloc_new w.drew _, .inr rfl, hge, hcm2, ?_, ?_⟩, ⟨rfl, rfl, rfl, by simp, fun k hk _ => heap_alloc_old w.drew _ hk⟩⟩
    · have hz1 : (Value.int IntKind.u8 0).cells.size = 1 := rfl
      simp only [Array.size_append, List.size_toArray, size_zeroCells, hz1, hl, List.length_cons, List.length_nil]
      omega
    · simp only [Array.toList_append, List.append_assoc]
      rw [← List.append_assoc, ← hlen]
      exact List.take_left

/-- Its bytes, as Read wants them. -/
theorem RowT.at {W : World} {base : Nat} {v : Value} {n : Nat} {l : List UInt8} (R : RowT W base 5 v n (Lib.byteCells l)) : ∃ g cap, v = .slice (some ⟨g, 0, none⟩) (mkB l).size cap ∧ (mkB l).size ≤ cap ∧ base ≤ g ∧ BsAt W g 0 (mkB l) := by
  have hl := R.1
  obtain ⟨g, cap, rfl, hn, hc⟩ := R.cells
  have hb := (R.lt g rfl).1
  unfold Lib.byteCells at hl
  rw [List.length_map] at hl
  subst hl
  refine ⟨g, cap, by rw [mkB_size], by rw [mkB_size]; exact hn, hb, fun j hj => ?_⟩
  rw [Nat.zero_add]
  refine hc j _ ?_
  have hj2 : j < l.length := by rw [mkB_size] at hj; exact hj
  unfold Lib.byteCells
  rw [List.getElem?_map, List.getElem?_eq_getElem hj2, ← atB_is hj]
  have : (mkB l)[j]'hj = l[j]'hj2 := by
    show l.toArray[j] = l[j]
    simp
  rw [this]
  rfl

theorem cells_snoc (l : List UInt8) (c : UInt8) : Lib.byteCells l ++ [.int .u8 (c.toNat : Int)] = Lib.byteCells (l ++ [c]) := by
  unfold Lib.byteCells
  rw [List.map_append]
  rfl

theorem xs_snoc (n : Nat) : xs n ++ [120] = xs (n + 1) := by
  unfold xs
  rw [List.replicate_succ']

/-- append(v, x) of one byte, at the operation: onto a row that []byte(text) made. -/
theorem wpList_append_one {P : Program} (w : World) {ops : Array Oper} {rest : List Oper} {o : Oper} {a : Act} {Q : Exit → Act → World → Prop} (hgd : o.guard = none) (s x : Operand) (t : TypeId)
    (ho : o.op = .call { callee := .builtin .append, args := #[s, x], argTypes := #[t, t] })
    (base : Nat) (e : TypeId) (i : TypeInfo) (ht : P.underlying t = some (.slice e)) (hi : P.info? e = some i) (hz : i.zero = some (.int .u8 0)) (hsize : i.size = 1) (hby : i.bytes = 1)
    (v : Value) (n : Nat) (xs : List Value) (hs : a.eval s = v) (R : RowT w base e v n xs) (ad : Addr) (c : Nat) (hx : a.eval x = .slice (some ad) 1 c) (u : Value) (hu : w.cell? ad = some u) (h1 : u.oneCell' = true) (hn : n ≤ 1000000000000) (hbase : base ≤ w.heap.size)
    (h : ∀ v' w', RowT w' base e v' (n + 1) (xs ++ [u]) → w.grownBy w' v.ownBlock → wpList P ops Q rest (a.put o.dst v') w') :
    wpList P ops Q (o :: rest) a w := by
  refine wpList_plain hgd fun K hK => ?_
  obtain ⟨v', w', hrun, h2, h3⟩ := run_append_one (P := P) w base t o.type e i ht hi hz hsize hby v n xs R ad c u hu h1 hn hbase
  unfold Oper.wp
  simp [execOp, ho, resolve, invoke, builtin, hs, hx, hrun, Result.andThen]
  exact hK _ _ (h v' w' h2 h3)

/-- A row that is full, whatever of it is frozen, or one's own. -/
def RowU (w : World) (base : Nat) (e : TypeId) (v : Value) (n : Nat) (xs : List Value) : Prop :=
  w.ownsRow base e 1 v n xs ∨ (xs.length = n ∧ ∃ g cur fz, v = .slice (some ⟨g, 0, none⟩) n n ∧ base ≤ g ∧ w.heap[g]? = some (.cells cur e fz) ∧ cur.toList = xs)

theorem RowU.lt {w : World} {base : Nat} {e : TypeId} {v : Value} {n : Nat} {xs : List Value} (R : RowU w base e v n xs) : ∀ k, v.ownBlock = some k → base ≤ k ∧ k < w.heap.size := by
  rcases R with h | ⟨_, g, cur, fz, rfl, hb, hg, _⟩
  · exact h.lt
  · intro k hk
    have hk' : g = k := by simpa [Value.ownBlock] using hk
    subst hk'
    exact ⟨hb, (Array.getElem?_eq_some_iff.1 hg).1⟩

theorem RowU.alloc {w : World} {base : Nat} {e : TypeId} {v : Value} {n : Nat} {xs : List Value} (R : RowU w base e v n xs) (b : Obj) : RowU (w.alloc b) base e v n xs := by
  rcases R with h | ⟨hl, g, cur, fz, hv, hb, hg, h⟩
  · exact .inl (h.alloc b)
  · exact .inr ⟨hl, g, cur, fz, hv, hb, by rw [heap_alloc_old w b (Array.getElem?_eq_some_iff.1 hg).1]; exact hg, h⟩

theorem run_append_full {P : Program} (w : World) (base : Nat) (t ty e : TypeId) (i : TypeInfo) (ht : P.underlying t = some (.slice e)) (hi : P.info? e = some i) (hz : i.zero = some (.int .u8 0)) (hsize : i.size = 1) (hby : i.bytes = 1)
    (v : Value) (n : Nat) (xs : List Value) (R : RowU w base e v n xs) (ad : Addr) (c : Nat) (u : Value) (hu : w.cell? ad = some u) (h1 : u.oneCell' = true) (hn : n ≤ 1000000000000) (hbase : base ≤ w.heap.size) :
    ∃ v' w', (Builtin.append_ #[t, t] ty #[v, .slice (some ad) 1 c]).run P w = .ok v' w' ∧ w'.ownsRow base e 1 v' (n + 1) (xs ++ [u]) ∧ w.grownBy w' v.ownBlock := by
  rcases R with h | ⟨hl, g, cur, fz, rfl, hb, hg, hc⟩
  · obtain ⟨v', w', hr, h2, h3, _⟩ := run_append_own_at w base t ty e i (.int .u8 0) 1 1 ht hi hz hsize hby rfl (by decide) v n xs h ad 1 c [u] rfl (fun j x hx => by
      cases j with
      | zero => simp only [List.getElem?_cons_zero, Option.some.injEq] at hx; subst hx; exact hu
      | succ j => simp at hx) (fun x hx => by simp only [List.mem_singleton] at hx; subst hx; exact h1) (by unfold maxLen; omega) (by omega) hbase
    exact ⟨v', w', hr, h2, h3⟩
  · have hcs : cur.size = n := by rw [← Array.length_toList, hc, hl]
    by_cases hm : n ≤ maxLen
    · have R2 : RowT w base e (.slice (some ⟨g, 0, none⟩) n n) n xs ∨ True := .inr trivial
      clear R2
      have hnews : ∀ j x, [u][j]? = some x → w.cell? (ad.add j) = some x := fun j x hx => by
        cases j with
        | zero => simp only [List.getElem?_cons_zero, Option.some.injEq] at hx; subst hx; exact hu
        | succ j => simp at hx
      have hl1 : ([u] : List Value).length = 1 * i.size := by rw [hsize]; rfl
      have hlen : (xs ++ [u]).length = n + 1 := by rw [List.length_append, hl]; rfl
      have holds : ∀ j x, xs[j]? = some x → w.cell? ((⟨g, 0, none⟩ : Addr).add j) = some x := fun j x hx => by
        rw [Addr.add_lit, Nat.zero_add]
        simp only [World.cell?, hg]
        rw [← Array.getElem?_toList, hc]
        exact hx
      have hr := run_append_grow (P := P) w t ty e i (.int .u8 0) ht hi hz ⟨g, 0, none⟩ n n xs (by rw [hsize, hl, Nat.mul_one]) holds ad 1 c [u] hl1 hnews (by omega) (by omega) (growslice_fits (by omega) (by rw [hby]; omega))
      have hge := grownCap_ge w (n + 1) n e
      have hcm2 : grownCap w (n + 1) n e ≤ maxLen := grownCap_le_maxLen w (n + 1) n e (by unfold maxLen; omega)
      refine ⟨_, _, hr, ⟨by rw [hlen, Nat.mul_one], .inr ⟨w.heap.size, _, _, rfl, hbase, heap_alloc_new w.drew _, hge, hcm2, ?_, ?_⟩⟩, ⟨rfl, rfl, rfl, by simp, fun k hk _ => heap_alloc_old w.drew _ hk⟩⟩
      · have hz1 : (Value.int IntKind.u8 0).cells.size = 1 := rfl
        simp only [Array.size_append, List.size_toArray, size_zeroCells, hz1, hl, List.length_cons, List.length_nil]
        omega
      · simp only [Array.toList_append, List.append_assoc]
        rw [← List.append_assoc, Nat.mul_one, ← hlen]
        exact List.take_left
    · unfold maxLen at hm
      omega

theorem wpList_append_full {P : Program} (w : World) {ops : Array Oper} {rest : List Oper} {o : Oper} {a : Act} {Q : Exit → Act → World → Prop} (hgd : o.guard = none) (s x : Operand) (t : TypeId)
    (ho : o.op = .call { callee := .builtin .append, args := #[s, x], argTypes := #[t, t] })
    (base : Nat) (e : TypeId) (i : TypeInfo) (ht : P.underlying t = some (.slice e)) (hi : P.info? e = some i) (hz : i.zero = some (.int .u8 0)) (hsize : i.size = 1) (hby : i.bytes = 1)
    (v : Value) (n : Nat) (xs : List Value) (hs : a.eval s = v) (R : RowU w base e v n xs) (ad : Addr) (c : Nat) (hx : a.eval x = .slice (some ad) 1 c) (u : Value) (hu : w.cell? ad = some u) (h1 : u.oneCell' = true) (hn : n ≤ 1000000000000) (hbase : base ≤ w.heap.size)
    (h : ∀ v' w', w'.ownsRow base e 1 v' (n + 1) (xs ++ [u]) → w.grownBy w' v.ownBlock → wpList P ops Q rest (a.put o.dst v') w') :
    wpList P ops Q (o :: rest) a w := by
  refine wpList_plain hgd fun K hK => ?_
  obtain ⟨v', w', hrun, h2, h3⟩ := run_append_full (P := P) w base t o.type e i ht hi hz hsize hby v n xs R ad c u hu h1 hn hbase
  unfold Oper.wp
  simp [execOp, ho, resolve, invoke, builtin, hs, hx, hrun, Result.andThen]
  exact hK _ _ (h v' w' h2 h3)

theorem RowT.text (W : World) (base : Nat) (l : List UInt8) (hb : base ≤ W.heap.size) (hl : l.length ≤ 1000000) : RowT (Lib.bytesWorld W 5 (mkB l)) base 5 (.slice (some ⟨W.heap.size, 0, none⟩) (mkB l).size (grownCap W l.length 0 5)) l.length (Lib.byteCells l) := by
  have hge := grownCap_ge W l.length 0 5
  have hcm : grownCap W l.length 0 5 ≤ maxLen := grownCap_le_maxLen W l.length 0 5 (by unfold maxLen; omega)
  have hs : (Lib.bytesCells W 5 (mkB l)).size = grownCap W l.length 0 5 := by
    unfold Lib.bytesCells
    rw [mkB_size]
    simp [mkB]
    omega
  have hc : (Lib.byteCells l).length = l.length := by unfold Lib.byteCells; rw [List.length_map]
  refine ⟨hc, W.heap.size, grownCap W l.length 0 5, _, _, by rw [mkB_size], hb, Lib.bytesWorld_at_new W _ (mkB l), .inl (by rw [hs]; exact Nat.le_refl _), hge, hcm, hs, ?_⟩
  refine List.ext_getElem? fun j => ?_
  by_cases hj : j < l.length
  · rw [List.getElem?_take_of_lt hj, Array.getElem?_toList]
    have h := Lib.bytesWorld_cell W 5 (mkB l) j (by rw [mkB_size]; exact hj)
    simp only [World.cell?, Lib.bytesWorld_at_new] at h
    have h2 : (Lib.bytesCells W 5 (mkB l))[j]? = some (.int .u8 ((mkB l).data.toList.getD j 0).toNat) := h
    rw [h2]
    unfold Lib.byteCells
    rw [List.getElem?_map, List.getElem?_eq_getElem hj]
    have : (mkB l).data.toList.getD j 0 = l[j] := by
      show l.toArray.toList.getD j 0 = l[j]
      simp [List.getD, hj]
    rw [this]
    rfl
  · rw [List.getElem?_eq_none (by rw [List.length_take]; omega), List.getElem?_eq_none (by omega)]

theorem RowT.get {w : World} {base : Nat} {e : TypeId} {a : Option Addr} {n c : Nat} {xs : List Value} (R : RowT w base e (.slice a n c) n xs) {k : Nat} (hk : k < n) {u : Value} (hu : xs[k]? = some u) : ∃ g, a = some ⟨g, 0, none⟩ ∧ base ≤ g ∧ w.cell? ⟨g, k, none⟩ = some u ∧ w.frozen? ⟨g, k, none⟩ = false ∧ ∀ v, RowT (w.setCell ⟨g, k, none⟩ v) base e (.slice a n c) n (xs.set k v) := by
  have hce := R.cells
  obtain ⟨hl, g, cap, cur, fz, hv, hb, hg, hf, hnc, hcm, hcs, ht⟩ := R
  simp only [Value.slice.injEq] at hv
  obtain ⟨rfl, _, rfl⟩ := hv
  obtain ⟨g', cap', hv', _, hcell⟩ := hce
  simp only [Value.slice.injEq, Option.some.injEq] at hv'
  obtain ⟨hgg, _, _⟩ := hv'
  cases hgg
  refine ⟨g, rfl, hb, hcell k u hu, ?_, fun v => ?_⟩
  · obtain ⟨lo, hi⟩ := fz
    simp only [World.frozen?, hg]
    simp only at hf
    rw [Bool.and_eq_false_iff, decide_eq_false_iff_not, decide_eq_false_iff_not]
    omega
  · refine ⟨by rw [List.length_set]; exact hl, g, c, cur.setIfInBounds k v, fz, rfl, hb, by simp [World.setCell, Array.getElem?_modify, hg], hf, hnc, hcm, by simpa using hcs, ?_⟩
    rw [Array.toList_setIfInBounds, List.take_set, ht]

end Go.Proofs.YtfiaaaflpjpnjaaGreatDoor

/-
  []byte of a text that is no constant: its row.
-/
namespace Go.Proofs.YtfiaaaflpjpnjaaGreatDoor
open Go.RowKit

theorem who_bytes (l : List UInt8) (W : World) : (convert 9 23 (.string (mkB l))).run Tryz.prog W = .ok (.slice (some ⟨W.heap.size, 0, none⟩) (mkB l).size (grownCap W l.length 0 5)) (Lib.bytesWorld W 5 (mkB l)) := by
  have h := Lib.run_convert_string_bytes (P := Tryz.prog) W 9 23 5 (mkB l) Tryz.underlying9 Tryz.underlying23 Tryz.underlying5
  rw [mkB_size] at h ⊢
  exact h

theorem who_at (s : ByteArray) (W : World) : BsAt (Lib.bytesWorld W 5 s) W.heap.size 0 s := fun j hj => by
  rw [Nat.zero_add, Lib.bytesWorld_cell W 5 s j hj, ← atB_is hj]
  have hz : s.data.toList.length = s.size := Array.length_toList
  rw [List.getD_eq_getElem?_getD, List.getElem?_eq_getElem (by omega), Array.getElem_toList]
  rfl

theorem low_bytes (l : List UInt8) (W : World) : (convert 9 23 (.string (mkB l))).run Tryz.prog W = .ok (.slice (some ⟨W.heap.size, 0, none⟩) l.length (grownCap W l.length 0 5)) (Lib.bytesWorld W 5 (mkB l)) := by
  have h := who_bytes l W
  rwa [mkB_size] at h

end Go.Proofs.YtfiaaaflpjpnjaaGreatDoor

/-
  The document's lower: a text in small letters.
-/
namespace Go.Proofs.YtfiaaaflpjpnjaaGreatDoor
open Go.RowKit

/-- A text, its first k letters small. -/
def lowK (l : List UInt8) (k : Nat) : List UInt8 := (l.map lowB).take k ++ l.drop k

theorem lowK_len (l : List UInt8) (k : Nat) (h : k ≤ l.length) : (lowK l k).length = l.length := by
  unfold lowK
  rw [List.length_append, List.length_take, List.length_drop, List.length_map]
  omega

theorem lowK_at (l : List UInt8) {k : Nat} (h : k < l.length) : (lowK l k)[k]? = some (l[k]'h) := by
  unfold lowK
  rw [List.getElem?_append_right (by rw [List.length_take]; omega), List.length_take, List.length_map, Nat.min_eq_left (by omega), Nat.sub_self, List.getElem?_drop, Nat.add_zero, List.getElem?_eq_getElem h]

theorem lowK_set (l : List UInt8) {k : Nat} (h : k < l.length) : (lowK l k).set k (lowB (l[k]'h)) = lowK l (k + 1) := by
  unfold lowK
  rw [List.set_append_right _ _ (by rw [List.length_take]; omega), List.length_take, List.length_map, Nat.min_eq_left (by omega), Nat.sub_self, List.drop_eq_getElem_cons h, List.set_cons_zero, List.take_add_one, List.getElem?_eq_getElem (by rw [List.length_map]; exact h), List.getElem_map, List.append_assoc]
  rfl

theorem lowK_same (l : List UInt8) {k : Nat} (h : k < l.length) (e : lowB (l[k]'h) = l[k]'h) : lowK l k = lowK l (k + 1) := by
  rw [← lowK_set l h, e]
  have h2 := lowK_at l h
  obtain ⟨h3, h4⟩ := List.getElem?_eq_some_iff.1 h2
  rw [← h4, List.set_getElem_self]

theorem cells_set (l : List UInt8) (k : Nat) (c : UInt8) : (Lib.byteCells l).set k (.int .u8 (c.toNat : Int)) = Lib.byteCells (l.set k c) := by
  unfold Lib.byteCells
  rw [List.map_set]

set_option maxRecDepth 100000 in
set_option maxHeartbeats 2000000 in
theorem refLower_any (w : World) (l : List UInt8) (hl : l.length ≤ 1000000) :
    Calls Tryz.prog 20 #[.string (mkB l)] w fun e w' => e = .returned (.string (mkB (l.map lowB))) ∧ Kept (fun _ => False) w w' := by
  have hcv := low_bytes l w
  have R0 := RowT.text w w.heap.size l (Nat.le_refl _) hl
  rw [mkB_size] at R0
  have K0 : Kept (fun _ => False) w (Lib.bytesWorld w 5 (mkB l)) := bytesKept _ _ _ _
  generalize grownCap w l.length 0 5 = cp at *
  generalize Lib.bytesWorld w 5 (mkB l) = W0 at *
  have HR := hid R0
  have HK := hid K0
  clear R0 K0
  go_enter Tryz.func20, Tryz.ntmps20
  go_wp2
  go_loopw [4] (fun i wr => ∃ k : Nat, k ≤ l.length ∧ i = .int .i64 (k : Int) ∧ RowT wr w.heap.size 5 (.slice (some ⟨w.heap.size, 0, none⟩) l.length cp) l.length (Lib.byteCells (lowK l k)) ∧ Kept (fun j => w.heap.size ≤ j) w wr) (fun i _ => l.length - (intOf i).toNat)
  case atStart => exact ⟨0, Nat.zero_le _, rfl, HR.out, HK.out.mono (fun _ h => h.elim)⟩
  case round =>
    obtain ⟨k, hk, rfl, R, K⟩ := hrel
    by_cases hlt : k < l.length
    · have e0 : (k : Int) < (l.length : Int) := by omega
      have hu : (Lib.byteCells (lowK l k))[k]? = some (.int .u8 ((l[k]'hlt).toNat : Int)) := by
        unfold Lib.byteCells
        rw [List.getElem?_map, lowK_at l hlt]
        rfl
      obtain ⟨g, hg, hb, x1, x2, hs⟩ := R.get hlt hu
      cases hg
      have KS := fun u => K.and (Kept.setCell (S := fun j => w.heap.size ≤ j) wr ⟨w.heap.size, k, none⟩ u (Nat.le_refl _))
      have HS := hid hs
      have HKS := hid KS
      have HR2 := hid R
      have HK2 := hid K
      have HA : Hid (lowB (l[k]'hlt) = l[k]'hlt → lowK l k = lowK l (k + 1)) := lowK_same l hlt
      have HB : Hid ((lowK l k).set k (lowB (l[k]'hlt)) = lowK l (k + 1)) := lowK_set l hlt
      have hx := (l[k]'hlt).toNat_lt
      clear hu hs KS R K
      generalize l[k]'hlt = c at *
      by_cases h1 : 65 ≤ c.toNat
      · have f1 : (65 : Int) ≤ (c.toNat : Int) := by omega
        by_cases h2 : c.toNat ≤ 90
        · have f2 : (c.toNat : Int) ≤ 90 := by omega
          have hl2 : lowB c = c + 32 := by unfold lowB; rw [if_pos ⟨h1, h2⟩]
          have hc2 : ((c + 32).toNat : Int) = (c.toNat : Int) + 32 := by
            have : (c + 32).toNat = c.toNat + 32 := by rw [UInt8.toNat_add]; show (c.toNat + 32) % 256 = _; omega
            omega
          have HX : Hid ((Lib.byteCells (lowK l k)).set k (.int .u8 ((c.toNat : Int) + 32)) = Lib.byteCells (lowK l (k + 1))) := by
            show _ = _
            rw [← hc2, cells_set, ← hl2, HB.out]
          clear HA HB hl2 hc2
          generalize (c.toNat : Int) = x at *
          clear h1 h2 hx
          go_wp2
          go_roundw
          case rel => exact ⟨k + 1, by omega, by go_num, by rw [← HX.out]; exact HS.out _, HKS.out _⟩
          case measure => simp [intOf]; omega
        · have f2 : ¬ (c.toNat : Int) ≤ 90 := by omega
          have HX : Hid (lowK l k = lowK l (k + 1)) := HA.out (by unfold lowB; rw [if_neg (fun h => h2 h.2)])
          clear HA HB
          generalize (c.toNat : Int) = x at *
          clear h1 h2 hx
          go_wp2
          go_roundw
          case rel => exact ⟨k + 1, by omega, by go_num, by rw [← HX.out]; exact HR2.out, HK2.out⟩
          case measure => simp [intOf]; omega
      · have f1 : ¬ (65 : Int) ≤ (c.toNat : Int) := by omega
        have HX : Hid (lowK l k = lowK l (k + 1)) := HA.out (by unfold lowB; rw [if_neg (fun h => h1 h.1)])
        clear HA HB
        generalize (c.toNat : Int) = x at *
        clear h1 hx
        go_wp2
        go_roundw
        case rel => exact ⟨k + 1, by omega, by go_num, by rw [← HX.out]; exact HR2.out, HK2.out⟩
        case measure => simp [intOf]; omega
    · obtain rfl : k = l.length := by omega
      have e0 : ¬ (l.length : Int) < (l.length : Int) := by omega
      have hL : lowK l l.length = l.map lowB := by
        unfold lowK
        rw [List.drop_of_length_le (Nat.le_refl _), List.append_nil, List.take_of_length_le (by rw [List.length_map]; exact Nat.le_refl _)]
      rw [hL] at R
      obtain ⟨g, cap, hv, hc, _, B⟩ := R.at
      simp only [Value.slice.injEq, Option.some.injEq] at hv
      obtain ⟨hg, hsz, hcp⟩ := hv
      cases hg
      subst hcp
      have hst := bs_str (ad := some ⟨w.heap.size, 0, none⟩) (fun _ => rfl) hc B
      rw [← hsz] at hst
      have HK2 := hid K
      clear R B hL hc hsz K
      generalize hr : mkB (l.map lowB) = r at *
      have HRr := hid hr
      clear hr
      go_wp2
      go_ret
      exact ⟨congrArg (fun z => Ending.returned (Value.string z)) HRr.out.symm, (Kept.refl _ _).trans HK2.out (fun _ h => .inr h)⟩

end Go.Proofs.YtfiaaaflpjpnjaaGreatDoor

/-
  The document's split: a text's pieces.
-/
namespace Go.Proofs.YtfiaaaflpjpnjaaGreatDoor
open Go.RowKit

def pieces (sep s : ByteArray) : List ByteArray := Lib.splitB sep 0 (Lib.countB s sep) s

theorem pieces_miss {sep s : ByteArray} (h : Lib.index s.data.toList sep.data.toList = -1) : pieces sep s = [s] := Lib.splitB_miss sep 0 _ s h

theorem pieces_hit {sep s : ByteArray} {i : Nat} (h1 : 1 ≤ sep.size) (h : Lib.index s.data.toList sep.data.toList = i) : pieces sep s = s.extract 0 i :: pieces sep (s.extract (i + sep.size) s.size) := by
  unfold pieces
  rw [Lib.countB_hit s sep i h1 h, Nat.add_comm, Lib.splitB_hit sep 0 _ s i h]
  rfl

theorem strs_of_row {w : World} {base : Nat} {a : Option Addr} {c n : Nat} {ps : List ByteArray} (hn : n = ps.length) (h : w.ownsRow base 9 1 (.slice a n c) n (ps.map Value.string)) (h0 : 0 < n) : ∃ b, a = some ⟨b, 0, none⟩ ∧ base ≤ b ∧ n ≤ c ∧ LsAt w b ps := by
  rcases h.2 with ⟨_, h2⟩ | ⟨g, cap, cur, e, hb, hg, h1, _⟩
  · omega
  · simp only [Value.slice.injEq] at e
    obtain ⟨rfl, _, rfl⟩ := e
    refine ⟨g, rfl, hb, h1, fun i hi => ?_⟩
    have := h.cells (g := g) rfl i (.string (ps[i]'hi)) (by rw [List.getElem?_map, List.getElem?_eq_getElem hi]; rfl)
    rw [Addr.add_lit, Nat.zero_add] at this
    exact this

set_option maxRecDepth 100000 in
set_option maxHeartbeats 2000000 in
theorem refSplit_any (w : World) (s sep : ByteArray) (h1 : 1 ≤ sep.size) (h2 : sep.size ≤ 1000) (hs : s.size ≤ 1000000) :
    Calls Tryz.prog 17 #[.string s, .string sep] w fun e w' => ∃ b c, w.heap.size ≤ b ∧ e = .returned (.slice (some ⟨b, 0, none⟩) (pieces sep s).length c) ∧ (pieces sep s).length ≤ c ∧ LsAt w' b (pieces sep s) ∧ Kept (fun _ => False) w w' := by
  obtain ⟨i0, hi0, hz0, hz1, hz2⟩ := info_parts Tryz.info9
  go_enter Tryz.func17, Tryz.ntmps17
  go_wp2
  go_loopw [0, 5] (fun v l wr => ∃ (r : ByteArray) (ps : List ByteArray) (n : Nat) (a : Option Addr) (c : Nat), v = .string r ∧ n = ps.length ∧ l = .slice a n c ∧ wr.ownsRow w.heap.size 9 1 (.slice a n c) n (ps.map Value.string) ∧ pieces sep s = ps ++ pieces sep r ∧ r.size + n ≤ s.size ∧ Kept (fun j => w.heap.size ≤ j) w wr) (fun v _ _ => match v with | .string s => s.size | _ => 0)
  case atStart => exact ⟨s, [], 0, none, 0, rfl, rfl, rfl, World.ownsRow_nil _ _ _ _, rfl, by omega, Kept.refl _ _⟩
  case round =>
    obtain ⟨r, ps, n, a, c, rfl, hn, rfl, ho, hp, hsz, K⟩ := hrel
    have HN := hid hn
    have HP := hid hp
    have HK := hid K
    have HS := hid hsz
    have hbz : w.heap.size ≤ wr.heap.size := K.size
    have hI := fun W => refIndex_any W r sep h1 h2 (by omega)
    have hge := Lib.index_ge r.data.toList sep.data.toList
    have hrn : n ≤ 1000000 ∧ r.size ≤ 1000000 := by omega
    obtain ⟨hn6, hr6⟩ := hrn
    clear hn hp hsz K
    by_cases h0 : 0 ≤ Lib.index r.data.toList sep.data.toList
    · obtain ⟨i, hi⟩ : ∃ i : Nat, Lib.index r.data.toList sep.data.toList = i := ⟨(Lib.index r.data.toList sep.data.toList).toNat, by omega⟩
      have hroom := Lib.index_room r.data.toList sep.data.toList h0
      rw [hi] at hI hroom
      have hzr : r.data.toList.length = r.size := Array.length_toList
      have hzs : sep.data.toList.length = sep.size := Array.length_toList
      rw [hzr, hzs] at hroom
      have HX : Hid (pieces sep s = (ps ++ [r.extract 0 i]) ++ pieces sep (r.extract (i + sep.size) r.size)) := by
        show _ = _
        rw [HP.out, pieces_hit h1 hi, List.append_assoc]
        rfl
      have HZ : Hid ((r.extract (i + sep.size) r.size).size + sep.size + i = r.size) := by show _ = _; rw [ByteArray.size_extract]; omega
      have e1 : ¬ (i : Int) < 0 := by omega
      have e2 : (i : Int) ≤ (r.size : Int) := by omega
      clear hi h0 hge hzr hzs HP
      go_wp2_with (first
        | (go_at_call 16; refine (hI _).mono ?_; rintro e w1 ⟨rfl, hw1⟩; subst w1; clear hI)
        | (at_builtin; refine wpList_append_src _ rfl _ _ 40 rfl w.heap.size 9 i0 _ 1 16 Tryz.underlying40 hi0 hz0 hz1 hz2 rfl (by decide) (.slice a n c) n (ps.map Value.string) rfl (ho.alloc _) _ rfl 1 [.string (r.extract 0 i)] (.inl ⟨_, _, rfl, rfl, World.news_of_block (heap_alloc_new wr _)⟩) (by simp [Value.oneCell']) (by unfold maxLen; omega) (by omega) (by simp; omega) ?_; intro a3 c3 w3 ho3 hg3 _ hl3)
        | fail)
      go_roundw
      case rel => exact ⟨r.extract (i + sep.size) r.size, ps ++ [r.extract 0 i], n + 1, a3, c3, rfl, by rw [List.length_append, ← HN.out]; rfl, rfl, by rw [List.map_append]; exact ho3, HX.out, by have := HZ.out; have := HS.out; omega, (HK.out.and (Kept.alloc _ _ _)).and (Kept.grown hg3 (fun k e => (ho.lt k e).1))⟩
      case measure => show (r.extract (i + sep.size) r.size).size < r.size; have := HZ.out; omega
    · have hi : Lib.index r.data.toList sep.data.toList = -1 := by omega
      rw [hi] at hI
      have HX : Hid (pieces sep s = ps ++ [r]) := by show _ = _; rw [HP.out, pieces_miss hi]
      clear hi h0 hge HP
      go_wp2_with (first
        | (go_at_call 16; refine (hI _).mono ?_; rintro e w1 ⟨rfl, hw1⟩; subst w1; clear hI)
        | (at_builtin; refine wpList_append_src _ rfl _ _ 40 rfl w.heap.size 9 i0 _ 1 16 Tryz.underlying40 hi0 hz0 hz1 hz2 rfl (by decide) (.slice a n c) n (ps.map Value.string) rfl (ho.alloc _) _ rfl 1 [.string r] (.inl ⟨_, _, rfl, rfl, World.news_of_block (heap_alloc_new wr _)⟩) (by simp [Value.oneCell']) (by unfold maxLen; omega) (by omega) (by simp; omega) ?_; intro a3 c3 w3 ho3 hg3 _ hl3)
        | fail)
      have HKK := hid ((HK.out.and (Kept.alloc _ _ _)).and (Kept.grown hg3 (fun k e => (ho.lt k e).1)))
      obtain ⟨b, rfl, hb, hc, L⟩ := strs_of_row (n := n + 1) (ps := ps ++ [r]) (by rw [List.length_append, ← HN.out]; rfl) (by rw [List.map_append]; exact ho3) (by omega)
      have HLn : Hid ((pieces sep s).length = n + 1) := by show _ = _; rw [HX.out, List.length_append, ← HN.out]; rfl
      go_ret
      exact ⟨b, c3, hb, congrArg (fun z => Ending.returned (Value.slice (some ⟨b, 0, none⟩) z c3)) HLn.out.symm, by rw [HLn.out]; exact hc, by rw [HX.out]; exact L, (Kept.refl _ _).trans HKK.out (fun _ h => .inr h)⟩

end Go.Proofs.YtfiaaaflpjpnjaaGreatDoor
