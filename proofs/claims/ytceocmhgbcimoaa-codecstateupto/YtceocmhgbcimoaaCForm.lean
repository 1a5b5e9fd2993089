/-
  The forms of signed numbers, texts and whole records: what is written is read as it; what is read is written so.
-/
import Derived.Test.YtceocmhgbcimoaaCRec
namespace Go.Proofs.Ytceocmhgbcimoaa
open Go.RowKit

theorem unsgn_sgn (n : Int) : unsgn (sgn n) = n := by
  unfold unsgn sgn
  split <;> split <;> omega

theorem sgn_unsgn (n : Int) (h : 0 ≤ n) : sgn (unsgn n) = n := by
  unfold unsgn sgn
  split <;> split <;> omega

theorem sigForm : Form rdSig wrSig := by
  have F := numForm (lo := 0) (hi := 4503599627370496) (by decide) (by decide)
  refine ⟨?_, ?_, ?_, ?_⟩
  · intro raw at_ v at' hb hat h
    unfold rdSig at h
    split at h
    · cases h
    · rename_i n i hd
      simp only [Except.ok.injEq, Prod.mk.injEq] at h
      obtain ⟨rfl, rfl⟩ := h
      obtain ⟨enc, he, r⟩ := F.back raw at_ n i hb hat hd
      refine ⟨enc, ?_, r⟩
      unfold wrSig
      rw [sgn_unsgn n (rdNum_ok hd).1]
      exact he
  · intro pre enc post v h
    unfold rdSig
    rw [F.fore pre enc post (sgn v) h]
    simp only [unsgn_sgn]
  · intro pre enc v k h hk
    unfold rdSig
    rw [F.short pre enc (sgn v) k h hk]
  · intro v enc h
    exact F.bs (sgn v) enc h

theorem strOf_bts (s : ByteArray) : strOfNums (bts s) = s := by
  have h : ∀ x y : ByteArray, x.data = y.data → x = y := by
    intro x y h; cases x; cases y; simp at h; rw [h]
  apply h
  apply Array.ext'
  simp only [strOfNums, bts, List.map_map]
  conv => rhs; rw [← List.map_id s.data.toList]
  apply List.map_congr_left
  intro b _
  simp

theorem bts_strOf {l : List Int} (h : Bs l) : bts (strOfNums l) = l := by
  simp only [strOfNums, bts, List.map_map]
  conv => rhs; rw [← List.map_id l]
  apply List.map_congr_left
  intro b hb
  have := h b hb
  simp
  omega

theorem strOf_size (l : List Int) : (strOfNums l).size = l.length := by simp [strOfNums, ByteArray.size]

theorem textForm : Form rdText wrText := by
  have F := numForm (lo := 0) (hi := 1048576) (by decide) (by decide)
  refine ⟨?_, ?_, ?_, ?_⟩
  · intro raw at_ v at' hb hat h
    unfold rdText at h
    split at h
    · cases h
    · rename_i n i hd
      split at h
      · cases h
      · rename_i hc
        simp only [Except.ok.injEq, Prod.mk.injEq] at h
        obtain ⟨rfl, rfl⟩ := h
        obtain ⟨enc, he, rfl, hil, ht⟩ := F.back raw at_ n i hb hat hd
        have hn := (rdNum_ok hd).1
        have hl : ((raw.drop (at_ + enc.length)).take n.toNat).length = n.toNat := by rw [List.length_take, List.length_drop]; omega
        have hbs : Bs ((raw.drop (at_ + enc.length)).take n.toNat) := (hb.drop _).take _
        refine ⟨enc ++ (raw.drop (at_ + enc.length)).take n.toNat, ?_, ?_, ?_, ?_⟩
        · unfold wrText
          rw [strOf_size, hl, bts_strOf hbs]
          have : ((n.toNat : Nat) : Int) = n := Int.toNat_of_nonneg hn
          rw [this, he]
          rfl
        · rw [List.length_append, hl]; omega
        · omega
        · rw [List.length_append, hl, List.take_add, ht, List.drop_drop]
  · intro pre enc post v h
    unfold wrText at h
    cases hw : wrNum 0 1048576 (v.size : Int) with
    | none => rw [hw] at h; cases h
    | some q =>
      rw [hw] at h
      simp only [Option.map_some, Option.some.injEq] at h
      subst h
      unfold rdText
      have h1 := F.fore pre q (bts v ++ post) _ hw
      rw [List.append_assoc, h1]
      simp only [Int.toNat_natCast]
      have hlen : (pre ++ (q ++ (bts v ++ post))).length = pre.length + q.length + v.size + post.length := by simp [bts_length]; omega
      rw [hlen, if_neg (by omega)]
      have hd : ((pre ++ (q ++ (bts v ++ post))).drop (pre.length + q.length)).take v.size = bts v := by
        rw [← List.append_assoc, ← List.length_append, List.drop_left, List.take_left' (bts_length v)]
      rw [hd, strOf_bts, List.length_append, bts_length, Nat.add_assoc]
  · intro pre enc v k h hk
    unfold wrText at h
    cases hw : wrNum 0 1048576 (v.size : Int) with
    | none => rw [hw] at h; cases h
    | some q =>
      rw [hw] at h
      simp only [Option.map_some, Option.some.injEq] at h
      subst h
      unfold rdText
      by_cases hq : k < q.length
      · have h1 := F.short pre q _ k hw hq
        rw [List.take_append_of_le_length (by omega), h1]
      · obtain ⟨j, rfl⟩ : ∃ j, k = q.length + j := ⟨k - q.length, by omega⟩
        rw [List.length_append, bts_length] at hk
        rw [List.take_length_add_append]
        have h1 := F.fore pre q ((bts v).take j) _ hw
        rw [h1]
        simp only [Int.toNat_natCast]
        have hlen : (pre ++ (q ++ (bts v).take j)).length = pre.length + (q.length + j) := by
          rw [List.length_append, List.length_append, List.length_take, bts_length]; omega
        rw [hlen, if_pos (by omega)]
  · intro v enc h
    unfold wrText at h
    cases hw : wrNum 0 1048576 (v.size : Int) with
    | none => rw [hw] at h; cases h
    | some q =>
      rw [hw] at h
      simp only [Option.map_some, Option.some.injEq] at h
      subst h
      exact (F.bs _ _ hw).append (bts_bs v)

/-- What is written is read as it. -/
theorem Form.whole {α : Type} {P : Rd α} {W : α → Option (List Int)} (F : Form P W) {v : α} {enc : List Int} (h : W v = some enc) : rdWhole P enc = .ok v := by
  have := F.fore [] enc [] v h
  simp only [List.nil_append, List.append_nil, List.length_nil, Nat.zero_add] at this
  unfold rdWhole
  rw [this]
  simp

/-- What is read is written so. -/
theorem Form.again {α : Type} {P : Rd α} {W : α → Option (List Int)} (F : Form P W) {v : α} {raw : List Int} (hb : Bs raw) (h : rdWhole P raw = .ok v) : W v = some raw := by
  unfold rdWhole at h
  split at h
  · cases h
  · rename_i x i hd
    split at h
    · cases h
    · rename_i hc
      simp only [Except.ok.injEq] at h
      subst h
      obtain ⟨enc, he, hi, hl, ht⟩ := F.back raw 0 x i hb (Nat.zero_le _) hd
      rw [List.drop_zero] at ht
      have : enc.length = raw.length := by omega
      rw [he, ← ht, this, List.take_length]

theorem put_bind {α β : Type} (W : α → Option (List Int)) (V : β → Option (List Int)) (x : α × β) : put (W x.1) (V x.2) = wrBind W (fun _ => V) x := by
  unfold wrBind put
  simp only []
  cases W x.1 <;> cases V x.2 <;> rfl

theorem put_assoc (a b c : Option (List Int)) : put (put a b) c = put a (put b c) := by
  cases a with
  | none => rfl
  | some x =>
    cases b with
    | none => rfl
    | some y => cases c <;> simp [put]

end Go.Proofs.Ytceocmhgbcimoaa
