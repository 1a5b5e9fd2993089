/-
  The document's writer and reader: texts.
-/
import Derived.Test.YtceocmhgbcimoaaCXRec
namespace Go.Proofs.Ytceocmhgbcimoaa
open Go.RowKit Go.Lib

theorem put_more {st : Option (List Int)} {q t raw : List Int} {bad : Bool} (h : put st (some q) = if bad then none else some raw) : put st (some (q ++ t)) = if bad then none else some (raw ++ t) := by
  cases st with
  | none =>
    cases bad with
    | true => rfl
    | false => cases h
  | some r =>
    cases bad with
    | true => cases h
    | false =>
      simp only [put] at h ⊢
      have := Option.some.inj h
      simp only [Bool.false_eq_true, if_false]
      rw [← this, List.append_assoc]

set_option maxRecDepth 100000 in
set_option maxHeartbeats 400000 in
theorem xtext_any {w : World} {base p : Nat} {st : Option (List Int)} {L : Nat} (I : WIn w 134 base p st L) (s : ByteArray) (hs : s.size ≤ 1048576) (hL : L ≤ 1099511627776) :
    Calls Try.prog 87 #[.pointer (some ⟨p, 0, none⟩), .string s] w fun e w' => e = .returned (.tuple #[]) ∧ WIn w' 134 base p (put st (wrText s)) (L + 1048600) ∧ Keep2 base p w w' := by
  obtain ⟨i0, hi0, hz0, hz1, hz2⟩ := info_parts Try.info5
  have hN := xnum_any I s.size 0 1048576 (by decide) (by decide) (by omega)
  clear I
  have hw : wrNum 0 1048576 (s.size : Int) = some (numB s.size) := by unfold wrNum; rw [if_pos (by omega), Int.toNat_natCast]
  have ht : wrText s = some (numB s.size ++ bts s) := by unfold wrText; rw [hw]; rfl
  rw [ht]
  rw [hw] at hN
  clear hw ht
  go_enter Try.func87, Try.ntmps87
  go_wp2_with (first
    | (go_at_call 88; refine hN.mono ?_; rintro e w1 ⟨rfl, ⟨v, raw, bad, A, hr, hb⟩, K⟩; obtain ⟨a, c, rfl⟩ := ownsRow_shape A.row; have c0 := A.c0; have f0 := A.fz 0; have k2 := (fun w3 => A.after0 (w3 := w3)); have hro := A.row; have hbz := A.hb; have HP : Hid _ := put_more (t := bts s) hb; have HA : Hid (WAt w1 134 base p (.slice a raw.length c) raw bad) := A; clear hN A hb)
    | (at_builtin; refine wpList_append_own_string _ rfl _ _ 28 9 rfl base 5 i0 Try.underlying28 Try.underlying9 hi0 hz0 hz1 hz2 (.slice a raw.length c) raw.length _ rfl hro s rfl (by unfold maxLen; omega) (by omega) hbz ?_; intro v3 w3 ho3 hg3 hn3; obtain ⟨y3, f3, K3⟩ := k2 w3 hg3; obtain ⟨a3, c3, rfl⟩ := ownsRow_shape ho3; clear k2 hro hn3)
    | fail)
  go_end0
  have hl2 : (raw ++ bts s).length = raw.length + s.size := by rw [List.length_append, bts_length]
  have A4 := HA.out.lay2 (raw' := raw ++ bts s) (by decide) K3 (by rw [hl2, List.map_append, ← bts_cells]; exact ho3) (HA.out.bs.append (bts_bs s))
  exact ⟨rfl, ⟨_, _, bad, A4, by rw [hl2]; omega, HP.out⟩, (K.and (Keep2.own HA.out.row K3)).and (Keep2.setP _ _ _ HA.out.bp)⟩

section
variable {w : World} {r : Nat} {a : Option Addr} {m c : Nat} {raw : List Int} {st : Except Nat Nat}

theorem rdNum_pos {lo hi : Int} {raw : List Int} {at_ : Nat} {v : Int} {i : Nat} (h : rdNum lo hi raw at_ = .ok (v, i)) : at_ < i := by
  unfold rdNum at h
  split at h
  · cases h
  · split at h
    · cases h
    · split at h
      · cases h
      · split at h
        · cases h
        · simp only [Except.ok.injEq, Prod.mk.injEq] at h
          obtain ⟨rfl, rfl⟩ := h
          omega

theorem XAt.moved {at_ on : Nat} (A : XAt w r a m c raw (.ok at_)) (hh : w.heap[r]? = some (.cells #[.slice a m c, .int .i64 at_, .bool false, .int .i64 on] 153 (0, 0))) {k : Nat} (h : at_ + k ≤ m) (n1 n2 : Nat) :
    XAt (((w.drewN n1).setCell ⟨r, 1, none⟩ (.int .i64 ((at_ : Int) + (k : Int)))).drewN n2) r a m c raw (.ok (at_ + k)) ∧ Kept (fun k => k = r) w (((w.drewN n1).setCell ⟨r, 1, none⟩ (.int .i64 ((at_ : Int) + (k : Int)))).drewN n2) := by
  have K : Kept (fun k => k = r) w (((w.drewN n1).setCell ⟨r, 1, none⟩ (.int .i64 ((at_ : Int) + (k : Int)))).drewN n2) := ((Kept.drewN _ w n1).and (Kept.setCell (S := fun k => k = r) _ _ _ rfl)).and (Kept.drewN _ _ n2)
  refine ⟨⟨⟨at_ + k, on, false, ?_, rfl, h⟩, A.bytes.kept K A.ne, A.ne, A.small⟩, K⟩
  show ((w.drewN n1).setCell ⟨r, 1, none⟩ (.int .i64 ((at_ : Int) + (k : Int)))).heap[r]? = _
  simp [World.setCell, Array.getElem?_modify, hh]

set_option maxRecDepth 100000 in
set_option maxHeartbeats 400000 in
/-- The number fails: so does the text. -/
theorem xrtext_bad (A : XAt w r a m c raw st) (pl : Nat) (hd : xnext (rdNum 0 1048576) raw st = .error pl) :
    Calls Try.prog 98 #[.pointer (some ⟨r, 0, none⟩)] w fun e w' => e = .returned (.string ⟨#[]⟩) ∧ XAt w' r a m c raw (.error pl) ∧ Kept (fun k => k = r) w w' := by
  have hN := xrd_any A 0 1048576
  rw [hd] at hN
  simp only [xval, xst] at hN
  clear A
  go_enter Try.func98, Try.ntmps98
  go_wp2_with (first
    | (go_at_call 99; refine hN.mono ?_; rintro e w1 ⟨rfl, A1, K1⟩; obtain ⟨at', hh⟩ := A1.shut; obtain ⟨d2, _⟩ := cellOf' hh (o := 2) rfl; clear hN hh)
    | fail)
  go_ret
  exact ⟨rfl, A1, K1⟩

set_option maxRecDepth 100000 in
set_option maxHeartbeats 400000 in
theorem xrtext_cut (A : XAt w r a m c raw st) (k j : Nat) (hd : xnext (rdNum 0 1048576) raw st = .ok ((k : Int), j)) (hj : j ≤ m) (h : m < j + k) :
    Calls Try.prog 98 #[.pointer (some ⟨r, 0, none⟩)] w fun e w' => e = .returned (.string ⟨#[]⟩) ∧ XAt w' r a m c raw (.error m) ∧ Kept (fun k => k = r) w w' := by
  have hN := xrd_any A 0 1048576
  rw [hd] at hN
  simp only [xval, xst] at hN
  have hs := A.small
  clear A
  have h2 : (m : Int) - (j : Int) < (k : Int) := by omega
  go_enter Try.func98, Try.ntmps98
  go_wp2_with (first
    | (go_at_call 99; refine hN.mono ?_; rintro e w1 ⟨rfl, A1, K1⟩; obtain ⟨on, hh, _⟩ := A1.open; obtain ⟨d0, _⟩ := cellOf' hh (o := 0) rfl; obtain ⟨d1, _⟩ := cellOf' hh (o := 1) rfl; obtain ⟨d2, _⟩ := cellOf' hh (o := 2) rfl; have hNo : ∀ n, Calls Try.prog 125 #[.pointer (some ⟨r, 0, none⟩), .int .i64 m] (w1.drewN n) _ := (fun n => xno_any (A1.kept (Kept.drewN (fun _ => False) w1 n) (fun h => h) (fun _ _ _ h => h)) m); clear hN hh A1)
    | fail)
  go_quiet (fail)
  go_wp2_with (first
    | (go_at_call 125; refine (hNo _).mono ?_; rintro e w2 ⟨rfl, A2, K2⟩; clear hNo)
    | fail)
  go_ret
  exact ⟨rfl, A2, (K1.and (Kept.drewN _ _ _)).and K2⟩

set_option maxRecDepth 100000 in
set_option maxHeartbeats 400000 in
theorem xrtext_mid {b o : Nat} (A : XAt w r (some ⟨b, o, none⟩) m c raw st) (k j : Nat) (hd : xnext (rdNum 0 1048576) raw st = .ok ((k : Int), j)) (hj : j + k ≤ m) (hcj : c ≠ j) :
    Calls Try.prog 98 #[.pointer (some ⟨r, 0, none⟩)] w fun e w' => e = .returned (.string (strOfNums ((raw.drop j).take k))) ∧ XAt w' r (some ⟨b, o, none⟩) m c raw (.ok (j + k)) ∧ Kept (fun k => k = r) w w' := by
  have hN := xrd_any A 0 1048576
  rw [hd] at hN
  simp only [xval, xst] at hN
  have hs := A.small
  have hcap := A.bytes.cap
  clear A hd
  have hcn : ¬ c = j := hcj
  have e1 : (k : Int) ≤ (m : Int) - (j : Int) := by omega
  have g1 : j ≤ j + k := by omega
  have g2 : j + k ≤ c := by omega
  have g3 : (0 : Int) ≤ j := by omega
  have g4 : (j : Int) ≤ (j : Int) + k := by omega
  have g5 : (j : Int) + k ≤ c := by omega
  go_enter Try.func98, Try.ntmps98
  go_wp2_with (first
    | (go_at_call 99; refine hN.mono ?_; rintro e w1 ⟨rfl, A1, K1⟩; obtain ⟨on, hh, _⟩ := A1.open; obtain ⟨d0, _⟩ := cellOf' hh (o := 0) rfl; obtain ⟨d1, f1⟩ := cellOf' hh (o := 1) rfl; obtain ⟨d2, _⟩ := cellOf' hh (o := 2) rfl; have p1 : ∀ n, (convert 28 9 (.slice (some ⟨b, o + j, none⟩) k (c - j))).run Try.prog (w1.drewN n) = .ok (.string (strOfNums ((raw.drop j).take k))) (w1.drewN n) := (fun n => ((A1.bytes.piece hj _ (.inl rfl) _ (by omega)).kept (Kept.drewN (fun _ => False) w1 n) (fun _ _ _ h => h)).str); have HE : Hid _ := (A1.moved hh hj); clear hN hh A1)
    | fail)
  go_quiet (fail)
  go_wp2_with fail
  go_quiet (fail)
  go_wp2
  go_ret
  obtain ⟨q1, q2⟩ := HE.out _ 0
  exact ⟨rfl, q1, K1.and q2⟩

set_option maxRecDepth 100000 in
set_option maxHeartbeats 400000 in
theorem xrtext_last {b o : Nat} (A : XAt w r (some ⟨b, o, none⟩) m m raw st) (hd : xnext (rdNum 0 1048576) raw st = .ok (0, m)) :
    Calls Try.prog 98 #[.pointer (some ⟨r, 0, none⟩)] w fun e w' => e = .returned (.string (strOfNums [])) ∧ XAt w' r (some ⟨b, o, none⟩) m m raw (.ok m) ∧ Kept (fun k => k = r) w w' := by
  have hN := xrd_any A 0 1048576
  rw [hd] at hN
  simp only [xval, xst] at hN
  have hs := A.small
  clear A hd
  go_enter Try.func98, Try.ntmps98
  go_wp2_with (first
    | (go_at_call 99; refine hN.mono ?_; rintro e w1 ⟨rfl, A1, K1⟩; obtain ⟨on, hh, _⟩ := A1.open; obtain ⟨d0, _⟩ := cellOf' hh (o := 0) rfl; obtain ⟨d1, f1⟩ := cellOf' hh (o := 1) rfl; obtain ⟨d2, _⟩ := cellOf' hh (o := 2) rfl; have p1 : ∀ n, (convert 28 9 (.slice (some ⟨b, o, none⟩) 0 0)).run Try.prog (w1.drewN n) = .ok (.string (strOfNums [])) (w1.drewN n) := (fun n => by have h := ((A1.bytes.piece (i := m) (k := 0) (Nat.le_refl _) ⟨b, o, none⟩ (.inr rfl) 0 (Nat.le_refl _)).kept (Kept.drewN (fun _ => False) w1 n) (fun _ _ _ h => h)).str; rw [List.take_zero] at h; exact h); have HE : Hid _ := (A1.moved hh (k := 0) (Nat.le_refl _)); clear hN hh A1)
    | fail)
  go_quiet (fail)
  go_wp2_with fail
  go_quiet (fail)
  go_wp2
  go_ret
  obtain ⟨q1, q2⟩ := HE.out _ 0
  simp only [Int.natCast_zero, Int.add_zero, Nat.add_zero] at q1 q2
  exact ⟨rfl, q1, K1.and q2⟩

/-- A text is read. -/
theorem xrtext_any (A : XAt w r a m c raw st) :
    Calls Try.prog 98 #[.pointer (some ⟨r, 0, none⟩)] w fun e w' => e = .returned (.string (xval ⟨#[]⟩ (xnext rdText raw st))) ∧ XAt w' r a m c raw (xst (xnext rdText raw st)) ∧ Kept (fun k => k = r) w w' := by
  have hlen := A.bytes.len
  have hcap := A.bytes.cap
  have he : xnext rdText raw st = match xnext (rdNum 0 1048576) raw st with
      | .error e => .error e
      | .ok (n, i) => if raw.length < i + n.toNat then .error raw.length else .ok (strOfNums ((raw.drop i).take n.toNat), i + n.toNat) := by
    cases st with
    | error e => rfl
    | ok i => rfl
  rw [he]
  cases hd : xnext (rdNum 0 1048576) raw st with
  | error pl => exact xrtext_bad A pl hd
  | ok x =>
    obtain ⟨n, j⟩ := x
    cases st with
    | error e => cases hd
    | ok i0 =>
      obtain ⟨n0, n1, hil⟩ := rdNum_ok (show rdNum 0 1048576 raw i0 = .ok (n, j) from hd)
      have hpos := rdNum_pos (show rdNum 0 1048576 raw i0 = .ok (n, j) from hd)
      obtain ⟨k, rfl⟩ := Int.eq_ofNat_of_zero_le n0
      simp only [Int.toNat_natCast]
      by_cases hc : raw.length < j + k
      · rw [if_pos hc, hlen]
        exact xrtext_cut A k j hd (by omega) (by omega)
      · rw [if_neg hc]
        obtain ⟨b, o, rfl, _⟩ := A.bytes.at (j := 0) (by omega)
        by_cases hcj : c = j
        · obtain rfl : k = 0 := by omega
          obtain rfl : j = m := by omega
          subst hcj
          simp only [List.take_zero, Nat.add_zero]
          exact xrtext_last A hd
        · exact xrtext_mid A k j hd (by omega) hcj
end

theorem xrec_text {w0 w : World} {T : TypeId} {R r E : Nat} {a : Option Addr} {m c : Nat} {raw : List Int} {st : Except Nat Nat} {zs cs : Array Value} (S : XRec w0 w T R r E a m c raw st zs cs) :
    Calls Try.prog 98 #[.pointer (some ⟨r, 0, none⟩)] w fun e w' => e = .returned (.string (xval ⟨#[]⟩ (xnext rdText raw st))) ∧ XRec w0 w' T R r E a m c raw (xst (xnext rdText raw st)) zs cs :=
  (xrtext_any S.rd).mono (fun _ _ ⟨h, A, K⟩ => ⟨h, S.to K A⟩)

end Go.Proofs.Ytceocmhgbcimoaa
