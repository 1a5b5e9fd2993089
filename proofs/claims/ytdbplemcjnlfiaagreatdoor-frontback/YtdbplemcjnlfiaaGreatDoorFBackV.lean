/-
  The document's Valid; whether a key is among the fields that are wanted; fields that are handed in.
-/
import Derived.Test.YtdbplemcjnlfiaaGreatDoorFRefUB
import Derived.Test.YtdbplemcjnlfiaaGreatDoorFBackQ
import Derived.Test.YtdbplemcjnlfiaaGreatDoorFPairs
import Derived.Test.YtdbplemcjnlfiaaGreatDoorFStrs
import Derived.SizedLaws
import Derived.Deep.Slices
namespace Go.Proofs.YtdbplemcjnlfiaaGreatDoor
open Go.ChangeShapes Go.WideShapes Go.ChangeAt Go.RowKit Go.Deep

/-- From p on it is UTF-8. -/
def utfB (s : ByteArray) : Nat → Nat → Bool
  | 0, _ => true
  | n + 1, p => if p < s.size then (if (Utf8.decode s p).1 = 65533 ∧ (Utf8.decode s p).2 = 1 then false else utfB s n (p + (Utf8.decode s p).2)) else true

theorem utfB_ok {s : ByteArray} : ∀ {n p : Nat}, utfB s n p = true → okF s n p
  | 0, _, _ => trivial
  | n + 1, p, h => fun hp => by
    unfold utfB at h
    rw [if_pos hp] at h
    by_cases hb : (Utf8.decode s p).1 = 65533 ∧ (Utf8.decode s p).2 = 1
    · rw [if_pos hb] at h; cases h
    · rw [if_neg hb] at h
      exact ⟨hb, utfB_ok h⟩

set_option maxRecDepth 100000 in
set_option maxHeartbeats 2000000 in
theorem valid_any (w : World) (s : ByteArray) (hs : s.size ≤ 140737488351232) :
    Calls Tryz.prog 5 #[.string s] w fun e w' => e = .returned (.bool (utfB s (s.size + 1) 0)) ∧ w' = w := by
  go_enter Tryz.func5, Tryz.ntmps5
  go_wp2
  go_loopw [3] (fun i wr => ∃ (p n : Nat), p ≤ s.size ∧ s.size + 1 ≤ p + n ∧ i = .int .i64 (p : Int) ∧ utfB s n p = utfB s (s.size + 1) 0 ∧ wr = w) (fun i _ => s.size - (intOf i).toNat)
  case atStart => exact ⟨0, s.size + 1, Nat.zero_le _, by omega, rfl, rfl, rfl⟩
  case round =>
    obtain ⟨p, n, hp, hn, rfl, hv, hwr⟩ := hrel
    subst wr
    have HV := hid hv
    clear hv
    by_cases hlt : p < s.size
    · have e0 : (p : Int) < (s.size : Int) := by omega
      have hU := utf8_big w s p (by omega) hlt
      rw [utR_is s p hlt] at hU
      have hd := dec_pos s hlt
      have hl := (dec_le s hlt).1
      cases n with
      | zero => omega
      | succ n =>
        have HV2 : Hid ((if (Utf8.decode s p).1 = 65533 ∧ (Utf8.decode s p).2 = 1 then false else utfB s n (p + (Utf8.decode s p).2)) = utfB s (s.size + 1) 0) := by
          show _ = _
          have h := HV.out
          conv at h => lhs; unfold utfB
          rw [if_pos hlt] at h
          exact h
        clear HV
        by_cases hb : (Utf8.decode s p).1 = 65533 ∧ (Utf8.decode s p).2 = 1
        · rw [if_pos hb] at hU
          have HV3 : Hid (utfB s (s.size + 1) 0 = false) := by
            show _ = _
            have h := HV2.out
            rw [if_pos hb] at h
            exact h.symm
          have hU' : Calls Tryz.prog 15 #[.string s, .int .i64 (p : Int)] w fun e w' => e = .returned (.int .i64 0) ∧ w' = w := hU
          clear hU HV2 hb hd hl
          go_wp2_with (first
            | (go_at_call 15; refine hU'.mono ?_; rintro e w1 ⟨rfl, hw1⟩; subst w1; clear hU')
            | fail)
          go_ret
          refine ⟨?_, rfl⟩
          rw [HV3.out]
          rfl
        · rw [if_neg hb] at hU
          have HV3 : Hid (utfB s n (p + (Utf8.decode s p).2) = utfB s (s.size + 1) 0) := by
            show _ = _
            have h := HV2.out
            rw [if_neg hb] at h
            exact h
          clear HV2 hb
          generalize (Utf8.decode s p).2 = d at *
          have z0 : ((d : Int) == 0) = false := by rw [beq_eq_false_iff_ne]; omega
          go_wp2_with (first
            | (go_at_call 15; refine hU.mono ?_; rintro e w1 ⟨rfl, hw1⟩; subst w1; clear hU)
            | fail)
          go_roundw
          case rel => exact ⟨p + d, n, by omega, by omega, by go_num, HV3.out, by trivial⟩
          case measure => simp [intOf]; omega
    · have e0 : ¬ (p : Int) < (s.size : Int) := by omega
      have HV3 : Hid (utfB s (s.size + 1) 0 = true) := by
        show _ = _
        rw [← HV.out]
        cases n with
        | zero => rfl
        | succ n => unfold utfB; rw [if_neg hlt]
      clear HV
      go_wp2
      go_ret
      refine ⟨?_, rfl⟩
      rw [HV3.out]
      rfl

set_option maxRecDepth 100000 in
set_option maxHeartbeats 2000000 in
theorem has_any (w : World) (a : Option Addr) (c : Nat) (ps : List Pr) (k : List UInt8) (hP : PairsAt w a ps) (hm : ps.length ≤ 1000000) :
    Calls Tryz.prog 6 #[.slice a ps.length c, .string (mkB k)] w fun e w' => e = .returned (.bool (fieldP ps k).isSome) ∧ w' = w := by
  go_enter Tryz.func6, Tryz.ntmps6
  go_wp2
  go_loopw [5] (fun v wr => ∃ (j : Nat), j ≤ ps.length ∧ v = .int .i64 (j : Int) ∧ wr = w ∧ fieldP (ps.drop j) k = fieldP ps k) (fun v _ => ps.length - (intOf v).toNat)
  case atStart => exact ⟨0, Nat.zero_le _, rfl, rfl, rfl⟩
  case round =>
    obtain ⟨j, hj, rfl, hwr, hF⟩ := hrel
    subst hwr
    have HF := hid hF
    clear hF
    by_cases hlt : j < ps.length
    · rcases hP with h0 | ⟨b, o, rfl, hcell⟩
      · rw [h0] at hlt; simp at hlt
      · obtain ⟨c0, c1⟩ := hcell j hlt
        have e0 : (j : Int) < (ps.length : Int) := by omega
        have hq := str_beq (ps[j]'hlt).1 k
        have HH : Hid (((ps[j]'hlt).1 == k) = true → fieldP (ps.drop j) k = some (ps[j]'hlt).2) := fieldP_hit hlt
        have HM : Hid (((ps[j]'hlt).1 == k) = false → fieldP (ps.drop j) k = fieldP (ps.drop (j + 1)) k) := fieldP_miss hlt
        clear hcell
        cases he : ((ps[j]'hlt).1 == k) with
        | true =>
          rw [he] at hq
          have HE : Hid ((fieldP ps k).isSome = true) := by
            show _ = true
            rw [← HF.out, HH.out he]
            rfl
          clear he HH HM
          generalize mkB (ps[j]'hlt).1 = x at *
          generalize mkB k = kn at *
          go_wp2
          go_ret
          refine ⟨?_, rfl⟩
          rw [HE.out]
          rfl
        | false =>
          rw [he] at hq
          have HE := hid (HM.out he)
          clear he HH HM
          generalize mkB (ps[j]'hlt).1 = x at *
          generalize mkB k = kn at *
          go_wp2
          go_roundw
          case rel => exact ⟨j + 1, by omega, by go_num, by trivial, by rw [← HE.out]; exact HF.out⟩
          case measure => first | (simp [intOf]; omega) | (simp [intOf]; done)
    · have e0 : ¬ (j : Int) < (ps.length : Int) := by omega
      have HE : Hid ((fieldP ps k).isSome = false) := by
        show _ = false
        rw [← HF.out, List.drop_of_length_le (by omega)]
        rfl
      go_wp2
      go_ret
      refine ⟨?_, rfl⟩
      rw [HE.out]
      rfl

/-- Fields that are handed in. -/
def PrsIn (w : World) (a : Option Addr) (len : Nat) (K V : Nat → ByteArray) : Prop :=
  len = 0 ∨ ∃ b o, a = some ⟨b, o, none⟩ ∧ ∀ i, i < len → w.cell? ⟨b, o + i * 2, none⟩ = some (.string (K i)) ∧ w.cell? ⟨b, o + i * 2 + 1, none⟩ = some (.string (V i)) ∧ (K i).size ≤ 140737488351232 ∧ (V i).size ≤ 140737488351232

theorem PrsIn.kept {w w' : World} {a : Option Addr} {len : Nat} {K V : Nat → ByteArray} (h : PrsIn w a len K V) (Kp : Kept (fun _ => False) w w') : PrsIn w' a len K V := by
  rcases h with h0 | ⟨b, o, rfl, hc⟩
  · exact .inl h0
  · refine .inr ⟨b, o, rfl, fun i hi => ?_⟩
    obtain ⟨h1, h2, h3, h4⟩ := hc i hi
    have key : ∀ {a : Addr} {v : Value}, w.cell? a = some v → w'.cell? a = some v := fun {a v} h => by
      rw [World.cell?_of_block (w := w) (Kp.block _ (World.block_lt_of_cell? w _ h) (fun h => h))]
      exact h
    exact ⟨key h1, key h2, h3, h4⟩

theorem weightsAll_in {H : Type} {P : Program} {e : TypeId} : ∀ {l : List (DataW H)} {d : DataW H}, d ∈ l → ∀ n ∈ d.weights P e, n ∈ DataW.weightsAll P e l
  | x :: r, d, hm, n, hn => by
    unfold DataW.weightsAll
    rcases List.mem_cons.1 hm with h | h
    · subst h; exact List.mem_append.2 (.inl hn)
    · exact List.mem_append.2 (.inr (weightsAll_in h n hn))

set_option maxRecDepth 100000 in
theorem open_pr {H : Type} {enc : TypeId × Value → H} {W : World} {base : Nat} {spare : TypeId → Bool} {held : Bool} {fuel : Nat} {cs : List Value} {x : DataW H × List MemPlace} (h : DataW.trod enc Tryz.prog W base spare held fuel 26 cs = some x) (hl : cs.length = 2) : ∃ k v : ByteArray, cs = [.string k, .string v] ∧ x.1 = .agg [.lit (.string k.data.toList), .lit (.string v.data.toList)] := by
  match cs, hl with
  | [c0, c1], _ =>
    have kS : Tryz.prog.cellsOf 9 = 1 := by kernel_rfl
    obtain ⟨ys, n, _, rfl, hl, hlen, hf⟩ := DataW.trod_struct Tryz.underlying26 h
    match ys, hlen with
    | [z0, z1], _ =>
      have t0 : DataW.trod enc Tryz.prog W base spare held n 9 [c0] = some z0 := by simpa [kS] using hf 0 _ rfl
      have t1 : DataW.trod enc Tryz.prog W base spare held n 9 [c1] = some z1 := by simpa [kS] using hf 1 _ rfl
      obtain ⟨x0, e0, rfl, _⟩ := DataW.trod_string Tryz.underlying9 t0
      obtain ⟨x1, e1, rfl, _⟩ := DataW.trod_string Tryz.underlying9 t1
      simp only [List.cons.injEq, and_true] at e0 e1
      subst e0 e1
      exact ⟨x0, x1, rfl, rfl⟩

set_option maxRecDepth 100000 in
theorem prs_open {H : Type} {enc : TypeId × Value → H} {W : World} {base : Nat} {held : Bool} {fuel : Nat} {v : Value} {x : DataW H × List MemPlace} (hf : DataW.trod enc Tryz.prog W base (fun _ => true) held fuel 22 [v] = some x) (hw : ∀ n ∈ x.1.weights Tryz.prog 22, n ≤ reachBytes) :
    ∃ a len cap K V, v = .slice a len cap ∧ PrsIn W a len K V := by
  have kO : Tryz.prog.cellsOf 26 = 2 := by kernel_rfl
  rcases Deep.open_slice Tryz.underlying22 hf with ⟨hcs, hx⟩ | ⟨a, len, cap, m, n, D, Pl, hcs, hb, hl, hm, hmm, hx, hel⟩
  · simp only [List.cons.injEq, and_true] at hcs
    subst hcs
    exact ⟨none, 0, 0, fun _ => ByteArray.empty, fun _ => ByteArray.empty, rfl, .inl rfl⟩
  · simp only [List.cons.injEq, and_true] at hcs
    subst hcs
    have hlm : len ≤ m := by rw [hmm]; split <;> omega
    have each : ∀ i, i < len → ∃ o : ByteArray × ByteArray, D i = .agg [.lit (.string o.1.data.toList), .lit (.string o.2.data.toList)] ∧ W.cell? (a.add (i * 2)) = some (.string o.1) ∧ W.cell? (a.add (i * 2 + 1)) = some (.string o.2) := by
      intro i hi
      obtain ⟨cs', h1, h2⟩ := hel i (by omega)
      rw [kO] at h1
      obtain ⟨_, hlen, hcell⟩ := World.cells?_some h1
      obtain ⟨k, v, rfl, e⟩ := open_pr h2 hlen
      have c0 := hcell 0 (by decide)
      have c1 := hcell 1 (by decide)
      rw [Deep.add_add] at c0 c1
      exact ⟨(k, v), e, c0, c1⟩
    haveI : Inhabited (ByteArray × ByteArray) := ⟨(⟨#[]⟩, ⟨#[]⟩)⟩
    obtain ⟨q, hq⟩ := Deep.choose_lt each
    refine ⟨some a, len, cap, fun i => (q i).1, fun i => (q i).2, rfl, ?_⟩
    rcases Nat.eq_zero_or_pos len with h0 | h0
    · exact .inl h0
    · obtain ⟨b, o, rfl⟩ := addr_form (hq 0 h0).2.1
      refine .inr ⟨b, o, rfl, fun i hi => ?_⟩
      obtain ⟨e1, e2, e3⟩ := hq i hi
      rw [Addr.add_lit] at e2 e3
      have hmem : D i ∈ (List.range len).map D := List.mem_map.2 ⟨i, List.mem_range.2 hi, rfl⟩
      have hsz : ∀ n ∈ (D i).weights Tryz.prog 26, n ≤ reachBytes := fun n hn => hw n (by
        rw [hx]
        unfold DataW.weights
        rw [Tryz.underlying22]
        exact List.mem_cons_of_mem _ (List.mem_append.2 (.inl (weightsAll_in hmem n hn))))
      rw [e1] at hsz
      have hs2 : (DataW.agg [.lit (.string (q i).1.data.toList), .lit (.string (q i).2.data.toList)] : DataW H).weights Tryz.prog 26 = [(q i).1.data.toList.length, (q i).2.data.toList.length] := by
        unfold DataW.weights
        rw [Tryz.underlying26]
        rfl
      rw [hs2] at hsz
      have z1 := hsz _ List.mem_cons_self
      have z2 := hsz _ (List.mem_cons_of_mem _ List.mem_cons_self)
      have l1 : (q i).1.data.toList.length = (q i).1.size := Array.length_toList
      have l2 : (q i).2.data.toList.length = (q i).2.size := Array.length_toList
      unfold reachBytes at z1 z2
      exact ⟨e2, e3, by show (q i).1.size ≤ _; omega, by show (q i).2.size ≤ _; omega⟩

end Go.Proofs.YtdbplemcjnlfiaaGreatDoor
