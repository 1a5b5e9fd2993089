/-
  Signals: written and read by the codec, one and as a list.
-/
import Derived.Test.YtceocmhgbcimoaaCLst
namespace Go.Proofs.Ytceocmhgbcimoaa
open Go.RowKit

abbrev SignalD := ByteArray × ByteArray

def wrSignal (x : SignalD) : Option (List Int) := put (wrText x.1) (wrText x.2)

def signalC (x : SignalD) : List Value := [.string x.1, .string x.2]

def signalB (x : SignalD) : Nat := x.1.size + x.2.size + 24

theorem signalC_len (x : SignalD) : (signalC x).length = 2 := rfl

def rdSignal : Rd SignalD := rdBind (rdText) fun _ => rdText

theorem signalForm : Form rdSignal wrSignal := by
  have h : (wrSignal : SignalD → Option (List Int)) = wrBind wrText (fun _ => wrText) := by
    funext x
    unfold wrSignal
    exact put_bind wrText _ x
  rw [h]
  exact textForm.bind (fun _ _ => textForm)

theorem signal_size (x : SignalD) (q : List Int) (h : wrSignal x = some q) : q.length ≤ signalB x ∧ signalB x ≤ 24 * q.length := by
  unfold wrSignal at h
  obtain ⟨a1, b1, ha1, hb1, hl1⟩ := put_len h
  have e0 := text_size2 ha1
  have e1 := text_size2 hb1
  unfold signalB
  omega

theorem rdSignal_pos {raw : List Int} {i : Nat} {x : SignalD} {j : Nat} (h : rdSignal raw i = .ok (x, j)) : i < j := by
  unfold rdSignal rdBind at h
  cases h0 : rdText raw i with
  | error e => simp [h0] at h
  | ok y0 =>
    obtain ⟨u0, i0⟩ := y0
    have q0 := rdText_pos h0
    simp only [h0] at h
    cases h1 : rdText raw i0 with
    | error e => simp [h1] at h
    | ok y1 =>
      obtain ⟨u1, i1⟩ := y1
      have q1 := rdText_pos h1
      simp only [h1] at h
      simp only [Except.ok.injEq, Prod.mk.injEq] at h
      omega

set_option maxRecDepth 100000 in
set_option maxHeartbeats 400000 in
theorem wsignal_any {w : World} {base p : Nat} {st : Option (List Int)} {L : Nat} (I : WIn w 117 base p st L) (x0 : ByteArray) (x1 : ByteArray) (h0 : x0.size ≤ 140737488355328) (h1 : x1.size ≤ 140737488355328) (hL : L ≤ 1000000000000) :
    Calls Try.prog 85 #[.pointer (some ⟨p, 0, none⟩), .agg #[.string x0, .string x1]] w fun e w' => e = .returned (.tuple #[]) ∧ WIn w' 117 base p (put st (wrSignal (x0, x1))) (L + 2097300) ∧ Keep2 base p w w' := by
  have hb := I.bnd
  have I0 := I.alloc (.cells #[.string x0, .string x1] 128)
  have hC : ∀ w', Keep2 base p (w.alloc (.cells #[.string x0, .string x1] 128)) w' → w'.cell? ⟨w.heap.size, 0, none⟩ = some (.string x0) ∧ w'.cell? ⟨w.heap.size, 1, none⟩ = some (.string x1) := fun w' K => by
    have hb := K.o w.heap.size _ _ _ (by decide) (by omega) (heap_alloc_new w _)
    exact ⟨cellOf hb (o := 0) rfl, cellOf hb (o := 1) rfl⟩
  have HP : Hid (put st (wrSignal (x0, x1)) = put (put st (wrText x0)) (wrText x1)) := by show put st _ = _; unfold wrSignal; simp only [← put_assoc]
  obtain ⟨a0_0, a0_1⟩ := hC _ (Keep2.refl _ _ _)
  have KA : Hid (Keep2 base p w (w.alloc (.cells #[.string x0, .string x1] 128))) := Keep2.none (Kept.alloc _ _ _)
  clear I
  go_enter Try.func85, Try.ntmps85
  go_wp2_with (first
    | (go_at_call 80; have _t := I0; refine (wtext_any I0 x0 h0 (by omega)).mono ?_; rintro e w1 ⟨rfl, I1, K1⟩; have KK1 := K1; obtain ⟨a1_0, a1_1⟩ := hC _ KK1; clear I0 _t a0_0 a0_1)
    | (go_at_call 80; have _t := I1; refine (wtext_any I1 x1 h1 (by omega)).mono ?_; rintro e w2 ⟨rfl, I2, K2⟩; have KK2 := KK1.and K2; clear I1 _t a1_0 a1_1)
    | fail)
  go_end0
  rw [HP.out]
  exact ⟨rfl, I2.wide (by omega), KA.out.and KK2⟩

set_option maxRecDepth 100000 in
set_option maxHeartbeats 400000 in
theorem wsignals_any {w : World} {base p : Nat} {st : Option (List Int)} {L : Nat} (I : WIn w 117 base p st L) (hL : L ≤ 1000000000) (a : Option Addr) (n c : Nat) (xs : List SignalD) (O : RowAt 2 signalC w a n c xs) (hlow : 0 < n → ∀ ad, a = some ad → ad.block < base) (hB : bulkL signalB xs ≤ 100000000) :
    Calls Try.prog 84 #[.pointer (some ⟨p, 0, none⟩), .slice a n c, .func (.func 85) #[] #[]] w fun e w' => e = .returned (.tuple #[]) ∧ WIn w' 117 base p (put st (wrLst wrSignal ((n : Int), xs))) (L + 200000000) ∧ Keep2 base p w w' := by
  have hN := wnum_any I n 0 4503599627370496 (by decide) (by decide) (by omega)
  have hlen := O.len
  rw [← wrL_eq hlen st]
  generalize put st (wrNum 0 4503599627370496 n) = s1 at *
  clear I
  go_enter Try.func84, Try.ntmps84
  go_wp2_with (first
    | (go_at_call 81; refine hN.mono ?_; rintro e w1 ⟨rfl, I1, K1⟩; clear hN)
    | fail)
  have HO : Hid (RowAt 2 signalC w a n c xs) := O
  have hn : n ≤ 100000000 := by have := bulkL_len (B := signalB) (fun x => by unfold signalB; omega) xs; omega
  clear O
  go_loopw [14] (fun i wr => ∃ (k : Nat) (M : Nat), i = .int .i64 k ∧ k ≤ n ∧ M ≤ L + 150000000 ∧ (wrL wrSignal s1 (xs.take k) ≠ none → M + bulkL signalB (xs.drop k) ≤ L + 110000000) ∧ WIn wr 117 base p (wrL wrSignal s1 (xs.take k)) M ∧ Keep2 base p w wr) (fun i _ => n - (intOf i).toNat)
  case atStart => exact ⟨0, L + 8, rfl, Nat.zero_le _, by omega, fun _ => by rw [List.drop_zero]; omega, I1, K1⟩
  case round =>
    obtain ⟨k, M, rfl, hk, hM0, hM, I2, K2⟩ := hrel
    by_cases hkn : k = n
    · subst hkn
      have hc : ¬ ((k : Int) < (k : Int)) := by omega
      rw [List.take_of_length_le (by omega)] at I2
      have HI : Hid (WIn wr 117 base p (wrL wrSignal s1 xs) M) := I2
      clear I2 I1
      go_wp2
      go_end0
      exact ⟨rfl, HI.out.wide (by omega), K2⟩
    · have hkl : k < xs.length := by omega
      obtain ⟨o, ho⟩ : ∃ o, xs[k]? = some o := ⟨xs[k], List.getElem?_eq_getElem hkl⟩
      obtain ⟨x0, x1⟩ := o
      cases a with
      | none => have := HO.out.nil rfl; omega
      | some ad =>
        obtain ⟨hsp, hcs⟩ := HO.out.cells ad rfl (by omega)
        obtain ⟨b, off, sp⟩ := ad
        obtain rfl : sp = none := hsp
        have hbl : b < base := hlow (by omega) _ rfl
        have d0 : w.cell? ⟨b, off + k * 2, none⟩ = some (.string x0) := hcs k _ ho 0 _ rfl
        have d1 : w.cell? ⟨b, off + k * 2 + 1, none⟩ = some (.string x1) := hcs k _ ho 1 _ rfl
        have hbw : ∀ q u, w.cell? ⟨b, q, none⟩ = some u → wr.cell? ⟨b, q, none⟩ = some u := fun q u h => (cell_keep K2.k h (by show ¬ base ≤ b; omega)).1
        have e0 := hbw _ _ d0
        have e1 := hbw _ _ d1
        have hc : (k : Int) < (n : Int) := by omega
        clear d0 d1 hcs hbw I1 K1
        have hnx := wrL_next (W := wrSignal) s1 xs k _ ho
        have hbn := bulkL_next (B := signalB) xs k _ ho
        have IB := I2.alloc (.cells #[.string x0, .string x1] 128)
        have KB : Keep2 base p w (wr.alloc (.cells #[.string x0, .string x1] 128)) := K2.and (Keep2.none (Kept.alloc _ _ _))
        have hbx := heap_alloc_new wr (.cells #[.string x0, .string x1] 128)
        have q0 := cellOf hbx (o := 0) rfl
        have q1 := cellOf hbx (o := 1) rfl
        clear I2 K2 hbx
        cases hst : wrL wrSignal s1 (xs.take k) with
        | none =>
          rw [hst] at IB
          obtain ⟨v, raw, bad, A, hr, hb⟩ := IB
          obtain rfl : bad = true := bad_none hb
          have c1 := A.c1
          have HA : Hid (WAt (wr.alloc (.cells #[.string x0, .string x1] 128)) 117 base p v raw true) := A
          have HE : Hid (wrL wrSignal s1 xs = none) := by show wrL wrSignal s1 xs = none; rw [wrL_split s1 xs k, hst, wrL_none]
          clear A hnx hbn hb hst
          go_wp2
          refine bodyPost_ret (results_none rfl _ _ _) rfl ?_
          rw [HE.out]
          exact ⟨rfl, ⟨v, raw, true, HA.out, by omega, rfl⟩, KB⟩
        | some q =>
          have hM1 := hM (by rw [hst]; intro e; cases e)
          rw [hst] at IB
          have hOp := wsignal_any IB x0 x1 (by simp only [signalB] at hbn; omega) (by simp only [signalB] at hbn; omega) (by omega)
          obtain ⟨v, raw, bad, A, hr, hb⟩ := IB
          obtain ⟨rfl, rfl⟩ := bad_some hb
          have c1 := A.c1
          rw [hst] at hnx
          rw [← hnx] at hOp
          have HX : Hid (wrL wrSignal s1 (xs.take (k + 1)) = put (some q) (wrSignal (x0, x1))) := hnx
          clear A hnx hb hst hM
          go_wp2_with (first
            | (go_at_call 85; refine hOp.mono ?_; rintro e w2 ⟨rfl, I3, K3⟩; clear hOp)
            | fail)
          go_roundw
          case rel =>
            cases hz : wrL wrSignal s1 (xs.take (k + 1)) with
            | none =>
              rw [hz] at I3
              exact ⟨k + 1, M + 2097300, by simp, by omega, by omega, fun h => absurd hz h, by rw [hz]; exact I3, KB.and K3⟩
            | some q2 =>
              rw [hz] at I3
              have hl := HX.out
              rw [hz] at hl
              obtain ⟨x, y, hx, hy, hq⟩ := put_len hl.symm
              cases hx
              have := (signal_size _ _ hy).1
              exact ⟨k + 1, q2.length, by simp, by omega, by omega, fun _ => by omega, by rw [hz]; exact I3.tight, KB.and K3⟩
          case measure => simp [intOf]; omega

/-- It was read. -/
def signalEl (w0 w' : World) (E r : Nat) (a : Option Addr) (m c : Nat) (raw : List Int) (bad : Bool) (e : Ending) : Except Nat (SignalD × Nat) → Prop
  | .error pl => e = .returned (.bool false) ∧ ∃ cs, ElSt w0 w' 128 E r a m c raw pl true cs
  | .ok ((x0, x1), i) => e = .returned (.bool true) ∧ ElSt w0 w' 128 E r a m c raw i bad #[.string x0, .string x1]

set_option maxRecDepth 100000 in
set_option maxHeartbeats 1000000 in
theorem rsignal_any {w0 w : World} {E r : Nat} {a : Option Addr} {m c : Nat} {raw : List Int} {at_ : Nat} {bad : Bool} (S0 : ElSt w0 w 128 E r a m c raw at_ bad #[.string ⟨#[]⟩, .string ⟨#[]⟩]) :
    Calls Try.prog 95 #[.pointer (some ⟨r, 0, none⟩), .pointer (some ⟨E, 0, none⟩)] w fun e w' => signalEl w0 w' E r a m c raw bad e (rdSignal raw at_) := by
  cases hd0 : rdText raw at_ with
  | error pl =>
    have hx : rdSignal raw at_ = .error pl := by simp [rdSignal, rdBind, hd0]
    rw [hx]
    go_enter Try.func95, Try.ntmps95
    go_wp2_with (first
      | (go_at_call 90; have _t := S0; refine (el_text S0 0 _ rfl).mono ?_; intro e w1 h; rw [hd0] at h; obtain ⟨rfl, h⟩ := h; clear S0 _t)
      | fail)
    go_ret
    exact ⟨rfl, h⟩
  | ok y0 =>
    obtain ⟨x0, i0⟩ := y0
    cases hd1 : rdText raw i0 with
    | error pl =>
      have hx : rdSignal raw at_ = .error pl := by simp [rdSignal, rdBind, hd0, hd1]
      rw [hx]
      go_enter Try.func95, Try.ntmps95
      go_wp2_with (first
        | (go_at_call 90; have _t := S0; refine (el_text S0 0 _ rfl).mono ?_; intro e w1 h; rw [hd0] at h; obtain ⟨rfl, Q1⟩ := h; have S1 : ElSt w0 w1 128 E r a m c raw i0 bad #[.string x0, .string ⟨#[]⟩] := Q1; clear Q1; clear S0 _t)
        | (go_at_call 90; have _t := S1; refine (el_text S1 1 _ rfl).mono ?_; intro e w2 h; rw [hd1] at h; obtain ⟨rfl, h⟩ := h; clear S1 _t)
        | fail)
      go_ret
      exact ⟨rfl, h⟩
    | ok y1 =>
      obtain ⟨x1, i1⟩ := y1
      have hx : rdSignal raw at_ = .ok ((x0, x1), i1) := by simp [rdSignal, rdBind, hd0, hd1]
      rw [hx]
      go_enter Try.func95, Try.ntmps95
      go_wp2_with (first
        | (go_at_call 90; have _t := S0; refine (el_text S0 0 _ rfl).mono ?_; intro e w1 h; rw [hd0] at h; obtain ⟨rfl, Q1⟩ := h; have S1 : ElSt w0 w1 128 E r a m c raw i0 bad #[.string x0, .string ⟨#[]⟩] := Q1; clear Q1; clear S0 _t)
        | (go_at_call 90; have _t := S1; refine (el_text S1 1 _ rfl).mono ?_; intro e w2 h; rw [hd1] at h; obtain ⟨rfl, Q2⟩ := h; have S2 : ElSt w0 w2 128 E r a m c raw i1 bad #[.string x0, .string x1] := Q2; clear Q2; clear S1 _t)
        | fail)
      go_ret
      exact ⟨rfl, S2⟩

set_option maxRecDepth 100000 in
theorem signalInfo : ∃ i, Try.prog.info? 128 = some i ∧ i.zero = some (.agg #[.string ⟨#[]⟩, .string ⟨#[]⟩]) ∧ i.size = 2 ∧ i.bytes = 32 := by
  have h : (Try.prog.info? 128).map (fun i => (i.zero, i.size, i.bytes)) = some (some (.agg #[.string ⟨#[]⟩, .string ⟨#[]⟩]), 2, 32) := by kernel_rfl
  cases hi : Try.prog.info? 128 with
  | none => rw [hi] at h; cases h
  | some i =>
    rw [hi] at h
    simp only [Option.map_some, Option.some.injEq, Prod.mk.injEq] at h
    exact ⟨i, rfl, h.1, h.2.1, h.2.2⟩

theorem srcSignal {w : World} {x0 : ByteArray} {x1 : ByteArray} {t : TypeId} : Src (w.alloc (.cells #[.string x0, .string x1] t)) 2 (.slice (some ⟨w.heap.size, 0, none⟩) 1 1) 1 [.string x0, .string x1] :=
  .inl ⟨_, 1, rfl, rfl, World.news_of_block (heap_alloc_new w _)⟩

set_option maxRecDepth 100000 in
set_option maxHeartbeats 1000000 in
theorem rsignals_any {w : World} {EL r : Nat} {T : TypeId} {o : Nat} {cs : Array Value} {a : Option Addr} {m c : Nat} {raw : List Int} {at_ : Nat} {bad : Bool} (S : LsSt 128 2 signalC w w EL r T o cs a m c raw at_ bad [] (.slice none 0 0)) (hm : m ≤ 1000000000) :
    Calls Try.prog 94 #[.pointer (some ⟨r, 0, none⟩), .pointer (some ⟨EL, o, none⟩), .func (.func 95) #[] #[]] w fun e w' => LsEnd 128 2 signalC w w' EL r T o cs a m c raw bad e (rdLst rdSignal raw at_) := by
  have hnew := newCell w (.int .i64 0) 3
  have hbr := S.br
  have hN := rnumber_any (S.rd.alloc (.cells #[.int .i64 0] 3)) w.heap.size 0 (.int .i64 0) hnew.1 hnew.2 (by omega) (fun h ad e => by have := (S.na h ad e).1; omega) 0 4503599627370496
  have HS : Hid (LsSt 128 2 signalC w w EL r T o cs a m c raw at_ bad [] (.slice none 0 0)) := S
  cases hd : rdNum 0 4503599627370496 raw at_ with
  | error pl =>
    rw [hd] at hN
    have hx : rdLst rdSignal raw at_ = .error pl := by simp [rdLst, rdBind, hd]
    rw [hx]
    clear S
    go_enter Try.func94, Try.ntmps94
    go_wp2_with (first
      | (go_at_call 91; refine hN.mono ?_; rintro e w1 ⟨rfl, A1, w2, K2, hw⟩; clear hN)
      | fail)
    go_ret
    refine ⟨rfl, _, _, HS.out.step (at' := pl) (bad' := true) ?_ A1⟩
    have K3 : Kept (fun k => k = r) w w2 := Kept.new (S := fun k => k = r) (K2.mono (fun _ h => .inl h))
    rcases hw with rfl | ⟨v, rfl⟩
    · exact K3
    · exact Kept.new (S := fun k => k = r) ((K2.mono (fun _ h => .inl h)).and (Kept.setCell (S := fun k => k = r ∨ k = w.heap.size) _ _ _ (.inr rfl)))
  | ok y =>
    obtain ⟨n, i0⟩ := y
    obtain ⟨n0, n1, hil⟩ := rdNum_ok hd
    obtain ⟨n, rfl⟩ := Int.eq_ofNat_of_zero_le n0
    rw [hd] at hN
    have hx : rdLst rdSignal raw at_ = lstRes n (restL [] (rdMany rdSignal n raw i0)) := by
      simp only [rdLst, rdBind, hd, Int.toNat_natCast]
      cases rdMany rdSignal n raw i0 <;> rfl
    rw [hx]
    clear S hx hd
    go_enter Try.func94, Try.ntmps94
    go_wp2_with (first
      | (go_at_call 91; refine hN.mono ?_; rintro e w1 ⟨rfl, A1, w2, K2, rfl⟩; have h1 := (cell_keep K2 hnew.1 (by show ¬ w.heap.size = r; omega)).1; have hmany := World.cell?_setCell_same' w2 ⟨w.heap.size, 0, none⟩ (.int .i64 n) (by rw [h1]; rfl); have S1 := HS.out.step (Kept.new (S := fun k => k = r) ((K2.mono (fun _ h => .inl h)).and (Kept.setCell (S := fun k => k = r ∨ k = w.heap.size) _ _ _ (.inr rfl)))) A1; clear hN)
      | fail)
    have hlen := A1.bytes.len
    clear A1 K2 h1 hnew
    obtain ⟨t0, ht0, hz0, hz1, hz2⟩ := signalInfo
    go_loopw [13] (fun i wr => ∃ (k j : Nat) (xs : List SignalD) (v : Value), i = .int .i64 k ∧ k ≤ n ∧ xs.length = k ∧ k ≤ j ∧ LsSt 128 2 signalC w wr EL r T o cs a m c raw j bad xs v ∧ restL [] (rdMany rdSignal n raw i0) = restL xs (rdMany rdSignal (n - k) raw j)) (fun i _ => n - (intOf i).toNat)
    case atStart => exact ⟨0, i0, [], _, rfl, Nat.zero_le _, rfl, Nat.zero_le _, S1, by rw [Nat.sub_zero]⟩
    case round =>
      clear S1 hmany
      obtain ⟨k, j, xs, v, rfl, hk, hxl, hkj, S2, hrest⟩ := hrel
      by_cases hkn : k = n
      · subst hkn
        have hc : ¬ ((k : Int) < (k : Int)) := by omega
        rw [Nat.sub_self] at hrest
        have HR : Hid _ := hrest
        have HS2 : Hid (LsSt 128 2 signalC w wr EL r T o cs a m c raw j bad xs v) := S2
        clear hrest S2
        go_wp2
        go_ret
        rw [HR.out]
        simp only [rdMany, rdOne, restL, lstRes, List.append_nil]
        exact ⟨rfl, v, HS2.out⟩
      · have hc : (k : Int) < (n : Int) := by omega
        obtain ⟨q, hq⟩ : ∃ q, n - k = q + 1 := ⟨n - k - 1, by omega⟩
        rw [hq] at hrest
        have hO := rsignal_any (S2.el #[.string ⟨#[]⟩, .string ⟨#[]⟩] 128)
        have HS2 : Hid (LsSt 128 2 signalC w wr EL r T o cs a m c raw j bad xs v) := S2
        have hjm := S2.rd.le
        cases hd : rdSignal raw j with
        | error pl =>
          rw [hd] at hO
          rw [restL_err hd] at hrest
          have HR : Hid _ := hrest
          clear hrest S2
          go_wp2_with (first
            | (go_at_call 95; refine hO.mono ?_; rintro e w4 ⟨rfl, cs, El⟩; clear hO)
            | fail)
          go_ret
          rw [HR.out]
          simp only [lstRes]
          exact ⟨rfl, _, _, HS2.out.read El⟩
        | ok y =>
          obtain ⟨⟨x0, x1⟩, j2⟩ := y
          rw [hd] at hO
          rw [restL_ok hd] at hrest
          have hpos := rdSignal_pos hd
          have HR : Hid _ := hrest
          clear hrest S2
          go_wp2_with (first
            | (go_at_call 95; refine hO.mono ?_; rintro e w4 ⟨rfl, El⟩; clear hO)
            | fail)
          have S4 := HS2.out.read El
          have r4 := S4.row
          rw [hxl] at r4
          obtain ⟨a4, c4, rfl⟩ := ownsRow_shape r4
          obtain ⟨y0, f0⟩ := S4.cell
          have q0 := (El.cell (o := 0) rfl).1
          have q1 := (El.cell (o := 1) rfl).1
          have KA := Kept.alloc (fun _ => False) w4 (.cells #[.string x0, .string x1] 128)
          have y1 := (cell_keep KA y0 (fun h => h)).1
          have qa0 := (cell_keep KA q0 (fun h => h)).1
          have qa1 := (cell_keep KA q1 (fun h => h)).1
          have ra := World.ownsRow.drew (r4.alloc (.cells #[.string x0, .string x1] 128))
          have sN : Src (w4.alloc (.cells #[.string x0, .string x1] 128)).drew 2 (.slice (some ⟨w4.heap.size, 0, none⟩) 1 1) 1 [.string x0, .string x1] := srcSignal
          have hb : w.heap.size ≤ (w4.alloc (.cells #[.string x0, .string x1] 128)).drew.heap.size := by have := S4.kept.size; simp; omega
          have HS4 : Hid (LsSt 128 2 signalC w w4 EL r T o cs a m c raw j2 bad xs (.slice a4 k c4)) := S4
          have k2 : ∀ w3, (w4.alloc (.cells #[.string x0, .string x1] 128)).drew.grownBy w3 (Value.slice a4 k c4).ownBlock → Kept (fun kk => (Value.slice a4 k c4).ownBlock = some kk) w4 w3 ∧ w3.cell? ⟨EL, o, none⟩ = some (.slice a4 k c4) ∧ w3.frozen? ⟨EL, o, none⟩ = false := fun w3 hg => by
            have K : Kept (fun kk => (Value.slice a4 k c4).ownBlock = some kk) w4 w3 := ((Kept.alloc _ w4 _).and (Kept.drew _ _)).and (Kept.grown hg (fun k e => e))
            have hk := K.block EL (by have := HS4.out.kept.size; have := HS4.out.bE; omega) (fun e => by have := (HS4.out.row.lt EL e).1; have := HS4.out.bE; omega)
            have ho := HS4.out.ho
            exact ⟨K, by simp [World.cell?, hk, HS4.out.lc, ho], by simp [World.frozen?, hk, HS4.out.lc]⟩
          clear S4 El KA r4
          go_region_law
            (first
              | (refine step_append_src _ (by rfl) _ _ _ (by rfl) w.heap.size 128 t0 _ 2 32 Try.underlying70 ht0 hz0 hz1 hz2 rfl (by decide) (.slice a4 k c4) k _ (by rfl) ra _ (by rfl) 1 _ sN (by simp [Value.oneCell']) (by unfold maxLen; omega) (by omega) hb ?_; intro a5 cap5 w5 ho5 hg5 _ hl5; obtain ⟨K5, y5, f5⟩ := k2 w5 hg5))
          all_goals
            have S5 := HS4.out.push (x := (x0, x1)) K5 (by rw [hxl]; exact ho5)
            clear ho5 hg5 hl5 y5 f5 k2 ra sN
            go_wp2
            go_roundw
            case rel => exact ⟨k + 1, j2, xs ++ [(x0, x1)], _, by simp, by omega, by simp; omega, by omega, S5, by rw [HR.out, show n - (k + 1) = q by omega]⟩
            case measure => simp [intOf]; omega

end Go.Proofs.Ytceocmhgbcimoaa
