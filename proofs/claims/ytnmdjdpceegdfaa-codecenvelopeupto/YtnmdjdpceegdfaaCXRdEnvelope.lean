/-
  The document's ReadEnvelope.
-/
import Derived.Test.YtnmdjdpceegdfaaCXMail
import Derived.Test.YtnmdjdpceegdfaaCRdEnvelope
namespace Go.Proofs.Ytnmdjdpceegdfaa
open Go.RowKit

def mailVal (raw : List Int) (st : Except Nat Nat) : Int × PartsD := if xval 0 (maP0 raw st) = 0 then (0, noParts) else (xval 0 (maP0 raw st), xval ⟨#[]⟩ (maP1 raw st), xval ⟨#[]⟩ (maP2 raw st), xval ⟨#[]⟩ (maP3 raw st), xval ⟨#[]⟩ (maP4 raw st), xval ⟨#[]⟩ (maP5 raw st), xval 0 (maP6 raw st))

def mailEnd (raw : List Int) (st : Except Nat Nat) : Except Nat Nat := if xval 0 (maP0 raw st) = 0 then xst (maP0 raw st) else xst (maP6 raw st)

theorem xrmail_any {w : World} {r : Nat} {a : Option Addr} {m c : Nat} {raw : List Int} {st : Except Nat Nat} (A : XAt w r a m c raw st) :
    Calls Try.prog 57 #[.pointer (some ⟨r, 0, none⟩)] w fun e w' => e = .returned (.agg #[.int .i64 (mailVal raw st).1, .string (mailVal raw st).2.1, .string (mailVal raw st).2.2.1, .string (mailVal raw st).2.2.2.1, .string (mailVal raw st).2.2.2.2.1, .string (mailVal raw st).2.2.2.2.2.1, .int .i64 (mailVal raw st).2.2.2.2.2.2]) ∧ XAt w' r a m c raw (mailEnd raw st) ∧ Kept (fun k => k = r) w w' := by
  unfold mailVal mailEnd
  by_cases h : xval 0 (maP0 raw st) = 0
  · rw [if_pos h, if_pos h]
    exact xrmail_none A h
  · rw [if_neg h, if_neg h]
    exact xrmail_some A h

theorem mail_link (raw : List Int) (st : Except Nat Nat) : mailEnd raw st = xst (xnext rdMail raw st) ∧ ∀ v i, xnext rdMail raw st = .ok (v, i) → mailVal raw st = v := by
  cases st with
  | error e => simp [mailEnd, maP0, xnext, xst, xval]
  | ok i =>
    cases h0 : rdNum 0 4 raw i with
    | error e => simp [mailEnd, rdMail, rdBind, maP0, xnext, xst, xval, h0]
    | ok y0 =>
      obtain ⟨k, i0⟩ := y0
      by_cases hk : k = 0
      · subst hk
        constructor
        · simp [mailEnd, rdMail, rdBind, rdNo, maP0, xnext, xst, xval, h0]
        · intro v j h
          simp [rdMail, rdBind, rdNo, xnext, h0] at h
          simp [mailVal, maP0, xnext, xval, h0, ← h.1]
      · have e1 : mailEnd raw (.ok i) = xst (maP6 raw (.ok i)) := by unfold mailEnd; rw [if_neg (by simpa [maP0, xnext, xval, h0] using hk)]
        have e2 : mailVal raw (.ok i) = (xval 0 (maP0 raw (.ok i)), xval ⟨#[]⟩ (maP1 raw (.ok i)), xval ⟨#[]⟩ (maP2 raw (.ok i)), xval ⟨#[]⟩ (maP3 raw (.ok i)), xval ⟨#[]⟩ (maP4 raw (.ok i)), xval ⟨#[]⟩ (maP5 raw (.ok i)), xval 0 (maP6 raw (.ok i))) := by unfold mailVal; rw [if_neg (by simpa [maP0, xnext, xval, h0] using hk)]
        rw [e1, e2]
        cases h1 : rdText raw i0 with
        | error e => simp [rdMail, rdBind, rdParts, maP0, maP1, maP2, maP3, maP4, maP5, maP6, xnext, xst, hk, h0, h1]
        | ok y1 =>
          obtain ⟨u1, i1⟩ := y1
          cases h2 : rdText raw i1 with
          | error e => simp [rdMail, rdBind, rdParts, maP0, maP1, maP2, maP3, maP4, maP5, maP6, xnext, xst, hk, h0, h1, h2]
          | ok y2 =>
            obtain ⟨u2, i2⟩ := y2
            cases h3 : rdText raw i2 with
            | error e => simp [rdMail, rdBind, rdParts, maP0, maP1, maP2, maP3, maP4, maP5, maP6, xnext, xst, hk, h0, h1, h2, h3]
            | ok y3 =>
              obtain ⟨u3, i3⟩ := y3
              cases h4 : rdText raw i3 with
              | error e => simp [rdMail, rdBind, rdParts, maP0, maP1, maP2, maP3, maP4, maP5, maP6, xnext, xst, hk, h0, h1, h2, h3, h4]
              | ok y4 =>
                obtain ⟨u4, i4⟩ := y4
                cases h5 : rdText raw i4 with
                | error e => simp [rdMail, rdBind, rdParts, maP0, maP1, maP2, maP3, maP4, maP5, maP6, xnext, xst, hk, h0, h1, h2, h3, h4, h5]
                | ok y5 =>
                  obtain ⟨u5, i5⟩ := y5
                  cases h6 : rdNum 0 4 raw i5 with
                  | error e => simp [rdMail, rdBind, rdParts, maP0, maP1, maP2, maP3, maP4, maP5, maP6, xnext, xst, hk, h0, h1, h2, h3, h4, h5, h6]
                  | ok y6 =>
                    obtain ⟨u6, i6⟩ := y6
                    constructor
                    · simp [rdMail, rdBind, rdParts, maP0, maP1, maP2, maP3, maP4, maP5, maP6, xnext, xst, hk, h0, h1, h2, h3, h4, h5, h6]
                    · intro v j h
                      simp [rdMail, rdBind, rdParts, xnext, hk, h0, h1, h2, h3, h4, h5, h6] at h
                      simp [maP0, maP1, maP2, maP3, maP4, maP5, maP6, xnext, xst, xval, h0, h1, h2, h3, h4, h5, h6, ← h.1]

def enP0 (raw : List Int) : Except Nat (Int × Nat) := xnext (rdNum 1 2) raw (.ok 0)
def enP1 (raw : List Int) : Except Nat (Int × Nat) := xnext (rdNum 0 4503599627370496) raw (xst (enP0 raw))
def enP2 (raw : List Int) : Except Nat (Int × Nat) := xnext (rdNum 0 4503599627370496) raw (xst (enP1 raw))
def enP3 (raw : List Int) : Except Nat (Int × Nat) := xnext (rdNum 0 4503599627370496) raw (xst (enP2 raw))

theorem en_whole (raw : List Int) : rdWhole rdEnvelope raw = match xend raw (mailEnd raw (xst (enP3 raw))) with | .error pl => .error pl | .ok _ => .ok (xval 0 (enP0 raw), xval 0 (enP1 raw), xval 0 (enP2 raw), xval 0 (enP3 raw), mailVal raw (xst (enP3 raw))) := by
  obtain ⟨l1, l2⟩ := mail_link raw (xst (enP3 raw))
  rw [l1]
  cases h0 : rdNum 1 2 raw 0 with
  | error e => simp [rdWhole, rdEnvelope, rdBind, enP0, enP1, enP2, enP3, xnext, xst, xend, h0]
  | ok y0 =>
    obtain ⟨u0, i0⟩ := y0
    cases h1 : rdNum 0 4503599627370496 raw i0 with
    | error e => simp [rdWhole, rdEnvelope, rdBind, enP0, enP1, enP2, enP3, xnext, xst, xend, h0, h1]
    | ok y1 =>
      obtain ⟨u1, i1⟩ := y1
      cases h2 : rdNum 0 4503599627370496 raw i1 with
      | error e => simp [rdWhole, rdEnvelope, rdBind, enP0, enP1, enP2, enP3, xnext, xst, xend, h0, h1, h2]
      | ok y2 =>
        obtain ⟨u2, i2⟩ := y2
        cases h3 : rdNum 0 4503599627370496 raw i2 with
        | error e => simp [rdWhole, rdEnvelope, rdBind, enP0, enP1, enP2, enP3, xnext, xst, xend, h0, h1, h2, h3]
        | ok y3 =>
          obtain ⟨u3, i3⟩ := y3
          have hp : xst (enP3 raw) = .ok i3 := by simp [enP0, enP1, enP2, enP3, xnext, xst, h0, h1, h2, h3]
          rw [hp] at l2 ⊢
          simp only [xnext] at l2
          cases h4 : rdMail raw i3 with
          | error e => simp [rdWhole, rdEnvelope, rdBind, xnext, xst, xend, h0, h1, h2, h3, h4]
          | ok y4 =>
            obtain ⟨u4, i4⟩ := y4
            rw [l2 u4 i4 h4]
            simp only [rdWhole, rdEnvelope, rdBind, enP0, enP1, enP2, enP3, xnext, xst, xval, xend, h0, h1, h2, h3, h4]
            split <;> rfl

theorem xrec_mail {w0 w : World} {T : TypeId} {R r E : Nat} {a : Option Addr} {m c : Nat} {raw : List Int} {st : Except Nat Nat} {zs cs : Array Value} (S : XRec w0 w T R r E a m c raw st zs cs) :
    Calls Try.prog 57 #[.pointer (some ⟨r, 0, none⟩)] w fun e w' => e = .returned (.agg #[.int .i64 (mailVal raw st).1, .string (mailVal raw st).2.1, .string (mailVal raw st).2.2.1, .string (mailVal raw st).2.2.2.1, .string (mailVal raw st).2.2.2.2.1, .string (mailVal raw st).2.2.2.2.2.1, .int .i64 (mailVal raw st).2.2.2.2.2.2]) ∧ XRec w0 w' T R r E a m c raw (mailEnd raw st) zs cs :=
  (xrmail_any S.rd).mono (fun _ _ ⟨h, A, K⟩ => ⟨h, S.to K A⟩)

set_option maxRecDepth 100000 in
set_option maxHeartbeats 1000000 in
theorem xenv_error {w : World} {a : Option Addr} {m c : Nat} {raw : List Int} {s0 s1 s2 s3 s4 s5 : Except Nat Nat} {v0 v1 v2 v3 v4 : Int} {v5 v6 v7 v8 v9 : ByteArray} {v10 : Int} (S0 : XRec w (((w.alloc (.cells #[.int .i64 0, .int .i64 0, .int .i64 0, .int .i64 0, .int .i64 0, .string ⟨#[]⟩, .string ⟨#[]⟩, .string ⟨#[]⟩, .string ⟨#[]⟩, .string ⟨#[]⟩, .int .i64 0] 38)).alloc (.cells #[.slice a m c, .int .i64 0, .bool false, .int .i64 0] 84)).alloc (.cells #[.int .i64 0, .int .i64 0, .int .i64 0, .int .i64 0, .int .i64 0, .string ⟨#[]⟩, .string ⟨#[]⟩, .string ⟨#[]⟩, .string ⟨#[]⟩, .string ⟨#[]⟩, .int .i64 0] 38)) 38 w.heap.size (w.heap.size + 1) (w.heap.size + 1 + 1) a m c raw s0 #[.int .i64 0, .int .i64 0, .int .i64 0, .int .i64 0, .int .i64 0, .string ⟨#[]⟩, .string ⟨#[]⟩, .string ⟨#[]⟩, .string ⟨#[]⟩, .string ⟨#[]⟩, .int .i64 0] #[.int .i64 0, .int .i64 0, .int .i64 0, .int .i64 0, .int .i64 0, .string ⟨#[]⟩, .string ⟨#[]⟩, .string ⟨#[]⟩, .string ⟨#[]⟩, .string ⟨#[]⟩, .int .i64 0]) {pl : Nat} (hx : xend raw s5 = .error pl)
    (f0 : Hid (∀ (w0 w : World) (T : TypeId) (R r E : Nat) (zs cs : Array Value), XRec w0 w T R r E a m c raw s0 zs cs → Calls Try.prog 48 #[.pointer (some ⟨r, 0, none⟩), .int .i64 1, .int .i64 2] w fun e w' => e = .returned (.int .i64 v0) ∧ XRec w0 w' T R r E a m c raw s1 zs cs))
    (f1 : Hid (∀ (w0 w : World) (T : TypeId) (R r E : Nat) (zs cs : Array Value), XRec w0 w T R r E a m c raw s1 zs cs → Calls Try.prog 48 #[.pointer (some ⟨r, 0, none⟩), .int .i64 0, .int .i64 4503599627370496] w fun e w' => e = .returned (.int .i64 v1) ∧ XRec w0 w' T R r E a m c raw s2 zs cs))
    (f2 : Hid (∀ (w0 w : World) (T : TypeId) (R r E : Nat) (zs cs : Array Value), XRec w0 w T R r E a m c raw s2 zs cs → Calls Try.prog 48 #[.pointer (some ⟨r, 0, none⟩), .int .i64 0, .int .i64 4503599627370496] w fun e w' => e = .returned (.int .i64 v2) ∧ XRec w0 w' T R r E a m c raw s3 zs cs))
    (f3 : Hid (∀ (w0 w : World) (T : TypeId) (R r E : Nat) (zs cs : Array Value), XRec w0 w T R r E a m c raw s3 zs cs → Calls Try.prog 48 #[.pointer (some ⟨r, 0, none⟩), .int .i64 0, .int .i64 4503599627370496] w fun e w' => e = .returned (.int .i64 v3) ∧ XRec w0 w' T R r E a m c raw s4 zs cs))
    (f4 : Hid (∀ (w0 w : World) (T : TypeId) (R r E : Nat) (zs cs : Array Value), XRec w0 w T R r E a m c raw s4 zs cs → Calls Try.prog 57 #[.pointer (some ⟨r, 0, none⟩)] w fun e w' => e = .returned (.agg #[.int .i64 v4, .string v5, .string v6, .string v7, .string v8, .string v9, .int .i64 v10]) ∧ XRec w0 w' T R r E a m c raw s5 zs cs)) :
    Calls Try.prog 20 #[.slice a m c] w fun e w' => e = .returned (.tuple #[.agg #[.int .i64 0, .int .i64 0, .int .i64 0, .int .i64 0, .int .i64 0, .string ⟨#[]⟩, .string ⟨#[]⟩, .string ⟨#[]⟩, .string ⟨#[]⟩, .string ⟨#[]⟩, .int .i64 0], .int .i64 pl, .int .i64 2]) ∧ Kept (fun _ => False) w w' := by
  go_enter Try.func20, Try.ntmps20
  go_wp2_with (first
    | (go_at_call 48; have _t := S0; refine (f0.out _ _ _ _ _ _ _ _ S0).mono ?_; rintro e w1 ⟨rfl, T1⟩; obtain ⟨y0, z0⟩ := T1.cell (o := 0) rfl; have S1 : XRec w (w1.setCell ⟨w.heap.size + 1 + 1, 0, none⟩ (.int .i64 v0)) 38 w.heap.size (w.heap.size + 1) (w.heap.size + 1 + 1) a m c raw s1 #[.int .i64 0, .int .i64 0, .int .i64 0, .int .i64 0, .int .i64 0, .string ⟨#[]⟩, .string ⟨#[]⟩, .string ⟨#[]⟩, .string ⟨#[]⟩, .string ⟨#[]⟩, .int .i64 0] #[.int .i64 v0, .int .i64 0, .int .i64 0, .int .i64 0, .int .i64 0, .string ⟨#[]⟩, .string ⟨#[]⟩, .string ⟨#[]⟩, .string ⟨#[]⟩, .string ⟨#[]⟩, .int .i64 0] := T1.store 0 (.int .i64 v0); clear S0 _t T1 f0)
    | (go_at_call 48; have _t := S1; refine (f1.out _ _ _ _ _ _ _ _ S1).mono ?_; rintro e w2 ⟨rfl, T2⟩; obtain ⟨y1, z1⟩ := T2.cell (o := 1) rfl; have S2 : XRec w (w2.setCell ⟨w.heap.size + 1 + 1, 1, none⟩ (.int .i64 v1)) 38 w.heap.size (w.heap.size + 1) (w.heap.size + 1 + 1) a m c raw s2 #[.int .i64 0, .int .i64 0, .int .i64 0, .int .i64 0, .int .i64 0, .string ⟨#[]⟩, .string ⟨#[]⟩, .string ⟨#[]⟩, .string ⟨#[]⟩, .string ⟨#[]⟩, .int .i64 0] #[.int .i64 v0, .int .i64 v1, .int .i64 0, .int .i64 0, .int .i64 0, .string ⟨#[]⟩, .string ⟨#[]⟩, .string ⟨#[]⟩, .string ⟨#[]⟩, .string ⟨#[]⟩, .int .i64 0] := T2.store 1 (.int .i64 v1); clear S1 _t T2 f1)
    | (go_at_call 48; have _t := S2; refine (f2.out _ _ _ _ _ _ _ _ S2).mono ?_; rintro e w3 ⟨rfl, T3⟩; obtain ⟨y2, z2⟩ := T3.cell (o := 2) rfl; have S3 : XRec w (w3.setCell ⟨w.heap.size + 1 + 1, 2, none⟩ (.int .i64 v2)) 38 w.heap.size (w.heap.size + 1) (w.heap.size + 1 + 1) a m c raw s3 #[.int .i64 0, .int .i64 0, .int .i64 0, .int .i64 0, .int .i64 0, .string ⟨#[]⟩, .string ⟨#[]⟩, .string ⟨#[]⟩, .string ⟨#[]⟩, .string ⟨#[]⟩, .int .i64 0] #[.int .i64 v0, .int .i64 v1, .int .i64 v2, .int .i64 0, .int .i64 0, .string ⟨#[]⟩, .string ⟨#[]⟩, .string ⟨#[]⟩, .string ⟨#[]⟩, .string ⟨#[]⟩, .int .i64 0] := T3.store 2 (.int .i64 v2); clear S2 _t T3 f2)
    | (go_at_call 48; have _t := S3; refine (f3.out _ _ _ _ _ _ _ _ S3).mono ?_; rintro e w4 ⟨rfl, T4⟩; obtain ⟨y3, z3⟩ := T4.cell (o := 3) rfl; have S4 : XRec w (w4.setCell ⟨w.heap.size + 1 + 1, 3, none⟩ (.int .i64 v3)) 38 w.heap.size (w.heap.size + 1) (w.heap.size + 1 + 1) a m c raw s4 #[.int .i64 0, .int .i64 0, .int .i64 0, .int .i64 0, .int .i64 0, .string ⟨#[]⟩, .string ⟨#[]⟩, .string ⟨#[]⟩, .string ⟨#[]⟩, .string ⟨#[]⟩, .int .i64 0] #[.int .i64 v0, .int .i64 v1, .int .i64 v2, .int .i64 v3, .int .i64 0, .string ⟨#[]⟩, .string ⟨#[]⟩, .string ⟨#[]⟩, .string ⟨#[]⟩, .string ⟨#[]⟩, .int .i64 0] := T4.store 3 (.int .i64 v3); clear S3 _t T4 f3)
    | (go_at_call 57; have _t := S4; refine (f4.out _ _ _ _ _ _ _ _ S4).mono ?_; rintro e w5 ⟨rfl, T5⟩; obtain ⟨y4, z4⟩ := T5.cell (o := 4) rfl; obtain ⟨y5, z5⟩ := T5.cell (o := 5) rfl; obtain ⟨y6, z6⟩ := T5.cell (o := 6) rfl; obtain ⟨y7, z7⟩ := T5.cell (o := 7) rfl; obtain ⟨y8, z8⟩ := T5.cell (o := 8) rfl; obtain ⟨y9, z9⟩ := T5.cell (o := 9) rfl; obtain ⟨y10, z10⟩ := T5.cell (o := 10) rfl; have U4 : XRec w (w5.setCell ⟨w.heap.size + 1 + 1, 4, none⟩ (.int .i64 v4)) 38 w.heap.size (w.heap.size + 1) (w.heap.size + 1 + 1) a m c raw s5 #[.int .i64 0, .int .i64 0, .int .i64 0, .int .i64 0, .int .i64 0, .string ⟨#[]⟩, .string ⟨#[]⟩, .string ⟨#[]⟩, .string ⟨#[]⟩, .string ⟨#[]⟩, .int .i64 0] #[.int .i64 v0, .int .i64 v1, .int .i64 v2, .int .i64 v3, .int .i64 v4, .string ⟨#[]⟩, .string ⟨#[]⟩, .string ⟨#[]⟩, .string ⟨#[]⟩, .string ⟨#[]⟩, .int .i64 0] := T5.store 4 (.int .i64 v4); have U5 : XRec w ((w5.setCell ⟨w.heap.size + 1 + 1, 4, none⟩ (.int .i64 v4)).setCell ⟨w.heap.size + 1 + 1, 5, none⟩ (.string v5)) 38 w.heap.size (w.heap.size + 1) (w.heap.size + 1 + 1) a m c raw s5 #[.int .i64 0, .int .i64 0, .int .i64 0, .int .i64 0, .int .i64 0, .string ⟨#[]⟩, .string ⟨#[]⟩, .string ⟨#[]⟩, .string ⟨#[]⟩, .string ⟨#[]⟩, .int .i64 0] #[.int .i64 v0, .int .i64 v1, .int .i64 v2, .int .i64 v3, .int .i64 v4, .string v5, .string ⟨#[]⟩, .string ⟨#[]⟩, .string ⟨#[]⟩, .string ⟨#[]⟩, .int .i64 0] := U4.store 5 (.string v5); have U6 : XRec w (((w5.setCell ⟨w.heap.size + 1 + 1, 4, none⟩ (.int .i64 v4)).setCell ⟨w.heap.size + 1 + 1, 5, none⟩ (.string v5)).setCell ⟨w.heap.size + 1 + 1, 6, none⟩ (.string v6)) 38 w.heap.size (w.heap.size + 1) (w.heap.size + 1 + 1) a m c raw s5 #[.int .i64 0, .int .i64 0, .int .i64 0, .int .i64 0, .int .i64 0, .string ⟨#[]⟩, .string ⟨#[]⟩, .string ⟨#[]⟩, .string ⟨#[]⟩, .string ⟨#[]⟩, .int .i64 0] #[.int .i64 v0, .int .i64 v1, .int .i64 v2, .int .i64 v3, .int .i64 v4, .string v5, .string v6, .string ⟨#[]⟩, .string ⟨#[]⟩, .string ⟨#[]⟩, .int .i64 0] := U5.store 6 (.string v6); have U7 : XRec w ((((w5.setCell ⟨w.heap.size + 1 + 1, 4, none⟩ (.int .i64 v4)).setCell ⟨w.heap.size + 1 + 1, 5, none⟩ (.string v5)).setCell ⟨w.heap.size + 1 + 1, 6, none⟩ (.string v6)).setCell ⟨w.heap.size + 1 + 1, 7, none⟩ (.string v7)) 38 w.heap.size (w.heap.size + 1) (w.heap.size + 1 + 1) a m c raw s5 #[.int .i64 0, .int .i64 0, .int .i64 0, .int .i64 0, .int .i64 0, .string ⟨#[]⟩, .string ⟨#[]⟩, .string ⟨#[]⟩, .string ⟨#[]⟩, .string ⟨#[]⟩, .int .i64 0] #[.int .i64 v0, .int .i64 v1, .int .i64 v2, .int .i64 v3, .int .i64 v4, .string v5, .string v6, .string v7, .string ⟨#[]⟩, .string ⟨#[]⟩, .int .i64 0] := U6.store 7 (.string v7); have U8 : XRec w (((((w5.setCell ⟨w.heap.size + 1 + 1, 4, none⟩ (.int .i64 v4)).setCell ⟨w.heap.size + 1 + 1, 5, none⟩ (.string v5)).setCell ⟨w.heap.size + 1 + 1, 6, none⟩ (.string v6)).setCell ⟨w.heap.size + 1 + 1, 7, none⟩ (.string v7)).setCell ⟨w.heap.size + 1 + 1, 8, none⟩ (.string v8)) 38 w.heap.size (w.heap.size + 1) (w.heap.size + 1 + 1) a m c raw s5 #[.int .i64 0, .int .i64 0, .int .i64 0, .int .i64 0, .int .i64 0, .string ⟨#[]⟩, .string ⟨#[]⟩, .string ⟨#[]⟩, .string ⟨#[]⟩, .string ⟨#[]⟩, .int .i64 0] #[.int .i64 v0, .int .i64 v1, .int .i64 v2, .int .i64 v3, .int .i64 v4, .string v5, .string v6, .string v7, .string v8, .string ⟨#[]⟩, .int .i64 0] := U7.store 8 (.string v8); have U9 : XRec w ((((((w5.setCell ⟨w.heap.size + 1 + 1, 4, none⟩ (.int .i64 v4)).setCell ⟨w.heap.size + 1 + 1, 5, none⟩ (.string v5)).setCell ⟨w.heap.size + 1 + 1, 6, none⟩ (.string v6)).setCell ⟨w.heap.size + 1 + 1, 7, none⟩ (.string v7)).setCell ⟨w.heap.size + 1 + 1, 8, none⟩ (.string v8)).setCell ⟨w.heap.size + 1 + 1, 9, none⟩ (.string v9)) 38 w.heap.size (w.heap.size + 1) (w.heap.size + 1 + 1) a m c raw s5 #[.int .i64 0, .int .i64 0, .int .i64 0, .int .i64 0, .int .i64 0, .string ⟨#[]⟩, .string ⟨#[]⟩, .string ⟨#[]⟩, .string ⟨#[]⟩, .string ⟨#[]⟩, .int .i64 0] #[.int .i64 v0, .int .i64 v1, .int .i64 v2, .int .i64 v3, .int .i64 v4, .string v5, .string v6, .string v7, .string v8, .string v9, .int .i64 0] := U8.store 9 (.string v9); have U10 : XRec w (((((((w5.setCell ⟨w.heap.size + 1 + 1, 4, none⟩ (.int .i64 v4)).setCell ⟨w.heap.size + 1 + 1, 5, none⟩ (.string v5)).setCell ⟨w.heap.size + 1 + 1, 6, none⟩ (.string v6)).setCell ⟨w.heap.size + 1 + 1, 7, none⟩ (.string v7)).setCell ⟨w.heap.size + 1 + 1, 8, none⟩ (.string v8)).setCell ⟨w.heap.size + 1 + 1, 9, none⟩ (.string v9)).setCell ⟨w.heap.size + 1 + 1, 10, none⟩ (.int .i64 v10)) 38 w.heap.size (w.heap.size + 1) (w.heap.size + 1 + 1) a m c raw s5 #[.int .i64 0, .int .i64 0, .int .i64 0, .int .i64 0, .int .i64 0, .string ⟨#[]⟩, .string ⟨#[]⟩, .string ⟨#[]⟩, .string ⟨#[]⟩, .string ⟨#[]⟩, .int .i64 0] #[.int .i64 v0, .int .i64 v1, .int .i64 v2, .int .i64 v3, .int .i64 v4, .string v5, .string v6, .string v7, .string v8, .string v9, .int .i64 v10] := U9.store 10 (.int .i64 v10); clear S4 _t T5 f4 U4 U5 U6 U7 U8 U9)
    | (go_at_call 51; have _t := U10; refine (xrec_end U10).mono ?_; rintro e wE ⟨rfl, ⟨hE, hR⟩, K⟩; rw [hx]; simp only [endTup]; obtain ⟨e0, _⟩ := cellOf' hE (o := 0) rfl; obtain ⟨e1, _⟩ := cellOf' hE (o := 1) rfl; obtain ⟨e2, _⟩ := cellOf' hE (o := 2) rfl; obtain ⟨e3, _⟩ := cellOf' hE (o := 3) rfl; obtain ⟨e4, _⟩ := cellOf' hE (o := 4) rfl; obtain ⟨e5, _⟩ := cellOf' hE (o := 5) rfl; obtain ⟨e6, _⟩ := cellOf' hE (o := 6) rfl; obtain ⟨e7, _⟩ := cellOf' hE (o := 7) rfl; obtain ⟨e8, _⟩ := cellOf' hE (o := 8) rfl; obtain ⟨e9, _⟩ := cellOf' hE (o := 9) rfl; obtain ⟨e10, _⟩ := cellOf' hE (o := 10) rfl; obtain ⟨r0, g0⟩ := cellOf' hR (o := 0) rfl; obtain ⟨r1, g1⟩ := cellOf' hR (o := 1) rfl; obtain ⟨r2, g2⟩ := cellOf' hR (o := 2) rfl; obtain ⟨r3, g3⟩ := cellOf' hR (o := 3) rfl; obtain ⟨r4, g4⟩ := cellOf' hR (o := 4) rfl; obtain ⟨r5, g5⟩ := cellOf' hR (o := 5) rfl; obtain ⟨r6, g6⟩ := cellOf' hR (o := 6) rfl; obtain ⟨r7, g7⟩ := cellOf' hR (o := 7) rfl; obtain ⟨r8, g8⟩ := cellOf' hR (o := 8) rfl; obtain ⟨r9, g9⟩ := cellOf' hR (o := 9) rfl; obtain ⟨r10, g10⟩ := cellOf' hR (o := 10) rfl; have HR : Hid _ := hR; clear U10 _t hE hR)
    | fail)
  have hR : (((((((((((wE.setCell ⟨w.heap.size, 0, none⟩ (.int .i64 0)).setCell ⟨w.heap.size, 1, none⟩ (.int .i64 0)).setCell ⟨w.heap.size, 2, none⟩ (.int .i64 0)).setCell ⟨w.heap.size, 3, none⟩ (.int .i64 0)).setCell ⟨w.heap.size, 4, none⟩ (.int .i64 0)).setCell ⟨w.heap.size, 5, none⟩ (.string ⟨#[]⟩)).setCell ⟨w.heap.size, 6, none⟩ (.string ⟨#[]⟩)).setCell ⟨w.heap.size, 7, none⟩ (.string ⟨#[]⟩)).setCell ⟨w.heap.size, 8, none⟩ (.string ⟨#[]⟩)).setCell ⟨w.heap.size, 9, none⟩ (.string ⟨#[]⟩)).setCell ⟨w.heap.size, 10, none⟩ (.int .i64 0)).heap[w.heap.size]? = some (.cells #[.int .i64 0, .int .i64 0, .int .i64 0, .int .i64 0, .int .i64 0, .string ⟨#[]⟩, .string ⟨#[]⟩, .string ⟨#[]⟩, .string ⟨#[]⟩, .string ⟨#[]⟩, .int .i64 0] 38 (0, 0)) := by simp [World.setCell, Array.getElem?_modify, HR.out]
  have q0 := cellOf hR (o := 0) rfl
  have q1 := cellOf hR (o := 1) rfl
  have q2 := cellOf hR (o := 2) rfl
  have q3 := cellOf hR (o := 3) rfl
  have q4 := cellOf hR (o := 4) rfl
  have q5 := cellOf hR (o := 5) rfl
  have q6 := cellOf hR (o := 6) rfl
  have q7 := cellOf hR (o := 7) rfl
  have q8 := cellOf hR (o := 8) rfl
  have q9 := cellOf hR (o := 9) rfl
  have q10 := cellOf hR (o := 10) rfl
  refine bodyPost_ret (by simp [results, Try.results20, go_sem, q0, q1, q2, q3, q4, q5, q6, q7, q8, q9, q10]; try rfl) rfl ?_
  exact ⟨rfl, (((((((((((K.trans (Kept.setCell (S := fun k => k = w.heap.size) _ _ _ rfl) (fun k h => .inr (by omega))).trans (Kept.setCell (S := fun k => k = w.heap.size) _ _ _ rfl) (fun k h => .inr (by omega))).trans (Kept.setCell (S := fun k => k = w.heap.size) _ _ _ rfl) (fun k h => .inr (by omega))).trans (Kept.setCell (S := fun k => k = w.heap.size) _ _ _ rfl) (fun k h => .inr (by omega))).trans (Kept.setCell (S := fun k => k = w.heap.size) _ _ _ rfl) (fun k h => .inr (by omega))).trans (Kept.setCell (S := fun k => k = w.heap.size) _ _ _ rfl) (fun k h => .inr (by omega))).trans (Kept.setCell (S := fun k => k = w.heap.size) _ _ _ rfl) (fun k h => .inr (by omega))).trans (Kept.setCell (S := fun k => k = w.heap.size) _ _ _ rfl) (fun k h => .inr (by omega))).trans (Kept.setCell (S := fun k => k = w.heap.size) _ _ _ rfl) (fun k h => .inr (by omega))).trans (Kept.setCell (S := fun k => k = w.heap.size) _ _ _ rfl) (fun k h => .inr (by omega))).trans (Kept.setCell (S := fun k => k = w.heap.size) _ _ _ rfl) (fun k h => .inr (by omega)))⟩

set_option maxRecDepth 100000 in
set_option maxHeartbeats 1000000 in
theorem xenv_ok {w : World} {a : Option Addr} {m c : Nat} {raw : List Int} {s0 s1 s2 s3 s4 s5 : Except Nat Nat} {v0 v1 v2 v3 v4 : Int} {v5 v6 v7 v8 v9 : ByteArray} {v10 : Int} (S0 : XRec w (((w.alloc (.cells #[.int .i64 0, .int .i64 0, .int .i64 0, .int .i64 0, .int .i64 0, .string ⟨#[]⟩, .string ⟨#[]⟩, .string ⟨#[]⟩, .string ⟨#[]⟩, .string ⟨#[]⟩, .int .i64 0] 38)).alloc (.cells #[.slice a m c, .int .i64 0, .bool false, .int .i64 0] 84)).alloc (.cells #[.int .i64 0, .int .i64 0, .int .i64 0, .int .i64 0, .int .i64 0, .string ⟨#[]⟩, .string ⟨#[]⟩, .string ⟨#[]⟩, .string ⟨#[]⟩, .string ⟨#[]⟩, .int .i64 0] 38)) 38 w.heap.size (w.heap.size + 1) (w.heap.size + 1 + 1) a m c raw s0 #[.int .i64 0, .int .i64 0, .int .i64 0, .int .i64 0, .int .i64 0, .string ⟨#[]⟩, .string ⟨#[]⟩, .string ⟨#[]⟩, .string ⟨#[]⟩, .string ⟨#[]⟩, .int .i64 0] #[.int .i64 0, .int .i64 0, .int .i64 0, .int .i64 0, .int .i64 0, .string ⟨#[]⟩, .string ⟨#[]⟩, .string ⟨#[]⟩, .string ⟨#[]⟩, .string ⟨#[]⟩, .int .i64 0]) (hx : xend raw s5 = .ok ())
    (f0 : Hid (∀ (w0 w : World) (T : TypeId) (R r E : Nat) (zs cs : Array Value), XRec w0 w T R r E a m c raw s0 zs cs → Calls Try.prog 48 #[.pointer (some ⟨r, 0, none⟩), .int .i64 1, .int .i64 2] w fun e w' => e = .returned (.int .i64 v0) ∧ XRec w0 w' T R r E a m c raw s1 zs cs))
    (f1 : Hid (∀ (w0 w : World) (T : TypeId) (R r E : Nat) (zs cs : Array Value), XRec w0 w T R r E a m c raw s1 zs cs → Calls Try.prog 48 #[.pointer (some ⟨r, 0, none⟩), .int .i64 0, .int .i64 4503599627370496] w fun e w' => e = .returned (.int .i64 v1) ∧ XRec w0 w' T R r E a m c raw s2 zs cs))
    (f2 : Hid (∀ (w0 w : World) (T : TypeId) (R r E : Nat) (zs cs : Array Value), XRec w0 w T R r E a m c raw s2 zs cs → Calls Try.prog 48 #[.pointer (some ⟨r, 0, none⟩), .int .i64 0, .int .i64 4503599627370496] w fun e w' => e = .returned (.int .i64 v2) ∧ XRec w0 w' T R r E a m c raw s3 zs cs))
    (f3 : Hid (∀ (w0 w : World) (T : TypeId) (R r E : Nat) (zs cs : Array Value), XRec w0 w T R r E a m c raw s3 zs cs → Calls Try.prog 48 #[.pointer (some ⟨r, 0, none⟩), .int .i64 0, .int .i64 4503599627370496] w fun e w' => e = .returned (.int .i64 v3) ∧ XRec w0 w' T R r E a m c raw s4 zs cs))
    (f4 : Hid (∀ (w0 w : World) (T : TypeId) (R r E : Nat) (zs cs : Array Value), XRec w0 w T R r E a m c raw s4 zs cs → Calls Try.prog 57 #[.pointer (some ⟨r, 0, none⟩)] w fun e w' => e = .returned (.agg #[.int .i64 v4, .string v5, .string v6, .string v7, .string v8, .string v9, .int .i64 v10]) ∧ XRec w0 w' T R r E a m c raw s5 zs cs)) :
    Calls Try.prog 20 #[.slice a m c] w fun e w' => e = .returned (.tuple #[.agg #[.int .i64 v0, .int .i64 v1, .int .i64 v2, .int .i64 v3, .int .i64 v4, .string v5, .string v6, .string v7, .string v8, .string v9, .int .i64 v10], .int .i64 0, .int .i64 0]) ∧ Kept (fun _ => False) w w' := by
  go_enter Try.func20, Try.ntmps20
  go_wp2_with (first
    | (go_at_call 48; have _t := S0; refine (f0.out _ _ _ _ _ _ _ _ S0).mono ?_; rintro e w1 ⟨rfl, T1⟩; obtain ⟨y0, z0⟩ := T1.cell (o := 0) rfl; have S1 : XRec w (w1.setCell ⟨w.heap.size + 1 + 1, 0, none⟩ (.int .i64 v0)) 38 w.heap.size (w.heap.size + 1) (w.heap.size + 1 + 1) a m c raw s1 #[.int .i64 0, .int .i64 0, .int .i64 0, .int .i64 0, .int .i64 0, .string ⟨#[]⟩, .string ⟨#[]⟩, .string ⟨#[]⟩, .string ⟨#[]⟩, .string ⟨#[]⟩, .int .i64 0] #[.int .i64 v0, .int .i64 0, .int .i64 0, .int .i64 0, .int .i64 0, .string ⟨#[]⟩, .string ⟨#[]⟩, .string ⟨#[]⟩, .string ⟨#[]⟩, .string ⟨#[]⟩, .int .i64 0] := T1.store 0 (.int .i64 v0); clear S0 _t T1 f0)
    | (go_at_call 48; have _t := S1; refine (f1.out _ _ _ _ _ _ _ _ S1).mono ?_; rintro e w2 ⟨rfl, T2⟩; obtain ⟨y1, z1⟩ := T2.cell (o := 1) rfl; have S2 : XRec w (w2.setCell ⟨w.heap.size + 1 + 1, 1, none⟩ (.int .i64 v1)) 38 w.heap.size (w.heap.size + 1) (w.heap.size + 1 + 1) a m c raw s2 #[.int .i64 0, .int .i64 0, .int .i64 0, .int .i64 0, .int .i64 0, .string ⟨#[]⟩, .string ⟨#[]⟩, .string ⟨#[]⟩, .string ⟨#[]⟩, .string ⟨#[]⟩, .int .i64 0] #[.int .i64 v0, .int .i64 v1, .int .i64 0, .int .i64 0, .int .i64 0, .string ⟨#[]⟩, .string ⟨#[]⟩, .string ⟨#[]⟩, .string ⟨#[]⟩, .string ⟨#[]⟩, .int .i64 0] := T2.store 1 (.int .i64 v1); clear S1 _t T2 f1)
    | (go_at_call 48; have _t := S2; refine (f2.out _ _ _ _ _ _ _ _ S2).mono ?_; rintro e w3 ⟨rfl, T3⟩; obtain ⟨y2, z2⟩ := T3.cell (o := 2) rfl; have S3 : XRec w (w3.setCell ⟨w.heap.size + 1 + 1, 2, none⟩ (.int .i64 v2)) 38 w.heap.size (w.heap.size + 1) (w.heap.size + 1 + 1) a m c raw s3 #[.int .i64 0, .int .i64 0, .int .i64 0, .int .i64 0, .int .i64 0, .string ⟨#[]⟩, .string ⟨#[]⟩, .string ⟨#[]⟩, .string ⟨#[]⟩, .string ⟨#[]⟩, .int .i64 0] #[.int .i64 v0, .int .i64 v1, .int .i64 v2, .int .i64 0, .int .i64 0, .string ⟨#[]⟩, .string ⟨#[]⟩, .string ⟨#[]⟩, .string ⟨#[]⟩, .string ⟨#[]⟩, .int .i64 0] := T3.store 2 (.int .i64 v2); clear S2 _t T3 f2)
    | (go_at_call 48; have _t := S3; refine (f3.out _ _ _ _ _ _ _ _ S3).mono ?_; rintro e w4 ⟨rfl, T4⟩; obtain ⟨y3, z3⟩ := T4.cell (o := 3) rfl; have S4 : XRec w (w4.setCell ⟨w.heap.size + 1 + 1, 3, none⟩ (.int .i64 v3)) 38 w.heap.size (w.heap.size + 1) (w.heap.size + 1 + 1) a m c raw s4 #[.int .i64 0, .int .i64 0, .int .i64 0, .int .i64 0, .int .i64 0, .string ⟨#[]⟩, .string ⟨#[]⟩, .string ⟨#[]⟩, .string ⟨#[]⟩, .string ⟨#[]⟩, .int .i64 0] #[.int .i64 v0, .int .i64 v1, .int .i64 v2, .int .i64 v3, .int .i64 0, .string ⟨#[]⟩, .string ⟨#[]⟩, .string ⟨#[]⟩, .string ⟨#[]⟩, .string ⟨#[]⟩, .int .i64 0] := T4.store 3 (.int .i64 v3); clear S3 _t T4 f3)
    | (go_at_call 57; have _t := S4; refine (f4.out _ _ _ _ _ _ _ _ S4).mono ?_; rintro e w5 ⟨rfl, T5⟩; obtain ⟨y4, z4⟩ := T5.cell (o := 4) rfl; obtain ⟨y5, z5⟩ := T5.cell (o := 5) rfl; obtain ⟨y6, z6⟩ := T5.cell (o := 6) rfl; obtain ⟨y7, z7⟩ := T5.cell (o := 7) rfl; obtain ⟨y8, z8⟩ := T5.cell (o := 8) rfl; obtain ⟨y9, z9⟩ := T5.cell (o := 9) rfl; obtain ⟨y10, z10⟩ := T5.cell (o := 10) rfl; have U4 : XRec w (w5.setCell ⟨w.heap.size + 1 + 1, 4, none⟩ (.int .i64 v4)) 38 w.heap.size (w.heap.size + 1) (w.heap.size + 1 + 1) a m c raw s5 #[.int .i64 0, .int .i64 0, .int .i64 0, .int .i64 0, .int .i64 0, .string ⟨#[]⟩, .string ⟨#[]⟩, .string ⟨#[]⟩, .string ⟨#[]⟩, .string ⟨#[]⟩, .int .i64 0] #[.int .i64 v0, .int .i64 v1, .int .i64 v2, .int .i64 v3, .int .i64 v4, .string ⟨#[]⟩, .string ⟨#[]⟩, .string ⟨#[]⟩, .string ⟨#[]⟩, .string ⟨#[]⟩, .int .i64 0] := T5.store 4 (.int .i64 v4); have U5 : XRec w ((w5.setCell ⟨w.heap.size + 1 + 1, 4, none⟩ (.int .i64 v4)).setCell ⟨w.heap.size + 1 + 1, 5, none⟩ (.string v5)) 38 w.heap.size (w.heap.size + 1) (w.heap.size + 1 + 1) a m c raw s5 #[.int .i64 0, .int .i64 0, .int .i64 0, .int .i64 0, .int .i64 0, .string ⟨#[]⟩, .string ⟨#[]⟩, .string ⟨#[]⟩, .string ⟨#[]⟩, .string ⟨#[]⟩, .int .i64 0] #[.int .i64 v0, .int .i64 v1, .int .i64 v2, .int .i64 v3, .int .i64 v4, .string v5, .string ⟨#[]⟩, .string ⟨#[]⟩, .string ⟨#[]⟩, .string ⟨#[]⟩, .int .i64 0] := U4.store 5 (.string v5); have U6 : XRec w (((w5.setCell ⟨w.heap.size + 1 + 1, 4, none⟩ (.int .i64 v4)).setCell ⟨w.heap.size + 1 + 1, 5, none⟩ (.string v5)).setCell ⟨w.heap.size + 1 + 1, 6, none⟩ (.string v6)) 38 w.heap.size (w.heap.size + 1) (w.heap.size + 1 + 1) a m c raw s5 #[.int .i64 0, .int .i64 0, .int .i64 0, .int .i64 0, .int .i64 0, .string ⟨#[]⟩, .string ⟨#[]⟩, .string ⟨#[]⟩, .string ⟨#[]⟩, .string ⟨#[]⟩, .int .i64 0] #[.int .i64 v0, .int .i64 v1, .int .i64 v2, .int .i64 v3, .int .i64 v4, .string v5, .string v6, .string ⟨#[]⟩, .string ⟨#[]⟩, .string ⟨#[]⟩, .int .i64 0] := U5.store 6 (.string v6); have U7 : XRec w ((((w5.setCell ⟨w.heap.size + 1 + 1, 4, none⟩ (.int .i64 v4)).setCell ⟨w.heap.size + 1 + 1, 5, none⟩ (.string v5)).setCell ⟨w.heap.size + 1 + 1, 6, none⟩ (.string v6)).setCell ⟨w.heap.size + 1 + 1, 7, none⟩ (.string v7)) 38 w.heap.size (w.heap.size + 1) (w.heap.size + 1 + 1) a m c raw s5 #[.int .i64 0, .int .i64 0, .int .i64 0, .int .i64 0, .int .i64 0, .string ⟨#[]⟩, .string ⟨#[]⟩, .string ⟨#[]⟩, .string ⟨#[]⟩, .string ⟨#[]⟩, .int .i64 0] #[.int .i64 v0, .int .i64 v1, .int .i64 v2, .int .i64 v3, .int .i64 v4, .string v5, .string v6, .string v7, .string ⟨#[]⟩, .string ⟨#[]⟩, .int .i64 0] := U6.store 7 (.string v7); have U8 : XRec w (((((w5.setCell ⟨w.heap.size + 1 + 1, 4, none⟩ (.int .i64 v4)).setCell ⟨w.heap.size + 1 + 1, 5, none⟩ (.string v5)).setCell ⟨w.heap.size + 1 + 1, 6, none⟩ (.string v6)).setCell ⟨w.heap.size + 1 + 1, 7, none⟩ (.string v7)).setCell ⟨w.heap.size + 1 + 1, 8, none⟩ (.string v8)) 38 w.heap.size (w.heap.size + 1) (w.heap.size + 1 + 1) a m c raw s5 #[.int .i64 0, .int .i64 0, .int .i64 0, .int .i64 0, .int .i64 0, .string ⟨#[]⟩, .string ⟨#[]⟩, .string ⟨#[]⟩, .string ⟨#[]⟩, .string ⟨#[]⟩, .int .i64 0] #[.int .i64 v0, .int .i64 v1, .int .i64 v2, .int .i64 v3, .int .i64 v4, .string v5, .string v6, .string v7, .string v8, .string ⟨#[]⟩, .int .i64 0] := U7.store 8 (.string v8); have U9 : XRec w ((((((w5.setCell ⟨w.heap.size + 1 + 1, 4, none⟩ (.int .i64 v4)).setCell ⟨w.heap.size + 1 + 1, 5, none⟩ (.string v5)).setCell ⟨w.heap.size + 1 + 1, 6, none⟩ (.string v6)).setCell ⟨w.heap.size + 1 + 1, 7, none⟩ (.string v7)).setCell ⟨w.heap.size + 1 + 1, 8, none⟩ (.string v8)).setCell ⟨w.heap.size + 1 + 1, 9, none⟩ (.string v9)) 38 w.heap.size (w.heap.size + 1) (w.heap.size + 1 + 1) a m c raw s5 #[.int .i64 0, .int .i64 0, .int .i64 0, .int .i64 0, .int .i64 0, .string ⟨#[]⟩, .string ⟨#[]⟩, .string ⟨#[]⟩, .string ⟨#[]⟩, .string ⟨#[]⟩, .int .i64 0] #[.int .i64 v0, .int .i64 v1, .int .i64 v2, .int .i64 v3, .int .i64 v4, .string v5, .string v6, .string v7, .string v8, .string v9, .int .i64 0] := U8.store 9 (.string v9); have U10 : XRec w (((((((w5.setCell ⟨w.heap.size + 1 + 1, 4, none⟩ (.int .i64 v4)).setCell ⟨w.heap.size + 1 + 1, 5, none⟩ (.string v5)).setCell ⟨w.heap.size + 1 + 1, 6, none⟩ (.string v6)).setCell ⟨w.heap.size + 1 + 1, 7, none⟩ (.string v7)).setCell ⟨w.heap.size + 1 + 1, 8, none⟩ (.string v8)).setCell ⟨w.heap.size + 1 + 1, 9, none⟩ (.string v9)).setCell ⟨w.heap.size + 1 + 1, 10, none⟩ (.int .i64 v10)) 38 w.heap.size (w.heap.size + 1) (w.heap.size + 1 + 1) a m c raw s5 #[.int .i64 0, .int .i64 0, .int .i64 0, .int .i64 0, .int .i64 0, .string ⟨#[]⟩, .string ⟨#[]⟩, .string ⟨#[]⟩, .string ⟨#[]⟩, .string ⟨#[]⟩, .int .i64 0] #[.int .i64 v0, .int .i64 v1, .int .i64 v2, .int .i64 v3, .int .i64 v4, .string v5, .string v6, .string v7, .string v8, .string v9, .int .i64 v10] := U9.store 10 (.int .i64 v10); clear S4 _t T5 f4 U4 U5 U6 U7 U8 U9)
    | (go_at_call 51; have _t := U10; refine (xrec_end U10).mono ?_; rintro e wE ⟨rfl, ⟨hE, hR⟩, K⟩; rw [hx]; simp only [endTup]; obtain ⟨e0, _⟩ := cellOf' hE (o := 0) rfl; obtain ⟨e1, _⟩ := cellOf' hE (o := 1) rfl; obtain ⟨e2, _⟩ := cellOf' hE (o := 2) rfl; obtain ⟨e3, _⟩ := cellOf' hE (o := 3) rfl; obtain ⟨e4, _⟩ := cellOf' hE (o := 4) rfl; obtain ⟨e5, _⟩ := cellOf' hE (o := 5) rfl; obtain ⟨e6, _⟩ := cellOf' hE (o := 6) rfl; obtain ⟨e7, _⟩ := cellOf' hE (o := 7) rfl; obtain ⟨e8, _⟩ := cellOf' hE (o := 8) rfl; obtain ⟨e9, _⟩ := cellOf' hE (o := 9) rfl; obtain ⟨e10, _⟩ := cellOf' hE (o := 10) rfl; obtain ⟨r0, g0⟩ := cellOf' hR (o := 0) rfl; obtain ⟨r1, g1⟩ := cellOf' hR (o := 1) rfl; obtain ⟨r2, g2⟩ := cellOf' hR (o := 2) rfl; obtain ⟨r3, g3⟩ := cellOf' hR (o := 3) rfl; obtain ⟨r4, g4⟩ := cellOf' hR (o := 4) rfl; obtain ⟨r5, g5⟩ := cellOf' hR (o := 5) rfl; obtain ⟨r6, g6⟩ := cellOf' hR (o := 6) rfl; obtain ⟨r7, g7⟩ := cellOf' hR (o := 7) rfl; obtain ⟨r8, g8⟩ := cellOf' hR (o := 8) rfl; obtain ⟨r9, g9⟩ := cellOf' hR (o := 9) rfl; obtain ⟨r10, g10⟩ := cellOf' hR (o := 10) rfl; have HR : Hid _ := hR; clear U10 _t hE hR)
    | fail)
  have hR : (((((((((((wE.setCell ⟨w.heap.size, 0, none⟩ (.int .i64 v0)).setCell ⟨w.heap.size, 1, none⟩ (.int .i64 v1)).setCell ⟨w.heap.size, 2, none⟩ (.int .i64 v2)).setCell ⟨w.heap.size, 3, none⟩ (.int .i64 v3)).setCell ⟨w.heap.size, 4, none⟩ (.int .i64 v4)).setCell ⟨w.heap.size, 5, none⟩ (.string v5)).setCell ⟨w.heap.size, 6, none⟩ (.string v6)).setCell ⟨w.heap.size, 7, none⟩ (.string v7)).setCell ⟨w.heap.size, 8, none⟩ (.string v8)).setCell ⟨w.heap.size, 9, none⟩ (.string v9)).setCell ⟨w.heap.size, 10, none⟩ (.int .i64 v10)).heap[w.heap.size]? = some (.cells #[.int .i64 v0, .int .i64 v1, .int .i64 v2, .int .i64 v3, .int .i64 v4, .string v5, .string v6, .string v7, .string v8, .string v9, .int .i64 v10] 38 (0, 0)) := by simp [World.setCell, Array.getElem?_modify, HR.out]
  have q0 := cellOf hR (o := 0) rfl
  have q1 := cellOf hR (o := 1) rfl
  have q2 := cellOf hR (o := 2) rfl
  have q3 := cellOf hR (o := 3) rfl
  have q4 := cellOf hR (o := 4) rfl
  have q5 := cellOf hR (o := 5) rfl
  have q6 := cellOf hR (o := 6) rfl
  have q7 := cellOf hR (o := 7) rfl
  have q8 := cellOf hR (o := 8) rfl
  have q9 := cellOf hR (o := 9) rfl
  have q10 := cellOf hR (o := 10) rfl
  refine bodyPost_ret (by simp [results, Try.results20, go_sem, q0, q1, q2, q3, q4, q5, q6, q7, q8, q9, q10]; try rfl) rfl ?_
  exact ⟨rfl, (((((((((((K.trans (Kept.setCell (S := fun k => k = w.heap.size) _ _ _ rfl) (fun k h => .inr (by omega))).trans (Kept.setCell (S := fun k => k = w.heap.size) _ _ _ rfl) (fun k h => .inr (by omega))).trans (Kept.setCell (S := fun k => k = w.heap.size) _ _ _ rfl) (fun k h => .inr (by omega))).trans (Kept.setCell (S := fun k => k = w.heap.size) _ _ _ rfl) (fun k h => .inr (by omega))).trans (Kept.setCell (S := fun k => k = w.heap.size) _ _ _ rfl) (fun k h => .inr (by omega))).trans (Kept.setCell (S := fun k => k = w.heap.size) _ _ _ rfl) (fun k h => .inr (by omega))).trans (Kept.setCell (S := fun k => k = w.heap.size) _ _ _ rfl) (fun k h => .inr (by omega))).trans (Kept.setCell (S := fun k => k = w.heap.size) _ _ _ rfl) (fun k h => .inr (by omega))).trans (Kept.setCell (S := fun k => k = w.heap.size) _ _ _ rfl) (fun k h => .inr (by omega))).trans (Kept.setCell (S := fun k => k = w.heap.size) _ _ _ rfl) (fun k h => .inr (by omega))).trans (Kept.setCell (S := fun k => k = w.heap.size) _ _ _ rfl) (fun k h => .inr (by omega)))⟩

theorem xreadEnvelope_any (w : World) (a : Option Addr) (m c : Nat) (raw : List Int) (B : BytesAt w a m c raw) (hm : m ≤ 140737488355328) :
    Calls Try.prog 20 #[.slice a m c] w fun e w' => e = .returned (enOut (rdWhole rdEnvelope raw)) ∧ Kept (fun _ => False) w w' := by
  have S0 := XRec.new B hm 38 #[.int .i64 0, .int .i64 0, .int .i64 0, .int .i64 0, .int .i64 0, .string ⟨#[]⟩, .string ⟨#[]⟩, .string ⟨#[]⟩, .string ⟨#[]⟩, .string ⟨#[]⟩, .int .i64 0]
  rw [en_whole raw]
  cases hx : xend raw (mailEnd raw (xst (enP3 raw))) with
  | error pl =>
    simp only [enOut]
    exact xenv_error (s0 := .ok 0) (s1 := xst (enP0 raw)) (s2 := xst (enP1 raw)) (s3 := xst (enP2 raw)) (s4 := xst (enP3 raw)) (s5 := (mailEnd raw (xst (enP3 raw)))) (v0 := xval 0 (enP0 raw)) (v1 := xval 0 (enP1 raw)) (v2 := xval 0 (enP2 raw)) (v3 := xval 0 (enP3 raw)) S0 hx (fun _ _ _ _ _ _ _ _ S => xrec_num (st := .ok 0) S 1 2) (fun _ _ _ _ _ _ _ _ S => xrec_num (st := xst (enP0 raw)) S 0 4503599627370496) (fun _ _ _ _ _ _ _ _ S => xrec_num (st := xst (enP1 raw)) S 0 4503599627370496) (fun _ _ _ _ _ _ _ _ S => xrec_num (st := xst (enP2 raw)) S 0 4503599627370496) (fun _ _ _ _ _ _ _ _ S => xrec_mail S)
  | ok u =>
    simp only [enOut]
    exact xenv_ok (s0 := .ok 0) (s1 := xst (enP0 raw)) (s2 := xst (enP1 raw)) (s3 := xst (enP2 raw)) (s4 := xst (enP3 raw)) (s5 := (mailEnd raw (xst (enP3 raw)))) (v0 := xval 0 (enP0 raw)) (v1 := xval 0 (enP1 raw)) (v2 := xval 0 (enP2 raw)) (v3 := xval 0 (enP3 raw)) S0 hx (fun _ _ _ _ _ _ _ _ S => xrec_num (st := .ok 0) S 1 2) (fun _ _ _ _ _ _ _ _ S => xrec_num (st := xst (enP0 raw)) S 0 4503599627370496) (fun _ _ _ _ _ _ _ _ S => xrec_num (st := xst (enP1 raw)) S 0 4503599627370496) (fun _ _ _ _ _ _ _ _ S => xrec_num (st := xst (enP2 raw)) S 0 4503599627370496) (fun _ _ _ _ _ _ _ _ S => xrec_mail S)

end Go.Proofs.Ytnmdjdpceegdfaa
