/-
  A mail, or none: read by the codec.
-/
import Derived.Test.YtnmdjdpceegdfaaCMailR
namespace Go.Proofs.Ytnmdjdpceegdfaa
open Go.RowKit

/-- A mail was read into an envelope. -/
def MailSt (w0 w' : World) (R E r : Nat) (a : Option Addr) (m c : Nat) (raw : List Int) (x0 x1 x2 x3 : Int) (e : Ending) : Except Nat ((Int × PartsD) × Nat) → Prop
  | .error pl => e = .returned (.bool false) ∧ ∃ (v4 : Int) (v5 v6 v7 v8 v9 : ByteArray) (v10 : Int), RecSt w0 w' 38 R E r a m c raw pl true #[.int .i64 0, .int .i64 0, .int .i64 0, .int .i64 0, .int .i64 0, .string ⟨#[]⟩, .string ⟨#[]⟩, .string ⟨#[]⟩, .string ⟨#[]⟩, .string ⟨#[]⟩, .int .i64 0] #[.int .i64 x0, .int .i64 x1, .int .i64 x2, .int .i64 x3, .int .i64 v4, .string v5, .string v6, .string v7, .string v8, .string v9, .int .i64 v10]
  | .ok ((v4, v5, v6, v7, v8, v9, v10), i) => e = .returned (.bool true) ∧ RecSt w0 w' 38 R E r a m c raw i false #[.int .i64 0, .int .i64 0, .int .i64 0, .int .i64 0, .int .i64 0, .string ⟨#[]⟩, .string ⟨#[]⟩, .string ⟨#[]⟩, .string ⟨#[]⟩, .string ⟨#[]⟩, .int .i64 0] #[.int .i64 x0, .int .i64 x1, .int .i64 x2, .int .i64 x3, .int .i64 v4, .string v5, .string v6, .string v7, .string v8, .string v9, .int .i64 v10]

set_option maxRecDepth 100000 in
set_option maxHeartbeats 4000000 in
theorem rec_mail {w0 w : World} {R E r : Nat} {a : Option Addr} {m c : Nat} {raw : List Int} {at_ : Nat} {x0 x1 x2 x3 : Int} (S : RecSt w0 w 38 R E r a m c raw at_ false #[.int .i64 0, .int .i64 0, .int .i64 0, .int .i64 0, .int .i64 0, .string ⟨#[]⟩, .string ⟨#[]⟩, .string ⟨#[]⟩, .string ⟨#[]⟩, .string ⟨#[]⟩, .int .i64 0] #[.int .i64 x0, .int .i64 x1, .int .i64 x2, .int .i64 x3, .int .i64 0, .string ⟨#[]⟩, .string ⟨#[]⟩, .string ⟨#[]⟩, .string ⟨#[]⟩, .string ⟨#[]⟩, .int .i64 0]) :
    Calls Try.prog 55 #[.pointer (some ⟨r, 0, none⟩), .pointer (some ⟨E, 4, none⟩)] w fun e w' => MailSt w0 w' R E r a m c raw x0 x1 x2 x3 e (rdMail raw at_) := by
  have S0 := S
  clear S
  cases hd0 : rdNum 0 4 raw at_ with
  | error pl =>
    have hx : rdMail raw at_ = .error pl := by simp [rdMail, rdBind, hd0]
    rw [hx]
    go_enter Try.func55, Try.ntmps55
    go_wp2_with (first
      | (go_at_call 43; have _t := S0; refine (rec_num S0 4 _ rfl 0 4).mono ?_; intro e w1 h; rw [hd0] at h; obtain ⟨rfl, h⟩ := h; clear S0 _t)
      | fail)
    go_ret
    rcases h with S | ⟨v, S⟩
    · exact ⟨rfl, _, _, _, _, _, _, _, S⟩
    · exact ⟨rfl, _, _, _, _, _, _, _, S⟩
  | ok y0 =>
    obtain ⟨k, i0⟩ := y0
    by_cases hk : k = 0
    · subst hk
      have hx : rdMail raw at_ = .ok ((0, noParts), i0) := by simp [rdMail, rdBind, hd0, rdNo]
      rw [hx]
      go_enter Try.func55, Try.ntmps55
      go_wp2_with (first
        | (go_at_call 43; have _t := S0; refine (rec_num S0 4 _ rfl 0 4).mono ?_; intro e w1 h; rw [hd0] at h; obtain ⟨rfl, Q1⟩ := h; have S1 : RecSt w0 w1 38 R E r a m c raw i0 false #[.int .i64 0, .int .i64 0, .int .i64 0, .int .i64 0, .int .i64 0, .string ⟨#[]⟩, .string ⟨#[]⟩, .string ⟨#[]⟩, .string ⟨#[]⟩, .string ⟨#[]⟩, .int .i64 0] #[.int .i64 x0, .int .i64 x1, .int .i64 x2, .int .i64 x3, .int .i64 0, .string ⟨#[]⟩, .string ⟨#[]⟩, .string ⟨#[]⟩, .string ⟨#[]⟩, .string ⟨#[]⟩, .int .i64 0] := Q1; clear Q1; have e4 := (S1.cell (o := 4) rfl).1; clear S0 _t)
        | fail)
      go_ret
      exact ⟨rfl, S1⟩
    · have hkk : k ≠ 0 := hk
      cases hd1 : rdText raw i0 with
      | error pl =>
        have hx : rdMail raw at_ = .error pl := by simp [rdMail, rdBind, rdParts, hk, hd0, hd1]
        rw [hx]
        go_enter Try.func55, Try.ntmps55
        go_wp2_with (first
          | (go_at_call 43; have _t := S0; refine (rec_num S0 4 _ rfl 0 4).mono ?_; intro e w1 h; rw [hd0] at h; obtain ⟨rfl, Q1⟩ := h; have S1 : RecSt w0 w1 38 R E r a m c raw i0 false #[.int .i64 0, .int .i64 0, .int .i64 0, .int .i64 0, .int .i64 0, .string ⟨#[]⟩, .string ⟨#[]⟩, .string ⟨#[]⟩, .string ⟨#[]⟩, .string ⟨#[]⟩, .int .i64 0] #[.int .i64 x0, .int .i64 x1, .int .i64 x2, .int .i64 x3, .int .i64 k, .string ⟨#[]⟩, .string ⟨#[]⟩, .string ⟨#[]⟩, .string ⟨#[]⟩, .string ⟨#[]⟩, .int .i64 0] := Q1; clear Q1; have e4 := (S1.cell (o := 4) rfl).1; clear S0 _t)
          | (go_at_call 44; have _t := S1; refine (rec_text S1 5 _ rfl).mono ?_; intro e w2 h; rw [hd1] at h; obtain ⟨rfl, h⟩ := h; clear S1 _t)
          | fail)
        go_ret
        rcases h with S | ⟨v, S⟩
        · exact ⟨rfl, _, _, _, _, _, _, _, S⟩
        · exact ⟨rfl, _, _, _, _, _, _, _, S⟩
      | ok y1 =>
        obtain ⟨x5, i1⟩ := y1
        cases hd2 : rdText raw i1 with
        | error pl =>
          have hx : rdMail raw at_ = .error pl := by simp [rdMail, rdBind, rdParts, hk, hd0, hd1, hd2]
          rw [hx]
          go_enter Try.func55, Try.ntmps55
          go_wp2_with (first
            | (go_at_call 43; have _t := S0; refine (rec_num S0 4 _ rfl 0 4).mono ?_; intro e w1 h; rw [hd0] at h; obtain ⟨rfl, Q1⟩ := h; have S1 : RecSt w0 w1 38 R E r a m c raw i0 false #[.int .i64 0, .int .i64 0, .int .i64 0, .int .i64 0, .int .i64 0, .string ⟨#[]⟩, .string ⟨#[]⟩, .string ⟨#[]⟩, .string ⟨#[]⟩, .string ⟨#[]⟩, .int .i64 0] #[.int .i64 x0, .int .i64 x1, .int .i64 x2, .int .i64 x3, .int .i64 k, .string ⟨#[]⟩, .string ⟨#[]⟩, .string ⟨#[]⟩, .string ⟨#[]⟩, .string ⟨#[]⟩, .int .i64 0] := Q1; clear Q1; have e4 := (S1.cell (o := 4) rfl).1; clear S0 _t)
            | (go_at_call 44; have _t := S1; refine (rec_text S1 5 _ rfl).mono ?_; intro e w2 h; rw [hd1] at h; obtain ⟨rfl, Q2⟩ := h; have S2 : RecSt w0 w2 38 R E r a m c raw i1 false #[.int .i64 0, .int .i64 0, .int .i64 0, .int .i64 0, .int .i64 0, .string ⟨#[]⟩, .string ⟨#[]⟩, .string ⟨#[]⟩, .string ⟨#[]⟩, .string ⟨#[]⟩, .int .i64 0] #[.int .i64 x0, .int .i64 x1, .int .i64 x2, .int .i64 x3, .int .i64 k, .string x5, .string ⟨#[]⟩, .string ⟨#[]⟩, .string ⟨#[]⟩, .string ⟨#[]⟩, .int .i64 0] := Q2; clear Q2; clear S1 _t)
            | (go_at_call 44; have _t := S2; refine (rec_text S2 6 _ rfl).mono ?_; intro e w3 h; rw [hd2] at h; obtain ⟨rfl, h⟩ := h; clear S2 _t)
            | fail)
          go_ret
          rcases h with S | ⟨v, S⟩
          · exact ⟨rfl, _, _, _, _, _, _, _, S⟩
          · exact ⟨rfl, _, _, _, _, _, _, _, S⟩
        | ok y2 =>
          obtain ⟨x6, i2⟩ := y2
          cases hd3 : rdText raw i2 with
          | error pl =>
            have hx : rdMail raw at_ = .error pl := by simp [rdMail, rdBind, rdParts, hk, hd0, hd1, hd2, hd3]
            rw [hx]
            go_enter Try.func55, Try.ntmps55
            go_wp2_with (first
              | (go_at_call 43; have _t := S0; refine (rec_num S0 4 _ rfl 0 4).mono ?_; intro e w1 h; rw [hd0] at h; obtain ⟨rfl, Q1⟩ := h; have S1 : RecSt w0 w1 38 R E r a m c raw i0 false #[.int .i64 0, .int .i64 0, .int .i64 0, .int .i64 0, .int .i64 0, .string ⟨#[]⟩, .string ⟨#[]⟩, .string ⟨#[]⟩, .string ⟨#[]⟩, .string ⟨#[]⟩, .int .i64 0] #[.int .i64 x0, .int .i64 x1, .int .i64 x2, .int .i64 x3, .int .i64 k, .string ⟨#[]⟩, .string ⟨#[]⟩, .string ⟨#[]⟩, .string ⟨#[]⟩, .string ⟨#[]⟩, .int .i64 0] := Q1; clear Q1; have e4 := (S1.cell (o := 4) rfl).1; clear S0 _t)
              | (go_at_call 44; have _t := S1; refine (rec_text S1 5 _ rfl).mono ?_; intro e w2 h; rw [hd1] at h; obtain ⟨rfl, Q2⟩ := h; have S2 : RecSt w0 w2 38 R E r a m c raw i1 false #[.int .i64 0, .int .i64 0, .int .i64 0, .int .i64 0, .int .i64 0, .string ⟨#[]⟩, .string ⟨#[]⟩, .string ⟨#[]⟩, .string ⟨#[]⟩, .string ⟨#[]⟩, .int .i64 0] #[.int .i64 x0, .int .i64 x1, .int .i64 x2, .int .i64 x3, .int .i64 k, .string x5, .string ⟨#[]⟩, .string ⟨#[]⟩, .string ⟨#[]⟩, .string ⟨#[]⟩, .int .i64 0] := Q2; clear Q2; clear S1 _t)
              | (go_at_call 44; have _t := S2; refine (rec_text S2 6 _ rfl).mono ?_; intro e w3 h; rw [hd2] at h; obtain ⟨rfl, Q3⟩ := h; have S3 : RecSt w0 w3 38 R E r a m c raw i2 false #[.int .i64 0, .int .i64 0, .int .i64 0, .int .i64 0, .int .i64 0, .string ⟨#[]⟩, .string ⟨#[]⟩, .string ⟨#[]⟩, .string ⟨#[]⟩, .string ⟨#[]⟩, .int .i64 0] #[.int .i64 x0, .int .i64 x1, .int .i64 x2, .int .i64 x3, .int .i64 k, .string x5, .string x6, .string ⟨#[]⟩, .string ⟨#[]⟩, .string ⟨#[]⟩, .int .i64 0] := Q3; clear Q3; clear S2 _t)
              | (go_at_call 44; have _t := S3; refine (rec_text S3 7 _ rfl).mono ?_; intro e w4 h; rw [hd3] at h; obtain ⟨rfl, h⟩ := h; clear S3 _t)
              | fail)
            go_ret
            rcases h with S | ⟨v, S⟩
            · exact ⟨rfl, _, _, _, _, _, _, _, S⟩
            · exact ⟨rfl, _, _, _, _, _, _, _, S⟩
          | ok y3 =>
            obtain ⟨x7, i3⟩ := y3
            cases hd4 : rdText raw i3 with
            | error pl =>
              have hx : rdMail raw at_ = .error pl := by simp [rdMail, rdBind, rdParts, hk, hd0, hd1, hd2, hd3, hd4]
              rw [hx]
              go_enter Try.func55, Try.ntmps55
              go_wp2_with (first
                | (go_at_call 43; have _t := S0; refine (rec_num S0 4 _ rfl 0 4).mono ?_; intro e w1 h; rw [hd0] at h; obtain ⟨rfl, Q1⟩ := h; have S1 : RecSt w0 w1 38 R E r a m c raw i0 false #[.int .i64 0, .int .i64 0, .int .i64 0, .int .i64 0, .int .i64 0, .string ⟨#[]⟩, .string ⟨#[]⟩, .string ⟨#[]⟩, .string ⟨#[]⟩, .string ⟨#[]⟩, .int .i64 0] #[.int .i64 x0, .int .i64 x1, .int .i64 x2, .int .i64 x3, .int .i64 k, .string ⟨#[]⟩, .string ⟨#[]⟩, .string ⟨#[]⟩, .string ⟨#[]⟩, .string ⟨#[]⟩, .int .i64 0] := Q1; clear Q1; have e4 := (S1.cell (o := 4) rfl).1; clear S0 _t)
                | (go_at_call 44; have _t := S1; refine (rec_text S1 5 _ rfl).mono ?_; intro e w2 h; rw [hd1] at h; obtain ⟨rfl, Q2⟩ := h; have S2 : RecSt w0 w2 38 R E r a m c raw i1 false #[.int .i64 0, .int .i64 0, .int .i64 0, .int .i64 0, .int .i64 0, .string ⟨#[]⟩, .string ⟨#[]⟩, .string ⟨#[]⟩, .string ⟨#[]⟩, .string ⟨#[]⟩, .int .i64 0] #[.int .i64 x0, .int .i64 x1, .int .i64 x2, .int .i64 x3, .int .i64 k, .string x5, .string ⟨#[]⟩, .string ⟨#[]⟩, .string ⟨#[]⟩, .string ⟨#[]⟩, .int .i64 0] := Q2; clear Q2; clear S1 _t)
                | (go_at_call 44; have _t := S2; refine (rec_text S2 6 _ rfl).mono ?_; intro e w3 h; rw [hd2] at h; obtain ⟨rfl, Q3⟩ := h; have S3 : RecSt w0 w3 38 R E r a m c raw i2 false #[.int .i64 0, .int .i64 0, .int .i64 0, .int .i64 0, .int .i64 0, .string ⟨#[]⟩, .string ⟨#[]⟩, .string ⟨#[]⟩, .string ⟨#[]⟩, .string ⟨#[]⟩, .int .i64 0] #[.int .i64 x0, .int .i64 x1, .int .i64 x2, .int .i64 x3, .int .i64 k, .string x5, .string x6, .string ⟨#[]⟩, .string ⟨#[]⟩, .string ⟨#[]⟩, .int .i64 0] := Q3; clear Q3; clear S2 _t)
                | (go_at_call 44; have _t := S3; refine (rec_text S3 7 _ rfl).mono ?_; intro e w4 h; rw [hd3] at h; obtain ⟨rfl, Q4⟩ := h; have S4 : RecSt w0 w4 38 R E r a m c raw i3 false #[.int .i64 0, .int .i64 0, .int .i64 0, .int .i64 0, .int .i64 0, .string ⟨#[]⟩, .string ⟨#[]⟩, .string ⟨#[]⟩, .string ⟨#[]⟩, .string ⟨#[]⟩, .int .i64 0] #[.int .i64 x0, .int .i64 x1, .int .i64 x2, .int .i64 x3, .int .i64 k, .string x5, .string x6, .string x7, .string ⟨#[]⟩, .string ⟨#[]⟩, .int .i64 0] := Q4; clear Q4; clear S3 _t)
                | (go_at_call 44; have _t := S4; refine (rec_text S4 8 _ rfl).mono ?_; intro e w5 h; rw [hd4] at h; obtain ⟨rfl, h⟩ := h; clear S4 _t)
                | fail)
              go_ret
              rcases h with S | ⟨v, S⟩
              · exact ⟨rfl, _, _, _, _, _, _, _, S⟩
              · exact ⟨rfl, _, _, _, _, _, _, _, S⟩
            | ok y4 =>
              obtain ⟨x8, i4⟩ := y4
              cases hd5 : rdText raw i4 with
              | error pl =>
                have hx : rdMail raw at_ = .error pl := by simp [rdMail, rdBind, rdParts, hk, hd0, hd1, hd2, hd3, hd4, hd5]
                rw [hx]
                go_enter Try.func55, Try.ntmps55
                go_wp2_with (first
                  | (go_at_call 43; have _t := S0; refine (rec_num S0 4 _ rfl 0 4).mono ?_; intro e w1 h; rw [hd0] at h; obtain ⟨rfl, Q1⟩ := h; have S1 : RecSt w0 w1 38 R E r a m c raw i0 false #[.int .i64 0, .int .i64 0, .int .i64 0, .int .i64 0, .int .i64 0, .string ⟨#[]⟩, .string ⟨#[]⟩, .string ⟨#[]⟩, .string ⟨#[]⟩, .string ⟨#[]⟩, .int .i64 0] #[.int .i64 x0, .int .i64 x1, .int .i64 x2, .int .i64 x3, .int .i64 k, .string ⟨#[]⟩, .string ⟨#[]⟩, .string ⟨#[]⟩, .string ⟨#[]⟩, .string ⟨#[]⟩, .int .i64 0] := Q1; clear Q1; have e4 := (S1.cell (o := 4) rfl).1; clear S0 _t)
                  | (go_at_call 44; have _t := S1; refine (rec_text S1 5 _ rfl).mono ?_; intro e w2 h; rw [hd1] at h; obtain ⟨rfl, Q2⟩ := h; have S2 : RecSt w0 w2 38 R E r a m c raw i1 false #[.int .i64 0, .int .i64 0, .int .i64 0, .int .i64 0, .int .i64 0, .string ⟨#[]⟩, .string ⟨#[]⟩, .string ⟨#[]⟩, .string ⟨#[]⟩, .string ⟨#[]⟩, .int .i64 0] #[.int .i64 x0, .int .i64 x1, .int .i64 x2, .int .i64 x3, .int .i64 k, .string x5, .string ⟨#[]⟩, .string ⟨#[]⟩, .string ⟨#[]⟩, .string ⟨#[]⟩, .int .i64 0] := Q2; clear Q2; clear S1 _t)
                  | (go_at_call 44; have _t := S2; refine (rec_text S2 6 _ rfl).mono ?_; intro e w3 h; rw [hd2] at h; obtain ⟨rfl, Q3⟩ := h; have S3 : RecSt w0 w3 38 R E r a m c raw i2 false #[.int .i64 0, .int .i64 0, .int .i64 0, .int .i64 0, .int .i64 0, .string ⟨#[]⟩, .string ⟨#[]⟩, .string ⟨#[]⟩, .string ⟨#[]⟩, .string ⟨#[]⟩, .int .i64 0] #[.int .i64 x0, .int .i64 x1, .int .i64 x2, .int .i64 x3, .int .i64 k, .string x5, .string x6, .string ⟨#[]⟩, .string ⟨#[]⟩, .string ⟨#[]⟩, .int .i64 0] := Q3; clear Q3; clear S2 _t)
                  | (go_at_call 44; have _t := S3; refine (rec_text S3 7 _ rfl).mono ?_; intro e w4 h; rw [hd3] at h; obtain ⟨rfl, Q4⟩ := h; have S4 : RecSt w0 w4 38 R E r a m c raw i3 false #[.int .i64 0, .int .i64 0, .int .i64 0, .int .i64 0, .int .i64 0, .string ⟨#[]⟩, .string ⟨#[]⟩, .string ⟨#[]⟩, .string ⟨#[]⟩, .string ⟨#[]⟩, .int .i64 0] #[.int .i64 x0, .int .i64 x1, .int .i64 x2, .int .i64 x3, .int .i64 k, .string x5, .string x6, .string x7, .string ⟨#[]⟩, .string ⟨#[]⟩, .int .i64 0] := Q4; clear Q4; clear S3 _t)
                  | (go_at_call 44; have _t := S4; refine (rec_text S4 8 _ rfl).mono ?_; intro e w5 h; rw [hd4] at h; obtain ⟨rfl, Q5⟩ := h; have S5 : RecSt w0 w5 38 R E r a m c raw i4 false #[.int .i64 0, .int .i64 0, .int .i64 0, .int .i64 0, .int .i64 0, .string ⟨#[]⟩, .string ⟨#[]⟩, .string ⟨#[]⟩, .string ⟨#[]⟩, .string ⟨#[]⟩, .int .i64 0] #[.int .i64 x0, .int .i64 x1, .int .i64 x2, .int .i64 x3, .int .i64 k, .string x5, .string x6, .string x7, .string x8, .string ⟨#[]⟩, .int .i64 0] := Q5; clear Q5; clear S4 _t)
                  | (go_at_call 44; have _t := S5; refine (rec_text S5 9 _ rfl).mono ?_; intro e w6 h; rw [hd5] at h; obtain ⟨rfl, h⟩ := h; clear S5 _t)
                  | fail)
                go_ret
                rcases h with S | ⟨v, S⟩
                · exact ⟨rfl, _, _, _, _, _, _, _, S⟩
                · exact ⟨rfl, _, _, _, _, _, _, _, S⟩
              | ok y5 =>
                obtain ⟨x9, i5⟩ := y5
                cases hd6 : rdNum 0 4 raw i5 with
                | error pl =>
                  have hx : rdMail raw at_ = .error pl := by simp [rdMail, rdBind, rdParts, hk, hd0, hd1, hd2, hd3, hd4, hd5, hd6]
                  rw [hx]
                  go_enter Try.func55, Try.ntmps55
                  go_wp2_with (first
                    | (go_at_call 43; have _t := S0; refine (rec_num S0 4 _ rfl 0 4).mono ?_; intro e w1 h; rw [hd0] at h; obtain ⟨rfl, Q1⟩ := h; have S1 : RecSt w0 w1 38 R E r a m c raw i0 false #[.int .i64 0, .int .i64 0, .int .i64 0, .int .i64 0, .int .i64 0, .string ⟨#[]⟩, .string ⟨#[]⟩, .string ⟨#[]⟩, .string ⟨#[]⟩, .string ⟨#[]⟩, .int .i64 0] #[.int .i64 x0, .int .i64 x1, .int .i64 x2, .int .i64 x3, .int .i64 k, .string ⟨#[]⟩, .string ⟨#[]⟩, .string ⟨#[]⟩, .string ⟨#[]⟩, .string ⟨#[]⟩, .int .i64 0] := Q1; clear Q1; have e4 := (S1.cell (o := 4) rfl).1; clear S0 _t)
                    | (go_at_call 44; have _t := S1; refine (rec_text S1 5 _ rfl).mono ?_; intro e w2 h; rw [hd1] at h; obtain ⟨rfl, Q2⟩ := h; have S2 : RecSt w0 w2 38 R E r a m c raw i1 false #[.int .i64 0, .int .i64 0, .int .i64 0, .int .i64 0, .int .i64 0, .string ⟨#[]⟩, .string ⟨#[]⟩, .string ⟨#[]⟩, .string ⟨#[]⟩, .string ⟨#[]⟩, .int .i64 0] #[.int .i64 x0, .int .i64 x1, .int .i64 x2, .int .i64 x3, .int .i64 k, .string x5, .string ⟨#[]⟩, .string ⟨#[]⟩, .string ⟨#[]⟩, .string ⟨#[]⟩, .int .i64 0] := Q2; clear Q2; clear S1 _t)
                    | (go_at_call 44; have _t := S2; refine (rec_text S2 6 _ rfl).mono ?_; intro e w3 h; rw [hd2] at h; obtain ⟨rfl, Q3⟩ := h; have S3 : RecSt w0 w3 38 R E r a m c raw i2 false #[.int .i64 0, .int .i64 0, .int .i64 0, .int .i64 0, .int .i64 0, .string ⟨#[]⟩, .string ⟨#[]⟩, .string ⟨#[]⟩, .string ⟨#[]⟩, .string ⟨#[]⟩, .int .i64 0] #[.int .i64 x0, .int .i64 x1, .int .i64 x2, .int .i64 x3, .int .i64 k, .string x5, .string x6, .string ⟨#[]⟩, .string ⟨#[]⟩, .string ⟨#[]⟩, .int .i64 0] := Q3; clear Q3; clear S2 _t)
                    | (go_at_call 44; have _t := S3; refine (rec_text S3 7 _ rfl).mono ?_; intro e w4 h; rw [hd3] at h; obtain ⟨rfl, Q4⟩ := h; have S4 : RecSt w0 w4 38 R E r a m c raw i3 false #[.int .i64 0, .int .i64 0, .int .i64 0, .int .i64 0, .int .i64 0, .string ⟨#[]⟩, .string ⟨#[]⟩, .string ⟨#[]⟩, .string ⟨#[]⟩, .string ⟨#[]⟩, .int .i64 0] #[.int .i64 x0, .int .i64 x1, .int .i64 x2, .int .i64 x3, .int .i64 k, .string x5, .string x6, .string x7, .string ⟨#[]⟩, .string ⟨#[]⟩, .int .i64 0] := Q4; clear Q4; clear S3 _t)
                    | (go_at_call 44; have _t := S4; refine (rec_text S4 8 _ rfl).mono ?_; intro e w5 h; rw [hd4] at h; obtain ⟨rfl, Q5⟩ := h; have S5 : RecSt w0 w5 38 R E r a m c raw i4 false #[.int .i64 0, .int .i64 0, .int .i64 0, .int .i64 0, .int .i64 0, .string ⟨#[]⟩, .string ⟨#[]⟩, .string ⟨#[]⟩, .string ⟨#[]⟩, .string ⟨#[]⟩, .int .i64 0] #[.int .i64 x0, .int .i64 x1, .int .i64 x2, .int .i64 x3, .int .i64 k, .string x5, .string x6, .string x7, .string x8, .string ⟨#[]⟩, .int .i64 0] := Q5; clear Q5; clear S4 _t)
                    | (go_at_call 44; have _t := S5; refine (rec_text S5 9 _ rfl).mono ?_; intro e w6 h; rw [hd5] at h; obtain ⟨rfl, Q6⟩ := h; have S6 : RecSt w0 w6 38 R E r a m c raw i5 false #[.int .i64 0, .int .i64 0, .int .i64 0, .int .i64 0, .int .i64 0, .string ⟨#[]⟩, .string ⟨#[]⟩, .string ⟨#[]⟩, .string ⟨#[]⟩, .string ⟨#[]⟩, .int .i64 0] #[.int .i64 x0, .int .i64 x1, .int .i64 x2, .int .i64 x3, .int .i64 k, .string x5, .string x6, .string x7, .string x8, .string x9, .int .i64 0] := Q6; clear Q6; clear S5 _t)
                    | (go_at_call 43; have _t := S6; refine (rec_num S6 10 _ rfl 0 4).mono ?_; intro e w7 h; rw [hd6] at h; obtain ⟨rfl, h⟩ := h; clear S6 _t)
                    | fail)
                  go_ret
                  rcases h with S | ⟨v, S⟩
                  · exact ⟨rfl, _, _, _, _, _, _, _, S⟩
                  · exact ⟨rfl, _, _, _, _, _, _, _, S⟩
                | ok y6 =>
                  obtain ⟨x10, i6⟩ := y6
                  have hx : rdMail raw at_ = .ok ((k, x5, x6, x7, x8, x9, x10), i6) := by simp [rdMail, rdBind, rdParts, hk, hd0, hd1, hd2, hd3, hd4, hd5, hd6]
                  rw [hx]
                  go_enter Try.func55, Try.ntmps55
                  go_wp2_with (first
                    | (go_at_call 43; have _t := S0; refine (rec_num S0 4 _ rfl 0 4).mono ?_; intro e w1 h; rw [hd0] at h; obtain ⟨rfl, Q1⟩ := h; have S1 : RecSt w0 w1 38 R E r a m c raw i0 false #[.int .i64 0, .int .i64 0, .int .i64 0, .int .i64 0, .int .i64 0, .string ⟨#[]⟩, .string ⟨#[]⟩, .string ⟨#[]⟩, .string ⟨#[]⟩, .string ⟨#[]⟩, .int .i64 0] #[.int .i64 x0, .int .i64 x1, .int .i64 x2, .int .i64 x3, .int .i64 k, .string ⟨#[]⟩, .string ⟨#[]⟩, .string ⟨#[]⟩, .string ⟨#[]⟩, .string ⟨#[]⟩, .int .i64 0] := Q1; clear Q1; have e4 := (S1.cell (o := 4) rfl).1; clear S0 _t)
                    | (go_at_call 44; have _t := S1; refine (rec_text S1 5 _ rfl).mono ?_; intro e w2 h; rw [hd1] at h; obtain ⟨rfl, Q2⟩ := h; have S2 : RecSt w0 w2 38 R E r a m c raw i1 false #[.int .i64 0, .int .i64 0, .int .i64 0, .int .i64 0, .int .i64 0, .string ⟨#[]⟩, .string ⟨#[]⟩, .string ⟨#[]⟩, .string ⟨#[]⟩, .string ⟨#[]⟩, .int .i64 0] #[.int .i64 x0, .int .i64 x1, .int .i64 x2, .int .i64 x3, .int .i64 k, .string x5, .string ⟨#[]⟩, .string ⟨#[]⟩, .string ⟨#[]⟩, .string ⟨#[]⟩, .int .i64 0] := Q2; clear Q2; clear S1 _t)
                    | (go_at_call 44; have _t := S2; refine (rec_text S2 6 _ rfl).mono ?_; intro e w3 h; rw [hd2] at h; obtain ⟨rfl, Q3⟩ := h; have S3 : RecSt w0 w3 38 R E r a m c raw i2 false #[.int .i64 0, .int .i64 0, .int .i64 0, .int .i64 0, .int .i64 0, .string ⟨#[]⟩, .string ⟨#[]⟩, .string ⟨#[]⟩, .string ⟨#[]⟩, .string ⟨#[]⟩, .int .i64 0] #[.int .i64 x0, .int .i64 x1, .int .i64 x2, .int .i64 x3, .int .i64 k, .string x5, .string x6, .string ⟨#[]⟩, .string ⟨#[]⟩, .string ⟨#[]⟩, .int .i64 0] := Q3; clear Q3; clear S2 _t)
                    | (go_at_call 44; have _t := S3; refine (rec_text S3 7 _ rfl).mono ?_; intro e w4 h; rw [hd3] at h; obtain ⟨rfl, Q4⟩ := h; have S4 : RecSt w0 w4 38 R E r a m c raw i3 false #[.int .i64 0, .int .i64 0, .int .i64 0, .int .i64 0, .int .i64 0, .string ⟨#[]⟩, .string ⟨#[]⟩, .string ⟨#[]⟩, .string ⟨#[]⟩, .string ⟨#[]⟩, .int .i64 0] #[.int .i64 x0, .int .i64 x1, .int .i64 x2, .int .i64 x3, .int .i64 k, .string x5, .string x6, .string x7, .string ⟨#[]⟩, .string ⟨#[]⟩, .int .i64 0] := Q4; clear Q4; clear S3 _t)
                    | (go_at_call 44; have _t := S4; refine (rec_text S4 8 _ rfl).mono ?_; intro e w5 h; rw [hd4] at h; obtain ⟨rfl, Q5⟩ := h; have S5 : RecSt w0 w5 38 R E r a m c raw i4 false #[.int .i64 0, .int .i64 0, .int .i64 0, .int .i64 0, .int .i64 0, .string ⟨#[]⟩, .string ⟨#[]⟩, .string ⟨#[]⟩, .string ⟨#[]⟩, .string ⟨#[]⟩, .int .i64 0] #[.int .i64 x0, .int .i64 x1, .int .i64 x2, .int .i64 x3, .int .i64 k, .string x5, .string x6, .string x7, .string x8, .string ⟨#[]⟩, .int .i64 0] := Q5; clear Q5; clear S4 _t)
                    | (go_at_call 44; have _t := S5; refine (rec_text S5 9 _ rfl).mono ?_; intro e w6 h; rw [hd5] at h; obtain ⟨rfl, Q6⟩ := h; have S6 : RecSt w0 w6 38 R E r a m c raw i5 false #[.int .i64 0, .int .i64 0, .int .i64 0, .int .i64 0, .int .i64 0, .string ⟨#[]⟩, .string ⟨#[]⟩, .string ⟨#[]⟩, .string ⟨#[]⟩, .string ⟨#[]⟩, .int .i64 0] #[.int .i64 x0, .int .i64 x1, .int .i64 x2, .int .i64 x3, .int .i64 k, .string x5, .string x6, .string x7, .string x8, .string x9, .int .i64 0] := Q6; clear Q6; clear S5 _t)
                    | (go_at_call 43; have _t := S6; refine (rec_num S6 10 _ rfl 0 4).mono ?_; intro e w7 h; rw [hd6] at h; obtain ⟨rfl, Q7⟩ := h; have S7 : RecSt w0 w7 38 R E r a m c raw i6 false #[.int .i64 0, .int .i64 0, .int .i64 0, .int .i64 0, .int .i64 0, .string ⟨#[]⟩, .string ⟨#[]⟩, .string ⟨#[]⟩, .string ⟨#[]⟩, .string ⟨#[]⟩, .int .i64 0] #[.int .i64 x0, .int .i64 x1, .int .i64 x2, .int .i64 x3, .int .i64 k, .string x5, .string x6, .string x7, .string x8, .string x9, .int .i64 x10] := Q7; clear Q7; clear S6 _t)
                    | fail)
                  go_ret
                  exact ⟨rfl, S7⟩

end Go.Proofs.Ytnmdjdpceegdfaa
