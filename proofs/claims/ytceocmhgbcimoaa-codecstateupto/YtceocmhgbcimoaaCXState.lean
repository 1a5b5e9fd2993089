/-
  A state by the document's reader: as data.
-/
import Derived.Test.YtceocmhgbcimoaaCXEl
import Derived.Test.YtceocmhgbcimoaaCRdState
namespace Go.Proofs.Ytceocmhgbcimoaa
open Go.RowKit

def LRelG {α : Type} (P : Rd α) (full : Except Nat (List α × Nat)) (raw : List Int) (q : Nat) (xs : List α) : Except Nat Nat → Prop
  | .error pl => full = .error pl
  | .ok j => xs.length ≤ j ∧ full = restL xs (rdMany P q raw j)

def fullG {α : Type} (P : Rd α) (n : Nat) (raw : List Int) : Except Nat Nat → Except Nat (List α × Nat)
  | .error pl => .error pl
  | .ok i => restL [] (rdMany P n raw i)

def xone {α : Type} (P : Rd α) (raw : List Int) (j : Nat) (v : α) : Except Nat Nat → Prop
  | .error pl => P raw j = .error pl
  | .ok i => P raw j = .ok (v, i)

section
variable {α : Type} {P : Rd α} {full : Except Nat (List α × Nat)} {raw : List Int} {q j n : Nat} {xs : List α} {v : α} {st st0 : Except Nat Nat}

theorem LRelG.next (pos : ∀ {x : α} {i : Nat}, P raw j = .ok (x, i) → j < i) (h : LRelG P full raw (q + 1) xs (.ok j)) (x : xone P raw j v st) : LRelG P full raw q (xs ++ [v]) st := by
  obtain ⟨h1, h2⟩ := h
  cases st with
  | error pl => exact h2.trans (restL_err x)
  | ok i =>
    have := pos x
    refine ⟨?_, h2.trans (restL_ok x)⟩
    rw [List.length_append]
    simp
    omega

theorem lst_full (P : Rd α) (raw : List Int) (st : Except Nat Nat) : ∃ n : Nat, xval 0 (xnext (rdNum 0 4503599627370496) raw st) = (n : Int) ∧ xnext (rdLst P) raw st = lstRes n (fullG P n raw (xst (xnext (rdNum 0 4503599627370496) raw st))) := by
  cases st with
  | error e => exact ⟨0, rfl, rfl⟩
  | ok i0 =>
    simp only [xnext]
    cases hd : rdNum 0 4503599627370496 raw i0 with
    | error pl => exact ⟨0, rfl, by simp [rdLst, rdBind, hd, xst, fullG, lstRes]⟩
    | ok y =>
      obtain ⟨n, i⟩ := y
      obtain ⟨n0, _, _⟩ := rdNum_ok hd
      obtain ⟨n, rfl⟩ := Int.eq_ofNat_of_zero_le n0
      refine ⟨n, rfl, ?_⟩
      simp only [rdLst, rdBind, hd, Int.toNat_natCast, xst, fullG]
      cases rdMany P n raw i <;> rfl

theorem lst_end (h : LRelG P (fullG P n raw (xst (xnext (rdNum 0 4503599627370496) raw st0))) raw q xs st) (hq : (∃ j, st = .ok j) → q = 0) (hf : xnext (rdLst P) raw st0 = lstRes n (fullG P n raw (xst (xnext (rdNum 0 4503599627370496) raw st0)))) : xst (xnext (rdLst P) raw st0) = st ∧ ∀ u i, xnext (rdLst P) raw st0 = .ok (u, i) → u = ((n : Int), xs) := by
  rw [hf]
  cases st with
  | error pl =>
    have h' : fullG P n raw (xst (xnext (rdNum 0 4503599627370496) raw st0)) = .error pl := h
    rw [h']
    exact ⟨rfl, fun u i e => by cases e⟩
  | ok j =>
    obtain rfl := hq ⟨j, rfl⟩
    obtain ⟨_, h'⟩ := h
    simp only [rdMany, rdOne, restL, List.append_nil] at h'
    rw [h']
    refine ⟨rfl, fun u i e => ?_⟩
    simp only [lstRes, Except.ok.injEq, Prod.mk.injEq] at e
    exact e.1.symm

theorem LRelG.start : LRelG P (fullG P n raw st) raw n [] st := by
  cases st with
  | error pl => exact rfl
  | ok i => exact ⟨Nat.zero_le _, rfl⟩
end

theorem xnode_one {raw : List Int} {j : Nat} : xone rdNode raw j (xval 0 (xnext (rdNum 0 4) raw (.ok j)), xval 0 (xnext (rdNum 0 4503599627370496) raw (xst (xnext (rdNum 0 4) raw (.ok j)))), xval ⟨#[]⟩ (xnext rdText raw (xst (xnext (rdNum 0 4503599627370496) raw (xst (xnext (rdNum 0 4) raw (.ok j))))))) (xst (xnext rdText raw (xst (xnext (rdNum 0 4503599627370496) raw (xst (xnext (rdNum 0 4) raw (.ok j))))))) := by
  cases h0 : rdNum 0 4 raw j with
  | error e => simp [xone, xnext, xst, rdNode, rdBind, h0]
  | ok y0 =>
    obtain ⟨u0, i0⟩ := y0
    cases h1 : rdNum 0 4503599627370496 raw i0 with
    | error e => simp [xone, xnext, xst, rdNode, rdBind, h0, h1]
    | ok y1 =>
      obtain ⟨u1, i1⟩ := y1
      cases h2 : rdText raw i1 with
      | error e => simp [xone, xnext, xst, rdNode, rdBind, h0, h1, h2]
      | ok y2 =>
        obtain ⟨u2, i2⟩ := y2
        simp [xone, xnext, xst, xval, rdNode, rdBind, h0, h1, h2]

theorem xsignal_one {raw : List Int} {j : Nat} : xone rdSignal raw j (xval ⟨#[]⟩ (xnext rdText raw (.ok j)), xval ⟨#[]⟩ (xnext rdText raw (xst (xnext rdText raw (.ok j))))) (xst (xnext rdText raw (xst (xnext rdText raw (.ok j))))) := by
  cases h0 : rdText raw j with
  | error e => simp [xone, xnext, xst, rdSignal, rdBind, h0]
  | ok y0 =>
    obtain ⟨u0, i0⟩ := y0
    cases h1 : rdText raw i0 with
    | error e => simp [xone, xnext, xst, rdSignal, rdBind, h0, h1]
    | ok y1 =>
      obtain ⟨u1, i1⟩ := y1
      simp [xone, xnext, xst, xval, rdSignal, rdBind, h0, h1]

def sP0 (raw : List Int) : Except Nat (ByteArray × Nat) := xnext rdText raw (.ok 0)
def sP1 (raw : List Int) : Except Nat (ByteArray × Nat) := xnext rdText raw (xst (sP0 raw))
def sP2 (raw : List Int) : Except Nat (ByteArray × Nat) := xnext rdText raw (xst (sP1 raw))
def sP3 (raw : List Int) : Except Nat (ByteArray × Nat) := xnext rdText raw (xst (sP2 raw))
def sP4 (raw : List Int) : Except Nat (Int × Nat) := xnext (rdNum 0 4) raw (xst (sP3 raw))
def sP5 (raw : List Int) : Except Nat (ByteArray × Nat) := xnext rdText raw (xst (sP4 raw))

theorem state_rel {raw : List Int} {st1 st2 : Except Nat Nat} {n1 n2 : Nat} {ns : List NodeD} {gs : List SignalD} (L1 : xst (xnext (rdLst rdNode) raw (xst (sP5 raw))) = st1 ∧ ∀ u i, xnext (rdLst rdNode) raw (xst (sP5 raw)) = .ok (u, i) → u = ((n1 : Int), ns)) (L2 : xst (xnext (rdLst rdSignal) raw st1) = st2 ∧ ∀ u i, xnext (rdLst rdSignal) raw st1 = .ok (u, i) → u = ((n2 : Int), gs)) :
    (∀ pl, xend raw (xst (xnext (rdNum 0 4503599627370496) raw st2)) = .error pl → rdWhole rdState raw = .error pl) ∧ (∀ u, xend raw (xst (xnext (rdNum 0 4503599627370496) raw st2)) = .ok u → rdWhole rdState raw = .ok (xval ⟨#[]⟩ (sP0 raw), xval ⟨#[]⟩ (sP1 raw), xval ⟨#[]⟩ (sP2 raw), xval ⟨#[]⟩ (sP3 raw), xval 0 (sP4 raw), xval ⟨#[]⟩ (sP5 raw), ((n1 : Int), ns), ((n2 : Int), gs), xval 0 (xnext (rdNum 0 4503599627370496) raw st2))) := by
  obtain ⟨rfl, l1⟩ := L1
  obtain ⟨rfl, l2⟩ := L2
  cases h0 : rdText raw 0 with
  | error e =>
    have hw : rdWhole rdState raw = .error e := st_err0 h0
    simp [hw, xend, xst, xnext, sP0, sP1, sP2, sP3, sP4, sP5, h0]
  | ok y0 =>
    obtain ⟨u0, i0⟩ := y0
    cases h1 : rdText raw i0 with
    | error e =>
      have hw : rdWhole rdState raw = .error e := st_err1 h0 h1
      simp [hw, xend, xst, xnext, sP0, sP1, sP2, sP3, sP4, sP5, h0, h1]
    | ok y1 =>
      obtain ⟨u1, i1⟩ := y1
      cases h2 : rdText raw i1 with
      | error e =>
        have hw : rdWhole rdState raw = .error e := st_err2 h0 h1 h2
        simp [hw, xend, xst, xnext, sP0, sP1, sP2, sP3, sP4, sP5, h0, h1, h2]
      | ok y2 =>
        obtain ⟨u2, i2⟩ := y2
        cases h3 : rdText raw i2 with
        | error e =>
          have hw : rdWhole rdState raw = .error e := st_err3 h0 h1 h2 h3
          simp [hw, xend, xst, xnext, sP0, sP1, sP2, sP3, sP4, sP5, h0, h1, h2, h3]
        | ok y3 =>
          obtain ⟨u3, i3⟩ := y3
          cases h4 : rdNum 0 4 raw i3 with
          | error e =>
            have hw : rdWhole rdState raw = .error e := st_err4 h0 h1 h2 h3 h4
            simp [hw, xend, xst, xnext, sP0, sP1, sP2, sP3, sP4, sP5, h0, h1, h2, h3, h4]
          | ok y4 =>
            obtain ⟨u4, i4⟩ := y4
            cases h5 : rdText raw i4 with
            | error e =>
              have hw : rdWhole rdState raw = .error e := st_err5 h0 h1 h2 h3 h4 h5
              simp [hw, xend, xst, xnext, sP0, sP1, sP2, sP3, sP4, sP5, h0, h1, h2, h3, h4, h5]
            | ok y5 =>
              obtain ⟨u5, i5⟩ := y5
              cases h6 : rdLst rdNode raw i5 with
              | error e =>
                have hw : rdWhole rdState raw = .error e := st_err6 h0 h1 h2 h3 h4 h5 h6
                simp [hw, xend, xst, xnext, sP0, sP1, sP2, sP3, sP4, sP5, h0, h1, h2, h3, h4, h5, h6]
              | ok y6 =>
                obtain ⟨⟨k1, m1⟩, i6⟩ := y6
                obtain ⟨rfl, rfl⟩ : k1 = (n1 : Int) ∧ m1 = ns := by
                  have := l1 (k1, m1) i6 (by simp [xnext, xst, sP0, sP1, sP2, sP3, sP4, sP5, h0, h1, h2, h3, h4, h5, h6])
                  simpa using this
                cases h7 : rdLst rdSignal raw i6 with
                | error e =>
                  have hw : rdWhole rdState raw = .error e := st_err7 h0 h1 h2 h3 h4 h5 h6 h7
                  simp [hw, xend, xst, xnext, sP0, sP1, sP2, sP3, sP4, sP5, h0, h1, h2, h3, h4, h5, h6, h7]
                | ok y7 =>
                  obtain ⟨⟨k2, m2⟩, i7⟩ := y7
                  obtain ⟨rfl, rfl⟩ : k2 = (n2 : Int) ∧ m2 = gs := by
                    have := l2 (k2, m2) i7 (by simp [xnext, xst, sP0, sP1, sP2, sP3, sP4, sP5, h0, h1, h2, h3, h4, h5, h6, h7])
                    simpa using this
                  cases h8 : rdNum 0 4503599627370496 raw i7 with
                  | error e =>
                    have hw : rdWhole rdState raw = .error e := st_err8 h0 h1 h2 h3 h4 h5 h6 h7 h8
                    simp [hw, xend, xst, xnext, sP0, sP1, sP2, sP3, sP4, sP5, h0, h1, h2, h3, h4, h5, h6, h7, h8]
                  | ok y8 =>
                    obtain ⟨u8, i8⟩ := y8
                    have hw := st_ok h0 h1 h2 h3 h4 h5 h6 h7 h8
                    simp only [hw, xend, xst, xnext, xval, sP0, sP1, sP2, sP3, sP4, sP5, h0, h1, h2, h3, h4, h5, h6, h7, h8]
                    by_cases hi : i8 < raw.length
                    · simp [hi]
                    · simp [hi]

section
variable {w0 w w3 : World} {T : TypeId} {R r E : Nat} {a : Option Addr} {m c : Nat} {raw : List Int} {st : Except Nat Nat} {zs cs : Array Value}

theorem XRec.keep {S : Nat → Prop} (X : XRec w0 w T R r E a m c raw st zs cs) (K : Kept S w w3) (hS : ∀ k, S k → E < k) : XRec w0 w3 T R r E a m c raw st zs cs := by
  have h1 := X.r1
  have h2 := X.r2
  have h3 := X.r3
  have hE := X.ltE
  exact ⟨X.rd.kept K (fun h => by have := hS _ h; omega) (fun h ad e hs => by have := X.old h ad e; have := hS _ hs; omega), (K.block E hE (fun h => by have := hS _ h; omega)).trans X.rcd, (K.block R (by omega) (fun h => by have := hS _ h; omega)).trans X.res, X.kept.trans K (fun k h => .inr (by have := hS k h; omega)), X.old, h1, h2, h3⟩

theorem xrow_keep {S : Nat → Prop} {base n2 s2 : Nat} {e2 : TypeId} {v2 : Value} {us : List Value} (K : Kept S w w3) (row : w.ownsRow base e2 s2 v2 n2 us) (hS : ∀ k, S k → k < base) : w3.ownsRow base e2 s2 v2 n2 us :=
  ownsRow_block' row (fun k hk => K.block k (row.lt k hk).2 (fun h => by have := (row.lt k hk).1; have := hS k h; omega))
end

end Go.Proofs.Ytceocmhgbcimoaa
