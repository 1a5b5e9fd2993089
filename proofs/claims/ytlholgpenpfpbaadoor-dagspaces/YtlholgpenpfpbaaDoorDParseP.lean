/-
  A text as the row of its lines: what the program's reader answers, said line by line. Nothing here speaks of a program.
-/
import Derived.Test.YtlholgpenpfpbaaDoorDParse
import Derived.Test.YtlholgpenpfpbaaDoorDWordsP
namespace Go.Proofs.YtlholgpenpfpbaaDoor
open Go.RowKit

def rfK : List ByteArray → Nat → Bool → ByteArray → List Nd → List Nat → Option (ByteArray × List Nd × List Nat) × Nat
  | [], line, b, nm, ns, ls => if b then (some (nm, ns, ls), 0) else (none, line)
  | x :: t, line, b, nm, ns, ls =>
    if rSilent (wordsP x, false) then rfK t (line + 1) b nm ns ls
    else if b = false then
      (if (rHead (wordsP x, false)).2.2 then (none, line) else rfK t (line + 1) true (rHead (wordsP x, false)).1 ns ls)
    else
      (if (rNode (wordsP x, false)).2.2 then (none, line) else rfK t (line + 1) true nm (ns ++ [(rNode (wordsP x, false)).1]) (ls ++ [line]))

theorem rl_fold : ∀ (n : Nat) (s : ByteArray), s.size ≤ n → ∀ (line : Nat) (b : Bool) (nm : ByteArray) (ns : List Nd) (ls : List Nat), rlK (s.size + 1) s line b nm ns ls = rfK (linesP s) line b nm ns ls
  | n, s, hn, line, b, nm, ns, ls => by
    by_cases h0 : s.size = 0
    · rw [linesP_nil h0]
      simp only [rlK, rfK, h0, if_true]
    · have hp : 0 < s.size := by omega
      have hc := cutB_size hp
      cases n with
      | zero => omega
      | succ n =>
        have ih := rl_fold n (cutB s) (by omega)
        rw [rl_step hp, linesP_cons hp]
        simp only [rfK, ih]

theorem rlP_fold (t : ByteArray) : rlP t = rfK (linesP t) 1 false ⟨#[]⟩ [] [] := rl_fold t.size t (Nat.le_refl _) 1 false ⟨#[]⟩ [] []

/-- The heading's name. -/
def headR : List ByteArray → Option ByteArray
  | [x, y] => if x = wfB ∧ nameP y = true then some y else none
  | _ => none

theorem head_same (ws : List ByteArray) : headR ws = if (rHead (ws, false)).2.2 then none else some (rHead (ws, false)).1 := by
  match ws with
  | [] => simp [headR, rHead, rTake, rName, rWord, rEnd]
  | [x] =>
    by_cases hx : x = wfB <;> simp [headR, rHead, rTake, rName, rWord, rEnd, hx]
  | [x, y] =>
    by_cases hx : x = wfB
    · cases hy : nameP y <;> simp [headR, rHead, rTake, rName, rWord, rEnd, hx, hy]
    · simp [headR, rHead, rTake, rName, rWord, rEnd, hx]
  | x :: y :: z :: r =>
    by_cases hx : x = wfB
    · simp [headR, rHead, rTake, rName, rWord, rEnd, hx]
    · simp [headR, rHead, rTake, rName, rWord, rEnd, hx]

end Go.Proofs.YtlholgpenpfpbaaDoor
