/-
  A parcel of one byte: taken, dropped, doubled.
-/
import Derived.Test.YthpamcfemhimcaaBagP
namespace Go.Proofs.Ythpamcfemhimcaa
open Go.RowKit

theorem NetTo.andN {w w1 w2 : World} {S : Nat → Prop} {d : Nat} {l : List PX} {most : Int} (T : NetTo 53 (hdW most) w S d l w1) (K : Kept (fun _ => False) w1 w2) : NetTo 53 (hdW most) w S d l w2 := by
  obtain ⟨S', v', ps', N', hl', K', hS'⟩ := T
  exact ⟨S', v', ps', N'.keptN K, hl', K'.and (K.mono (fun _ h => h.elim)), hS'⟩

section
variable {W : World} {S : Nat → Prop} {d : Nat} {v : Value} {ps : List PV} {l : List PX} {i : Int} {ki : Nat} {y : PX} {b : Nat}

theorem atX_k (hi : i = (ki : Int)) (hy : l[ki]? = some y) : atX l i = some y ∧ inB l.length i = true ∧ dropX l i = l.eraseIdx ki := by
  have hk := (List.getElem?_eq_some_iff.1 hy).1
  subst hi
  have hin := inB_k hk
  refine ⟨?_, hin, ?_⟩
  · unfold atX
    rw [hin, if_pos rfl, Int.toNat_natCast]
    exact hy
  · unfold dropX
    rw [hin, if_pos rfl, Int.toNat_natCast]

theorem bagDrop (N : NetW 1000 W S d v ps) (hpl : ps.map PV.pure = l) (hi : i = (ki : Int)) (hy : l[ki]? = some y) :
    Calls Try.prog 17 #[.pointer (some ⟨d, 0, none⟩), .int .i64 i] W fun e w' => e = .returned (.bool true) ∧ NetTo 53 (hdW 1000) W S d (l.eraseIdx ki) w' := by
  obtain ⟨h1, h2, h3⟩ := atX_k hi hy
  refine (netDrop_any N i).mono ?_
  rintro e w' ⟨rfl, v', ps', N', hl', K'⟩
  refine ⟨by rw [lenX hpl, h2], S, v', ps', N', ?_, K', fun k h => .inl h⟩
  rw [hl', hpl, h3]

theorem bagTake (N : NetW 1000 W S d v ps) (hpl : ps.map PV.pure = l) (hi : i = (ki : Int)) (hy : l[ki]? = some y) (hyb : y.2.2 = [(b : Int)]) :
    Calls Try.prog 13 #[.pointer (some ⟨d, 0, none⟩), .int .i64 i] W fun e w' => (∃ a2 c2, e = .returned (.tuple #[.agg #[.int .i64 y.1, .int .i64 y.2.1, .slice a2 1 c2], .bool true]) ∧ BytesAt w' a2 1 c2 [(b : Int)]) ∧ NetTo 53 (hdW 1000) W S d (l.eraseIdx ki) w' := by
  obtain ⟨h1, h2, h3⟩ := atX_k hi hy
  refine (netTake_any N i).mono ?_
  rintro e w' ⟨C, v', ps', N', hl', K'⟩
  rw [hpl, h1] at C
  unfold CopyOf at C
  simp only [Option.getD_some, Option.isSome_some, hyb] at C
  obtain ⟨a2, c2, rfl, ho, hby, _⟩ := C
  refine ⟨⟨a2, c2, rfl, BytesAt.ofRow ho hby⟩, S, v', ps', N', ?_, K', fun k h => .inl h⟩
  rw [hl', hpl, h3]

theorem bagDouble (N : NetW 1000 W S d v ps) (hpl : ps.map PV.pure = l) (hl : l.length < 1000) (hi : i = (ki : Int)) (hy : l[ki]? = some y) :
    Calls Try.prog 19 #[.pointer (some ⟨d, 0, none⟩), .int .i64 i] W fun e w' => e = .returned (.bool true) ∧ NetTo 53 (hdW 1000) W S d (l ++ [y]) w' := by
  obtain ⟨h1, h2, h3⟩ := atX_k hi hy
  refine (netDouble_any N (by rw [lenX hpl]; exact hl) i).mono ?_
  rintro e w' ⟨rfl, T⟩
  have e1 : doubleX 1000 (ps.map PV.pure) i = l ++ [y] := by
    unfold doubleX
    rw [hpl, h1]
    show sendX 1000 l y = _
    unfold sendX
    rw [if_neg (by omega)]
  rw [e1] at T
  refine ⟨?_, T⟩
  rw [lenX hpl, h2]
  have : ¬ (1000 : Int) ≤ (l.length : Int) := by omega
  simp [this]
end

/-- What stands while All is ranged over: k parcels were told, and counted off. -/
structure BJ (M : Nat → Prop) (W3 : World) (cb L : Nat) (r : Loop) (l : List PX) (k : Nat) (V : World) : Prop where
  kept : Kept M W3 V
  cnt : CntAt V cb (fun j => cntL l j - cntL (l.take k) j)
  rc_ : V.heap[L]? = some (.loop r)

theorem BJ.keep {M : Nat → Prop} {W3 : World} {cb L : Nat} {r : Loop} {l : List PX} {k : Nat} {A B : World} (hc : cb < W3.heap.size) (hL : L < W3.heap.size) (h : BJ M W3 cb L r l k A) (K : Kept (fun b => W3.heap.size ≤ b) A B) : BJ M W3 cb L r l k B := by
  have hz := h.kept.size
  exact ⟨h.kept.trans K (fun b hb => .inr hb), h.cnt.kept K (by omega), (K.block _ (by omega) (by omega)).trans h.rc_⟩

theorem cntRound {V : World} {cb : Nat} {l : List PX} {k b : Nat} {x : PX} (C : CntAt V cb (fun j => cntL l j - cntL (l.take k) j)) (hx : l[k]? = some x) (hb : x.2.2 = [(b : Int)]) (hb20 : b < 20) :
    CntAt (V.setCell ⟨cb, b, none⟩ (.int .i64 (cntL l b - cntL (l.take k) b - 1))) cb (fun j => cntL l j - cntL (l.take (k + 1)) j) := by
  have e : ∀ j, cntL (l.take (k + 1)) j = cntL (l.take k) j + if j = b then 1 else 0 := fun j => by rw [cntL_take l k x hx, isB_self hb]
  have e2 : cntL l b - cntL (l.take k) b - 1 = cntL l b - cntL (l.take (k + 1)) b := by rw [e, if_pos rfl]; omega
  rw [e2]
  exact C.set (g := fun j => cntL l j - cntL (l.take (k + 1)) j) hb20 (fun j _ => by
    by_cases h : j = b
    · rw [if_pos h, h]
    · rw [if_neg h]
      show cntL l j - cntL (l.take (k + 1)) j = cntL l j - cntL (l.take k) j
      rw [e, if_neg h, Int.add_zero])

end Go.Proofs.Ythpamcfemhimcaa
