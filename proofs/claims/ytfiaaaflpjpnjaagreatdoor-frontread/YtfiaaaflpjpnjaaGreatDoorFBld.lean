/-
  A strings.Builder in memory, and what its methods do.
-/
import Derived.Test.YtfiaaaflpjpnjaaGreatDoorFBldL
import Derived.Test.YtfiaaaflpjpnjaaGreatDoorFRead1
namespace Go.Proofs.YtfiaaaflpjpnjaaGreatDoor
open Go.RowKit

theorem builder_keep {T e : TypeId} {B b : Nat} {bs : List Value} {W W' : World} (h : Lib.IsBuilderF T e B b bs W) (K : Kept (fun _ => False) W W') : Lib.IsBuilderF T e B b bs W' := by
  have key : ∀ p, Lib.BuilderAtF T e B b p bs W → Lib.BuilderAtF T e B b p bs W' := by
    rintro p ⟨hB, v, hb, ho, hne⟩
    refine ⟨hB, v, (K.block _ (Array.getElem?_eq_some_iff.1 hb).1 (fun h => h)).trans hb, ⟨ho.1, ?_⟩, hne⟩
    rcases ho.2 with h0 | ⟨g, cap, cur, fz, hv, hg0, hg, rest⟩
    · exact .inl h0
    · exact .inr ⟨g, cap, cur, fz, hv, hg0, (K.block _ (Array.getElem?_eq_some_iff.1 hg).1 (fun h => h)).trans hg, rest⟩
  rcases h with h | h
  · exact .inl (key _ h)
  · exact .inr (key _ h)

theorem kept_below {w W W' : World} {b : Nat} (K : Kept (fun _ => False) w W) (hb : w.heap.size ≤ b) (h : Below b W W') : Kept (fun _ => False) w W' :=
  ⟨h.os.trans K.os, h.tape.trans K.tape, h.output.trans K.output, Nat.le_trans K.size h.size, fun k hk hn => (h.block k (by omega)).trans (K.block k hk hn)⟩

theorem below_kept {w w' : World} (h : Below w.heap.size w w') : Kept (fun _ => False) w w' := ⟨h.os, h.tape, h.output, h.size, fun k hk _ => h.block k hk⟩

/-- A text out of its bytes. -/
def mkB (l : List UInt8) : ByteArray := ⟨l.toArray⟩

theorem mkB_size (l : List UInt8) : (mkB l).size = l.length := by
  show l.toArray.size = l.length
  simp

theorem mkB_list (l : List UInt8) : (mkB l).data.toList = l := rfl
theorem mkB_of (s : ByteArray) : mkB s.data.toList = s := rfl

/-- A builder at b with the bytes l. -/
structure BSt (w W : World) (b : Nat) (l : List UInt8) : Prop where
  bld : Lib.IsBuilderF (bldR.t 72) (bldR.t 5) b b (Lib.byteCells l) W
  kept : Kept (fun _ => False) w W
  low : w.heap.size ≤ b
  top : b < W.heap.size

theorem BSt.begun (w : World) : BSt w (w.alloc (.cells #[.pointer none, .slice none 0 0] 96)) w.heap.size [] :=
  ⟨Lib.IsBuilderF.of (Lib.fresh_isBuilder 96 5 w), Kept.alloc _ _ _, Nat.le_refl _, by rw [World.size_alloc]; omega⟩

theorem BSt.call {w W W' : World} {b : Nat} {l : List UInt8} (S : BSt w W b l) (K : Kept (fun _ => False) W W') : BSt w W' b l :=
  ⟨builder_keep S.bld K, S.kept.and K, S.low, Nat.lt_of_lt_of_le S.top K.size⟩

section
variable {w W : World} {b : Nat} {l : List UInt8}

theorem writeRune_any (S : BSt w W b l) (r : Int) (h0 : -2147483648 ≤ r) (h1 : r ≤ 2147483647) (hl : l.length + 4 ≤ 140737488355328) :
    Calls Tryz.prog 67 #[.pointer (some ⟨b, 0, none⟩), .int .i32 r] W fun e w' => e = .returned (.tuple #[.int .i64 (Lib.runeCells r).length, .nilIface]) ∧ BSt w w' b (l ++ Lib.encodeRune r) := by
  have hlow := S.low
  have htop := S.top
  refine (Any.Builder_WriteRune_k writeRuneL bldX b b (Lib.byteCells l) r h0 h1 W S.bld (by unfold Lib.byteCells; rw [List.length_map]; omega) (by omega)).mono fun e w' h => ?_
  obtain ⟨he, hb, hbel, _⟩ := h
  refine ⟨he, .inr ?_, kept_below S.kept (by omega) hbel, hlow, Nat.lt_of_lt_of_le htop hbel.size⟩
  rw [Lib.byteCells_append, Lib.byteCells_encodeRune]
  exact hb

theorem string_any (S : BSt w W b l) :
    Calls Tryz.prog 68 #[.pointer (some ⟨b, 0, none⟩)] W fun e w' => e = .returned (.string (mkB l)) ∧ Kept (fun _ => False) w w' := by
  have hlow := S.low
  have htop := S.top
  refine (Any.Builder_String_any_k Tryz.stringL strX b b l W S.bld (by omega)).mono fun e w' h => ?_
  obtain ⟨he, _, hbel, _⟩ := h
  exact ⟨he, kept_below S.kept (by omega) hbel⟩

end

end Go.Proofs.YtfiaaaflpjpnjaaGreatDoor
