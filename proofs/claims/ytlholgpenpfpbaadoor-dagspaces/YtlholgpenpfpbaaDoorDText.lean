/-
  Text: what is written of a definition.
-/
import Derived.Test.YtlholgpenpfpbaaDoorDWritten
import Derived.Shelf.Strings.BuilderK
namespace Go.Proofs.YtlholgpenpfpbaaDoor
open Go.RowKit

theorem joinX : Builder.Extra Tryd.prog Tryd.joinL_ren := {
  sizeBuilder := by kernel_rfl
  liesBuilder := by kernel_rfl
  t5 := Tryd.underlying5
  a5 := Tryd.isAgg5
  z5 := Tryd.sizeOf5
  v5 := Tryd.zeroValue5
  infoByte := by kernel_rfl
  cellsByte := by kernel_rfl
  sizeByte := by kernel_rfl
  neB5 := by decide }

theorem builder_keep {T e : TypeId} {B b : Nat} {bs : List Value} {W W' : World} (h : Lib.IsBuilderF T e B b bs W) (K : Kept (fun _ => False) W W') : Lib.IsBuilderF T e B b bs W' := by
  have key : ∀ p, Lib.BuilderAtF T e B b p bs W → Lib.BuilderAtF T e B b p bs W' := by
    rintro p ⟨hB, v, hb, ho, hne⟩
    refine ⟨hB, v, (K.block _ (Array.getElem?_eq_some_iff.1 hb).1 (fun h => h)).trans hb, ⟨ho.1, ?_⟩, hne⟩
    rcases ho.2 with h0 | ⟨g, cap, cur, fz, hv, hg0, hg, rest⟩
    · exact .inl h0
    · exact .inr ⟨g, cap, cur, fz, hv, hg0, (K.block _ (Array.getElem?_eq_some_iff.1 hg).1 (fun h => h)).trans hg, rest⟩
  rcases h with h | h
  · exact .inl (key _ h)
  · exact .inr (key _ h)

theorem kept_below {w W W' : World} {b : Nat} (K : Kept (fun _ => False) w W) (hb : w.heap.size ≤ b) (h : Below b W W') : Kept (fun _ => False) w W' :=
  ⟨h.os.trans K.os, h.tape.trans K.tape, h.output.trans K.output, Nat.le_trans K.size h.size, fun k hk hn => (h.block k (by omega)).trans (K.block k hk hn)⟩

/-- A builder at b with the bytes l; the definition's two cells. -/
structure BSt (w W : World) (C : Array Value) (b : Nat) (l : List UInt8) : Prop where
  bld : Lib.IsBuilderF (Tryd.joinL_ren.t 72) (Tryd.joinL_ren.t 5) b b (Lib.byteCells l) W
  box : W.heap[w.heap.size]? = some (.cells C 26 (0, 0))
  kept : Kept (fun _ => False) w W
  low : w.heap.size < b
  top : b < W.heap.size

theorem BSt.call {w W W' : World} {C : Array Value} {b : Nat} {l : List UInt8} (S : BSt w W C b l) (K : Kept (fun _ => False) W W') : BSt w W' C b l :=
  ⟨builder_keep S.bld K, (K.block _ (Array.getElem?_eq_some_iff.1 S.box).1 (fun h => h)).trans S.box, S.kept.and K, S.low, Nat.lt_of_lt_of_le S.top K.size⟩

theorem write_any {w W : World} {C : Array Value} {b : Nat} {l : List UInt8} (S : BSt w W C b l) (s : ByteArray) (hl : l.length + s.size ≤ 100000000) :
    Calls Tryd.prog 27 #[.pointer (some ⟨b, 0, none⟩), .string s] W fun e w' => e = .returned (.tuple #[.int .i64 s.size, .nilIface]) ∧ BSt w w' C b (l ++ s.data.toList) := by
  have hlow := S.low
  have htop := S.top
  refine (Any.Builder_WriteString_k { Tryd.joinL with } joinX b b (Lib.byteCells l) s W S.bld (by unfold Lib.byteCells; rw [List.length_map]; omega) (by omega)).mono fun e w' h => ?_
  obtain ⟨he, hb, hbel, _⟩ := h
  refine ⟨he, .inr ?_, (hbel.block _ hlow).trans S.box, kept_below S.kept (by omega) hbel, hlow, Nat.lt_of_lt_of_le htop hbel.size⟩
  rw [show Lib.byteCells (l ++ s.data.toList) = Lib.byteCells l ++ Lib.strCells s by unfold Lib.byteCells Lib.strCells; rw [List.map_append]]
  exact hb

theorem string_any {w W : World} {C : Array Value} {b : Nat} {l : List UInt8} (S : BSt w W C b l) :
    Calls Tryd.prog 30 #[.pointer (some ⟨b, 0, none⟩)] W fun e w' => e = .returned (.string (mkB l)) ∧ Kept (fun _ => False) w w' := by
  have hlow := S.low
  have htop := S.top
  refine (Any.Builder_String_any_k { Tryd.joinL with } joinX b b l W S.bld (by omega)).mono fun e w' h => ?_
  obtain ⟨he, _, hbel, _⟩ := h
  exact ⟨he, kept_below S.kept (by omega) hbel⟩

/-- Words joined by blanks. -/
theorem join_any (w : World) (ws : List ByteArray) (a : Option Addr) (c B : Nat) (hw : ws ≠ []) (ho : w.ownsRow B 9 1 (.slice a ws.length c) ws.length (strsV ws)) (hN : ws.length ≤ 1000000) (hl : (lineL [32] ws).length ≤ 1000000) :
    Calls Tryd.prog 28 #[.slice a ws.length c, .string ⟨#[32]⟩] w fun e w' => e = .returned (.string (mkB (lineL [32] ws))) ∧ Kept (fun _ => False) w w' := by
  have hp : 0 < ws.length := List.length_pos_iff.2 hw
  rcases ho.2 with ⟨h0, hn⟩ | ⟨g, cap, cur, hv, hb, hg, hcap, hm, hsz, htake⟩
  · omega
  · obtain ⟨rfl, rfl⟩ : a = some ⟨g, 0, none⟩ ∧ c = cap := by simpa using hv
    refine (Any.strings_Join Tryd.joinL joinX g 0 c ws ⟨#[32]⟩ w (fun j x hx => ?_) (Array.getElem?_eq_some_iff.1 hg).1 (by omega) hcap (by unfold lineL bytesW at hl; exact Nat.le_trans hl (by omega))).mono fun e w' h => ?_
    · rw [Nat.zero_add]
      have hj : j < ws.length := (List.getElem?_eq_some_iff.1 hx).1
      have hc : (strsV ws)[j]? = some (.string x) := by unfold strsV; rw [List.getElem?_map, hx]; rfl
      rw [← htake, List.getElem?_take_of_lt (by omega)] at hc
      have hcur : cur[j]? = some (.string x) := by simpa using hc
      simp [World.cell?, hg, hcur]
    · obtain ⟨he, hbel⟩ := h
      exact ⟨he, hbel.os, hbel.tape, hbel.output, hbel.size, fun k hk _ => hbel.block k hk⟩

end Go.Proofs.YtlholgpenpfpbaaDoor
