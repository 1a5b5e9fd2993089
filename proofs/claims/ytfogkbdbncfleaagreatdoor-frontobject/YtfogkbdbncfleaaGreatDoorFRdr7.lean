/-
  The document's reader: a text.
-/
import Derived.Test.YtfogkbdbncfleaaGreatDoorFTxt10
import Derived.Test.YtfogkbdbncfleaaGreatDoorFRead3
import Derived.Lib.MapLaws
namespace Go.Proofs.YtfogkbdbncfleaaGreatDoor
open Go.RowKit

theorem enc_dec {s : ByteArray} {i : Nat} (h : i < s.size) (hb : ¬ ((Utf8.decode s i).1 = 65533 ∧ (Utf8.decode s i).2 = 1)) : Lib.encodeRune ((Utf8.decode s i).1 : Int) = (s.extract i (i + (Utf8.decode s i).2)).data.toList := by
  have e := Lib.decodeL_drop s i
  have h1 := Lib.encode_decode (s.data.toList.drop i) (by rw [drop_next s h]; simp) (by rw [e]; exact hb)
  rw [e] at h1
  rw [h1]
  have h2 := sub_extract s i (i + (Utf8.decode s i).2)
  rw [← h2]
  show _ = subL s i (i + (Utf8.decode s i).2)
  unfold subL
  rw [show i + (Utf8.decode s i).2 - i = (Utf8.decode s i).2 by omega]

/-- Bytes that are gathered while a reader's block changes. -/
structure TSt (w : World) (g : Nat) (W : World) (v : Value) (l : List UInt8) : Prop where
  own : W.ownsRow w.heap.size 5 1 v l.length (Lib.byteCells l)
  kept : Kept (fun k => k = g) w W

theorem TSt.next {w W W' : World} {g : Nat} {v : Value} {l : List UInt8} (S : TSt w g W v l) (hg : g < w.heap.size) (K : Kept (fun k => k = g) W W') : TSt w g W' v l :=
  ⟨ownsRow_keep S.own (fun b hb => K.block b (ownsRow_blk S.own hb) (fun e => by have := (S.own.lt b hb).1; omega)), S.kept.and K⟩

theorem bc_app (l m : List UInt8) : Lib.byteCells (l ++ m) = Lib.byteCells l ++ Lib.byteCells m := by unfold Lib.byteCells; rw [List.map_append]

theorem TSt.push {w W w3 : World} {g : Nat} {v v3 : Value} {l m : List UInt8} {k : Nat} {xs : List Value} (S : TSt w g W v l) (hk : k = m.length) (hx : xs = Lib.byteCells m) (ho : w3.ownsRow w.heap.size 5 1 v3 (l.length + k) (Lib.byteCells l ++ xs)) (hg : W.grownBy w3 v.ownBlock) : TSt w g w3 v3 (l ++ m) := by
  subst hk hx
  refine ⟨?_, S.kept.trans (Kept.grown hg (fun k e => (S.own.lt k e).1)) (fun k h => .inr h)⟩
  rw [List.length_append, bc_app]
  exact ho

theorem TSt.bytes {w W : World} {g : Nat} {a : Option Addr} {c : Nat} {l : List UInt8} (S : TSt w g W (.slice a l.length c) l) : BytesAt W a l.length c (l.map (fun b => (b.toNat : Int))) := by
  rcases S.own.2 with ⟨h1, h2⟩ | ⟨g, cap, cur, h1, hb, hg, hcap, hmx, hsz, htake⟩
  · have : l = [] := List.eq_nil_of_length_eq_zero h2
    subst this
    simp only [Value.slice.injEq] at h1
    obtain ⟨rfl, _, rfl⟩ := h1
    exact ⟨rfl, Nat.le_refl _, (fun _ => rfl), (fun ad h => by cases h), (fun y hy => by cases hy)⟩
  · simp only [Value.slice.injEq, true_and] at h1
    obtain ⟨rfl, rfl⟩ := h1
    refine ⟨by rw [List.length_map], hcap, (fun h => by cases h), fun ad h j u hu => ?_, fun y hy => ?_⟩
    · cases h
      refine S.own.cells (g := g) rfl j u ?_
      rw [List.map_map] at hu
      exact hu
    · obtain ⟨z, _, rfl⟩ := List.mem_map.1 hy
      have := z.toNat_lt
      omega

theorem TSt.str {w W : World} {g : Nat} {a : Option Addr} {c : Nat} {l : List UInt8} (S : TSt w g W (.slice a l.length c) l) : (convert 74 9 (.slice a l.length c)).run Tryz.prog W = .ok (.string (mkB l)) W := by
  have h := S.bytes.str
  rwa [nums_mk] at h

/-- What text leaves. -/
def TxtPost (w : World) (g : Nat) (s : ByteArray) (bad why : Int) (r : List UInt8 × Nat × Bool) (e : Ending) (w' : World) : Prop :=
  Kept (fun k => k = g) w w' ∧ ((r.2.2 = true ∧ e = .returned (.string (mkB r.1)) ∧ RdrAt w' g s (r.2.1 : Int) bad why) ∨ (r.2.2 = false ∧ e = .returned (.string (mkB [])) ∧ ∃ k : Nat, k ≤ s.size ∧ RdrAt w' g s (k : Int) (r.2.1 : Int) 2))

/-- The refusal's place as it stands. -/
def rdrBad (w : World) (g : Nat) : Int := intOf ((w.cell? ⟨g, 2, none⟩).getD undef)

theorem RdrAt.bad {w : World} {g : Nat} {s : ByteArray} {i bad why : Int} (R : RdrAt w g s i bad why) : rdrBad w g = bad := by
  unfold rdrBad
  rw [R.cells.2.2.1]
  rfl

/-- Between the rounds of text. -/
def TxtJ (w : World) (g : Nat) (s : ByteArray) (bad why : Int) (r : List UInt8 × Nat × Bool) (v : Value) (W : World) : Prop :=
  (∃ (k n : Nat) (acc : List UInt8) (a : Option Addr) (c : Nat), v = .slice a acc.length c ∧ k ≤ s.size ∧ s.size + 1 ≤ k + n ∧ acc.length ≤ 4 * k ∧ RdrAt W g s (k : Int) bad why ∧ TSt w g W (.slice a acc.length c) acc ∧ textF s n k acc = r) ∨
  (∃ p k : Nat, r = ([], p, false) ∧ k ≤ s.size ∧ RdrAt W g s (k : Int) (p : Int) 2 ∧ Kept (fun k => k = g) w W)

/-- How much is left to read. -/
def txtM (s : ByteArray) (g : Nat) (W : World) : Nat := if rdrBad W g < 0 then s.size + 2 - rdrPlace W g else 0

theorem txtM_go {s : ByteArray} {g k : Nat} {W : World} {bad why : Int} (hb : bad < 0) (R : RdrAt W g s (k : Int) bad why) : txtM s g W = s.size + 2 - k := by
  unfold txtM
  rw [R.bad, R.place, if_pos hb]

theorem txtM_no {s : ByteArray} {g p : Nat} {W : World} {i why : Int} (R : RdrAt W g s i (p : Int) why) : txtM s g W = 0 := by
  unfold txtM
  rw [R.bad, if_neg (by omega)]

end Go.Proofs.YtfogkbdbncfleaaGreatDoor
