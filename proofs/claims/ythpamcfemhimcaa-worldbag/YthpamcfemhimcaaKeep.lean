/-
  Small calls of the laws (Within, clip), and what a row of bytes or ints that came in is.
-/
import Derived.Test.YthpamcfemhimcaaWakes
import Derived.Deep.QuietTactic
import Derived.BigQuiet
namespace Go.Proofs.Ythpamcfemhimcaa
open Go.RowKit Go.Maps Go.ChangeMaps Go.MapKept

set_option maxRecDepth 100000 in
set_option maxHeartbeats 400000 in
theorem within_any (w : World) (k m : Int) (hm : 0 < m) (hm2 : m ≤ 281474976710656) :
    Calls Try.prog 8 #[.int .i64 k, .int .i64 m] w fun e w' => e = .returned (.int .i64 (k % m)) ∧ w' = w := by
  have h1 := Int.emod_nonneg k (by omega : m ≠ 0)
  have h2 := Int.emod_lt_of_pos k hm
  have hmz : (m == 0) = false := by simp; omega
  by_cases h : k.tmod m < 0
  · have e := tmod_emod_neg hm h
    have HE : Hid (k.tmod m + m = k % m) := e
    have hlo : -m ≤ k.tmod m := by omega
    clear e h1 h2
    go_enter Try.func8, Try.ntmps8
    go_wp2
    go_ret
    exact ⟨ret_int HE.out, rfl⟩
  · have e := tmod_emod_pos (n := k) hm (by omega)
    have HE : Hid (k.tmod m = k % m) := e
    clear e h1 h2
    go_enter Try.func8, Try.ntmps8
    go_wp2
    go_ret
    exact ⟨ret_int HE.out, rfl⟩

set_option maxRecDepth 100000 in
set_option maxHeartbeats 400000 in
theorem clip_any (w : World) (a : Option Addr) (m c : Nat) (hm : m ≤ c) :
    Calls Try.prog 7 #[.slice a m c] w fun e w' => e = .returned (.slice a (min m 200) c) ∧ w' = w := by
  by_cases h : 200 < m
  · have e : min m 200 = 200 := by omega
    have hc : (200 : Int) ≤ (c : Int) := by omega
    have hm2 : (200 : Int) < (m : Int) := by omega
    rw [e]
    go_enter Try.func7, Try.ntmps7
    go_wp2
    go_ret
    exact ⟨rfl, rfl⟩
  · have e : min m 200 = m := by omega
    rw [e]
    go_enter Try.func7, Try.ntmps7
    go_wp2
    go_ret
    exact ⟨rfl, rfl⟩

theorem Kept.drewN (S : Nat → Prop) (w : World) (n : Nat) : Kept S w (w.drewN n) := ⟨rfl, rfl, rfl, Nat.le_refl _, fun _ _ _ => rfl⟩

theorem Kept.none {w w' : World} (h : Kept (fun _ => False) w w') : Below w.heap.size w w' :=
  ⟨h.os, h.tape, h.output, h.size, fun k hk => h.block k hk (fun h => h)⟩

/-- A value that owns a row is a slice of that length. -/
theorem ownsRow_shape {w : World} {base n size : Nat} {e : TypeId} {v : Value} {xs : List Value} (h : w.ownsRow base e size v n xs) : ∃ a c, v = .slice a n c := by
  rcases h.2 with ⟨rfl, rfl⟩ | ⟨g, cap, cur, rfl, _⟩
  · exact ⟨_, _, rfl⟩
  · exact ⟨_, _, rfl⟩

section
variable {w : World} {S : Nat → Prop} {d n L : Nat} {st : DSt} {bf bq : Nat} {G C : Int → Nat}

/-- Read, whether the file is there or not. -/
theorem read_any (D : DiskIn w S d n L st bf bq G C) (hL : L ≤ 70368744177664) (x : Int) (hx : isI64 x) :
    Calls Try.prog 38 #[.pointer (some ⟨d, 0, none⟩), .int .i64 x] w fun e w' =>
      ∃ a c, e = .returned (.slice a (st.bytesOf x).length c) ∧ w'.ownsRow w.heap.size 5 1 (.slice a (st.bytesOf x).length c) (st.bytesOf x).length ((st.bytesOf x).map (Value.int .u8)) ∧ Kept (fun _ => False) w w' := by
  unfold DSt.bytesOf
  cases hF : st.files x with
  | none =>
    refine (read_none D x hx hF).mono ?_
    rintro e w' ⟨rfl, rfl⟩
    exact ⟨_, _, rfl, World.ownsRow_nil _ _ _ _, Kept.refl _ _⟩
  | some f =>
    refine (read_some D hL x hx f hF).mono ?_
    rintro e w' ⟨v, rfl, r1, _, r3⟩
    obtain ⟨a, c, rfl⟩ := ownsRow_shape r1
    exact ⟨a, c, rfl, r1, r3⟩
end

theorem bytesOf_put (st : DSt) (x : Int) (b : List Int) : (st.put x b).bytesOf x = st.bytesOf x ++ b := by
  unfold DSt.put
  by_cases h : b = []
  · simp [h]
  · rw [if_neg h]
    unfold DSt.bytesOf
    simp only [setF, if_true]
    cases st.files x <;> simp [putF]

theorem put_rest (st : DSt) (x : Int) (b : List Int) : (st.put x b).ops = st.ops ∧ (st.put x b).stop = st.stop ∧ (st.put x b).faults = st.faults := by
  unfold DSt.put; split <;> exact ⟨rfl, rfl, rfl⟩

theorem append_rest (st : DSt) (x : Int) (b : List Int) : (st.append x b).ops = st.ops + 1 ∧ (st.append x b).stop = st.stop ∧ (st.append x b).faults = st.after.faults := by
  have h1 := put_rest st.after x b
  have h2 := put_rest st.after x (b.take (b.length / 2))
  unfold DSt.append
  split
  · exact h1
  · split
    · exact h2
    · exact ⟨rfl, rfl, rfl⟩

theorem bytesOf_after (st : DSt) (x : Int) : st.after.bytesOf x = st.bytesOf x := rfl

/-- A row of numbers that came in: nil, or cells that hold zs. -/
def IsRow (k : IntKind) (w : World) (a : Option Addr) (len cap : Nat) (zs : List Int) : Prop :=
  (a = none ∧ len = 0 ∧ cap = 0 ∧ zs = []) ∨
  ∃ x, a = some x ∧ len ≤ cap ∧ cap ≤ maxLen ∧ zs.length = cap ∧ (∀ i, i < zs.length → w.cell? (x.add i) = some (.int k (zs.getD i 0))) ∧ ∀ n ∈ zs, (Lit.int k n).wf = true

theorem addr_form {w : World} {x : Addr} {v : Value} (h : w.cell? (x.add 0) = some v) : ∃ b off, x = ⟨b, off, none⟩ := by
  cases x with
  | mk b off spot =>
    cases spot with
    | none => exact ⟨b, off, rfl⟩
    | some s =>
      have hs := World.cell?_spot h
      simp [Addr.add] at hs

theorem u8_bd {x : Int} (h : (Lit.int .u8 x).wf = true) : 0 ≤ x ∧ x ≤ 255 := by
  simp [Lit.wf, IntKind.min, IntKind.max, IntKind.signed, IntKind.bits] at h
  omega

theorem IsRow.bytes {w : World} {a : Option Addr} {len cap : Nat} {zs : List Int} (h : IsRow .u8 w a len cap zs) : BytesAt w a len cap (zs.take len) := by
  rcases h with ⟨rfl, rfl, rfl, rfl⟩ | ⟨x, rfl, h1, h2, h3, hc, hw⟩
  · exact ⟨rfl, Nat.le_refl _, fun _ => rfl, fun ad h => (by cases h), fun y hy => (by simp at hy)⟩
  · refine ⟨by rw [List.length_take]; omega, h1, fun h => (by cases h), ?_, fun y hy => u8_bd (hw y (List.mem_of_mem_take hy))⟩
    intro ad e j u hu
    cases e
    rw [List.getElem?_map, List.getElem?_take] at hu
    split at hu
    · rename_i hj
      have hjl : j < zs.length := by omega
      have := hc j hjl
      rw [List.getElem?_eq_getElem hjl] at hu
      simp only [Option.map_some, Option.some.injEq] at hu
      rw [this, ← hu, List.getD_eq_getElem?_getD, List.getElem?_eq_getElem hjl]
      rfl
    · cases hu

theorem BytesAt.lt {w : World} {a : Option Addr} {m c : Nat} {b : List Int} (B : BytesAt w a m c b) {ad : Addr} (h : a = some ad) (hb : b ≠ []) : ad.block < w.heap.size := by
  cases b with
  | nil => exact absurd rfl hb
  | cons x r =>
    have := B.cells ad h 0 (.int .u8 x) rfl
    have := World.block_lt_of_cell? w _ this
    rw [block_add] at this
    exact this

end Go.Proofs.Ythpamcfemhimcaa
