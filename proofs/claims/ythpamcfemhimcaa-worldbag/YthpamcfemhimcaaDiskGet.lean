/-
  The disk's calls that tell: Ops, Kept, Read; and bytes.Clone.
-/
import Derived.Test.YthpamcfemhimcaaDisk
namespace Go.Proofs.Ythpamcfemhimcaa
open Go.RowKit Go.Maps Go.ChangeMaps Go.MapKept

theorem Try.info5 : (Try.prog.info? 5).map (fun i => (i.zero, i.size, i.bytes)) = some (some (.int .u8 0), 1, 1) := by kernel_rfl

theorem fieldBytes (a b : Value) (w : World) : (Instr.field 76 (.agg #[a, b]) 0).run Try.prog w = .ok a w := by kernel_rfl
theorem fieldKept (a b : Value) (w : World) : (Instr.field 76 (.agg #[a, b]) 1).run Try.prog w = .ok b w := by kernel_rfl

section
variable {w : World} {S : Nat → Prop} {d n L : Nat} {st : DSt} {bf bq : Nat} {G C : Int → Nat}

set_option maxHeartbeats 400000 in
theorem ops_any (D : DiskIn w S d n L st bf bq G C) :
    Calls Try.prog 40 #[.pointer (some ⟨d, 0, none⟩)] w fun e w' => e = .returned (.int .i64 st.ops) ∧ w' = w := by
  have h1 := D.c1
  go_enter Try.func40, Try.ntmps40
  go_wp2
  go_ret
  exact ⟨rfl, rfl⟩

def DSt.keptOf (st : DSt) (x : Int) : Int := match st.files x with | some f => f.kept | none => 0
def DSt.bytesOf (st : DSt) (x : Int) : List Int := match st.files x with | some f => f.bytes | none => []

set_option maxRecDepth 100000 in
set_option maxHeartbeats 400000 in
theorem kept_any (D : DiskIn w S d n L st bf bq G C) (x : Int) (hx : isI64 x) :
    Calls Try.prog 39 #[.pointer (some ⟨d, 0, none⟩), .int .i64 x] w fun e w' => e = .returned (.int .i64 (st.keptOf x)) ∧ w' = w := by
  have h0 := D.c0
  have T := D.tf
  have hfd := fieldKept
  unfold DSt.keptOf
  cases hF : st.files x with
  | none =>
    have hv : ((fun x => (st.files x).map fun f => fileVal (G x) (C x) f) x).getD (.agg #[.slice none 0 0, .int .i64 0]) = .agg #[.slice none 0 0, .int .i64 0] := by simp [hF]
    clear D
    go_enter Try.func39, Try.ntmps39
    go_wp2_with (at_lookup; refine wpList_tab_look _ rfl _ _ 68 rfl 3 76 Try.underlying3 Try.underlying68 (Try.zeroValue76 _) bf n _ T rfl x hx rfl _ hv ?_)
    go_ret
    exact ⟨rfl, rfl⟩
  | some f =>
    have hv : ((fun x => (st.files x).map fun f => fileVal (G x) (C x) f) x).getD (.agg #[.slice none 0 0, .int .i64 0]) = .agg #[.slice (some ⟨G x, 0, none⟩) f.bytes.length (C x), .int .i64 f.kept] := by simp [hF, fileVal]
    clear D
    go_enter Try.func39, Try.ntmps39
    go_wp2_with (at_lookup; refine wpList_tab_look _ rfl _ _ 68 rfl 3 76 Try.underlying3 Try.underlying68 (Try.zeroValue76 _) bf n _ T rfl x hx rfl _ hv ?_)
    go_ret
    exact ⟨rfl, rfl⟩

set_option maxHeartbeats 400000 in
theorem clone_nil (c : Nat) (w : World) :
    Calls Try.prog 41 #[.slice none 0 c] w fun e w' => e = .returned (.slice none 0 0) ∧ w' = w := by
  have hq := @Lib.run_eql_slice_nil Try.prog
  go_enter Try.func41, Try.ntmps41
  go_wp2
  go_ret
  exact ⟨rfl, rfl⟩

set_option maxHeartbeats 400000 in
theorem clone_some (g m c : Nat) (news : List Value) (w : World) (hl : news.length = m) (hm : 0 < m) (hb : m ≤ 70368744177664)
    (hnews : ∀ j u, news[j]? = some u → w.cell? ((⟨g, 0, none⟩ : Addr).add j) = some u) (h1 : ∀ u ∈ news, u.oneCell' = true) :
    Calls Try.prog 41 #[.slice (some ⟨g, 0, none⟩) m c] w fun e w' => ∃ v, e = .returned v ∧ w'.ownsRow w.heap.size 5 1 v m news ∧ v ≠ .slice none 0 0 ∧ Kept (fun _ => False) w w' := by
  obtain ⟨i0, hi, hz0, hz1, hz2⟩ := info_parts Try.info5
  have hq : ∀ (a : Option Addr) (n c : Nat) w, (binOp .eql 27 (.slice a n c) (.slice none 0 0)).run Try.prog w = .ok (.bool a.isNone) w := fun a n c w => Lib.run_eql_slice_nil w _ _ a n c 0 0 Try.underlying27
  have hown : (w.alloc (.cells #[] 5)).ownsRow w.heap.size 5 1 (.slice (some ⟨w.heap.size, 0, none⟩) 0 0) 0 [] := World.ownsRow_made w #[] 0 (Nat.le_refl _) (by simp [maxLen]) rfl
  have hN : ∀ j u, news[j]? = some u → (w.alloc (.cells #[] 5)).cell? ((⟨g, 0, none⟩ : Addr).add j) = some u := by
    intro j u hj
    have h := hnews j u hj
    exact (World.grownBy_alloc w _ none).cell h (by simp)
  go_enter Try.func41, Try.ntmps41
  go_wp2_with (at_builtin; refine wpList_append_own _ rfl _ _ 27 rfl w.heap.size 5 i0 (.int .u8 0) 1 1 Try.underlying27 hi hz0 hz1 hz2 rfl (by decide) _ 0 [] rfl hown ⟨g, 0, none⟩ m c news rfl (by omega) hN h1 (by unfold maxLen; omega) (by omega) (by simp) ?_; intro v' w1 hown1 hgrow hnil)
  go_ret
  refine ⟨v', rfl, by simpa using hown1, fun e => by have := (hnil.1 e).2; omega, ?_⟩
  refine ((Kept.alloc _ w _).trans (Kept.grown (S := fun k => w.heap.size ≤ k) hgrow (fun k e => ?_)) (fun i hi => .inr hi))
  exact Nat.le_of_eq (Option.some.inj e)

set_option maxRecDepth 100000 in
set_option maxHeartbeats 400000 in
theorem read_none (D : DiskIn w S d n L st bf bq G C) (x : Int) (hx : isI64 x) (hF : st.files x = none) :
    Calls Try.prog 38 #[.pointer (some ⟨d, 0, none⟩), .int .i64 x] w fun e w' => e = .returned (.slice none 0 0) ∧ w' = w := by
  have h0 := D.c0
  have T := D.tf
  have hfd := fieldBytes
  have hv : ((fun x => (st.files x).map fun f => fileVal (G x) (C x) f) x).getD (.agg #[.slice none 0 0, .int .i64 0]) = .agg #[.slice none 0 0, .int .i64 0] := by simp [hF]
  clear D
  go_enter Try.func38, Try.ntmps38
  go_wp2_with (first
    | (at_lookup; refine wpList_tab_look _ rfl _ _ 68 rfl 3 76 Try.underlying3 Try.underlying68 (Try.zeroValue76 _) bf n _ T rfl x hx rfl _ hv ?_)
    | (go_at_call 41; refine (clone_nil 0 _).mono ?_; rintro e w' ⟨rfl, rfl⟩))
  go_ret
  exact ⟨rfl, rfl⟩

theorem oneCells (l : List Int) : ∀ u ∈ l.map (Value.int .u8), u.oneCell' = true := by
  intro u hu
  obtain ⟨x, _, rfl⟩ := List.mem_map.1 hu
  rfl

set_option maxRecDepth 100000 in
set_option maxHeartbeats 400000 in
theorem read_some (D : DiskIn w S d n L st bf bq G C) (hL : L ≤ 70368744177664) (x : Int) (hx : isI64 x) (f : DFile) (hF : st.files x = some f) :
    Calls Try.prog 38 #[.pointer (some ⟨d, 0, none⟩), .int .i64 x] w fun e w' =>
      ∃ v, e = .returned v ∧ w'.ownsRow w.heap.size 5 1 v f.bytes.length (f.bytes.map (Value.int .u8)) ∧ v ≠ .slice none 0 0 ∧ Kept (fun _ => False) w w' := by
  have h0 := D.c0
  have T := D.tf
  have hfd := fieldBytes
  have hF' := D.rows x f hF
  have hlen := D.len x f hF
  have hv : ((fun x => (st.files x).map fun f => fileVal (G x) (C x) f) x).getD (.agg #[.slice none 0 0, .int .i64 0]) = .agg #[.slice (some ⟨G x, 0, none⟩) f.bytes.length (C x), .int .i64 f.kept] := by simp [hF, fileVal]
  have hc := clone_some (G x) f.bytes.length (C x) (f.bytes.map (Value.int .u8)) w (by simp) hF'.pos (by omega) (hF'.row.cells rfl) (oneCells _)
  clear D hF'
  go_enter Try.func38, Try.ntmps38
  go_wp2_with (first
    | (at_lookup; refine wpList_tab_look _ rfl _ _ 68 rfl 3 76 Try.underlying3 Try.underlying68 (Try.zeroValue76 _) bf n _ T rfl x hx rfl _ hv ?_)
    | (go_at_call 41; refine hc.mono ?_; rintro e w' ⟨v, rfl, r1, r2, r3⟩))
  go_ret
  exact ⟨v, rfl, r1, r2, r3⟩

end

end Go.Proofs.Ythpamcfemhimcaa
