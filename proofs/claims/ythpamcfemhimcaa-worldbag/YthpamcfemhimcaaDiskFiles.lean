/-
  Files: the numbers of a disk's files, rising.
-/
import Derived.Test.YthpamcfemhimcaaIter
import Derived.Test.YthpamcfemhimcaaDiskOps
namespace Go.Proofs.Ythpamcfemhimcaa
open Go.RowKit Go.Maps Go.Sort Go.Shelf

theorem sortsL (m : Nat) : AnyZI.SortsIn Try.prog Try.sortedL_ren Fence.wide m :=
  ⟨fun blk off cap ss W hH hblk hsz => callsIn_wide.2 (AnyM.slices_Sort_int Try.sortL blk off cap ss W hH hblk hsz),
   fun p cap W => callsIn_wide.2 (AnyM.slices_Sort_int_none Try.sortL p cap W)⟩

theorem keysL_in (mb : Option Nat) (W : World) : CallsIn Fence.wide 5 Try.prog 48 #[.map mb] W fun e w' => e = .returned (.func (.func 52) #[] #[.pointer (some ⟨W.heap.size, 0, none⟩)]) ∧ w' = W.alloc (.cells #[.map mb] 68) :=
  AnyZI.keys_in Try.keysL Fence.wide 5 trivial rfl mb W

set_option maxHeartbeats 1000000 in
theorem sortedKeys_in (b nn : Nat) (D0 : DataW Value) (w : World) (hown : w.ownsMap Try.prog 3 rawElem b nn D0) (hmax : Maps.size D0 ≤ maxLen) (hbytes : Maps.size D0 * 8 ≤ 140737488355328) :
    CallsIn Fence.wide 5 Try.prog 47 #[.func (.func 52) #[] #[.pointer (some ⟨w.heap.size, 0, none⟩)]] (w.alloc (.cells #[.map (some b)] 68)) fun e w' => ∃ (v : Value) (ss : List Int), e = .returned v ∧ ss.Perm (intKeys D0) ∧
      w'.ownsRow (w.alloc (.cells #[.map (some b)] 68)).heap.size 3 1 v ss.length ((ss.mergeSort (fun x y => decide (x ≤ y))).map encZ) ∧ (v = .slice none 0 0 ↔ ss = []) ∧ Below (w.alloc (.cells #[.map (some b)] 68)).heap.size (w.alloc (.cells #[.map (some b)] 68)) w' := by
  have hbl := hown.lt
  have hseq : SeqGives Fence.wide 2 Try.prog 52 #[.pointer (some ⟨w.heap.size, 0, none⟩)] encZ (fun ss => ss.Perm (intKeys D0)) (Maps.size D0) (w.alloc (.cells #[.map (some b)] 68)) :=
    AnyZI.keys_gives (ρ := Try.keysL_ren) { Try.keysL with } Fence.wide _ trivial rfl (by omega) w.heap.size b nn D0 _ (by simp) (by simp) (by
      obtain ⟨es, clock, hb, Ft, hs, hD⟩ := hown
      exact ⟨es, clock, (Below.heap_alloc _ _ b hbl).trans hb, Ft, hs, hD⟩)
  exact AnyZI.sorted_in Try.sortedL Fence.wide 5 trivial trivial trivial trivial rfl (by omega) (sortsL _) (enters_of Try.func51 (by kernel_rfl) rfl) 52 #[.pointer (some ⟨w.heap.size, 0, none⟩)] trivial (enters_of Try.func52 (by kernel_rfl) rfl) _ _ hmax hbytes _ hseq

/-- The numbers of the files: each once, rising. -/
structure IsKeys (st : DSt) (l : List Int) : Prop where
  mem : ∀ x, x ∈ l ↔ (st.files x).isSome = true
  rising : l.Pairwise (· < ·)

theorem isKeys_sort {st : DSt} {l ss : List Int} (hp : ss.Perm l) (hn : l.Nodup) (hm : ∀ x, x ∈ l ↔ (st.files x).isSome = true) : IsKeys st (ss.mergeSort fun x y => decide (x ≤ y)) := by
  have tr : ∀ a b c : Int, (fun x y : Int => decide (x ≤ y)) a b = true → (fun x y : Int => decide (x ≤ y)) b c = true → (fun x y : Int => decide (x ≤ y)) a c = true := fun a b c h1 h2 => by simp only [decide_eq_true_eq] at *; omega
  have to : ∀ a b : Int, ((fun x y : Int => decide (x ≤ y)) a b || (fun x y : Int => decide (x ≤ y)) b a) = true := fun a b => by simp only [Bool.or_eq_true, decide_eq_true_eq]; omega
  have hs := List.pairwise_mergeSort tr to ss
  have hq := List.mergeSort_perm ss (fun x y : Int => decide (x ≤ y))
  have hnd : (ss.mergeSort fun x y => decide (x ≤ y)).Nodup := (hq.trans hp).nodup_iff.2 hn
  refine ⟨fun x => by rw [(hq.trans hp).mem_iff, hm x], ?_⟩
  refine (hs.and hnd).imp ?_
  rintro a b ⟨h1, h2⟩
  simp only [decide_eq_true_eq] at h1
  have : a ≠ b := h2
  omega

section
variable {w : World} {S : Nat → Prop} {d n L : Nat} {st : DSt} {bf bq : Nat} {G C : Int → Nat}

set_option maxRecDepth 100000 in
set_option maxHeartbeats 1000000 in
theorem files_any (D : DiskIn w S d n L st bf bq G C) (hn : n ≤ 1099511627776) :
    Calls Try.prog 45 #[.pointer (some ⟨d, 0, none⟩)] w fun e w' => ∃ (v : Value) (l : List Int), e = .returned v ∧ IsKeys st l ∧ l.length ≤ n ∧
      w'.ownsRow w.heap.size 3 1 v l.length (l.map (Value.int .i64)) ∧ Kept (fun _ => False) w w' := by
  refine (callsIn_wide (n := 6)).1 ?_
  have h0 := D.c0
  obtain ⟨D0, hown, hnd, hmem, hsz⟩ := D.tf.keys Try.underlying3
  have hmem' : ∀ x, x ∈ intKeys D0 ↔ (st.files x).isSome = true := fun x => by rw [hmem x]; simp
  have cS := sortedKeys_in bf n D0 w hown (by unfold maxLen; omega) (by omega)
  have hfK : Fence.wide.fn 48 := trivial
  have hfS : Fence.wide.fn 47 := trivial
  have hlen : (intKeys D0).length = Maps.size D0 := by
    obtain ⟨es, rfl⟩ := hown.isMap
    simp [intKeys, Maps.size]
  clear hmem D
  refine callsIn_of_wp Try.func45 rfl trivial ?_ rfl
  simp only [Try.ntmps45, List.size_toArray, List.length_cons, List.length_nil, Nat.reduceAdd, Nat.reduceSub, Array.replicate_succ, Array.replicate_zero, List.push_toArray, List.append_toArray, List.nil_append, List.cons_append]
  gi_wp2_with (first
    | (gi_at_call 48; refine (keysL_in _ _).mono ?_; rintro e w' ⟨rfl, rfl⟩)
    | (gi_at_call 47; refine cS.mono ?_; rintro e w' ⟨v, ss, rfl, hS, hrow, hnil, hb⟩))
  go_ret
  refine ⟨v, ss.mergeSort (fun x y => decide (x ≤ y)), rfl, isKeys_sort hS hnd hmem', by rw [List.length_mergeSort, hS.length_eq, hlen]; exact hsz, ?_, ?_⟩
  · rw [List.length_mergeSort]
    exact ownsRow_base_a hrow (by simp)
  · have h1 : Below w.heap.size w w' := ((Below.refl _ w).alloc (Nat.le_refl _) _).trans (hb.mono (by simp))
    exact ⟨h1.os, h1.tape, h1.output, h1.size, fun k hk _ => h1.block k hk⟩
end

end Go.Proofs.Ythpamcfemhimcaa
