/-
  NewDisk, Fail, Stop.
-/
import Derived.Test.YthpamcfemhimcaaDiskCrash2
namespace Go.Proofs.Ythpamcfemhimcaa
open Go.RowKit Go.Maps Go.ChangeMaps Go.MapKept

theorem Tab.alloc {P : Program} {k : TypeId} {w : World} {b n : Nat} {M : Int → Option Value} (T : Tab P k w b n M) (o : Obj) : Tab P k (w.alloc o) b n M := T.block (Below.heap_alloc _ _ _ T.lt)

def DSt.new : DSt := { files := fun _ => none, ops := 0, stop := 9223372036854775807, faults := fun _ => none }

set_option maxRecDepth 100000 in
set_option maxHeartbeats 400000 in
theorem newDisk_any (w : World) :
    Calls Try.prog 34 #[] w fun e w' => e = .returned (.pointer (some ⟨w.heap.size + 2, 0, none⟩)) ∧
      DiskIn w' (fun k => w.heap.size ≤ k ∧ k < w.heap.size + 3) (w.heap.size + 2) 0 0 DSt.new w.heap.size (w.heap.size + 1) (fun _ => 0) (fun _ => 0) ∧ Kept (fun _ => False) w w' ∧ w'.heap.size = w.heap.size + 3 := by
  have hmm := @run_makeMap Try.prog
  go_enter Try.func34, Try.ntmps34
  go_wp2
  go_ret
  refine ⟨rfl, ?_, ((Kept.alloc _ _ _).and (Kept.alloc _ _ _)).and (Kept.alloc _ _ _), by simp⟩
  have T1 := Tab.made Try.prog 3 w
  have T2 := Tab.made Try.prog 3 (w.alloc (.map #[] 0))
  simp only [World.size_alloc] at T2
  exact {
    head := by
      have := heap_alloc_new ((w.alloc (.map #[] 0)).alloc (.map #[] 0)) (.cells #[.map (some w.heap.size), .int .i64 0, .int .i64 9223372036854775807, .map (some (w.heap.size + 1))] 71)
      have e : ((w.alloc (.map #[] 0)).alloc (.map #[] 0)).heap.size = w.heap.size + 2 := by simp
      rw [e] at this
      exact this
    sd := by omega
    sf := by omega
    sq := by omega
    sg := fun x f h => by cases h
    neq := by omega
    tf := (T1.alloc _).alloc _
    tq := T2.alloc _
    rows := fun x f h => by cases h
    apart := fun x y f g h => by cases h
    len := fun x f h => by cases h
    bnd := fun k hk => by simp; omega
    ops0 := by decide
    stop0 := by decide
    stop1 := by decide
    kinds := fun x k h => by cases h }

def DSt.at (st : DSt) (after : Int) : Int := if 9223372036854775807 - st.ops < after then 9223372036854775807 else st.ops + max after 0

theorem DSt.at_bd (st : DSt) (after : Int) (h0 : 0 ≤ st.ops) (h1 : st.ops < 4611686018427387904) : 0 ≤ st.at after ∧ st.at after ≤ 9223372036854775807 ∧ st.ops ≤ st.at after := by
  unfold DSt.at; split <;> omega

section
variable {w : World} {S : Nat → Prop} {d n L : Nat} {st : DSt} {bf bq : Nat} {G C : Int → Nat}

def DSt.failed (st : DSt) (after kind : Int) : DSt := { st with faults := fun x => if x = st.at after then (match st.faults x with | some k => some k | none => some kind) else st.faults x }
def DSt.stopped (st : DSt) (after : Int) : DSt := { st with stop := st.at after }

end

end Go.Proofs.Ythpamcfemhimcaa
