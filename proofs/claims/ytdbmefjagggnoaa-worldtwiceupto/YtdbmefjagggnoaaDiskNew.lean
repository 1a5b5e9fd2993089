/-
  NewDisk, Fail, Stop.
-/
import Derived.Test.YtdbmefjagggnoaaDiskCrash2
namespace Go.Proofs.Ytdbmefjagggnoaa
open Go.RowKit Go.Maps Go.ChangeMaps Go.MapKept

theorem Tab.alloc {P : Program} {k : TypeId} {w : World} {b n : Nat} {M : Int → Option Value} (T : Tab P k w b n M) (o : Obj) : Tab P k (w.alloc o) b n M := T.block (Below.heap_alloc _ _ _ T.lt)

def DSt.new : DSt := { files := fun _ => none, ops := 0, stop := 9223372036854775807, faults := fun _ => none }

set_option maxRecDepth 100000 in
set_option maxHeartbeats 400000 in
theorem newDisk_any (w : World) :
    Calls Try.prog 7 #[] w fun e w' => e = .returned (.pointer (some ⟨w.heap.size + 2, 0, none⟩)) ∧
      DiskIn w' (fun k => w.heap.size ≤ k ∧ k < w.heap.size + 3) (w.heap.size + 2) 0 0 DSt.new w.heap.size (w.heap.size + 1) (fun _ => 0) (fun _ => 0) ∧ Kept (fun _ => False) w w' ∧ w'.heap.size = w.heap.size + 3 := by
  have hmm := @run_makeMap Try.prog
  go_enter Try.func7, Try.ntmps7
  go_wp2
  go_ret
  refine ⟨rfl, ?_, ((Kept.alloc _ _ _).and (Kept.alloc _ _ _)).and (Kept.alloc _ _ _), by simp⟩
  have T1 := Tab.made Try.prog 3 w
  have T2 := Tab.made Try.prog 3 (w.alloc (.map #[] 0))
  simp only [World.size_alloc] at T2
  exact {
    head := by
      have := heap_alloc_new ((w.alloc (.map #[] 0)).alloc (.map #[] 0)) (.cells #[.map (some w.heap.size), .int .i64 0, .int .i64 9223372036854775807, .map (some (w.heap.size + 1))] 72)
      have e : ((w.alloc (.map #[] 0)).alloc (.map #[] 0)).heap.size = w.heap.size + 2 := by simp
      rw [e] at this
      exact this
    sd := by omega
    sf := by omega
    sq := by omega
    sg := fun x f h => by cases h
    neq := by omega
    tf := (T1.alloc _).alloc _
    tq := T2.alloc _
    rows := fun x f h => by cases h
    apart := fun x y f g h => by cases h
    len := fun x f h => by cases h
    bnd := fun k hk => by simp; omega
    ops0 := by decide
    stop0 := by decide
    stop1 := by decide
    kinds := fun x k h => by cases h }

def DSt.at (st : DSt) (after : Int) : Int := if 9223372036854775807 - st.ops < after then 9223372036854775807 else st.ops + max after 0

theorem DSt.at_bd (st : DSt) (after : Int) (h0 : 0 ≤ st.ops) (h1 : st.ops < 4611686018427387904) : 0 ≤ st.at after ∧ st.at after ≤ 9223372036854775807 ∧ st.ops ≤ st.at after := by
  unfold DSt.at; split <;> omega

section
variable {w : World} {S : Nat → Prop} {d n L : Nat} {st : DSt} {bf bq : Nat} {G C : Int → Nat}

set_option maxRecDepth 100000 in
set_option maxHeartbeats 400000 in
theorem behind_any (D : DiskIn w S d n L st bf bq G C) (after : Int) (hops : st.ops < 4611686018427387904) (ha : isI64 after) :
    Calls Try.prog 70 #[.pointer (some ⟨d, 0, none⟩), .int .i64 after] w fun e w' => e = .returned (.int .i64 (st.at after)) ∧ w' = w := by
  have h1 := D.c1
  have h0 := D.ops0
  obtain ⟨ha0, ha1⟩ := isI64_bd ha
  by_cases h : 9223372036854775807 - st.ops < after
  · have e1 : st.at after = 9223372036854775807 := by simp [DSt.at, h]
    rw [e1]
    clear e1
    go_enter Try.func70, Try.ntmps70
    go_wp2
    go_ret
    exact ⟨rfl, rfl⟩
  · have e1 : st.at after = st.ops + max after 0 := by simp [DSt.at, h]
    rw [e1]
    clear e1
    go_enter Try.func70, Try.ntmps70
    go_wp2
    go_ret
    exact ⟨rfl, rfl⟩

def DSt.failed (st : DSt) (after kind : Int) : DSt := { st with faults := fun x => if x = st.at after then (match st.faults x with | some k => some k | none => some kind) else st.faults x }
def DSt.stopped (st : DSt) (after : Int) : DSt := { st with stop := st.at after }

set_option maxRecDepth 100000 in
set_option maxHeartbeats 400000 in
theorem stop_any (D : DiskIn w S d n L st bf bq G C) (after : Int) (hops : st.ops < 4611686018427387904) (ha : isI64 after) :
    Calls Try.prog 45 #[.pointer (some ⟨d, 0, none⟩), .int .i64 after] w fun e w' => e = .returned (.tuple #[]) ∧ DiskIn w' S d n L (st.stopped after) bf bq G C ∧ Kept S w w' := by
  have h2 := D.c2
  have hf2 := D.fz 2
  have hb := behind_any D after hops ha
  obtain ⟨b0, b1, _⟩ := st.at_bd after D.ops0 hops
  have D3 : DiskIn (w.setCell ⟨d, 2, none⟩ (.int .i64 (st.at after))) S d n L (st.stopped after) bf bq G C :=
    D.setHead D.ops0 b0 b1 (setCell_stop D.head) (fun k hk => Below.heap_setCell _ _ _ _ hk) (by simp [World.setCell])
  have K3 : Kept S w (w.setCell ⟨d, 2, none⟩ (.int .i64 (st.at after))) := Kept.setCell _ _ _ D.sd
  clear D
  go_enter Try.func45, Try.ntmps45
  go_wp2_with (first
    | (go_at_call 70; refine hb.mono ?_; rintro e w1 ⟨rfl, rfl⟩; clear hb)
    | fail)
  go_end0
  exact ⟨rfl, D3, K3⟩

set_option maxRecDepth 100000 in
set_option maxHeartbeats 400000 in
theorem fail_any (D : DiskIn w S d n L st bf bq G C) (after kind : Int) (hops : st.ops < 4611686018427387904) (ha : isI64 after) (hk : isI64 kind) (hn : n < 4611686018427387904) :
    Calls Try.prog 43 #[.pointer (some ⟨d, 0, none⟩), .int .i64 after, .int .i64 kind] w fun e w' => e = .returned (.tuple #[]) ∧ DiskIn w' S d (n + 1) L (st.failed after kind) bf bq G C ∧ Kept S w w' := by
  have h3 := D.c3
  have hb := behind_any D after hops ha
  obtain ⟨b0, b1, _⟩ := st.at_bd after D.ops0 hops
  have hat : isI64 (st.at after) := isI64_of (by omega) (by omega)
  have T := D.tq
  cases hq : st.faults (st.at after) with
  | some q =>
    have e1 : st.failed after kind = st := by
      have : (fun x => if x = st.at after then (match st.faults x with | some k => some k | none => some kind) else st.faults x) = st.faults := by
        funext x
        by_cases e : x = st.at after
        · subst e; simp [hq]
        · simp [e]
      unfold DSt.failed
      rw [this]
    rw [e1]
    have hv : ((fun x => (st.faults x).map (Value.int .i64)) (st.at after)).getD (.int .i64 0) = .int .i64 q := by simp [hq]
    have hs : ((fun x => (st.faults x).map (Value.int .i64)) (st.at after)).isSome = true := by simp [hq]
    have F : DiskIn w S d (n + 1) L st bf bq G C := D.mono (Nat.le_succ _) (Nat.le_refl _)
    clear D e1 hq
    go_enter Try.func43, Try.ntmps43
    go_wp2_with (first
      | (go_at_call 70; refine hb.mono ?_; rintro e w1 ⟨rfl, rfl⟩; clear hb)
      | (at_lookup; refine wpList_tab_lookOk _ rfl _ _ 70 rfl 3 3 Try.underlying3 Try.underlying70 (Try.zeroValue3 _) bq n _ T rfl _ hat rfl _ hv _ hs ?_; clear hv hs)
      | fail)
    go_end0
    exact ⟨rfl, F, Kept.refl _ _⟩
  | none =>
    have hv : ((fun x => (st.faults x).map (Value.int .i64)) (st.at after)).getD (.int .i64 0) = .int .i64 0 := by simp [hq]
    have hs : ((fun x => (st.faults x).map (Value.int .i64)) (st.at after)).isSome = false := by simp [hq]
    have fin : ∀ w2, Tab Try.prog 3 w2 bq (n + 1) (upd (fun x => (st.faults x).map (Value.int .i64)) (st.at after) (some (.int .i64 kind))) → w.mapTurned w2 bq → DiskIn w2 S d (n + 1) L (st.failed after kind) bf bq G C ∧ Kept S w w2 := by
      intro w2 T2 ht2
      refine ⟨D.setFaults (Nat.le_succ _) (Q := fun x => if x = st.at after then (match st.faults x with | some k => some k | none => some kind) else st.faults x) ?_ T2 ?_ ht2, Kept.turned ht2 D.sq⟩
      · intro x k h
        by_cases e : x = st.at after
        · subst e; rw [if_pos rfl, hq] at h; cases h; exact hk
        · rw [if_neg e] at h; exact D.kinds x k h
      · intro x
        by_cases e : x = st.at after
        · subst e; simp [upd, hq]
        · simp [upd, e]
    clear D hq
    go_enter Try.func43, Try.ntmps43
    go_wp2_with (first
      | (go_at_call 70; refine hb.mono ?_; rintro e w1 ⟨rfl, rfl⟩; clear hb)
      | (at_lookup; refine wpList_tab_lookOk _ rfl _ _ 70 rfl 3 3 Try.underlying3 Try.underlying70 (Try.zeroValue3 _) bq n _ T rfl _ hat rfl _ hv _ hs ?_; clear hv hs)
      | (at_mapUpdate; refine wpList_tab_store _ rfl _ _ _ 70 rfl 3 3 Try.underlying3 Try.underlying70 bq n _ T (by unfold maxLen; omega) rfl _ hat rfl _ rfl ?_; intro w2 T2 ht2; have F2 := fin w2 T2 ht2; clear fin T2 ht2)
      | fail)
    go_end0
    exact ⟨rfl, F2⟩
end

end Go.Proofs.Ytdbmefjagggnoaa
