/-
  A disk in memory: what it is, and what 'begin' does to it.
-/
import Derived.Test.YthpamcfemhimcaaTab
namespace Go.Proofs.Ythpamcfemhimcaa
open Go.RowKit Go.Maps Go.ChangeMaps Go.MapKept

/-- w' is w but for the blocks of S and new ones. -/
structure Kept (S : Nat → Prop) (w w' : World) : Prop where
  os : w'.os = w.os
  tape : w'.tape = w.tape
  output : w'.output = w.output
  size : w.heap.size ≤ w'.heap.size
  block : ∀ k, k < w.heap.size → ¬ S k → w'.heap[k]? = w.heap[k]?

theorem Kept.refl (S : Nat → Prop) (w : World) : Kept S w w := ⟨rfl, rfl, rfl, Nat.le_refl _, fun _ _ _ => rfl⟩

theorem Kept.trans {S S' : Nat → Prop} {a b c : World} (h : Kept S a b) (k : Kept S' b c) (hS : ∀ i, S' i → S i ∨ a.heap.size ≤ i) : Kept S a c :=
  ⟨k.os.trans h.os, k.tape.trans h.tape, k.output.trans h.output, Nat.le_trans h.size k.size, fun i hi hn =>
    (k.block i (Nat.lt_of_lt_of_le hi h.size) (fun hs => (hS i hs).elim hn (fun hb => by omega))).trans (h.block i hi hn)⟩

theorem Kept.and {S : Nat → Prop} {a b c : World} (h : Kept S a b) (k : Kept S b c) : Kept S a c := h.trans k (fun _ => .inl)

theorem Kept.mono {S S' : Nat → Prop} {a b : World} (h : Kept S a b) (hS : ∀ i, S i → S' i) : Kept S' a b :=
  ⟨h.os, h.tape, h.output, h.size, fun k hk hn => h.block k hk (fun hs => hn (hS k hs))⟩

theorem Kept.grown {S : Nat → Prop} {w w' : World} {row : Option Nat} (hg : w.grownBy w' row) (hr : ∀ k, row = some k → S k) : Kept S w w' :=
  ⟨hg.os, hg.tape, hg.output, hg.size, fun k hk hn => hg.block k hk (fun e => hn (hr k e.symm))⟩

theorem Kept.turned {S : Nat → Prop} {w w' : World} {b : Nat} (h : w.mapTurned w' b) (hb : S b) : Kept S w w' :=
  Kept.grown h.grown (fun k e => by cases e; exact hb)

theorem Kept.setCell {S : Nat → Prop} (w : World) (a : Addr) (u : Value) (h : S a.block) : Kept S w (w.setCell a u) :=
  ⟨rfl, rfl, rfl, by simp [World.setCell], fun k _ hn => Below.heap_setCell _ _ _ _ (fun e => hn (e ▸ h))⟩

theorem Kept.alloc (S : Nat → Prop) (w : World) (o : Obj) : Kept S w (w.alloc o) :=
  ⟨rfl, rfl, rfl, by simp, fun k hk _ => Below.heap_alloc _ _ _ hk⟩

theorem Kept.drew (S : Nat → Prop) (w : World) : Kept S w w.drew := ⟨rfl, rfl, rfl, Nat.le_refl _, fun _ _ _ => rfl⟩

theorem Kept.below {S : Nat → Prop} {w w' : World} (h : Kept S w w') {B : Nat} (hB : B ≤ w.heap.size) (hS : ∀ i, S i → B ≤ i) : Below B w w' :=
  ⟨h.os, h.tape, h.output, h.size, fun k hk => h.block k (by omega) (fun hs => by have := hS k hs; omega)⟩

/-- A file of the disk: its bytes, and how many are kept. -/
structure DFile where
  bytes : List Int
  kept : Nat

/-- What a disk is. -/
structure DSt where
  files : Int → Option DFile
  ops : Int
  stop : Int
  faults : Int → Option Int

def fileVal (g cap : Nat) (f : DFile) : Value := .agg #[.slice (some ⟨g, 0, none⟩) f.bytes.length cap, .int .i64 f.kept]

/-- A file as it lies in block g. -/
structure FileAt (w : World) (g cap : Nat) (f : DFile) : Prop where
  row : w.ownsRow 0 5 1 (.slice (some ⟨g, 0, none⟩) f.bytes.length cap) f.bytes.length (f.bytes.map (Value.int .u8))
  kept : f.kept ≤ f.bytes.length
  pos : 0 < f.bytes.length
  byte : ∀ b ∈ f.bytes, 0 ≤ b ∧ b ≤ 255

/-- Block d is a disk that is st: its maps' blocks, its files' blocks, their capacities. -/
structure DiskIn (w : World) (S : Nat → Prop) (d n L : Nat) (st : DSt) (bf bq : Nat) (G C : Int → Nat) : Prop where
  head : w.heap[d]? = some (.cells #[.map (some bf), .int .i64 st.ops, .int .i64 st.stop, .map (some bq)] 71 (0, 0))
  sd : S d
  sf : S bf
  sq : S bq
  sg : ∀ x f, st.files x = some f → S (G x)
  neq : bf ≠ bq
  tf : Tab Try.prog 3 w bf n (fun x => (st.files x).map fun f => fileVal (G x) (C x) f)
  tq : Tab Try.prog 3 w bq n (fun x => (st.faults x).map (Value.int .i64))
  rows : ∀ x f, st.files x = some f → FileAt w (G x) (C x) f
  apart : ∀ x y f g, st.files x = some f → st.files y = some g → G x = G y → x = y
  len : ∀ x f, st.files x = some f → f.bytes.length ≤ L
  bnd : ∀ k, S k → k < w.heap.size
  ops0 : 0 ≤ st.ops
  stop0 : 0 ≤ st.stop
  stop1 : st.stop ≤ 9223372036854775807
  kinds : ∀ x k, st.faults x = some k → isI64 k

section
variable {w w' : World} {S : Nat → Prop} {d n L : Nat} {st : DSt} {bf bq : Nat} {G C : Int → Nat}

theorem DiskIn.c0 (D : DiskIn w S d n L st bf bq G C) : w.cell? ⟨d, 0, none⟩ = some (.map (some bf)) := by simp [World.cell?, D.head]
theorem DiskIn.c1 (D : DiskIn w S d n L st bf bq G C) : w.cell? ⟨d, 1, none⟩ = some (.int .i64 st.ops) := by simp [World.cell?, D.head]
theorem DiskIn.c2 (D : DiskIn w S d n L st bf bq G C) : w.cell? ⟨d, 2, none⟩ = some (.int .i64 st.stop) := by simp [World.cell?, D.head]
theorem DiskIn.c3 (D : DiskIn w S d n L st bf bq G C) : w.cell? ⟨d, 3, none⟩ = some (.map (some bq)) := by simp [World.cell?, D.head]
theorem DiskIn.fz (D : DiskIn w S d n L st bf bq G C) (o : Nat) : w.frozen? ⟨d, o, none⟩ = false := by simp [World.frozen?, D.head]
theorem DiskIn.nef (D : DiskIn w S d n L st bf bq G C) : bf ≠ d := by
  intro e; obtain ⟨es, c, h⟩ := D.tf.isMap; rw [e, D.head] at h; cases h
theorem DiskIn.neqd (D : DiskIn w S d n L st bf bq G C) : bq ≠ d := by
  intro e; obtain ⟨es, c, h⟩ := D.tq.isMap; rw [e, D.head] at h; cases h

theorem FileAt.heap {g cap : Nat} {f : DFile} (F : FileAt w g cap f) : ∃ cur, w.heap[g]? = some (.cells cur 5 (0, 0)) ∧ cur.size = cap ∧ f.bytes.length ≤ cap ∧ cap ≤ maxLen ∧ cur.toList.take f.bytes.length = f.bytes.map (Value.int .u8) := by
  rcases F.row.2 with ⟨h, _⟩ | ⟨g', cap', cur, h, _, hh, h1, h2, h3, h4⟩
  · cases h
  · simp only [Value.slice.injEq, Option.some.injEq, Addr.mk.injEq] at h
    obtain ⟨⟨rfl, _⟩, _, rfl⟩ := h
    exact ⟨cur, hh, by simpa using h3, h1, h2, by simpa using h4⟩

theorem FileAt.of {g cap : Nat} {f : DFile} (F : FileAt w g cap f) (h : w'.heap[g]? = w.heap[g]?) : FileAt w' g cap f := by
  refine ⟨⟨F.row.1, ?_⟩, F.kept, F.pos, F.byte⟩
  rcases F.row.2 with h0 | ⟨g', cap', cur, hv, hb, hh, r⟩
  · exact .inl h0
  · simp only [Value.slice.injEq, Option.some.injEq, Addr.mk.injEq] at hv
    obtain ⟨⟨rfl, _⟩, _, rfl⟩ := hv
    exact .inr ⟨g, cap, cur, rfl, hb, h.trans hh, r⟩

theorem DiskIn.neG (D : DiskIn w S d n L st bf bq G C) {x : Int} {f : DFile} (h : st.files x = some f) : G x ≠ d := by
  intro e; obtain ⟨cur, hh, _⟩ := (D.rows x f h).heap; rw [e, D.head] at hh; simp at hh
theorem DiskIn.neGf (D : DiskIn w S d n L st bf bq G C) {x : Int} {f : DFile} (h : st.files x = some f) : G x ≠ bf := by
  intro e; obtain ⟨cur, hh, _⟩ := (D.rows x f h).heap; obtain ⟨es, c, hm⟩ := D.tf.isMap; rw [e, hm] at hh; cases hh
theorem DiskIn.neGq (D : DiskIn w S d n L st bf bq G C) {x : Int} {f : DFile} (h : st.files x = some f) : G x ≠ bq := by
  intro e; obtain ⟨cur, hh, _⟩ := (D.rows x f h).heap; obtain ⟨es, c, hm⟩ := D.tq.isMap; rw [e, hm] at hh; cases hh

/-- What is done beside the disk does not touch it. -/
theorem DiskIn.kept {S' : Nat → Prop} (D : DiskIn w S d n L st bf bq G C) (K : Kept S' w w') (hd : ∀ k, S k → ¬ S' k) : DiskIn w' S d n L st bf bq G C := {
    head := (K.block d (D.bnd d D.sd) (hd d D.sd)).trans D.head
    sd := D.sd
    sf := D.sf
    sq := D.sq
    sg := D.sg
    neq := D.neq
    tf := D.tf.block (K.block bf (D.bnd bf D.sf) (hd bf D.sf))
    tq := D.tq.block (K.block bq (D.bnd bq D.sq) (hd bq D.sq))
    rows := fun x f h => (D.rows x f h).of (K.block _ (D.bnd _ (D.sg x f h)) (hd _ (D.sg x f h)))
    apart := D.apart
    len := D.len
    bnd := fun k hk => Nat.lt_of_lt_of_le (D.bnd k hk) K.size
    ops0 := D.ops0
    stop0 := D.stop0
    stop1 := D.stop1
    kinds := D.kinds }

/-- The head's numbers are set anew. -/
theorem DiskIn.setHead (D : DiskIn w S d n L st bf bq G C) {o s : Int} (ho : 0 ≤ o) (hs0 : 0 ≤ s) (hs1 : s ≤ 9223372036854775807)
    (hh : w'.heap[d]? = some (.cells #[.map (some bf), .int .i64 o, .int .i64 s, .map (some bq)] 71 (0, 0))) (hb : ∀ k, k ≠ d → w'.heap[k]? = w.heap[k]?) (hz : w.heap.size ≤ w'.heap.size) :
    DiskIn w' S d n L { st with ops := o, stop := s } bf bq G C := {
    head := hh
    sd := D.sd
    sf := D.sf
    sq := D.sq
    sg := D.sg
    neq := D.neq
    tf := D.tf.block (hb bf D.nef)
    tq := D.tq.block (hb bq D.neqd)
    rows := fun x f h => (D.rows x f h).of (hb _ (D.neG h))
    apart := D.apart
    len := D.len
    bnd := fun k hk => Nat.lt_of_lt_of_le (D.bnd k hk) hz
    ops0 := ho
    stop0 := hs0
    stop1 := hs1
    kinds := D.kinds }

/-- The faults are others. -/
theorem DiskIn.setFaults (D : DiskIn w S d n L st bf bq G C) {n' : Nat} (hn : n ≤ n') {Q : Int → Option Int} (hq : ∀ x k, Q x = some k → isI64 k) {M : Int → Option Value} (T : Tab Try.prog 3 w' bq n' M) (hM : ∀ x, M x = (Q x).map (Value.int .i64)) (ht : w.mapTurned w' bq) :
    DiskIn w' S d n' L { st with faults := Q } bf bq G C := by
  have hg := ht.grown
  have hb : ∀ k, k ≠ bq → w'.heap[k]? = w.heap[k]? := by
    intro k hk
    obtain ⟨es, c, es', c', h, rfl⟩ := ht
    exact heap_setBlock_other h _ hk
  exact {
    head := (hb d (Ne.symm D.neqd)).trans D.head
    sd := D.sd
    sf := D.sf
    sq := D.sq
    sg := D.sg
    neq := D.neq
    tf := (D.tf.block (hb bf D.neq)).mono hn
    tq := by rw [← show M = _ from funext hM]; exact T
    rows := fun x f h => (D.rows x f h).of (hb _ (D.neGq h))
    apart := D.apart
    len := D.len
    bnd := fun k hk => Nat.lt_of_lt_of_le (D.bnd k hk) hg.size
    ops0 := D.ops0
    stop0 := D.stop0
    stop1 := D.stop1
    kinds := hq }
end

def DSt.after (st : DSt) : DSt := { st with ops := st.ops + 1, faults := fun x => if x = st.ops then none else st.faults x }

def DSt.err (st : DSt) (file : Int) : Int := if st.stop ≤ st.ops then 4 else if (st.faults st.ops).isSome then 3 else if file < 0 then 1 else 0
def DSt.kind (st : DSt) : Int := if st.stop ≤ st.ops then 0 else (st.faults st.ops).getD 0

theorem setCell_head {w : World} {d t : Nat} {a b c e u : Value} (h : w.heap[d]? = some (.cells #[a, b, c, e] t (0, 0))) : (w.setCell ⟨d, 1, none⟩ u).heap[d]? = some (.cells #[a, u, c, e] t (0, 0)) := by
  simp [World.setCell, Array.getElem?_modify, h]

set_option maxRecDepth 100000 in
set_option maxHeartbeats 1000000 in
theorem begin_any {w : World} {S : Nat → Prop} {d n L : Nat} {st : DSt} {bf bq : Nat} {G C : Int → Nat} (D : DiskIn w S d n L st bf bq G C) (file : Int) (hops : st.ops < 4611686018427387904) :
    Calls Try.prog 43 #[.pointer (some ⟨d, 0, none⟩), .int .i64 file] w fun e w' =>
      e = .returned (.tuple #[.int .i64 (st.err file), .int .i64 st.kind]) ∧ DiskIn w' S d n L st.after bf bq G C ∧ Kept S w w' := by
  have h1 := D.c1
  have h3 := D.c3
  have h2 := D.c2
  have hf1 := D.fz 1
  have h0 := D.ops0
  have hs0 := D.stop0
  have hs1 := D.stop1
  have D1 : DiskIn (w.setCell ⟨d, 1, none⟩ (.int .i64 (st.ops + 1))) S d n L { st with ops := st.ops + 1, stop := st.stop } bf bq G C :=
    D.setHead (by omega) hs0 hs1 (setCell_head D.head) (fun k hk => Below.heap_setCell _ _ _ _ hk) (by simp [World.setCell])
  have fin : ∀ w2, DiskIn w2 S d n L { st with ops := st.ops + 1, stop := st.stop, faults := fun x => if x = st.ops then none else st.faults x } bf bq G C → (w.setCell ⟨d, 1, none⟩ (.int .i64 (st.ops + 1))).mapTurned w2 bq →
      DiskIn w2 S d n L st.after bf bq G C ∧ Kept S w w2 := fun w2 D2 ht => ⟨D2, (Kept.setCell w _ _ D.sd).and (Kept.turned ht D.sq)⟩
  have step : ∀ w2, Tab Try.prog 3 w2 bq n (upd (fun x => (st.faults x).map (Value.int .i64)) st.ops none) → (w.setCell ⟨d, 1, none⟩ (.int .i64 (st.ops + 1))).mapTurned w2 bq →
      DiskIn w2 S d n L { st with ops := st.ops + 1, stop := st.stop, faults := fun x => if x = st.ops then none else st.faults x } bf bq G C := fun w2 T2 ht =>
    D1.setFaults (Nat.le_refl _) (fun x k h => by split at h; · cases h
                                                  · exact D.kinds x k h) T2 (fun x => by unfold upd; split <;> rfl) ht
  by_cases hst : st.stop ≤ st.ops
  · have e1 : st.err file = 4 := by simp [DSt.err, hst]
    have e2 : st.kind = 0 := by simp [DSt.kind, hst]
    rw [e1, e2]
    clear e1 e2
    go_enter Try.func43, Try.ntmps43
    go_wp2_with (first
      | (at_lookup; refine wpList_tab_lookOk _ rfl _ _ 69 rfl 3 3 Try.underlying3 Try.underlying69 (Try.zeroValue3 _) bq n _ D1.tq rfl st.ops (isI64_of (by omega) (by omega)) rfl _ rfl _ rfl ?_)
      | (at_delete; refine wpList_tab_drop _ rfl _ _ 69 3 rfl 3 Try.underlying3 Try.underlying69 bq n _ D1.tq rfl st.ops (isI64_of (by omega) (by omega)) rfl ?_; intro w2 T2 ht2; have D2 := step w2 T2 ht2; have F2 := fin w2 D2 ht2; have h2' : w2.cell? ⟨d, 2, none⟩ = some (.int .i64 st.stop) := D2.c2; clear T2 ht2 D2 step fin)
      | fail)
    go_ret2
    exact ⟨rfl, F2⟩
  · have hst' : st.ops < st.stop := by omega
    cases hq : st.faults st.ops with
    | some kd =>
      have e1 : st.err file = 3 := by simp [DSt.err, hst, hq]
      have e2 : st.kind = kd := by simp [DSt.kind, hst, hq]
      rw [e1, e2]
      clear e1 e2
      go_enter Try.func43, Try.ntmps43
      go_wp2_with (first
        | (at_lookup; refine wpList_tab_lookOk _ rfl _ _ 69 rfl 3 3 Try.underlying3 Try.underlying69 (Try.zeroValue3 _) bq n _ D1.tq rfl st.ops (isI64_of (by omega) (by omega)) rfl _ rfl _ rfl ?_)
        | (at_delete; refine wpList_tab_drop _ rfl _ _ 69 3 rfl 3 Try.underlying3 Try.underlying69 bq n _ D1.tq rfl st.ops (isI64_of (by omega) (by omega)) rfl ?_; intro w2 T2 ht2; have D2 := step w2 T2 ht2; have F2 := fin w2 D2 ht2; have h2' : w2.cell? ⟨d, 2, none⟩ = some (.int .i64 st.stop) := D2.c2; clear T2 ht2 D2 step fin)
        | fail)
      go_ret2
      exact ⟨rfl, F2⟩
    | none =>
      by_cases hf : file < 0
      · have e1 : st.err file = 1 := by simp [DSt.err, hst, hq, hf]
        have e2 : st.kind = 0 := by simp [DSt.kind, hst, hq]
        rw [e1, e2]
        clear e1 e2
        go_enter Try.func43, Try.ntmps43
        go_wp2_with (first
          | (at_lookup; refine wpList_tab_lookOk _ rfl _ _ 69 rfl 3 3 Try.underlying3 Try.underlying69 (Try.zeroValue3 _) bq n _ D1.tq rfl st.ops (isI64_of (by omega) (by omega)) rfl _ rfl _ rfl ?_)
          | (at_delete; refine wpList_tab_drop _ rfl _ _ 69 3 rfl 3 Try.underlying3 Try.underlying69 bq n _ D1.tq rfl st.ops (isI64_of (by omega) (by omega)) rfl ?_; intro w2 T2 ht2; have D2 := step w2 T2 ht2; have F2 := fin w2 D2 ht2; have h2' : w2.cell? ⟨d, 2, none⟩ = some (.int .i64 st.stop) := D2.c2; clear T2 ht2 D2 step fin)
          | fail)
        go_ret2
        exact ⟨rfl, F2⟩
      · have e1 : st.err file = 0 := by simp [DSt.err, hst, hq, hf]
        have e2 : st.kind = 0 := by simp [DSt.kind, hst, hq]
        rw [e1, e2]
        clear e1 e2
        go_enter Try.func43, Try.ntmps43
        go_wp2_with (first
          | (at_lookup; refine wpList_tab_lookOk _ rfl _ _ 69 rfl 3 3 Try.underlying3 Try.underlying69 (Try.zeroValue3 _) bq n _ D1.tq rfl st.ops (isI64_of (by omega) (by omega)) rfl _ rfl _ rfl ?_)
          | (at_delete; refine wpList_tab_drop _ rfl _ _ 69 3 rfl 3 Try.underlying3 Try.underlying69 bq n _ D1.tq rfl st.ops (isI64_of (by omega) (by omega)) rfl ?_; intro w2 T2 ht2; have D2 := step w2 T2 ht2; have F2 := fin w2 D2 ht2; have h2' : w2.cell? ⟨d, 2, none⟩ = some (.int .i64 st.stop) := D2.c2; clear T2 ht2 D2 step fin)
          | fail)
        go_ret2
        exact ⟨rfl, F2⟩

end Go.Proofs.Ythpamcfemhimcaa
