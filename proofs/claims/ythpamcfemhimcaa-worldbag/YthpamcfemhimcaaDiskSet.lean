/-
  A disk's file set anew, or taken away: what is left of the disk. 
-/
import Derived.Test.YthpamcfemhimcaaDiskGet
import Derived.Deep.AppendLies
namespace Go.Proofs.Ythpamcfemhimcaa
open Go.RowKit Go.Maps Go.ChangeMaps Go.MapKept

def setF (F : Int → Option DFile) (x : Int) (f : Option DFile) : Int → Option DFile := fun y => if y = x then f else F y

section
variable {w w' : World} {S : Nat → Prop} {d n L : Nat} {st : DSt} {bf bq : Nat} {G C : Int → Nat}

theorem DiskIn.setFile (D : DiskIn w S d n L st bf bq G C) {x : Int} {f' : DFile} {g cap n' L' : Nat} (hn : n ≤ n') (hL : L ≤ L') (hf : f'.bytes.length ≤ L')
    (hb : ∀ k, S k → k ≠ bf → k ≠ g → (∀ f, st.files x = some f → k ≠ G x) → w'.heap[k]? = w.heap[k]?) (hz : w.heap.size ≤ w'.heap.size)
    (T : Tab Try.prog 3 w' bf n' (upd (fun x => (st.files x).map fun f => fileVal (G x) (C x) f) x (some (fileVal g cap f'))))
    (F : FileAt w' g cap f') (hg : (∃ f, st.files x = some f ∧ G x = g) ∨ w.heap.size ≤ g) :
    DiskIn w' (fun k => S k ∨ k = g) d n' L' { st with files := setF st.files x (some f') } bf bq (fun y => if y = x then g else G y) (fun y => if y = x then cap else C y) := by
  have old : ∀ y f, st.files y = some f → y ≠ x → G y ≠ g := by
    intro y f h hne e
    rcases hg with ⟨f0, h0, rfl⟩ | hge
    · exact hne (D.apart y x f f0 h h0 e)
    · have := D.bnd _ (D.sg y f h); omega
  have hgd : ∀ k, S k → (∀ y f, st.files y = some f → k ≠ G y) → k ≠ g := by
    intro k hk hy e
    rcases hg with ⟨f0, h0, rfl⟩ | hge
    · exact hy x f0 h0 e
    · have := D.bnd k hk; omega
  have ed := hgd d D.sd (fun y f h e => D.neG h e.symm)
  have eq := hgd bq D.sq (fun y f h e => D.neGq h e.symm)
  obtain ⟨cur, hcur, _⟩ := F.heap
  have hlt : g < w'.heap.size := (Array.getElem?_eq_some_iff.1 hcur).1
  exact {
    head := (hb d D.sd (Ne.symm D.nef) ed (fun f h e => D.neG h e.symm)).trans D.head
    sd := .inl D.sd
    sf := .inl D.sf
    sq := .inl D.sq
    sg := by
      intro y f h
      dsimp only [setF] at h ⊢
      split at h
      · rename_i e; simp [e]
      · rename_i e; simp only [e, if_false]; exact .inl (D.sg y f h)
    neq := D.neq
    tf := by
      refine cast (congrArg _ (funext fun y => ?_)) T
      dsimp only [upd, setF]
      split <;> simp
    tq := (D.tq.block (hb bq D.sq (Ne.symm D.neq) eq (fun f h e => D.neGq h e.symm))).mono hn
    rows := by
      intro y f h
      dsimp only [setF] at h ⊢
      split at h
      · rename_i e; simp only [Option.some.injEq] at h; subst h; simp only [e, if_true]; exact F
      · rename_i e
        simp only [e, if_false]
        exact (D.rows y f h).of (hb _ (D.sg y f h) (D.neGf h) (old y f h e) (fun f0 h0 e0 => e (D.apart y x f f0 h h0 e0)))
    apart := by
      intro y z f f1 hy hzz e
      dsimp only [setF] at hy hzz
      by_cases ey : y = x <;> by_cases ez : z = x
      · rw [ey, ez]
      · simp only [ey, ez, if_true, if_false] at e hzz
        exact absurd e.symm (old z f1 hzz ez)
      · simp only [ey, ez, if_true, if_false] at e hy
        exact absurd e (old y f hy ey)
      · simp only [ey, ez, if_false] at e hy hzz
        exact D.apart y z f f1 hy hzz e
    len := by
      intro y f h
      dsimp only [setF] at h
      split at h
      · simp only [Option.some.injEq] at h; subst h; exact hf
      · exact Nat.le_trans (D.len y f h) hL
    bnd := by
      rintro k (hk | rfl)
      · exact Nat.lt_of_lt_of_le (D.bnd k hk) hz
      · exact hlt
    ops0 := D.ops0
    stop0 := D.stop0
    stop1 := D.stop1
    kinds := D.kinds }

theorem DiskIn.dropFile (D : DiskIn w S d n L st bf bq G C) {x : Int}
    (T : Tab Try.prog 3 w' bf n (upd (fun x => (st.files x).map fun f => fileVal (G x) (C x) f) x none)) (ht : w.mapTurned w' bf) :
    DiskIn w' S d n L { st with files := setF st.files x none } bf bq G C := by
  have hg := ht.grown
  have hb : ∀ k, k ≠ bf → w'.heap[k]? = w.heap[k]? := by
    intro k hk
    obtain ⟨es, c, es', c', h, rfl⟩ := ht
    exact heap_setBlock_other h _ hk
  have sub : ∀ y f, setF st.files x none y = some f → st.files y = some f := by
    intro y f h
    dsimp only [setF] at h
    split at h
    · cases h
    · exact h
  exact {
    head := (hb d (Ne.symm D.nef)).trans D.head
    sd := D.sd
    sf := D.sf
    sq := D.sq
    sg := fun y f h => D.sg y f (sub y f h)
    neq := D.neq
    tf := by
      refine cast (congrArg _ (funext fun y => ?_)) T
      dsimp only [upd, setF]
      split <;> simp
    tq := D.tq.block (hb bq (Ne.symm D.neq))
    rows := fun y f h => (D.rows y f (sub y f h)).of (hb _ (D.neGf (sub y f h)))
    apart := fun y z f f1 hy hz e => D.apart y z f f1 (sub y f hy) (sub z f1 hz) e
    len := fun y f h => D.len y f (sub y f h)
    bnd := fun k hk => Nat.lt_of_lt_of_le (D.bnd k hk) hg.size
    ops0 := D.ops0
    stop0 := D.stop0
    stop1 := D.stop1
    kinds := D.kinds }
end

end Go.Proofs.Ythpamcfemhimcaa
