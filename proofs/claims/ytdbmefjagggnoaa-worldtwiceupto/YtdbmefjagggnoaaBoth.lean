/-
  A disk and the document's disk beside each other: each call on both keeps them the same.
-/
import Derived.Test.YtdbmefjagggnoaaRefBeg
namespace Go.Proofs.Ytdbmefjagggnoaa
open Go.RowKit Go.Maps Go.ChangeMaps Go.MapKept

/-- How great they are behind so many calls. -/
structure Bnd (j n L : Nat) (rs : RSt) : Prop where
  n : n ≤ 201 * j
  L : L ≤ 200 * j
  files : rs.L.length ≤ j
  faults : rs.faults.length ≤ j
  count : rs.count ≤ j

theorem setL_length (l : List RF) (x : Int) (f : RF) : (setL l x f).length ≤ l.length + 1 := by
  induction l with
  | nil => simp [setL]
  | cons g r ih =>
    unfold setL
    split
    · simp only [List.length_cons]; omega
    · split <;> simp

theorem delL_length (l : List RF) (x : Int) : (delL l x).length ≤ l.length := by
  induction l with
  | nil => simp [delL]
  | cons g r ih =>
    unfold delL
    split
    · simp only [List.length_cons]; omega
    · split <;> simp

theorem crashL_length (l : List RF) (cs : List Int) : (crashL l cs).length ≤ l.length := by
  induction l generalizing cs with
  | nil => simp [crashL]
  | cons g r ih =>
    have h := ih cs.tail
    unfold crashL
    rw [List.length_append, List.length_cons]
    split <;> simp <;> omega

theorem after_length (rs : RSt) : rs.after.faults.length ≤ rs.faults.length := by
  simp only [RSt.after, List.length_map]
  exact List.length_filter_le _ _

section
variable {j n L : Nat} {rs : RSt}

theorem Bnd.after (B : Bnd j n L rs) (n' L' : Nat) (hn : n' ≤ 201 * (j + 1)) (hL : L' ≤ 200 * (j + 1)) : Bnd (j + 1) n' L' rs.after := by
  have h1 := after_length rs
  have h2 := B.faults
  have h3 := B.files
  have h4 := B.count
  exact ⟨hn, hL, by simp only [RSt.after]; omega, by omega, by simp only [RSt.after]; push_cast; omega⟩

theorem Bnd.withL {j n L : Nat} {rs : RSt} (B : Bnd j n L rs) (l : List RF) (h : l.length ≤ j) : Bnd j n L { rs with L := l } := ⟨B.n, B.L, h, B.faults, B.count⟩

theorem add_length (rs : RSt) (x : Int) (b : List Int) : (rs.add x b).L.length ≤ rs.L.length + 1 := by
  unfold RSt.add
  split
  · omega
  · exact setL_length _ _ _

theorem Bnd.add {j n L : Nat} {rs : RSt} (B : Bnd (j + 1) n L rs) (x : Int) (b : List Int) (h : rs.L.length ≤ j) : Bnd (j + 1) n L (rs.add x b) := by
  unfold RSt.add
  split
  · exact B
  · exact B.withL _ (by have := setL_length rs.L x (addF (getL rs.L x) x b); omega)

theorem Bnd.append (B : Bnd j n L rs) (x : Int) (b : List Int) (hb : b.length ≤ 200) : Bnd (j + 1) (n + 1) (L + b.length) (rs.append x b) := by
  have hn := B.n
  have hL := B.L
  have A := B.after (n + 1) (L + b.length) (by omega) (by omega)
  have hf : rs.after.L.length ≤ j := B.files
  unfold RSt.append
  split
  · exact A.add _ _ hf
  · split
    · exact A.add _ _ hf
    · exact A

theorem Bnd.sync (B : Bnd j n L rs) (x : Int) : Bnd (j + 1) (n + 1) L (rs.sync x) := by
  have hn := B.n
  have hL := B.L
  have A := B.after (n + 1) L (by omega) (by omega)
  unfold RSt.sync
  split
  · split
    · exact A.withL _ (Nat.le_trans (setL_length _ _ _) (Nat.succ_le_succ B.files))
    · exact A
  · exact A

theorem Bnd.delete (B : Bnd j n L rs) (x : Int) : Bnd (j + 1) n L (rs.delete x) := by
  have hn := B.n
  have hL := B.L
  have A := B.after n L (by omega) (by omega)
  unfold RSt.delete
  split
  · exact A.withL _ (by have := delL_length rs.L x; have := B.files; omega)
  · exact A

theorem Bnd.more (B : Bnd j n L rs) : Bnd (j + 1) n L rs := by
  have h1 := B.n
  have h2 := B.L
  have h3 := B.files
  have h4 := B.faults
  have h5 := B.count
  exact ⟨by omega, by omega, by omega, by omega, by push_cast; omega⟩

theorem Bnd.fail (B : Bnd j n L rs) (a k : Int) : Bnd (j + 1) (n + 1) L (rs.fail a k) := by
  have M := B.more
  have h1 := B.n
  have h4 := B.faults
  exact ⟨by omega, M.L, M.files, by simp [RSt.fail]; omega, M.count⟩

theorem Bnd.stopIn (B : Bnd j n L rs) (a : Int) : Bnd (j + 1) n L (rs.stopIn a) := by
  have M := B.more
  exact ⟨M.n, M.L, M.files, M.faults, M.count⟩

theorem Bnd.crash (B : Bnd j n L rs) (hj : j ≤ 200) (cs : List Int) (k : Nat) (hk : k = rs.L.length) : Bnd (j + 1) (n + k) L (rs.crash cs) := by
  have M := B.more
  have h1 := B.n
  have h3 := B.files
  have h := crashL_length rs.L cs
  exact ⟨by omega, M.L, by show (crashL rs.L cs).length ≤ j + 1; omega, by simp [RSt.crash], M.count⟩
end

/-- Both disks, side by side, the same. -/
def Both (w : World) (lo d r j : Nat) : Prop := ∃ n L st rs S1 bf bq G C S2 vL vF M, DiskIn w S1 d n L st bf bq G C ∧ RefIn w S2 r rs vL vF M ∧ (∀ k, S1 k → ¬ S2 k) ∧ (∀ k, S1 k ∨ S2 k → lo ≤ k) ∧ lo ≤ w.heap.size ∧ Sim st rs ∧ RBd rs ∧ Bnd j n L rs

section
variable {w w' : World} {lo d r j : Nat}

theorem Both.kept (B : Both w lo d r j) (K : Kept (fun _ => False) w w') : Both w' lo d r j := by
  obtain ⟨n, L, st, rs, S1, bf, bq, G, C, S2, vL, vF, M, D, R, hd, hlo, hw, hs, hb, hn⟩ := B
  exact ⟨n, L, st, rs, S1, bf, bq, G, C, S2, vL, vF, M, D.kept K (fun _ _ h => h), R.kept K (fun _ _ h => h), hd, hlo, Nat.le_trans hw K.size, hs, hb, hn⟩

theorem RefIn.len {S : Nat → Prop} {rs : RSt} {vL vF : Value} {M : List RM} (R : RefIn w S r rs vL vF M) : M.length = rs.L.length := by rw [R.ghost]; simp

theorem sim_len {S1 : Nat → Prop} {n L bf bq : Nat} {st : DSt} {rs : RSt} {G C : Int → Nat} (D : DiskIn w S1 d n L st bf bq G C) (hs : Sim st rs) : ∀ f ∈ rs.L, f.bytes.length ≤ L := by
  intro f hf
  have h := hs.files f.n
  rw [getL_of_mem _ hs.rising f hf] at h
  exact D.len f.n _ h

theorem sim_bytes_len {S1 : Nat → Prop} {n L bf bq : Nat} {st : DSt} {rs : RSt} {G C : Int → Nat} (D : DiskIn w S1 d n L st bf bq G C) (hs : Sim st rs) (x : Int) : (rs.bytesOf x).length ≤ L := by
  have h := hs.files x
  unfold RSt.bytesOf
  cases hg : getL rs.L x with
  | none => exact Nat.zero_le _
  | some f => rw [hg] at h; exact D.len x _ h

theorem bytesOf_bs {S1 : Nat → Prop} {n L bf bq : Nat} {st : DSt} {G C : Int → Nat} (D : DiskIn w S1 d n L st bf bq G C) (x : Int) : ∀ y ∈ st.bytesOf x, 0 ≤ y ∧ y ≤ 255 := by
  intro y hy
  unfold DSt.bytesOf at hy
  cases hf : st.files x with
  | none => rw [hf] at hy; cases hy
  | some f => rw [hf] at hy; exact (D.rows x f hf).byte y hy
end

theorem cell_kp {w w' : World} {S : Nat → Prop} (K : Kept S w w') {q o : Nat} {u : Value} (hq : w.cell? ⟨q, o, none⟩ = some u) (hS : ¬ S q) : w'.cell? ⟨q, o, none⟩ = some u := by
  rw [World.cell?_of_block (w := w) (K.block q (World.block_lt_of_cell? w _ hq) hS)]
  exact hq

/-- The code goes on behind its end, and no other way. -/
def onlyN (K : Act → World → Prop) : Exit → Act → World → Prop
  | .normal, a, w => K a w
  | _, _, _ => False

theorem wp_onlyN {P : Program} {c : Code} {Q : Exit → Act → World → Prop} {a : Act} {w : World} (h : c.wp P (onlyN (fun a w => Q .normal a w)) a w) : c.wp P Q a w :=
  Code.wp_mono (fun e a w hh => by cases e <;> first | exact hh | exact hh.elim) h

end Go.Proofs.Ytdbmefjagggnoaa
