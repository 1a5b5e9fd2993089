/-
  Both nets beside each other: what each call makes of them.
-/
import Derived.Test.YthpamcfemhimcaaNetKeep
namespace Go.Proofs.Ythpamcfemhimcaa
open Go.RowKit

/-- The program's net at d is the row l1, the document's at r the row l2; all that is theirs lies in X. -/
def NM (X : Nat → Prop) (most m : Int) (d r : Nat) (l1 l2 : List PX) (w : World) : Prop :=
  ∃ (S1 S2 : Nat → Prop) (v1 v2 : Value) (ps1 ps2 : List PV), NetW most w S1 d v1 ps1 ∧ NetR m w S2 r v2 ps2 ∧ ps1.map PV.pure = l1 ∧ ps2.map PV.pure = l2 ∧ (∀ k, S1 k → ¬ S2 k) ∧ (∀ k, S1 k → X k) ∧ (∀ k, S2 k → X k)

section
variable {X : Nat → Prop} {most m : Int} {d r : Nat} {l1 l2 : List PX} {w w' : World}

theorem NM.kept {S' : Nat → Prop} (N : NM X most m d r l1 l2 w) (K : Kept S' w w') (h : ∀ k, X k → ¬ S' k) : NM X most m d r l1 l2 w' := by
  obtain ⟨S1, S2, v1, v2, ps1, ps2, N1, N2, h1, h2, hd, x1, x2⟩ := N
  exact ⟨S1, S2, v1, v2, ps1, ps2, N1.kept K (fun k hk => h k (x1 k hk)), N2.kept K (fun k hk => h k (x2 k hk)), h1, h2, hd, x1, x2⟩

theorem NM.keptN (N : NM X most m d r l1 l2 w) (K : Kept (fun _ => False) w w') : NM X most m d r l1 l2 w' := N.kept K (fun _ _ h => h)

theorem NM.mono {Y : Nat → Prop} (N : NM X most m d r l1 l2 w) (h : ∀ k, X k → Y k) : NM Y most m d r l1 l2 w := by
  obtain ⟨S1, S2, v1, v2, ps1, ps2, N1, N2, h1, h2, hd, x1, x2⟩ := N
  exact ⟨S1, S2, v1, v2, ps1, ps2, N1, N2, h1, h2, hd, fun k hk => h k (x1 k hk), fun k hk => h k (x2 k hk)⟩

theorem NM.tight (N : NM X most m d r l1 l2 w) : NM (fun k => X k ∧ k < w.heap.size) most m d r l1 l2 w := by
  obtain ⟨S1, S2, v1, v2, ps1, ps2, N1, N2, h1, h2, hd, x1, x2⟩ := N
  exact ⟨S1, S2, v1, v2, ps1, ps2, N1, N2, h1, h2, hd, fun k hk => ⟨x1 k hk, N1.bnd k hk⟩, fun k hk => ⟨x2 k hk, N2.bnd k hk⟩⟩

/-- Behind a call on the program's net. -/
theorem NM.to1 {S1 S2 : Nat → Prop} {v2 : Value} {ps2 : List PV} {l : List PX} (N2 : NetR m w S2 r v2 ps2) (h2 : ps2.map PV.pure = l2) (hd : ∀ k, S1 k → ¬ S2 k) (x1 : ∀ k, S1 k → X k) (x2 : ∀ k, S2 k → X k) (T : NetTo 53 (hdW most) w S1 d l w') :
    NM (fun k => X k ∨ w.heap.size ≤ k) most m d r l l2 w' ∧ Kept X w w' := by
  obtain ⟨S1', v', ps', N', hl, K, hS⟩ := T
  refine ⟨⟨S1', S2, v', v2, ps', ps2, N', N2.kept K (fun k hk h => hd k h hk), hl, h2, fun k hk h => ?_, fun k hk => (hS k hk).imp (x1 k) id, fun k hk => .inl (x2 k hk)⟩, K.mono x1⟩
  rcases hS k hk with h' | h'
  · exact hd k h' h
  · have := N2.bnd k h; omega

theorem NM.to2 {S1 S2 : Nat → Prop} {v1 : Value} {ps1 : List PV} {l : List PX} (N1 : NetW most w S1 d v1 ps1) (h1 : ps1.map PV.pure = l1) (hd : ∀ k, S1 k → ¬ S2 k) (x1 : ∀ k, S1 k → X k) (x2 : ∀ k, S2 k → X k) (T : NetTo 44 (hdR m) w S2 r l w') :
    NM (fun k => X k ∨ w.heap.size ≤ k) most m d r l1 l w' ∧ Kept X w w' := by
  obtain ⟨S2', v', ps', N', hl, K, hS⟩ := T
  refine ⟨⟨S1, S2', v1, v', ps1, ps', N1.kept K (fun k hk h => hd k hk h), N', h1, hl, fun k hk h => ?_, fun k hk => .inl (x1 k hk), fun k hk => (hS k hk).imp (x2 k) id⟩, K.mono x2⟩
  rcases hS k h with h' | h'
  · exact hd k hk h'
  · have := N1.bnd k hk; omega

theorem lenX {ps : List PV} {l : List PX} (h : ps.map PV.pure = l) : ps.length = l.length := by rw [← h, List.length_map]

theorem nm_send (N : NM X most m d r l1 l2 w) (hl : l1.length < 1000) (fr to : Int) (a : Option Addr) (n c : Nat) (b : List Int) (B : BytesAt w a n c b) (hm : n ≤ 200) :
    Calls Try.prog 10 #[.pointer (some ⟨d, 0, none⟩), .agg #[.int .i64 fr, .int .i64 to, .slice a n c]] w fun e w' =>
      e = .returned (.bool (!decide (most ≤ (l1.length : Int)))) ∧ NM (fun k => X k ∨ w.heap.size ≤ k) most m d r (sendX most l1 (fr, to, b)) l2 w' ∧ Kept X w w' := by
  obtain ⟨S1, S2, v1, v2, ps1, ps2, N1, N2, h1, h2, hd, x1, x2⟩ := N
  refine (netSend_any N1 (by rw [lenX h1]; exact hl) fr to a n c b B hm).mono ?_
  rintro e w' ⟨he, T⟩
  rw [lenX h1] at he
  rw [h1] at T
  exact ⟨he, NM.to1 N2 h2 hd x1 x2 T⟩

theorem nm_sendR (N : NM X most m d r l1 l2 w) (hl : l2.length < 1000) (fr to : Int) (a : Option Addr) (n c : Nat) (b : List Int) (B : BytesAt w a n c b) (hm : n ≤ 200) :
    Calls Try.prog 12 #[.pointer (some ⟨r, 0, none⟩), .agg #[.int .i64 fr, .int .i64 to, .slice a n c]] w fun e w' =>
      e = .returned (.bool (!decide (m ≤ (l2.length : Int)))) ∧ NM (fun k => X k ∨ w.heap.size ≤ k) most m d r l1 (sendX m l2 (fr, to, b)) w' ∧ Kept X w w' := by
  obtain ⟨S1, S2, v1, v2, ps1, ps2, N1, N2, h1, h2, hd, x1, x2⟩ := N
  refine (refSend_any N2 (by rw [lenX h2]; exact hl) fr to a n c b B hm).mono ?_
  rintro e w' ⟨he, T⟩
  rw [lenX h2] at he
  rw [h2] at T
  exact ⟨he, NM.to2 N1 h1 hd x1 x2 T⟩

theorem nm_drop (N : NM X most m d r l1 l2 w) (i : Int) :
    Calls Try.prog 17 #[.pointer (some ⟨d, 0, none⟩), .int .i64 i] w fun e w' =>
      e = .returned (.bool (inB l1.length i)) ∧ NM (fun k => X k ∨ w.heap.size ≤ k) most m d r (dropX l1 i) l2 w' ∧ Kept X w w' := by
  obtain ⟨S1, S2, v1, v2, ps1, ps2, N1, N2, h1, h2, hd, x1, x2⟩ := N
  refine (netDrop_any N1 i).mono ?_
  rintro e w' ⟨he, v', ps', N', hp, K⟩
  rw [lenX h1] at he
  rw [h1] at hp
  exact ⟨he, NM.to1 N2 h2 hd x1 x2 ⟨S1, v', ps', N', hp, K, fun _ => .inl⟩⟩

theorem nm_dropR (N : NM X most m d r l1 l2 w) (i : Int) :
    Calls Try.prog 18 #[.pointer (some ⟨r, 0, none⟩), .int .i64 i] w fun e w' =>
      e = .returned (.bool (inB l2.length i)) ∧ NM (fun k => X k ∨ w.heap.size ≤ k) most m d r l1 (dropX l2 i) w' ∧ Kept X w w' := by
  obtain ⟨S1, S2, v1, v2, ps1, ps2, N1, N2, h1, h2, hd, x1, x2⟩ := N
  refine (refDrop_any N2 i).mono ?_
  rintro e w' ⟨he, T⟩
  rw [lenX h2] at he
  rw [h2] at T
  exact ⟨he, NM.to2 N1 h1 hd x1 x2 T⟩

theorem nm_double (N : NM X most m d r l1 l2 w) (hl : l1.length < 1000) (i : Int) :
    Calls Try.prog 19 #[.pointer (some ⟨d, 0, none⟩), .int .i64 i] w fun e w' =>
      e = .returned (.bool (inB l1.length i && !decide (most ≤ (l1.length : Int)))) ∧ NM (fun k => X k ∨ w.heap.size ≤ k) most m d r (doubleX most l1 i) l2 w' ∧ Kept X w w' := by
  obtain ⟨S1, S2, v1, v2, ps1, ps2, N1, N2, h1, h2, hd, x1, x2⟩ := N
  refine (netDouble_any N1 (by rw [lenX h1]; exact hl) i).mono ?_
  rintro e w' ⟨he, T⟩
  rw [lenX h1] at he
  rw [h1] at T
  exact ⟨he, NM.to1 N2 h2 hd x1 x2 T⟩

theorem nm_doubleR (N : NM X most m d r l1 l2 w) (hl : l2.length < 1000) (i : Int) :
    Calls Try.prog 20 #[.pointer (some ⟨r, 0, none⟩), .int .i64 i] w fun e w' =>
      e = .returned (.bool (inB l2.length i && !decide (m ≤ (l2.length : Int)))) ∧ NM (fun k => X k ∨ w.heap.size ≤ k) most m d r l1 (doubleX m l2 i) w' ∧ Kept X w w' := by
  obtain ⟨S1, S2, v1, v2, ps1, ps2, N1, N2, h1, h2, hd, x1, x2⟩ := N
  refine (refDouble_any N2 (by rw [lenX h2]; exact hl) i).mono ?_
  rintro e w' ⟨he, T⟩
  rw [lenX h2] at he
  rw [h2] at T
  exact ⟨he, NM.to2 N1 h1 hd x1 x2 T⟩

theorem nm_take (N : NM X most m d r l1 l2 w) (i : Int) :
    Calls Try.prog 13 #[.pointer (some ⟨d, 0, none⟩), .int .i64 i] w fun e w' =>
      CopyOf w.heap.size (atX l1 i) e w' ∧ NM X most m d r (dropX l1 i) l2 w' ∧ Kept X w w' := by
  obtain ⟨S1, S2, v1, v2, ps1, ps2, N1, N2, h1, h2, hd, x1, x2⟩ := N
  refine (netTake_any N1 i).mono ?_
  rintro e w' ⟨he, v', ps', N', hp, K⟩
  rw [h1] at hp he
  exact ⟨he, ⟨S1, S2, v', v2, ps', ps2, N', N2.kept K (fun k hk h => hd k h hk), hp, h2, hd, x1, x2⟩, K.mono x1⟩

theorem nm_takeR (N : NM X most m d r l1 l2 w) (i : Int) :
    Calls Try.prog 14 #[.pointer (some ⟨r, 0, none⟩), .int .i64 i] w fun e w' =>
      CopyOf w.heap.size (atX l2 i) e w' ∧ NM (fun k => X k ∨ w.heap.size ≤ k) most m d r l1 (dropX l2 i) w' ∧ Kept X w w' := by
  obtain ⟨S1, S2, v1, v2, ps1, ps2, N1, N2, h1, h2, hd, x1, x2⟩ := N
  refine (refTake_any N2 i).mono ?_
  rintro e w' ⟨he, T⟩
  rw [h2] at T he
  exact ⟨he, NM.to2 N1 h1 hd x1 x2 T⟩

theorem nm_look (N : NM X most m d r l1 l2 w) (i : Int) :
    Calls Try.prog 21 #[.pointer (some ⟨d, 0, none⟩), .int .i64 i] w fun e w' =>
      CopyOf w.heap.size (atX l1 i) e w' ∧ NM X most m d r l1 l2 w' ∧ Kept (fun _ => False) w w' := by
  have N0 := N
  obtain ⟨S1, S2, v1, v2, ps1, ps2, N1, N2, h1, h2, hd, x1, x2⟩ := N
  refine (netLook_any N1 i).mono ?_
  rintro e w' ⟨he, K⟩
  rw [h1] at he
  exact ⟨he, N0.keptN K, K⟩

theorem nm_lookR (N : NM X most m d r l1 l2 w) (i : Int) :
    Calls Try.prog 22 #[.pointer (some ⟨r, 0, none⟩), .int .i64 i] w fun e w' =>
      CopyOf w.heap.size (atX l2 i) e w' ∧ NM X most m d r l1 l2 w' ∧ Kept (fun _ => False) w w' := by
  have N0 := N
  obtain ⟨S1, S2, v1, v2, ps1, ps2, N1, N2, h1, h2, hd, x1, x2⟩ := N
  refine (refLook_any N2 i).mono ?_
  rintro e w' ⟨he, K⟩
  rw [h2] at he
  exact ⟨he, N0.keptN K, K⟩

theorem nm_len (N : NM X most m d r l1 l2 w) :
    Calls Try.prog 23 #[.pointer (some ⟨d, 0, none⟩)] w fun e w' => e = .returned (.int .i64 l1.length) ∧ w' = w := by
  obtain ⟨S1, S2, v1, v2, ps1, ps2, N1, N2, h1, h2, hd, x1, x2⟩ := N
  refine (netLen_any N1).mono ?_
  rintro e w' ⟨he, h⟩
  rw [lenX h1] at he
  exact ⟨he, h⟩

/-- The document's row, as it lies. -/
theorem NM.rowR (N : NM X most m d r l1 l2 w) : ∃ a c, w.cell? ⟨r, 1, none⟩ = some (.slice a l2.length c) := by
  obtain ⟨S1, S2, v1, v2, ps1, ps2, N1, N2, h1, h2, hd, x1, x2⟩ := N
  obtain ⟨a, c, e, _⟩ := N2.shape
  refine ⟨a, c, ?_⟩
  rw [← lenX h2, ← e]
  exact N2.r0.2.1

theorem NM.lt (N : NM X most m d r l1 l2 w) : d < w.heap.size ∧ r < w.heap.size ∧ X d ∧ X r := by
  obtain ⟨S1, S2, v1, v2, ps1, ps2, N1, N2, h1, h2, hd, x1, x2⟩ := N
  exact ⟨N1.bnd d N1.sd, N2.bnd r N2.sd, x1 d N1.sd, x2 r N2.sd⟩
end

theorem sendX_len (most : Int) (l : List PX) (x : PX) : (sendX most l x).length ≤ l.length + 1 := by
  unfold sendX; split <;> simp
theorem dropX_len (l : List PX) (i : Int) : (dropX l i).length ≤ l.length := by
  unfold dropX; split
  · exact List.length_eraseIdx_le _ _
  · exact Nat.le_refl _
theorem doubleX_len (most : Int) (l : List PX) (i : Int) : (doubleX most l i).length ≤ l.length + 1 := by
  unfold doubleX; split
  · exact sendX_len _ _ _
  · omega
theorem sendX_most (most : Int) (l : List PX) (x : PX) : sendX (if most < 0 then 0 else most) l x = sendX most l x ∧ decide ((if most < 0 then 0 else most) ≤ (l.length : Int)) = decide (most ≤ (l.length : Int)) := by
  by_cases h : most < 0
  · have h1 : most ≤ (l.length : Int) := by omega
    have h2 : (0 : Int) ≤ (l.length : Int) := by omega
    simp [sendX, h, h1]
  · simp [h]
theorem doubleX_most (most : Int) (l : List PX) (i : Int) : doubleX (if most < 0 then 0 else most) l i = doubleX most l i := by
  unfold doubleX; split
  · exact (sendX_most most l _).1
  · rfl

end Go.Proofs.Ythpamcfemhimcaa
