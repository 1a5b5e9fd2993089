/-
  RingViews, walked: lists above 20 and above 20.
-/
import Derived.Test.YtnhmdeglaoilcaaDoorRViewsKit
namespace Go.Proofs.YtnhmdeglaoilcaaDoor
open Go.RowKit Go.Sort

set_option maxRecDepth 100000 in
set_option maxHeartbeats 4000000 in
theorem views_d_new (v1 v2 : Int) (a1 a2 : Option Addr) (m1 c1 m2 c2 : Nat) (z1 z2 : List Int) (w : World) (B1 : IntsAt w a1 m1 c1 z1) (B2 : IntsAt w a2 m2 c2 z2) (h1 : 20 < m1) (h2 : 20 < m2) (hv : v1 < v2) :
    Calls Tryd.prog 8 #[vw v1 a1 m1 c1, vw v2 a2 m2 c2] w fun e w' => e = .returned (.bool true) ∧ Below w.heap.size w w' := by
  obtain ⟨i0, hi, hz0, hz1, hz2⟩ := info_parts Tryd.info3
  have J1 := B1.take (h := 20) (by omega)
  have e1 : (20 : Int) < (m1 : Int) := by omega
  have f1 : (20 : Int) ≤ (c1 : Int) := by have := B1.cap; omega
  obtain ⟨b1, o1, rfl, _⟩ := B1.at (j := 0) (by rw [B1.len]; omega)
  have J2 := B2.take (h := 20) (by omega)
  have e2 : (20 : Int) < (m2 : Int) := by omega
  have f2 : (20 : Int) ≤ (c2 : Int) := by have := B2.cap; omega
  obtain ⟨b2, o2, rfl, _⟩ := B2.at (j := 0) (by rw [B2.len]; omega)
  have A := VSt.start (x1 := v1) (x2 := v2) J1 J2
  have N := newer_any _ v1 v2 _ _ _ _ _ _ _ _ A.I1 A.I2 (by omega) (by omega)
  have hlw : (z2.take 20).length = 20 := J2.len
  simp only [if_pos hv, hlw] at N
  unfold vw at N
  have HA : Hid _ := A
  have HL : Hid ((z2.take 20).length = 20) := hlw
  have e0 : (v2 != v2) = false := by simp
  generalize hl1 : (z1.take 20) = l1 at *
  generalize hl2 : (z2.take 20) = l2 at *
  unfold vw
  clear A J1 J2 B1 B2 hl1 hl2 hlw
  go_enter Tryd.func8, Tryd.ntmps8
  go_wp2_with (first
    | (go_at_call 31; refine N.mono ?_; rintro e w3 ⟨a3, c3, rfl, ho, K3⟩; have A3 := HA.out.kept K3 (fun _ h => h.elim); have ho3 := ownsRow_mono ho (base' := w.heap.size + 2) (by simp); have P := viewsInts (x := v2) (y := v2) ho3 A3.I2 (by omega); have H3 : Hid _ := A3; obtain ⟨y0, y1, y2, y3, y4, y5, y6, y7⟩ := A3.past; clear N ho A3)
    | (go_at_call 19; refine P.mono ?_; rintro e w5 ⟨rfl, K5, g1, g2⟩; have A5 := H3.out.kept K5 (fun _ h => h.elim); have H5 : Hid _ := A5; have g5 := fun X => cellKp (Kept.alloc (fun _ => False) w5 X) g2; clear P A5 y0 y1 y2 y3 y4 y5 y6 y7)
    | (at_builtin; refine wpList_append_src _ rfl _ _ 36 rfl w5.heap.size 3 i0 _ 1 8 Tryd.underlying36 hi hz0 hz1 hz2 rfl (by decide) (.slice (some ⟨w5.heap.size, 0, none⟩) 0 0) 0 [] rfl (ownsRow_empty w5 w5.heap.size 3 1 (Nat.le_refl _)) _ rfl 20 _ (H5.out.I2.kept (Kept.alloc (fun _ => False) _ _) (fun _ _ _ h => h)).src (ints_one _) (by unfold maxLen; omega) (by omega) (by simp) ?_; intro a6 c6 w6 ho6 hg6 _ hl6; simp only [Nat.zero_add, List.nil_append] at ho6; have K6 := keptNew hg6; have g3 := cellKp K6 g1; have g4 := cellKp K6 g2; have H6 : Hid (VSt w w6 _ _ _ _ _ _ _ _ _ _) := H5.out.kept K6 (fun _ h => h.elim); have SP := spoilInts_own w6 _ _ _ _ (rowKeepS ho3 (K5.and K6) (fun _ _ h => h)) (by omega) (by have h7 := H6.out.sz; omega))
    | (go_at_call 21; refine SP.mono ?_; rintro e w7 ⟨rfl, K7⟩)
    | fail)
  have hbl : ∀ j, (Value.slice a3 20 c3).ownBlock = some j → w.heap.size + 2 ≤ j ∧ j < w3.heap.size := fun j hj => ho3.lt j hj
  have hs3 := K5.size
  have A7 := H6.out.kept K7 (fun j h => (hbl j h).1)
  have g7 := cellKS K7 g4 (fun h => by have h8 := (hbl _ h).2; simp only at h8; omega)
  have I7 := intsOfRowN (rowKeepS ho6 K7 (fun j hj h => by have h8 := (hbl _ h).2; have h9 := (ho6.lt j hj).1; omega)) HL.out
  refine wp_onlyN (views13 _ A7.I1 A7.I2 A7.I2 I7 (by omega) (by omega) (by omega) A7.k0 A7.k1 A7.k2 A7.k3 g7 ?_)
  intro v54 v55 v56 v57 v58 v59 v60 v61 v62 v63 v64 v65 v66 v67 v68 v69 v70 v71 v72 v73 w9 K9
  have HK := ((A7.K.and (Kept.drew (fun _ => False) _)).and K9).none
  clear A7 g7 I7 K9 K7 SP hg6 ho6 ho3
  go_wp2
  go_ret
  exact ⟨rfl, HK⟩

set_option maxRecDepth 100000 in
set_option maxHeartbeats 4000000 in
theorem views_d_old (v1 v2 : Int) (a1 a2 : Option Addr) (m1 c1 m2 c2 : Nat) (z1 z2 : List Int) (w : World) (B1 : IntsAt w a1 m1 c1 z1) (B2 : IntsAt w a2 m2 c2 z2) (h1 : 20 < m1) (h2 : 20 < m2) (hv : ¬ v1 < v2) :
    Calls Tryd.prog 8 #[vw v1 a1 m1 c1, vw v2 a2 m2 c2] w fun e w' => e = .returned (.bool true) ∧ Below w.heap.size w w' := by
  obtain ⟨i0, hi, hz0, hz1, hz2⟩ := info_parts Tryd.info3
  have J1 := B1.take (h := 20) (by omega)
  have e1 : (20 : Int) < (m1 : Int) := by omega
  have f1 : (20 : Int) ≤ (c1 : Int) := by have := B1.cap; omega
  obtain ⟨b1, o1, rfl, _⟩ := B1.at (j := 0) (by rw [B1.len]; omega)
  have J2 := B2.take (h := 20) (by omega)
  have e2 : (20 : Int) < (m2 : Int) := by omega
  have f2 : (20 : Int) ≤ (c2 : Int) := by have := B2.cap; omega
  obtain ⟨b2, o2, rfl, _⟩ := B2.at (j := 0) (by rw [B2.len]; omega)
  have A := VSt.start (x1 := v1) (x2 := v2) J1 J2
  have N := newer_any _ v1 v2 _ _ _ _ _ _ _ _ A.I1 A.I2 (by omega) (by omega)
  have hlw : (z1.take 20).length = 20 := J1.len
  simp only [if_neg hv, hlw] at N
  unfold vw at N
  have HA : Hid _ := A
  have HL : Hid ((z1.take 20).length = 20) := hlw
  have e0 : (v1 != v1) = false := by simp
  generalize hl1 : (z1.take 20) = l1 at *
  generalize hl2 : (z2.take 20) = l2 at *
  unfold vw
  clear A J1 J2 B1 B2 hl1 hl2 hlw
  go_enter Tryd.func8, Tryd.ntmps8
  go_wp2_with (first
    | (go_at_call 31; refine N.mono ?_; rintro e w3 ⟨a3, c3, rfl, ho, K3⟩; have A3 := HA.out.kept K3 (fun _ h => h.elim); have ho3 := ownsRow_mono ho (base' := w.heap.size + 2) (by simp); have P := viewsInts (x := v1) (y := v1) ho3 A3.I1 (by omega); have H3 : Hid _ := A3; obtain ⟨y0, y1, y2, y3, y4, y5, y6, y7⟩ := A3.past; clear N ho A3)
    | (go_at_call 19; refine P.mono ?_; rintro e w5 ⟨rfl, K5, g1, g2⟩; have A5 := H3.out.kept K5 (fun _ h => h.elim); have H5 : Hid _ := A5; have g5 := fun X => cellKp (Kept.alloc (fun _ => False) w5 X) g2; clear P A5 y0 y1 y2 y3 y4 y5 y6 y7)
    | (at_builtin; refine wpList_append_src _ rfl _ _ 36 rfl w5.heap.size 3 i0 _ 1 8 Tryd.underlying36 hi hz0 hz1 hz2 rfl (by decide) (.slice (some ⟨w5.heap.size, 0, none⟩) 0 0) 0 [] rfl (ownsRow_empty w5 w5.heap.size 3 1 (Nat.le_refl _)) _ rfl 20 _ (H5.out.I1.kept (Kept.alloc (fun _ => False) _ _) (fun _ _ _ h => h)).src (ints_one _) (by unfold maxLen; omega) (by omega) (by simp) ?_; intro a6 c6 w6 ho6 hg6 _ hl6; simp only [Nat.zero_add, List.nil_append] at ho6; have K6 := keptNew hg6; have g3 := cellKp K6 g1; have g4 := cellKp K6 g2; have H6 : Hid (VSt w w6 _ _ _ _ _ _ _ _ _ _) := H5.out.kept K6 (fun _ h => h.elim); have SP := spoilInts_own w6 _ _ _ _ (rowKeepS ho3 (K5.and K6) (fun _ _ h => h)) (by omega) (by have h7 := H6.out.sz; omega))
    | (go_at_call 21; refine SP.mono ?_; rintro e w7 ⟨rfl, K7⟩)
    | fail)
  have hbl : ∀ j, (Value.slice a3 20 c3).ownBlock = some j → w.heap.size + 2 ≤ j ∧ j < w3.heap.size := fun j hj => ho3.lt j hj
  have hs3 := K5.size
  have A7 := H6.out.kept K7 (fun j h => (hbl j h).1)
  have g7 := cellKS K7 g4 (fun h => by have h8 := (hbl _ h).2; simp only at h8; omega)
  have I7 := intsOfRowN (rowKeepS ho6 K7 (fun j hj h => by have h8 := (hbl _ h).2; have h9 := (ho6.lt j hj).1; omega)) HL.out
  refine wp_onlyN (views13 _ A7.I1 A7.I2 A7.I1 I7 (by omega) (by omega) (by omega) A7.k0 A7.k1 A7.k2 A7.k3 g7 ?_)
  intro v54 v55 v56 v57 v58 v59 v60 v61 v62 v63 v64 v65 v66 v67 v68 v69 v70 v71 v72 v73 w9 K9
  have HK := ((A7.K.and (Kept.drew (fun _ => False) _)).and K9).none
  clear A7 g7 I7 K9 K7 SP hg6 ho6 ho3
  go_wp2
  go_ret
  exact ⟨rfl, HK⟩

end Go.Proofs.YtnhmdeglaoilcaaDoor
