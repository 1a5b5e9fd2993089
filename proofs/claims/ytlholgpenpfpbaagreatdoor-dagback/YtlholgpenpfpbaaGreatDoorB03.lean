/-
  The reader: a node's line, path by path.
-/
import Derived.Test.YtlholgpenpfpbaaGreatDoorB02
namespace Go.Proofs.YtlholgpenpfpbaaGreatDoor
open Go.RowKit
set_option linter.unusedSimpArgs false

set_option maxRecDepth 100000 in
set_option maxHeartbeats 1000000 in
theorem node_tim0 (w : World) (B rb : Nat) (r : RS) (R : RdAt w B rb r) {x0 wd : ByteArray} {q0 q1 : RS} {dl : Int} {q2 : RS} {q3 : RS} (e1 : rName r = (x0, q0)) (e2 : rWord q0 = (wd, q1)) (ktim : wd = timB) (e3 : rNum q1 = (dl, q2)) (e4 : rTake aftB q2 = (false, q3)) :
    Calls Tryz.prog 39 #[.pointer (some ⟨rb, 0, none⟩)] w fun e w' => NodePost w B rb (ndOf x0 (2, ⟨#[]⟩, ⟨#[]⟩, dl, 0) [], rEnd q3) e w' := by
  have hlow := R.low
  have htop := R.top
  have c1 := rname_any (w.alloc (.cells #[.string ⟨#[]⟩, .int .i64 0, .string ⟨#[]⟩, .string ⟨#[]⟩, .int .i64 0, .int .i64 0, .slice none 0 0] 35)) B rb r (R.kept (Kept.alloc (fun _ => False) _ _) (fun _ _ h => h))
  rw [e1] at c1
  have c2 := fun W (R : RdAt W B rb q0) => word_any W B rb q0 R
  rw [e2] at c2
  simp only [] at c1 c2
  have c3 := fun W (R : RdAt W B rb q1) => rnum_any W B rb q1 R
  rw [e3] at c3
  simp only [] at c3
  have c4 := fun W (R : RdAt W B rb q2) => take_any W B rb q2 R aftB
  rw [e4] at c4
  unfold aftB at c4
  simp only [] at c4
  have cE := fun W (R : RdAt W B rb q3) => end_any W B rb q3 R
  generalize hqE : rEnd q3 = qE at *
  have sact : (wd.toList == [97, 99, 116, 105, 118, 105, 116, 121]) = false := by
    rw [str_lit]
    subst ktim
    decide
  have stim : (wd.toList == [116, 105, 109, 101, 114]) = true := by
    rw [str_lit]
    exact decide_eq_true ktim
  have schi : (wd.toList == [99, 104, 105, 108, 100]) = false := by
    rw [str_lit]
    subst ktim
    decide
  have swai : (wd.toList == [119, 97, 105, 116]) = false := by
    rw [str_lit]
    subst ktim
    decide
  have ssen : (wd.toList == [115, 101, 110, 100]) = false := by
    rw [str_lit]
    subst ktim
    decide
  clear R ktim
  go_enter Tryz.func39, Tryz.ntmps39
  go_wp2_with (first
    | (go_at_call 59; have _t := c1; refine c1.mono ?_; rintro e w1 ⟨rfl, R1, K1⟩; clear c1 _t; have HR1 : Hid _ := R1; clear R1; have hz1 := K1.size; rw [World.size_alloc] at hz1; have r1 : w1.heap[w.heap.size]? = some (.cells #[.string ⟨#[]⟩, .int .i64 0, .string ⟨#[]⟩, .string ⟨#[]⟩, .int .i64 0, .int .i64 0, .slice none 0 0] 35 (0, 0)) := nodeKept K1 (heap_alloc_new _ _) (by omega); have hne : ¬ w1.heap.size = w.heap.size := (by omega); have hne2 : ¬ rb = w1.heap.size := (by omega); have hne3 : ¬ rb = w.heap.size := (by omega); have L1 : Hid (Kept (fun j => j = rb ∨ w.heap.size ≤ j) w w1) := (Kept.alloc _ _ _).and (K1.mono (fun j h => .inl h)))
    | (go_at_call 61; refine (c2 _ (HR1.out.kept (Kept.alloc (fun _ => False) _ _) (fun _ _ h => h))).mono ?_; rintro e w2 ⟨rfl, R2, K2⟩; clear c2; have HR2 : Hid _ := R2; clear R2; have n2 : w2.heap[w1.heap.size]? = some (.cells #[.string x0, .int .i64 0, .string ⟨#[]⟩, .string ⟨#[]⟩, .int .i64 0, .int .i64 0, .slice none 0 0] 35 (0, 0)) := nodeKept K2 (heap_alloc_new _ _) (by omega); have r2 : w2.heap[w.heap.size]? = some (.cells #[.string ⟨#[]⟩, .int .i64 0, .string ⟨#[]⟩, .string ⟨#[]⟩, .int .i64 0, .int .i64 0, .slice none 0 0] 35 (0, 0)) := nodeKept K2 (by rw [Below.heap_alloc _ _ _ (by omega)]; exact r1) (by omega); have L2 : Hid (Kept (fun j => j = rb ∨ w.heap.size ≤ j) w w2) := (L1.out.and (Kept.alloc _ _ _)).and (K2.mono (fun j h => .inl h)); obtain ⟨⟨y0, y1, y2, y3, y4, y5, y6⟩, z0, z1, z2, z3, z4, z5, z6⟩ := seven n2)
    | (go_at_call 62; have _t := c3; refine (c3 _ (HR2.out.kept (S := fun j => j = w1.heap.size) (by repeat (first | exact Kept.refl _ _ | refine Kept.and ?_ (Kept.setCell (S := fun j => j = w1.heap.size) _ _ _ rfl))) (fun j hj => by omega))).mono ?_; rintro e w3 ⟨rfl, R3, K3⟩; clear c3 _t; have HR3 : Hid _ := R3; clear R3; have n3 : w3.heap[w1.heap.size]? = some (.cells #[.string x0, .int .i64 0, .string ⟨#[]⟩, .string ⟨#[]⟩, .int .i64 0, .int .i64 0, .slice none 0 0] 35 (0, 0)) := nodeKept K3 (by simp [World.setCell, Array.getElem?_modify, n2, hne2]) (by omega); have r3 : w3.heap[w.heap.size]? = some (.cells #[.string ⟨#[]⟩, .int .i64 0, .string ⟨#[]⟩, .string ⟨#[]⟩, .int .i64 0, .int .i64 0, .slice none 0 0] 35 (0, 0)) := nodeKept K3 (by simp [World.setCell, Array.getElem?_modify, r2, hne, hne3]) (by omega); have L3 : Hid (Kept (fun j => j = rb ∨ w.heap.size ≤ j) w w3) := (L2.out.and ((by repeat (first | exact Kept.refl _ _ | refine Kept.and ?_ (Kept.setCell (S := fun j => j = rb ∨ w.heap.size ≤ j) _ _ _ (.inr (by show w.heap.size ≤ w1.heap.size; omega))))))).and (K3.mono (fun j h => .inl h)); clear y0 y1 y2 y3 y4 y5 y6 z0 z1 z2 z3 z4 z5 z6; obtain ⟨⟨y0, y1, y2, y3, y4, y5, y6⟩, z0, z1, z2, z3, z4, z5, z6⟩ := seven n3)
    | (go_at_call 58; have _t := c4; refine (c4 _ (HR3.out.kept (S := fun j => j = w1.heap.size) (by repeat (first | exact Kept.refl _ _ | refine Kept.and ?_ (Kept.setCell (S := fun j => j = w1.heap.size) _ _ _ rfl))) (fun j hj => by omega))).mono ?_; rintro e w4 ⟨rfl, R4, K4⟩; clear c4 _t; have HR4 : Hid _ := R4; clear R4; have n4 : w4.heap[w1.heap.size]? = some (.cells #[.string x0, .int .i64 2, .string ⟨#[]⟩, .string ⟨#[]⟩, .int .i64 dl, .int .i64 0, .slice none 0 0] 35 (0, 0)) := nodeKept K4 (by simp [World.setCell, Array.getElem?_modify, n3, hne2]) (by omega); have r4 : w4.heap[w.heap.size]? = some (.cells #[.string ⟨#[]⟩, .int .i64 0, .string ⟨#[]⟩, .string ⟨#[]⟩, .int .i64 0, .int .i64 0, .slice none 0 0] 35 (0, 0)) := nodeKept K4 (by simp [World.setCell, Array.getElem?_modify, r3, hne, hne3]) (by omega); have L4 : Hid (Kept (fun j => j = rb ∨ w.heap.size ≤ j) w w4) := (L3.out.and ((by repeat (first | exact Kept.refl _ _ | refine Kept.and ?_ (Kept.setCell (S := fun j => j = rb ∨ w.heap.size ≤ j) _ _ _ (.inr (by show w.heap.size ≤ w1.heap.size; omega))))))).and (K4.mono (fun j h => .inl h)); clear y0 y1 y2 y3 y4 y5 y6 z0 z1 z2 z3 z4 z5 z6; obtain ⟨⟨y0, y1, y2, y3, y4, y5, y6⟩, z0, z1, z2, z3, z4, z5, z6⟩ := seven n4)
    | (go_at_call 60; refine (cE _ (HR4.out.kept (S := fun j => j = w1.heap.size) (by repeat (first | exact Kept.refl _ _ | refine Kept.and ?_ (Kept.setCell (S := fun j => j = w1.heap.size) _ _ _ rfl))) (fun j hj => by omega))).mono ?_; rintro e wE ⟨rfl, RE, KE⟩; clear cE; have HRE : Hid _ := RE; clear RE; have nE : wE.heap[w1.heap.size]? = some (.cells #[.string x0, .int .i64 2, .string ⟨#[]⟩, .string ⟨#[]⟩, .int .i64 dl, .int .i64 0, .slice none 0 0] 35 (0, 0)) := nodeKept KE (by simp [World.setCell, Array.getElem?_modify, n4, hne2]) (by omega); have rE : wE.heap[w.heap.size]? = some (.cells #[.string ⟨#[]⟩, .int .i64 0, .string ⟨#[]⟩, .string ⟨#[]⟩, .int .i64 0, .int .i64 0, .slice none 0 0] 35 (0, 0)) := nodeKept KE (by simp [World.setCell, Array.getElem?_modify, r4, hne, hne3]) (by omega); have LE : Hid (Kept (fun j => j = rb ∨ w.heap.size ≤ j) w wE) := (L4.out.and ((by repeat (first | exact Kept.refl _ _ | refine Kept.and ?_ (Kept.setCell (S := fun j => j = rb ∨ w.heap.size ≤ j) _ _ _ (.inr (by show w.heap.size ≤ w1.heap.size; omega))))))).and (KE.mono (fun j h => .inl h)); clear y0 y1 y2 y3 y4 y5 y6 z0 z1 z2 z3 z4 z5 z6; obtain ⟨⟨y0, y1, y2, y3, y4, y5, y6⟩, z0, z1, z2, z3, z4, z5, z6⟩ := seven nE; obtain ⟨⟨a0, a1, a2, a3, a4, a5, a6⟩, b0, b1, b2, b3, b4, b5, b6⟩ := seven rE)
    | fail)
  generalize hV : (((((((wE.setCell ⟨w.heap.size, 0, none⟩ (.string x0)).setCell ⟨w.heap.size, 1, none⟩ (.int .i64 2)).setCell ⟨w.heap.size, 2, none⟩ (.string ⟨#[]⟩)).setCell ⟨w.heap.size, 3, none⟩ (.string ⟨#[]⟩)).setCell ⟨w.heap.size, 4, none⟩ (.int .i64 dl)).setCell ⟨w.heap.size, 5, none⟩ (.int .i64 0)).setCell ⟨w.heap.size, 6, none⟩ (.slice none 0 0)) = V
  obtain ⟨g, P⟩ := node_end (p := (ndOf x0 (2, ⟨#[]⟩, ⟨#[]⟩, dl, 0) [], qE)) (a := none) (c := 0) rE (World.ownsRow_nil _ _ _ _) HRE.out htop LE.out hV.symm
  have g' : V.heap[w.heap.size]? = some (.cells #[.string x0, .int .i64 2, .string ⟨#[]⟩, .string ⟨#[]⟩, .int .i64 dl, .int .i64 0, .slice none 0 0] 35 (0, 0)) := g
  obtain ⟨⟨g0, g1, g2, g3, g4, g5, g6⟩, _⟩ := seven g'
  refine bodyPost_ret (by simp [results, Tryz.results39, go_sem, g0, g1, g2, g3, g4, g5, g6]; try rfl) rfl ?_
  exact P

set_option maxRecDepth 100000 in
set_option maxHeartbeats 1000000 in
theorem node_chi0 (w : World) (B rb : Nat) (r : RS) (R : RdAt w B rb r) {x0 wd : ByteArray} {q0 q1 : RS} {arg : ByteArray} {q2 : RS} {q3 : RS} (e1 : rName r = (x0, q0)) (e2 : rWord q0 = (wd, q1)) (kchi : wd = chiB) (e3 : rName q1 = (arg, q2)) (e4 : rTake aftB q2 = (false, q3)) :
    Calls Tryz.prog 39 #[.pointer (some ⟨rb, 0, none⟩)] w fun e w' => NodePost w B rb (ndOf x0 (3, arg, ⟨#[]⟩, 0, 0) [], rEnd q3) e w' := by
  have hlow := R.low
  have htop := R.top
  have c1 := rname_any (w.alloc (.cells #[.string ⟨#[]⟩, .int .i64 0, .string ⟨#[]⟩, .string ⟨#[]⟩, .int .i64 0, .int .i64 0, .slice none 0 0] 35)) B rb r (R.kept (Kept.alloc (fun _ => False) _ _) (fun _ _ h => h))
  rw [e1] at c1
  have c2 := fun W (R : RdAt W B rb q0) => word_any W B rb q0 R
  rw [e2] at c2
  simp only [] at c1 c2
  have c3 := fun W (R : RdAt W B rb q1) => rname_any W B rb q1 R
  rw [e3] at c3
  simp only [] at c3
  have c4 := fun W (R : RdAt W B rb q2) => take_any W B rb q2 R aftB
  rw [e4] at c4
  unfold aftB at c4
  simp only [] at c4
  have cE := fun W (R : RdAt W B rb q3) => end_any W B rb q3 R
  generalize hqE : rEnd q3 = qE at *
  have sact : (wd.toList == [97, 99, 116, 105, 118, 105, 116, 121]) = false := by
    rw [str_lit]
    subst kchi
    decide
  have stim : (wd.toList == [116, 105, 109, 101, 114]) = false := by
    rw [str_lit]
    subst kchi
    decide
  have schi : (wd.toList == [99, 104, 105, 108, 100]) = true := by
    rw [str_lit]
    exact decide_eq_true kchi
  have swai : (wd.toList == [119, 97, 105, 116]) = false := by
    rw [str_lit]
    subst kchi
    decide
  have ssen : (wd.toList == [115, 101, 110, 100]) = false := by
    rw [str_lit]
    subst kchi
    decide
  clear R kchi
  go_enter Tryz.func39, Tryz.ntmps39
  go_wp2_with (first
    | (go_at_call 59; have _t := c1; refine c1.mono ?_; rintro e w1 ⟨rfl, R1, K1⟩; clear c1 _t; have HR1 : Hid _ := R1; clear R1; have hz1 := K1.size; rw [World.size_alloc] at hz1; have r1 : w1.heap[w.heap.size]? = some (.cells #[.string ⟨#[]⟩, .int .i64 0, .string ⟨#[]⟩, .string ⟨#[]⟩, .int .i64 0, .int .i64 0, .slice none 0 0] 35 (0, 0)) := nodeKept K1 (heap_alloc_new _ _) (by omega); have hne : ¬ w1.heap.size = w.heap.size := (by omega); have hne2 : ¬ rb = w1.heap.size := (by omega); have hne3 : ¬ rb = w.heap.size := (by omega); have L1 : Hid (Kept (fun j => j = rb ∨ w.heap.size ≤ j) w w1) := (Kept.alloc _ _ _).and (K1.mono (fun j h => .inl h)))
    | (go_at_call 61; refine (c2 _ (HR1.out.kept (Kept.alloc (fun _ => False) _ _) (fun _ _ h => h))).mono ?_; rintro e w2 ⟨rfl, R2, K2⟩; clear c2; have HR2 : Hid _ := R2; clear R2; have n2 : w2.heap[w1.heap.size]? = some (.cells #[.string x0, .int .i64 0, .string ⟨#[]⟩, .string ⟨#[]⟩, .int .i64 0, .int .i64 0, .slice none 0 0] 35 (0, 0)) := nodeKept K2 (heap_alloc_new _ _) (by omega); have r2 : w2.heap[w.heap.size]? = some (.cells #[.string ⟨#[]⟩, .int .i64 0, .string ⟨#[]⟩, .string ⟨#[]⟩, .int .i64 0, .int .i64 0, .slice none 0 0] 35 (0, 0)) := nodeKept K2 (by rw [Below.heap_alloc _ _ _ (by omega)]; exact r1) (by omega); have L2 : Hid (Kept (fun j => j = rb ∨ w.heap.size ≤ j) w w2) := (L1.out.and (Kept.alloc _ _ _)).and (K2.mono (fun j h => .inl h)); obtain ⟨⟨y0, y1, y2, y3, y4, y5, y6⟩, z0, z1, z2, z3, z4, z5, z6⟩ := seven n2)
    | (go_at_call 59; have _t := c3; refine (c3 _ (HR2.out.kept (S := fun j => j = w1.heap.size) (by repeat (first | exact Kept.refl _ _ | refine Kept.and ?_ (Kept.setCell (S := fun j => j = w1.heap.size) _ _ _ rfl))) (fun j hj => by omega))).mono ?_; rintro e w3 ⟨rfl, R3, K3⟩; clear c3 _t; have HR3 : Hid _ := R3; clear R3; have n3 : w3.heap[w1.heap.size]? = some (.cells #[.string x0, .int .i64 0, .string ⟨#[]⟩, .string ⟨#[]⟩, .int .i64 0, .int .i64 0, .slice none 0 0] 35 (0, 0)) := nodeKept K3 (by simp [World.setCell, Array.getElem?_modify, n2, hne2]) (by omega); have r3 : w3.heap[w.heap.size]? = some (.cells #[.string ⟨#[]⟩, .int .i64 0, .string ⟨#[]⟩, .string ⟨#[]⟩, .int .i64 0, .int .i64 0, .slice none 0 0] 35 (0, 0)) := nodeKept K3 (by simp [World.setCell, Array.getElem?_modify, r2, hne, hne3]) (by omega); have L3 : Hid (Kept (fun j => j = rb ∨ w.heap.size ≤ j) w w3) := (L2.out.and ((by repeat (first | exact Kept.refl _ _ | refine Kept.and ?_ (Kept.setCell (S := fun j => j = rb ∨ w.heap.size ≤ j) _ _ _ (.inr (by show w.heap.size ≤ w1.heap.size; omega))))))).and (K3.mono (fun j h => .inl h)); clear y0 y1 y2 y3 y4 y5 y6 z0 z1 z2 z3 z4 z5 z6; obtain ⟨⟨y0, y1, y2, y3, y4, y5, y6⟩, z0, z1, z2, z3, z4, z5, z6⟩ := seven n3)
    | (go_at_call 58; have _t := c4; refine (c4 _ (HR3.out.kept (S := fun j => j = w1.heap.size) (by repeat (first | exact Kept.refl _ _ | refine Kept.and ?_ (Kept.setCell (S := fun j => j = w1.heap.size) _ _ _ rfl))) (fun j hj => by omega))).mono ?_; rintro e w4 ⟨rfl, R4, K4⟩; clear c4 _t; have HR4 : Hid _ := R4; clear R4; have n4 : w4.heap[w1.heap.size]? = some (.cells #[.string x0, .int .i64 3, .string arg, .string ⟨#[]⟩, .int .i64 0, .int .i64 0, .slice none 0 0] 35 (0, 0)) := nodeKept K4 (by simp [World.setCell, Array.getElem?_modify, n3, hne2]) (by omega); have r4 : w4.heap[w.heap.size]? = some (.cells #[.string ⟨#[]⟩, .int .i64 0, .string ⟨#[]⟩, .string ⟨#[]⟩, .int .i64 0, .int .i64 0, .slice none 0 0] 35 (0, 0)) := nodeKept K4 (by simp [World.setCell, Array.getElem?_modify, r3, hne, hne3]) (by omega); have L4 : Hid (Kept (fun j => j = rb ∨ w.heap.size ≤ j) w w4) := (L3.out.and ((by repeat (first | exact Kept.refl _ _ | refine Kept.and ?_ (Kept.setCell (S := fun j => j = rb ∨ w.heap.size ≤ j) _ _ _ (.inr (by show w.heap.size ≤ w1.heap.size; omega))))))).and (K4.mono (fun j h => .inl h)); clear y0 y1 y2 y3 y4 y5 y6 z0 z1 z2 z3 z4 z5 z6; obtain ⟨⟨y0, y1, y2, y3, y4, y5, y6⟩, z0, z1, z2, z3, z4, z5, z6⟩ := seven n4)
    | (go_at_call 60; refine (cE _ (HR4.out.kept (S := fun j => j = w1.heap.size) (by repeat (first | exact Kept.refl _ _ | refine Kept.and ?_ (Kept.setCell (S := fun j => j = w1.heap.size) _ _ _ rfl))) (fun j hj => by omega))).mono ?_; rintro e wE ⟨rfl, RE, KE⟩; clear cE; have HRE : Hid _ := RE; clear RE; have nE : wE.heap[w1.heap.size]? = some (.cells #[.string x0, .int .i64 3, .string arg, .string ⟨#[]⟩, .int .i64 0, .int .i64 0, .slice none 0 0] 35 (0, 0)) := nodeKept KE (by simp [World.setCell, Array.getElem?_modify, n4, hne2]) (by omega); have rE : wE.heap[w.heap.size]? = some (.cells #[.string ⟨#[]⟩, .int .i64 0, .string ⟨#[]⟩, .string ⟨#[]⟩, .int .i64 0, .int .i64 0, .slice none 0 0] 35 (0, 0)) := nodeKept KE (by simp [World.setCell, Array.getElem?_modify, r4, hne, hne3]) (by omega); have LE : Hid (Kept (fun j => j = rb ∨ w.heap.size ≤ j) w wE) := (L4.out.and ((by repeat (first | exact Kept.refl _ _ | refine Kept.and ?_ (Kept.setCell (S := fun j => j = rb ∨ w.heap.size ≤ j) _ _ _ (.inr (by show w.heap.size ≤ w1.heap.size; omega))))))).and (KE.mono (fun j h => .inl h)); clear y0 y1 y2 y3 y4 y5 y6 z0 z1 z2 z3 z4 z5 z6; obtain ⟨⟨y0, y1, y2, y3, y4, y5, y6⟩, z0, z1, z2, z3, z4, z5, z6⟩ := seven nE; obtain ⟨⟨a0, a1, a2, a3, a4, a5, a6⟩, b0, b1, b2, b3, b4, b5, b6⟩ := seven rE)
    | fail)
  generalize hV : (((((((wE.setCell ⟨w.heap.size, 0, none⟩ (.string x0)).setCell ⟨w.heap.size, 1, none⟩ (.int .i64 3)).setCell ⟨w.heap.size, 2, none⟩ (.string arg)).setCell ⟨w.heap.size, 3, none⟩ (.string ⟨#[]⟩)).setCell ⟨w.heap.size, 4, none⟩ (.int .i64 0)).setCell ⟨w.heap.size, 5, none⟩ (.int .i64 0)).setCell ⟨w.heap.size, 6, none⟩ (.slice none 0 0)) = V
  obtain ⟨g, P⟩ := node_end (p := (ndOf x0 (3, arg, ⟨#[]⟩, 0, 0) [], qE)) (a := none) (c := 0) rE (World.ownsRow_nil _ _ _ _) HRE.out htop LE.out hV.symm
  have g' : V.heap[w.heap.size]? = some (.cells #[.string x0, .int .i64 3, .string arg, .string ⟨#[]⟩, .int .i64 0, .int .i64 0, .slice none 0 0] 35 (0, 0)) := g
  obtain ⟨⟨g0, g1, g2, g3, g4, g5, g6⟩, _⟩ := seven g'
  refine bodyPost_ret (by simp [results, Tryz.results39, go_sem, g0, g1, g2, g3, g4, g5, g6]; try rfl) rfl ?_
  exact P

set_option maxRecDepth 100000 in
set_option maxHeartbeats 1000000 in
theorem node_wai0 (w : World) (B rb : Nat) (r : RS) (R : RdAt w B rb r) {x0 wd : ByteArray} {q0 q1 : RS} {arg : ByteArray} {q2 : RS} {q3 : RS} (e1 : rName r = (x0, q0)) (e2 : rWord q0 = (wd, q1)) (kwai : wd = waiB) (e3 : rName q1 = (arg, q2)) (e4 : rTake aftB q2 = (false, q3)) :
    Calls Tryz.prog 39 #[.pointer (some ⟨rb, 0, none⟩)] w fun e w' => NodePost w B rb (ndOf x0 (4, arg, ⟨#[]⟩, 0, 0) [], rEnd q3) e w' := by
  have hlow := R.low
  have htop := R.top
  have c1 := rname_any (w.alloc (.cells #[.string ⟨#[]⟩, .int .i64 0, .string ⟨#[]⟩, .string ⟨#[]⟩, .int .i64 0, .int .i64 0, .slice none 0 0] 35)) B rb r (R.kept (Kept.alloc (fun _ => False) _ _) (fun _ _ h => h))
  rw [e1] at c1
  have c2 := fun W (R : RdAt W B rb q0) => word_any W B rb q0 R
  rw [e2] at c2
  simp only [] at c1 c2
  have c3 := fun W (R : RdAt W B rb q1) => rname_any W B rb q1 R
  rw [e3] at c3
  simp only [] at c3
  have c4 := fun W (R : RdAt W B rb q2) => take_any W B rb q2 R aftB
  rw [e4] at c4
  unfold aftB at c4
  simp only [] at c4
  have cE := fun W (R : RdAt W B rb q3) => end_any W B rb q3 R
  generalize hqE : rEnd q3 = qE at *
  have sact : (wd.toList == [97, 99, 116, 105, 118, 105, 116, 121]) = false := by
    rw [str_lit]
    subst kwai
    decide
  have stim : (wd.toList == [116, 105, 109, 101, 114]) = false := by
    rw [str_lit]
    subst kwai
    decide
  have schi : (wd.toList == [99, 104, 105, 108, 100]) = false := by
    rw [str_lit]
    subst kwai
    decide
  have swai : (wd.toList == [119, 97, 105, 116]) = true := by
    rw [str_lit]
    exact decide_eq_true kwai
  have ssen : (wd.toList == [115, 101, 110, 100]) = false := by
    rw [str_lit]
    subst kwai
    decide
  clear R kwai
  go_enter Tryz.func39, Tryz.ntmps39
  go_wp2_with (first
    | (go_at_call 59; have _t := c1; refine c1.mono ?_; rintro e w1 ⟨rfl, R1, K1⟩; clear c1 _t; have HR1 : Hid _ := R1; clear R1; have hz1 := K1.size; rw [World.size_alloc] at hz1; have r1 : w1.heap[w.heap.size]? = some (.cells #[.string ⟨#[]⟩, .int .i64 0, .string ⟨#[]⟩, .string ⟨#[]⟩, .int .i64 0, .int .i64 0, .slice none 0 0] 35 (0, 0)) := nodeKept K1 (heap_alloc_new _ _) (by omega); have hne : ¬ w1.heap.size = w.heap.size := (by omega); have hne2 : ¬ rb = w1.heap.size := (by omega); have hne3 : ¬ rb = w.heap.size := (by omega); have L1 : Hid (Kept (fun j => j = rb ∨ w.heap.size ≤ j) w w1) := (Kept.alloc _ _ _).and (K1.mono (fun j h => .inl h)))
    | (go_at_call 61; refine (c2 _ (HR1.out.kept (Kept.alloc (fun _ => False) _ _) (fun _ _ h => h))).mono ?_; rintro e w2 ⟨rfl, R2, K2⟩; clear c2; have HR2 : Hid _ := R2; clear R2; have n2 : w2.heap[w1.heap.size]? = some (.cells #[.string x0, .int .i64 0, .string ⟨#[]⟩, .string ⟨#[]⟩, .int .i64 0, .int .i64 0, .slice none 0 0] 35 (0, 0)) := nodeKept K2 (heap_alloc_new _ _) (by omega); have r2 : w2.heap[w.heap.size]? = some (.cells #[.string ⟨#[]⟩, .int .i64 0, .string ⟨#[]⟩, .string ⟨#[]⟩, .int .i64 0, .int .i64 0, .slice none 0 0] 35 (0, 0)) := nodeKept K2 (by rw [Below.heap_alloc _ _ _ (by omega)]; exact r1) (by omega); have L2 : Hid (Kept (fun j => j = rb ∨ w.heap.size ≤ j) w w2) := (L1.out.and (Kept.alloc _ _ _)).and (K2.mono (fun j h => .inl h)); obtain ⟨⟨y0, y1, y2, y3, y4, y5, y6⟩, z0, z1, z2, z3, z4, z5, z6⟩ := seven n2)
    | (go_at_call 59; have _t := c3; refine (c3 _ (HR2.out.kept (S := fun j => j = w1.heap.size) (by repeat (first | exact Kept.refl _ _ | refine Kept.and ?_ (Kept.setCell (S := fun j => j = w1.heap.size) _ _ _ rfl))) (fun j hj => by omega))).mono ?_; rintro e w3 ⟨rfl, R3, K3⟩; clear c3 _t; have HR3 : Hid _ := R3; clear R3; have n3 : w3.heap[w1.heap.size]? = some (.cells #[.string x0, .int .i64 0, .string ⟨#[]⟩, .string ⟨#[]⟩, .int .i64 0, .int .i64 0, .slice none 0 0] 35 (0, 0)) := nodeKept K3 (by simp [World.setCell, Array.getElem?_modify, n2, hne2]) (by omega); have r3 : w3.heap[w.heap.size]? = some (.cells #[.string ⟨#[]⟩, .int .i64 0, .string ⟨#[]⟩, .string ⟨#[]⟩, .int .i64 0, .int .i64 0, .slice none 0 0] 35 (0, 0)) := nodeKept K3 (by simp [World.setCell, Array.getElem?_modify, r2, hne, hne3]) (by omega); have L3 : Hid (Kept (fun j => j = rb ∨ w.heap.size ≤ j) w w3) := (L2.out.and ((by repeat (first | exact Kept.refl _ _ | refine Kept.and ?_ (Kept.setCell (S := fun j => j = rb ∨ w.heap.size ≤ j) _ _ _ (.inr (by show w.heap.size ≤ w1.heap.size; omega))))))).and (K3.mono (fun j h => .inl h)); clear y0 y1 y2 y3 y4 y5 y6 z0 z1 z2 z3 z4 z5 z6; obtain ⟨⟨y0, y1, y2, y3, y4, y5, y6⟩, z0, z1, z2, z3, z4, z5, z6⟩ := seven n3)
    | (go_at_call 58; have _t := c4; refine (c4 _ (HR3.out.kept (S := fun j => j = w1.heap.size) (by repeat (first | exact Kept.refl _ _ | refine Kept.and ?_ (Kept.setCell (S := fun j => j = w1.heap.size) _ _ _ rfl))) (fun j hj => by omega))).mono ?_; rintro e w4 ⟨rfl, R4, K4⟩; clear c4 _t; have HR4 : Hid _ := R4; clear R4; have n4 : w4.heap[w1.heap.size]? = some (.cells #[.string x0, .int .i64 4, .string arg, .string ⟨#[]⟩, .int .i64 0, .int .i64 0, .slice none 0 0] 35 (0, 0)) := nodeKept K4 (by simp [World.setCell, Array.getElem?_modify, n3, hne2]) (by omega); have r4 : w4.heap[w.heap.size]? = some (.cells #[.string ⟨#[]⟩, .int .i64 0, .string ⟨#[]⟩, .string ⟨#[]⟩, .int .i64 0, .int .i64 0, .slice none 0 0] 35 (0, 0)) := nodeKept K4 (by simp [World.setCell, Array.getElem?_modify, r3, hne, hne3]) (by omega); have L4 : Hid (Kept (fun j => j = rb ∨ w.heap.size ≤ j) w w4) := (L3.out.and ((by repeat (first | exact Kept.refl _ _ | refine Kept.and ?_ (Kept.setCell (S := fun j => j = rb ∨ w.heap.size ≤ j) _ _ _ (.inr (by show w.heap.size ≤ w1.heap.size; omega))))))).and (K4.mono (fun j h => .inl h)); clear y0 y1 y2 y3 y4 y5 y6 z0 z1 z2 z3 z4 z5 z6; obtain ⟨⟨y0, y1, y2, y3, y4, y5, y6⟩, z0, z1, z2, z3, z4, z5, z6⟩ := seven n4)
    | (go_at_call 60; refine (cE _ (HR4.out.kept (S := fun j => j = w1.heap.size) (by repeat (first | exact Kept.refl _ _ | refine Kept.and ?_ (Kept.setCell (S := fun j => j = w1.heap.size) _ _ _ rfl))) (fun j hj => by omega))).mono ?_; rintro e wE ⟨rfl, RE, KE⟩; clear cE; have HRE : Hid _ := RE; clear RE; have nE : wE.heap[w1.heap.size]? = some (.cells #[.string x0, .int .i64 4, .string arg, .string ⟨#[]⟩, .int .i64 0, .int .i64 0, .slice none 0 0] 35 (0, 0)) := nodeKept KE (by simp [World.setCell, Array.getElem?_modify, n4, hne2]) (by omega); have rE : wE.heap[w.heap.size]? = some (.cells #[.string ⟨#[]⟩, .int .i64 0, .string ⟨#[]⟩, .string ⟨#[]⟩, .int .i64 0, .int .i64 0, .slice none 0 0] 35 (0, 0)) := nodeKept KE (by simp [World.setCell, Array.getElem?_modify, r4, hne, hne3]) (by omega); have LE : Hid (Kept (fun j => j = rb ∨ w.heap.size ≤ j) w wE) := (L4.out.and ((by repeat (first | exact Kept.refl _ _ | refine Kept.and ?_ (Kept.setCell (S := fun j => j = rb ∨ w.heap.size ≤ j) _ _ _ (.inr (by show w.heap.size ≤ w1.heap.size; omega))))))).and (KE.mono (fun j h => .inl h)); clear y0 y1 y2 y3 y4 y5 y6 z0 z1 z2 z3 z4 z5 z6; obtain ⟨⟨y0, y1, y2, y3, y4, y5, y6⟩, z0, z1, z2, z3, z4, z5, z6⟩ := seven nE; obtain ⟨⟨a0, a1, a2, a3, a4, a5, a6⟩, b0, b1, b2, b3, b4, b5, b6⟩ := seven rE)
    | fail)
  generalize hV : (((((((wE.setCell ⟨w.heap.size, 0, none⟩ (.string x0)).setCell ⟨w.heap.size, 1, none⟩ (.int .i64 4)).setCell ⟨w.heap.size, 2, none⟩ (.string arg)).setCell ⟨w.heap.size, 3, none⟩ (.string ⟨#[]⟩)).setCell ⟨w.heap.size, 4, none⟩ (.int .i64 0)).setCell ⟨w.heap.size, 5, none⟩ (.int .i64 0)).setCell ⟨w.heap.size, 6, none⟩ (.slice none 0 0)) = V
  obtain ⟨g, P⟩ := node_end (p := (ndOf x0 (4, arg, ⟨#[]⟩, 0, 0) [], qE)) (a := none) (c := 0) rE (World.ownsRow_nil _ _ _ _) HRE.out htop LE.out hV.symm
  have g' : V.heap[w.heap.size]? = some (.cells #[.string x0, .int .i64 4, .string arg, .string ⟨#[]⟩, .int .i64 0, .int .i64 0, .slice none 0 0] 35 (0, 0)) := g
  obtain ⟨⟨g0, g1, g2, g3, g4, g5, g6⟩, _⟩ := seven g'
  refine bodyPost_ret (by simp [results, Tryz.results39, go_sem, g0, g1, g2, g3, g4, g5, g6]; try rfl) rfl ?_
  exact P

set_option maxRecDepth 100000 in
set_option maxHeartbeats 1000000 in
theorem node_tim1 (w : World) (B rb : Nat) (r : RS) (R : RdAt w B rb r) {x0 wd : ByteArray} {q0 q1 : RS} {dl : Int} {q2 : RS} {q3 : RS} {al : List ByteArray} {q4 : RS} (e1 : rName r = (x0, q0)) (e2 : rWord q0 = (wd, q1)) (ktim : wd = timB) (e3 : rNum q1 = (dl, q2)) (e4 : rTake aftB q2 = (true, q3)) (e5 : rNames q3 = (al, q4)) (hq : q3.1.length ≤ 100000) :
    Calls Tryz.prog 39 #[.pointer (some ⟨rb, 0, none⟩)] w fun e w' => NodePost w B rb (ndOf x0 (2, ⟨#[]⟩, ⟨#[]⟩, dl, 0) al, rEnd q4) e w' := by
  have hlow := R.low
  have htop := R.top
  have c1 := rname_any (w.alloc (.cells #[.string ⟨#[]⟩, .int .i64 0, .string ⟨#[]⟩, .string ⟨#[]⟩, .int .i64 0, .int .i64 0, .slice none 0 0] 35)) B rb r (R.kept (Kept.alloc (fun _ => False) _ _) (fun _ _ h => h))
  rw [e1] at c1
  have c2 := fun W (R : RdAt W B rb q0) => word_any W B rb q0 R
  rw [e2] at c2
  simp only [] at c1 c2
  have c3 := fun W (R : RdAt W B rb q1) => rnum_any W B rb q1 R
  rw [e3] at c3
  simp only [] at c3
  have c4 := fun W (R : RdAt W B rb q2) => take_any W B rb q2 R aftB
  rw [e4] at c4
  unfold aftB at c4
  simp only [] at c4
  have c5 := fun W (R : RdAt W B rb q3) => rnames_any W B rb q3 R hq
  rw [e5] at c5
  simp only [] at c5
  have cE := fun W (R : RdAt W B rb q4) => end_any W B rb q4 R
  generalize hqE : rEnd q4 = qE at *
  have sact : (wd.toList == [97, 99, 116, 105, 118, 105, 116, 121]) = false := by
    rw [str_lit]
    subst ktim
    decide
  have stim : (wd.toList == [116, 105, 109, 101, 114]) = true := by
    rw [str_lit]
    exact decide_eq_true ktim
  have schi : (wd.toList == [99, 104, 105, 108, 100]) = false := by
    rw [str_lit]
    subst ktim
    decide
  have swai : (wd.toList == [119, 97, 105, 116]) = false := by
    rw [str_lit]
    subst ktim
    decide
  have ssen : (wd.toList == [115, 101, 110, 100]) = false := by
    rw [str_lit]
    subst ktim
    decide
  clear R ktim
  go_enter Tryz.func39, Tryz.ntmps39
  go_wp2_with (first
    | (go_at_call 59; have _t := c1; refine c1.mono ?_; rintro e w1 ⟨rfl, R1, K1⟩; clear c1 _t; have HR1 : Hid _ := R1; clear R1; have hz1 := K1.size; rw [World.size_alloc] at hz1; have r1 : w1.heap[w.heap.size]? = some (.cells #[.string ⟨#[]⟩, .int .i64 0, .string ⟨#[]⟩, .string ⟨#[]⟩, .int .i64 0, .int .i64 0, .slice none 0 0] 35 (0, 0)) := nodeKept K1 (heap_alloc_new _ _) (by omega); have hne : ¬ w1.heap.size = w.heap.size := (by omega); have hne2 : ¬ rb = w1.heap.size := (by omega); have hne3 : ¬ rb = w.heap.size := (by omega); have L1 : Hid (Kept (fun j => j = rb ∨ w.heap.size ≤ j) w w1) := (Kept.alloc _ _ _).and (K1.mono (fun j h => .inl h)))
    | (go_at_call 61; refine (c2 _ (HR1.out.kept (Kept.alloc (fun _ => False) _ _) (fun _ _ h => h))).mono ?_; rintro e w2 ⟨rfl, R2, K2⟩; clear c2; have HR2 : Hid _ := R2; clear R2; have n2 : w2.heap[w1.heap.size]? = some (.cells #[.string x0, .int .i64 0, .string ⟨#[]⟩, .string ⟨#[]⟩, .int .i64 0, .int .i64 0, .slice none 0 0] 35 (0, 0)) := nodeKept K2 (heap_alloc_new _ _) (by omega); have r2 : w2.heap[w.heap.size]? = some (.cells #[.string ⟨#[]⟩, .int .i64 0, .string ⟨#[]⟩, .string ⟨#[]⟩, .int .i64 0, .int .i64 0, .slice none 0 0] 35 (0, 0)) := nodeKept K2 (by rw [Below.heap_alloc _ _ _ (by omega)]; exact r1) (by omega); have L2 : Hid (Kept (fun j => j = rb ∨ w.heap.size ≤ j) w w2) := (L1.out.and (Kept.alloc _ _ _)).and (K2.mono (fun j h => .inl h)); obtain ⟨⟨y0, y1, y2, y3, y4, y5, y6⟩, z0, z1, z2, z3, z4, z5, z6⟩ := seven n2)
    | (go_at_call 62; have _t := c3; refine (c3 _ (HR2.out.kept (S := fun j => j = w1.heap.size) (by repeat (first | exact Kept.refl _ _ | refine Kept.and ?_ (Kept.setCell (S := fun j => j = w1.heap.size) _ _ _ rfl))) (fun j hj => by omega))).mono ?_; rintro e w3 ⟨rfl, R3, K3⟩; clear c3 _t; have HR3 : Hid _ := R3; clear R3; have n3 : w3.heap[w1.heap.size]? = some (.cells #[.string x0, .int .i64 0, .string ⟨#[]⟩, .string ⟨#[]⟩, .int .i64 0, .int .i64 0, .slice none 0 0] 35 (0, 0)) := nodeKept K3 (by simp [World.setCell, Array.getElem?_modify, n2, hne2]) (by omega); have r3 : w3.heap[w.heap.size]? = some (.cells #[.string ⟨#[]⟩, .int .i64 0, .string ⟨#[]⟩, .string ⟨#[]⟩, .int .i64 0, .int .i64 0, .slice none 0 0] 35 (0, 0)) := nodeKept K3 (by simp [World.setCell, Array.getElem?_modify, r2, hne, hne3]) (by omega); have L3 : Hid (Kept (fun j => j = rb ∨ w.heap.size ≤ j) w w3) := (L2.out.and ((by repeat (first | exact Kept.refl _ _ | refine Kept.and ?_ (Kept.setCell (S := fun j => j = rb ∨ w.heap.size ≤ j) _ _ _ (.inr (by show w.heap.size ≤ w1.heap.size; omega))))))).and (K3.mono (fun j h => .inl h)); clear y0 y1 y2 y3 y4 y5 y6 z0 z1 z2 z3 z4 z5 z6; obtain ⟨⟨y0, y1, y2, y3, y4, y5, y6⟩, z0, z1, z2, z3, z4, z5, z6⟩ := seven n3)
    | (go_at_call 58; have _t := c4; refine (c4 _ (HR3.out.kept (S := fun j => j = w1.heap.size) (by repeat (first | exact Kept.refl _ _ | refine Kept.and ?_ (Kept.setCell (S := fun j => j = w1.heap.size) _ _ _ rfl))) (fun j hj => by omega))).mono ?_; rintro e w4 ⟨rfl, R4, K4⟩; clear c4 _t; have HR4 : Hid _ := R4; clear R4; have n4 : w4.heap[w1.heap.size]? = some (.cells #[.string x0, .int .i64 2, .string ⟨#[]⟩, .string ⟨#[]⟩, .int .i64 dl, .int .i64 0, .slice none 0 0] 35 (0, 0)) := nodeKept K4 (by simp [World.setCell, Array.getElem?_modify, n3, hne2]) (by omega); have r4 : w4.heap[w.heap.size]? = some (.cells #[.string ⟨#[]⟩, .int .i64 0, .string ⟨#[]⟩, .string ⟨#[]⟩, .int .i64 0, .int .i64 0, .slice none 0 0] 35 (0, 0)) := nodeKept K4 (by simp [World.setCell, Array.getElem?_modify, r3, hne, hne3]) (by omega); have L4 : Hid (Kept (fun j => j = rb ∨ w.heap.size ≤ j) w w4) := (L3.out.and ((by repeat (first | exact Kept.refl _ _ | refine Kept.and ?_ (Kept.setCell (S := fun j => j = rb ∨ w.heap.size ≤ j) _ _ _ (.inr (by show w.heap.size ≤ w1.heap.size; omega))))))).and (K4.mono (fun j h => .inl h)); clear y0 y1 y2 y3 y4 y5 y6 z0 z1 z2 z3 z4 z5 z6; obtain ⟨⟨y0, y1, y2, y3, y4, y5, y6⟩, z0, z1, z2, z3, z4, z5, z6⟩ := seven n4)
    | (go_at_call 64; refine (c5 _ HR4.out).mono ?_; rintro e w5 ⟨aa, ca, rfl, O5, R5, K5⟩; clear c5; have HR5 : Hid _ := R5; have HO : Hid (w5.ownsRow w4.heap.size 9 1 (.slice aa al.length ca) al.length (strsV al)) := O5; clear R5 O5; have n5 : w5.heap[w1.heap.size]? = some (.cells #[.string x0, .int .i64 2, .string ⟨#[]⟩, .string ⟨#[]⟩, .int .i64 dl, .int .i64 0, .slice none 0 0] 35 (0, 0)) := nodeKept K5 n4 (by omega); have r5 : w5.heap[w.heap.size]? = some (.cells #[.string ⟨#[]⟩, .int .i64 0, .string ⟨#[]⟩, .string ⟨#[]⟩, .int .i64 0, .int .i64 0, .slice none 0 0] 35 (0, 0)) := nodeKept K5 r4 (by omega); have L5 : Hid (Kept (fun j => j = rb ∨ w.heap.size ≤ j) w w5) := L4.out.and (K5.mono (fun j h => .inl h)); have hz4 := (Array.getElem?_eq_some_iff.1 n4).1; clear y0 y1 y2 y3 y4 y5 y6 z0 z1 z2 z3 z4 z5 z6; obtain ⟨⟨y0, y1, y2, y3, y4, y5, y6⟩, z0, z1, z2, z3, z4, z5, z6⟩ := seven n5)
    | (go_at_call 60; refine (cE _ (HR5.out.kept (S := fun j => j = w1.heap.size) (by repeat (first | exact Kept.refl _ _ | refine Kept.and ?_ (Kept.setCell (S := fun j => j = w1.heap.size) _ _ _ rfl))) (fun j hj => by omega))).mono ?_; rintro e wE ⟨rfl, RE, KE⟩; clear cE; have HRE : Hid _ := RE; clear RE; have nE : wE.heap[w1.heap.size]? = some (.cells #[.string x0, .int .i64 2, .string ⟨#[]⟩, .string ⟨#[]⟩, .int .i64 dl, .int .i64 0, .slice aa al.length ca] 35 (0, 0)) := nodeKept KE (by simp [World.setCell, Array.getElem?_modify, n5, hne2]) (by omega); have rE : wE.heap[w.heap.size]? = some (.cells #[.string ⟨#[]⟩, .int .i64 0, .string ⟨#[]⟩, .string ⟨#[]⟩, .int .i64 0, .int .i64 0, .slice none 0 0] 35 (0, 0)) := nodeKept KE (by simp [World.setCell, Array.getElem?_modify, r5, hne, hne3]) (by omega); have LE : Hid (Kept (fun j => j = rb ∨ w.heap.size ≤ j) w wE) := (L5.out.and ((by repeat (first | exact Kept.refl _ _ | refine Kept.and ?_ (Kept.setCell (S := fun j => j = rb ∨ w.heap.size ≤ j) _ _ _ (.inr (by show w.heap.size ≤ w1.heap.size; omega))))))).and (KE.mono (fun j h => .inl h)); have HOE : Hid (wE.ownsRow w4.heap.size 9 1 (.slice aa al.length ca) al.length (strsV al)) := ownsRow_keep HO.out (fun g hg => (KE.block g (by have h := ownsRow_blk HO.out hg; simpa [World.setCell] using h) (by have h := (HO.out.lt g hg).1; omega)).trans (Below.heap_setCell _ _ _ _ (by have h := (HO.out.lt g hg).1; intro e'; have e2 : g = w1.heap.size := e'; omega))); clear y0 y1 y2 y3 y4 y5 y6 z0 z1 z2 z3 z4 z5 z6; obtain ⟨⟨y0, y1, y2, y3, y4, y5, y6⟩, z0, z1, z2, z3, z4, z5, z6⟩ := seven nE; obtain ⟨⟨a0, a1, a2, a3, a4, a5, a6⟩, b0, b1, b2, b3, b4, b5, b6⟩ := seven rE)
    | fail)
  generalize hV : (((((((wE.setCell ⟨w.heap.size, 0, none⟩ (.string x0)).setCell ⟨w.heap.size, 1, none⟩ (.int .i64 2)).setCell ⟨w.heap.size, 2, none⟩ (.string ⟨#[]⟩)).setCell ⟨w.heap.size, 3, none⟩ (.string ⟨#[]⟩)).setCell ⟨w.heap.size, 4, none⟩ (.int .i64 dl)).setCell ⟨w.heap.size, 5, none⟩ (.int .i64 0)).setCell ⟨w.heap.size, 6, none⟩ (.slice aa al.length ca)) = V
  obtain ⟨g, P⟩ := node_end (p := (ndOf x0 (2, ⟨#[]⟩, ⟨#[]⟩, dl, 0) al, qE)) (a := aa) (c := ca) rE (ownsRow_lowS HOE.out (by omega)) HRE.out htop LE.out hV.symm
  have g' : V.heap[w.heap.size]? = some (.cells #[.string x0, .int .i64 2, .string ⟨#[]⟩, .string ⟨#[]⟩, .int .i64 dl, .int .i64 0, .slice aa al.length ca] 35 (0, 0)) := g
  obtain ⟨⟨g0, g1, g2, g3, g4, g5, g6⟩, _⟩ := seven g'
  refine bodyPost_ret (by simp [results, Tryz.results39, go_sem, g0, g1, g2, g3, g4, g5, g6]; try rfl) rfl ?_
  exact P

set_option maxRecDepth 100000 in
set_option maxHeartbeats 1000000 in
theorem node_chi1 (w : World) (B rb : Nat) (r : RS) (R : RdAt w B rb r) {x0 wd : ByteArray} {q0 q1 : RS} {arg : ByteArray} {q2 : RS} {q3 : RS} {al : List ByteArray} {q4 : RS} (e1 : rName r = (x0, q0)) (e2 : rWord q0 = (wd, q1)) (kchi : wd = chiB) (e3 : rName q1 = (arg, q2)) (e4 : rTake aftB q2 = (true, q3)) (e5 : rNames q3 = (al, q4)) (hq : q3.1.length ≤ 100000) :
    Calls Tryz.prog 39 #[.pointer (some ⟨rb, 0, none⟩)] w fun e w' => NodePost w B rb (ndOf x0 (3, arg, ⟨#[]⟩, 0, 0) al, rEnd q4) e w' := by
  have hlow := R.low
  have htop := R.top
  have c1 := rname_any (w.alloc (.cells #[.string ⟨#[]⟩, .int .i64 0, .string ⟨#[]⟩, .string ⟨#[]⟩, .int .i64 0, .int .i64 0, .slice none 0 0] 35)) B rb r (R.kept (Kept.alloc (fun _ => False) _ _) (fun _ _ h => h))
  rw [e1] at c1
  have c2 := fun W (R : RdAt W B rb q0) => word_any W B rb q0 R
  rw [e2] at c2
  simp only [] at c1 c2
  have c3 := fun W (R : RdAt W B rb q1) => rname_any W B rb q1 R
  rw [e3] at c3
  simp only [] at c3
  have c4 := fun W (R : RdAt W B rb q2) => take_any W B rb q2 R aftB
  rw [e4] at c4
  unfold aftB at c4
  simp only [] at c4
  have c5 := fun W (R : RdAt W B rb q3) => rnames_any W B rb q3 R hq
  rw [e5] at c5
  simp only [] at c5
  have cE := fun W (R : RdAt W B rb q4) => end_any W B rb q4 R
  generalize hqE : rEnd q4 = qE at *
  have sact : (wd.toList == [97, 99, 116, 105, 118, 105, 116, 121]) = false := by
    rw [str_lit]
    subst kchi
    decide
  have stim : (wd.toList == [116, 105, 109, 101, 114]) = false := by
    rw [str_lit]
    subst kchi
    decide
  have schi : (wd.toList == [99, 104, 105, 108, 100]) = true := by
    rw [str_lit]
    exact decide_eq_true kchi
  have swai : (wd.toList == [119, 97, 105, 116]) = false := by
    rw [str_lit]
    subst kchi
    decide
  have ssen : (wd.toList == [115, 101, 110, 100]) = false := by
    rw [str_lit]
    subst kchi
    decide
  clear R kchi
  go_enter Tryz.func39, Tryz.ntmps39
  go_wp2_with (first
    | (go_at_call 59; have _t := c1; refine c1.mono ?_; rintro e w1 ⟨rfl, R1, K1⟩; clear c1 _t; have HR1 : Hid _ := R1; clear R1; have hz1 := K1.size; rw [World.size_alloc] at hz1; have r1 : w1.heap[w.heap.size]? = some (.cells #[.string ⟨#[]⟩, .int .i64 0, .string ⟨#[]⟩, .string ⟨#[]⟩, .int .i64 0, .int .i64 0, .slice none 0 0] 35 (0, 0)) := nodeKept K1 (heap_alloc_new _ _) (by omega); have hne : ¬ w1.heap.size = w.heap.size := (by omega); have hne2 : ¬ rb = w1.heap.size := (by omega); have hne3 : ¬ rb = w.heap.size := (by omega); have L1 : Hid (Kept (fun j => j = rb ∨ w.heap.size ≤ j) w w1) := (Kept.alloc _ _ _).and (K1.mono (fun j h => .inl h)))
    | (go_at_call 61; refine (c2 _ (HR1.out.kept (Kept.alloc (fun _ => False) _ _) (fun _ _ h => h))).mono ?_; rintro e w2 ⟨rfl, R2, K2⟩; clear c2; have HR2 : Hid _ := R2; clear R2; have n2 : w2.heap[w1.heap.size]? = some (.cells #[.string x0, .int .i64 0, .string ⟨#[]⟩, .string ⟨#[]⟩, .int .i64 0, .int .i64 0, .slice none 0 0] 35 (0, 0)) := nodeKept K2 (heap_alloc_new _ _) (by omega); have r2 : w2.heap[w.heap.size]? = some (.cells #[.string ⟨#[]⟩, .int .i64 0, .string ⟨#[]⟩, .string ⟨#[]⟩, .int .i64 0, .int .i64 0, .slice none 0 0] 35 (0, 0)) := nodeKept K2 (by rw [Below.heap_alloc _ _ _ (by omega)]; exact r1) (by omega); have L2 : Hid (Kept (fun j => j = rb ∨ w.heap.size ≤ j) w w2) := (L1.out.and (Kept.alloc _ _ _)).and (K2.mono (fun j h => .inl h)); obtain ⟨⟨y0, y1, y2, y3, y4, y5, y6⟩, z0, z1, z2, z3, z4, z5, z6⟩ := seven n2)
    | (go_at_call 59; have _t := c3; refine (c3 _ (HR2.out.kept (S := fun j => j = w1.heap.size) (by repeat (first | exact Kept.refl _ _ | refine Kept.and ?_ (Kept.setCell (S := fun j => j = w1.heap.size) _ _ _ rfl))) (fun j hj => by omega))).mono ?_; rintro e w3 ⟨rfl, R3, K3⟩; clear c3 _t; have HR3 : Hid _ := R3; clear R3; have n3 : w3.heap[w1.heap.size]? = some (.cells #[.string x0, .int .i64 0, .string ⟨#[]⟩, .string ⟨#[]⟩, .int .i64 0, .int .i64 0, .slice none 0 0] 35 (0, 0)) := nodeKept K3 (by simp [World.setCell, Array.getElem?_modify, n2, hne2]) (by omega); have r3 : w3.heap[w.heap.size]? = some (.cells #[.string ⟨#[]⟩, .int .i64 0, .string ⟨#[]⟩, .string ⟨#[]⟩, .int .i64 0, .int .i64 0, .slice none 0 0] 35 (0, 0)) := nodeKept K3 (by simp [World.setCell, Array.getElem?_modify, r2, hne, hne3]) (by omega); have L3 : Hid (Kept (fun j => j = rb ∨ w.heap.size ≤ j) w w3) := (L2.out.and ((by repeat (first | exact Kept.refl _ _ | refine Kept.and ?_ (Kept.setCell (S := fun j => j = rb ∨ w.heap.size ≤ j) _ _ _ (.inr (by show w.heap.size ≤ w1.heap.size; omega))))))).and (K3.mono (fun j h => .inl h)); clear y0 y1 y2 y3 y4 y5 y6 z0 z1 z2 z3 z4 z5 z6; obtain ⟨⟨y0, y1, y2, y3, y4, y5, y6⟩, z0, z1, z2, z3, z4, z5, z6⟩ := seven n3)
    | (go_at_call 58; have _t := c4; refine (c4 _ (HR3.out.kept (S := fun j => j = w1.heap.size) (by repeat (first | exact Kept.refl _ _ | refine Kept.and ?_ (Kept.setCell (S := fun j => j = w1.heap.size) _ _ _ rfl))) (fun j hj => by omega))).mono ?_; rintro e w4 ⟨rfl, R4, K4⟩; clear c4 _t; have HR4 : Hid _ := R4; clear R4; have n4 : w4.heap[w1.heap.size]? = some (.cells #[.string x0, .int .i64 3, .string arg, .string ⟨#[]⟩, .int .i64 0, .int .i64 0, .slice none 0 0] 35 (0, 0)) := nodeKept K4 (by simp [World.setCell, Array.getElem?_modify, n3, hne2]) (by omega); have r4 : w4.heap[w.heap.size]? = some (.cells #[.string ⟨#[]⟩, .int .i64 0, .string ⟨#[]⟩, .string ⟨#[]⟩, .int .i64 0, .int .i64 0, .slice none 0 0] 35 (0, 0)) := nodeKept K4 (by simp [World.setCell, Array.getElem?_modify, r3, hne, hne3]) (by omega); have L4 : Hid (Kept (fun j => j = rb ∨ w.heap.size ≤ j) w w4) := (L3.out.and ((by repeat (first | exact Kept.refl _ _ | refine Kept.and ?_ (Kept.setCell (S := fun j => j = rb ∨ w.heap.size ≤ j) _ _ _ (.inr (by show w.heap.size ≤ w1.heap.size; omega))))))).and (K4.mono (fun j h => .inl h)); clear y0 y1 y2 y3 y4 y5 y6 z0 z1 z2 z3 z4 z5 z6; obtain ⟨⟨y0, y1, y2, y3, y4, y5, y6⟩, z0, z1, z2, z3, z4, z5, z6⟩ := seven n4)
    | (go_at_call 64; refine (c5 _ HR4.out).mono ?_; rintro e w5 ⟨aa, ca, rfl, O5, R5, K5⟩; clear c5; have HR5 : Hid _ := R5; have HO : Hid (w5.ownsRow w4.heap.size 9 1 (.slice aa al.length ca) al.length (strsV al)) := O5; clear R5 O5; have n5 : w5.heap[w1.heap.size]? = some (.cells #[.string x0, .int .i64 3, .string arg, .string ⟨#[]⟩, .int .i64 0, .int .i64 0, .slice none 0 0] 35 (0, 0)) := nodeKept K5 n4 (by omega); have r5 : w5.heap[w.heap.size]? = some (.cells #[.string ⟨#[]⟩, .int .i64 0, .string ⟨#[]⟩, .string ⟨#[]⟩, .int .i64 0, .int .i64 0, .slice none 0 0] 35 (0, 0)) := nodeKept K5 r4 (by omega); have L5 : Hid (Kept (fun j => j = rb ∨ w.heap.size ≤ j) w w5) := L4.out.and (K5.mono (fun j h => .inl h)); have hz4 := (Array.getElem?_eq_some_iff.1 n4).1; clear y0 y1 y2 y3 y4 y5 y6 z0 z1 z2 z3 z4 z5 z6; obtain ⟨⟨y0, y1, y2, y3, y4, y5, y6⟩, z0, z1, z2, z3, z4, z5, z6⟩ := seven n5)
    | (go_at_call 60; refine (cE _ (HR5.out.kept (S := fun j => j = w1.heap.size) (by repeat (first | exact Kept.refl _ _ | refine Kept.and ?_ (Kept.setCell (S := fun j => j = w1.heap.size) _ _ _ rfl))) (fun j hj => by omega))).mono ?_; rintro e wE ⟨rfl, RE, KE⟩; clear cE; have HRE : Hid _ := RE; clear RE; have nE : wE.heap[w1.heap.size]? = some (.cells #[.string x0, .int .i64 3, .string arg, .string ⟨#[]⟩, .int .i64 0, .int .i64 0, .slice aa al.length ca] 35 (0, 0)) := nodeKept KE (by simp [World.setCell, Array.getElem?_modify, n5, hne2]) (by omega); have rE : wE.heap[w.heap.size]? = some (.cells #[.string ⟨#[]⟩, .int .i64 0, .string ⟨#[]⟩, .string ⟨#[]⟩, .int .i64 0, .int .i64 0, .slice none 0 0] 35 (0, 0)) := nodeKept KE (by simp [World.setCell, Array.getElem?_modify, r5, hne, hne3]) (by omega); have LE : Hid (Kept (fun j => j = rb ∨ w.heap.size ≤ j) w wE) := (L5.out.and ((by repeat (first | exact Kept.refl _ _ | refine Kept.and ?_ (Kept.setCell (S := fun j => j = rb ∨ w.heap.size ≤ j) _ _ _ (.inr (by show w.heap.size ≤ w1.heap.size; omega))))))).and (KE.mono (fun j h => .inl h)); have HOE : Hid (wE.ownsRow w4.heap.size 9 1 (.slice aa al.length ca) al.length (strsV al)) := ownsRow_keep HO.out (fun g hg => (KE.block g (by have h := ownsRow_blk HO.out hg; simpa [World.setCell] using h) (by have h := (HO.out.lt g hg).1; omega)).trans (Below.heap_setCell _ _ _ _ (by have h := (HO.out.lt g hg).1; intro e'; have e2 : g = w1.heap.size := e'; omega))); clear y0 y1 y2 y3 y4 y5 y6 z0 z1 z2 z3 z4 z5 z6; obtain ⟨⟨y0, y1, y2, y3, y4, y5, y6⟩, z0, z1, z2, z3, z4, z5, z6⟩ := seven nE; obtain ⟨⟨a0, a1, a2, a3, a4, a5, a6⟩, b0, b1, b2, b3, b4, b5, b6⟩ := seven rE)
    | fail)
  generalize hV : (((((((wE.setCell ⟨w.heap.size, 0, none⟩ (.string x0)).setCell ⟨w.heap.size, 1, none⟩ (.int .i64 3)).setCell ⟨w.heap.size, 2, none⟩ (.string arg)).setCell ⟨w.heap.size, 3, none⟩ (.string ⟨#[]⟩)).setCell ⟨w.heap.size, 4, none⟩ (.int .i64 0)).setCell ⟨w.heap.size, 5, none⟩ (.int .i64 0)).setCell ⟨w.heap.size, 6, none⟩ (.slice aa al.length ca)) = V
  obtain ⟨g, P⟩ := node_end (p := (ndOf x0 (3, arg, ⟨#[]⟩, 0, 0) al, qE)) (a := aa) (c := ca) rE (ownsRow_lowS HOE.out (by omega)) HRE.out htop LE.out hV.symm
  have g' : V.heap[w.heap.size]? = some (.cells #[.string x0, .int .i64 3, .string arg, .string ⟨#[]⟩, .int .i64 0, .int .i64 0, .slice aa al.length ca] 35 (0, 0)) := g
  obtain ⟨⟨g0, g1, g2, g3, g4, g5, g6⟩, _⟩ := seven g'
  refine bodyPost_ret (by simp [results, Tryz.results39, go_sem, g0, g1, g2, g3, g4, g5, g6]; try rfl) rfl ?_
  exact P

set_option maxRecDepth 100000 in
set_option maxHeartbeats 1000000 in
theorem node_wai1 (w : World) (B rb : Nat) (r : RS) (R : RdAt w B rb r) {x0 wd : ByteArray} {q0 q1 : RS} {arg : ByteArray} {q2 : RS} {q3 : RS} {al : List ByteArray} {q4 : RS} (e1 : rName r = (x0, q0)) (e2 : rWord q0 = (wd, q1)) (kwai : wd = waiB) (e3 : rName q1 = (arg, q2)) (e4 : rTake aftB q2 = (true, q3)) (e5 : rNames q3 = (al, q4)) (hq : q3.1.length ≤ 100000) :
    Calls Tryz.prog 39 #[.pointer (some ⟨rb, 0, none⟩)] w fun e w' => NodePost w B rb (ndOf x0 (4, arg, ⟨#[]⟩, 0, 0) al, rEnd q4) e w' := by
  have hlow := R.low
  have htop := R.top
  have c1 := rname_any (w.alloc (.cells #[.string ⟨#[]⟩, .int .i64 0, .string ⟨#[]⟩, .string ⟨#[]⟩, .int .i64 0, .int .i64 0, .slice none 0 0] 35)) B rb r (R.kept (Kept.alloc (fun _ => False) _ _) (fun _ _ h => h))
  rw [e1] at c1
  have c2 := fun W (R : RdAt W B rb q0) => word_any W B rb q0 R
  rw [e2] at c2
  simp only [] at c1 c2
  have c3 := fun W (R : RdAt W B rb q1) => rname_any W B rb q1 R
  rw [e3] at c3
  simp only [] at c3
  have c4 := fun W (R : RdAt W B rb q2) => take_any W B rb q2 R aftB
  rw [e4] at c4
  unfold aftB at c4
  simp only [] at c4
  have c5 := fun W (R : RdAt W B rb q3) => rnames_any W B rb q3 R hq
  rw [e5] at c5
  simp only [] at c5
  have cE := fun W (R : RdAt W B rb q4) => end_any W B rb q4 R
  generalize hqE : rEnd q4 = qE at *
  have sact : (wd.toList == [97, 99, 116, 105, 118, 105, 116, 121]) = false := by
    rw [str_lit]
    subst kwai
    decide
  have stim : (wd.toList == [116, 105, 109, 101, 114]) = false := by
    rw [str_lit]
    subst kwai
    decide
  have schi : (wd.toList == [99, 104, 105, 108, 100]) = false := by
    rw [str_lit]
    subst kwai
    decide
  have swai : (wd.toList == [119, 97, 105, 116]) = true := by
    rw [str_lit]
    exact decide_eq_true kwai
  have ssen : (wd.toList == [115, 101, 110, 100]) = false := by
    rw [str_lit]
    subst kwai
    decide
  clear R kwai
  go_enter Tryz.func39, Tryz.ntmps39
  go_wp2_with (first
    | (go_at_call 59; have _t := c1; refine c1.mono ?_; rintro e w1 ⟨rfl, R1, K1⟩; clear c1 _t; have HR1 : Hid _ := R1; clear R1; have hz1 := K1.size; rw [World.size_alloc] at hz1; have r1 : w1.heap[w.heap.size]? = some (.cells #[.string ⟨#[]⟩, .int .i64 0, .string ⟨#[]⟩, .string ⟨#[]⟩, .int .i64 0, .int .i64 0, .slice none 0 0] 35 (0, 0)) := nodeKept K1 (heap_alloc_new _ _) (by omega); have hne : ¬ w1.heap.size = w.heap.size := (by omega); have hne2 : ¬ rb = w1.heap.size := (by omega); have hne3 : ¬ rb = w.heap.size := (by omega); have L1 : Hid (Kept (fun j => j = rb ∨ w.heap.size ≤ j) w w1) := (Kept.alloc _ _ _).and (K1.mono (fun j h => .inl h)))
    | (go_at_call 61; refine (c2 _ (HR1.out.kept (Kept.alloc (fun _ => False) _ _) (fun _ _ h => h))).mono ?_; rintro e w2 ⟨rfl, R2, K2⟩; clear c2; have HR2 : Hid _ := R2; clear R2; have n2 : w2.heap[w1.heap.size]? = some (.cells #[.string x0, .int .i64 0, .string ⟨#[]⟩, .string ⟨#[]⟩, .int .i64 0, .int .i64 0, .slice none 0 0] 35 (0, 0)) := nodeKept K2 (heap_alloc_new _ _) (by omega); have r2 : w2.heap[w.heap.size]? = some (.cells #[.string ⟨#[]⟩, .int .i64 0, .string ⟨#[]⟩, .string ⟨#[]⟩, .int .i64 0, .int .i64 0, .slice none 0 0] 35 (0, 0)) := nodeKept K2 (by rw [Below.heap_alloc _ _ _ (by omega)]; exact r1) (by omega); have L2 : Hid (Kept (fun j => j = rb ∨ w.heap.size ≤ j) w w2) := (L1.out.and (Kept.alloc _ _ _)).and (K2.mono (fun j h => .inl h)); obtain ⟨⟨y0, y1, y2, y3, y4, y5, y6⟩, z0, z1, z2, z3, z4, z5, z6⟩ := seven n2)
    | (go_at_call 59; have _t := c3; refine (c3 _ (HR2.out.kept (S := fun j => j = w1.heap.size) (by repeat (first | exact Kept.refl _ _ | refine Kept.and ?_ (Kept.setCell (S := fun j => j = w1.heap.size) _ _ _ rfl))) (fun j hj => by omega))).mono ?_; rintro e w3 ⟨rfl, R3, K3⟩; clear c3 _t; have HR3 : Hid _ := R3; clear R3; have n3 : w3.heap[w1.heap.size]? = some (.cells #[.string x0, .int .i64 0, .string ⟨#[]⟩, .string ⟨#[]⟩, .int .i64 0, .int .i64 0, .slice none 0 0] 35 (0, 0)) := nodeKept K3 (by simp [World.setCell, Array.getElem?_modify, n2, hne2]) (by omega); have r3 : w3.heap[w.heap.size]? = some (.cells #[.string ⟨#[]⟩, .int .i64 0, .string ⟨#[]⟩, .string ⟨#[]⟩, .int .i64 0, .int .i64 0, .slice none 0 0] 35 (0, 0)) := nodeKept K3 (by simp [World.setCell, Array.getElem?_modify, r2, hne, hne3]) (by omega); have L3 : Hid (Kept (fun j => j = rb ∨ w.heap.size ≤ j) w w3) := (L2.out.and ((by repeat (first | exact Kept.refl _ _ | refine Kept.and ?_ (Kept.setCell (S := fun j => j = rb ∨ w.heap.size ≤ j) _ _ _ (.inr (by show w.heap.size ≤ w1.heap.size; omega))))))).and (K3.mono (fun j h => .inl h)); clear y0 y1 y2 y3 y4 y5 y6 z0 z1 z2 z3 z4 z5 z6; obtain ⟨⟨y0, y1, y2, y3, y4, y5, y6⟩, z0, z1, z2, z3, z4, z5, z6⟩ := seven n3)
    | (go_at_call 58; have _t := c4; refine (c4 _ (HR3.out.kept (S := fun j => j = w1.heap.size) (by repeat (first | exact Kept.refl _ _ | refine Kept.and ?_ (Kept.setCell (S := fun j => j = w1.heap.size) _ _ _ rfl))) (fun j hj => by omega))).mono ?_; rintro e w4 ⟨rfl, R4, K4⟩; clear c4 _t; have HR4 : Hid _ := R4; clear R4; have n4 : w4.heap[w1.heap.size]? = some (.cells #[.string x0, .int .i64 4, .string arg, .string ⟨#[]⟩, .int .i64 0, .int .i64 0, .slice none 0 0] 35 (0, 0)) := nodeKept K4 (by simp [World.setCell, Array.getElem?_modify, n3, hne2]) (by omega); have r4 : w4.heap[w.heap.size]? = some (.cells #[.string ⟨#[]⟩, .int .i64 0, .string ⟨#[]⟩, .string ⟨#[]⟩, .int .i64 0, .int .i64 0, .slice none 0 0] 35 (0, 0)) := nodeKept K4 (by simp [World.setCell, Array.getElem?_modify, r3, hne, hne3]) (by omega); have L4 : Hid (Kept (fun j => j = rb ∨ w.heap.size ≤ j) w w4) := (L3.out.and ((by repeat (first | exact Kept.refl _ _ | refine Kept.and ?_ (Kept.setCell (S := fun j => j = rb ∨ w.heap.size ≤ j) _ _ _ (.inr (by show w.heap.size ≤ w1.heap.size; omega))))))).and (K4.mono (fun j h => .inl h)); clear y0 y1 y2 y3 y4 y5 y6 z0 z1 z2 z3 z4 z5 z6; obtain ⟨⟨y0, y1, y2, y3, y4, y5, y6⟩, z0, z1, z2, z3, z4, z5, z6⟩ := seven n4)
    | (go_at_call 64; refine (c5 _ HR4.out).mono ?_; rintro e w5 ⟨aa, ca, rfl, O5, R5, K5⟩; clear c5; have HR5 : Hid _ := R5; have HO : Hid (w5.ownsRow w4.heap.size 9 1 (.slice aa al.length ca) al.length (strsV al)) := O5; clear R5 O5; have n5 : w5.heap[w1.heap.size]? = some (.cells #[.string x0, .int .i64 4, .string arg, .string ⟨#[]⟩, .int .i64 0, .int .i64 0, .slice none 0 0] 35 (0, 0)) := nodeKept K5 n4 (by omega); have r5 : w5.heap[w.heap.size]? = some (.cells #[.string ⟨#[]⟩, .int .i64 0, .string ⟨#[]⟩, .string ⟨#[]⟩, .int .i64 0, .int .i64 0, .slice none 0 0] 35 (0, 0)) := nodeKept K5 r4 (by omega); have L5 : Hid (Kept (fun j => j = rb ∨ w.heap.size ≤ j) w w5) := L4.out.and (K5.mono (fun j h => .inl h)); have hz4 := (Array.getElem?_eq_some_iff.1 n4).1; clear y0 y1 y2 y3 y4 y5 y6 z0 z1 z2 z3 z4 z5 z6; obtain ⟨⟨y0, y1, y2, y3, y4, y5, y6⟩, z0, z1, z2, z3, z4, z5, z6⟩ := seven n5)
    | (go_at_call 60; refine (cE _ (HR5.out.kept (S := fun j => j = w1.heap.size) (by repeat (first | exact Kept.refl _ _ | refine Kept.and ?_ (Kept.setCell (S := fun j => j = w1.heap.size) _ _ _ rfl))) (fun j hj => by omega))).mono ?_; rintro e wE ⟨rfl, RE, KE⟩; clear cE; have HRE : Hid _ := RE; clear RE; have nE : wE.heap[w1.heap.size]? = some (.cells #[.string x0, .int .i64 4, .string arg, .string ⟨#[]⟩, .int .i64 0, .int .i64 0, .slice aa al.length ca] 35 (0, 0)) := nodeKept KE (by simp [World.setCell, Array.getElem?_modify, n5, hne2]) (by omega); have rE : wE.heap[w.heap.size]? = some (.cells #[.string ⟨#[]⟩, .int .i64 0, .string ⟨#[]⟩, .string ⟨#[]⟩, .int .i64 0, .int .i64 0, .slice none 0 0] 35 (0, 0)) := nodeKept KE (by simp [World.setCell, Array.getElem?_modify, r5, hne, hne3]) (by omega); have LE : Hid (Kept (fun j => j = rb ∨ w.heap.size ≤ j) w wE) := (L5.out.and ((by repeat (first | exact Kept.refl _ _ | refine Kept.and ?_ (Kept.setCell (S := fun j => j = rb ∨ w.heap.size ≤ j) _ _ _ (.inr (by show w.heap.size ≤ w1.heap.size; omega))))))).and (KE.mono (fun j h => .inl h)); have HOE : Hid (wE.ownsRow w4.heap.size 9 1 (.slice aa al.length ca) al.length (strsV al)) := ownsRow_keep HO.out (fun g hg => (KE.block g (by have h := ownsRow_blk HO.out hg; simpa [World.setCell] using h) (by have h := (HO.out.lt g hg).1; omega)).trans (Below.heap_setCell _ _ _ _ (by have h := (HO.out.lt g hg).1; intro e'; have e2 : g = w1.heap.size := e'; omega))); clear y0 y1 y2 y3 y4 y5 y6 z0 z1 z2 z3 z4 z5 z6; obtain ⟨⟨y0, y1, y2, y3, y4, y5, y6⟩, z0, z1, z2, z3, z4, z5, z6⟩ := seven nE; obtain ⟨⟨a0, a1, a2, a3, a4, a5, a6⟩, b0, b1, b2, b3, b4, b5, b6⟩ := seven rE)
    | fail)
  generalize hV : (((((((wE.setCell ⟨w.heap.size, 0, none⟩ (.string x0)).setCell ⟨w.heap.size, 1, none⟩ (.int .i64 4)).setCell ⟨w.heap.size, 2, none⟩ (.string arg)).setCell ⟨w.heap.size, 3, none⟩ (.string ⟨#[]⟩)).setCell ⟨w.heap.size, 4, none⟩ (.int .i64 0)).setCell ⟨w.heap.size, 5, none⟩ (.int .i64 0)).setCell ⟨w.heap.size, 6, none⟩ (.slice aa al.length ca)) = V
  obtain ⟨g, P⟩ := node_end (p := (ndOf x0 (4, arg, ⟨#[]⟩, 0, 0) al, qE)) (a := aa) (c := ca) rE (ownsRow_lowS HOE.out (by omega)) HRE.out htop LE.out hV.symm
  have g' : V.heap[w.heap.size]? = some (.cells #[.string x0, .int .i64 4, .string arg, .string ⟨#[]⟩, .int .i64 0, .int .i64 0, .slice aa al.length ca] 35 (0, 0)) := g
  obtain ⟨⟨g0, g1, g2, g3, g4, g5, g6⟩, _⟩ := seven g'
  refine bodyPost_ret (by simp [results, Tryz.results39, go_sem, g0, g1, g2, g3, g4, g5, g6]; try rfl) rfl ?_
  exact P

end Go.Proofs.YtlholgpenpfpbaaGreatDoor
