/-
  The reader: a node's line, path by path.
-/
import Derived.Test.YtlholgpenpfpbaaGreatDoorB02
import Derived.Test.YtlholgpenpfpbaaGreatDoorB03
import Derived.Test.YtlholgpenpfpbaaGreatDoorB04
import Derived.Deep.RegionLaw
namespace Go.Proofs.YtlholgpenpfpbaaGreatDoor
open Go.RowKit
set_option linter.unusedSimpArgs false

set_option maxRecDepth 100000 in
set_option maxHeartbeats 1000000 in
theorem node_act001 (w : World) (B rb : Nat) (r : RS) (R : RdAt w B rb r) {x0 wd : ByteArray} {q0 q1 : RS} {arg : ByteArray} {q2 : RS} {q3 : RS} {q4 : RS} {q5 : RS} {al : List ByteArray} {q6 : RS} (e1 : rName r = (x0, q0)) (e2 : rWord q0 = (wd, q1)) (kact : wd = actB) (e3 : rName q1 = (arg, q2)) (e4 : rTake triB q2 = (false, q3)) (e5 : rTake tmoB q3 = (false, q4)) (e6 : rTake aftB q4 = (true, q5)) (e7 : rNames q5 = (al, q6)) (hq : q5.1.length ≤ 100000) :
    Calls Tryz.prog 39 #[.pointer (some ⟨rb, 0, none⟩)] w fun e w' => NodePost w B rb (ndOf x0 (1, arg, ⟨#[]⟩, 0, 1) al, rEnd q6) e w' := by
  have hlow := R.low
  have htop := R.top
  have c1 := rname_any (w.alloc (.cells #[.string ⟨#[]⟩, .int .i64 0, .string ⟨#[]⟩, .string ⟨#[]⟩, .int .i64 0, .int .i64 0, .slice none 0 0] 35)) B rb r (R.kept (Kept.alloc (fun _ => False) _ _) (fun _ _ h => h))
  rw [e1] at c1
  have c2 := fun W (R : RdAt W B rb q0) => word_any W B rb q0 R
  rw [e2] at c2
  simp only [] at c1 c2
  have c3 := fun W (R : RdAt W B rb q1) => rname_any W B rb q1 R
  rw [e3] at c3
  simp only [] at c3
  have c4 := fun W (R : RdAt W B rb q2) => take_any W B rb q2 R triB
  rw [e4] at c4
  unfold triB at c4
  simp only [] at c4
  have c5 := fun W (R : RdAt W B rb q3) => take_any W B rb q3 R tmoB
  rw [e5] at c5
  unfold tmoB at c5
  simp only [] at c5
  have c6 := fun W (R : RdAt W B rb q4) => take_any W B rb q4 R aftB
  rw [e6] at c6
  unfold aftB at c6
  simp only [] at c6
  have c7 := fun W (R : RdAt W B rb q5) => rnames_any W B rb q5 R hq
  rw [e7] at c7
  simp only [] at c7
  have cE := fun W (R : RdAt W B rb q6) => end_any W B rb q6 R
  generalize hqE : rEnd q6 = qE at *
  have sact : (wd.toList == [97, 99, 116, 105, 118, 105, 116, 121]) = true := by
    rw [str_lit]
    exact decide_eq_true kact
  have stim : (wd.toList == [116, 105, 109, 101, 114]) = false := by
    rw [str_lit]
    subst kact
    decide
  have schi : (wd.toList == [99, 104, 105, 108, 100]) = false := by
    rw [str_lit]
    subst kact
    decide
  have swai : (wd.toList == [119, 97, 105, 116]) = false := by
    rw [str_lit]
    subst kact
    decide
  have ssen : (wd.toList == [115, 101, 110, 100]) = false := by
    rw [str_lit]
    subst kact
    decide
  clear R kact
  go_enter Tryz.func39, Tryz.ntmps39
  go_wp2_with (first
    | (go_at_call 59; have _t := c1; refine c1.mono ?_; rintro e w1 ⟨rfl, R1, K1⟩; clear c1 _t; have HR1 : Hid _ := R1; clear R1; have hz1 := K1.size; rw [World.size_alloc] at hz1; have r1 : w1.heap[w.heap.size]? = some (.cells #[.string ⟨#[]⟩, .int .i64 0, .string ⟨#[]⟩, .string ⟨#[]⟩, .int .i64 0, .int .i64 0, .slice none 0 0] 35 (0, 0)) := nodeKept K1 (heap_alloc_new _ _) (by omega); have hne : ¬ w1.heap.size = w.heap.size := (by omega); have hne2 : ¬ rb = w1.heap.size := (by omega); have hne3 : ¬ rb = w.heap.size := (by omega); have L1 : Hid (Kept (fun j => j = rb ∨ w.heap.size ≤ j) w w1) := (Kept.alloc _ _ _).and (K1.mono (fun j h => .inl h)))
    | (go_at_call 61; refine (c2 _ (HR1.out.kept (Kept.alloc (fun _ => False) _ _) (fun _ _ h => h))).mono ?_; rintro e w2 ⟨rfl, R2, K2⟩; clear c2; have HR2 : Hid _ := R2; clear R2; have n2 : w2.heap[w1.heap.size]? = some (.cells #[.string x0, .int .i64 0, .string ⟨#[]⟩, .string ⟨#[]⟩, .int .i64 0, .int .i64 0, .slice none 0 0] 35 (0, 0)) := nodeKept K2 (heap_alloc_new _ _) (by omega); have r2 : w2.heap[w.heap.size]? = some (.cells #[.string ⟨#[]⟩, .int .i64 0, .string ⟨#[]⟩, .string ⟨#[]⟩, .int .i64 0, .int .i64 0, .slice none 0 0] 35 (0, 0)) := nodeKept K2 (by rw [Below.heap_alloc _ _ _ (by omega)]; exact r1) (by omega); have L2 : Hid (Kept (fun j => j = rb ∨ w.heap.size ≤ j) w w2) := (L1.out.and (Kept.alloc _ _ _)).and (K2.mono (fun j h => .inl h)); obtain ⟨⟨y0, y1, y2, y3, y4, y5, y6⟩, z0, z1, z2, z3, z4, z5, z6⟩ := seven n2)
    | (go_at_call 59; have _t := c3; refine (c3 _ (HR2.out.kept (S := fun j => j = w1.heap.size) (by repeat (first | exact Kept.refl _ _ | refine Kept.and ?_ (Kept.setCell (S := fun j => j = w1.heap.size) _ _ _ rfl))) (fun j hj => by omega))).mono ?_; rintro e w3 ⟨rfl, R3, K3⟩; clear c3 _t; have HR3 : Hid _ := R3; clear R3; have n3 : w3.heap[w1.heap.size]? = some (.cells #[.string x0, .int .i64 0, .string ⟨#[]⟩, .string ⟨#[]⟩, .int .i64 0, .int .i64 0, .slice none 0 0] 35 (0, 0)) := nodeKept K3 (by simp [World.setCell, Array.getElem?_modify, n2, hne2]) (by omega); have r3 : w3.heap[w.heap.size]? = some (.cells #[.string ⟨#[]⟩, .int .i64 0, .string ⟨#[]⟩, .string ⟨#[]⟩, .int .i64 0, .int .i64 0, .slice none 0 0] 35 (0, 0)) := nodeKept K3 (by simp [World.setCell, Array.getElem?_modify, r2, hne, hne3]) (by omega); have L3 : Hid (Kept (fun j => j = rb ∨ w.heap.size ≤ j) w w3) := (L2.out.and ((by repeat (first | exact Kept.refl _ _ | refine Kept.and ?_ (Kept.setCell (S := fun j => j = rb ∨ w.heap.size ≤ j) _ _ _ (.inr (by show w.heap.size ≤ w1.heap.size; omega))))))).and (K3.mono (fun j h => .inl h)); clear y0 y1 y2 y3 y4 y5 y6 z0 z1 z2 z3 z4 z5 z6; obtain ⟨⟨y0, y1, y2, y3, y4, y5, y6⟩, z0, z1, z2, z3, z4, z5, z6⟩ := seven n3)
    | (go_at_call 58; have _t := c4; refine (c4 _ (HR3.out.kept (S := fun j => j = w1.heap.size) (by repeat (first | exact Kept.refl _ _ | refine Kept.and ?_ (Kept.setCell (S := fun j => j = w1.heap.size) _ _ _ rfl))) (fun j hj => by omega))).mono ?_; rintro e w4 ⟨rfl, R4, K4⟩; clear c4 _t; have HR4 : Hid _ := R4; clear R4; have n4 : w4.heap[w1.heap.size]? = some (.cells #[.string x0, .int .i64 1, .string arg, .string ⟨#[]⟩, .int .i64 0, .int .i64 1, .slice none 0 0] 35 (0, 0)) := nodeKept K4 (by simp [World.setCell, Array.getElem?_modify, n3, hne2]) (by omega); have r4 : w4.heap[w.heap.size]? = some (.cells #[.string ⟨#[]⟩, .int .i64 0, .string ⟨#[]⟩, .string ⟨#[]⟩, .int .i64 0, .int .i64 0, .slice none 0 0] 35 (0, 0)) := nodeKept K4 (by simp [World.setCell, Array.getElem?_modify, r3, hne, hne3]) (by omega); have L4 : Hid (Kept (fun j => j = rb ∨ w.heap.size ≤ j) w w4) := (L3.out.and ((by repeat (first | exact Kept.refl _ _ | refine Kept.and ?_ (Kept.setCell (S := fun j => j = rb ∨ w.heap.size ≤ j) _ _ _ (.inr (by show w.heap.size ≤ w1.heap.size; omega))))))).and (K4.mono (fun j h => .inl h)); clear y0 y1 y2 y3 y4 y5 y6 z0 z1 z2 z3 z4 z5 z6; obtain ⟨⟨y0, y1, y2, y3, y4, y5, y6⟩, z0, z1, z2, z3, z4, z5, z6⟩ := seven n4)
    | (go_at_call 58; have _t := c5; refine (c5 _ (HR4.out.kept (S := fun j => j = w1.heap.size) (by repeat (first | exact Kept.refl _ _ | refine Kept.and ?_ (Kept.setCell (S := fun j => j = w1.heap.size) _ _ _ rfl))) (fun j hj => by omega))).mono ?_; rintro e w5 ⟨rfl, R5, K5⟩; clear c5 _t; have HR5 : Hid _ := R5; clear R5; have n5 : w5.heap[w1.heap.size]? = some (.cells #[.string x0, .int .i64 1, .string arg, .string ⟨#[]⟩, .int .i64 0, .int .i64 1, .slice none 0 0] 35 (0, 0)) := nodeKept K5 (by simp [World.setCell, Array.getElem?_modify, n4, hne2]) (by omega); have r5 : w5.heap[w.heap.size]? = some (.cells #[.string ⟨#[]⟩, .int .i64 0, .string ⟨#[]⟩, .string ⟨#[]⟩, .int .i64 0, .int .i64 0, .slice none 0 0] 35 (0, 0)) := nodeKept K5 (by simp [World.setCell, Array.getElem?_modify, r4, hne, hne3]) (by omega); have L5 : Hid (Kept (fun j => j = rb ∨ w.heap.size ≤ j) w w5) := (L4.out.and ((by repeat (first | exact Kept.refl _ _ | refine Kept.and ?_ (Kept.setCell (S := fun j => j = rb ∨ w.heap.size ≤ j) _ _ _ (.inr (by show w.heap.size ≤ w1.heap.size; omega))))))).and (K5.mono (fun j h => .inl h)); clear y0 y1 y2 y3 y4 y5 y6 z0 z1 z2 z3 z4 z5 z6; obtain ⟨⟨y0, y1, y2, y3, y4, y5, y6⟩, z0, z1, z2, z3, z4, z5, z6⟩ := seven n5)
    | (go_at_call 58; have _t := c6; refine (c6 _ (HR5.out.kept (S := fun j => j = w1.heap.size) (by repeat (first | exact Kept.refl _ _ | refine Kept.and ?_ (Kept.setCell (S := fun j => j = w1.heap.size) _ _ _ rfl))) (fun j hj => by omega))).mono ?_; rintro e w6 ⟨rfl, R6, K6⟩; clear c6 _t; have HR6 : Hid _ := R6; clear R6; have n6 : w6.heap[w1.heap.size]? = some (.cells #[.string x0, .int .i64 1, .string arg, .string ⟨#[]⟩, .int .i64 0, .int .i64 1, .slice none 0 0] 35 (0, 0)) := nodeKept K6 (by simp [World.setCell, Array.getElem?_modify, n5, hne2]) (by omega); have r6 : w6.heap[w.heap.size]? = some (.cells #[.string ⟨#[]⟩, .int .i64 0, .string ⟨#[]⟩, .string ⟨#[]⟩, .int .i64 0, .int .i64 0, .slice none 0 0] 35 (0, 0)) := nodeKept K6 (by simp [World.setCell, Array.getElem?_modify, r5, hne, hne3]) (by omega); have L6 : Hid (Kept (fun j => j = rb ∨ w.heap.size ≤ j) w w6) := (L5.out.and ((by repeat (first | exact Kept.refl _ _ | refine Kept.and ?_ (Kept.setCell (S := fun j => j = rb ∨ w.heap.size ≤ j) _ _ _ (.inr (by show w.heap.size ≤ w1.heap.size; omega))))))).and (K6.mono (fun j h => .inl h)); clear y0 y1 y2 y3 y4 y5 y6 z0 z1 z2 z3 z4 z5 z6; obtain ⟨⟨y0, y1, y2, y3, y4, y5, y6⟩, z0, z1, z2, z3, z4, z5, z6⟩ := seven n6)
    | (go_at_call 64; refine (c7 _ HR6.out).mono ?_; rintro e w7 ⟨aa, ca, rfl, O7, R7, K7⟩; clear c7; have HR7 : Hid _ := R7; have HO : Hid (w7.ownsRow w6.heap.size 9 1 (.slice aa al.length ca) al.length (strsV al)) := O7; clear R7 O7; have n7 : w7.heap[w1.heap.size]? = some (.cells #[.string x0, .int .i64 1, .string arg, .string ⟨#[]⟩, .int .i64 0, .int .i64 1, .slice none 0 0] 35 (0, 0)) := nodeKept K7 n6 (by omega); have r7 : w7.heap[w.heap.size]? = some (.cells #[.string ⟨#[]⟩, .int .i64 0, .string ⟨#[]⟩, .string ⟨#[]⟩, .int .i64 0, .int .i64 0, .slice none 0 0] 35 (0, 0)) := nodeKept K7 r6 (by omega); have L7 : Hid (Kept (fun j => j = rb ∨ w.heap.size ≤ j) w w7) := L6.out.and (K7.mono (fun j h => .inl h)); have hz6 := (Array.getElem?_eq_some_iff.1 n6).1; clear y0 y1 y2 y3 y4 y5 y6 z0 z1 z2 z3 z4 z5 z6; obtain ⟨⟨y0, y1, y2, y3, y4, y5, y6⟩, z0, z1, z2, z3, z4, z5, z6⟩ := seven n7)
    | (go_at_call 60; refine (cE _ (HR7.out.kept (S := fun j => j = w1.heap.size) (by repeat (first | exact Kept.refl _ _ | refine Kept.and ?_ (Kept.setCell (S := fun j => j = w1.heap.size) _ _ _ rfl))) (fun j hj => by omega))).mono ?_; rintro e wE ⟨rfl, RE, KE⟩; clear cE; have HRE : Hid _ := RE; clear RE; have nE : wE.heap[w1.heap.size]? = some (.cells #[.string x0, .int .i64 1, .string arg, .string ⟨#[]⟩, .int .i64 0, .int .i64 1, .slice aa al.length ca] 35 (0, 0)) := nodeKept KE (by simp [World.setCell, Array.getElem?_modify, n7, hne2]) (by omega); have rE : wE.heap[w.heap.size]? = some (.cells #[.string ⟨#[]⟩, .int .i64 0, .string ⟨#[]⟩, .string ⟨#[]⟩, .int .i64 0, .int .i64 0, .slice none 0 0] 35 (0, 0)) := nodeKept KE (by simp [World.setCell, Array.getElem?_modify, r7, hne, hne3]) (by omega); have LE : Hid (Kept (fun j => j = rb ∨ w.heap.size ≤ j) w wE) := (L7.out.and ((by repeat (first | exact Kept.refl _ _ | refine Kept.and ?_ (Kept.setCell (S := fun j => j = rb ∨ w.heap.size ≤ j) _ _ _ (.inr (by show w.heap.size ≤ w1.heap.size; omega))))))).and (KE.mono (fun j h => .inl h)); have HOE : Hid (wE.ownsRow w6.heap.size 9 1 (.slice aa al.length ca) al.length (strsV al)) := ownsRow_keep HO.out (fun g hg => (KE.block g (by have h := ownsRow_blk HO.out hg; simpa [World.setCell] using h) (by have h := (HO.out.lt g hg).1; omega)).trans (Below.heap_setCell _ _ _ _ (by have h := (HO.out.lt g hg).1; intro e'; have e2 : g = w1.heap.size := e'; omega))); clear y0 y1 y2 y3 y4 y5 y6 z0 z1 z2 z3 z4 z5 z6; obtain ⟨⟨y0, y1, y2, y3, y4, y5, y6⟩, z0, z1, z2, z3, z4, z5, z6⟩ := seven nE; obtain ⟨⟨a0, a1, a2, a3, a4, a5, a6⟩, b0, b1, b2, b3, b4, b5, b6⟩ := seven rE)
    | fail)
  generalize hV : (((((((wE.setCell ⟨w.heap.size, 0, none⟩ (.string x0)).setCell ⟨w.heap.size, 1, none⟩ (.int .i64 1)).setCell ⟨w.heap.size, 2, none⟩ (.string arg)).setCell ⟨w.heap.size, 3, none⟩ (.string ⟨#[]⟩)).setCell ⟨w.heap.size, 4, none⟩ (.int .i64 0)).setCell ⟨w.heap.size, 5, none⟩ (.int .i64 1)).setCell ⟨w.heap.size, 6, none⟩ (.slice aa al.length ca)) = V
  obtain ⟨g, P⟩ := node_end (p := (ndOf x0 (1, arg, ⟨#[]⟩, 0, 1) al, qE)) (a := aa) (c := ca) rE (ownsRow_lowS HOE.out (by omega)) HRE.out htop LE.out hV.symm
  have g' : V.heap[w.heap.size]? = some (.cells #[.string x0, .int .i64 1, .string arg, .string ⟨#[]⟩, .int .i64 0, .int .i64 1, .slice aa al.length ca] 35 (0, 0)) := g
  obtain ⟨⟨g0, g1, g2, g3, g4, g5, g6⟩, _⟩ := seven g'
  refine bodyPost_ret (by simp [results, Tryz.results39, go_sem, g0, g1, g2, g3, g4, g5, g6]; try rfl) rfl ?_
  exact P

set_option maxRecDepth 100000 in
set_option maxHeartbeats 1000000 in
theorem node_act011 (w : World) (B rb : Nat) (r : RS) (R : RdAt w B rb r) {x0 wd : ByteArray} {q0 q1 : RS} {arg : ByteArray} {q2 : RS} {q3 : RS} {q4 : RS} {dl : Int} {q5 : RS} {q6 : RS} {al : List ByteArray} {q7 : RS} (e1 : rName r = (x0, q0)) (e2 : rWord q0 = (wd, q1)) (kact : wd = actB) (e3 : rName q1 = (arg, q2)) (e4 : rTake triB q2 = (false, q3)) (e5 : rTake tmoB q3 = (true, q4)) (e6 : rNum q4 = (dl, q5)) (e7 : rTake aftB q5 = (true, q6)) (e8 : rNames q6 = (al, q7)) (hq : q6.1.length ≤ 100000) :
    Calls Tryz.prog 39 #[.pointer (some ⟨rb, 0, none⟩)] w fun e w' => NodePost w B rb (ndOf x0 (1, arg, ⟨#[]⟩, dl, 1) al, rEnd q7) e w' := by
  have hlow := R.low
  have htop := R.top
  have c1 := rname_any (w.alloc (.cells #[.string ⟨#[]⟩, .int .i64 0, .string ⟨#[]⟩, .string ⟨#[]⟩, .int .i64 0, .int .i64 0, .slice none 0 0] 35)) B rb r (R.kept (Kept.alloc (fun _ => False) _ _) (fun _ _ h => h))
  rw [e1] at c1
  have c2 := fun W (R : RdAt W B rb q0) => word_any W B rb q0 R
  rw [e2] at c2
  simp only [] at c1 c2
  have c3 := fun W (R : RdAt W B rb q1) => rname_any W B rb q1 R
  rw [e3] at c3
  simp only [] at c3
  have c4 := fun W (R : RdAt W B rb q2) => take_any W B rb q2 R triB
  rw [e4] at c4
  unfold triB at c4
  simp only [] at c4
  have c5 := fun W (R : RdAt W B rb q3) => take_any W B rb q3 R tmoB
  rw [e5] at c5
  unfold tmoB at c5
  simp only [] at c5
  have c6 := fun W (R : RdAt W B rb q4) => rnum_any W B rb q4 R
  rw [e6] at c6
  simp only [] at c6
  have c7 := fun W (R : RdAt W B rb q5) => take_any W B rb q5 R aftB
  rw [e7] at c7
  unfold aftB at c7
  simp only [] at c7
  have c8 := fun W (R : RdAt W B rb q6) => rnames_any W B rb q6 R hq
  rw [e8] at c8
  simp only [] at c8
  have cE := fun W (R : RdAt W B rb q7) => end_any W B rb q7 R
  generalize hqE : rEnd q7 = qE at *
  have sact : (wd.toList == [97, 99, 116, 105, 118, 105, 116, 121]) = true := by
    rw [str_lit]
    exact decide_eq_true kact
  have stim : (wd.toList == [116, 105, 109, 101, 114]) = false := by
    rw [str_lit]
    subst kact
    decide
  have schi : (wd.toList == [99, 104, 105, 108, 100]) = false := by
    rw [str_lit]
    subst kact
    decide
  have swai : (wd.toList == [119, 97, 105, 116]) = false := by
    rw [str_lit]
    subst kact
    decide
  have ssen : (wd.toList == [115, 101, 110, 100]) = false := by
    rw [str_lit]
    subst kact
    decide
  clear R kact
  go_enter Tryz.func39, Tryz.ntmps39
  go_wp2_with (first
    | (go_at_call 59; have _t := c1; refine c1.mono ?_; rintro e w1 ⟨rfl, R1, K1⟩; clear c1 _t; have HR1 : Hid _ := R1; clear R1; have hz1 := K1.size; rw [World.size_alloc] at hz1; have r1 : w1.heap[w.heap.size]? = some (.cells #[.string ⟨#[]⟩, .int .i64 0, .string ⟨#[]⟩, .string ⟨#[]⟩, .int .i64 0, .int .i64 0, .slice none 0 0] 35 (0, 0)) := nodeKept K1 (heap_alloc_new _ _) (by omega); have hne : ¬ w1.heap.size = w.heap.size := (by omega); have hne2 : ¬ rb = w1.heap.size := (by omega); have hne3 : ¬ rb = w.heap.size := (by omega); have L1 : Hid (Kept (fun j => j = rb ∨ w.heap.size ≤ j) w w1) := (Kept.alloc _ _ _).and (K1.mono (fun j h => .inl h)))
    | (go_at_call 61; refine (c2 _ (HR1.out.kept (Kept.alloc (fun _ => False) _ _) (fun _ _ h => h))).mono ?_; rintro e w2 ⟨rfl, R2, K2⟩; clear c2; have HR2 : Hid _ := R2; clear R2; have n2 : w2.heap[w1.heap.size]? = some (.cells #[.string x0, .int .i64 0, .string ⟨#[]⟩, .string ⟨#[]⟩, .int .i64 0, .int .i64 0, .slice none 0 0] 35 (0, 0)) := nodeKept K2 (heap_alloc_new _ _) (by omega); have r2 : w2.heap[w.heap.size]? = some (.cells #[.string ⟨#[]⟩, .int .i64 0, .string ⟨#[]⟩, .string ⟨#[]⟩, .int .i64 0, .int .i64 0, .slice none 0 0] 35 (0, 0)) := nodeKept K2 (by rw [Below.heap_alloc _ _ _ (by omega)]; exact r1) (by omega); have L2 : Hid (Kept (fun j => j = rb ∨ w.heap.size ≤ j) w w2) := (L1.out.and (Kept.alloc _ _ _)).and (K2.mono (fun j h => .inl h)); obtain ⟨⟨y0, y1, y2, y3, y4, y5, y6⟩, z0, z1, z2, z3, z4, z5, z6⟩ := seven n2)
    | (go_at_call 59; have _t := c3; refine (c3 _ (HR2.out.kept (S := fun j => j = w1.heap.size) (by repeat (first | exact Kept.refl _ _ | refine Kept.and ?_ (Kept.setCell (S := fun j => j = w1.heap.size) _ _ _ rfl))) (fun j hj => by omega))).mono ?_; rintro e w3 ⟨rfl, R3, K3⟩; clear c3 _t; have HR3 : Hid _ := R3; clear R3; have n3 : w3.heap[w1.heap.size]? = some (.cells #[.string x0, .int .i64 0, .string ⟨#[]⟩, .string ⟨#[]⟩, .int .i64 0, .int .i64 0, .slice none 0 0] 35 (0, 0)) := nodeKept K3 (by simp [World.setCell, Array.getElem?_modify, n2, hne2]) (by omega); have r3 : w3.heap[w.heap.size]? = some (.cells #[.string ⟨#[]⟩, .int .i64 0, .string ⟨#[]⟩, .string ⟨#[]⟩, .int .i64 0, .int .i64 0, .slice none 0 0] 35 (0, 0)) := nodeKept K3 (by simp [World.setCell, Array.getElem?_modify, r2, hne, hne3]) (by omega); have L3 : Hid (Kept (fun j => j = rb ∨ w.heap.size ≤ j) w w3) := (L2.out.and ((by repeat (first | exact Kept.refl _ _ | refine Kept.and ?_ (Kept.setCell (S := fun j => j = rb ∨ w.heap.size ≤ j) _ _ _ (.inr (by show w.heap.size ≤ w1.heap.size; omega))))))).and (K3.mono (fun j h => .inl h)); clear y0 y1 y2 y3 y4 y5 y6 z0 z1 z2 z3 z4 z5 z6; obtain ⟨⟨y0, y1, y2, y3, y4, y5, y6⟩, z0, z1, z2, z3, z4, z5, z6⟩ := seven n3)
    | (go_at_call 58; have _t := c4; refine (c4 _ (HR3.out.kept (S := fun j => j = w1.heap.size) (by repeat (first | exact Kept.refl _ _ | refine Kept.and ?_ (Kept.setCell (S := fun j => j = w1.heap.size) _ _ _ rfl))) (fun j hj => by omega))).mono ?_; rintro e w4 ⟨rfl, R4, K4⟩; clear c4 _t; have HR4 : Hid _ := R4; clear R4; have n4 : w4.heap[w1.heap.size]? = some (.cells #[.string x0, .int .i64 1, .string arg, .string ⟨#[]⟩, .int .i64 0, .int .i64 1, .slice none 0 0] 35 (0, 0)) := nodeKept K4 (by simp [World.setCell, Array.getElem?_modify, n3, hne2]) (by omega); have r4 : w4.heap[w.heap.size]? = some (.cells #[.string ⟨#[]⟩, .int .i64 0, .string ⟨#[]⟩, .string ⟨#[]⟩, .int .i64 0, .int .i64 0, .slice none 0 0] 35 (0, 0)) := nodeKept K4 (by simp [World.setCell, Array.getElem?_modify, r3, hne, hne3]) (by omega); have L4 : Hid (Kept (fun j => j = rb ∨ w.heap.size ≤ j) w w4) := (L3.out.and ((by repeat (first | exact Kept.refl _ _ | refine Kept.and ?_ (Kept.setCell (S := fun j => j = rb ∨ w.heap.size ≤ j) _ _ _ (.inr (by show w.heap.size ≤ w1.heap.size; omega))))))).and (K4.mono (fun j h => .inl h)); clear y0 y1 y2 y3 y4 y5 y6 z0 z1 z2 z3 z4 z5 z6; obtain ⟨⟨y0, y1, y2, y3, y4, y5, y6⟩, z0, z1, z2, z3, z4, z5, z6⟩ := seven n4)
    | (go_at_call 58; have _t := c5; refine (c5 _ (HR4.out.kept (S := fun j => j = w1.heap.size) (by repeat (first | exact Kept.refl _ _ | refine Kept.and ?_ (Kept.setCell (S := fun j => j = w1.heap.size) _ _ _ rfl))) (fun j hj => by omega))).mono ?_; rintro e w5 ⟨rfl, R5, K5⟩; clear c5 _t; have HR5 : Hid _ := R5; clear R5; have n5 : w5.heap[w1.heap.size]? = some (.cells #[.string x0, .int .i64 1, .string arg, .string ⟨#[]⟩, .int .i64 0, .int .i64 1, .slice none 0 0] 35 (0, 0)) := nodeKept K5 (by simp [World.setCell, Array.getElem?_modify, n4, hne2]) (by omega); have r5 : w5.heap[w.heap.size]? = some (.cells #[.string ⟨#[]⟩, .int .i64 0, .string ⟨#[]⟩, .string ⟨#[]⟩, .int .i64 0, .int .i64 0, .slice none 0 0] 35 (0, 0)) := nodeKept K5 (by simp [World.setCell, Array.getElem?_modify, r4, hne, hne3]) (by omega); have L5 : Hid (Kept (fun j => j = rb ∨ w.heap.size ≤ j) w w5) := (L4.out.and ((by repeat (first | exact Kept.refl _ _ | refine Kept.and ?_ (Kept.setCell (S := fun j => j = rb ∨ w.heap.size ≤ j) _ _ _ (.inr (by show w.heap.size ≤ w1.heap.size; omega))))))).and (K5.mono (fun j h => .inl h)); clear y0 y1 y2 y3 y4 y5 y6 z0 z1 z2 z3 z4 z5 z6; obtain ⟨⟨y0, y1, y2, y3, y4, y5, y6⟩, z0, z1, z2, z3, z4, z5, z6⟩ := seven n5)
    | (go_at_call 62; have _t := c6; refine (c6 _ (HR5.out.kept (S := fun j => j = w1.heap.size) (by repeat (first | exact Kept.refl _ _ | refine Kept.and ?_ (Kept.setCell (S := fun j => j = w1.heap.size) _ _ _ rfl))) (fun j hj => by omega))).mono ?_; rintro e w6 ⟨rfl, R6, K6⟩; clear c6 _t; have HR6 : Hid _ := R6; clear R6; have n6 : w6.heap[w1.heap.size]? = some (.cells #[.string x0, .int .i64 1, .string arg, .string ⟨#[]⟩, .int .i64 0, .int .i64 1, .slice none 0 0] 35 (0, 0)) := nodeKept K6 (by simp [World.setCell, Array.getElem?_modify, n5, hne2]) (by omega); have r6 : w6.heap[w.heap.size]? = some (.cells #[.string ⟨#[]⟩, .int .i64 0, .string ⟨#[]⟩, .string ⟨#[]⟩, .int .i64 0, .int .i64 0, .slice none 0 0] 35 (0, 0)) := nodeKept K6 (by simp [World.setCell, Array.getElem?_modify, r5, hne, hne3]) (by omega); have L6 : Hid (Kept (fun j => j = rb ∨ w.heap.size ≤ j) w w6) := (L5.out.and ((by repeat (first | exact Kept.refl _ _ | refine Kept.and ?_ (Kept.setCell (S := fun j => j = rb ∨ w.heap.size ≤ j) _ _ _ (.inr (by show w.heap.size ≤ w1.heap.size; omega))))))).and (K6.mono (fun j h => .inl h)); clear y0 y1 y2 y3 y4 y5 y6 z0 z1 z2 z3 z4 z5 z6; obtain ⟨⟨y0, y1, y2, y3, y4, y5, y6⟩, z0, z1, z2, z3, z4, z5, z6⟩ := seven n6)
    | (go_at_call 58; have _t := c7; refine (c7 _ (HR6.out.kept (S := fun j => j = w1.heap.size) (by repeat (first | exact Kept.refl _ _ | refine Kept.and ?_ (Kept.setCell (S := fun j => j = w1.heap.size) _ _ _ rfl))) (fun j hj => by omega))).mono ?_; rintro e w7 ⟨rfl, R7, K7⟩; clear c7 _t; have HR7 : Hid _ := R7; clear R7; have n7 : w7.heap[w1.heap.size]? = some (.cells #[.string x0, .int .i64 1, .string arg, .string ⟨#[]⟩, .int .i64 dl, .int .i64 1, .slice none 0 0] 35 (0, 0)) := nodeKept K7 (by simp [World.setCell, Array.getElem?_modify, n6, hne2]) (by omega); have r7 : w7.heap[w.heap.size]? = some (.cells #[.string ⟨#[]⟩, .int .i64 0, .string ⟨#[]⟩, .string ⟨#[]⟩, .int .i64 0, .int .i64 0, .slice none 0 0] 35 (0, 0)) := nodeKept K7 (by simp [World.setCell, Array.getElem?_modify, r6, hne, hne3]) (by omega); have L7 : Hid (Kept (fun j => j = rb ∨ w.heap.size ≤ j) w w7) := (L6.out.and ((by repeat (first | exact Kept.refl _ _ | refine Kept.and ?_ (Kept.setCell (S := fun j => j = rb ∨ w.heap.size ≤ j) _ _ _ (.inr (by show w.heap.size ≤ w1.heap.size; omega))))))).and (K7.mono (fun j h => .inl h)); clear y0 y1 y2 y3 y4 y5 y6 z0 z1 z2 z3 z4 z5 z6; obtain ⟨⟨y0, y1, y2, y3, y4, y5, y6⟩, z0, z1, z2, z3, z4, z5, z6⟩ := seven n7)
    | (go_at_call 64; refine (c8 _ HR7.out).mono ?_; rintro e w8 ⟨aa, ca, rfl, O8, R8, K8⟩; clear c8; have HR8 : Hid _ := R8; have HO : Hid (w8.ownsRow w7.heap.size 9 1 (.slice aa al.length ca) al.length (strsV al)) := O8; clear R8 O8; have n8 : w8.heap[w1.heap.size]? = some (.cells #[.string x0, .int .i64 1, .string arg, .string ⟨#[]⟩, .int .i64 dl, .int .i64 1, .slice none 0 0] 35 (0, 0)) := nodeKept K8 n7 (by omega); have r8 : w8.heap[w.heap.size]? = some (.cells #[.string ⟨#[]⟩, .int .i64 0, .string ⟨#[]⟩, .string ⟨#[]⟩, .int .i64 0, .int .i64 0, .slice none 0 0] 35 (0, 0)) := nodeKept K8 r7 (by omega); have L8 : Hid (Kept (fun j => j = rb ∨ w.heap.size ≤ j) w w8) := L7.out.and (K8.mono (fun j h => .inl h)); have hz7 := (Array.getElem?_eq_some_iff.1 n7).1; clear y0 y1 y2 y3 y4 y5 y6 z0 z1 z2 z3 z4 z5 z6; obtain ⟨⟨y0, y1, y2, y3, y4, y5, y6⟩, z0, z1, z2, z3, z4, z5, z6⟩ := seven n8)
    | (go_at_call 60; refine (cE _ (HR8.out.kept (S := fun j => j = w1.heap.size) (by repeat (first | exact Kept.refl _ _ | refine Kept.and ?_ (Kept.setCell (S := fun j => j = w1.heap.size) _ _ _ rfl))) (fun j hj => by omega))).mono ?_; rintro e wE ⟨rfl, RE, KE⟩; clear cE; have HRE : Hid _ := RE; clear RE; have nE : wE.heap[w1.heap.size]? = some (.cells #[.string x0, .int .i64 1, .string arg, .string ⟨#[]⟩, .int .i64 dl, .int .i64 1, .slice aa al.length ca] 35 (0, 0)) := nodeKept KE (by simp [World.setCell, Array.getElem?_modify, n8, hne2]) (by omega); have rE : wE.heap[w.heap.size]? = some (.cells #[.string ⟨#[]⟩, .int .i64 0, .string ⟨#[]⟩, .string ⟨#[]⟩, .int .i64 0, .int .i64 0, .slice none 0 0] 35 (0, 0)) := nodeKept KE (by simp [World.setCell, Array.getElem?_modify, r8, hne, hne3]) (by omega); have LE : Hid (Kept (fun j => j = rb ∨ w.heap.size ≤ j) w wE) := (L8.out.and ((by repeat (first | exact Kept.refl _ _ | refine Kept.and ?_ (Kept.setCell (S := fun j => j = rb ∨ w.heap.size ≤ j) _ _ _ (.inr (by show w.heap.size ≤ w1.heap.size; omega))))))).and (KE.mono (fun j h => .inl h)); have HOE : Hid (wE.ownsRow w7.heap.size 9 1 (.slice aa al.length ca) al.length (strsV al)) := ownsRow_keep HO.out (fun g hg => (KE.block g (by have h := ownsRow_blk HO.out hg; simpa [World.setCell] using h) (by have h := (HO.out.lt g hg).1; omega)).trans (Below.heap_setCell _ _ _ _ (by have h := (HO.out.lt g hg).1; intro e'; have e2 : g = w1.heap.size := e'; omega))); clear y0 y1 y2 y3 y4 y5 y6 z0 z1 z2 z3 z4 z5 z6; obtain ⟨⟨y0, y1, y2, y3, y4, y5, y6⟩, z0, z1, z2, z3, z4, z5, z6⟩ := seven nE; obtain ⟨⟨a0, a1, a2, a3, a4, a5, a6⟩, b0, b1, b2, b3, b4, b5, b6⟩ := seven rE)
    | fail)
  generalize hV : (((((((wE.setCell ⟨w.heap.size, 0, none⟩ (.string x0)).setCell ⟨w.heap.size, 1, none⟩ (.int .i64 1)).setCell ⟨w.heap.size, 2, none⟩ (.string arg)).setCell ⟨w.heap.size, 3, none⟩ (.string ⟨#[]⟩)).setCell ⟨w.heap.size, 4, none⟩ (.int .i64 dl)).setCell ⟨w.heap.size, 5, none⟩ (.int .i64 1)).setCell ⟨w.heap.size, 6, none⟩ (.slice aa al.length ca)) = V
  obtain ⟨g, P⟩ := node_end (p := (ndOf x0 (1, arg, ⟨#[]⟩, dl, 1) al, qE)) (a := aa) (c := ca) rE (ownsRow_lowS HOE.out (by omega)) HRE.out htop LE.out hV.symm
  have g' : V.heap[w.heap.size]? = some (.cells #[.string x0, .int .i64 1, .string arg, .string ⟨#[]⟩, .int .i64 dl, .int .i64 1, .slice aa al.length ca] 35 (0, 0)) := g
  obtain ⟨⟨g0, g1, g2, g3, g4, g5, g6⟩, _⟩ := seven g'
  refine bodyPost_ret (by simp [results, Tryz.results39, go_sem, g0, g1, g2, g3, g4, g5, g6]; try rfl) rfl ?_
  exact P

set_option maxRecDepth 100000 in
set_option maxHeartbeats 1000000 in
theorem node_act101 (w : World) (B rb : Nat) (r : RS) (R : RdAt w B rb r) {x0 wd : ByteArray} {q0 q1 : RS} {arg : ByteArray} {q2 : RS} {q3 : RS} {tr : Int} {q4 : RS} {q5 : RS} {q6 : RS} {al : List ByteArray} {q7 : RS} (e1 : rName r = (x0, q0)) (e2 : rWord q0 = (wd, q1)) (kact : wd = actB) (e3 : rName q1 = (arg, q2)) (e4 : rTake triB q2 = (true, q3)) (e5 : rNum q3 = (tr, q4)) (e6 : rTake tmoB q4 = (false, q5)) (e7 : rTake aftB q5 = (true, q6)) (e8 : rNames q6 = (al, q7)) (hq : q6.1.length ≤ 100000) :
    Calls Tryz.prog 39 #[.pointer (some ⟨rb, 0, none⟩)] w fun e w' => NodePost w B rb (ndOf x0 (1, arg, ⟨#[]⟩, 0, tr) al, rEnd q7) e w' := by
  have hlow := R.low
  have htop := R.top
  have c1 := rname_any (w.alloc (.cells #[.string ⟨#[]⟩, .int .i64 0, .string ⟨#[]⟩, .string ⟨#[]⟩, .int .i64 0, .int .i64 0, .slice none 0 0] 35)) B rb r (R.kept (Kept.alloc (fun _ => False) _ _) (fun _ _ h => h))
  rw [e1] at c1
  have c2 := fun W (R : RdAt W B rb q0) => word_any W B rb q0 R
  rw [e2] at c2
  simp only [] at c1 c2
  have c3 := fun W (R : RdAt W B rb q1) => rname_any W B rb q1 R
  rw [e3] at c3
  simp only [] at c3
  have c4 := fun W (R : RdAt W B rb q2) => take_any W B rb q2 R triB
  rw [e4] at c4
  unfold triB at c4
  simp only [] at c4
  have c5 := fun W (R : RdAt W B rb q3) => rnum_any W B rb q3 R
  rw [e5] at c5
  simp only [] at c5
  have c6 := fun W (R : RdAt W B rb q4) => take_any W B rb q4 R tmoB
  rw [e6] at c6
  unfold tmoB at c6
  simp only [] at c6
  have c7 := fun W (R : RdAt W B rb q5) => take_any W B rb q5 R aftB
  rw [e7] at c7
  unfold aftB at c7
  simp only [] at c7
  have c8 := fun W (R : RdAt W B rb q6) => rnames_any W B rb q6 R hq
  rw [e8] at c8
  simp only [] at c8
  have cE := fun W (R : RdAt W B rb q7) => end_any W B rb q7 R
  generalize hqE : rEnd q7 = qE at *
  have sact : (wd.toList == [97, 99, 116, 105, 118, 105, 116, 121]) = true := by
    rw [str_lit]
    exact decide_eq_true kact
  have stim : (wd.toList == [116, 105, 109, 101, 114]) = false := by
    rw [str_lit]
    subst kact
    decide
  have schi : (wd.toList == [99, 104, 105, 108, 100]) = false := by
    rw [str_lit]
    subst kact
    decide
  have swai : (wd.toList == [119, 97, 105, 116]) = false := by
    rw [str_lit]
    subst kact
    decide
  have ssen : (wd.toList == [115, 101, 110, 100]) = false := by
    rw [str_lit]
    subst kact
    decide
  clear R kact
  go_enter Tryz.func39, Tryz.ntmps39
  go_wp2_with (first
    | (go_at_call 59; have _t := c1; refine c1.mono ?_; rintro e w1 ⟨rfl, R1, K1⟩; clear c1 _t; have HR1 : Hid _ := R1; clear R1; have hz1 := K1.size; rw [World.size_alloc] at hz1; have r1 : w1.heap[w.heap.size]? = some (.cells #[.string ⟨#[]⟩, .int .i64 0, .string ⟨#[]⟩, .string ⟨#[]⟩, .int .i64 0, .int .i64 0, .slice none 0 0] 35 (0, 0)) := nodeKept K1 (heap_alloc_new _ _) (by omega); have hne : ¬ w1.heap.size = w.heap.size := (by omega); have hne2 : ¬ rb = w1.heap.size := (by omega); have hne3 : ¬ rb = w.heap.size := (by omega); have L1 : Hid (Kept (fun j => j = rb ∨ w.heap.size ≤ j) w w1) := (Kept.alloc _ _ _).and (K1.mono (fun j h => .inl h)))
    | (go_at_call 61; refine (c2 _ (HR1.out.kept (Kept.alloc (fun _ => False) _ _) (fun _ _ h => h))).mono ?_; rintro e w2 ⟨rfl, R2, K2⟩; clear c2; have HR2 : Hid _ := R2; clear R2; have n2 : w2.heap[w1.heap.size]? = some (.cells #[.string x0, .int .i64 0, .string ⟨#[]⟩, .string ⟨#[]⟩, .int .i64 0, .int .i64 0, .slice none 0 0] 35 (0, 0)) := nodeKept K2 (heap_alloc_new _ _) (by omega); have r2 : w2.heap[w.heap.size]? = some (.cells #[.string ⟨#[]⟩, .int .i64 0, .string ⟨#[]⟩, .string ⟨#[]⟩, .int .i64 0, .int .i64 0, .slice none 0 0] 35 (0, 0)) := nodeKept K2 (by rw [Below.heap_alloc _ _ _ (by omega)]; exact r1) (by omega); have L2 : Hid (Kept (fun j => j = rb ∨ w.heap.size ≤ j) w w2) := (L1.out.and (Kept.alloc _ _ _)).and (K2.mono (fun j h => .inl h)); obtain ⟨⟨y0, y1, y2, y3, y4, y5, y6⟩, z0, z1, z2, z3, z4, z5, z6⟩ := seven n2)
    | (go_at_call 59; have _t := c3; refine (c3 _ (HR2.out.kept (S := fun j => j = w1.heap.size) (by repeat (first | exact Kept.refl _ _ | refine Kept.and ?_ (Kept.setCell (S := fun j => j = w1.heap.size) _ _ _ rfl))) (fun j hj => by omega))).mono ?_; rintro e w3 ⟨rfl, R3, K3⟩; clear c3 _t; have HR3 : Hid _ := R3; clear R3; have n3 : w3.heap[w1.heap.size]? = some (.cells #[.string x0, .int .i64 0, .string ⟨#[]⟩, .string ⟨#[]⟩, .int .i64 0, .int .i64 0, .slice none 0 0] 35 (0, 0)) := nodeKept K3 (by simp [World.setCell, Array.getElem?_modify, n2, hne2]) (by omega); have r3 : w3.heap[w.heap.size]? = some (.cells #[.string ⟨#[]⟩, .int .i64 0, .string ⟨#[]⟩, .string ⟨#[]⟩, .int .i64 0, .int .i64 0, .slice none 0 0] 35 (0, 0)) := nodeKept K3 (by simp [World.setCell, Array.getElem?_modify, r2, hne, hne3]) (by omega); have L3 : Hid (Kept (fun j => j = rb ∨ w.heap.size ≤ j) w w3) := (L2.out.and ((by repeat (first | exact Kept.refl _ _ | refine Kept.and ?_ (Kept.setCell (S := fun j => j = rb ∨ w.heap.size ≤ j) _ _ _ (.inr (by show w.heap.size ≤ w1.heap.size; omega))))))).and (K3.mono (fun j h => .inl h)); clear y0 y1 y2 y3 y4 y5 y6 z0 z1 z2 z3 z4 z5 z6; obtain ⟨⟨y0, y1, y2, y3, y4, y5, y6⟩, z0, z1, z2, z3, z4, z5, z6⟩ := seven n3)
    | (go_at_call 58; have _t := c4; refine (c4 _ (HR3.out.kept (S := fun j => j = w1.heap.size) (by repeat (first | exact Kept.refl _ _ | refine Kept.and ?_ (Kept.setCell (S := fun j => j = w1.heap.size) _ _ _ rfl))) (fun j hj => by omega))).mono ?_; rintro e w4 ⟨rfl, R4, K4⟩; clear c4 _t; have HR4 : Hid _ := R4; clear R4; have n4 : w4.heap[w1.heap.size]? = some (.cells #[.string x0, .int .i64 1, .string arg, .string ⟨#[]⟩, .int .i64 0, .int .i64 1, .slice none 0 0] 35 (0, 0)) := nodeKept K4 (by simp [World.setCell, Array.getElem?_modify, n3, hne2]) (by omega); have r4 : w4.heap[w.heap.size]? = some (.cells #[.string ⟨#[]⟩, .int .i64 0, .string ⟨#[]⟩, .string ⟨#[]⟩, .int .i64 0, .int .i64 0, .slice none 0 0] 35 (0, 0)) := nodeKept K4 (by simp [World.setCell, Array.getElem?_modify, r3, hne, hne3]) (by omega); have L4 : Hid (Kept (fun j => j = rb ∨ w.heap.size ≤ j) w w4) := (L3.out.and ((by repeat (first | exact Kept.refl _ _ | refine Kept.and ?_ (Kept.setCell (S := fun j => j = rb ∨ w.heap.size ≤ j) _ _ _ (.inr (by show w.heap.size ≤ w1.heap.size; omega))))))).and (K4.mono (fun j h => .inl h)); clear y0 y1 y2 y3 y4 y5 y6 z0 z1 z2 z3 z4 z5 z6; obtain ⟨⟨y0, y1, y2, y3, y4, y5, y6⟩, z0, z1, z2, z3, z4, z5, z6⟩ := seven n4)
    | (go_at_call 62; have _t := c5; refine (c5 _ (HR4.out.kept (S := fun j => j = w1.heap.size) (by repeat (first | exact Kept.refl _ _ | refine Kept.and ?_ (Kept.setCell (S := fun j => j = w1.heap.size) _ _ _ rfl))) (fun j hj => by omega))).mono ?_; rintro e w5 ⟨rfl, R5, K5⟩; clear c5 _t; have HR5 : Hid _ := R5; clear R5; have n5 : w5.heap[w1.heap.size]? = some (.cells #[.string x0, .int .i64 1, .string arg, .string ⟨#[]⟩, .int .i64 0, .int .i64 1, .slice none 0 0] 35 (0, 0)) := nodeKept K5 (by simp [World.setCell, Array.getElem?_modify, n4, hne2]) (by omega); have r5 : w5.heap[w.heap.size]? = some (.cells #[.string ⟨#[]⟩, .int .i64 0, .string ⟨#[]⟩, .string ⟨#[]⟩, .int .i64 0, .int .i64 0, .slice none 0 0] 35 (0, 0)) := nodeKept K5 (by simp [World.setCell, Array.getElem?_modify, r4, hne, hne3]) (by omega); have L5 : Hid (Kept (fun j => j = rb ∨ w.heap.size ≤ j) w w5) := (L4.out.and ((by repeat (first | exact Kept.refl _ _ | refine Kept.and ?_ (Kept.setCell (S := fun j => j = rb ∨ w.heap.size ≤ j) _ _ _ (.inr (by show w.heap.size ≤ w1.heap.size; omega))))))).and (K5.mono (fun j h => .inl h)); clear y0 y1 y2 y3 y4 y5 y6 z0 z1 z2 z3 z4 z5 z6; obtain ⟨⟨y0, y1, y2, y3, y4, y5, y6⟩, z0, z1, z2, z3, z4, z5, z6⟩ := seven n5)
    | (go_at_call 58; have _t := c6; refine (c6 _ (HR5.out.kept (S := fun j => j = w1.heap.size) (by repeat (first | exact Kept.refl _ _ | refine Kept.and ?_ (Kept.setCell (S := fun j => j = w1.heap.size) _ _ _ rfl))) (fun j hj => by omega))).mono ?_; rintro e w6 ⟨rfl, R6, K6⟩; clear c6 _t; have HR6 : Hid _ := R6; clear R6; have n6 : w6.heap[w1.heap.size]? = some (.cells #[.string x0, .int .i64 1, .string arg, .string ⟨#[]⟩, .int .i64 0, .int .i64 tr, .slice none 0 0] 35 (0, 0)) := nodeKept K6 (by simp [World.setCell, Array.getElem?_modify, n5, hne2]) (by omega); have r6 : w6.heap[w.heap.size]? = some (.cells #[.string ⟨#[]⟩, .int .i64 0, .string ⟨#[]⟩, .string ⟨#[]⟩, .int .i64 0, .int .i64 0, .slice none 0 0] 35 (0, 0)) := nodeKept K6 (by simp [World.setCell, Array.getElem?_modify, r5, hne, hne3]) (by omega); have L6 : Hid (Kept (fun j => j = rb ∨ w.heap.size ≤ j) w w6) := (L5.out.and ((by repeat (first | exact Kept.refl _ _ | refine Kept.and ?_ (Kept.setCell (S := fun j => j = rb ∨ w.heap.size ≤ j) _ _ _ (.inr (by show w.heap.size ≤ w1.heap.size; omega))))))).and (K6.mono (fun j h => .inl h)); clear y0 y1 y2 y3 y4 y5 y6 z0 z1 z2 z3 z4 z5 z6; obtain ⟨⟨y0, y1, y2, y3, y4, y5, y6⟩, z0, z1, z2, z3, z4, z5, z6⟩ := seven n6)
    | (go_at_call 58; have _t := c7; refine (c7 _ (HR6.out.kept (S := fun j => j = w1.heap.size) (by repeat (first | exact Kept.refl _ _ | refine Kept.and ?_ (Kept.setCell (S := fun j => j = w1.heap.size) _ _ _ rfl))) (fun j hj => by omega))).mono ?_; rintro e w7 ⟨rfl, R7, K7⟩; clear c7 _t; have HR7 : Hid _ := R7; clear R7; have n7 : w7.heap[w1.heap.size]? = some (.cells #[.string x0, .int .i64 1, .string arg, .string ⟨#[]⟩, .int .i64 0, .int .i64 tr, .slice none 0 0] 35 (0, 0)) := nodeKept K7 (by simp [World.setCell, Array.getElem?_modify, n6, hne2]) (by omega); have r7 : w7.heap[w.heap.size]? = some (.cells #[.string ⟨#[]⟩, .int .i64 0, .string ⟨#[]⟩, .string ⟨#[]⟩, .int .i64 0, .int .i64 0, .slice none 0 0] 35 (0, 0)) := nodeKept K7 (by simp [World.setCell, Array.getElem?_modify, r6, hne, hne3]) (by omega); have L7 : Hid (Kept (fun j => j = rb ∨ w.heap.size ≤ j) w w7) := (L6.out.and ((by repeat (first | exact Kept.refl _ _ | refine Kept.and ?_ (Kept.setCell (S := fun j => j = rb ∨ w.heap.size ≤ j) _ _ _ (.inr (by show w.heap.size ≤ w1.heap.size; omega))))))).and (K7.mono (fun j h => .inl h)); clear y0 y1 y2 y3 y4 y5 y6 z0 z1 z2 z3 z4 z5 z6; obtain ⟨⟨y0, y1, y2, y3, y4, y5, y6⟩, z0, z1, z2, z3, z4, z5, z6⟩ := seven n7)
    | (go_at_call 64; refine (c8 _ HR7.out).mono ?_; rintro e w8 ⟨aa, ca, rfl, O8, R8, K8⟩; clear c8; have HR8 : Hid _ := R8; have HO : Hid (w8.ownsRow w7.heap.size 9 1 (.slice aa al.length ca) al.length (strsV al)) := O8; clear R8 O8; have n8 : w8.heap[w1.heap.size]? = some (.cells #[.string x0, .int .i64 1, .string arg, .string ⟨#[]⟩, .int .i64 0, .int .i64 tr, .slice none 0 0] 35 (0, 0)) := nodeKept K8 n7 (by omega); have r8 : w8.heap[w.heap.size]? = some (.cells #[.string ⟨#[]⟩, .int .i64 0, .string ⟨#[]⟩, .string ⟨#[]⟩, .int .i64 0, .int .i64 0, .slice none 0 0] 35 (0, 0)) := nodeKept K8 r7 (by omega); have L8 : Hid (Kept (fun j => j = rb ∨ w.heap.size ≤ j) w w8) := L7.out.and (K8.mono (fun j h => .inl h)); have hz7 := (Array.getElem?_eq_some_iff.1 n7).1; clear y0 y1 y2 y3 y4 y5 y6 z0 z1 z2 z3 z4 z5 z6; obtain ⟨⟨y0, y1, y2, y3, y4, y5, y6⟩, z0, z1, z2, z3, z4, z5, z6⟩ := seven n8)
    | (go_at_call 60; refine (cE _ (HR8.out.kept (S := fun j => j = w1.heap.size) (by repeat (first | exact Kept.refl _ _ | refine Kept.and ?_ (Kept.setCell (S := fun j => j = w1.heap.size) _ _ _ rfl))) (fun j hj => by omega))).mono ?_; rintro e wE ⟨rfl, RE, KE⟩; clear cE; have HRE : Hid _ := RE; clear RE; have nE : wE.heap[w1.heap.size]? = some (.cells #[.string x0, .int .i64 1, .string arg, .string ⟨#[]⟩, .int .i64 0, .int .i64 tr, .slice aa al.length ca] 35 (0, 0)) := nodeKept KE (by simp [World.setCell, Array.getElem?_modify, n8, hne2]) (by omega); have rE : wE.heap[w.heap.size]? = some (.cells #[.string ⟨#[]⟩, .int .i64 0, .string ⟨#[]⟩, .string ⟨#[]⟩, .int .i64 0, .int .i64 0, .slice none 0 0] 35 (0, 0)) := nodeKept KE (by simp [World.setCell, Array.getElem?_modify, r8, hne, hne3]) (by omega); have LE : Hid (Kept (fun j => j = rb ∨ w.heap.size ≤ j) w wE) := (L8.out.and ((by repeat (first | exact Kept.refl _ _ | refine Kept.and ?_ (Kept.setCell (S := fun j => j = rb ∨ w.heap.size ≤ j) _ _ _ (.inr (by show w.heap.size ≤ w1.heap.size; omega))))))).and (KE.mono (fun j h => .inl h)); have HOE : Hid (wE.ownsRow w7.heap.size 9 1 (.slice aa al.length ca) al.length (strsV al)) := ownsRow_keep HO.out (fun g hg => (KE.block g (by have h := ownsRow_blk HO.out hg; simpa [World.setCell] using h) (by have h := (HO.out.lt g hg).1; omega)).trans (Below.heap_setCell _ _ _ _ (by have h := (HO.out.lt g hg).1; intro e'; have e2 : g = w1.heap.size := e'; omega))); clear y0 y1 y2 y3 y4 y5 y6 z0 z1 z2 z3 z4 z5 z6; obtain ⟨⟨y0, y1, y2, y3, y4, y5, y6⟩, z0, z1, z2, z3, z4, z5, z6⟩ := seven nE; obtain ⟨⟨a0, a1, a2, a3, a4, a5, a6⟩, b0, b1, b2, b3, b4, b5, b6⟩ := seven rE)
    | fail)
  generalize hV : (((((((wE.setCell ⟨w.heap.size, 0, none⟩ (.string x0)).setCell ⟨w.heap.size, 1, none⟩ (.int .i64 1)).setCell ⟨w.heap.size, 2, none⟩ (.string arg)).setCell ⟨w.heap.size, 3, none⟩ (.string ⟨#[]⟩)).setCell ⟨w.heap.size, 4, none⟩ (.int .i64 0)).setCell ⟨w.heap.size, 5, none⟩ (.int .i64 tr)).setCell ⟨w.heap.size, 6, none⟩ (.slice aa al.length ca)) = V
  obtain ⟨g, P⟩ := node_end (p := (ndOf x0 (1, arg, ⟨#[]⟩, 0, tr) al, qE)) (a := aa) (c := ca) rE (ownsRow_lowS HOE.out (by omega)) HRE.out htop LE.out hV.symm
  have g' : V.heap[w.heap.size]? = some (.cells #[.string x0, .int .i64 1, .string arg, .string ⟨#[]⟩, .int .i64 0, .int .i64 tr, .slice aa al.length ca] 35 (0, 0)) := g
  obtain ⟨⟨g0, g1, g2, g3, g4, g5, g6⟩, _⟩ := seven g'
  refine bodyPost_ret (by simp [results, Tryz.results39, go_sem, g0, g1, g2, g3, g4, g5, g6]; try rfl) rfl ?_
  exact P

set_option maxRecDepth 100000 in
set_option maxHeartbeats 1000000 in
theorem node_act111 (w : World) (B rb : Nat) (r : RS) (R : RdAt w B rb r) {x0 wd : ByteArray} {q0 q1 : RS} {arg : ByteArray} {q2 : RS} {q3 : RS} {tr : Int} {q4 : RS} {q5 : RS} {dl : Int} {q6 : RS} {q7 : RS} {al : List ByteArray} {q8 : RS} (e1 : rName r = (x0, q0)) (e2 : rWord q0 = (wd, q1)) (kact : wd = actB) (e3 : rName q1 = (arg, q2)) (e4 : rTake triB q2 = (true, q3)) (e5 : rNum q3 = (tr, q4)) (e6 : rTake tmoB q4 = (true, q5)) (e7 : rNum q5 = (dl, q6)) (e8 : rTake aftB q6 = (true, q7)) (e9 : rNames q7 = (al, q8)) (hq : q7.1.length ≤ 100000) :
    Calls Tryz.prog 39 #[.pointer (some ⟨rb, 0, none⟩)] w fun e w' => NodePost w B rb (ndOf x0 (1, arg, ⟨#[]⟩, dl, tr) al, rEnd q8) e w' := by
  have hlow := R.low
  have htop := R.top
  have c1 := rname_any (w.alloc (.cells #[.string ⟨#[]⟩, .int .i64 0, .string ⟨#[]⟩, .string ⟨#[]⟩, .int .i64 0, .int .i64 0, .slice none 0 0] 35)) B rb r (R.kept (Kept.alloc (fun _ => False) _ _) (fun _ _ h => h))
  rw [e1] at c1
  have c2 := fun W (R : RdAt W B rb q0) => word_any W B rb q0 R
  rw [e2] at c2
  simp only [] at c1 c2
  have c3 := fun W (R : RdAt W B rb q1) => rname_any W B rb q1 R
  rw [e3] at c3
  simp only [] at c3
  have c4 := fun W (R : RdAt W B rb q2) => take_any W B rb q2 R triB
  rw [e4] at c4
  unfold triB at c4
  simp only [] at c4
  have c5 := fun W (R : RdAt W B rb q3) => rnum_any W B rb q3 R
  rw [e5] at c5
  simp only [] at c5
  have c6 := fun W (R : RdAt W B rb q4) => take_any W B rb q4 R tmoB
  rw [e6] at c6
  unfold tmoB at c6
  simp only [] at c6
  have c7 := fun W (R : RdAt W B rb q5) => rnum_any W B rb q5 R
  rw [e7] at c7
  simp only [] at c7
  have c8 := fun W (R : RdAt W B rb q6) => take_any W B rb q6 R aftB
  rw [e8] at c8
  unfold aftB at c8
  simp only [] at c8
  have c9 := fun W (R : RdAt W B rb q7) => rnames_any W B rb q7 R hq
  rw [e9] at c9
  simp only [] at c9
  have cE := fun W (R : RdAt W B rb q8) => end_any W B rb q8 R
  generalize hqE : rEnd q8 = qE at *
  have sact : (wd.toList == [97, 99, 116, 105, 118, 105, 116, 121]) = true := by
    rw [str_lit]
    exact decide_eq_true kact
  have stim : (wd.toList == [116, 105, 109, 101, 114]) = false := by
    rw [str_lit]
    subst kact
    decide
  have schi : (wd.toList == [99, 104, 105, 108, 100]) = false := by
    rw [str_lit]
    subst kact
    decide
  have swai : (wd.toList == [119, 97, 105, 116]) = false := by
    rw [str_lit]
    subst kact
    decide
  have ssen : (wd.toList == [115, 101, 110, 100]) = false := by
    rw [str_lit]
    subst kact
    decide
  clear R kact
  go_enter Tryz.func39, Tryz.ntmps39
  go_wp2_with (first
    | (go_at_call 59; have _t := c1; refine c1.mono ?_; rintro e w1 ⟨rfl, R1, K1⟩; clear c1 _t; have HR1 : Hid _ := R1; clear R1; have hz1 := K1.size; rw [World.size_alloc] at hz1; have r1 : w1.heap[w.heap.size]? = some (.cells #[.string ⟨#[]⟩, .int .i64 0, .string ⟨#[]⟩, .string ⟨#[]⟩, .int .i64 0, .int .i64 0, .slice none 0 0] 35 (0, 0)) := nodeKept K1 (heap_alloc_new _ _) (by omega); have hne : ¬ w1.heap.size = w.heap.size := (by omega); have hne2 : ¬ rb = w1.heap.size := (by omega); have hne3 : ¬ rb = w.heap.size := (by omega); have L1 : Hid (Kept (fun j => j = rb ∨ w.heap.size ≤ j) w w1) := (Kept.alloc _ _ _).and (K1.mono (fun j h => .inl h)))
    | (go_at_call 61; refine (c2 _ (HR1.out.kept (Kept.alloc (fun _ => False) _ _) (fun _ _ h => h))).mono ?_; rintro e w2 ⟨rfl, R2, K2⟩; clear c2; have HR2 : Hid _ := R2; clear R2; have n2 : w2.heap[w1.heap.size]? = some (.cells #[.string x0, .int .i64 0, .string ⟨#[]⟩, .string ⟨#[]⟩, .int .i64 0, .int .i64 0, .slice none 0 0] 35 (0, 0)) := nodeKept K2 (heap_alloc_new _ _) (by omega); have r2 : w2.heap[w.heap.size]? = some (.cells #[.string ⟨#[]⟩, .int .i64 0, .string ⟨#[]⟩, .string ⟨#[]⟩, .int .i64 0, .int .i64 0, .slice none 0 0] 35 (0, 0)) := nodeKept K2 (by rw [Below.heap_alloc _ _ _ (by omega)]; exact r1) (by omega); have L2 : Hid (Kept (fun j => j = rb ∨ w.heap.size ≤ j) w w2) := (L1.out.and (Kept.alloc _ _ _)).and (K2.mono (fun j h => .inl h)); obtain ⟨⟨y0, y1, y2, y3, y4, y5, y6⟩, z0, z1, z2, z3, z4, z5, z6⟩ := seven n2)
    | (go_at_call 59; have _t := c3; refine (c3 _ (HR2.out.kept (S := fun j => j = w1.heap.size) (by repeat (first | exact Kept.refl _ _ | refine Kept.and ?_ (Kept.setCell (S := fun j => j = w1.heap.size) _ _ _ rfl))) (fun j hj => by omega))).mono ?_; rintro e w3 ⟨rfl, R3, K3⟩; clear c3 _t; have HR3 : Hid _ := R3; clear R3; have n3 : w3.heap[w1.heap.size]? = some (.cells #[.string x0, .int .i64 0, .string ⟨#[]⟩, .string ⟨#[]⟩, .int .i64 0, .int .i64 0, .slice none 0 0] 35 (0, 0)) := nodeKept K3 (by simp [World.setCell, Array.getElem?_modify, n2, hne2]) (by omega); have r3 : w3.heap[w.heap.size]? = some (.cells #[.string ⟨#[]⟩, .int .i64 0, .string ⟨#[]⟩, .string ⟨#[]⟩, .int .i64 0, .int .i64 0, .slice none 0 0] 35 (0, 0)) := nodeKept K3 (by simp [World.setCell, Array.getElem?_modify, r2, hne, hne3]) (by omega); have L3 : Hid (Kept (fun j => j = rb ∨ w.heap.size ≤ j) w w3) := (L2.out.and ((by repeat (first | exact Kept.refl _ _ | refine Kept.and ?_ (Kept.setCell (S := fun j => j = rb ∨ w.heap.size ≤ j) _ _ _ (.inr (by show w.heap.size ≤ w1.heap.size; omega))))))).and (K3.mono (fun j h => .inl h)); clear y0 y1 y2 y3 y4 y5 y6 z0 z1 z2 z3 z4 z5 z6; obtain ⟨⟨y0, y1, y2, y3, y4, y5, y6⟩, z0, z1, z2, z3, z4, z5, z6⟩ := seven n3)
    | (go_at_call 58; have _t := c4; refine (c4 _ (HR3.out.kept (S := fun j => j = w1.heap.size) (by repeat (first | exact Kept.refl _ _ | refine Kept.and ?_ (Kept.setCell (S := fun j => j = w1.heap.size) _ _ _ rfl))) (fun j hj => by omega))).mono ?_; rintro e w4 ⟨rfl, R4, K4⟩; clear c4 _t; have HR4 : Hid _ := R4; clear R4; have n4 : w4.heap[w1.heap.size]? = some (.cells #[.string x0, .int .i64 1, .string arg, .string ⟨#[]⟩, .int .i64 0, .int .i64 1, .slice none 0 0] 35 (0, 0)) := nodeKept K4 (by simp [World.setCell, Array.getElem?_modify, n3, hne2]) (by omega); have r4 : w4.heap[w.heap.size]? = some (.cells #[.string ⟨#[]⟩, .int .i64 0, .string ⟨#[]⟩, .string ⟨#[]⟩, .int .i64 0, .int .i64 0, .slice none 0 0] 35 (0, 0)) := nodeKept K4 (by simp [World.setCell, Array.getElem?_modify, r3, hne, hne3]) (by omega); have L4 : Hid (Kept (fun j => j = rb ∨ w.heap.size ≤ j) w w4) := (L3.out.and ((by repeat (first | exact Kept.refl _ _ | refine Kept.and ?_ (Kept.setCell (S := fun j => j = rb ∨ w.heap.size ≤ j) _ _ _ (.inr (by show w.heap.size ≤ w1.heap.size; omega))))))).and (K4.mono (fun j h => .inl h)); clear y0 y1 y2 y3 y4 y5 y6 z0 z1 z2 z3 z4 z5 z6; obtain ⟨⟨y0, y1, y2, y3, y4, y5, y6⟩, z0, z1, z2, z3, z4, z5, z6⟩ := seven n4)
    | (go_at_call 62; have _t := c5; refine (c5 _ (HR4.out.kept (S := fun j => j = w1.heap.size) (by repeat (first | exact Kept.refl _ _ | refine Kept.and ?_ (Kept.setCell (S := fun j => j = w1.heap.size) _ _ _ rfl))) (fun j hj => by omega))).mono ?_; rintro e w5 ⟨rfl, R5, K5⟩; clear c5 _t; have HR5 : Hid _ := R5; clear R5; have n5 : w5.heap[w1.heap.size]? = some (.cells #[.string x0, .int .i64 1, .string arg, .string ⟨#[]⟩, .int .i64 0, .int .i64 1, .slice none 0 0] 35 (0, 0)) := nodeKept K5 (by simp [World.setCell, Array.getElem?_modify, n4, hne2]) (by omega); have r5 : w5.heap[w.heap.size]? = some (.cells #[.string ⟨#[]⟩, .int .i64 0, .string ⟨#[]⟩, .string ⟨#[]⟩, .int .i64 0, .int .i64 0, .slice none 0 0] 35 (0, 0)) := nodeKept K5 (by simp [World.setCell, Array.getElem?_modify, r4, hne, hne3]) (by omega); have L5 : Hid (Kept (fun j => j = rb ∨ w.heap.size ≤ j) w w5) := (L4.out.and ((by repeat (first | exact Kept.refl _ _ | refine Kept.and ?_ (Kept.setCell (S := fun j => j = rb ∨ w.heap.size ≤ j) _ _ _ (.inr (by show w.heap.size ≤ w1.heap.size; omega))))))).and (K5.mono (fun j h => .inl h)); clear y0 y1 y2 y3 y4 y5 y6 z0 z1 z2 z3 z4 z5 z6; obtain ⟨⟨y0, y1, y2, y3, y4, y5, y6⟩, z0, z1, z2, z3, z4, z5, z6⟩ := seven n5)
    | (go_at_call 58; have _t := c6; refine (c6 _ (HR5.out.kept (S := fun j => j = w1.heap.size) (by repeat (first | exact Kept.refl _ _ | refine Kept.and ?_ (Kept.setCell (S := fun j => j = w1.heap.size) _ _ _ rfl))) (fun j hj => by omega))).mono ?_; rintro e w6 ⟨rfl, R6, K6⟩; clear c6 _t; have HR6 : Hid _ := R6; clear R6; have n6 : w6.heap[w1.heap.size]? = some (.cells #[.string x0, .int .i64 1, .string arg, .string ⟨#[]⟩, .int .i64 0, .int .i64 tr, .slice none 0 0] 35 (0, 0)) := nodeKept K6 (by simp [World.setCell, Array.getElem?_modify, n5, hne2]) (by omega); have r6 : w6.heap[w.heap.size]? = some (.cells #[.string ⟨#[]⟩, .int .i64 0, .string ⟨#[]⟩, .string ⟨#[]⟩, .int .i64 0, .int .i64 0, .slice none 0 0] 35 (0, 0)) := nodeKept K6 (by simp [World.setCell, Array.getElem?_modify, r5, hne, hne3]) (by omega); have L6 : Hid (Kept (fun j => j = rb ∨ w.heap.size ≤ j) w w6) := (L5.out.and ((by repeat (first | exact Kept.refl _ _ | refine Kept.and ?_ (Kept.setCell (S := fun j => j = rb ∨ w.heap.size ≤ j) _ _ _ (.inr (by show w.heap.size ≤ w1.heap.size; omega))))))).and (K6.mono (fun j h => .inl h)); clear y0 y1 y2 y3 y4 y5 y6 z0 z1 z2 z3 z4 z5 z6; obtain ⟨⟨y0, y1, y2, y3, y4, y5, y6⟩, z0, z1, z2, z3, z4, z5, z6⟩ := seven n6)
    | (go_at_call 62; have _t := c7; refine (c7 _ (HR6.out.kept (S := fun j => j = w1.heap.size) (by repeat (first | exact Kept.refl _ _ | refine Kept.and ?_ (Kept.setCell (S := fun j => j = w1.heap.size) _ _ _ rfl))) (fun j hj => by omega))).mono ?_; rintro e w7 ⟨rfl, R7, K7⟩; clear c7 _t; have HR7 : Hid _ := R7; clear R7; have n7 : w7.heap[w1.heap.size]? = some (.cells #[.string x0, .int .i64 1, .string arg, .string ⟨#[]⟩, .int .i64 0, .int .i64 tr, .slice none 0 0] 35 (0, 0)) := nodeKept K7 (by simp [World.setCell, Array.getElem?_modify, n6, hne2]) (by omega); have r7 : w7.heap[w.heap.size]? = some (.cells #[.string ⟨#[]⟩, .int .i64 0, .string ⟨#[]⟩, .string ⟨#[]⟩, .int .i64 0, .int .i64 0, .slice none 0 0] 35 (0, 0)) := nodeKept K7 (by simp [World.setCell, Array.getElem?_modify, r6, hne, hne3]) (by omega); have L7 : Hid (Kept (fun j => j = rb ∨ w.heap.size ≤ j) w w7) := (L6.out.and ((by repeat (first | exact Kept.refl _ _ | refine Kept.and ?_ (Kept.setCell (S := fun j => j = rb ∨ w.heap.size ≤ j) _ _ _ (.inr (by show w.heap.size ≤ w1.heap.size; omega))))))).and (K7.mono (fun j h => .inl h)); clear y0 y1 y2 y3 y4 y5 y6 z0 z1 z2 z3 z4 z5 z6; obtain ⟨⟨y0, y1, y2, y3, y4, y5, y6⟩, z0, z1, z2, z3, z4, z5, z6⟩ := seven n7)
    | (go_at_call 58; have _t := c8; refine (c8 _ (HR7.out.kept (S := fun j => j = w1.heap.size) (by repeat (first | exact Kept.refl _ _ | refine Kept.and ?_ (Kept.setCell (S := fun j => j = w1.heap.size) _ _ _ rfl))) (fun j hj => by omega))).mono ?_; rintro e w8 ⟨rfl, R8, K8⟩; clear c8 _t; have HR8 : Hid _ := R8; clear R8; have n8 : w8.heap[w1.heap.size]? = some (.cells #[.string x0, .int .i64 1, .string arg, .string ⟨#[]⟩, .int .i64 dl, .int .i64 tr, .slice none 0 0] 35 (0, 0)) := nodeKept K8 (by simp [World.setCell, Array.getElem?_modify, n7, hne2]) (by omega); have r8 : w8.heap[w.heap.size]? = some (.cells #[.string ⟨#[]⟩, .int .i64 0, .string ⟨#[]⟩, .string ⟨#[]⟩, .int .i64 0, .int .i64 0, .slice none 0 0] 35 (0, 0)) := nodeKept K8 (by simp [World.setCell, Array.getElem?_modify, r7, hne, hne3]) (by omega); have L8 : Hid (Kept (fun j => j = rb ∨ w.heap.size ≤ j) w w8) := (L7.out.and ((by repeat (first | exact Kept.refl _ _ | refine Kept.and ?_ (Kept.setCell (S := fun j => j = rb ∨ w.heap.size ≤ j) _ _ _ (.inr (by show w.heap.size ≤ w1.heap.size; omega))))))).and (K8.mono (fun j h => .inl h)); clear y0 y1 y2 y3 y4 y5 y6 z0 z1 z2 z3 z4 z5 z6; obtain ⟨⟨y0, y1, y2, y3, y4, y5, y6⟩, z0, z1, z2, z3, z4, z5, z6⟩ := seven n8)
    | (go_at_call 64; refine (c9 _ HR8.out).mono ?_; rintro e w9 ⟨aa, ca, rfl, O9, R9, K9⟩; clear c9; have HR9 : Hid _ := R9; have HO : Hid (w9.ownsRow w8.heap.size 9 1 (.slice aa al.length ca) al.length (strsV al)) := O9; clear R9 O9; have n9 : w9.heap[w1.heap.size]? = some (.cells #[.string x0, .int .i64 1, .string arg, .string ⟨#[]⟩, .int .i64 dl, .int .i64 tr, .slice none 0 0] 35 (0, 0)) := nodeKept K9 n8 (by omega); have r9 : w9.heap[w.heap.size]? = some (.cells #[.string ⟨#[]⟩, .int .i64 0, .string ⟨#[]⟩, .string ⟨#[]⟩, .int .i64 0, .int .i64 0, .slice none 0 0] 35 (0, 0)) := nodeKept K9 r8 (by omega); have L9 : Hid (Kept (fun j => j = rb ∨ w.heap.size ≤ j) w w9) := L8.out.and (K9.mono (fun j h => .inl h)); have hz8 := (Array.getElem?_eq_some_iff.1 n8).1; clear y0 y1 y2 y3 y4 y5 y6 z0 z1 z2 z3 z4 z5 z6; obtain ⟨⟨y0, y1, y2, y3, y4, y5, y6⟩, z0, z1, z2, z3, z4, z5, z6⟩ := seven n9)
    | (go_at_call 60; refine (cE _ (HR9.out.kept (S := fun j => j = w1.heap.size) (by repeat (first | exact Kept.refl _ _ | refine Kept.and ?_ (Kept.setCell (S := fun j => j = w1.heap.size) _ _ _ rfl))) (fun j hj => by omega))).mono ?_; rintro e wE ⟨rfl, RE, KE⟩; clear cE; have HRE : Hid _ := RE; clear RE; have nE : wE.heap[w1.heap.size]? = some (.cells #[.string x0, .int .i64 1, .string arg, .string ⟨#[]⟩, .int .i64 dl, .int .i64 tr, .slice aa al.length ca] 35 (0, 0)) := nodeKept KE (by simp [World.setCell, Array.getElem?_modify, n9, hne2]) (by omega); have rE : wE.heap[w.heap.size]? = some (.cells #[.string ⟨#[]⟩, .int .i64 0, .string ⟨#[]⟩, .string ⟨#[]⟩, .int .i64 0, .int .i64 0, .slice none 0 0] 35 (0, 0)) := nodeKept KE (by simp [World.setCell, Array.getElem?_modify, r9, hne, hne3]) (by omega); have LE : Hid (Kept (fun j => j = rb ∨ w.heap.size ≤ j) w wE) := (L9.out.and ((by repeat (first | exact Kept.refl _ _ | refine Kept.and ?_ (Kept.setCell (S := fun j => j = rb ∨ w.heap.size ≤ j) _ _ _ (.inr (by show w.heap.size ≤ w1.heap.size; omega))))))).and (KE.mono (fun j h => .inl h)); have HOE : Hid (wE.ownsRow w8.heap.size 9 1 (.slice aa al.length ca) al.length (strsV al)) := ownsRow_keep HO.out (fun g hg => (KE.block g (by have h := ownsRow_blk HO.out hg; simpa [World.setCell] using h) (by have h := (HO.out.lt g hg).1; omega)).trans (Below.heap_setCell _ _ _ _ (by have h := (HO.out.lt g hg).1; intro e'; have e2 : g = w1.heap.size := e'; omega))); clear y0 y1 y2 y3 y4 y5 y6 z0 z1 z2 z3 z4 z5 z6; obtain ⟨⟨y0, y1, y2, y3, y4, y5, y6⟩, z0, z1, z2, z3, z4, z5, z6⟩ := seven nE; obtain ⟨⟨a0, a1, a2, a3, a4, a5, a6⟩, b0, b1, b2, b3, b4, b5, b6⟩ := seven rE)
    | fail)
  generalize hV : (((((((wE.setCell ⟨w.heap.size, 0, none⟩ (.string x0)).setCell ⟨w.heap.size, 1, none⟩ (.int .i64 1)).setCell ⟨w.heap.size, 2, none⟩ (.string arg)).setCell ⟨w.heap.size, 3, none⟩ (.string ⟨#[]⟩)).setCell ⟨w.heap.size, 4, none⟩ (.int .i64 dl)).setCell ⟨w.heap.size, 5, none⟩ (.int .i64 tr)).setCell ⟨w.heap.size, 6, none⟩ (.slice aa al.length ca)) = V
  obtain ⟨g, P⟩ := node_end (p := (ndOf x0 (1, arg, ⟨#[]⟩, dl, tr) al, qE)) (a := aa) (c := ca) rE (ownsRow_lowS HOE.out (by omega)) HRE.out htop LE.out hV.symm
  have g' : V.heap[w.heap.size]? = some (.cells #[.string x0, .int .i64 1, .string arg, .string ⟨#[]⟩, .int .i64 dl, .int .i64 tr, .slice aa al.length ca] 35 (0, 0)) := g
  obtain ⟨⟨g0, g1, g2, g3, g4, g5, g6⟩, _⟩ := seven g'
  refine bodyPost_ret (by simp [results, Tryz.results39, go_sem, g0, g1, g2, g3, g4, g5, g6]; try rfl) rfl ?_
  exact P

end Go.Proofs.YtlholgpenpfpbaaGreatDoor

/-
  The reader: a node's line, all paths together.
-/
namespace Go.Proofs.YtlholgpenpfpbaaGreatDoor
open Go.RowKit

theorem pair {α β : Type} (p : α × β) : p = (p.1, p.2) := rfl

theorem take_true {s : ByteArray} {r : RS} (h : (rTake s r).1 = true) : rTake s r = (true, (rTake s r).2) := by rw [← h]
theorem take_false {s : ByteArray} {r : RS} (h : (rTake s r).1 = false) : rTake s r = (false, (rTake s r).2) := by rw [← h]

theorem rTail_no {r : RS} (h : (rTake aftB r).1 = false) : rTail r = ([], rEnd (rTake aftB r).2) := by
  unfold rTail; rw [h]; rfl
theorem rTail_yes {r : RS} (h : (rTake aftB r).1 = true) : rTail r = ((rNames (rTake aftB r).2).1, rEnd (rNames (rTake aftB r).2).2) := by
  unfold rTail; rw [h]; rfl

theorem node_any (w : World) (B rb : Nat) (r : RS) (R : RdAt w B rb r) (hlen : r.1.length ≤ 100000) :
    Calls Tryz.prog 39 #[.pointer (some ⟨rb, 0, none⟩)] w fun e w' => NodePost w B rb (rNode r) e w' := by
  have l0 := rName_len r
  have l1 := rWord_len (rName r).2
  unfold rNode
  generalize hx0 : (rName r).1 = x0
  generalize hq0 : (rName r).2 = q0 at *
  generalize hwd : (rWord q0).1 = wd
  generalize hq1 : (rWord q0).2 = q1 at *
  have e1 : rName r = (x0, q0) := by rw [pair (rName r), hx0, hq0]
  have e2 : rWord q0 = (wd, q1) := by rw [pair (rWord q0), hwd, hq1]
  have tail : ∀ (k : Int × ByteArray × ByteArray × Int × Int) (q : RS), q.1.length ≤ 100000 → rKind wd q1 = (k, q) →
      ((rTake aftB q).1 = false → Calls Tryz.prog 39 #[.pointer (some ⟨rb, 0, none⟩)] w fun e w' => NodePost w B rb (ndOf x0 k [], rEnd (rTake aftB q).2) e w') →
      ((rTake aftB q).1 = true → (rTake aftB q).2.1.length ≤ 100000 → Calls Tryz.prog 39 #[.pointer (some ⟨rb, 0, none⟩)] w fun e w' => NodePost w B rb (ndOf x0 k (rNames (rTake aftB q).2).1, rEnd (rNames (rTake aftB q).2).2) e w') →
      Calls Tryz.prog 39 #[.pointer (some ⟨rb, 0, none⟩)] w fun e w' => NodePost w B rb (ndOf x0 (rKind wd q1).1 (rTail (rKind wd q1).2).1, (rTail (rKind wd q1).2).2) e w' := by
    intro k q hq hk h1 h2
    rw [hk]
    cases ht : (rTake aftB q).1 with
    | false => rw [rTail_no ht]; exact h1 ht
    | true => rw [rTail_yes ht]; exact h2 ht (Nat.le_trans (rTake_len _ _) hq)
  have hq1l : q1.1.length ≤ 100000 := by omega
  by_cases ka : wd = actB
  · have hn := rName_len q1
    have ht := rTake_len triB (rName q1).2
    cases t1 : (rTake triB (rName q1).2).1 with
    | false =>
      have hu := rTake_len tmoB (rTake triB (rName q1).2).2
      cases t2 : (rTake tmoB (rTake triB (rName q1).2).2).1 with
      | false =>
        exact tail (1, (rName q1).1, ⟨#[]⟩, 0, 1) (rTake tmoB (rTake triB (rName q1).2).2).2 (by omega) (by unfold rKind; rw [if_pos ka]; simp only [t1, t2, Bool.false_eq_true, if_false]) (fun h => node_act000 w B rb r R e1 e2 ka rfl (take_false t1) (take_false t2) (take_false h)) (fun h hq => node_act001 w B rb r R e1 e2 ka rfl (take_false t1) (take_false t2) (take_true h) rfl hq)
      | true =>
        have hv := rNum_len (rTake tmoB (rTake triB (rName q1).2).2).2
        exact tail (1, (rName q1).1, ⟨#[]⟩, (rNum (rTake tmoB (rTake triB (rName q1).2).2).2).1, 1) (rNum (rTake tmoB (rTake triB (rName q1).2).2).2).2 (by omega) (by unfold rKind; rw [if_pos ka]; simp only [t1, t2, Bool.false_eq_true, if_false, if_true]) (fun h => node_act010 w B rb r R e1 e2 ka rfl (take_false t1) (take_true t2) rfl (take_false h)) (fun h hq => node_act011 w B rb r R e1 e2 ka rfl (take_false t1) (take_true t2) rfl (take_true h) rfl hq)
    | true =>
      have hm := rNum_len (rTake triB (rName q1).2).2
      have hu := rTake_len tmoB (rNum (rTake triB (rName q1).2).2).2
      cases t2 : (rTake tmoB (rNum (rTake triB (rName q1).2).2).2).1 with
      | false =>
        exact tail (1, (rName q1).1, ⟨#[]⟩, 0, (rNum (rTake triB (rName q1).2).2).1) (rTake tmoB (rNum (rTake triB (rName q1).2).2).2).2 (by omega) (by unfold rKind; rw [if_pos ka]; simp only [t1, t2, Bool.false_eq_true, if_false, if_true]) (fun h => node_act100 w B rb r R e1 e2 ka rfl (take_true t1) rfl (take_false t2) (take_false h)) (fun h hq => node_act101 w B rb r R e1 e2 ka rfl (take_true t1) rfl (take_false t2) (take_true h) rfl hq)
      | true =>
        have hv := rNum_len (rTake tmoB (rNum (rTake triB (rName q1).2).2).2).2
        exact tail (1, (rName q1).1, ⟨#[]⟩, (rNum (rTake tmoB (rNum (rTake triB (rName q1).2).2).2).2).1, (rNum (rTake triB (rName q1).2).2).1) (rNum (rTake tmoB (rNum (rTake triB (rName q1).2).2).2).2).2 (by omega) (by unfold rKind; rw [if_pos ka]; simp only [t1, t2, if_true]) (fun h => node_act110 w B rb r R e1 e2 ka rfl (take_true t1) rfl (take_true t2) rfl (take_false h)) (fun h hq => node_act111 w B rb r R e1 e2 ka rfl (take_true t1) rfl (take_true t2) rfl (take_true h) rfl hq)
  · by_cases kt : wd = timB
    · have hn := rNum_len q1
      exact tail (2, ⟨#[]⟩, ⟨#[]⟩, (rNum q1).1, 0) (rNum q1).2 (by omega) (by unfold rKind; rw [if_neg ka, if_pos kt]) (fun h => node_tim0 w B rb r R e1 e2 kt rfl (take_false h)) (fun h hq => node_tim1 w B rb r R e1 e2 kt rfl (take_true h) rfl hq)
    · by_cases kc : wd = chiB
      · have hn := rName_len q1
        exact tail (3, (rName q1).1, ⟨#[]⟩, 0, 0) (rName q1).2 (by omega) (by unfold rKind; rw [if_neg ka, if_neg kt, if_pos kc]) (fun h => node_chi0 w B rb r R e1 e2 kc rfl (take_false h)) (fun h hq => node_chi1 w B rb r R e1 e2 kc rfl (take_true h) rfl hq)
      · by_cases kw : wd = waiB
        · have hn := rName_len q1
          exact tail (4, (rName q1).1, ⟨#[]⟩, 0, 0) (rName q1).2 (by omega) (by unfold rKind; rw [if_neg ka, if_neg kt, if_neg kc, if_pos kw]) (fun h => node_wai0 w B rb r R e1 e2 kw rfl (take_false h)) (fun h hq => node_wai1 w B rb r R e1 e2 kw rfl (take_true h) rfl hq)
        · by_cases ks : wd = senB
          · have hn := rFlow_len q1
            have hm := rName_len (rFlow q1).2
            exact tail (5, (rName (rFlow q1).2).1, (rFlow q1).1, 0, 0) (rName (rFlow q1).2).2 (by omega) (by unfold rKind; rw [if_neg ka, if_neg kt, if_neg kc, if_neg kw, if_pos ks]) (fun h => node_sen0 w B rb r R e1 e2 ks rfl rfl (take_false h)) (fun h hq => node_sen1 w B rb r R e1 e2 ks rfl rfl (take_true h) rfl hq)
          · exact tail (0, ⟨#[]⟩, ⟨#[]⟩, 0, 0) (q1.1, true) (by simpa using hq1l) (by unfold rKind; rw [if_neg ka, if_neg kt, if_neg kc, if_neg kw, if_neg ks]) (fun h => node_bad0 w B rb r R e1 e2 ka kt kc kw ks (take_false h)) (fun h hq => node_bad1 w B rb r R e1 e2 ka kt kc kw ks (take_true h) rfl hq)

end Go.Proofs.YtlholgpenpfpbaaGreatDoor

/-
  Lines and words: strings.Cut at a line end, wordsOf.
-/
namespace Go.Proofs.YtlholgpenpfpbaaGreatDoor
open Go.RowKit Go.Shelf

/-- The index of the first line end. -/
def nlAt (s : ByteArray) : Int := Lib.indexByte s.data.toList 10
def cutA (s : ByteArray) : ByteArray := if 0 ≤ nlAt s then s.extract 0 (nlAt s).toNat else s
def cutB (s : ByteArray) : ByteArray := if 0 ≤ nlAt s then s.extract ((nlAt s).toNat + 1) s.size else ⟨#[]⟩

theorem indexByte_lt (l : List UInt8) (c : UInt8) : Lib.indexByte l c < l.length := by
  induction l with
  | nil => simp [Lib.indexByte]
  | cons b r ih =>
    unfold Lib.indexByte
    simp only [List.length_cons]
    split
    · omega
    · split <;> omega

set_option maxRecDepth 100000 in
set_option maxHeartbeats 1000000 in
theorem sCut_any (w : World) (s : ByteArray) (hs : s.size ≤ 1000000) :
    Calls Tryz.prog 54 #[.string s, .string ⟨#[10]⟩] w fun e w' => e = .returned (.tuple #[.string (cutA s), .string (cutB s), .bool (decide (0 ≤ nlAt s))]) ∧ Kept (fun _ => False) w w' := by
  have h := Any.stringslite_Index_one Tryz.indexL s 10 w
  change Calls Tryz.prog 70 _ _ (fun e w' => e = .returned (.int .i64 (nlAt s)) ∧ _) at h
  have hlt : nlAt s < (s.size : Int) := by have := indexByte_lt s.data.toList 10; simpa [nlAt] using this
  have hge : -1 ≤ nlAt s := Lib.indexByte_ge _ _
  unfold cutA cutB
  generalize nlAt s = z at *
  by_cases hz : 0 ≤ z
  · simp only [hz, if_true, decide_true]
    obtain ⟨k, rfl⟩ : ∃ k : Nat, z = (k : Int) := ⟨z.toNat, by omega⟩
    have e1 : (k : Int) + 1 ≤ (s.size : Int) := by omega
    have e2 : (0 : Int) ≤ (k : Int) + 1 := by omega
    go_enter Tryz.func54, Tryz.ntmps54
    go_wp2_with (first
      | (go_at_call 70; refine h.mono ?_; rintro e w1 ⟨rfl, rfl⟩; clear h)
      | go_quiet (fail)
      | fail)
    go_ret3
    exact ⟨rfl, Kept.drewN _ _ _⟩
  · simp only [hz, if_false, decide_false]
    go_enter Tryz.func54, Tryz.ntmps54
    go_wp2_with (first
      | (go_at_call 70; refine h.mono ?_; rintro e w1 ⟨rfl, rfl⟩; clear h)
      | fail)
    go_ret3
    exact ⟨rfl, Kept.refl _ _⟩

set_option maxRecDepth 100000 in
set_option maxHeartbeats 1000000 in
theorem cut_any (w : World) (s : ByteArray) (hs : s.size ≤ 1000000) :
    Calls Tryz.prog 35 #[.string s, .string ⟨#[10]⟩] w fun e w' => e = .returned (.tuple #[.string (cutA s), .string (cutB s), .bool (decide (0 ≤ nlAt s))]) ∧ Kept (fun _ => False) w w' := by
  have h := sCut_any w s hs
  generalize cutA s = a at *
  generalize cutB s = b at *
  generalize decide (0 ≤ nlAt s) = d at *
  go_enter Tryz.func35, Tryz.ntmps35
  go_wp2_with (first
    | (go_at_call 54; refine h.mono ?_; rintro e w1 ⟨rfl, K1⟩; clear h)
    | fail)
  go_ret3
  exact ⟨rfl, K1⟩

/-- The words of a line. -/
def wordsP (s : ByteArray) : List ByteArray := Lib.goFieldsP (fun r => r == 32) s

set_option maxRecDepth 100000 in
set_option maxHeartbeats 1000000 in
theorem blank_any (w : World) (r : Nat) : Calls Tryz.prog 56 #[.int .i32 (r : Int)] w fun e w' => e = .returned (.bool (r == 32)) ∧ w' = w := by
  have hq : ((r : Int) == 32) = (r == 32) := by
    rw [Bool.eq_iff_iff, beq_iff_eq, beq_iff_eq]; omega
  generalize (r == 32) = b at *
  go_enter Tryz.func56, Tryz.ntmps56
  go_wp2
  go_ret
  exact ⟨rfl, rfl⟩

set_option maxRecDepth 100000 in
set_option maxHeartbeats 1000000 in
theorem wordsOf_any (w : World) (s : ByteArray) (hs : s.size ≤ 1000000) :
    Calls Tryz.prog 36 #[.string s] w fun e w' => ∃ A, e = .returned (.slice (some ⟨A, 0, none⟩) (wordsP s).length (wordsP s).length) ∧ w.heap.size ≤ A ∧ w'.ownsRow w.heap.size 9 1 (.slice (some ⟨A, 0, none⟩) (wordsP s).length (wordsP s).length) (wordsP s).length (strsV (wordsP s)) ∧ Kept (fun _ => False) w w' := by
  have h := Any.strings_FieldsFunc_runes Tryz.fieldsL 56 #[] (enters_of Tryz.func56 (by kernel_rfl) rfl) (fun r => r == 32) s w (by omega) (fun W x _ _ => (blank_any W x).mono fun e W2 h => ⟨h.1, 0, h.2⟩) (by kernel_rfl) (by kernel_rfl)
  change Calls Tryz.prog 55 _ _ (fun e w' => ∃ A, e = .returned (.slice (some ⟨A, 0, none⟩) (wordsP s).length (wordsP s).length) ∧ w.heap.size ≤ A ∧ w'.ownsRow w.heap.size 9 1 (.slice (some ⟨A, 0, none⟩) (wordsP s).length (wordsP s).length) (wordsP s).length (strsV (wordsP s)) ∧ Below w.heap.size w w') at h
  generalize wordsP s = l at *
  go_enter Tryz.func36, Tryz.ntmps36
  go_wp2_with (first
    | (go_at_call 55; refine h.mono ?_; rintro e w1 ⟨A, rfl, hA, O, K1⟩; clear h)
    | fail)
  go_ret
  exact ⟨A, rfl, hA, O, ⟨K1.os, K1.tape, K1.output, K1.size, fun k hk _ => K1.block k hk⟩⟩

end Go.Proofs.YtlholgpenpfpbaaGreatDoor

/-
  readLines: the nodes of a text, as they are gathered.
-/
namespace Go.Proofs.YtlholgpenpfpbaaGreatDoor
open Go.RowKit

theorem Tryz.info35 : (Tryz.prog.info? 35).map (fun i => (i.zero, i.size, i.bytes)) = some (some (.agg #[.string ⟨#[]⟩, .int .i64 0, .string ⟨#[]⟩, .string ⟨#[]⟩, .int .i64 0, .int .i64 0, .slice none 0 0]), 7, 96) := by kernel_rfl

/-- The cells of nodes, their After given as values. -/
def flatN : List Nd → List Value → List Value
  | n :: ns, v :: vs => ndC n v ++ flatN ns vs
  | _, _ => []

theorem flatN_append : ∀ (ns : List Nd) (vs : List Value) (n : Nd) (v : Value), ns.length = vs.length → flatN (ns ++ [n]) (vs ++ [v]) = flatN ns vs ++ ndC n v
  | [], [], n, v, _ => by simp [flatN]
  | n' :: ns, v' :: vs, n, v, h => by
    have := flatN_append ns vs n v (by simpa using h)
    simp only [List.cons_append, flatN, this, List.append_assoc]
  | [], _ :: _, _, _, h => by simp at h
  | _ :: _, [], _, _, h => by simp at h

theorem flatN_at : ∀ (ns : List Nd) (vs : List Value) (i : Nat) (hi : i < ns.length) (hj : i < vs.length) (j : Nat) (u : Value), (ndC ns[i] vs[i])[j]? = some u → (flatN ns vs)[i * 7 + j]? = some u
  | n :: ns, v :: vs, 0, _, _, j, u, h => by
    have hl : j < (ndC n v).length := (List.getElem?_eq_some_iff.1 h).1
    show (ndC n v ++ flatN ns vs)[0 * 7 + j]? = some u
    rw [Nat.zero_mul, Nat.zero_add, List.getElem?_append_left hl]
    exact h
  | n :: ns, v :: vs, i + 1, hi, hj, j, u, h => by
    show (ndC n v ++ flatN ns vs)[(i + 1) * 7 + j]? = some u
    have e : (ndC n v).length = 7 := rfl
    rw [List.getElem?_append_right (by rw [e]; omega), e, show (i + 1) * 7 + j - 7 = i * 7 + j by omega]
    exact flatN_at ns vs i (by simpa using hi) (by simpa using hj) j u h
  | [], _, i, hi, _, _, _, _ => by simp at hi
  | _ :: _, [], i, _, hj, _, _, _ => by simp at hj

/-- A row of nodes that was made: its own block, and a block for each After. -/
def NodesRow (w : World) (base : Nat) (v : Value) (ns : List Nd) : Prop :=
  ∃ vs : List Value, ns.length = vs.length ∧ w.ownsRow base 35 7 v ns.length (flatN ns vs) ∧ ∀ i (h : i < ns.length) (h2 : i < vs.length), ∃ a c, vs[i] = .slice a (ns[i]).after.length c ∧ w.ownsRow base 9 1 (vs[i]) (ns[i]).after.length (strsV (ns[i]).after)

theorem typ_ne {w : World} {B B' n n' : Nat} {v v' : Value} {xs xs' : List Value} {T T' s s' : Nat} (h : w.ownsRow B T s v n xs) (h' : w.ownsRow B' T' s' v' n' xs') (hT : T ≠ T') {g : Nat} (hg : v.ownBlock = some g) : v'.ownBlock ≠ some g := by
  intro hg'
  rcases h.2 with ⟨rfl, _⟩ | ⟨g1, _, cur, rfl, _, hh, _⟩
  · cases hg
  · rcases h'.2 with ⟨rfl, _⟩ | ⟨g2, _, cur2, rfl, _, hh2, _⟩
    · cases hg'
    · have e1 := Option.some.inj hg
      have e2 := Option.some.inj hg'
      simp only [] at e1 e2
      subst e1
      subst e2
      rw [hh] at hh2
      injection hh2 with h3
      injection h3 with _ h4
      exact hT h4

theorem NodesRow.kept {S : Nat → Prop} {w w' : World} {base : Nat} {v : Value} {ns : List Nd} (N : NodesRow w base v ns) (K : Kept S w w') (hS : ∀ k, base ≤ k → k < w.heap.size → ¬ S k) : NodesRow w' base v ns := by
  obtain ⟨vs, h1, h2, h3⟩ := N
  refine ⟨vs, h1, ownsRow_keep h2 (fun g hg => K.block g (ownsRow_blk h2 hg) (hS g (h2.lt g hg).1 (h2.lt g hg).2)), fun i hi hj => ?_⟩
  obtain ⟨a, c, e, o⟩ := h3 i hi hj
  exact ⟨a, c, e, ownsRow_keep o (fun g hg => K.block g (ownsRow_blk o hg) (hS g (o.lt g hg).1 (o.lt g hg).2))⟩

/-- Made nodes are nodes that can be read. -/
theorem NodesRow.at {w : World} {base : Nat} {a : Option Addr} {c : Nat} {ns : List Nd} (N : NodesRow w base (.slice a ns.length c) ns) (hok : ∀ n ∈ ns, NdOk n ∧ ∀ s ∈ n.after, s.size ≤ maxLen) : NodesAt w a ns := by
  obtain ⟨vs, h1, h2, h3⟩ := N
  refine ⟨fun n hn => (hok n hn).1, ?_⟩
  rcases h2.2 with ⟨e, h0⟩ | ⟨g, cap, cur, e, _⟩
  · exact .inl (List.eq_nil_of_length_eq_zero h0)
  · simp only [Value.slice.injEq] at e
    obtain ⟨rfl, _, rfl⟩ := e
    refine .inr ⟨g, 0, rfl, fun i hi => ⟨vs[i], ?_, fun j u hu => ?_⟩⟩
    · obtain ⟨a', c', e, o⟩ := h3 i hi (by omega)
      rw [e] at o ⊢
      exact texts_of_row o (hok _ (List.getElem_mem hi)).2
    · have := h2.cells (g := g) rfl (i * 7 + j) u (flatN_at ns vs i hi (by omega) j u hu)
      rw [Addr.add_lit] at this
      rw [show 0 + i * 7 + j = 0 + (i * 7 + j) by omega]
      exact this

/-- One node more. -/
theorem NodesRow.push {w2 w3 : World} {base : Nat} {v v3 : Value} {ns : List Nd} {vs : List Value} {nd : Nd} {aa : Option Addr} {ca : Nat} {o : Obj} (h1 : ns.length = vs.length)
    (h2 : w2.ownsRow base 35 7 v ns.length (flatN ns vs)) (h3 : ∀ i (h : i < ns.length) (h2 : i < vs.length), ∃ a c, vs[i] = .slice a (ns[i]).after.length c ∧ w2.ownsRow base 9 1 (vs[i]) (ns[i]).after.length (strsV (ns[i]).after))
    (ha : w2.ownsRow base 9 1 (.slice aa nd.after.length ca) nd.after.length (strsV nd.after)) (ho : w3.ownsRow base 35 7 v3 (ns.length + 1) (flatN ns vs ++ ndC nd (.slice aa nd.after.length ca))) (hg : (w2.alloc o).grownBy w3 v.ownBlock) :
    NodesRow w3 base v3 (ns ++ [nd]) := by
  have keep : ∀ {x : Value} {m : Nat} {xs : List Value}, w2.ownsRow base 9 1 x m xs → w3.ownsRow base 9 1 x m xs := fun {x m xs} h => by
    refine ownsRow_keep h (fun g hg' => ?_)
    have hlt := ownsRow_blk h hg'
    rw [hg.block g (by simp; omega) (fun e => typ_ne h h2 (by decide) hg' e.symm)]
    exact Below.heap_alloc _ _ _ hlt
  refine ⟨vs ++ [.slice aa nd.after.length ca], by simp [h1], ?_, fun i hi hj => ?_⟩
  · rw [flatN_append _ _ _ _ h1, List.length_append, List.length_singleton]
    exact ho
  · by_cases e : i < ns.length
    · obtain ⟨a, c, e1, o1⟩ := h3 i e (by omega)
      refine ⟨a, c, ?_, ?_⟩
      · rw [List.getElem_append_left (by omega), List.getElem_append_left e]; exact e1
      · rw [List.getElem_append_left (by omega), List.getElem_append_left e]; exact keep o1
    · have hi2 : i = ns.length := by simp at hi; omega
      subst hi2
      refine ⟨aa, ca, ?_, ?_⟩
      · rw [List.getElem_append_right (by omega), List.getElem_append_right (by omega)]; simp [h1]
      · rw [List.getElem_append_right (by omega), List.getElem_append_right (by omega)]; simp only [h1, Nat.sub_self, List.getElem_singleton]; exact keep ha

end Go.Proofs.YtlholgpenpfpbaaGreatDoor

/-
  readLines: what a text's lines are read as.
-/
namespace Go.Proofs.YtlholgpenpfpbaaGreatDoor
open Go.RowKit

/-- What readLines answers: name, nodes, lines of the nodes; or none, and the line that is in no form. -/
def rlK : Nat → ByteArray → Nat → Bool → ByteArray → List Nd → List Nat → Option (ByteArray × List Nd × List Nat) × Nat
  | 0, _, line, _, _, _, _ => (none, line)
  | f + 1, t, line, b, nm, ns, ls =>
    if t.size = 0 then (if b then (some (nm, ns, ls), 0) else (none, line))
    else if rSilent (wordsP (cutA t), false) then rlK f (cutB t) (line + 1) b nm ns ls
    else if b = false then
      (if (rHead (wordsP (cutA t), false)).2.2 then (none, line) else rlK f (cutB t) (line + 1) true (rHead (wordsP (cutA t), false)).1 ns ls)
    else
      (if (rNode (wordsP (cutA t), false)).2.2 then (none, line) else rlK f (cutB t) (line + 1) true nm (ns ++ [(rNode (wordsP (cutA t), false)).1]) (ls ++ [line]))

def rlP (t : ByteArray) : Option (ByteArray × List Nd × List Nat) × Nat := rlK (t.size + 1) t 1 false ⟨#[]⟩ [] []

theorem cutB_size {t : ByteArray} (h : 0 < t.size) : (cutB t).size < t.size := by
  unfold cutB
  split
  · rw [ByteArray.size_extract]; omega
  · exact h

theorem cutA_size (t : ByteArray) : (cutA t).size ≤ t.size := by
  unfold cutA
  split
  · rw [ByteArray.size_extract]; omega
  · exact Nat.le_refl _

def strLen : Value → Nat
  | .string s => s.size
  | _ => 0

theorem spans_ok (p : Nat → Bool) (s : ByteArray) : ∀ (f pos : Nat) (st : Option Nat) (acc : List (Nat × Nat)), (∀ x ∈ acc, x.1 < x.2 ∧ x.2 ≤ s.size) → acc.length + (if st.isSome then 1 else 0) ≤ pos → acc.length + (if st.isSome then 1 else 0) ≤ s.size → (∀ a, st = some a → a < pos ∧ a < s.size) →
    (∀ x ∈ (Lib.spansFromP p s f pos st acc).1, x.1 < x.2 ∧ x.2 ≤ s.size) ∧ (Lib.spansFromP p s f pos st acc).1.length + (if (Lib.spansFromP p s f pos st acc).2.isSome then 1 else 0) ≤ s.size ∧ (∀ a, (Lib.spansFromP p s f pos st acc).2 = some a → a < s.size)
  | 0, pos, st, acc, h1, h2, h3, h4 => ⟨h1, h3, fun a h => (h4 a h).2⟩
  | f + 1, pos, st, acc, h1, h2, h3, h4 => by
    unfold Lib.spansFromP
    have hw := Lib.width_pos s pos
    split
    · rename_i hp
      split
      · cases st with
        | some a =>
          have ha := h4 a rfl
          refine spans_ok p s f _ none (acc ++ [(a, pos)]) (fun x hx => ?_) (by simp at h2 ⊢; omega) (by simp at h3 ⊢; omega) (fun a h => by cases h)
          rcases List.mem_append.1 hx with h | h
          · exact h1 x h
          · simp at h; subst h; exact ⟨ha.1, by show pos ≤ _; omega⟩
        | none => exact spans_ok p s f _ none acc h1 (by simp at h2 ⊢; omega) h3 (fun a h => by cases h)
      · cases st with
        | some a => exact spans_ok p s f _ (some a) acc h1 (by simp at h2 ⊢; omega) h3 (fun b h => by cases h; exact ⟨by have := (h4 a rfl).1; omega, (h4 a rfl).2⟩)
        | none => exact spans_ok p s f _ (some pos) acc h1 (by simp at h2 ⊢; omega) (by simp at h2 ⊢; omega) (fun b h => by cases h; exact ⟨by omega, hp⟩)
    · exact ⟨h1, h3, fun a h => (h4 a h).2⟩

theorem words_ok (s : ByteArray) : (wordsP s).length ≤ s.size ∧ ∀ x ∈ wordsP s, 0 < x.size ∧ x.size ≤ s.size := by
  have h := spans_ok (fun r => r == 32) s s.size 0 none [] (fun x hx => by simp at hx) (by simp) (by simp) (fun a h => by cases h)
  unfold wordsP Lib.goFieldsP Lib.spansOfP
  generalize Lib.spansFromP (fun r => r == 32) s s.size 0 none [] = y at *
  obtain ⟨acc, st⟩ := y
  have hall : ∀ x ∈ Lib.closeSpans s (acc, st), x.1 < x.2 ∧ x.2 ≤ s.size := by
    intro x hx
    unfold Lib.closeSpans at hx
    cases st with
    | none => exact h.1 x hx
    | some a =>
      rcases List.mem_append.1 hx with hx | hx
      · exact h.1 x hx
      · simp at hx; subst hx; exact ⟨h.2.2 a rfl, Nat.le_refl _⟩
  constructor
  · rw [List.length_map]
    have := h.2.1
    unfold Lib.closeSpans
    cases st with
    | none => simpa using this
    | some a => simpa using this
  · intro x hx
    obtain ⟨y, hy, rfl⟩ := List.mem_map.1 hx
    have := hall y hy
    rw [ByteArray.size_extract]
    omega

theorem rlK_more : ∀ (n : Nat) (s : ByteArray), s.size ≤ n → ∀ (f line : Nat) (b : Bool) (nm : ByteArray) (ns : List Nd) (ls : List Nat), s.size < f → rlK f s line b nm ns ls = rlK (s.size + 1) s line b nm ns ls
  | n, s, hn, f, line, b, nm, ns, ls, hf => by
    obtain ⟨g, rfl⟩ : ∃ g, f = g + 1 := ⟨f - 1, by omega⟩
    by_cases h0 : s.size = 0
    · simp only [rlK, h0, if_true]
    · have hc := cutB_size (t := s) (by omega)
      cases n with
      | zero => omega
      | succ n =>
        have ih := fun f line b nm ns ls hf => rlK_more n (cutB s) (by omega) f line b nm ns ls hf
        have e1 := fun line b nm ns ls => ih g line b nm ns ls (by omega)
        have e2 := fun line b nm ns ls => ih s.size line b nm ns ls (by omega)
        simp only [rlK, h0, if_false, e1, e2]

/-- One line more. -/
theorem rl_step {s : ByteArray} (h0 : 0 < s.size) (line : Nat) (b : Bool) (nm : ByteArray) (ns : List Nd) (ls : List Nat) : rlK (s.size + 1) s line b nm ns ls =
    if rSilent (wordsP (cutA s), false) then rlK ((cutB s).size + 1) (cutB s) (line + 1) b nm ns ls
    else if b = false then
      (if (rHead (wordsP (cutA s), false)).2.2 then (none, line) else rlK ((cutB s).size + 1) (cutB s) (line + 1) true (rHead (wordsP (cutA s), false)).1 ns ls)
    else
      (if (rNode (wordsP (cutA s), false)).2.2 then (none, line) else rlK ((cutB s).size + 1) (cutB s) (line + 1) true nm (ns ++ [(rNode (wordsP (cutA s), false)).1]) (ls ++ [line])) := by
  have hc := cutB_size h0
  have e := fun line b nm ns ls => rlK_more (cutB s).size (cutB s) (Nat.le_refl _) s.size line b nm ns ls hc
  have hne : ¬ s.size = 0 := by omega
  rw [rlK, if_neg hne]
  simp only [e]

/-- Between two lines. -/
structure RLSt (w wr : World) (nm : ByteArray) (ns : List Nd) (ls : List Nat) (a : Option Addr) (c : Nat) (v3 : Value) : Prop where
  d : wr.heap[w.heap.size]? = some (.cells #[.string nm, .slice a ns.length c] 24 (0, 0))
  rows : NodesRow wr (w.heap.size + 1) (.slice a ns.length c) ns
  lines : wr.ownsRow (w.heap.size + 1) 3 1 v3 ls.length (natsV ls)
  kept : Kept (fun _ => False) w wr

theorem RLSt.lt {w wr : World} {nm : ByteArray} {ns : List Nd} {ls : List Nat} {a : Option Addr} {c : Nat} {v3 : Value} (T : RLSt w wr nm ns ls a c v3) : w.heap.size < wr.heap.size := (Array.getElem?_eq_some_iff.1 T.d).1

theorem RLSt.later {S : Nat → Prop} {w wr w' : World} {nm : ByteArray} {ns : List Nd} {ls : List Nat} {a : Option Addr} {c : Nat} {v3 : Value} (T : RLSt w wr nm ns ls a c v3) (K : Kept S wr w') (hS : ∀ j, j < wr.heap.size → ¬ S j) : RLSt w w' nm ns ls a c v3 :=
  ⟨(K.block _ T.lt (hS _ T.lt)).trans T.d, T.rows.kept K (fun k _ h => hS k h), ownsRow_keep T.lines (fun g hg => K.block g (ownsRow_blk T.lines hg) (hS g (ownsRow_blk T.lines hg))), T.kept.trans (S' := S) K (fun i h => .inr (by
    apply Nat.le_of_not_lt
    intro hl
    exact hS i (Nat.lt_of_lt_of_le hl T.kept.size) h))⟩

theorem rlstart (w : World) : RLSt w (w.alloc (.cells #[.string ⟨#[]⟩, .slice none 0 0] 24)) ⟨#[]⟩ [] [] none 0 (.slice none 0 0) :=
  ⟨heap_alloc_new _ _, ⟨[], rfl, World.ownsRow_nil _ _ _ _, fun i h => by simp at h⟩, World.ownsRow_nil _ _ _ _, Kept.alloc _ _ _⟩

theorem twoC {w : World} {b : Nat} {T : TypeId} {u0 u1 : Value} (h : w.heap[b]? = some (.cells #[u0, u1] T (0, 0))) : (w.cell? ⟨b, 0, none⟩ = some u0 ∧ w.cell? ⟨b, 1, none⟩ = some u1) ∧ w.frozen? ⟨b, 0, none⟩ = false ∧ w.frozen? ⟨b, 1, none⟩ = false := by
  simp [World.cell?, World.frozen?, h]

/-- The name is set. -/
theorem RLSt.name {w wr : World} {nm : ByteArray} {ns : List Nd} {ls : List Nat} {a : Option Addr} {c : Nat} {v3 : Value} (T : RLSt w wr nm ns ls a c v3) (x : ByteArray) : RLSt w (wr.setCell ⟨w.heap.size, 0, none⟩ (.string x)) x ns ls a c v3 := by
  have K : Kept (fun j => j = w.heap.size) wr (wr.setCell ⟨w.heap.size, 0, none⟩ (.string x)) := Kept.setCell _ _ _ rfl
  refine ⟨by simp [World.setCell, Array.getElem?_modify, T.d], T.rows.kept K (fun k h _ => by omega), ownsRow_keep T.lines (fun g hg => K.block g (ownsRow_blk T.lines hg) (by have := (T.lines.lt g hg).1; omega)), T.kept.trans (S' := fun j => j = w.heap.size) K (fun i h => .inr (by omega))⟩

end Go.Proofs.YtlholgpenpfpbaaGreatDoor
