/-
  node: a node's state, written.
-/
import Derived.Test.YtdbplemcjnlfiaaGreatDoorFStD
import Derived.Test.YtdbplemcjnlfiaaGreatDoorFStN1
import Derived.Test.YtdbplemcjnlfiaaGreatDoorFStN2
namespace Go.Proofs.YtdbplemcjnlfiaaGreatDoor
open Go.RowKit Go.Sort

set_option maxRecDepth 100000 in
set_option maxHeartbeats 4000000 in
theorem node_any (w : World) (nm : ByteArray) (ns nt : Int) (nx : ByteArray) (z1 : nm.size ≤ 1048576) (z2 : nx.size ≤ 1048576) (z3 : -9223372036854775808 ≤ nt) (z4 : nt ≤ 9223372036854775807) (T : Utf8At w) (T10 : Pow10 w) :
    Calls Tryz.prog 30 #[.string nm, .agg #[.int .i64 ns, .int .i64 nt, .string nx]] w fun e w' => e = .returned (.string (mkB (nodeL nm ns nt nx))) ∧ Kept (fun _ => False) w w' := by
  have HT := hid T
  have HP := hid T10
  have K0 : Kept (fun _ => False) w (w.alloc (.cells #[.int .i64 ns, .int .i64 nt, .string nx] 67)) := Kept.alloc _ _ _
  have hb := heap_alloc_new w (.cells #[.int .i64 ns, .int .i64 nt, .string nx] 67)
  have a1 := quote_len nm
  have a2 := quote_len (mkB (standL ns))
  have a3 := quote_len nx
  have a4 := standL_len ns
  have a5 := itoa_le nt z3 z4
  rw [mkB_size] at a2
  have HA4 := hid a4
  have HZ1 := hid z1
  have HZ2 := hid z2
  have HZ := hid (And.intro z3 z4)
  obtain ⟨p1, pH1, r1⟩ := run_cat [123, 34, 110, 97, 109, 101, 34, 58] (quoteP nm) (by first | omega | (simp only [List.length_cons, List.length_nil]; omega))
  have pl1 : p1.length = ([123, 34, 110, 97, 109, 101, 34, 58] : List UInt8).length + (quoteP nm).length := by rw [pH1.out, List.length_append]
  simp only [List.length_cons, List.length_nil] at pl1
  obtain ⟨p2, pH2, r2⟩ := run_cat p1 [44, 34, 115, 116, 97, 116, 117, 115, 34, 58] (by first | omega | (simp only [List.length_cons, List.length_nil]; omega))
  have pl2 : p2.length = (p1).length + ([44, 34, 115, 116, 97, 116, 117, 115, 34, 58] : List UInt8).length := by rw [pH2.out, List.length_append]
  simp only [List.length_cons, List.length_nil] at pl2
  obtain ⟨p3, pH3, r3⟩ := run_cat p2 (quoteP (mkB (standL ns))) (by first | omega | (simp only [List.length_cons, List.length_nil]; omega))
  have pl3 : p3.length = (p2).length + (quoteP (mkB (standL ns))).length := by rw [pH3.out, List.length_append]
  obtain ⟨s1, sH1, t1⟩ := run_cat p3 [44, 34, 116, 114, 121, 34, 58] (by first | omega | (simp only [List.length_cons, List.length_nil]; omega))
  have sl1 : s1.length = (p3).length + ([44, 34, 116, 114, 121, 34, 58] : List UInt8).length := by rw [sH1.out, List.length_append]
  simp only [List.length_cons, List.length_nil] at sl1
  obtain ⟨s2, sH2, t2⟩ := run_cat s1 (Lib.itoa nt) (by first | omega | (simp only [List.length_cons, List.length_nil]; omega))
  have sl2 : s2.length = (s1).length + (Lib.itoa nt).length := by rw [sH2.out, List.length_append]
  obtain ⟨s3, sH3, t3⟩ := run_cat s2 [44, 34, 116, 101, 120, 116, 34, 58] (by first | omega | (simp only [List.length_cons, List.length_nil]; omega))
  have sl3 : s3.length = (s2).length + ([44, 34, 116, 101, 120, 116, 34, 58] : List UInt8).length := by rw [sH3.out, List.length_append]
  simp only [List.length_cons, List.length_nil] at sl3
  obtain ⟨s4, sH4, t4⟩ := run_cat s3 (quoteP nx) (by first | omega | (simp only [List.length_cons, List.length_nil]; omega))
  have sl4 : s4.length = (s3).length + (quoteP nx).length := by rw [sH4.out, List.length_append]
  obtain ⟨s5, sH5, t5⟩ := run_cat s4 [125] (by first | omega | (simp only [List.length_cons, List.length_nil]; omega))
  have sl5 : s5.length = (s4).length + ([125] : List UInt8).length := by rw [sH5.out, List.length_append]
  simp only [List.length_cons, List.length_nil] at sl5
  have HE : Hid (s5 = nodeL nm ns nt nx) := by
    show s5 = _
    rw [sH5.out, sH4.out, sH3.out, sH2.out, sH1.out, pH3.out, pH2.out, pH1.out]
    unfold nodeL
    simp only [List.append_assoc]
  clear pl1 pl2 pl3 sl1 sl2 sl3 sl4 sl5 a1 a2 a3 a4 a5 T T10
  go_enter Tryz.func30, Tryz.ntmps30
  go_wp2
  have HK0 := hid K0
  have HB := hid hb
  clear K0 hb
  generalize w.alloc (.cells #[.int .i64 ns, .int .i64 nt, .string nx] 67) = W at *
  generalize w.heap.size = gn at *
  have HC : Hid (∀ V, Kept (fun _ => False) W V → V.cell? ⟨gn, 0, none⟩ = some (.int .i64 ns) ∧ V.cell? ⟨gn, 1, none⟩ = some (.int .i64 nt) ∧ V.cell? ⟨gn, 2, none⟩ = some (.string nx)) := fun V KV => ⟨cellKept3 KV (by simp [World.cell?, HB.out]), cellKept3 KV (by simp [World.cell?, HB.out]), cellKept3 KV (by simp [World.cell?, HB.out])⟩
  refine wp_onlyN (stN1 _ HC.out (h1 := fun V KV => quote_any V nm (by have := HZ1.out; omega) (HT.out.kept (HK0.out.and KV))) (h2 := fun V _ => standing_any V ns) (h3 := fun V KV => quote_any V (mkB (standL ns)) (by rw [mkB_size]; have := HA4.out; omega) (HT.out.kept (HK0.out.and KV))) (r1 := r1) (r2 := r2) (r3 := r3) (h := ?_))
  intro v6 v7 v8 v9 v10 v11 v12 v13 v14 w8 K8
  have HK8 := hid K8
  clear K8
  go_wp2
  refine wp_onlyN (stN2 _ (fun V KV => HC.out V (HK8.out.and KV)) (h1 := fun V KV => itoa_any V (HP.out.kept (HK0.out.and (HK8.out.and KV))) nt HZ.out.1 HZ.out.2) (h2 := fun V KV => quote_any V nx (by have := HZ2.out; omega) (HT.out.kept (HK0.out.and (HK8.out.and KV)))) (r1 := t1) (r2 := t2) (r3 := t3) (r4 := t4) (r5 := t5) (h := ?_))
  intro v15 v16 v17 v18 v19 v20 v21 v22 v23 v24 v25 v26 w9 K9
  go_wp2
  go_ret
  exact ⟨by rw [HE.out]; rfl, HK0.out.and (HK8.out.and K9)⟩

end Go.Proofs.YtdbplemcjnlfiaaGreatDoor
