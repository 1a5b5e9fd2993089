/-
  An envelope: written by the codec and by the document; its form.
-/
import Derived.Test.YtnmdjdpceegdfaaCMailF
namespace Go.Proofs.Ytnmdjdpceegdfaa
open Go.RowKit

noncomputable def wrEnv (x0 x1 x2 x3 x4 : Int) (x5 x6 x7 x8 x9 : ByteArray) (x10 : Int) : Option (List Int) := put (put (put (put (wrNum 1 2 x0) (wrNum 0 4503599627370496 x1)) (wrNum 0 4503599627370496 x2)) (wrNum 0 4503599627370496 x3)) (wrMail x4 x5 x6 x7 x8 x9 x10)

abbrev EnvelopeD := Int × Int × Int × Int × Int × PartsD

def rdEnvelope : Rd EnvelopeD := rdBind (rdNum 1 2) fun _ => rdBind (rdNum 0 4503599627370496) fun _ => rdBind (rdNum 0 4503599627370496) fun _ => rdBind (rdNum 0 4503599627370496) fun _ => rdMail

theorem envForm : Form rdEnvelope (fun x => wrEnv x.1 x.2.1 x.2.2.1 x.2.2.2.1 x.2.2.2.2.1 x.2.2.2.2.2.1 x.2.2.2.2.2.2.1 x.2.2.2.2.2.2.2.1 x.2.2.2.2.2.2.2.2.1 x.2.2.2.2.2.2.2.2.2.1 x.2.2.2.2.2.2.2.2.2.2) := by
  have h : (fun x : EnvelopeD => wrEnv x.1 x.2.1 x.2.2.1 x.2.2.2.1 x.2.2.2.2.1 x.2.2.2.2.2.1 x.2.2.2.2.2.2.1 x.2.2.2.2.2.2.2.1 x.2.2.2.2.2.2.2.2.1 x.2.2.2.2.2.2.2.2.2.1 x.2.2.2.2.2.2.2.2.2.2)
      = wrBind (wrNum 1 2) (fun _ => wrBind (wrNum 0 4503599627370496) (fun _ => wrBind (wrNum 0 4503599627370496) (fun _ => wrBind (wrNum 0 4503599627370496) (fun _ => fun x => wrMail x.1 x.2.1 x.2.2.1 x.2.2.2.1 x.2.2.2.2.1 x.2.2.2.2.2.1 x.2.2.2.2.2.2)))) := by
    funext x
    unfold wrEnv
    simp only [put_assoc']
    rw [put_bind (wrNum 0 4503599627370496) (fun x : Int × PartsD => wrMail x.1 x.2.1 x.2.2.1 x.2.2.2.1 x.2.2.2.2.1 x.2.2.2.2.2.1 x.2.2.2.2.2.2) x.2.2.2, put_bind (wrNum 0 4503599627370496) _ x.2.2, put_bind (wrNum 0 4503599627370496) _ x.2]
    exact put_bind (wrNum 1 2) _ x
  rw [h]
  exact (numForm (by decide) (by decide)).bind (fun _ _ => (numForm (by decide) (by decide)).bind (fun _ _ => (numForm (by decide) (by decide)).bind (fun _ _ => (numForm (by decide) (by decide)).bind (fun _ _ => mailForm))))

theorem env_len {x0 x1 x2 x3 x4 : Int} {x5 x6 x7 x8 x9 : ByteArray} {x10 : Int} {q : List Int} (h : wrEnv x0 x1 x2 x3 x4 x5 x6 x7 x8 x9 x10 = some q) : q.length ≤ 5243100 := by
  obtain ⟨a4, b4, h4, hb4, rfl⟩ := put_some h
  obtain ⟨a3, b3, h3, hb3, rfl⟩ := put_some h4
  obtain ⟨a2, b2, h2, hb2, rfl⟩ := put_some h3
  obtain ⟨a1, b1, h1, hb1, rfl⟩ := put_some h2
  have e1 := (wrNum_len h1).1
  have e2 := (wrNum_len hb1).1
  have e3 := (wrNum_len hb2).1
  have e4 := (wrNum_len hb3).1
  have e5 := mail_len hb4
  simp only [List.length_append]
  omega

theorem env_parts {x0 x1 x2 x3 x4 : Int} {x5 x6 x7 x8 x9 : ByteArray} {x10 : Int} {q : List Int} (h : wrEnv x0 x1 x2 x3 x4 x5 x6 x7 x8 x9 x10 = some q) : x5.size ≤ 1048576 ∧ x6.size ≤ 1048576 ∧ x7.size ≤ 1048576 ∧ x8.size ≤ 1048576 ∧ x9.size ≤ 1048576 := by
  obtain ⟨a4, b4, h4, hb4, rfl⟩ := put_some h
  exact mail_parts hb4

set_option maxRecDepth 100000 in
set_option maxHeartbeats 1000000 in
theorem env_any (w : World) (x0 x1 x2 x3 x4 : Int) (x5 x6 x7 x8 x9 : ByteArray) (x10 : Int) (h5 : x5.size ≤ 140737488355328) (h6 : x6.size ≤ 140737488355328) (h7 : x7.size ≤ 140737488355328) (h8 : x8.size ≤ 140737488355328) (h9 : x9.size ≤ 140737488355328) :
    Calls Try.prog 17 #[.agg #[.int .i64 x0, .int .i64 x1, .int .i64 x2, .int .i64 x3, .int .i64 x4, .string x5, .string x6, .string x7, .string x8, .string x9, .int .i64 x10]] w fun e w' => ∃ a l c er, e = .returned (.tuple #[.slice a l c, .int .i64 er]) ∧ Ans w' w.heap.size (wrEnv x0 x1 x2 x3 x4 x5 x6 x7 x8 x9 x10) a l c er ∧ Kept (fun _ => False) w w' := by
  have hcs : ∀ (w' : World), Kept (fun k => w.heap.size + 1 ≤ k) (w.alloc (.cells #[.int .i64 x0, .int .i64 x1, .int .i64 x2, .int .i64 x3, .int .i64 x4, .string x5, .string x6, .string x7, .string x8, .string x9, .int .i64 x10] 38)) w' → w'.cell? ⟨w.heap.size, 0, none⟩ = some (.int .i64 x0) ∧ w'.cell? ⟨w.heap.size, 1, none⟩ = some (.int .i64 x1) ∧ w'.cell? ⟨w.heap.size, 2, none⟩ = some (.int .i64 x2) ∧ w'.cell? ⟨w.heap.size, 3, none⟩ = some (.int .i64 x3) ∧ w'.cell? ⟨w.heap.size, 4, none⟩ = some (.int .i64 x4) ∧ w'.cell? ⟨w.heap.size, 5, none⟩ = some (.string x5) ∧ w'.cell? ⟨w.heap.size, 6, none⟩ = some (.string x6) ∧ w'.cell? ⟨w.heap.size, 7, none⟩ = some (.string x7) ∧ w'.cell? ⟨w.heap.size, 8, none⟩ = some (.string x8) ∧ w'.cell? ⟨w.heap.size, 9, none⟩ = some (.string x9) ∧ w'.cell? ⟨w.heap.size, 10, none⟩ = some (.int .i64 x10) := fun w' K =>
    ⟨box_cells K (by omega) 0 _ rfl, box_cells K (by omega) 1 _ rfl, box_cells K (by omega) 2 _ rfl, box_cells K (by omega) 3 _ rfl, box_cells K (by omega) 4 _ rfl, box_cells K (by omega) 5 _ rfl, box_cells K (by omega) 6 _ rfl, box_cells K (by omega) 7 _ rfl, box_cells K (by omega) 8 _ rfl, box_cells K (by omega) 9 _ rfl, box_cells K (by omega) 10 _ rfl⟩
  have hW := WIn.new (w.alloc (.cells #[.int .i64 x0, .int .i64 x1, .int .i64 x2, .int .i64 x3, .int .i64 x4, .string x5, .string x6, .string x7, .string x8, .string x9, .int .i64 x10] 38)) 65
  have hsz : (w.alloc (.cells #[.int .i64 x0, .int .i64 x1, .int .i64 x2, .int .i64 x3, .int .i64 x4, .string x5, .string x6, .string x7, .string x8, .string x9, .int .i64 x10] 38)).heap.size = w.heap.size + 1 := by simp
  rw [hsz] at hW
  have HE : Hid (wrEnv x0 x1 x2 x3 x4 x5 x6 x7 x8 x9 x10 = put (put (put (put (put (some []) (wrNum 1 2 x0)) (wrNum 0 4503599627370496 x1)) (wrNum 0 4503599627370496 x2)) (wrNum 0 4503599627370496 x3)) (wrMail x4 x5 x6 x7 x8 x9 x10)) := by rw [some_put]; rfl
  have hN := wnum_any hW x0 1 2 (by decide) (by decide) (by decide)
  generalize put (some []) (wrNum 1 2 x0) = s1 at *
  have K0 : Kept (fun k => w.heap.size + 1 ≤ k) (w.alloc (.cells #[.int .i64 x0, .int .i64 x1, .int .i64 x2, .int .i64 x3, .int .i64 x4, .string x5, .string x6, .string x7, .string x8, .string x9, .int .i64 x10] 38)) ((w.alloc (.cells #[.int .i64 x0, .int .i64 x1, .int .i64 x2, .int .i64 x3, .int .i64 x4, .string x5, .string x6, .string x7, .string x8, .string x9, .int .i64 x10] 38)).alloc (.cells #[.slice none 0 0, .bool false] 65)) := Kept.alloc _ _ _
  obtain ⟨b0, b1, b2, b3, b4, b5, b6, b7, b8, b9, b10⟩ := hcs _ K0
  clear hW
  go_enter Try.func17, Try.ntmps17
  go_wp2_with (first
    | (go_at_call 35; have _t := hN; refine hN.mono ?_; rintro e w1 ⟨rfl, I1, K1⟩; have K01 := K0.and K1.k; obtain ⟨c0, c1, c2, c3, c4, c5, c6, c7, c8, c9, c10⟩ := hcs _ K01; clear hN _t K0 K1 b0 b1 b2 b3 b4 b5 b6 b7 b8 b9 b10)
    | (go_at_call 35; have _t := I1; refine (wnum_any I1 x1 0 4503599627370496 (by decide) (by decide) (by omega)).mono ?_; rintro e w2 ⟨rfl, I2, K2⟩; have K02 := K01.and K2.k; obtain ⟨d0, d1, d2, d3, d4, d5, d6, d7, d8, d9, d10⟩ := hcs _ K02; clear I1 _t K01 K2 c0 c1 c2 c3 c4 c5 c6 c7 c8 c9 c10)
    | (go_at_call 35; have _t := I2; refine (wnum_any I2 x2 0 4503599627370496 (by decide) (by decide) (by omega)).mono ?_; rintro e w3 ⟨rfl, I3, K3⟩; have K03 := K02.and K3.k; obtain ⟨q0, q1, q2, q3, q4, q5, q6, q7, q8, q9, q10⟩ := hcs _ K03; clear I2 _t K02 K3 d0 d1 d2 d3 d4 d5 d6 d7 d8 d9 d10)
    | (go_at_call 35; have _t := I3; refine (wnum_any I3 x3 0 4503599627370496 (by decide) (by decide) (by omega)).mono ?_; rintro e w4 ⟨rfl, I4, K4⟩; have K04 := K03.and K4.k; obtain ⟨f0, f1, f2, f3, f4, f5, f6, f7, f8, f9, f10⟩ := hcs _ K04; clear I3 _t K03 K4 q0 q1 q2 q3 q4 q5 q6 q7 q8 q9 q10)
    | (go_at_call 53; refine (wmail_any I4 x4 x5 x6 x7 x8 x9 x10 h5 h6 h7 h8 h9 (by omega)).mono ?_; rintro e w5 ⟨rfl, I5, K5⟩; have K05 := K04.and K5.k; clear I4 K04 K5)
    | (go_at_call 38; refine (wanswer_any I5).mono ?_; rintro e w6 ⟨a, l, c, er, rfl, hA, hw⟩; subst hw)
    | fail)
  go_ret2
  rw [HE.out]
  exact ⟨a, l, c, er, rfl, hA.mono (by omega), (Kept.alloc _ w _).trans K05 (fun k h => .inr (by omega))⟩

set_option maxRecDepth 100000 in
set_option maxHeartbeats 1000000 in
theorem refEnv_any (w : World) (x0 x1 x2 x3 x4 : Int) (x5 x6 x7 x8 x9 : ByteArray) (x10 : Int) (h5 : x5.size ≤ 1048576) (h6 : x6.size ≤ 1048576) (h7 : x7.size ≤ 1048576) (h8 : x8.size ≤ 1048576) (h9 : x9.size ≤ 1048576) :
    Calls Try.prog 18 #[.agg #[.int .i64 x0, .int .i64 x1, .int .i64 x2, .int .i64 x3, .int .i64 x4, .string x5, .string x6, .string x7, .string x8, .string x9, .int .i64 x10]] w fun e w' => ∃ a l c er, e = .returned (.tuple #[.slice a l c, .int .i64 er]) ∧ Ans w' w.heap.size (wrEnv x0 x1 x2 x3 x4 x5 x6 x7 x8 x9 x10) a l c er ∧ Kept (fun _ => False) w w' := by
  have hcs : ∀ (w' : World), Kept (fun k => w.heap.size + 1 ≤ k) (w.alloc (.cells #[.int .i64 x0, .int .i64 x1, .int .i64 x2, .int .i64 x3, .int .i64 x4, .string x5, .string x6, .string x7, .string x8, .string x9, .int .i64 x10] 38)) w' → w'.cell? ⟨w.heap.size, 0, none⟩ = some (.int .i64 x0) ∧ w'.cell? ⟨w.heap.size, 1, none⟩ = some (.int .i64 x1) ∧ w'.cell? ⟨w.heap.size, 2, none⟩ = some (.int .i64 x2) ∧ w'.cell? ⟨w.heap.size, 3, none⟩ = some (.int .i64 x3) ∧ w'.cell? ⟨w.heap.size, 4, none⟩ = some (.int .i64 x4) ∧ w'.cell? ⟨w.heap.size, 5, none⟩ = some (.string x5) ∧ w'.cell? ⟨w.heap.size, 6, none⟩ = some (.string x6) ∧ w'.cell? ⟨w.heap.size, 7, none⟩ = some (.string x7) ∧ w'.cell? ⟨w.heap.size, 8, none⟩ = some (.string x8) ∧ w'.cell? ⟨w.heap.size, 9, none⟩ = some (.string x9) ∧ w'.cell? ⟨w.heap.size, 10, none⟩ = some (.int .i64 x10) := fun w' K =>
    ⟨box_cells K (by omega) 0 _ rfl, box_cells K (by omega) 1 _ rfl, box_cells K (by omega) 2 _ rfl, box_cells K (by omega) 3 _ rfl, box_cells K (by omega) 4 _ rfl, box_cells K (by omega) 5 _ rfl, box_cells K (by omega) 6 _ rfl, box_cells K (by omega) 7 _ rfl, box_cells K (by omega) 8 _ rfl, box_cells K (by omega) 9 _ rfl, box_cells K (by omega) 10 _ rfl⟩
  have hW := WIn.new (w.alloc (.cells #[.int .i64 x0, .int .i64 x1, .int .i64 x2, .int .i64 x3, .int .i64 x4, .string x5, .string x6, .string x7, .string x8, .string x9, .int .i64 x10] 38)) 72
  have hsz : (w.alloc (.cells #[.int .i64 x0, .int .i64 x1, .int .i64 x2, .int .i64 x3, .int .i64 x4, .string x5, .string x6, .string x7, .string x8, .string x9, .int .i64 x10] 38)).heap.size = w.heap.size + 1 := by simp
  rw [hsz] at hW
  have HE : Hid (wrEnv x0 x1 x2 x3 x4 x5 x6 x7 x8 x9 x10 = put (put (put (put (put (some []) (wrNum 1 2 x0)) (wrNum 0 4503599627370496 x1)) (wrNum 0 4503599627370496 x2)) (wrNum 0 4503599627370496 x3)) (wrMail x4 x5 x6 x7 x8 x9 x10)) := by rw [some_put]; rfl
  have hN := xnum_any hW x0 1 2 (by decide) (by decide) (by decide)
  generalize put (some []) (wrNum 1 2 x0) = s1 at *
  have K0 : Kept (fun k => w.heap.size + 1 ≤ k) (w.alloc (.cells #[.int .i64 x0, .int .i64 x1, .int .i64 x2, .int .i64 x3, .int .i64 x4, .string x5, .string x6, .string x7, .string x8, .string x9, .int .i64 x10] 38)) ((w.alloc (.cells #[.int .i64 x0, .int .i64 x1, .int .i64 x2, .int .i64 x3, .int .i64 x4, .string x5, .string x6, .string x7, .string x8, .string x9, .int .i64 x10] 38)).alloc (.cells #[.slice none 0 0, .bool false] 72)) := Kept.alloc _ _ _
  obtain ⟨b0, b1, b2, b3, b4, b5, b6, b7, b8, b9, b10⟩ := hcs _ K0
  clear hW
  go_enter Try.func18, Try.ntmps18
  go_wp2_with (first
    | (go_at_call 39; have _t := hN; refine hN.mono ?_; rintro e w1 ⟨rfl, I1, K1⟩; have K01 := K0.and K1.k; obtain ⟨c0, c1, c2, c3, c4, c5, c6, c7, c8, c9, c10⟩ := hcs _ K01; clear hN _t K0 K1 b0 b1 b2 b3 b4 b5 b6 b7 b8 b9 b10)
    | (go_at_call 39; have _t := I1; refine (xnum_any I1 x1 0 4503599627370496 (by decide) (by decide) (by omega)).mono ?_; rintro e w2 ⟨rfl, I2, K2⟩; have K02 := K01.and K2.k; obtain ⟨d0, d1, d2, d3, d4, d5, d6, d7, d8, d9, d10⟩ := hcs _ K02; clear I1 _t K01 K2 c0 c1 c2 c3 c4 c5 c6 c7 c8 c9 c10)
    | (go_at_call 39; have _t := I2; refine (xnum_any I2 x2 0 4503599627370496 (by decide) (by decide) (by omega)).mono ?_; rintro e w3 ⟨rfl, I3, K3⟩; have K03 := K02.and K3.k; obtain ⟨q0, q1, q2, q3, q4, q5, q6, q7, q8, q9, q10⟩ := hcs _ K03; clear I2 _t K02 K3 d0 d1 d2 d3 d4 d5 d6 d7 d8 d9 d10)
    | (go_at_call 39; have _t := I3; refine (xnum_any I3 x3 0 4503599627370496 (by decide) (by decide) (by omega)).mono ?_; rintro e w4 ⟨rfl, I4, K4⟩; have K04 := K03.and K4.k; obtain ⟨f0, f1, f2, f3, f4, f5, f6, f7, f8, f9, f10⟩ := hcs _ K04; clear I3 _t K03 K4 q0 q1 q2 q3 q4 q5 q6 q7 q8 q9 q10)
    | (go_at_call 54; refine (xmail_any I4 x4 x5 x6 x7 x8 x9 x10 h5 h6 h7 h8 h9 (by omega)).mono ?_; rintro e w5 ⟨rfl, I5, K5⟩; have K05 := K04.and K5.k; clear I4 K04 K5)
    | (go_at_call 42; refine (xdone_any I5).mono ?_; rintro e w6 ⟨a, l, c, er, rfl, hA, hw⟩; subst hw)
    | fail)
  go_ret2
  rw [HE.out]
  exact ⟨a, l, c, er, rfl, hA.mono (by omega), (Kept.alloc _ w _).trans K05 (fun k h => .inr (by omega))⟩

end Go.Proofs.Ytnmdjdpceegdfaa
