/-
  Replies, the program's and the document's.
-/
import Derived.Test.YtimipkhjcgmioaaGreatDoorFErr
import Derived.Test.YtimipkhjcgmioaaGreatDoorFRefD
import Derived.Test.YtimipkhjcgmioaaGreatDoorFCard
namespace Go.Proofs.YtimipkhjcgmioaaGreatDoor
open Go.RowKit Go.Sort

/-- What a status is called. -/
def wordP (n : Int) : List UInt8 :=
  if n = 200 then [79, 75] else
  if n = 307 then [84, 101, 109, 112, 111, 114, 97, 114, 121, 32, 82, 101, 100, 105, 114, 101, 99, 116] else
  if n = 400 then [66, 97, 100, 32, 82, 101, 113, 117, 101, 115, 116] else
  if n = 404 then [78, 111, 116, 32, 70, 111, 117, 110, 100] else
  if n = 405 then [77, 101, 116, 104, 111, 100, 32, 78, 111, 116, 32, 65, 108, 108, 111, 119, 101, 100] else
  if n = 409 then [67, 111, 110, 102, 108, 105, 99, 116] else
  if n = 413 then [67, 111, 110, 116, 101, 110, 116, 32, 84, 111, 111, 32, 76, 97, 114, 103, 101] else
  if n = 429 then [84, 111, 111, 32, 77, 97, 110, 121, 32, 82, 101, 113, 117, 101, 115, 116, 115] else
  if n = 431 then [82, 101, 113, 117, 101, 115, 116, 32, 72, 101, 97, 100, 101, 114, 32, 70, 105, 101, 108, 100, 115, 32, 84, 111, 111, 32, 76, 97, 114, 103, 101] else
  if n = 503 then [83, 101, 114, 118, 105, 99, 101, 32, 85, 110, 97, 118, 97, 105, 108, 97, 98, 108, 101] else
  [85, 110, 107, 110, 111, 119, 110]

theorem wordP_none (n : Int) (h200 : n ≠ 200) (h307 : n ≠ 307) (h400 : n ≠ 400) (h404 : n ≠ 404) (h405 : n ≠ 405) (h409 : n ≠ 409) (h413 : n ≠ 413) (h429 : n ≠ 429) (h431 : n ≠ 431) (h503 : n ≠ 503) : wordP n = [85, 110, 107, 110, 111, 119, 110] := by
  unfold wordP
  rw [if_neg h200, if_neg h307, if_neg h400, if_neg h404, if_neg h405, if_neg h409, if_neg h413, if_neg h429, if_neg h431, if_neg h503]

theorem wordP_len (n : Int) : (wordP n).length ≤ 40 := by
  by_cases h200 : n = 200
  · subst h200; decide +kernel
  by_cases h307 : n = 307
  · subst h307; decide +kernel
  by_cases h400 : n = 400
  · subst h400; decide +kernel
  by_cases h404 : n = 404
  · subst h404; decide +kernel
  by_cases h405 : n = 405
  · subst h405; decide +kernel
  by_cases h409 : n = 409
  · subst h409; decide +kernel
  by_cases h413 : n = 413
  · subst h413; decide +kernel
  by_cases h429 : n = 429
  · subst h429; decide +kernel
  by_cases h431 : n = 431
  · subst h431; decide +kernel
  by_cases h503 : n = 503
  · subst h503; decide +kernel
  rw [wordP_none n h200 h307 h400 h404 h405 h409 h413 h429 h431 h503]
  decide

set_option maxRecDepth 100000 in
set_option maxHeartbeats 2000000 in
theorem word_any (w : World) (n : Int) : Calls Tryz.prog 71 #[.int .i64 n] w fun e w' => e = .returned (.string (mkB (wordP n))) ∧ w' = w := by
  by_cases h200 : n = 200
  · subst h200
    go_enter Tryz.func71, Tryz.ntmps71
    go_wp2
    go_ret
    exact ⟨rfl, rfl⟩
  by_cases h307 : n = 307
  · subst h307
    go_enter Tryz.func71, Tryz.ntmps71
    go_wp2
    go_ret
    exact ⟨rfl, rfl⟩
  by_cases h400 : n = 400
  · subst h400
    go_enter Tryz.func71, Tryz.ntmps71
    go_wp2
    go_ret
    exact ⟨rfl, rfl⟩
  by_cases h404 : n = 404
  · subst h404
    go_enter Tryz.func71, Tryz.ntmps71
    go_wp2
    go_ret
    exact ⟨rfl, rfl⟩
  by_cases h405 : n = 405
  · subst h405
    go_enter Tryz.func71, Tryz.ntmps71
    go_wp2
    go_ret
    exact ⟨rfl, rfl⟩
  by_cases h409 : n = 409
  · subst h409
    go_enter Tryz.func71, Tryz.ntmps71
    go_wp2
    go_ret
    exact ⟨rfl, rfl⟩
  by_cases h413 : n = 413
  · subst h413
    go_enter Tryz.func71, Tryz.ntmps71
    go_wp2
    go_ret
    exact ⟨rfl, rfl⟩
  by_cases h429 : n = 429
  · subst h429
    go_enter Tryz.func71, Tryz.ntmps71
    go_wp2
    go_ret
    exact ⟨rfl, rfl⟩
  by_cases h431 : n = 431
  · subst h431
    go_enter Tryz.func71, Tryz.ntmps71
    go_wp2
    go_ret
    exact ⟨rfl, rfl⟩
  by_cases h503 : n = 503
  · subst h503
    go_enter Tryz.func71, Tryz.ntmps71
    go_wp2
    go_ret
    exact ⟨rfl, rfl⟩
  have b200 : (n == 200) = false := by rw [beq_eq_false_iff_ne]; exact h200
  have b307 : (n == 307) = false := by rw [beq_eq_false_iff_ne]; exact h307
  have b400 : (n == 400) = false := by rw [beq_eq_false_iff_ne]; exact h400
  have b404 : (n == 404) = false := by rw [beq_eq_false_iff_ne]; exact h404
  have b405 : (n == 405) = false := by rw [beq_eq_false_iff_ne]; exact h405
  have b409 : (n == 409) = false := by rw [beq_eq_false_iff_ne]; exact h409
  have b413 : (n == 413) = false := by rw [beq_eq_false_iff_ne]; exact h413
  have b429 : (n == 429) = false := by rw [beq_eq_false_iff_ne]; exact h429
  have b431 : (n == 431) = false := by rw [beq_eq_false_iff_ne]; exact h431
  have b503 : (n == 503) = false := by rw [beq_eq_false_iff_ne]; exact h503
  have HX := hid (wordP_none n h200 h307 h400 h404 h405 h409 h413 h429 h431 h503)
  go_enter Tryz.func71, Tryz.ntmps71
  go_wp2
  go_ret
  refine ⟨?_, rfl⟩
  rw [HX.out]
  rfl

theorem kept_grow (w : World) (q : Nat) (os : Array Obj) : Kept (fun _ => False) w (grow (w.drewN q) os) :=
  ⟨rfl, rfl, rfl, by simp [grow], fun i hi _ => by
    show (w.heap ++ os)[i]? = w.heap[i]?
    rw [Array.getElem?_append_left hi]⟩

theorem itoa_any (w : World) (T : Pow10 w) (n : Int) (hlo : -9223372036854775808 ≤ n) (hhi : n ≤ 9223372036854775807) :
    Calls Tryz.prog 70 #[.int .i64 n] w fun e w' => e = .returned (.string (mkB (Lib.itoa n))) ∧ Kept (fun _ => False) w w' :=
  (Any.strconv_Itoa Tryz.itoaM n hlo hhi w T).mono fun e w' ⟨he, k, os, hw⟩ => ⟨he, by rw [hw]; exact kept_grow w k os⟩

theorem itoa_le (n : Int) (hlo : -9223372036854775808 ≤ n) (hhi : n ≤ 9223372036854775807) : (Lib.itoa n).length ≤ 20 := by
  unfold Lib.itoa
  split
  · have := digs_le 18 n.natAbs (by omega)
    simp only [List.length_cons]
    omega
  · have := digs_le 18 n.toNat (by omega)
    omega

/-- A reply. -/
def replyP (n : Int) (body : List UInt8) : List UInt8 := [72, 84, 84, 80, 47, 49, 46, 49, 32] ++ Lib.itoa n ++ [32] ++ wordP n ++ [13, 10, 67, 111, 110, 116, 101, 110, 116, 45, 76, 101, 110, 103, 116, 104, 58, 32] ++ Lib.itoa body.length ++ [13, 10, 13, 10] ++ body

/-- Bytes that are made of a text, in a world that has all that was. -/
def RepPost (w : World) (l : List UInt8) (e : Ending) (w' : World) : Prop := ∃ W, Kept (fun _ => False) w W ∧ e = .returned (.slice (some ⟨W.heap.size, 0, none⟩) l.length (grownCap W l.length 0 5)) ∧ w' = Lib.bytesWorld W 5 (mkB l)

theorem conv_bytes (l : List UInt8) (W : World) : (convert 9 23 (.string (mkB l))).run Tryz.prog W = .ok (.slice (some ⟨W.heap.size, 0, none⟩) l.length (grownCap W l.length 0 5)) (Lib.bytesWorld W 5 (mkB l)) := by
  have h := Lib.run_convert_string_bytes (P := Tryz.prog) W 9 23 5 (mkB l) Tryz.underlying9 Tryz.underlying23 Tryz.underlying5
  rw [mkB_size] at h
  exact h

set_option maxRecDepth 100000 in
set_option maxHeartbeats 2000000 in
theorem reply_any (w : World) (n : Int) (body : List UInt8) (hlo : -9223372036854775808 ≤ n) (hhi : n ≤ 9223372036854775807) (hb : body.length ≤ 1000000000) (T : Pow10 w) :
    Calls Tryz.prog 31 #[.int .i64 n, .string (mkB body)] w (RepPost w (replyP n body)) := by
  have hI1 := itoa_any w T n hlo hhi
  have hW := fun V => word_any V n
  have hI2 := fun V (K : Kept (fun _ => False) w V) => itoa_any V (T.kept K) (body.length : Int) (by omega) (by omega)
  have l1 := itoa_le n hlo hhi
  have l2 := itoa_le (body.length : Int) (by omega) (by omega)
  have l3 := wordP_len n
  have hz : (mkB body).size = body.length := mkB_size body
  have HP : Hid (((([72, 84, 84, 80, 47, 49, 46, 49, 32] ++ Lib.itoa n) ++ [32]) ++ wordP n) ++ [13, 10] ++ ([67, 111, 110, 116, 101, 110, 116, 45, 76, 101, 110, 103, 116, 104, 58, 32] ++ Lib.itoa (body.length : Int)) ++ [13, 10, 13, 10] ++ body = replyP n body) := by
    show _ = _
    unfold replyP
    simp only [List.append_assoc, List.cons_append, List.nil_append]
  generalize hA : Lib.itoa n = A at *
  generalize hD : Lib.itoa (body.length : Int) = D at *
  generalize hE : wordP n = E at *
  clear hA hD hE
  have c1 : ∀ W, (Op.stringOp .add ⟨#[72, 84, 84, 80, 47, 49, 46, 49, 32]⟩ (mkB A)).run Tryz.prog W = .ok (.string (mkB ([72, 84, 84, 80, 47, 49, 46, 49, 32] ++ A))) W := fun W => run_cat W [72, 84, 84, 80, 47, 49, 46, 49, 32] A (by simp; omega)
  have c2 : ∀ W, (Op.stringOp .add (mkB ([72, 84, 84, 80, 47, 49, 46, 49, 32] ++ A)) ⟨#[32]⟩).run Tryz.prog W = .ok (.string (mkB (([72, 84, 84, 80, 47, 49, 46, 49, 32] ++ A) ++ [32]))) W := fun W => run_cat W ([72, 84, 84, 80, 47, 49, 46, 49, 32] ++ A) [32] (by simp; omega)
  have c3 := fun W => run_cat W (([72, 84, 84, 80, 47, 49, 46, 49, 32] ++ A) ++ [32]) E (by simp; omega)
  have c4 : ∀ W, (Op.stringOp .add ⟨#[67, 111, 110, 116, 101, 110, 116, 45, 76, 101, 110, 103, 116, 104, 58, 32]⟩ (mkB D)).run Tryz.prog W = .ok (.string (mkB ([67, 111, 110, 116, 101, 110, 116, 45, 76, 101, 110, 103, 116, 104, 58, 32] ++ D))) W := fun W => run_cat W [67, 111, 110, 116, 101, 110, 116, 45, 76, 101, 110, 103, 116, 104, 58, 32] D (by simp; omega)
  have c5 : ∀ W, (Op.stringOp .add (mkB ((([72, 84, 84, 80, 47, 49, 46, 49, 32] ++ A) ++ [32]) ++ E)) ⟨#[13, 10]⟩).run Tryz.prog W = .ok (.string (mkB (((([72, 84, 84, 80, 47, 49, 46, 49, 32] ++ A) ++ [32]) ++ E) ++ [13, 10]))) W := fun W => run_cat W ((([72, 84, 84, 80, 47, 49, 46, 49, 32] ++ A) ++ [32]) ++ E) [13, 10] (by simp; omega)
  have c6 := fun W => run_cat W (((([72, 84, 84, 80, 47, 49, 46, 49, 32] ++ A) ++ [32]) ++ E) ++ [13, 10]) ([67, 111, 110, 116, 101, 110, 116, 45, 76, 101, 110, 103, 116, 104, 58, 32] ++ D) (by simp; omega)
  have c7 : ∀ W, (Op.stringOp .add (mkB ((((([72, 84, 84, 80, 47, 49, 46, 49, 32] ++ A) ++ [32]) ++ E) ++ [13, 10]) ++ ([67, 111, 110, 116, 101, 110, 116, 45, 76, 101, 110, 103, 116, 104, 58, 32] ++ D))) ⟨#[13, 10, 13, 10]⟩).run Tryz.prog W = .ok (.string (mkB (((((([72, 84, 84, 80, 47, 49, 46, 49, 32] ++ A) ++ [32]) ++ E) ++ [13, 10]) ++ ([67, 111, 110, 116, 101, 110, 116, 45, 76, 101, 110, 103, 116, 104, 58, 32] ++ D)) ++ [13, 10, 13, 10]))) W := fun W => run_cat W ((((([72, 84, 84, 80, 47, 49, 46, 49, 32] ++ A) ++ [32]) ++ E) ++ [13, 10]) ++ ([67, 111, 110, 116, 101, 110, 116, 45, 76, 101, 110, 103, 116, 104, 58, 32] ++ D)) [13, 10, 13, 10] (by simp; omega)
  have c8 := fun W => run_cat W (((((([72, 84, 84, 80, 47, 49, 46, 49, 32] ++ A) ++ [32]) ++ E) ++ [13, 10]) ++ ([67, 111, 110, 116, 101, 110, 116, 45, 76, 101, 110, 103, 116, 104, 58, 32] ++ D)) ++ [13, 10, 13, 10]) body (by simp; omega)
  rw [HP.out] at c8
  have c9 := conv_bytes (replyP n body)
  generalize replyP n body = RR at *
  generalize hz8 : mkB RR = z8 at *
  have HZ8 := hid hz8
  clear hz8
  generalize mkB (((((([72, 84, 84, 80, 47, 49, 46, 49, 32] ++ A) ++ [32]) ++ E) ++ [13, 10]) ++ ([67, 111, 110, 116, 101, 110, 116, 45, 76, 101, 110, 103, 116, 104, 58, 32] ++ D)) ++ [13, 10, 13, 10]) = z7 at *
  generalize mkB ((((([72, 84, 84, 80, 47, 49, 46, 49, 32] ++ A) ++ [32]) ++ E) ++ [13, 10]) ++ ([67, 111, 110, 116, 101, 110, 116, 45, 76, 101, 110, 103, 116, 104, 58, 32] ++ D)) = z6 at *
  generalize mkB (((([72, 84, 84, 80, 47, 49, 46, 49, 32] ++ A) ++ [32]) ++ E) ++ [13, 10]) = z5 at *
  generalize mkB ([67, 111, 110, 116, 101, 110, 116, 45, 76, 101, 110, 103, 116, 104, 58, 32] ++ D) = z4 at *
  generalize mkB ((([72, 84, 84, 80, 47, 49, 46, 49, 32] ++ A) ++ [32]) ++ E) = z3 at *
  generalize mkB (([72, 84, 84, 80, 47, 49, 46, 49, 32] ++ A) ++ [32]) = z2 at *
  generalize mkB ([72, 84, 84, 80, 47, 49, 46, 49, 32] ++ A) = z1 at *
  clear HP l1 l2 l3
  generalize hB : mkB body = bb at *
  clear hB
  have hzi : ((bb.size : Nat) : Int) = (body.length : Int) := by omega
  have HI2 := hid hI2
  clear hI2 hz
  generalize (body.length : Int) = bl at *
  go_enter Tryz.func31, Tryz.ntmps31
  go_wp2_with (first
    | (go_at_call 70; refine hI1.mono ?_; rintro e w1 ⟨rfl, K1⟩; clear hI1; have hI3 := HI2.out _ K1; clear HI2)
    | (go_at_call 71; refine (hW _).mono ?_; rintro e w2 ⟨rfl, hw2⟩; subst w2; clear hW)
    | (go_at_call 70; refine hI3.mono ?_; rintro e w3 ⟨rfl, K3⟩; clear hI3)
    | fail)
  go_ret
  exact ⟨w3, K1.and K3, rfl, by rw [HZ8.out]⟩

set_option maxRecDepth 100000 in
set_option maxHeartbeats 8000000 in
theorem refReply_any (w : World) (n : Int) (body : List UInt8) (hlo : -9223372036854775808 ≤ n) (hhi : n ≤ 9223372036854775807) (hb : body.length ≤ 1000000000) :
    Calls Tryz.prog 33 #[.int .i64 n, .string (mkB body)] w (RepPost w (replyP n body)) := by
  by_cases h200 : n = 200
  · subst h200
    have HP : Hid (((((([72, 84, 84, 80, 47, 49, 46, 49, 32] ++ Lib.itoa 200) ++ [32]) ++ [79, 75]) ++ [13, 10, 67, 111, 110, 116, 101, 110, 116, 45, 76, 101, 110, 103, 116, 104, 58, 32]) ++ Lib.itoa (body.length : Int)) ++ [13, 10, 13, 10] ++ body = replyP 200 body) := by
      show _ = _
      unfold replyP
      rw [show wordP 200 = [79, 75] from rfl]
    have hD1 := digits_any w 200 (by decide) (by decide)
    have hD2 := fun V => digits_any V (body.length : Int) (by omega) (by omega)
    have l1 := itoa_le 200 (by decide) (by decide)
    have l2 := itoa_le (body.length : Int) (by omega) (by omega)
    have hz : (mkB body).size = body.length := mkB_size body
    generalize Lib.itoa 200 = A at *
    generalize Lib.itoa (body.length : Int) = D at *
    have c1 : ∀ W, (Op.stringOp .add ⟨#[72, 84, 84, 80, 47, 49, 46, 49, 32]⟩ (mkB A)).run Tryz.prog W = .ok (.string (mkB ([72, 84, 84, 80, 47, 49, 46, 49, 32] ++ A))) W := fun W => run_cat W [72, 84, 84, 80, 47, 49, 46, 49, 32] A (by simp; omega)
    have c2 : ∀ W, (Op.stringOp .add (mkB ([72, 84, 84, 80, 47, 49, 46, 49, 32] ++ A)) ⟨#[32]⟩).run Tryz.prog W = .ok (.string (mkB (([72, 84, 84, 80, 47, 49, 46, 49, 32] ++ A) ++ [32]))) W := fun W => run_cat W ([72, 84, 84, 80, 47, 49, 46, 49, 32] ++ A) [32] (by simp; omega)
    have c3 : ∀ W, (Op.stringOp .add (mkB (([72, 84, 84, 80, 47, 49, 46, 49, 32] ++ A) ++ [32])) ⟨#[79, 75]⟩).run Tryz.prog W = .ok (.string (mkB ((([72, 84, 84, 80, 47, 49, 46, 49, 32] ++ A) ++ [32]) ++ [79, 75]))) W := fun W => run_cat W (([72, 84, 84, 80, 47, 49, 46, 49, 32] ++ A) ++ [32]) [79, 75] (by simp; omega)
    have c4 : ∀ W, (Op.stringOp .add (mkB ((([72, 84, 84, 80, 47, 49, 46, 49, 32] ++ A) ++ [32]) ++ [79, 75])) ⟨#[13, 10, 67, 111, 110, 116, 101, 110, 116, 45, 76, 101, 110, 103, 116, 104, 58, 32]⟩).run Tryz.prog W = .ok (.string (mkB (((([72, 84, 84, 80, 47, 49, 46, 49, 32] ++ A) ++ [32]) ++ [79, 75]) ++ [13, 10, 67, 111, 110, 116, 101, 110, 116, 45, 76, 101, 110, 103, 116, 104, 58, 32]))) W := fun W => run_cat W ((([72, 84, 84, 80, 47, 49, 46, 49, 32] ++ A) ++ [32]) ++ [79, 75]) [13, 10, 67, 111, 110, 116, 101, 110, 116, 45, 76, 101, 110, 103, 116, 104, 58, 32] (by simp; omega)
    have c5 := fun W => run_cat W (((([72, 84, 84, 80, 47, 49, 46, 49, 32] ++ A) ++ [32]) ++ [79, 75]) ++ [13, 10, 67, 111, 110, 116, 101, 110, 116, 45, 76, 101, 110, 103, 116, 104, 58, 32]) D (by simp; omega)
    have c6 : ∀ W, (Op.stringOp .add (mkB ((((([72, 84, 84, 80, 47, 49, 46, 49, 32] ++ A) ++ [32]) ++ [79, 75]) ++ [13, 10, 67, 111, 110, 116, 101, 110, 116, 45, 76, 101, 110, 103, 116, 104, 58, 32]) ++ D)) ⟨#[13, 10, 13, 10]⟩).run Tryz.prog W = .ok (.string (mkB (((((([72, 84, 84, 80, 47, 49, 46, 49, 32] ++ A) ++ [32]) ++ [79, 75]) ++ [13, 10, 67, 111, 110, 116, 101, 110, 116, 45, 76, 101, 110, 103, 116, 104, 58, 32]) ++ D) ++ [13, 10, 13, 10]))) W := fun W => run_cat W ((((([72, 84, 84, 80, 47, 49, 46, 49, 32] ++ A) ++ [32]) ++ [79, 75]) ++ [13, 10, 67, 111, 110, 116, 101, 110, 116, 45, 76, 101, 110, 103, 116, 104, 58, 32]) ++ D) [13, 10, 13, 10] (by simp; omega)
    have c7 := fun W => run_cat W (((((([72, 84, 84, 80, 47, 49, 46, 49, 32] ++ A) ++ [32]) ++ [79, 75]) ++ [13, 10, 67, 111, 110, 116, 101, 110, 116, 45, 76, 101, 110, 103, 116, 104, 58, 32]) ++ D) ++ [13, 10, 13, 10]) body (by simp; omega)
    rw [HP.out] at c7
    have c9 := conv_bytes (replyP 200 body)
    generalize replyP 200 body = RR at *
    generalize hz8 : mkB RR = z8 at *
    have HZ8 := hid hz8
    clear hz8
    generalize mkB (((((([72, 84, 84, 80, 47, 49, 46, 49, 32] ++ A) ++ [32]) ++ [79, 75]) ++ [13, 10, 67, 111, 110, 116, 101, 110, 116, 45, 76, 101, 110, 103, 116, 104, 58, 32]) ++ D) ++ [13, 10, 13, 10]) = z6 at *
    generalize mkB ((((([72, 84, 84, 80, 47, 49, 46, 49, 32] ++ A) ++ [32]) ++ [79, 75]) ++ [13, 10, 67, 111, 110, 116, 101, 110, 116, 45, 76, 101, 110, 103, 116, 104, 58, 32]) ++ D) = z5 at *
    generalize mkB (((([72, 84, 84, 80, 47, 49, 46, 49, 32] ++ A) ++ [32]) ++ [79, 75]) ++ [13, 10, 67, 111, 110, 116, 101, 110, 116, 45, 76, 101, 110, 103, 116, 104, 58, 32]) = z4 at *
    generalize mkB ((([72, 84, 84, 80, 47, 49, 46, 49, 32] ++ A) ++ [32]) ++ [79, 75]) = z3 at *
    generalize mkB (([72, 84, 84, 80, 47, 49, 46, 49, 32] ++ A) ++ [32]) = z2 at *
    generalize mkB ([72, 84, 84, 80, 47, 49, 46, 49, 32] ++ A) = z1 at *
    generalize hB : mkB body = bb at *
    have hzi : ((bb.size : Nat) : Int) = (body.length : Int) := by omega
    clear HP l1 l2 hB hz
    generalize (body.length : Int) = bl at *
    go_enter Tryz.func33, Tryz.ntmps33
    go_wp2_with (first
      | (go_at_call 30; refine hD1.mono ?_; rintro e w1 ⟨rfl, K1⟩; clear hD1)
      | (go_at_call 30; refine (hD2 _).mono ?_; rintro e w3 ⟨rfl, K3⟩; clear hD2)
      | fail)
    go_ret
    exact ⟨w3, K1.and K3, rfl, by rw [HZ8.out]⟩
  by_cases h307 : n = 307
  · subst h307
    have HP : Hid (((((([72, 84, 84, 80, 47, 49, 46, 49, 32] ++ Lib.itoa 307) ++ [32]) ++ [84, 101, 109, 112, 111, 114, 97, 114, 121, 32, 82, 101, 100, 105, 114, 101, 99, 116]) ++ [13, 10, 67, 111, 110, 116, 101, 110, 116, 45, 76, 101, 110, 103, 116, 104, 58, 32]) ++ Lib.itoa (body.length : Int)) ++ [13, 10, 13, 10] ++ body = replyP 307 body) := by
      show _ = _
      unfold replyP
      rw [show wordP 307 = [84, 101, 109, 112, 111, 114, 97, 114, 121, 32, 82, 101, 100, 105, 114, 101, 99, 116] from rfl]
    have hD1 := digits_any w 307 (by decide) (by decide)
    have hD2 := fun V => digits_any V (body.length : Int) (by omega) (by omega)
    have l1 := itoa_le 307 (by decide) (by decide)
    have l2 := itoa_le (body.length : Int) (by omega) (by omega)
    have hz : (mkB body).size = body.length := mkB_size body
    generalize Lib.itoa 307 = A at *
    generalize Lib.itoa (body.length : Int) = D at *
    have c1 : ∀ W, (Op.stringOp .add ⟨#[72, 84, 84, 80, 47, 49, 46, 49, 32]⟩ (mkB A)).run Tryz.prog W = .ok (.string (mkB ([72, 84, 84, 80, 47, 49, 46, 49, 32] ++ A))) W := fun W => run_cat W [72, 84, 84, 80, 47, 49, 46, 49, 32] A (by simp; omega)
    have c2 : ∀ W, (Op.stringOp .add (mkB ([72, 84, 84, 80, 47, 49, 46, 49, 32] ++ A)) ⟨#[32]⟩).run Tryz.prog W = .ok (.string (mkB (([72, 84, 84, 80, 47, 49, 46, 49, 32] ++ A) ++ [32]))) W := fun W => run_cat W ([72, 84, 84, 80, 47, 49, 46, 49, 32] ++ A) [32] (by simp; omega)
    have c3 : ∀ W, (Op.stringOp .add (mkB (([72, 84, 84, 80, 47, 49, 46, 49, 32] ++ A) ++ [32])) ⟨#[84, 101, 109, 112, 111, 114, 97, 114, 121, 32, 82, 101, 100, 105, 114, 101, 99, 116]⟩).run Tryz.prog W = .ok (.string (mkB ((([72, 84, 84, 80, 47, 49, 46, 49, 32] ++ A) ++ [32]) ++ [84, 101, 109, 112, 111, 114, 97, 114, 121, 32, 82, 101, 100, 105, 114, 101, 99, 116]))) W := fun W => run_cat W (([72, 84, 84, 80, 47, 49, 46, 49, 32] ++ A) ++ [32]) [84, 101, 109, 112, 111, 114, 97, 114, 121, 32, 82, 101, 100, 105, 114, 101, 99, 116] (by simp; omega)
    have c4 : ∀ W, (Op.stringOp .add (mkB ((([72, 84, 84, 80, 47, 49, 46, 49, 32] ++ A) ++ [32]) ++ [84, 101, 109, 112, 111, 114, 97, 114, 121, 32, 82, 101, 100, 105, 114, 101, 99, 116])) ⟨#[13, 10, 67, 111, 110, 116, 101, 110, 116, 45, 76, 101, 110, 103, 116, 104, 58, 32]⟩).run Tryz.prog W = .ok (.string (mkB (((([72, 84, 84, 80, 47, 49, 46, 49, 32] ++ A) ++ [32]) ++ [84, 101, 109, 112, 111, 114, 97, 114, 121, 32, 82, 101, 100, 105, 114, 101, 99, 116]) ++ [13, 10, 67, 111, 110, 116, 101, 110, 116, 45, 76, 101, 110, 103, 116, 104, 58, 32]))) W := fun W => run_cat W ((([72, 84, 84, 80, 47, 49, 46, 49, 32] ++ A) ++ [32]) ++ [84, 101, 109, 112, 111, 114, 97, 114, 121, 32, 82, 101, 100, 105, 114, 101, 99, 116]) [13, 10, 67, 111, 110, 116, 101, 110, 116, 45, 76, 101, 110, 103, 116, 104, 58, 32] (by simp; omega)
    have c5 := fun W => run_cat W (((([72, 84, 84, 80, 47, 49, 46, 49, 32] ++ A) ++ [32]) ++ [84, 101, 109, 112, 111, 114, 97, 114, 121, 32, 82, 101, 100, 105, 114, 101, 99, 116]) ++ [13, 10, 67, 111, 110, 116, 101, 110, 116, 45, 76, 101, 110, 103, 116, 104, 58, 32]) D (by simp; omega)
    have c6 : ∀ W, (Op.stringOp .add (mkB ((((([72, 84, 84, 80, 47, 49, 46, 49, 32] ++ A) ++ [32]) ++ [84, 101, 109, 112, 111, 114, 97, 114, 121, 32, 82, 101, 100, 105, 114, 101, 99, 116]) ++ [13, 10, 67, 111, 110, 116, 101, 110, 116, 45, 76, 101, 110, 103, 116, 104, 58, 32]) ++ D)) ⟨#[13, 10, 13, 10]⟩).run Tryz.prog W = .ok (.string (mkB (((((([72, 84, 84, 80, 47, 49, 46, 49, 32] ++ A) ++ [32]) ++ [84, 101, 109, 112, 111, 114, 97, 114, 121, 32, 82, 101, 100, 105, 114, 101, 99, 116]) ++ [13, 10, 67, 111, 110, 116, 101, 110, 116, 45, 76, 101, 110, 103, 116, 104, 58, 32]) ++ D) ++ [13, 10, 13, 10]))) W := fun W => run_cat W ((((([72, 84, 84, 80, 47, 49, 46, 49, 32] ++ A) ++ [32]) ++ [84, 101, 109, 112, 111, 114, 97, 114, 121, 32, 82, 101, 100, 105, 114, 101, 99, 116]) ++ [13, 10, 67, 111, 110, 116, 101, 110, 116, 45, 76, 101, 110, 103, 116, 104, 58, 32]) ++ D) [13, 10, 13, 10] (by simp; omega)
    have c7 := fun W => run_cat W (((((([72, 84, 84, 80, 47, 49, 46, 49, 32] ++ A) ++ [32]) ++ [84, 101, 109, 112, 111, 114, 97, 114, 121, 32, 82, 101, 100, 105, 114, 101, 99, 116]) ++ [13, 10, 67, 111, 110, 116, 101, 110, 116, 45, 76, 101, 110, 103, 116, 104, 58, 32]) ++ D) ++ [13, 10, 13, 10]) body (by simp; omega)
    rw [HP.out] at c7
    have c9 := conv_bytes (replyP 307 body)
    generalize replyP 307 body = RR at *
    generalize hz8 : mkB RR = z8 at *
    have HZ8 := hid hz8
    clear hz8
    generalize mkB (((((([72, 84, 84, 80, 47, 49, 46, 49, 32] ++ A) ++ [32]) ++ [84, 101, 109, 112, 111, 114, 97, 114, 121, 32, 82, 101, 100, 105, 114, 101, 99, 116]) ++ [13, 10, 67, 111, 110, 116, 101, 110, 116, 45, 76, 101, 110, 103, 116, 104, 58, 32]) ++ D) ++ [13, 10, 13, 10]) = z6 at *
    generalize mkB ((((([72, 84, 84, 80, 47, 49, 46, 49, 32] ++ A) ++ [32]) ++ [84, 101, 109, 112, 111, 114, 97, 114, 121, 32, 82, 101, 100, 105, 114, 101, 99, 116]) ++ [13, 10, 67, 111, 110, 116, 101, 110, 116, 45, 76, 101, 110, 103, 116, 104, 58, 32]) ++ D) = z5 at *
    generalize mkB (((([72, 84, 84, 80, 47, 49, 46, 49, 32] ++ A) ++ [32]) ++ [84, 101, 109, 112, 111, 114, 97, 114, 121, 32, 82, 101, 100, 105, 114, 101, 99, 116]) ++ [13, 10, 67, 111, 110, 116, 101, 110, 116, 45, 76, 101, 110, 103, 116, 104, 58, 32]) = z4 at *
    generalize mkB ((([72, 84, 84, 80, 47, 49, 46, 49, 32] ++ A) ++ [32]) ++ [84, 101, 109, 112, 111, 114, 97, 114, 121, 32, 82, 101, 100, 105, 114, 101, 99, 116]) = z3 at *
    generalize mkB (([72, 84, 84, 80, 47, 49, 46, 49, 32] ++ A) ++ [32]) = z2 at *
    generalize mkB ([72, 84, 84, 80, 47, 49, 46, 49, 32] ++ A) = z1 at *
    generalize hB : mkB body = bb at *
    have hzi : ((bb.size : Nat) : Int) = (body.length : Int) := by omega
    clear HP l1 l2 hB hz
    generalize (body.length : Int) = bl at *
    go_enter Tryz.func33, Tryz.ntmps33
    go_wp2_with (first
      | (go_at_call 30; refine hD1.mono ?_; rintro e w1 ⟨rfl, K1⟩; clear hD1)
      | (go_at_call 30; refine (hD2 _).mono ?_; rintro e w3 ⟨rfl, K3⟩; clear hD2)
      | fail)
    go_ret
    exact ⟨w3, K1.and K3, rfl, by rw [HZ8.out]⟩
  by_cases h400 : n = 400
  · subst h400
    have HP : Hid (((((([72, 84, 84, 80, 47, 49, 46, 49, 32] ++ Lib.itoa 400) ++ [32]) ++ [66, 97, 100, 32, 82, 101, 113, 117, 101, 115, 116]) ++ [13, 10, 67, 111, 110, 116, 101, 110, 116, 45, 76, 101, 110, 103, 116, 104, 58, 32]) ++ Lib.itoa (body.length : Int)) ++ [13, 10, 13, 10] ++ body = replyP 400 body) := by
      show _ = _
      unfold replyP
      rw [show wordP 400 = [66, 97, 100, 32, 82, 101, 113, 117, 101, 115, 116] from rfl]
    have hD1 := digits_any w 400 (by decide) (by decide)
    have hD2 := fun V => digits_any V (body.length : Int) (by omega) (by omega)
    have l1 := itoa_le 400 (by decide) (by decide)
    have l2 := itoa_le (body.length : Int) (by omega) (by omega)
    have hz : (mkB body).size = body.length := mkB_size body
    generalize Lib.itoa 400 = A at *
    generalize Lib.itoa (body.length : Int) = D at *
    have c1 : ∀ W, (Op.stringOp .add ⟨#[72, 84, 84, 80, 47, 49, 46, 49, 32]⟩ (mkB A)).run Tryz.prog W = .ok (.string (mkB ([72, 84, 84, 80, 47, 49, 46, 49, 32] ++ A))) W := fun W => run_cat W [72, 84, 84, 80, 47, 49, 46, 49, 32] A (by simp; omega)
    have c2 : ∀ W, (Op.stringOp .add (mkB ([72, 84, 84, 80, 47, 49, 46, 49, 32] ++ A)) ⟨#[32]⟩).run Tryz.prog W = .ok (.string (mkB (([72, 84, 84, 80, 47, 49, 46, 49, 32] ++ A) ++ [32]))) W := fun W => run_cat W ([72, 84, 84, 80, 47, 49, 46, 49, 32] ++ A) [32] (by simp; omega)
    have c3 : ∀ W, (Op.stringOp .add (mkB (([72, 84, 84, 80, 47, 49, 46, 49, 32] ++ A) ++ [32])) ⟨#[66, 97, 100, 32, 82, 101, 113, 117, 101, 115, 116]⟩).run Tryz.prog W = .ok (.string (mkB ((([72, 84, 84, 80, 47, 49, 46, 49, 32] ++ A) ++ [32]) ++ [66, 97, 100, 32, 82, 101, 113, 117, 101, 115, 116]))) W := fun W => run_cat W (([72, 84, 84, 80, 47, 49, 46, 49, 32] ++ A) ++ [32]) [66, 97, 100, 32, 82, 101, 113, 117, 101, 115, 116] (by simp; omega)
    have c4 : ∀ W, (Op.stringOp .add (mkB ((([72, 84, 84, 80, 47, 49, 46, 49, 32] ++ A) ++ [32]) ++ [66, 97, 100, 32, 82, 101, 113, 117, 101, 115, 116])) ⟨#[13, 10, 67, 111, 110, 116, 101, 110, 116, 45, 76, 101, 110, 103, 116, 104, 58, 32]⟩).run Tryz.prog W = .ok (.string (mkB (((([72, 84, 84, 80, 47, 49, 46, 49, 32] ++ A) ++ [32]) ++ [66, 97, 100, 32, 82, 101, 113, 117, 101, 115, 116]) ++ [13, 10, 67, 111, 110, 116, 101, 110, 116, 45, 76, 101, 110, 103, 116, 104, 58, 32]))) W := fun W => run_cat W ((([72, 84, 84, 80, 47, 49, 46, 49, 32] ++ A) ++ [32]) ++ [66, 97, 100, 32, 82, 101, 113, 117, 101, 115, 116]) [13, 10, 67, 111, 110, 116, 101, 110, 116, 45, 76, 101, 110, 103, 116, 104, 58, 32] (by simp; omega)
    have c5 := fun W => run_cat W (((([72, 84, 84, 80, 47, 49, 46, 49, 32] ++ A) ++ [32]) ++ [66, 97, 100, 32, 82, 101, 113, 117, 101, 115, 116]) ++ [13, 10, 67, 111, 110, 116, 101, 110, 116, 45, 76, 101, 110, 103, 116, 104, 58, 32]) D (by simp; omega)
    have c6 : ∀ W, (Op.stringOp .add (mkB ((((([72, 84, 84, 80, 47, 49, 46, 49, 32] ++ A) ++ [32]) ++ [66, 97, 100, 32, 82, 101, 113, 117, 101, 115, 116]) ++ [13, 10, 67, 111, 110, 116, 101, 110, 116, 45, 76, 101, 110, 103, 116, 104, 58, 32]) ++ D)) ⟨#[13, 10, 13, 10]⟩).run Tryz.prog W = .ok (.string (mkB (((((([72, 84, 84, 80, 47, 49, 46, 49, 32] ++ A) ++ [32]) ++ [66, 97, 100, 32, 82, 101, 113, 117, 101, 115, 116]) ++ [13, 10, 67, 111, 110, 116, 101, 110, 116, 45, 76, 101, 110, 103, 116, 104, 58, 32]) ++ D) ++ [13, 10, 13, 10]))) W := fun W => run_cat W ((((([72, 84, 84, 80, 47, 49, 46, 49, 32] ++ A) ++ [32]) ++ [66, 97, 100, 32, 82, 101, 113, 117, 101, 115, 116]) ++ [13, 10, 67, 111, 110, 116, 101, 110, 116, 45, 76, 101, 110, 103, 116, 104, 58, 32]) ++ D) [13, 10, 13, 10] (by simp; omega)
    have c7 := fun W => run_cat W (((((([72, 84, 84, 80, 47, 49, 46, 49, 32] ++ A) ++ [32]) ++ [66, 97, 100, 32, 82, 101, 113, 117, 101, 115, 116]) ++ [13, 10, 67, 111, 110, 116, 101, 110, 116, 45, 76, 101, 110, 103, 116, 104, 58, 32]) ++ D) ++ [13, 10, 13, 10]) body (by simp; omega)
    rw [HP.out] at c7
    have c9 := conv_bytes (replyP 400 body)
    generalize replyP 400 body = RR at *
    generalize hz8 : mkB RR = z8 at *
    have HZ8 := hid hz8
    clear hz8
    generalize mkB (((((([72, 84, 84, 80, 47, 49, 46, 49, 32] ++ A) ++ [32]) ++ [66, 97, 100, 32, 82, 101, 113, 117, 101, 115, 116]) ++ [13, 10, 67, 111, 110, 116, 101, 110, 116, 45, 76, 101, 110, 103, 116, 104, 58, 32]) ++ D) ++ [13, 10, 13, 10]) = z6 at *
    generalize mkB ((((([72, 84, 84, 80, 47, 49, 46, 49, 32] ++ A) ++ [32]) ++ [66, 97, 100, 32, 82, 101, 113, 117, 101, 115, 116]) ++ [13, 10, 67, 111, 110, 116, 101, 110, 116, 45, 76, 101, 110, 103, 116, 104, 58, 32]) ++ D) = z5 at *
    generalize mkB (((([72, 84, 84, 80, 47, 49, 46, 49, 32] ++ A) ++ [32]) ++ [66, 97, 100, 32, 82, 101, 113, 117, 101, 115, 116]) ++ [13, 10, 67, 111, 110, 116, 101, 110, 116, 45, 76, 101, 110, 103, 116, 104, 58, 32]) = z4 at *
    generalize mkB ((([72, 84, 84, 80, 47, 49, 46, 49, 32] ++ A) ++ [32]) ++ [66, 97, 100, 32, 82, 101, 113, 117, 101, 115, 116]) = z3 at *
    generalize mkB (([72, 84, 84, 80, 47, 49, 46, 49, 32] ++ A) ++ [32]) = z2 at *
    generalize mkB ([72, 84, 84, 80, 47, 49, 46, 49, 32] ++ A) = z1 at *
    generalize hB : mkB body = bb at *
    have hzi : ((bb.size : Nat) : Int) = (body.length : Int) := by omega
    clear HP l1 l2 hB hz
    generalize (body.length : Int) = bl at *
    go_enter Tryz.func33, Tryz.ntmps33
    go_wp2_with (first
      | (go_at_call 30; refine hD1.mono ?_; rintro e w1 ⟨rfl, K1⟩; clear hD1)
      | (go_at_call 30; refine (hD2 _).mono ?_; rintro e w3 ⟨rfl, K3⟩; clear hD2)
      | fail)
    go_ret
    exact ⟨w3, K1.and K3, rfl, by rw [HZ8.out]⟩
  by_cases h404 : n = 404
  · subst h404
    have HP : Hid (((((([72, 84, 84, 80, 47, 49, 46, 49, 32] ++ Lib.itoa 404) ++ [32]) ++ [78, 111, 116, 32, 70, 111, 117, 110, 100]) ++ [13, 10, 67, 111, 110, 116, 101, 110, 116, 45, 76, 101, 110, 103, 116, 104, 58, 32]) ++ Lib.itoa (body.length : Int)) ++ [13, 10, 13, 10] ++ body = replyP 404 body) := by
      show _ = _
      unfold replyP
      rw [show wordP 404 = [78, 111, 116, 32, 70, 111, 117, 110, 100] from rfl]
    have hD1 := digits_any w 404 (by decide) (by decide)
    have hD2 := fun V => digits_any V (body.length : Int) (by omega) (by omega)
    have l1 := itoa_le 404 (by decide) (by decide)
    have l2 := itoa_le (body.length : Int) (by omega) (by omega)
    have hz : (mkB body).size = body.length := mkB_size body
    generalize Lib.itoa 404 = A at *
    generalize Lib.itoa (body.length : Int) = D at *
    have c1 : ∀ W, (Op.stringOp .add ⟨#[72, 84, 84, 80, 47, 49, 46, 49, 32]⟩ (mkB A)).run Tryz.prog W = .ok (.string (mkB ([72, 84, 84, 80, 47, 49, 46, 49, 32] ++ A))) W := fun W => run_cat W [72, 84, 84, 80, 47, 49, 46, 49, 32] A (by simp; omega)
    have c2 : ∀ W, (Op.stringOp .add (mkB ([72, 84, 84, 80, 47, 49, 46, 49, 32] ++ A)) ⟨#[32]⟩).run Tryz.prog W = .ok (.string (mkB (([72, 84, 84, 80, 47, 49, 46, 49, 32] ++ A) ++ [32]))) W := fun W => run_cat W ([72, 84, 84, 80, 47, 49, 46, 49, 32] ++ A) [32] (by simp; omega)
    have c3 : ∀ W, (Op.stringOp .add (mkB (([72, 84, 84, 80, 47, 49, 46, 49, 32] ++ A) ++ [32])) ⟨#[78, 111, 116, 32, 70, 111, 117, 110, 100]⟩).run Tryz.prog W = .ok (.string (mkB ((([72, 84, 84, 80, 47, 49, 46, 49, 32] ++ A) ++ [32]) ++ [78, 111, 116, 32, 70, 111, 117, 110, 100]))) W := fun W => run_cat W (([72, 84, 84, 80, 47, 49, 46, 49, 32] ++ A) ++ [32]) [78, 111, 116, 32, 70, 111, 117, 110, 100] (by simp; omega)
    have c4 : ∀ W, (Op.stringOp .add (mkB ((([72, 84, 84, 80, 47, 49, 46, 49, 32] ++ A) ++ [32]) ++ [78, 111, 116, 32, 70, 111, 117, 110, 100])) ⟨#[13, 10, 67, 111, 110, 116, 101, 110, 116, 45, 76, 101, 110, 103, 116, 104, 58, 32]⟩).run Tryz.prog W = .ok (.string (mkB (((([72, 84, 84, 80, 47, 49, 46, 49, 32] ++ A) ++ [32]) ++ [78, 111, 116, 32, 70, 111, 117, 110, 100]) ++ [13, 10, 67, 111, 110, 116, 101, 110, 116, 45, 76, 101, 110, 103, 116, 104, 58, 32]))) W := fun W => run_cat W ((([72, 84, 84, 80, 47, 49, 46, 49, 32] ++ A) ++ [32]) ++ [78, 111, 116, 32, 70, 111, 117, 110, 100]) [13, 10, 67, 111, 110, 116, 101, 110, 116, 45, 76, 101, 110, 103, 116, 104, 58, 32] (by simp; omega)
    have c5 := fun W => run_cat W (((([72, 84, 84, 80, 47, 49, 46, 49, 32] ++ A) ++ [32]) ++ [78, 111, 116, 32, 70, 111, 117, 110, 100]) ++ [13, 10, 67, 111, 110, 116, 101, 110, 116, 45, 76, 101, 110, 103, 116, 104, 58, 32]) D (by simp; omega)
    have c6 : ∀ W, (Op.stringOp .add (mkB ((((([72, 84, 84, 80, 47, 49, 46, 49, 32] ++ A) ++ [32]) ++ [78, 111, 116, 32, 70, 111, 117, 110, 100]) ++ [13, 10, 67, 111, 110, 116, 101, 110, 116, 45, 76, 101, 110, 103, 116, 104, 58, 32]) ++ D)) ⟨#[13, 10, 13, 10]⟩).run Tryz.prog W = .ok (.string (mkB (((((([72, 84, 84, 80, 47, 49, 46, 49, 32] ++ A) ++ [32]) ++ [78, 111, 116, 32, 70, 111, 117, 110, 100]) ++ [13, 10, 67, 111, 110, 116, 101, 110, 116, 45, 76, 101, 110, 103, 116, 104, 58, 32]) ++ D) ++ [13, 10, 13, 10]))) W := fun W => run_cat W ((((([72, 84, 84, 80, 47, 49, 46, 49, 32] ++ A) ++ [32]) ++ [78, 111, 116, 32, 70, 111, 117, 110, 100]) ++ [13, 10, 67, 111, 110, 116, 101, 110, 116, 45, 76, 101, 110, 103, 116, 104, 58, 32]) ++ D) [13, 10, 13, 10] (by simp; omega)
    have c7 := fun W => run_cat W (((((([72, 84, 84, 80, 47, 49, 46, 49, 32] ++ A) ++ [32]) ++ [78, 111, 116, 32, 70, 111, 117, 110, 100]) ++ [13, 10, 67, 111, 110, 116, 101, 110, 116, 45, 76, 101, 110, 103, 116, 104, 58, 32]) ++ D) ++ [13, 10, 13, 10]) body (by simp; omega)
    rw [HP.out] at c7
    have c9 := conv_bytes (replyP 404 body)
    generalize replyP 404 body = RR at *
    generalize hz8 : mkB RR = z8 at *
    have HZ8 := hid hz8
    clear hz8
    generalize mkB (((((([72, 84, 84, 80, 47, 49, 46, 49, 32] ++ A) ++ [32]) ++ [78, 111, 116, 32, 70, 111, 117, 110, 100]) ++ [13, 10, 67, 111, 110, 116, 101, 110, 116, 45, 76, 101, 110, 103, 116, 104, 58, 32]) ++ D) ++ [13, 10, 13, 10]) = z6 at *
    generalize mkB ((((([72, 84, 84, 80, 47, 49, 46, 49, 32] ++ A) ++ [32]) ++ [78, 111, 116, 32, 70, 111, 117, 110, 100]) ++ [13, 10, 67, 111, 110, 116, 101, 110, 116, 45, 76, 101, 110, 103, 116, 104, 58, 32]) ++ D) = z5 at *
    generalize mkB (((([72, 84, 84, 80, 47, 49, 46, 49, 32] ++ A) ++ [32]) ++ [78, 111, 116, 32, 70, 111, 117, 110, 100]) ++ [13, 10, 67, 111, 110, 116, 101, 110, 116, 45, 76, 101, 110, 103, 116, 104, 58, 32]) = z4 at *
    generalize mkB ((([72, 84, 84, 80, 47, 49, 46, 49, 32] ++ A) ++ [32]) ++ [78, 111, 116, 32, 70, 111, 117, 110, 100]) = z3 at *
    generalize mkB (([72, 84, 84, 80, 47, 49, 46, 49, 32] ++ A) ++ [32]) = z2 at *
    generalize mkB ([72, 84, 84, 80, 47, 49, 46, 49, 32] ++ A) = z1 at *
    generalize hB : mkB body = bb at *
    have hzi : ((bb.size : Nat) : Int) = (body.length : Int) := by omega
    clear HP l1 l2 hB hz
    generalize (body.length : Int) = bl at *
    go_enter Tryz.func33, Tryz.ntmps33
    go_wp2_with (first
      | (go_at_call 30; refine hD1.mono ?_; rintro e w1 ⟨rfl, K1⟩; clear hD1)
      | (go_at_call 30; refine (hD2 _).mono ?_; rintro e w3 ⟨rfl, K3⟩; clear hD2)
      | fail)
    go_ret
    exact ⟨w3, K1.and K3, rfl, by rw [HZ8.out]⟩
  by_cases h405 : n = 405
  · subst h405
    have HP : Hid (((((([72, 84, 84, 80, 47, 49, 46, 49, 32] ++ Lib.itoa 405) ++ [32]) ++ [77, 101, 116, 104, 111, 100, 32, 78, 111, 116, 32, 65, 108, 108, 111, 119, 101, 100]) ++ [13, 10, 67, 111, 110, 116, 101, 110, 116, 45, 76, 101, 110, 103, 116, 104, 58, 32]) ++ Lib.itoa (body.length : Int)) ++ [13, 10, 13, 10] ++ body = replyP 405 body) := by
      show _ = _
      unfold replyP
      rw [show wordP 405 = [77, 101, 116, 104, 111, 100, 32, 78, 111, 116, 32, 65, 108, 108, 111, 119, 101, 100] from rfl]
    have hD1 := digits_any w 405 (by decide) (by decide)
    have hD2 := fun V => digits_any V (body.length : Int) (by omega) (by omega)
    have l1 := itoa_le 405 (by decide) (by decide)
    have l2 := itoa_le (body.length : Int) (by omega) (by omega)
    have hz : (mkB body).size = body.length := mkB_size body
    generalize Lib.itoa 405 = A at *
    generalize Lib.itoa (body.length : Int) = D at *
    have c1 : ∀ W, (Op.stringOp .add ⟨#[72, 84, 84, 80, 47, 49, 46, 49, 32]⟩ (mkB A)).run Tryz.prog W = .ok (.string (mkB ([72, 84, 84, 80, 47, 49, 46, 49, 32] ++ A))) W := fun W => run_cat W [72, 84, 84, 80, 47, 49, 46, 49, 32] A (by simp; omega)
    have c2 : ∀ W, (Op.stringOp .add (mkB ([72, 84, 84, 80, 47, 49, 46, 49, 32] ++ A)) ⟨#[32]⟩).run Tryz.prog W = .ok (.string (mkB (([72, 84, 84, 80, 47, 49, 46, 49, 32] ++ A) ++ [32]))) W := fun W => run_cat W ([72, 84, 84, 80, 47, 49, 46, 49, 32] ++ A) [32] (by simp; omega)
    have c3 : ∀ W, (Op.stringOp .add (mkB (([72, 84, 84, 80, 47, 49, 46, 49, 32] ++ A) ++ [32])) ⟨#[77, 101, 116, 104, 111, 100, 32, 78, 111, 116, 32, 65, 108, 108, 111, 119, 101, 100]⟩).run Tryz.prog W = .ok (.string (mkB ((([72, 84, 84, 80, 47, 49, 46, 49, 32] ++ A) ++ [32]) ++ [77, 101, 116, 104, 111, 100, 32, 78, 111, 116, 32, 65, 108, 108, 111, 119, 101, 100]))) W := fun W => run_cat W (([72, 84, 84, 80, 47, 49, 46, 49, 32] ++ A) ++ [32]) [77, 101, 116, 104, 111, 100, 32, 78, 111, 116, 32, 65, 108, 108, 111, 119, 101, 100] (by simp; omega)
    have c4 : ∀ W, (Op.stringOp .add (mkB ((([72, 84, 84, 80, 47, 49, 46, 49, 32] ++ A) ++ [32]) ++ [77, 101, 116, 104, 111, 100, 32, 78, 111, 116, 32, 65, 108, 108, 111, 119, 101, 100])) ⟨#[13, 10, 67, 111, 110, 116, 101, 110, 116, 45, 76, 101, 110, 103, 116, 104, 58, 32]⟩).run Tryz.prog W = .ok (.string (mkB (((([72, 84, 84, 80, 47, 49, 46, 49, 32] ++ A) ++ [32]) ++ [77, 101, 116, 104, 111, 100, 32, 78, 111, 116, 32, 65, 108, 108, 111, 119, 101, 100]) ++ [13, 10, 67, 111, 110, 116, 101, 110, 116, 45, 76, 101, 110, 103, 116, 104, 58, 32]))) W := fun W => run_cat W ((([72, 84, 84, 80, 47, 49, 46, 49, 32] ++ A) ++ [32]) ++ [77, 101, 116, 104, 111, 100, 32, 78, 111, 116, 32, 65, 108, 108, 111, 119, 101, 100]) [13, 10, 67, 111, 110, 116, 101, 110, 116, 45, 76, 101, 110, 103, 116, 104, 58, 32] (by simp; omega)
    have c5 := fun W => run_cat W (((([72, 84, 84, 80, 47, 49, 46, 49, 32] ++ A) ++ [32]) ++ [77, 101, 116, 104, 111, 100, 32, 78, 111, 116, 32, 65, 108, 108, 111, 119, 101, 100]) ++ [13, 10, 67, 111, 110, 116, 101, 110, 116, 45, 76, 101, 110, 103, 116, 104, 58, 32]) D (by simp; omega)
    have c6 : ∀ W, (Op.stringOp .add (mkB ((((([72, 84, 84, 80, 47, 49, 46, 49, 32] ++ A) ++ [32]) ++ [77, 101, 116, 104, 111, 100, 32, 78, 111, 116, 32, 65, 108, 108, 111, 119, 101, 100]) ++ [13, 10, 67, 111, 110, 116, 101, 110, 116, 45, 76, 101, 110, 103, 116, 104, 58, 32]) ++ D)) ⟨#[13, 10, 13, 10]⟩).run Tryz.prog W = .ok (.string (mkB (((((([72, 84, 84, 80, 47, 49, 46, 49, 32] ++ A) ++ [32]) ++ [77, 101, 116, 104, 111, 100, 32, 78, 111, 116, 32, 65, 108, 108, 111, 119, 101, 100]) ++ [13, 10, 67, 111, 110, 116, 101, 110, 116, 45, 76, 101, 110, 103, 116, 104, 58, 32]) ++ D) ++ [13, 10, 13, 10]))) W := fun W => run_cat W ((((([72, 84, 84, 80, 47, 49, 46, 49, 32] ++ A) ++ [32]) ++ [77, 101, 116, 104, 111, 100, 32, 78, 111, 116, 32, 65, 108, 108, 111, 119, 101, 100]) ++ [13, 10, 67, 111, 110, 116, 101, 110, 116, 45, 76, 101, 110, 103, 116, 104, 58, 32]) ++ D) [13, 10, 13, 10] (by simp; omega)
    have c7 := fun W => run_cat W (((((([72, 84, 84, 80, 47, 49, 46, 49, 32] ++ A) ++ [32]) ++ [77, 101, 116, 104, 111, 100, 32, 78, 111, 116, 32, 65, 108, 108, 111, 119, 101, 100]) ++ [13, 10, 67, 111, 110, 116, 101, 110, 116, 45, 76, 101, 110, 103, 116, 104, 58, 32]) ++ D) ++ [13, 10, 13, 10]) body (by simp; omega)
    rw [HP.out] at c7
    have c9 := conv_bytes (replyP 405 body)
    generalize replyP 405 body = RR at *
    generalize hz8 : mkB RR = z8 at *
    have HZ8 := hid hz8
    clear hz8
    generalize mkB (((((([72, 84, 84, 80, 47, 49, 46, 49, 32] ++ A) ++ [32]) ++ [77, 101, 116, 104, 111, 100, 32, 78, 111, 116, 32, 65, 108, 108, 111, 119, 101, 100]) ++ [13, 10, 67, 111, 110, 116, 101, 110, 116, 45, 76, 101, 110, 103, 116, 104, 58, 32]) ++ D) ++ [13, 10, 13, 10]) = z6 at *
    generalize mkB ((((([72, 84, 84, 80, 47, 49, 46, 49, 32] ++ A) ++ [32]) ++ [77, 101, 116, 104, 111, 100, 32, 78, 111, 116, 32, 65, 108, 108, 111, 119, 101, 100]) ++ [13, 10, 67, 111, 110, 116, 101, 110, 116, 45, 76, 101, 110, 103, 116, 104, 58, 32]) ++ D) = z5 at *
    generalize mkB (((([72, 84, 84, 80, 47, 49, 46, 49, 32] ++ A) ++ [32]) ++ [77, 101, 116, 104, 111, 100, 32, 78, 111, 116, 32, 65, 108, 108, 111, 119, 101, 100]) ++ [13, 10, 67, 111, 110, 116, 101, 110, 116, 45, 76, 101, 110, 103, 116, 104, 58, 32]) = z4 at *
    generalize mkB ((([72, 84, 84, 80, 47, 49, 46, 49, 32] ++ A) ++ [32]) ++ [77, 101, 116, 104, 111, 100, 32, 78, 111, 116, 32, 65, 108, 108, 111, 119, 101, 100]) = z3 at *
    generalize mkB (([72, 84, 84, 80, 47, 49, 46, 49, 32] ++ A) ++ [32]) = z2 at *
    generalize mkB ([72, 84, 84, 80, 47, 49, 46, 49, 32] ++ A) = z1 at *
    generalize hB : mkB body = bb at *
    have hzi : ((bb.size : Nat) : Int) = (body.length : Int) := by omega
    clear HP l1 l2 hB hz
    generalize (body.length : Int) = bl at *
    go_enter Tryz.func33, Tryz.ntmps33
    go_wp2_with (first
      | (go_at_call 30; refine hD1.mono ?_; rintro e w1 ⟨rfl, K1⟩; clear hD1)
      | (go_at_call 30; refine (hD2 _).mono ?_; rintro e w3 ⟨rfl, K3⟩; clear hD2)
      | fail)
    go_ret
    exact ⟨w3, K1.and K3, rfl, by rw [HZ8.out]⟩
  by_cases h409 : n = 409
  · subst h409
    have HP : Hid (((((([72, 84, 84, 80, 47, 49, 46, 49, 32] ++ Lib.itoa 409) ++ [32]) ++ [67, 111, 110, 102, 108, 105, 99, 116]) ++ [13, 10, 67, 111, 110, 116, 101, 110, 116, 45, 76, 101, 110, 103, 116, 104, 58, 32]) ++ Lib.itoa (body.length : Int)) ++ [13, 10, 13, 10] ++ body = replyP 409 body) := by
      show _ = _
      unfold replyP
      rw [show wordP 409 = [67, 111, 110, 102, 108, 105, 99, 116] from rfl]
    have hD1 := digits_any w 409 (by decide) (by decide)
    have hD2 := fun V => digits_any V (body.length : Int) (by omega) (by omega)
    have l1 := itoa_le 409 (by decide) (by decide)
    have l2 := itoa_le (body.length : Int) (by omega) (by omega)
    have hz : (mkB body).size = body.length := mkB_size body
    generalize Lib.itoa 409 = A at *
    generalize Lib.itoa (body.length : Int) = D at *
    have c1 : ∀ W, (Op.stringOp .add ⟨#[72, 84, 84, 80, 47, 49, 46, 49, 32]⟩ (mkB A)).run Tryz.prog W = .ok (.string (mkB ([72, 84, 84, 80, 47, 49, 46, 49, 32] ++ A))) W := fun W => run_cat W [72, 84, 84, 80, 47, 49, 46, 49, 32] A (by simp; omega)
    have c2 : ∀ W, (Op.stringOp .add (mkB ([72, 84, 84, 80, 47, 49, 46, 49, 32] ++ A)) ⟨#[32]⟩).run Tryz.prog W = .ok (.string (mkB (([72, 84, 84, 80, 47, 49, 46, 49, 32] ++ A) ++ [32]))) W := fun W => run_cat W ([72, 84, 84, 80, 47, 49, 46, 49, 32] ++ A) [32] (by simp; omega)
    have c3 : ∀ W, (Op.stringOp .add (mkB (([72, 84, 84, 80, 47, 49, 46, 49, 32] ++ A) ++ [32])) ⟨#[67, 111, 110, 102, 108, 105, 99, 116]⟩).run Tryz.prog W = .ok (.string (mkB ((([72, 84, 84, 80, 47, 49, 46, 49, 32] ++ A) ++ [32]) ++ [67, 111, 110, 102, 108, 105, 99, 116]))) W := fun W => run_cat W (([72, 84, 84, 80, 47, 49, 46, 49, 32] ++ A) ++ [32]) [67, 111, 110, 102, 108, 105, 99, 116] (by simp; omega)
    have c4 : ∀ W, (Op.stringOp .add (mkB ((([72, 84, 84, 80, 47, 49, 46, 49, 32] ++ A) ++ [32]) ++ [67, 111, 110, 102, 108, 105, 99, 116])) ⟨#[13, 10, 67, 111, 110, 116, 101, 110, 116, 45, 76, 101, 110, 103, 116, 104, 58, 32]⟩).run Tryz.prog W = .ok (.string (mkB (((([72, 84, 84, 80, 47, 49, 46, 49, 32] ++ A) ++ [32]) ++ [67, 111, 110, 102, 108, 105, 99, 116]) ++ [13, 10, 67, 111, 110, 116, 101, 110, 116, 45, 76, 101, 110, 103, 116, 104, 58, 32]))) W := fun W => run_cat W ((([72, 84, 84, 80, 47, 49, 46, 49, 32] ++ A) ++ [32]) ++ [67, 111, 110, 102, 108, 105, 99, 116]) [13, 10, 67, 111, 110, 116, 101, 110, 116, 45, 76, 101, 110, 103, 116, 104, 58, 32] (by simp; omega)
    have c5 := fun W => run_cat W (((([72, 84, 84, 80, 47, 49, 46, 49, 32] ++ A) ++ [32]) ++ [67, 111, 110, 102, 108, 105, 99, 116]) ++ [13, 10, 67, 111, 110, 116, 101, 110, 116, 45, 76, 101, 110, 103, 116, 104, 58, 32]) D (by simp; omega)
    have c6 : ∀ W, (Op.stringOp .add (mkB ((((([72, 84, 84, 80, 47, 49, 46, 49, 32] ++ A) ++ [32]) ++ [67, 111, 110, 102, 108, 105, 99, 116]) ++ [13, 10, 67, 111, 110, 116, 101, 110, 116, 45, 76, 101, 110, 103, 116, 104, 58, 32]) ++ D)) ⟨#[13, 10, 13, 10]⟩).run Tryz.prog W = .ok (.string (mkB (((((([72, 84, 84, 80, 47, 49, 46, 49, 32] ++ A) ++ [32]) ++ [67, 111, 110, 102, 108, 105, 99, 116]) ++ [13, 10, 67, 111, 110, 116, 101, 110, 116, 45, 76, 101, 110, 103, 116, 104, 58, 32]) ++ D) ++ [13, 10, 13, 10]))) W := fun W => run_cat W ((((([72, 84, 84, 80, 47, 49, 46, 49, 32] ++ A) ++ [32]) ++ [67, 111, 110, 102, 108, 105, 99, 116]) ++ [13, 10, 67, 111, 110, 116, 101, 110, 116, 45, 76, 101, 110, 103, 116, 104, 58, 32]) ++ D) [13, 10, 13, 10] (by simp; omega)
    have c7 := fun W => run_cat W (((((([72, 84, 84, 80, 47, 49, 46, 49, 32] ++ A) ++ [32]) ++ [67, 111, 110, 102, 108, 105, 99, 116]) ++ [13, 10, 67, 111, 110, 116, 101, 110, 116, 45, 76, 101, 110, 103, 116, 104, 58, 32]) ++ D) ++ [13, 10, 13, 10]) body (by simp; omega)
    rw [HP.out] at c7
    have c9 := conv_bytes (replyP 409 body)
    generalize replyP 409 body = RR at *
    generalize hz8 : mkB RR = z8 at *
    have HZ8 := hid hz8
    clear hz8
    generalize mkB (((((([72, 84, 84, 80, 47, 49, 46, 49, 32] ++ A) ++ [32]) ++ [67, 111, 110, 102, 108, 105, 99, 116]) ++ [13, 10, 67, 111, 110, 116, 101, 110, 116, 45, 76, 101, 110, 103, 116, 104, 58, 32]) ++ D) ++ [13, 10, 13, 10]) = z6 at *
    generalize mkB ((((([72, 84, 84, 80, 47, 49, 46, 49, 32] ++ A) ++ [32]) ++ [67, 111, 110, 102, 108, 105, 99, 116]) ++ [13, 10, 67, 111, 110, 116, 101, 110, 116, 45, 76, 101, 110, 103, 116, 104, 58, 32]) ++ D) = z5 at *
    generalize mkB (((([72, 84, 84, 80, 47, 49, 46, 49, 32] ++ A) ++ [32]) ++ [67, 111, 110, 102, 108, 105, 99, 116]) ++ [13, 10, 67, 111, 110, 116, 101, 110, 116, 45, 76, 101, 110, 103, 116, 104, 58, 32]) = z4 at *
    generalize mkB ((([72, 84, 84, 80, 47, 49, 46, 49, 32] ++ A) ++ [32]) ++ [67, 111, 110, 102, 108, 105, 99, 116]) = z3 at *
    generalize mkB (([72, 84, 84, 80, 47, 49, 46, 49, 32] ++ A) ++ [32]) = z2 at *
    generalize mkB ([72, 84, 84, 80, 47, 49, 46, 49, 32] ++ A) = z1 at *
    generalize hB : mkB body = bb at *
    have hzi : ((bb.size : Nat) : Int) = (body.length : Int) := by omega
    clear HP l1 l2 hB hz
    generalize (body.length : Int) = bl at *
    go_enter Tryz.func33, Tryz.ntmps33
    go_wp2_with (first
      | (go_at_call 30; refine hD1.mono ?_; rintro e w1 ⟨rfl, K1⟩; clear hD1)
      | (go_at_call 30; refine (hD2 _).mono ?_; rintro e w3 ⟨rfl, K3⟩; clear hD2)
      | fail)
    go_ret
    exact ⟨w3, K1.and K3, rfl, by rw [HZ8.out]⟩
  by_cases h413 : n = 413
  · subst h413
    have HP : Hid (((((([72, 84, 84, 80, 47, 49, 46, 49, 32] ++ Lib.itoa 413) ++ [32]) ++ [67, 111, 110, 116, 101, 110, 116, 32, 84, 111, 111, 32, 76, 97, 114, 103, 101]) ++ [13, 10, 67, 111, 110, 116, 101, 110, 116, 45, 76, 101, 110, 103, 116, 104, 58, 32]) ++ Lib.itoa (body.length : Int)) ++ [13, 10, 13, 10] ++ body = replyP 413 body) := by
      show _ = _
      unfold replyP
      rw [show wordP 413 = [67, 111, 110, 116, 101, 110, 116, 32, 84, 111, 111, 32, 76, 97, 114, 103, 101] from rfl]
    have hD1 := digits_any w 413 (by decide) (by decide)
    have hD2 := fun V => digits_any V (body.length : Int) (by omega) (by omega)
    have l1 := itoa_le 413 (by decide) (by decide)
    have l2 := itoa_le (body.length : Int) (by omega) (by omega)
    have hz : (mkB body).size = body.length := mkB_size body
    generalize Lib.itoa 413 = A at *
    generalize Lib.itoa (body.length : Int) = D at *
    have c1 : ∀ W, (Op.stringOp .add ⟨#[72, 84, 84, 80, 47, 49, 46, 49, 32]⟩ (mkB A)).run Tryz.prog W = .ok (.string (mkB ([72, 84, 84, 80, 47, 49, 46, 49, 32] ++ A))) W := fun W => run_cat W [72, 84, 84, 80, 47, 49, 46, 49, 32] A (by simp; omega)
    have c2 : ∀ W, (Op.stringOp .add (mkB ([72, 84, 84, 80, 47, 49, 46, 49, 32] ++ A)) ⟨#[32]⟩).run Tryz.prog W = .ok (.string (mkB (([72, 84, 84, 80, 47, 49, 46, 49, 32] ++ A) ++ [32]))) W := fun W => run_cat W ([72, 84, 84, 80, 47, 49, 46, 49, 32] ++ A) [32] (by simp; omega)
    have c3 : ∀ W, (Op.stringOp .add (mkB (([72, 84, 84, 80, 47, 49, 46, 49, 32] ++ A) ++ [32])) ⟨#[67, 111, 110, 116, 101, 110, 116, 32, 84, 111, 111, 32, 76, 97, 114, 103, 101]⟩).run Tryz.prog W = .ok (.string (mkB ((([72, 84, 84, 80, 47, 49, 46, 49, 32] ++ A) ++ [32]) ++ [67, 111, 110, 116, 101, 110, 116, 32, 84, 111, 111, 32, 76, 97, 114, 103, 101]))) W := fun W => run_cat W (([72, 84, 84, 80, 47, 49, 46, 49, 32] ++ A) ++ [32]) [67, 111, 110, 116, 101, 110, 116, 32, 84, 111, 111, 32, 76, 97, 114, 103, 101] (by simp; omega)
    have c4 : ∀ W, (Op.stringOp .add (mkB ((([72, 84, 84, 80, 47, 49, 46, 49, 32] ++ A) ++ [32]) ++ [67, 111, 110, 116, 101, 110, 116, 32, 84, 111, 111, 32, 76, 97, 114, 103, 101])) ⟨#[13, 10, 67, 111, 110, 116, 101, 110, 116, 45, 76, 101, 110, 103, 116, 104, 58, 32]⟩).run Tryz.prog W = .ok (.string (mkB (((([72, 84, 84, 80, 47, 49, 46, 49, 32] ++ A) ++ [32]) ++ [67, 111, 110, 116, 101, 110, 116, 32, 84, 111, 111, 32, 76, 97, 114, 103, 101]) ++ [13, 10, 67, 111, 110, 116, 101, 110, 116, 45, 76, 101, 110, 103, 116, 104, 58, 32]))) W := fun W => run_cat W ((([72, 84, 84, 80, 47, 49, 46, 49, 32] ++ A) ++ [32]) ++ [67, 111, 110, 116, 101, 110, 116, 32, 84, 111, 111, 32, 76, 97, 114, 103, 101]) [13, 10, 67, 111, 110, 116, 101, 110, 116, 45, 76, 101, 110, 103, 116, 104, 58, 32] (by simp; omega)
    have c5 := fun W => run_cat W (((([72, 84, 84, 80, 47, 49, 46, 49, 32] ++ A) ++ [32]) ++ [67, 111, 110, 116, 101, 110, 116, 32, 84, 111, 111, 32, 76, 97, 114, 103, 101]) ++ [13, 10, 67, 111, 110, 116, 101, 110, 116, 45, 76, 101, 110, 103, 116, 104, 58, 32]) D (by simp; omega)
    have c6 : ∀ W, (Op.stringOp .add (mkB ((((([72, 84, 84, 80, 47, 49, 46, 49, 32] ++ A) ++ [32]) ++ [67, 111, 110, 116, 101, 110, 116, 32, 84, 111, 111, 32, 76, 97, 114, 103, 101]) ++ [13, 10, 67, 111, 110, 116, 101, 110, 116, 45, 76, 101, 110, 103, 116, 104, 58, 32]) ++ D)) ⟨#[13, 10, 13, 10]⟩).run Tryz.prog W = .ok (.string (mkB (((((([72, 84, 84, 80, 47, 49, 46, 49, 32] ++ A) ++ [32]) ++ [67, 111, 110, 116, 101, 110, 116, 32, 84, 111, 111, 32, 76, 97, 114, 103, 101]) ++ [13, 10, 67, 111, 110, 116, 101, 110, 116, 45, 76, 101, 110, 103, 116, 104, 58, 32]) ++ D) ++ [13, 10, 13, 10]))) W := fun W => run_cat W ((((([72, 84, 84, 80, 47, 49, 46, 49, 32] ++ A) ++ [32]) ++ [67, 111, 110, 116, 101, 110, 116, 32, 84, 111, 111, 32, 76, 97, 114, 103, 101]) ++ [13, 10, 67, 111, 110, 116, 101, 110, 116, 45, 76, 101, 110, 103, 116, 104, 58, 32]) ++ D) [13, 10, 13, 10] (by simp; omega)
    have c7 := fun W => run_cat W (((((([72, 84, 84, 80, 47, 49, 46, 49, 32] ++ A) ++ [32]) ++ [67, 111, 110, 116, 101, 110, 116, 32, 84, 111, 111, 32, 76, 97, 114, 103, 101]) ++ [13, 10, 67, 111, 110, 116, 101, 110, 116, 45, 76, 101, 110, 103, 116, 104, 58, 32]) ++ D) ++ [13, 10, 13, 10]) body (by simp; omega)
    rw [HP.out] at c7
    have c9 := conv_bytes (replyP 413 body)
    generalize replyP 413 body = RR at *
    generalize hz8 : mkB RR = z8 at *
    have HZ8 := hid hz8
    clear hz8
    generalize mkB (((((([72, 84, 84, 80, 47, 49, 46, 49, 32] ++ A) ++ [32]) ++ [67, 111, 110, 116, 101, 110, 116, 32, 84, 111, 111, 32, 76, 97, 114, 103, 101]) ++ [13, 10, 67, 111, 110, 116, 101, 110, 116, 45, 76, 101, 110, 103, 116, 104, 58, 32]) ++ D) ++ [13, 10, 13, 10]) = z6 at *
    generalize mkB ((((([72, 84, 84, 80, 47, 49, 46, 49, 32] ++ A) ++ [32]) ++ [67, 111, 110, 116, 101, 110, 116, 32, 84, 111, 111, 32, 76, 97, 114, 103, 101]) ++ [13, 10, 67, 111, 110, 116, 101, 110, 116, 45, 76, 101, 110, 103, 116, 104, 58, 32]) ++ D) = z5 at *
    generalize mkB (((([72, 84, 84, 80, 47, 49, 46, 49, 32] ++ A) ++ [32]) ++ [67, 111, 110, 116, 101, 110, 116, 32, 84, 111, 111, 32, 76, 97, 114, 103, 101]) ++ [13, 10, 67, 111, 110, 116, 101, 110, 116, 45, 76, 101, 110, 103, 116, 104, 58, 32]) = z4 at *
    generalize mkB ((([72, 84, 84, 80, 47, 49, 46, 49, 32] ++ A) ++ [32]) ++ [67, 111, 110, 116, 101, 110, 116, 32, 84, 111, 111, 32, 76, 97, 114, 103, 101]) = z3 at *
    generalize mkB (([72, 84, 84, 80, 47, 49, 46, 49, 32] ++ A) ++ [32]) = z2 at *
    generalize mkB ([72, 84, 84, 80, 47, 49, 46, 49, 32] ++ A) = z1 at *
    generalize hB : mkB body = bb at *
    have hzi : ((bb.size : Nat) : Int) = (body.length : Int) := by omega
    clear HP l1 l2 hB hz
    generalize (body.length : Int) = bl at *
    go_enter Tryz.func33, Tryz.ntmps33
    go_wp2_with (first
      | (go_at_call 30; refine hD1.mono ?_; rintro e w1 ⟨rfl, K1⟩; clear hD1)
      | (go_at_call 30; refine (hD2 _).mono ?_; rintro e w3 ⟨rfl, K3⟩; clear hD2)
      | fail)
    go_ret
    exact ⟨w3, K1.and K3, rfl, by rw [HZ8.out]⟩
  by_cases h429 : n = 429
  · subst h429
    have HP : Hid (((((([72, 84, 84, 80, 47, 49, 46, 49, 32] ++ Lib.itoa 429) ++ [32]) ++ [84, 111, 111, 32, 77, 97, 110, 121, 32, 82, 101, 113, 117, 101, 115, 116, 115]) ++ [13, 10, 67, 111, 110, 116, 101, 110, 116, 45, 76, 101, 110, 103, 116, 104, 58, 32]) ++ Lib.itoa (body.length : Int)) ++ [13, 10, 13, 10] ++ body = replyP 429 body) := by
      show _ = _
      unfold replyP
      rw [show wordP 429 = [84, 111, 111, 32, 77, 97, 110, 121, 32, 82, 101, 113, 117, 101, 115, 116, 115] from rfl]
    have hD1 := digits_any w 429 (by decide) (by decide)
    have hD2 := fun V => digits_any V (body.length : Int) (by omega) (by omega)
    have l1 := itoa_le 429 (by decide) (by decide)
    have l2 := itoa_le (body.length : Int) (by omega) (by omega)
    have hz : (mkB body).size = body.length := mkB_size body
    generalize Lib.itoa 429 = A at *
    generalize Lib.itoa (body.length : Int) = D at *
    have c1 : ∀ W, (Op.stringOp .add ⟨#[72, 84, 84, 80, 47, 49, 46, 49, 32]⟩ (mkB A)).run Tryz.prog W = .ok (.string (mkB ([72, 84, 84, 80, 47, 49, 46, 49, 32] ++ A))) W := fun W => run_cat W [72, 84, 84, 80, 47, 49, 46, 49, 32] A (by simp; omega)
    have c2 : ∀ W, (Op.stringOp .add (mkB ([72, 84, 84, 80, 47, 49, 46, 49, 32] ++ A)) ⟨#[32]⟩).run Tryz.prog W = .ok (.string (mkB (([72, 84, 84, 80, 47, 49, 46, 49, 32] ++ A) ++ [32]))) W := fun W => run_cat W ([72, 84, 84, 80, 47, 49, 46, 49, 32] ++ A) [32] (by simp; omega)
    have c3 : ∀ W, (Op.stringOp .add (mkB (([72, 84, 84, 80, 47, 49, 46, 49, 32] ++ A) ++ [32])) ⟨#[84, 111, 111, 32, 77, 97, 110, 121, 32, 82, 101, 113, 117, 101, 115, 116, 115]⟩).run Tryz.prog W = .ok (.string (mkB ((([72, 84, 84, 80, 47, 49, 46, 49, 32] ++ A) ++ [32]) ++ [84, 111, 111, 32, 77, 97, 110, 121, 32, 82, 101, 113, 117, 101, 115, 116, 115]))) W := fun W => run_cat W (([72, 84, 84, 80, 47, 49, 46, 49, 32] ++ A) ++ [32]) [84, 111, 111, 32, 77, 97, 110, 121, 32, 82, 101, 113, 117, 101, 115, 116, 115] (by simp; omega)
    have c4 : ∀ W, (Op.stringOp .add (mkB ((([72, 84, 84, 80, 47, 49, 46, 49, 32] ++ A) ++ [32]) ++ [84, 111, 111, 32, 77, 97, 110, 121, 32, 82, 101, 113, 117, 101, 115, 116, 115])) ⟨#[13, 10, 67, 111, 110, 116, 101, 110, 116, 45, 76, 101, 110, 103, 116, 104, 58, 32]⟩).run Tryz.prog W = .ok (.string (mkB (((([72, 84, 84, 80, 47, 49, 46, 49, 32] ++ A) ++ [32]) ++ [84, 111, 111, 32, 77, 97, 110, 121, 32, 82, 101, 113, 117, 101, 115, 116, 115]) ++ [13, 10, 67, 111, 110, 116, 101, 110, 116, 45, 76, 101, 110, 103, 116, 104, 58, 32]))) W := fun W => run_cat W ((([72, 84, 84, 80, 47, 49, 46, 49, 32] ++ A) ++ [32]) ++ [84, 111, 111, 32, 77, 97, 110, 121, 32, 82, 101, 113, 117, 101, 115, 116, 115]) [13, 10, 67, 111, 110, 116, 101, 110, 116, 45, 76, 101, 110, 103, 116, 104, 58, 32] (by simp; omega)
    have c5 := fun W => run_cat W (((([72, 84, 84, 80, 47, 49, 46, 49, 32] ++ A) ++ [32]) ++ [84, 111, 111, 32, 77, 97, 110, 121, 32, 82, 101, 113, 117, 101, 115, 116, 115]) ++ [13, 10, 67, 111, 110, 116, 101, 110, 116, 45, 76, 101, 110, 103, 116, 104, 58, 32]) D (by simp; omega)
    have c6 : ∀ W, (Op.stringOp .add (mkB ((((([72, 84, 84, 80, 47, 49, 46, 49, 32] ++ A) ++ [32]) ++ [84, 111, 111, 32, 77, 97, 110, 121, 32, 82, 101, 113, 117, 101, 115, 116, 115]) ++ [13, 10, 67, 111, 110, 116, 101, 110, 116, 45, 76, 101, 110, 103, 116, 104, 58, 32]) ++ D)) ⟨#[13, 10, 13, 10]⟩).run Tryz.prog W = .ok (.string (mkB (((((([72, 84, 84, 80, 47, 49, 46, 49, 32] ++ A) ++ [32]) ++ [84, 111, 111, 32, 77, 97, 110, 121, 32, 82, 101, 113, 117, 101, 115, 116, 115]) ++ [13, 10, 67, 111, 110, 116, 101, 110, 116, 45, 76, 101, 110, 103, 116, 104, 58, 32]) ++ D) ++ [13, 10, 13, 10]))) W := fun W => run_cat W ((((([72, 84, 84, 80, 47, 49, 46, 49, 32] ++ A) ++ [32]) ++ [84, 111, 111, 32, 77, 97, 110, 121, 32, 82, 101, 113, 117, 101, 115, 116, 115]) ++ [13, 10, 67, 111, 110, 116, 101, 110, 116, 45, 76, 101, 110, 103, 116, 104, 58, 32]) ++ D) [13, 10, 13, 10] (by simp; omega)
    have c7 := fun W => run_cat W (((((([72, 84, 84, 80, 47, 49, 46, 49, 32] ++ A) ++ [32]) ++ [84, 111, 111, 32, 77, 97, 110, 121, 32, 82, 101, 113, 117, 101, 115, 116, 115]) ++ [13, 10, 67, 111, 110, 116, 101, 110, 116, 45, 76, 101, 110, 103, 116, 104, 58, 32]) ++ D) ++ [13, 10, 13, 10]) body (by simp; omega)
    rw [HP.out] at c7
    have c9 := conv_bytes (replyP 429 body)
    generalize replyP 429 body = RR at *
    generalize hz8 : mkB RR = z8 at *
    have HZ8 := hid hz8
    clear hz8
    generalize mkB (((((([72, 84, 84, 80, 47, 49, 46, 49, 32] ++ A) ++ [32]) ++ [84, 111, 111, 32, 77, 97, 110, 121, 32, 82, 101, 113, 117, 101, 115, 116, 115]) ++ [13, 10, 67, 111, 110, 116, 101, 110, 116, 45, 76, 101, 110, 103, 116, 104, 58, 32]) ++ D) ++ [13, 10, 13, 10]) = z6 at *
    generalize mkB ((((([72, 84, 84, 80, 47, 49, 46, 49, 32] ++ A) ++ [32]) ++ [84, 111, 111, 32, 77, 97, 110, 121, 32, 82, 101, 113, 117, 101, 115, 116, 115]) ++ [13, 10, 67, 111, 110, 116, 101, 110, 116, 45, 76, 101, 110, 103, 116, 104, 58, 32]) ++ D) = z5 at *
    generalize mkB (((([72, 84, 84, 80, 47, 49, 46, 49, 32] ++ A) ++ [32]) ++ [84, 111, 111, 32, 77, 97, 110, 121, 32, 82, 101, 113, 117, 101, 115, 116, 115]) ++ [13, 10, 67, 111, 110, 116, 101, 110, 116, 45, 76, 101, 110, 103, 116, 104, 58, 32]) = z4 at *
    generalize mkB ((([72, 84, 84, 80, 47, 49, 46, 49, 32] ++ A) ++ [32]) ++ [84, 111, 111, 32, 77, 97, 110, 121, 32, 82, 101, 113, 117, 101, 115, 116, 115]) = z3 at *
    generalize mkB (([72, 84, 84, 80, 47, 49, 46, 49, 32] ++ A) ++ [32]) = z2 at *
    generalize mkB ([72, 84, 84, 80, 47, 49, 46, 49, 32] ++ A) = z1 at *
    generalize hB : mkB body = bb at *
    have hzi : ((bb.size : Nat) : Int) = (body.length : Int) := by omega
    clear HP l1 l2 hB hz
    generalize (body.length : Int) = bl at *
    go_enter Tryz.func33, Tryz.ntmps33
    go_wp2_with (first
      | (go_at_call 30; refine hD1.mono ?_; rintro e w1 ⟨rfl, K1⟩; clear hD1)
      | (go_at_call 30; refine (hD2 _).mono ?_; rintro e w3 ⟨rfl, K3⟩; clear hD2)
      | fail)
    go_ret
    exact ⟨w3, K1.and K3, rfl, by rw [HZ8.out]⟩
  by_cases h431 : n = 431
  · subst h431
    have HP : Hid (((((([72, 84, 84, 80, 47, 49, 46, 49, 32] ++ Lib.itoa 431) ++ [32]) ++ [82, 101, 113, 117, 101, 115, 116, 32, 72, 101, 97, 100, 101, 114, 32, 70, 105, 101, 108, 100, 115, 32, 84, 111, 111, 32, 76, 97, 114, 103, 101]) ++ [13, 10, 67, 111, 110, 116, 101, 110, 116, 45, 76, 101, 110, 103, 116, 104, 58, 32]) ++ Lib.itoa (body.length : Int)) ++ [13, 10, 13, 10] ++ body = replyP 431 body) := by
      show _ = _
      unfold replyP
      rw [show wordP 431 = [82, 101, 113, 117, 101, 115, 116, 32, 72, 101, 97, 100, 101, 114, 32, 70, 105, 101, 108, 100, 115, 32, 84, 111, 111, 32, 76, 97, 114, 103, 101] from rfl]
    have hD1 := digits_any w 431 (by decide) (by decide)
    have hD2 := fun V => digits_any V (body.length : Int) (by omega) (by omega)
    have l1 := itoa_le 431 (by decide) (by decide)
    have l2 := itoa_le (body.length : Int) (by omega) (by omega)
    have hz : (mkB body).size = body.length := mkB_size body
    generalize Lib.itoa 431 = A at *
    generalize Lib.itoa (body.length : Int) = D at *
    have c1 : ∀ W, (Op.stringOp .add ⟨#[72, 84, 84, 80, 47, 49, 46, 49, 32]⟩ (mkB A)).run Tryz.prog W = .ok (.string (mkB ([72, 84, 84, 80, 47, 49, 46, 49, 32] ++ A))) W := fun W => run_cat W [72, 84, 84, 80, 47, 49, 46, 49, 32] A (by simp; omega)
    have c2 : ∀ W, (Op.stringOp .add (mkB ([72, 84, 84, 80, 47, 49, 46, 49, 32] ++ A)) ⟨#[32]⟩).run Tryz.prog W = .ok (.string (mkB (([72, 84, 84, 80, 47, 49, 46, 49, 32] ++ A) ++ [32]))) W := fun W => run_cat W ([72, 84, 84, 80, 47, 49, 46, 49, 32] ++ A) [32] (by simp; omega)
    have c3 : ∀ W, (Op.stringOp .add (mkB (([72, 84, 84, 80, 47, 49, 46, 49, 32] ++ A) ++ [32])) ⟨#[82, 101, 113, 117, 101, 115, 116, 32, 72, 101, 97, 100, 101, 114, 32, 70, 105, 101, 108, 100, 115, 32, 84, 111, 111, 32, 76, 97, 114, 103, 101]⟩).run Tryz.prog W = .ok (.string (mkB ((([72, 84, 84, 80, 47, 49, 46, 49, 32] ++ A) ++ [32]) ++ [82, 101, 113, 117, 101, 115, 116, 32, 72, 101, 97, 100, 101, 114, 32, 70, 105, 101, 108, 100, 115, 32, 84, 111, 111, 32, 76, 97, 114, 103, 101]))) W := fun W => run_cat W (([72, 84, 84, 80, 47, 49, 46, 49, 32] ++ A) ++ [32]) [82, 101, 113, 117, 101, 115, 116, 32, 72, 101, 97, 100, 101, 114, 32, 70, 105, 101, 108, 100, 115, 32, 84, 111, 111, 32, 76, 97, 114, 103, 101] (by simp; omega)
    have c4 : ∀ W, (Op.stringOp .add (mkB ((([72, 84, 84, 80, 47, 49, 46, 49, 32] ++ A) ++ [32]) ++ [82, 101, 113, 117, 101, 115, 116, 32, 72, 101, 97, 100, 101, 114, 32, 70, 105, 101, 108, 100, 115, 32, 84, 111, 111, 32, 76, 97, 114, 103, 101])) ⟨#[13, 10, 67, 111, 110, 116, 101, 110, 116, 45, 76, 101, 110, 103, 116, 104, 58, 32]⟩).run Tryz.prog W = .ok (.string (mkB (((([72, 84, 84, 80, 47, 49, 46, 49, 32] ++ A) ++ [32]) ++ [82, 101, 113, 117, 101, 115, 116, 32, 72, 101, 97, 100, 101, 114, 32, 70, 105, 101, 108, 100, 115, 32, 84, 111, 111, 32, 76, 97, 114, 103, 101]) ++ [13, 10, 67, 111, 110, 116, 101, 110, 116, 45, 76, 101, 110, 103, 116, 104, 58, 32]))) W := fun W => run_cat W ((([72, 84, 84, 80, 47, 49, 46, 49, 32] ++ A) ++ [32]) ++ [82, 101, 113, 117, 101, 115, 116, 32, 72, 101, 97, 100, 101, 114, 32, 70, 105, 101, 108, 100, 115, 32, 84, 111, 111, 32, 76, 97, 114, 103, 101]) [13, 10, 67, 111, 110, 116, 101, 110, 116, 45, 76, 101, 110, 103, 116, 104, 58, 32] (by simp; omega)
    have c5 := fun W => run_cat W (((([72, 84, 84, 80, 47, 49, 46, 49, 32] ++ A) ++ [32]) ++ [82, 101, 113, 117, 101, 115, 116, 32, 72, 101, 97, 100, 101, 114, 32, 70, 105, 101, 108, 100, 115, 32, 84, 111, 111, 32, 76, 97, 114, 103, 101]) ++ [13, 10, 67, 111, 110, 116, 101, 110, 116, 45, 76, 101, 110, 103, 116, 104, 58, 32]) D (by simp; omega)
    have c6 : ∀ W, (Op.stringOp .add (mkB ((((([72, 84, 84, 80, 47, 49, 46, 49, 32] ++ A) ++ [32]) ++ [82, 101, 113, 117, 101, 115, 116, 32, 72, 101, 97, 100, 101, 114, 32, 70, 105, 101, 108, 100, 115, 32, 84, 111, 111, 32, 76, 97, 114, 103, 101]) ++ [13, 10, 67, 111, 110, 116, 101, 110, 116, 45, 76, 101, 110, 103, 116, 104, 58, 32]) ++ D)) ⟨#[13, 10, 13, 10]⟩).run Tryz.prog W = .ok (.string (mkB (((((([72, 84, 84, 80, 47, 49, 46, 49, 32] ++ A) ++ [32]) ++ [82, 101, 113, 117, 101, 115, 116, 32, 72, 101, 97, 100, 101, 114, 32, 70, 105, 101, 108, 100, 115, 32, 84, 111, 111, 32, 76, 97, 114, 103, 101]) ++ [13, 10, 67, 111, 110, 116, 101, 110, 116, 45, 76, 101, 110, 103, 116, 104, 58, 32]) ++ D) ++ [13, 10, 13, 10]))) W := fun W => run_cat W ((((([72, 84, 84, 80, 47, 49, 46, 49, 32] ++ A) ++ [32]) ++ [82, 101, 113, 117, 101, 115, 116, 32, 72, 101, 97, 100, 101, 114, 32, 70, 105, 101, 108, 100, 115, 32, 84, 111, 111, 32, 76, 97, 114, 103, 101]) ++ [13, 10, 67, 111, 110, 116, 101, 110, 116, 45, 76, 101, 110, 103, 116, 104, 58, 32]) ++ D) [13, 10, 13, 10] (by simp; omega)
    have c7 := fun W => run_cat W (((((([72, 84, 84, 80, 47, 49, 46, 49, 32] ++ A) ++ [32]) ++ [82, 101, 113, 117, 101, 115, 116, 32, 72, 101, 97, 100, 101, 114, 32, 70, 105, 101, 108, 100, 115, 32, 84, 111, 111, 32, 76, 97, 114, 103, 101]) ++ [13, 10, 67, 111, 110, 116, 101, 110, 116, 45, 76, 101, 110, 103, 116, 104, 58, 32]) ++ D) ++ [13, 10, 13, 10]) body (by simp; omega)
    rw [HP.out] at c7
    have c9 := conv_bytes (replyP 431 body)
    generalize replyP 431 body = RR at *
    generalize hz8 : mkB RR = z8 at *
    have HZ8 := hid hz8
    clear hz8
    generalize mkB (((((([72, 84, 84, 80, 47, 49, 46, 49, 32] ++ A) ++ [32]) ++ [82, 101, 113, 117, 101, 115, 116, 32, 72, 101, 97, 100, 101, 114, 32, 70, 105, 101, 108, 100, 115, 32, 84, 111, 111, 32, 76, 97, 114, 103, 101]) ++ [13, 10, 67, 111, 110, 116, 101, 110, 116, 45, 76, 101, 110, 103, 116, 104, 58, 32]) ++ D) ++ [13, 10, 13, 10]) = z6 at *
    generalize mkB ((((([72, 84, 84, 80, 47, 49, 46, 49, 32] ++ A) ++ [32]) ++ [82, 101, 113, 117, 101, 115, 116, 32, 72, 101, 97, 100, 101, 114, 32, 70, 105, 101, 108, 100, 115, 32, 84, 111, 111, 32, 76, 97, 114, 103, 101]) ++ [13, 10, 67, 111, 110, 116, 101, 110, 116, 45, 76, 101, 110, 103, 116, 104, 58, 32]) ++ D) = z5 at *
    generalize mkB (((([72, 84, 84, 80, 47, 49, 46, 49, 32] ++ A) ++ [32]) ++ [82, 101, 113, 117, 101, 115, 116, 32, 72, 101, 97, 100, 101, 114, 32, 70, 105, 101, 108, 100, 115, 32, 84, 111, 111, 32, 76, 97, 114, 103, 101]) ++ [13, 10, 67, 111, 110, 116, 101, 110, 116, 45, 76, 101, 110, 103, 116, 104, 58, 32]) = z4 at *
    generalize mkB ((([72, 84, 84, 80, 47, 49, 46, 49, 32] ++ A) ++ [32]) ++ [82, 101, 113, 117, 101, 115, 116, 32, 72, 101, 97, 100, 101, 114, 32, 70, 105, 101, 108, 100, 115, 32, 84, 111, 111, 32, 76, 97, 114, 103, 101]) = z3 at *
    generalize mkB (([72, 84, 84, 80, 47, 49, 46, 49, 32] ++ A) ++ [32]) = z2 at *
    generalize mkB ([72, 84, 84, 80, 47, 49, 46, 49, 32] ++ A) = z1 at *
    generalize hB : mkB body = bb at *
    have hzi : ((bb.size : Nat) : Int) = (body.length : Int) := by omega
    clear HP l1 l2 hB hz
    generalize (body.length : Int) = bl at *
    go_enter Tryz.func33, Tryz.ntmps33
    go_wp2_with (first
      | (go_at_call 30; refine hD1.mono ?_; rintro e w1 ⟨rfl, K1⟩; clear hD1)
      | (go_at_call 30; refine (hD2 _).mono ?_; rintro e w3 ⟨rfl, K3⟩; clear hD2)
      | fail)
    go_ret
    exact ⟨w3, K1.and K3, rfl, by rw [HZ8.out]⟩
  by_cases h503 : n = 503
  · subst h503
    have HP : Hid (((((([72, 84, 84, 80, 47, 49, 46, 49, 32] ++ Lib.itoa 503) ++ [32]) ++ [83, 101, 114, 118, 105, 99, 101, 32, 85, 110, 97, 118, 97, 105, 108, 97, 98, 108, 101]) ++ [13, 10, 67, 111, 110, 116, 101, 110, 116, 45, 76, 101, 110, 103, 116, 104, 58, 32]) ++ Lib.itoa (body.length : Int)) ++ [13, 10, 13, 10] ++ body = replyP 503 body) := by
      show _ = _
      unfold replyP
      rw [show wordP 503 = [83, 101, 114, 118, 105, 99, 101, 32, 85, 110, 97, 118, 97, 105, 108, 97, 98, 108, 101] from rfl]
    have hD1 := digits_any w 503 (by decide) (by decide)
    have hD2 := fun V => digits_any V (body.length : Int) (by omega) (by omega)
    have l1 := itoa_le 503 (by decide) (by decide)
    have l2 := itoa_le (body.length : Int) (by omega) (by omega)
    have hz : (mkB body).size = body.length := mkB_size body
    generalize Lib.itoa 503 = A at *
    generalize Lib.itoa (body.length : Int) = D at *
    have c1 : ∀ W, (Op.stringOp .add ⟨#[72, 84, 84, 80, 47, 49, 46, 49, 32]⟩ (mkB A)).run Tryz.prog W = .ok (.string (mkB ([72, 84, 84, 80, 47, 49, 46, 49, 32] ++ A))) W := fun W => run_cat W [72, 84, 84, 80, 47, 49, 46, 49, 32] A (by simp; omega)
    have c2 : ∀ W, (Op.stringOp .add (mkB ([72, 84, 84, 80, 47, 49, 46, 49, 32] ++ A)) ⟨#[32]⟩).run Tryz.prog W = .ok (.string (mkB (([72, 84, 84, 80, 47, 49, 46, 49, 32] ++ A) ++ [32]))) W := fun W => run_cat W ([72, 84, 84, 80, 47, 49, 46, 49, 32] ++ A) [32] (by simp; omega)
    have c3 : ∀ W, (Op.stringOp .add (mkB (([72, 84, 84, 80, 47, 49, 46, 49, 32] ++ A) ++ [32])) ⟨#[83, 101, 114, 118, 105, 99, 101, 32, 85, 110, 97, 118, 97, 105, 108, 97, 98, 108, 101]⟩).run Tryz.prog W = .ok (.string (mkB ((([72, 84, 84, 80, 47, 49, 46, 49, 32] ++ A) ++ [32]) ++ [83, 101, 114, 118, 105, 99, 101, 32, 85, 110, 97, 118, 97, 105, 108, 97, 98, 108, 101]))) W := fun W => run_cat W (([72, 84, 84, 80, 47, 49, 46, 49, 32] ++ A) ++ [32]) [83, 101, 114, 118, 105, 99, 101, 32, 85, 110, 97, 118, 97, 105, 108, 97, 98, 108, 101] (by simp; omega)
    have c4 : ∀ W, (Op.stringOp .add (mkB ((([72, 84, 84, 80, 47, 49, 46, 49, 32] ++ A) ++ [32]) ++ [83, 101, 114, 118, 105, 99, 101, 32, 85, 110, 97, 118, 97, 105, 108, 97, 98, 108, 101])) ⟨#[13, 10, 67, 111, 110, 116, 101, 110, 116, 45, 76, 101, 110, 103, 116, 104, 58, 32]⟩).run Tryz.prog W = .ok (.string (mkB (((([72, 84, 84, 80, 47, 49, 46, 49, 32] ++ A) ++ [32]) ++ [83, 101, 114, 118, 105, 99, 101, 32, 85, 110, 97, 118, 97, 105, 108, 97, 98, 108, 101]) ++ [13, 10, 67, 111, 110, 116, 101, 110, 116, 45, 76, 101, 110, 103, 116, 104, 58, 32]))) W := fun W => run_cat W ((([72, 84, 84, 80, 47, 49, 46, 49, 32] ++ A) ++ [32]) ++ [83, 101, 114, 118, 105, 99, 101, 32, 85, 110, 97, 118, 97, 105, 108, 97, 98, 108, 101]) [13, 10, 67, 111, 110, 116, 101, 110, 116, 45, 76, 101, 110, 103, 116, 104, 58, 32] (by simp; omega)
    have c5 := fun W => run_cat W (((([72, 84, 84, 80, 47, 49, 46, 49, 32] ++ A) ++ [32]) ++ [83, 101, 114, 118, 105, 99, 101, 32, 85, 110, 97, 118, 97, 105, 108, 97, 98, 108, 101]) ++ [13, 10, 67, 111, 110, 116, 101, 110, 116, 45, 76, 101, 110, 103, 116, 104, 58, 32]) D (by simp; omega)
    have c6 : ∀ W, (Op.stringOp .add (mkB ((((([72, 84, 84, 80, 47, 49, 46, 49, 32] ++ A) ++ [32]) ++ [83, 101, 114, 118, 105, 99, 101, 32, 85, 110, 97, 118, 97, 105, 108, 97, 98, 108, 101]) ++ [13, 10, 67, 111, 110, 116, 101, 110, 116, 45, 76, 101, 110, 103, 116, 104, 58, 32]) ++ D)) ⟨#[13, 10, 13, 10]⟩).run Tryz.prog W = .ok (.string (mkB (((((([72, 84, 84, 80, 47, 49, 46, 49, 32] ++ A) ++ [32]) ++ [83, 101, 114, 118, 105, 99, 101, 32, 85, 110, 97, 118, 97, 105, 108, 97, 98, 108, 101]) ++ [13, 10, 67, 111, 110, 116, 101, 110, 116, 45, 76, 101, 110, 103, 116, 104, 58, 32]) ++ D) ++ [13, 10, 13, 10]))) W := fun W => run_cat W ((((([72, 84, 84, 80, 47, 49, 46, 49, 32] ++ A) ++ [32]) ++ [83, 101, 114, 118, 105, 99, 101, 32, 85, 110, 97, 118, 97, 105, 108, 97, 98, 108, 101]) ++ [13, 10, 67, 111, 110, 116, 101, 110, 116, 45, 76, 101, 110, 103, 116, 104, 58, 32]) ++ D) [13, 10, 13, 10] (by simp; omega)
    have c7 := fun W => run_cat W (((((([72, 84, 84, 80, 47, 49, 46, 49, 32] ++ A) ++ [32]) ++ [83, 101, 114, 118, 105, 99, 101, 32, 85, 110, 97, 118, 97, 105, 108, 97, 98, 108, 101]) ++ [13, 10, 67, 111, 110, 116, 101, 110, 116, 45, 76, 101, 110, 103, 116, 104, 58, 32]) ++ D) ++ [13, 10, 13, 10]) body (by simp; omega)
    rw [HP.out] at c7
    have c9 := conv_bytes (replyP 503 body)
    generalize replyP 503 body = RR at *
    generalize hz8 : mkB RR = z8 at *
    have HZ8 := hid hz8
    clear hz8
    generalize mkB (((((([72, 84, 84, 80, 47, 49, 46, 49, 32] ++ A) ++ [32]) ++ [83, 101, 114, 118, 105, 99, 101, 32, 85, 110, 97, 118, 97, 105, 108, 97, 98, 108, 101]) ++ [13, 10, 67, 111, 110, 116, 101, 110, 116, 45, 76, 101, 110, 103, 116, 104, 58, 32]) ++ D) ++ [13, 10, 13, 10]) = z6 at *
    generalize mkB ((((([72, 84, 84, 80, 47, 49, 46, 49, 32] ++ A) ++ [32]) ++ [83, 101, 114, 118, 105, 99, 101, 32, 85, 110, 97, 118, 97, 105, 108, 97, 98, 108, 101]) ++ [13, 10, 67, 111, 110, 116, 101, 110, 116, 45, 76, 101, 110, 103, 116, 104, 58, 32]) ++ D) = z5 at *
    generalize mkB (((([72, 84, 84, 80, 47, 49, 46, 49, 32] ++ A) ++ [32]) ++ [83, 101, 114, 118, 105, 99, 101, 32, 85, 110, 97, 118, 97, 105, 108, 97, 98, 108, 101]) ++ [13, 10, 67, 111, 110, 116, 101, 110, 116, 45, 76, 101, 110, 103, 116, 104, 58, 32]) = z4 at *
    generalize mkB ((([72, 84, 84, 80, 47, 49, 46, 49, 32] ++ A) ++ [32]) ++ [83, 101, 114, 118, 105, 99, 101, 32, 85, 110, 97, 118, 97, 105, 108, 97, 98, 108, 101]) = z3 at *
    generalize mkB (([72, 84, 84, 80, 47, 49, 46, 49, 32] ++ A) ++ [32]) = z2 at *
    generalize mkB ([72, 84, 84, 80, 47, 49, 46, 49, 32] ++ A) = z1 at *
    generalize hB : mkB body = bb at *
    have hzi : ((bb.size : Nat) : Int) = (body.length : Int) := by omega
    clear HP l1 l2 hB hz
    generalize (body.length : Int) = bl at *
    go_enter Tryz.func33, Tryz.ntmps33
    go_wp2_with (first
      | (go_at_call 30; refine hD1.mono ?_; rintro e w1 ⟨rfl, K1⟩; clear hD1)
      | (go_at_call 30; refine (hD2 _).mono ?_; rintro e w3 ⟨rfl, K3⟩; clear hD2)
      | fail)
    go_ret
    exact ⟨w3, K1.and K3, rfl, by rw [HZ8.out]⟩
  have b200 : (n == 200) = false := by rw [beq_eq_false_iff_ne]; exact h200
  have b307 : (n == 307) = false := by rw [beq_eq_false_iff_ne]; exact h307
  have b400 : (n == 400) = false := by rw [beq_eq_false_iff_ne]; exact h400
  have b404 : (n == 404) = false := by rw [beq_eq_false_iff_ne]; exact h404
  have b405 : (n == 405) = false := by rw [beq_eq_false_iff_ne]; exact h405
  have b409 : (n == 409) = false := by rw [beq_eq_false_iff_ne]; exact h409
  have b413 : (n == 413) = false := by rw [beq_eq_false_iff_ne]; exact h413
  have b429 : (n == 429) = false := by rw [beq_eq_false_iff_ne]; exact h429
  have b431 : (n == 431) = false := by rw [beq_eq_false_iff_ne]; exact h431
  have b503 : (n == 503) = false := by rw [beq_eq_false_iff_ne]; exact h503
  have HP : Hid (((((([72, 84, 84, 80, 47, 49, 46, 49, 32] ++ Lib.itoa n) ++ [32]) ++ [85, 110, 107, 110, 111, 119, 110]) ++ [13, 10, 67, 111, 110, 116, 101, 110, 116, 45, 76, 101, 110, 103, 116, 104, 58, 32]) ++ Lib.itoa (body.length : Int)) ++ [13, 10, 13, 10] ++ body = replyP n body) := by
    show _ = _
    unfold replyP
    rw [wordP_none n h200 h307 h400 h404 h405 h409 h413 h429 h431 h503]
  have hD1 := digits_any w n (by omega) (by omega)
  have hD2 := fun V => digits_any V (body.length : Int) (by omega) (by omega)
  have l1 := itoa_le n (by omega) (by omega)
  have l2 := itoa_le (body.length : Int) (by omega) (by omega)
  have hz : (mkB body).size = body.length := mkB_size body
  generalize Lib.itoa n = A at *
  generalize Lib.itoa (body.length : Int) = D at *
  have c1 : ∀ W, (Op.stringOp .add ⟨#[72, 84, 84, 80, 47, 49, 46, 49, 32]⟩ (mkB A)).run Tryz.prog W = .ok (.string (mkB ([72, 84, 84, 80, 47, 49, 46, 49, 32] ++ A))) W := fun W => run_cat W [72, 84, 84, 80, 47, 49, 46, 49, 32] A (by simp; omega)
  have c2 : ∀ W, (Op.stringOp .add (mkB ([72, 84, 84, 80, 47, 49, 46, 49, 32] ++ A)) ⟨#[32]⟩).run Tryz.prog W = .ok (.string (mkB (([72, 84, 84, 80, 47, 49, 46, 49, 32] ++ A) ++ [32]))) W := fun W => run_cat W ([72, 84, 84, 80, 47, 49, 46, 49, 32] ++ A) [32] (by simp; omega)
  have c3 : ∀ W, (Op.stringOp .add (mkB (([72, 84, 84, 80, 47, 49, 46, 49, 32] ++ A) ++ [32])) ⟨#[85, 110, 107, 110, 111, 119, 110]⟩).run Tryz.prog W = .ok (.string (mkB ((([72, 84, 84, 80, 47, 49, 46, 49, 32] ++ A) ++ [32]) ++ [85, 110, 107, 110, 111, 119, 110]))) W := fun W => run_cat W (([72, 84, 84, 80, 47, 49, 46, 49, 32] ++ A) ++ [32]) [85, 110, 107, 110, 111, 119, 110] (by simp; omega)
  have c4 : ∀ W, (Op.stringOp .add (mkB ((([72, 84, 84, 80, 47, 49, 46, 49, 32] ++ A) ++ [32]) ++ [85, 110, 107, 110, 111, 119, 110])) ⟨#[13, 10, 67, 111, 110, 116, 101, 110, 116, 45, 76, 101, 110, 103, 116, 104, 58, 32]⟩).run Tryz.prog W = .ok (.string (mkB (((([72, 84, 84, 80, 47, 49, 46, 49, 32] ++ A) ++ [32]) ++ [85, 110, 107, 110, 111, 119, 110]) ++ [13, 10, 67, 111, 110, 116, 101, 110, 116, 45, 76, 101, 110, 103, 116, 104, 58, 32]))) W := fun W => run_cat W ((([72, 84, 84, 80, 47, 49, 46, 49, 32] ++ A) ++ [32]) ++ [85, 110, 107, 110, 111, 119, 110]) [13, 10, 67, 111, 110, 116, 101, 110, 116, 45, 76, 101, 110, 103, 116, 104, 58, 32] (by simp; omega)
  have c5 := fun W => run_cat W (((([72, 84, 84, 80, 47, 49, 46, 49, 32] ++ A) ++ [32]) ++ [85, 110, 107, 110, 111, 119, 110]) ++ [13, 10, 67, 111, 110, 116, 101, 110, 116, 45, 76, 101, 110, 103, 116, 104, 58, 32]) D (by simp; omega)
  have c6 : ∀ W, (Op.stringOp .add (mkB ((((([72, 84, 84, 80, 47, 49, 46, 49, 32] ++ A) ++ [32]) ++ [85, 110, 107, 110, 111, 119, 110]) ++ [13, 10, 67, 111, 110, 116, 101, 110, 116, 45, 76, 101, 110, 103, 116, 104, 58, 32]) ++ D)) ⟨#[13, 10, 13, 10]⟩).run Tryz.prog W = .ok (.string (mkB (((((([72, 84, 84, 80, 47, 49, 46, 49, 32] ++ A) ++ [32]) ++ [85, 110, 107, 110, 111, 119, 110]) ++ [13, 10, 67, 111, 110, 116, 101, 110, 116, 45, 76, 101, 110, 103, 116, 104, 58, 32]) ++ D) ++ [13, 10, 13, 10]))) W := fun W => run_cat W ((((([72, 84, 84, 80, 47, 49, 46, 49, 32] ++ A) ++ [32]) ++ [85, 110, 107, 110, 111, 119, 110]) ++ [13, 10, 67, 111, 110, 116, 101, 110, 116, 45, 76, 101, 110, 103, 116, 104, 58, 32]) ++ D) [13, 10, 13, 10] (by simp; omega)
  have c7 := fun W => run_cat W (((((([72, 84, 84, 80, 47, 49, 46, 49, 32] ++ A) ++ [32]) ++ [85, 110, 107, 110, 111, 119, 110]) ++ [13, 10, 67, 111, 110, 116, 101, 110, 116, 45, 76, 101, 110, 103, 116, 104, 58, 32]) ++ D) ++ [13, 10, 13, 10]) body (by simp; omega)
  rw [HP.out] at c7
  have c9 := conv_bytes (replyP n body)
  generalize replyP n body = RR at *
  generalize hz8 : mkB RR = z8 at *
  have HZ8 := hid hz8
  clear hz8
  generalize mkB (((((([72, 84, 84, 80, 47, 49, 46, 49, 32] ++ A) ++ [32]) ++ [85, 110, 107, 110, 111, 119, 110]) ++ [13, 10, 67, 111, 110, 116, 101, 110, 116, 45, 76, 101, 110, 103, 116, 104, 58, 32]) ++ D) ++ [13, 10, 13, 10]) = z6 at *
  generalize mkB ((((([72, 84, 84, 80, 47, 49, 46, 49, 32] ++ A) ++ [32]) ++ [85, 110, 107, 110, 111, 119, 110]) ++ [13, 10, 67, 111, 110, 116, 101, 110, 116, 45, 76, 101, 110, 103, 116, 104, 58, 32]) ++ D) = z5 at *
  generalize mkB (((([72, 84, 84, 80, 47, 49, 46, 49, 32] ++ A) ++ [32]) ++ [85, 110, 107, 110, 111, 119, 110]) ++ [13, 10, 67, 111, 110, 116, 101, 110, 116, 45, 76, 101, 110, 103, 116, 104, 58, 32]) = z4 at *
  generalize mkB ((([72, 84, 84, 80, 47, 49, 46, 49, 32] ++ A) ++ [32]) ++ [85, 110, 107, 110, 111, 119, 110]) = z3 at *
  generalize mkB (([72, 84, 84, 80, 47, 49, 46, 49, 32] ++ A) ++ [32]) = z2 at *
  generalize mkB ([72, 84, 84, 80, 47, 49, 46, 49, 32] ++ A) = z1 at *
  generalize hB : mkB body = bb at *
  have hzi : ((bb.size : Nat) : Int) = (body.length : Int) := by omega
  clear HP l1 l2 hB hz
  generalize (body.length : Int) = bl at *
  go_enter Tryz.func33, Tryz.ntmps33
  go_wp2_with (first
    | (go_at_call 30; refine hD1.mono ?_; rintro e w1 ⟨rfl, K1⟩; clear hD1)
    | (go_at_call 30; refine (hD2 _).mono ?_; rintro e w3 ⟨rfl, K3⟩; clear hD2)
    | fail)
  go_ret
  exact ⟨w3, K1.and K3, rfl, by rw [HZ8.out]⟩

end Go.Proofs.YtimipkhjcgmioaaGreatDoor
