/-
  A lease: written by the codec, written and read by the document.
-/
import Derived.Test.YtnmdjdpceegdfaaCRefMore
import Derived.Test.YtnmdjdpceegdfaaCRdLease
import Derived.Test.YtnmdjdpceegdfaaCEvent
import Derived.Test.YtnmdjdpceegdfaaCForm
namespace Go.Proofs.Ytnmdjdpceegdfaa
open Go.RowKit

def wrLease (o r : Int) : Option (List Int) := put (wrSig o) (wrNum 0 4503599627370496 r)

set_option maxRecDepth 100000 in
set_option maxHeartbeats 400000 in
theorem lease_any (w : World) (o r : Int) (ho : isI64 o) :
    Calls Try.prog 21 #[.agg #[.int .i64 o, .int .i64 r]] w fun e w' => ∃ a l c er, e = .returned (.tuple #[.slice a l c, .int .i64 er]) ∧ Ans w' w.heap.size (wrLease o r) a l c er ∧ Kept (fun _ => False) w w' := by
  have hcs : ∀ (w' : World), Kept (fun k => w.heap.size + 1 ≤ k) (w.alloc (.cells #[.int .i64 o, .int .i64 r] 44)) w' → w'.cell? ⟨w.heap.size, 1, none⟩ = some (.int .i64 r) := fun w' K =>
    box_cells K (by omega) 1 _ rfl
  have hW := WIn.new (w.alloc (.cells #[.int .i64 o, .int .i64 r] 44)) 65
  have hsz : (w.alloc (.cells #[.int .i64 o, .int .i64 r] 44)).heap.size = w.heap.size + 1 := by simp
  rw [hsz] at hW
  have HE : Hid (wrLease o r = put (put (some []) (wrSig o)) (wrNum 0 4503599627370496 r)) := by rw [some_put]; rfl
  have hN := wsigned_any hW o ho (by decide)
  generalize put (some []) (wrSig o) = s1 at *
  have K0 : Kept (fun k => w.heap.size + 1 ≤ k) (w.alloc (.cells #[.int .i64 o, .int .i64 r] 44)) ((w.alloc (.cells #[.int .i64 o, .int .i64 r] 44)).alloc (.cells #[.slice none 0 0, .bool false] 65)) := Kept.alloc _ _ _
  clear hW
  go_enter Try.func21, Try.ntmps21
  go_wp2_with (first
    | (go_at_call 37; refine hN.mono ?_; rintro e w1 ⟨rfl, I1, K1⟩; have K01 := K0.and K1.k; have c1 := hcs _ K01; clear hN K0 K1)
    | (go_at_call 35; refine (wnum_any I1 r 0 4503599627370496 (by decide) (by decide) (by decide)).mono ?_; rintro e w2 ⟨rfl, I2, K2⟩; have K02 := K01.and K2.k; clear I1 K01 K2 c1)
    | (go_at_call 38; refine (wanswer_any I2).mono ?_; rintro e w5 ⟨a, l, c, er, rfl, hA, hw⟩; subst hw)
    | fail)
  go_ret2
  rw [HE.out]
  exact ⟨a, l, c, er, rfl, hA.mono (by omega), (Kept.alloc _ w _).trans K02 (fun k h => .inr (by omega))⟩

set_option maxRecDepth 100000 in
set_option maxHeartbeats 400000 in
theorem refLease_any (w : World) (o r : Int) :
    Calls Try.prog 22 #[.agg #[.int .i64 o, .int .i64 r]] w fun e w' => ∃ a l c er, e = .returned (.tuple #[.slice a l c, .int .i64 er]) ∧ Ans w' w.heap.size (wrLease o r) a l c er ∧ Kept (fun _ => False) w w' := by
  have hcs : ∀ (w' : World), Kept (fun k => w.heap.size + 1 ≤ k) (w.alloc (.cells #[.int .i64 o, .int .i64 r] 44)) w' → w'.cell? ⟨w.heap.size, 1, none⟩ = some (.int .i64 r) := fun w' K =>
    box_cells K (by omega) 1 _ rfl
  have hW := WIn.new (w.alloc (.cells #[.int .i64 o, .int .i64 r] 44)) 72
  have hsz : (w.alloc (.cells #[.int .i64 o, .int .i64 r] 44)).heap.size = w.heap.size + 1 := by simp
  rw [hsz] at hW
  have HE : Hid (wrLease o r = put (put (some []) (wrSig o)) (wrNum 0 4503599627370496 r)) := by rw [some_put]; rfl
  have hN := xsigned_any hW o (by decide)
  generalize put (some []) (wrSig o) = s1 at *
  have K0 : Kept (fun k => w.heap.size + 1 ≤ k) (w.alloc (.cells #[.int .i64 o, .int .i64 r] 44)) ((w.alloc (.cells #[.int .i64 o, .int .i64 r] 44)).alloc (.cells #[.slice none 0 0, .bool false] 72)) := Kept.alloc _ _ _
  have hc0 := hcs _ K0
  clear hW
  go_enter Try.func22, Try.ntmps22
  go_wp2_with (first
    | (go_at_call 41; refine hN.mono ?_; rintro e w1 ⟨rfl, I1, K1⟩; have K01 := K0.and K1.k; have c1 := hcs _ K01; clear hN K0 K1)
    | (go_at_call 39; refine (xnum_any I1 r 0 4503599627370496 (by decide) (by decide) (by decide)).mono ?_; rintro e w2 ⟨rfl, I2, K2⟩; have K02 := K01.and K2.k; clear I1 K01 K2 c1)
    | (go_at_call 42; refine (xdone_any I2).mono ?_; rintro e w5 ⟨a, l, c, er, rfl, hA, hw⟩; subst hw)
    | fail)
  go_ret2
  rw [HE.out]
  exact ⟨a, l, c, er, rfl, hA.mono (by omega), (Kept.alloc _ w _).trans K02 (fun k h => .inr (by omega))⟩

theorem leaseForm : Form rdLease (fun x => wrLease x.1 x.2) := by
  have h : (fun x : LeaseD => wrLease x.1 x.2) = wrBind wrSig (fun _ => wrNum 0 4503599627370496) := by
    funext x
    exact put_bind wrSig (wrNum 0 4503599627370496) x
  rw [h]
  exact sigForm.bind (fun _ _ => numForm (by decide) (by decide))

theorem put_some {a b : Option (List Int)} {q : List Int} (h : put a b = some q) : ∃ x y, a = some x ∧ b = some y ∧ q = x ++ y := by
  cases a with
  | none => cases h
  | some x =>
    cases b with
    | none => cases h
    | some y => exact ⟨x, y, rfl, rfl, (Option.some.inj h).symm⟩

theorem wrNum_len {lo hi n : Int} {q : List Int} (h : wrNum lo hi n = some q) : q.length ≤ 8 ∧ lo ≤ n ∧ n ≤ hi := by
  unfold wrNum at h
  split at h
  · rename_i hr
    simp only [Option.some.injEq] at h
    subst h
    have := sz_le n.toNat
    rw [numB_length]
    omega
  · cases h

theorem lease_len {o r : Int} {q : List Int} (h : wrLease o r = some q) : q.length ≤ 16 := by
  obtain ⟨x, y, hx, hy, rfl⟩ := put_some h
  have h1 := (wrNum_len hx).1
  have h2 := (wrNum_len hy).1
  rw [List.length_append]
  omega

theorem sig_i64 {n : Int} {q : List Int} (h : wrSig n = some q) : isI64 n := by
  have h1 := (wrNum_len h).2
  unfold sgn at h1
  split at h1 <;> exact isI64_of (by omega) (by omega)

theorem lease_i64 {o r : Int} {q : List Int} (h : wrLease o r = some q) : isI64 o := by
  obtain ⟨x, y, hx, _, _⟩ := put_some h
  exact sig_i64 hx

end Go.Proofs.Ytnmdjdpceegdfaa
