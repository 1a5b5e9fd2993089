/-
  wakes: an event is written and read; the sum of nine bytes.
-/
import Derived.Test.YtchdmlckicipcaaCEvent
import Derived.Test.YtchdmlckicipcaaCRdEvent
import Derived.Test.YtchdmlckicipcaaCSum
namespace Go.Proofs.Ytchdmlckicipcaa
open Go.RowKit

theorem wk_bytes : wrEvent 15 ⟨#[]⟩ ⟨#[120]⟩ 2 = some [1, 15, 0, 1, 1, 120, 1, 4] := by kernel_rfl
theorem wk_read : rdWhole rdEvent [1, 15, 0, 1, 1, 120, 1, 4] = .ok (15, ⟨#[]⟩, ⟨#[120]⟩, 2) := by kernel_rfl
theorem wk_sum : crc [49, 50, 51, 52, 53, 54, 55, 56, 57] = 3421780262 := by kernel_rfl

theorem wk_new (w : World) : BytesAt (w.alloc (.cells #[.int .u8 49, .int .u8 50, .int .u8 51, .int .u8 52, .int .u8 53, .int .u8 54, .int .u8 55, .int .u8 56, .int .u8 57] 5 (9, 10))) (some ⟨w.heap.size, 0, none⟩) 9 9 [49, 50, 51, 52, 53, 54, 55, 56, 57] :=
  ⟨rfl, Nat.le_refl _, fun h => (by cases h), fun ad h => (by cases h; exact World.news_of_block (heap_alloc_new w _)), fun y hy => by simp at hy; omega⟩

/-- What a writer answered lies where it says. -/
theorem Ans.bytes {w : World} {base : Nat} {st : Option (List Int)} {a : Option Addr} {l c : Nat} {e : Int} (h : Ans w base st a l c e) : BytesAt w a l c (st.getD []) := by
  have h1 := h.row
  have h2 := h.len
  subst h2
  exact BytesAt.ofRow h1 h.bs

set_option maxRecDepth 100000 in
set_option maxHeartbeats 1000000 in
theorem wakes_any (w : World) :
    Calls Try.prog 12 #[] w fun e w' => e = .returned (.bool true) ∧ Kept (fun _ => False) w w' := by
  have hE := event_any w 15 ⟨#[]⟩ ⟨#[120]⟩ 2 (by decide) (by decide) (isI64_of (by decide) (by decide))
  rw [wk_bytes] at hE
  have hS : ∀ W : World, Calls Try.prog 14 #[.slice (some ⟨W.heap.size + 1, 0, none⟩) 9 9] ((W.alloc (.cells #[.int .i64 15, .string ⟨#[]⟩, .string ⟨#[120]⟩, .int .i64 2] 47)).alloc (.cells #[.int .u8 49, .int .u8 50, .int .u8 51, .int .u8 52, .int .u8 53, .int .u8 54, .int .u8 55, .int .u8 56, .int .u8 57] 5 (9, 10))) fun e w' => e = .returned (.int .u32 3421780262) ∧ w' = (W.alloc (.cells #[.int .i64 15, .string ⟨#[]⟩, .string ⟨#[120]⟩, .int .i64 2] 47)).alloc (.cells #[.int .u8 49, .int .u8 50, .int .u8 51, .int .u8 52, .int .u8 53, .int .u8 54, .int .u8 55, .int .u8 56, .int .u8 57] 5 (9, 10)) := fun W => by
    have h := sum_any _ _ _ _ _ (wk_new (W.alloc (.cells #[.int .i64 15, .string ⟨#[]⟩, .string ⟨#[120]⟩, .int .i64 2] 47))) (by decide)
    rw [wk_sum] at h
    have hz : (W.alloc (.cells #[.int .i64 15, .string ⟨#[]⟩, .string ⟨#[120]⟩, .int .i64 2] 47)).heap.size = W.heap.size + 1 := by simp
    rw [hz] at h
    exact h
  have kc : ∀ W : World, (convert 23 23 (.slice (some ⟨W.heap.size + 1, 0, none⟩) 9 9)).run Try.prog ((W.alloc (.cells #[.int .i64 15, .string ⟨#[]⟩, .string ⟨#[120]⟩, .int .i64 2] 47)).alloc (.cells #[.int .u8 49, .int .u8 50, .int .u8 51, .int .u8 52, .int .u8 53, .int .u8 54, .int .u8 55, .int .u8 56, .int .u8 57] 5)) = .ok (.slice (some ⟨W.heap.size + 1, 0, none⟩) 9 9) ((W.alloc (.cells #[.int .i64 15, .string ⟨#[]⟩, .string ⟨#[120]⟩, .int .i64 2] 47)).alloc (.cells #[.int .u8 49, .int .u8 50, .int .u8 51, .int .u8 52, .int .u8 53, .int .u8 54, .int .u8 55, .int .u8 56, .int .u8 57] 5 (9, 10))) := fun W => by
    have h := Lib.run_convert_bytes_const (P := Try.prog) (W.alloc (.cells #[.int .i64 15, .string ⟨#[]⟩, .string ⟨#[120]⟩, .int .i64 2] 47)) 23 5 #[.int .u8 49, .int .u8 50, .int .u8 51, .int .u8 52, .int .u8 53, .int .u8 54, .int .u8 55, .int .u8 56, .int .u8 57] 9 9 Try.underlying23 Try.underlying5
    have hz : (W.alloc (.cells #[.int .i64 15, .string ⟨#[]⟩, .string ⟨#[120]⟩, .int .i64 2] 47)).heap.size = W.heap.size + 1 := by simp
    rw [hz] at h
    exact h
  go_enter Try.func12, Try.ntmps12
  go_wp2_with (first
    | (go_at_call 21; refine hE.mono ?_; rintro e w1 ⟨a, l, c, er, rfl, hA, K1⟩; have her : er = 0 := hA.err; have hlen : 8 = l := hA.len; subst her hlen; have hR := readEvent_any w1 a 8 c _ hA.bytes (by decide); simp only [Option.getD_some] at hR; rw [wk_read] at hR; simp only [evOut] at hR; clear hE hA)
    | (go_at_call 22; refine hR.mono ?_; rintro e w2 ⟨rfl, K2⟩; clear hR)
    | (go_at_call 14; refine (hS _).mono ?_; rintro e w3 ⟨rfl, rfl⟩; clear hS)
    | fail)
  go_ret
  exact ⟨rfl, ((K1.and K2).and (Kept.alloc _ _ _)).and (Kept.alloc _ _ _)⟩

end Go.Proofs.Ytchdmlckicipcaa
