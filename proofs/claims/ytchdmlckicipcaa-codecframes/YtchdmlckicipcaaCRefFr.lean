/-
  The document's frames: four bytes of a word, Frame, Unframe.
-/
import Derived.Test.YtchdmlckicipcaaLawFlips
import Derived.BigQuiet
namespace Go.Proofs.Ytchdmlckicipcaa
open Go.RowKit

theorem srcRow {w : World} {base n : Nat} {t : TypeId} {v : Value} {xs : List Value} (h : w.ownsRow base t 1 v n xs) : Src w 1 v n xs := by
  have h1 := h.1
  rcases h.2 with ⟨rfl, rfl⟩ | ⟨g, cap, cur, rfl, _⟩
  · exact .inr ⟨0, rfl, rfl, List.eq_nil_of_length_eq_zero (by simpa using h1)⟩
  · exact .inl ⟨_, cap, rfl, h1, h.cells rfl⟩

theorem low4_vals (x : Nat) (hx : x < 4294967296) : (low 4 x).map (Value.int .u8) = [.int .u8 ((x : Int) / 16777216), .int .u8 ((x : Int) / 65536 % 256), .int .u8 ((x : Int) / 256 % 256), .int .u8 ((x : Int) % 256)] := by
  simp only [low, List.map_cons, List.map_nil, Nat.reducePow, Nat.div_one]
  have e1 : ((x / 16777216 % 256 : Nat) : Int) = (x : Int) / 16777216 := by omega
  have e2 : ((x / 65536 % 256 : Nat) : Int) = (x : Int) / 65536 % 256 := by omega
  have e3 : ((x / 256 % 256 : Nat) : Int) = (x : Int) / 256 % 256 := by omega
  have e4 : ((x % 256 : Nat) : Int) = (x : Int) % 256 := by omega
  rw [e1, e2, e3, e4]

set_option maxRecDepth 100000 in
set_option maxHeartbeats 400000 in
theorem refFour_any (w : World) (x : Nat) (hx : x < 4294967296) :
    Calls Try.prog 15 #[.int .u32 x] w fun e w' => ∃ a c, e = .returned (.slice a 4 c) ∧ w'.ownsRow w.heap.size 5 1 (.slice a 4 c) 4 ((low 4 x).map (Value.int .u8)) ∧ Kept (fun _ => False) w w' := by
  have HW : Hid _ := low4_vals x hx
  go_enter Try.func15, Try.ntmps15
  go_wp2
  go_ret
  refine ⟨_, _, rfl, ?_, Kept.alloc _ _ _⟩
  rw [HW.out]
  exact ⟨rfl, .inr ⟨w.heap.size, 4, #[.int .u8 ((x : Int) / 16777216), .int .u8 ((x : Int) / 65536 % 256), .int .u8 ((x : Int) / 256 % 256), .int .u8 ((x : Int) % 256)], rfl, Nat.le_refl _, heap_alloc_new w _, Nat.le_refl _, by simp [maxLen], rfl, rfl⟩⟩

set_option maxRecDepth 100000 in
set_option maxHeartbeats 400000 in
theorem refFrame_any (w : World) (a : Option Addr) (m c : Nat) (p : List Int) (B : BytesAt w a m c p) (hm : m ≤ 1073741824) :
    Calls Try.prog 6 #[.slice a m c] w fun e w' => ∃ a' c', e = .returned (.slice a' (8 + m) c') ∧ w'.ownsRow w.heap.size 5 1 (.slice a' (8 + m) c') (8 + m) ((frameB p).map (Value.int .u8)) ∧ Kept (fun _ => False) w w' := by
  obtain ⟨i0, hi0, hz0, hz1, hz2⟩ := info_parts Try.info5
  have hlen := B.len
  have hcl := crc_lt p B.byte
  have HB : Hid (∀ w', Kept (fun _ => False) w w' → BytesAt w' a m c p) := fun w' K => B.kept K (fun _ _ _ h => h)
  have hS : ∀ w', Kept (fun _ => False) w w' → _ := fun w' K => refSum_any w' a m c p (HB.out w' K) (by omega)
  have hfr : (frameB p).map (Value.int .u8) = ((low 4 m).map (Value.int .u8) ++ (low 4 (crc p)).map (Value.int .u8)) ++ p.map (Value.int .u8) := by
    unfold frameB
    rw [hlen]
    simp
  have HFr : Hid _ := hfr
  have h1 := refFour_any w m (by omega)
  clear hfr B
  generalize crc p = cr at *
  have h2 : ∀ w', _ := fun w' => refFour_any w' cr hcl
  have hw : IntKind.u32.wrap (m : Int) = (m : Int) := by rw [IntKind.wrap_u32]; omega
  go_enter Try.func6, Try.ntmps6
  go_wp2_with (first
    | (go_at_call 15; have _t := h1; refine h1.mono ?_; rintro e w1 ⟨a1, c1, rfl, ho1, K1⟩; clear h1 _t)
    | (go_at_call 16; refine (hS w1 K1).mono ?_; rintro e ws ⟨rfl, hws⟩; subst ws; clear hS)
    | (go_at_call 15; refine (h2 w1).mono ?_; rintro e w2 ⟨a2, c2, rfl, ho2, K2⟩; have K12 := K1.and K2; have r1 := ownsRow_block' ho1 (fun k hk => K2.block k (ho1.lt k hk).2 (fun h => h)); have s2 := srcRow ho2; have hz := K12.size; clear h2 ho1)
    | (at_builtin; have _t := r1; refine wpList_append_src _ rfl _ _ 23 rfl w.heap.size 5 i0 (.int .u8 0) 1 1 Try.underlying23 hi0 hz0 hz1 hz2 rfl (by decide) (.slice a1 4 c1) 4 _ rfl r1 _ rfl 4 _ s2 (oneCells _) (by unfold maxLen; omega) (by omega) hz ?_; intro a3 c3 w3 ho3 hg3 _ _; have K3 := K12.trans (Kept.grown (S := fun k => w.heap.size ≤ k) hg3 (fun k e => (r1.lt k e).1)) (fun _ h => .inr h); have s3 := (HB.out w3 K3).src; have hz3 := K3.size; clear r1 s2 ho2 K12 K1 K2)
    | (at_builtin; refine wpList_append_src _ rfl _ _ 23 rfl w.heap.size 5 i0 (.int .u8 0) 1 1 Try.underlying23 hi0 hz0 hz1 hz2 rfl (by decide) (.slice a3 (4 + 4) c3) (4 + 4) _ rfl ho3 _ rfl m _ s3 (oneCells _) (by unfold maxLen; omega) (by omega) hz3 ?_; intro a4 c4 w4 ho4 hg4 _ _; have K4 := K3.trans (Kept.grown (S := fun k => w.heap.size ≤ k) hg4 (fun k e => (ho3.lt k e).1)) (fun _ h => .inr h))
    | fail)
  go_ret
  exact ⟨a4, c4, rfl, by rw [HFr.out]; exact ho4, K4⟩

end Go.Proofs.Ytchdmlckicipcaa
