/-
  Frames: words, Frame, Unframe.
-/
import Derived.Test.YtchdmlckicipcaaCWrMore
import Derived.Test.YtchdmlckicipcaaCCrc
import Derived.Lib.SlKeysI
namespace Go.Proofs.Ytchdmlckicipcaa
open Go.RowKit

/-- A frame: the length, the sum, the payload. -/
def frameB (p : List Int) : List Int := low 4 p.length ++ (low 4 (crc p) ++ p)

set_option maxRecDepth 100000 in
set_option maxHeartbeats 400000 in
theorem appendWord_any (w : World) (base : Nat) (v : Value) (n : Nat) (xs : List Value) (x : Nat) (h : w.ownsRow base 5 1 v n xs) (hn : n ≤ 1099511627776) (hx : x < 4294967296) (hb : base ≤ w.heap.size) :
    Calls Try.prog 13 #[v, .int .u32 x] w fun e w' => ∃ a c, e = .returned (.slice a (n + 4) c) ∧ w'.ownsRow base 5 1 (.slice a (n + 4) c) (n + 4) (xs ++ (low 4 x).map (Value.int .u8)) ∧ Kept (fun k => v.ownBlock = some k) w w' := by
  obtain ⟨i0, hi0, hz0, hz1, hz2⟩ := info_parts Try.info5
  obtain ⟨a, c, rfl⟩ := ownsRow_shape h
  have hw4 : (low 4 x).map (Value.int .u8) = [.int .u8 ((x : Int) / 16777216), .int .u8 ((x : Int) / 65536 % 256), .int .u8 ((x : Int) / 256 % 256), .int .u8 ((x : Int) % 256)] := by
    simp only [low, List.map_cons, List.map_nil, Nat.reducePow, Nat.div_one]
    have e1 : ((x / 16777216 % 256 : Nat) : Int) = (x : Int) / 16777216 := by omega
    have e2 : ((x / 65536 % 256 : Nat) : Int) = (x : Int) / 65536 % 256 := by omega
    have e3 : ((x / 256 % 256 : Nat) : Int) = (x : Int) / 256 % 256 := by omega
    have e4 : ((x % 256 : Nat) : Int) = (x : Int) % 256 := by omega
    rw [e1, e2, e3, e4]
  have ra := h.alloc (.cells #[.int .u8 ((x : Int) / 16777216), .int .u8 ((x : Int) / 65536 % 256), .int .u8 ((x : Int) / 256 % 256), .int .u8 ((x : Int) % 256)] 5)
  have src : Src (w.alloc (.cells #[.int .u8 ((x : Int) / 16777216), .int .u8 ((x : Int) / 65536 % 256), .int .u8 ((x : Int) / 256 % 256), .int .u8 ((x : Int) % 256)] 5)) 1 (.slice (some ⟨w.heap.size, 0, none⟩) 4 4) 4 [.int .u8 ((x : Int) / 16777216), .int .u8 ((x : Int) / 65536 % 256), .int .u8 ((x : Int) / 256 % 256), .int .u8 ((x : Int) % 256)] :=
    .inl ⟨_, 4, rfl, rfl, World.news_of_block (heap_alloc_new w _)⟩
  have hba : base ≤ (w.alloc (.cells #[.int .u8 ((x : Int) / 16777216), .int .u8 ((x : Int) / 65536 % 256), .int .u8 ((x : Int) / 256 % 256), .int .u8 ((x : Int) % 256)] 5)).heap.size := by simp; omega
  have HW : Hid _ := hw4
  clear hw4
  go_enter Try.func13, Try.ntmps13
  go_wp2_with (first
    | (at_builtin; refine wpList_append_src _ rfl _ _ 23 rfl base 5 i0 (.int .u8 0) 1 1 Try.underlying23 hi0 hz0 hz1 hz2 rfl (by decide) (.slice a n c) n xs rfl ra _ rfl 4 _ src (by simp [Value.oneCell']) (by unfold maxLen; omega) (by omega) hba ?_; intro a3 c3 w3 ho3 hg3 _ hl3)
    | fail)
  go_ret
  exact ⟨a3, c3, rfl, by rw [HW.out]; exact ho3, (Kept.alloc _ w _).and (Kept.grown hg3 (fun _ e => e))⟩

set_option maxRecDepth 100000 in
set_option maxHeartbeats 400000 in
theorem frame_any (w : World) (a : Option Addr) (m c : Nat) (p : List Int) (B : BytesAt w a m c p) (hm : m ≤ 1073741824) :
    Calls Try.prog 5 #[.slice a m c] w fun e w' => ∃ a' c', e = .returned (.slice a' (8 + m) c') ∧ w'.ownsRow w.heap.size 5 1 (.slice a' (8 + m) c') (8 + m) ((frameB p).map (Value.int .u8)) ∧ Kept (fun _ => False) w w' := by
  obtain ⟨i0, hi0, hz0, hz1, hz2⟩ := info_parts Try.info5
  have hlen := B.len
  have hcl := crc_lt p B.byte
  have HB : Hid (∀ w', Kept (fun _ => False) w w' → BytesAt w' a m c p) := fun w' K => B.kept K (fun _ _ _ h => h)
  have hS : ∀ w', Kept (fun _ => False) w w' → _ := fun w' K => sum_any w' a m c p (HB.out w' K) (by omega)
  have hfr : (frameB p).map (Value.int .u8) = ((low 4 m).map (Value.int .u8) ++ (low 4 (crc p)).map (Value.int .u8)) ++ p.map (Value.int .u8) := by
    unfold frameB
    rw [hlen]
    simp
  have HFr : Hid _ := hfr
  clear hfr B
  generalize crc p = cr at *
  go_enter Try.func5, Try.ntmps5
  go_wp2_with (first
    | (refine wpList_make_own _ rfl _ _ 23 rfl w.heap.size 5 i0 (.int .u8 0) 1 Try.underlying23 hi0 hz0 hz1 _ _ _ (8 + m) rfl rfl (by omega) (by rw [hz2]; omega) (by unfold maxLen; omega) (Nat.le_refl _) ?_; intro w1 ho1 hg1; have K1 : Kept (fun _ => False) w w1 := Kept.grown hg1 (fun _ h => by cases h); have hA := appendWord_any w1 w.heap.size _ 0 [] m ho1 (by decide) (by omega) K1.size; have _t := ho1; clear hg1)
    | (go_at_call 13; have _t := hA; refine hA.mono ?_; rintro e w2 ⟨a2, c2, rfl, ho2, K2⟩; simp only [Nat.zero_add, List.nil_append] at ho2 ⊢; have K12 := K1.trans K2 (fun k h => .inr (ho1.lt k h).1); have hA2 := appendWord_any w2 w.heap.size _ 4 _ cr ho2 (by decide) hcl K12.size; have hS2 := hS w2 K12; clear hA hS _t)
    | (go_at_call 14; refine hS2.mono ?_; rintro e ws ⟨rfl, hws⟩; subst ws; clear hS2)
    | (go_at_call 13; refine hA2.mono ?_; rintro e w3 ⟨a3, c3, rfl, ho3, K3⟩; have K13 := K12.trans K3 (fun k h => .inr (ho2.lt k h).1); have src := (HB.out w3 K13).src; have hz3 := K13.size; clear hA2)
    | (at_builtin; refine wpList_append_src _ rfl _ _ 23 rfl w.heap.size 5 i0 (.int .u8 0) 1 1 Try.underlying23 hi0 hz0 hz1 hz2 rfl (by decide) (.slice a3 8 c3) 8 _ rfl ho3 _ rfl m _ src (oneCells _) (by unfold maxLen; omega) (by omega) hz3 ?_; intro a4 c4 w4 ho4 hg4 _ _)
    | fail)
  go_ret
  exact ⟨a4, c4, rfl, by rw [HFr.out]; exact ho4, K13.trans (Kept.grown (S := fun k => w.heap.size ≤ k) hg4 (fun k e => (ho3.lt k e).1)) (fun _ h => .inr h)⟩

end Go.Proofs.Ytchdmlckicipcaa
