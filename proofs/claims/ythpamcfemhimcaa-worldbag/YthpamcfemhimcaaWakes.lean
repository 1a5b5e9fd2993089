/-
  wakes: what was synced is there behind a crash.
-/
import Derived.Test.YthpamcfemhimcaaDiskNew
import Derived.Lib.SlBytesConst
import Derived.Laws.BytesArg
namespace Go.Proofs.Ythpamcfemhimcaa
open Go.RowKit Go.Maps Go.ChangeMaps Go.MapKept

theorem bytesNew (w : World) (a b : Int) (ha : 0 ≤ a ∧ a ≤ 255) (hb : 0 ≤ b ∧ b ≤ 255) : BytesAt (w.alloc (.cells #[.int .u8 a, .int .u8 b] 5 (2, 3))) (some ⟨w.heap.size, 0, none⟩) 2 2 [a, b] :=
  ⟨rfl, Nat.le_refl _, fun h => (by cases h), fun ad h => (by cases h; exact World.news_of_block (heap_alloc_new w _)), fun y hy => by simp at hy; rcases hy with rfl | rfl <;> assumption⟩

theorem intsNew (w : World) (S : Nat → Prop) (x : Int) (hS : ¬ S w.heap.size) : IntsAt (w.alloc (.cells #[.int .i64 x] 3)) S (.slice (some ⟨w.heap.size, 0, none⟩) 1 1) [x] := by
  refine ⟨_, 1, rfl, fun _ => ⟨w.heap.size, 0, rfl, Nat.le_refl _, hS, fun j y hy => ?_⟩⟩
  have := World.news_of_block (heap_alloc_new w (.cells #[.int .i64 x] 3)) j (.int .i64 y) (by
    cases j with
    | zero => simpa using hy
    | succ j => simp at hy)
  rw [Nat.zero_add]
  simpa [Addr.add_lit] using this

def wk1 : DSt := DSt.new.append 1 [97, 98]
def wk2 : DSt := wk1.sync 1
def wk3 : DSt := wk2.append 1 [99, 100]
def wk4 : DSt := wk3.crash [1] [1]

theorem wk1e : DSt.new.err 1 = 0 := by decide
theorem wk2e : wk1.err 1 = 0 := by decide
theorem wk3e : wk2.err 1 = 0 := by decide
theorem wk4f : wk4.files 1 = some ⟨[97, 98, 99], 3⟩ := by rfl
theorem wk4o : wk4.ops = 3 := by rfl
theorem wk4k : wk4.keptOf 1 = 3 := by rfl

theorem wk3keys {l : List Int} (h : IsKeys wk3 l) : l = [1] := by
  have hm : ∀ x, x ∈ l → x = 1 := by
    intro x hx
    have := (h.mem x).1 hx
    by_cases e : x = 1
    · exact e
    · have e2 : wk3.files x = none := by
        simp [wk3, wk2, wk1, DSt.append, DSt.sync, DSt.put, DSt.new, DSt.after, DSt.err, setF, e]
      rw [e2] at this; cases this
  have h1 : (1 : Int) ∈ l := (h.mem 1).2 (by decide)
  match l, h.rising, hm, h1 with
  | [], _, _, h1 => cases h1
  | [x], _, hm, _ => rw [hm x (by simp)]
  | x :: y :: r, hr, hm, _ =>
    have e1 := hm x (by simp)
    have e2 := hm y (by simp)
    have := (List.pairwise_cons.1 hr).1 y (by simp)
    omega

/-- A slice of bytes of the caller's own reads as b. -/
theorem row3 {w : World} {base : Nat} {v : Value} {a b c : Int} (h : w.ownsRow base 5 1 v 3 [.int .u8 a, .int .u8 b, .int .u8 c]) : ∃ g cap, v = .slice (some ⟨g, 0, none⟩) 3 cap ∧ w.cell? ⟨g, 0, none⟩ = some (.int .u8 a) ∧ w.cell? ⟨g, 1, none⟩ = some (.int .u8 b) ∧ w.cell? ⟨g, 2, none⟩ = some (.int .u8 c) := by
  obtain ⟨g, cap, rfl, _, _⟩ := h.form (by omega)
  refine ⟨g, cap, rfl, ?_, ?_, ?_⟩
  · have := h.cells (g := g) rfl 0 _ rfl; simpa [Addr.add_lit] using this
  · have := h.cells (g := g) rfl 1 _ rfl; simpa [Addr.add_lit] using this
  · have := h.cells (g := g) rfl 2 _ rfl; simpa [Addr.add_lit] using this

theorem str3 {w : World} {g : Nat} (h0 : w.cell? ⟨g, 0, none⟩ = some (.int .u8 97)) (h1 : w.cell? ⟨g, 1, none⟩ = some (.int .u8 98)) (h2 : w.cell? ⟨g, 2, none⟩ = some (.int .u8 99)) (cap : Nat) :
    (convert 27 9 (.slice (some ⟨g, 0, none⟩) 3 cap)).run Try.prog w = .ok (.string ⟨#[97, 98, 99]⟩) w := by
  have h := run_convert_bytes_arg w 27 5 Try.underlying27 Try.underlying5 g 0 3 cap [97, 98, 99] rfl (fun i hi => by
    match i, hi with
    | 0, _ => exact h0
    | 1, _ => exact h1
    | 2, _ => exact h2) 9 Try.underlying9
  exact h

theorem wk_append1 {w : World} {S : Nat → Prop} {d bf bq : Nat} {G C : Int → Nat} (D : DiskIn w S d 0 0 DSt.new bf bq G C) :
    Calls Try.prog 35 #[.pointer (some ⟨d, 0, none⟩), .int .i64 1, .slice (some ⟨w.heap.size, 0, none⟩) 2 2] (w.alloc (.cells #[.int .u8 97, .int .u8 98] 5 (2, 3))) fun e w' =>
      e = .returned (.int .i64 0) ∧ ∃ S' G' C', DiskIn w' S' d 1 2 wk1 bf bq G' C' ∧ Kept S w w' ∧ ∀ k, S' k → S k ∨ w.heap.size ≤ k := by
  have D1 := D.kept (Kept.alloc (fun _ => False) w (.cells #[.int .u8 97, .int .u8 98] 5 (2, 3))) (fun _ _ h => h)
  have h := append_any D1 1 (isI64_of (by decide) (by decide)) (bytesNew w 97 98 (by decide) (by decide)) (fun _ ad e hs => by cases e; have := D.bnd _ hs; simp at this) (by decide) (by decide) (by decide)
  rw [wk1e] at h
  refine h.mono ?_
  rintro e w' ⟨rfl, S', G', C', D', K', hS⟩
  exact ⟨rfl, S', G', C', D', (Kept.alloc S w _).and K', fun k hk => (hS k hk).elim .inl (fun h => .inr (by simp at h; omega))⟩

theorem wk_append2 {w : World} {S : Nat → Prop} {d bf bq : Nat} {G C : Int → Nat} (D : DiskIn w S d 2 2 wk2 bf bq G C) :
    Calls Try.prog 35 #[.pointer (some ⟨d, 0, none⟩), .int .i64 1, .slice (some ⟨w.heap.size, 0, none⟩) 2 2] (w.alloc (.cells #[.int .u8 99, .int .u8 100] 5 (2, 3))) fun e w' =>
      e = .returned (.int .i64 0) ∧ ∃ S' G' C', DiskIn w' S' d 3 4 wk3 bf bq G' C' ∧ Kept S w w' ∧ ∀ k, S' k → S k ∨ w.heap.size ≤ k := by
  have D1 := D.kept (Kept.alloc (fun _ => False) w (.cells #[.int .u8 99, .int .u8 100] 5 (2, 3))) (fun _ _ h => h)
  have h := append_any D1 1 (isI64_of (by decide) (by decide)) (bytesNew w 99 100 (by decide) (by decide)) (fun _ ad e hs => by cases e; have := D.bnd _ hs; simp at this) (by decide) (by decide) (by decide)
  rw [wk3e] at h
  refine h.mono ?_
  rintro e w' ⟨rfl, S', G', C', D', K', hS⟩
  exact ⟨rfl, S', G', C', D', (Kept.alloc S w _).and K', fun k hk => (hS k hk).elim .inl (fun h => .inr (by simp at h; omega))⟩

theorem wk_crash {w : World} {S : Nat → Prop} {d bf bq : Nat} {G C : Int → Nat} (D : DiskIn w S d 3 4 wk3 bf bq G C) :
    Calls Try.prog 37 #[.pointer (some ⟨d, 0, none⟩), .slice (some ⟨w.heap.size, 0, none⟩) 1 1] (w.alloc (.cells #[.int .i64 1] 3)) fun e w' =>
      e = .returned (.tuple #[]) ∧ ∃ S' G' C', DiskIn w' S' d 6 4 wk4 bf bq G' C' ∧ Kept S w w' ∧ ∀ k, S' k → S k ∨ w.heap.size ≤ k := by
  have D1 := D.kept (Kept.alloc (fun _ => False) w (.cells #[.int .i64 1] 3)) (fun _ _ h => h)
  refine (crash_any D1 (by decide) (by decide) _ [1] (intsNew w S 1 (fun hs => by have := D.bnd _ hs; simp at this))).mono ?_
  rintro e w' ⟨rfl, S', G', C', l, ⟨hl, hll⟩, D', K', hS⟩
  have D2 := D'.mono (show 3 + l.length ≤ 6 by omega) (Nat.le_refl _)
  rw [wk3keys hl] at D2
  exact ⟨rfl, S', G', C', D2, (Kept.alloc S w _).and K', fun k hk => (hS k hk).elim .inl (fun h => .inr (by simp at h; omega))⟩

set_option maxRecDepth 100000 in
set_option maxHeartbeats 1000000 in
theorem wakes_any (w : World) :
    Calls Try.prog 25 #[] w fun e w' => e = .returned (.bool true) ∧ Kept (fun _ => False) w w' := by
  have hcv1 : ∀ W : World, (convert 27 27 (.slice (some ⟨W.heap.size, 0, none⟩) 2 2)).run Try.prog (W.alloc (.cells #[.int .u8 97, .int .u8 98] 5)) = .ok (.slice (some ⟨W.heap.size, 0, none⟩) 2 2) (W.alloc (.cells #[.int .u8 97, .int .u8 98] 5 (2, 3))) := fun W => Lib.run_convert_bytes_const W _ _ _ 2 2 Try.underlying27 Try.underlying5
  have hcv2 : ∀ W : World, (convert 27 27 (.slice (some ⟨W.heap.size, 0, none⟩) 2 2)).run Try.prog (W.alloc (.cells #[.int .u8 99, .int .u8 100] 5)) = .ok (.slice (some ⟨W.heap.size, 0, none⟩) 2 2) (W.alloc (.cells #[.int .u8 99, .int .u8 100] 5 (2, 3))) := fun W => Lib.run_convert_bytes_const W _ _ _ 2 2 Try.underlying27 Try.underlying5
  go_enter Try.func25, Try.ntmps25
  go_wp2_with (first
    | (go_at_call 34; refine (newDisk_any _).mono ?_; rintro e w1 ⟨rfl, D1, K1, hz1⟩; have HZ : Hid (w1.heap.size = w.heap.size + 3) := hz1; clear hz1)
    | (go_at_call 35; have _t := D1; refine (wk_append1 D1).mono ?_; rintro e w2 ⟨rfl, S2, G2, C2, D2, K2, hS2⟩; clear D1)
    | (go_at_call 36; refine (sync_any D2 1 (isI64_of (by decide) (by decide)) (by decide) (by decide)).mono ?_; rw [wk2e]; rintro e w3 ⟨rfl, S3, G3, C3, D3, K3, hS3⟩; clear D2)
    | (go_at_call 35; have _t := D3; refine (wk_append2 D3).mono ?_; rintro e w4 ⟨rfl, S4, G4, C4, D4, K4, hS4⟩; clear D3)
    | (go_at_call 37; refine (wk_crash D4).mono ?_; rintro e w5 ⟨rfl, S5, G5, C5, D5, K5, hS5⟩; clear D4)
    | (go_at_call 38; refine (read_some D5 (by decide) 1 (isI64_of (by decide) (by decide)) _ wk4f).mono ?_; rintro e w6 ⟨v6, rfl, r6, _, K6⟩; have D6 := D5.kept K6 (fun _ _ h => h); obtain ⟨g6, cap6, rfl, k60, k61, k62⟩ := row3 r6; have hcs := str3 k60 k61 k62 cap6; clear D5 r6)
    | (go_at_call 39; refine (kept_any D6 1 (isI64_of (by decide) (by decide))).mono ?_; rw [wk4k]; rintro e w7 ⟨rfl, rfl⟩)
    | (go_at_call 40; refine (ops_any D6).mono ?_; rw [wk4o]; rintro e w8 ⟨rfl, rfl⟩)
    | fail)
  go_ret
  refine ⟨rfl, ?_⟩
  have k2 := K1.trans K2 (fun k h => .inr h.1)
  have b2 : ∀ k, S2 k → False ∨ w.heap.size ≤ k := fun k h => .inr ((hS2 k h).elim (fun h => h.1) (fun h => Nat.le_trans K1.size h))
  have k3 := k2.trans K3 b2
  have b3 : ∀ k, S3 k → False ∨ w.heap.size ≤ k := fun k h => (hS3 k h).elim (b2 k) (fun h => .inr (Nat.le_trans k2.size h))
  have k4 := k3.trans K4 b3
  have b4 : ∀ k, S4 k → False ∨ w.heap.size ≤ k := fun k h => (hS4 k h).elim (b3 k) (fun h => .inr (Nat.le_trans k3.size h))
  exact (k4.trans K5 b4).and K6

end Go.Proofs.Ythpamcfemhimcaa
