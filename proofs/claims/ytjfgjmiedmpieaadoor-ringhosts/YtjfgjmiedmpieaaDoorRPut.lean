/-
  The document's put, walked.
-/
import Derived.Test.YtjfgjmiedmpieaaDoorRRefNewP
import Derived.Test.YtjfgjmiedmpieaaDoorRRow
import Derived.Test.YtjfgjmiedmpieaaDoorRRefMore
namespace Go.Proofs.YtjfgjmiedmpieaaDoor
open Go.RowKit Go.Sort

theorem infoSpot3 : (Tryd.prog.info? 49).map (fun i => (i.zero, i.size, i.bytes)) = some (some (.agg #[.int .i64 0, .int .i64 0, .int .i64 0]), 3, 24) := by kernel_rfl

theorem keptNew3 {w w' : World} {n : Nat} {T : TypeId} (hg : (w.alloc (.cells #[] T)).grownBy w' (Value.slice (some ⟨w.heap.size, 0, none⟩) n n).ownBlock) : Kept (fun _ => False) w w' :=
  (Kept.alloc (fun _ => False) w (.cells #[] T)).trans (Kept.grown (S := fun j => j = w.heap.size) hg (fun j e => (Option.some.inj (show some w.heap.size = some j from e)).symm)) (fun i h => .inr (by have h' : i = w.heap.size := h; omega))

theorem srcNone {w : World} {n g k : Nat} {l : List Sp} (hl : l.length = n) (hk : n ≤ k) : Src w 3 (.slice (some ⟨g, 0, none⟩) (n - k) 0) (n - k) (sp3 (l.drop k)) := by
  refine .inl ⟨_, _, rfl, by rw [sp3_len, List.length_drop]; omega, fun j u hu => ?_⟩
  rw [List.drop_eq_nil_of_le (by omega)] at hu
  simp [sp3] at hu

theorem sp3_put (l : List Sp) (x : Sp) (k : Nat) : sp3 (l.take k) ++ [.int .i64 x.1.1, .int .i64 x.1.2, .int .i64 x.2] ++ sp3 (l.drop k) = sp3 (l.take k ++ [x] ++ l.drop k) := by
  rw [sp3_append, sp3_append]; rfl

set_option maxRecDepth 100000 in
set_option maxHeartbeats 4000000 in
theorem put_some (w : World) (rb base g cap : Nat) (l : List Sp) (x : Sp) (hv : Value) (hr : w.heap[rb]? = some (.cells #[.slice (some ⟨g, 0, none⟩) l.length cap, hv] 37 (0, 0))) (ho : w.ownsRow base 49 3 (.slice (some ⟨g, 0, none⟩) l.length cap) l.length (sp3 l)) (hfew : l.length ≤ 1048575) :
    Calls Tryd.prog 22 #[.pointer (some ⟨rb, 0, none⟩), .agg #[.int .i64 x.1.1, .int .i64 x.1.2, .int .i64 x.2]] w fun e w' => e = .returned (.tuple #[]) ∧ ∃ k v', PutAt l x k ∧ w'.heap[rb]? = some (.cells #[v', hv] 37 (0, 0)) ∧ w'.ownsRow w.heap.size 49 3 v' (l.length + 1) (sp3 (l.take k ++ [x] ++ l.drop k)) ∧ Kept (fun j => j = rb) w w' := by
  obtain ⟨i0, hi, hz0, hz1, hz2⟩ := info_parts infoSpot3
  have hrl := (Array.getElem?_eq_some_iff.1 hr).1
  have hgl := (ho.lt g rfl).2
  have KA := Kept.alloc (fun _ => False) w (.cells #[.int .i64 x.1.1, .int .i64 x.1.2, .int .i64 x.2] 49)
  have hB := heap_alloc_new w (.cells #[.int .i64 x.1.1, .int .i64 x.1.2, .int .i64 x.2] 49)
  have y0 : w.cell? ⟨rb, 0, none⟩ = some (.slice (some ⟨g, 0, none⟩) l.length cap) := by unfold World.cell?; rw [hr]; rfl
  have y1 := cellKept KA y0
  have HC := rspOfRow ho
  have hcp : l.length ≤ cap := by
    rcases ho.2 with ⟨e, _⟩ | ⟨_, _, _, e, _, _, h, _⟩
    · cases e
    · simp only [Value.slice.injEq] at e; omega
  have HO : Hid (w.ownsRow base 49 3 (.slice (some ⟨g, 0, none⟩) l.length cap) l.length (sp3 l)) := ho
  have HR : Hid (w.heap[rb]? = some (.cells #[.slice (some ⟨g, 0, none⟩) l.length cap, hv] 37 (0, 0))) := hr
  have HCC : Hid _ := HC
  clear ho hr HC y0
  go_enter Tryd.func22, Tryd.ntmps22
  go_wp2
  have b0 : (w.alloc (.cells #[.int .i64 x.1.1, .int .i64 x.1.2, .int .i64 x.2] 49)).cell? ⟨w.heap.size, 0, none⟩ = some (.int .i64 x.1.1) := by unfold World.cell?; rw [hB]; rfl
  have b1 : (w.alloc (.cells #[.int .i64 x.1.1, .int .i64 x.1.2, .int .i64 x.2] 49)).cell? ⟨w.heap.size, 1, none⟩ = some (.int .i64 x.1.2) := by unfold World.cell?; rw [hB]; rfl
  have b2 : (w.alloc (.cells #[.int .i64 x.1.1, .int .i64 x.1.2, .int .i64 x.2] 49)).cell? ⟨w.heap.size, 2, none⟩ = some (.int .i64 x.2) := by unfold World.cell?; rw [hB]; rfl
  generalize hW : w.alloc (.cells #[.int .i64 x.1.1, .int .i64 x.1.2, .int .i64 x.2] 49) = W at *
  clear hW hB
  go_loopw [4] (fun i wr => ∃ (k : Nat), k ≤ l.length ∧ i = .int .i64 k ∧ (∀ j (hj : j < l.length), k ≤ j → ahead x.1 (l[j]'hj).1 = true) ∧ Kept (fun _ => False) W wr) (fun i _ => (intOf i).toNat)
  case atStart => exact ⟨l.length, Nat.le_refl _, rfl, fun j hj h => by omega, Kept.refl _ _⟩
  case round =>
    obtain ⟨k, hk, rfl, hall, K⟩ := hrel
    have KW := KA.and K
    have b0W := b0
    have b1W := b1
    have b2W := b2
    have b0 := cellKept K b0
    have b1 := cellKept K b1
    have r0 := cellKept K y1
    rcases Nat.eq_zero_or_pos k with hk0 | hk0
    · have g2 : ¬ (0 : Int) < (k : Int) := by omega
      have g2n : decide (0 < k) = false := by simp; omega
      have HK0 : Hid (k = 0) := hk0
      have HALL : Hid (∀ j (hj : j < l.length), k ≤ j → ahead x.1 (l[j]'hj).1 = true) := hall
      clear hall hk0
      go_wp2_with fail
      go_quiet (fail)
      have KF0 : Kept (fun _ => False) W (wr.drewN nq) := K.and (Kept.drewN _ _ _)
      generalize wr.drewN nq = w4 at *
      have KF := KF0
      have KWF : Kept (fun _ => False) w w4 := KA.and KF
      have r4 := cellKept KF y1
      have R4 := fun X => cellKept (Kept.alloc (fun _ => False) w4 X) r4
      have o4 := fun X => rowKept HO.out (KWF.and (Kept.alloc (fun _ => False) w4 X)) (fun _ _ h => h)
      have HP : Hid (PutAt l x k) := ⟨hk, HALL.out, fun _ h => absurd h (by rw [HK0.out]; decide)⟩
      have f1 : (k : Int) ≤ (cap : Int) := by omega
      have f2 : (k : Int) ≤ (l.length : Int) := by omega
      have hs4 := KWF.size
      clear b0 b1 r0
      rcases Nat.decEq cap k with hkc | hkc
      · have hkc2 : ¬ k = cap := fun h => hkc h.symm
        go_wp2_with (first
          | (at_builtin; refine wpList_append_src _ rfl _ _ 35 rfl (w4).heap.size 49 i0 _ 3 24 Tryd.underlying35 hi hz0 hz1 hz2 rfl (by decide) (.slice (some ⟨(w4).heap.size, 0, none⟩) 0 0) 0 [] rfl (ownsRow_empty w4 (w4).heap.size _ 3 (Nat.le_refl _)) _ rfl k _ (srcTake (o4 _) rfl hk) (sp3_one _) (by unfold maxLen; omega) (by omega) (by simp) ?_; intro a5 c5 w5 ho5 hg5 _ hl5; simp only [Nat.zero_add, List.nil_append] at ho5; have K5 := keptNew3 hg5; have c50 := cellKept (KF.and K5) b0W; have c51 := cellKept (KF.and K5) b1W; have c52 := cellKept (KF.and K5) b2W; have hs5 := K5.size)
          | (at_builtin; refine wpList_append_src _ rfl _ _ 35 rfl (w4).heap.size 49 i0 _ 3 24 Tryd.underlying35 hi hz0 hz1 hz2 rfl (by decide) (.slice a5 k c5) k _ rfl (ho5.alloc _) _ rfl 1 [.int .i64 x.1.1, .int .i64 x.1.2, .int .i64 x.2] (.inl ⟨_, 1, rfl, rfl, World.news_of_block (heap_alloc_new _ _)⟩) (by simp [Value.oneCell']) (by unfold maxLen; omega) (by omega) (by simp; omega) ?_; intro a6 c6 w6 ho6 hg6 _ hl6; have K6 : Kept (fun _ => False) w4 w6 := (K5.and (Kept.alloc _ _ _)).trans (Kept.grown (S := fun j => (w4).heap.size ≤ j) hg6 (fun j e => (ho5.lt j e).1)) (fun _ h => .inr h); have r6 := cellKept K6 r4; have hs6 := K6.size; have o6 := rowKept HO.out (KWF.and K6) (fun _ _ h => h))
          | (at_builtin; refine wpList_append_src _ rfl _ _ 35 rfl (w4).heap.size 49 i0 _ 3 24 Tryd.underlying35 hi hz0 hz1 hz2 rfl (by decide) (.slice a6 (k + 1) c6) (k + 1) _ rfl ho6 _ rfl (l.length - k) _ (srcDrop o6 rfl hk) (sp3_one _) (by unfold maxLen; omega) (by omega) (by omega) ?_; intro a7 c7 w7 ho7 hg7 _ hl7; have K7 : Kept (fun _ => False) w4 w7 := K6.trans (Kept.grown (S := fun j => (w4).heap.size ≤ j) hg7 (fun j e => (ho6.lt j e).1)) (fun _ h => .inr h); have h7 := ((KWF.and K7).block rb hrl (fun h => h)).trans HR.out; have r7 : w7.cell? ⟨rb, 0, none⟩ = some (.slice (some ⟨g, 0, none⟩) l.length cap) := (by unfold World.cell?; rw [h7]; rfl); have q7 : w7.frozen? ⟨rb, 0, none⟩ = false := (by unfold World.frozen?; rw [h7]; rfl))
          | fail)
        have hlen : k + 1 + (l.length - k) = l.length + 1 := by omega
        have h8 : (w7.setCell ⟨rb, 0, none⟩ (.slice a7 (k + 1 + (l.length - k)) c7)).heap[rb]? = some (.cells #[.slice a7 (k + 1 + (l.length - k)) c7, hv] 37 (0, 0)) := by simp [World.setCell, Array.getElem?_modify, h7]
        have KS : Kept (fun j => j = rb) w7 (w7.setCell ⟨rb, 0, none⟩ (.slice a7 (k + 1 + (l.length - k)) c7)) := Kept.setCell _ _ _ rfl
        have o8 := ownsRow_mono (base' := w.heap.size) (rowKeepS ho7 KS (fun j hj => by have h5 := (ho7.lt j hj).1; show ¬ j = rb; omega)) (by omega)
        rw [sp3_put] at o8
        go_end0
        refine ⟨rfl, k, _, HP.out, h8, by rw [← hlen]; exact o8, ?_⟩
        exact ((KWF.and K7).mono (fun _ h => h.elim)).and KS
      · obtain rfl : k = l.length := by omega
        subst hkc
        have hsub : l.length - l.length = 0 := Nat.sub_self _
        go_wp2_with (first
          | (at_builtin; refine wpList_append_src _ rfl _ _ 35 rfl (w4).heap.size 49 i0 _ 3 24 Tryd.underlying35 hi hz0 hz1 hz2 rfl (by decide) (.slice (some ⟨(w4).heap.size, 0, none⟩) 0 0) 0 [] rfl (ownsRow_empty w4 (w4).heap.size _ 3 (Nat.le_refl _)) _ rfl l.length _ (srcTake (o4 _) rfl hk) (sp3_one _) (by unfold maxLen; omega) (by omega) (by simp) ?_; intro a5 c5 w5 ho5 hg5 _ hl5; simp only [Nat.zero_add, List.nil_append] at ho5; have K5 := keptNew3 hg5; have c50 := cellKept (KF.and K5) b0W; have c51 := cellKept (KF.and K5) b1W; have c52 := cellKept (KF.and K5) b2W; have hs5 := K5.size)
          | (at_builtin; refine wpList_append_src _ rfl _ _ 35 rfl (w4).heap.size 49 i0 _ 3 24 Tryd.underlying35 hi hz0 hz1 hz2 rfl (by decide) (.slice a5 l.length c5) l.length _ rfl (ho5.alloc _) _ rfl 1 [.int .i64 x.1.1, .int .i64 x.1.2, .int .i64 x.2] (.inl ⟨_, 1, rfl, rfl, World.news_of_block (heap_alloc_new _ _)⟩) (by simp [Value.oneCell']) (by unfold maxLen; omega) (by omega) (by simp; omega) ?_; intro a6 c6 w6 ho6 hg6 _ hl6; have K6 : Kept (fun _ => False) w4 w6 := (K5.and (Kept.alloc _ _ _)).trans (Kept.grown (S := fun j => (w4).heap.size ≤ j) hg6 (fun j e => (ho5.lt j e).1)) (fun _ h => .inr h); have r6 := cellKept K6 r4; have hs6 := K6.size; have o6 := rowKept HO.out (KWF.and K6) (fun _ _ h => h))
          | (at_builtin; refine wpList_append_src _ rfl _ _ 35 rfl (w4).heap.size 49 i0 _ 3 24 Tryd.underlying35 hi hz0 hz1 hz2 rfl (by decide) (.slice a6 (l.length + 1) c6) (l.length + 1) _ rfl ho6 _ rfl 0 [] (.inl ⟨_, _, rfl, rfl, fun j u hu => by simp at hu⟩) (by simp) (by unfold maxLen; omega) (by omega) (by omega) ?_; intro a7 c7 w7 ho7 hg7 _ hl7; have K7 : Kept (fun _ => False) w4 w7 := K6.trans (Kept.grown (S := fun j => (w4).heap.size ≤ j) hg7 (fun j e => (ho6.lt j e).1)) (fun _ h => .inr h); have h7 := ((KWF.and K7).block rb hrl (fun h => h)).trans HR.out; have r7 : w7.cell? ⟨rb, 0, none⟩ = some (.slice (some ⟨g, 0, none⟩) l.length l.length) := (by unfold World.cell?; rw [h7]; rfl); have q7 : w7.frozen? ⟨rb, 0, none⟩ = false := (by unfold World.frozen?; rw [h7]; rfl))
          | fail)
        rw [Nat.add_zero, List.append_nil] at ho7
        have h8 : (w7.setCell ⟨rb, 0, none⟩ (.slice a7 (l.length + 1) c7)).heap[rb]? = some (.cells #[.slice a7 (l.length + 1) c7, hv] 37 (0, 0)) := by simp [World.setCell, Array.getElem?_modify, h7]
        have KS : Kept (fun j => j = rb) w7 (w7.setCell ⟨rb, 0, none⟩ (.slice a7 (l.length + 1) c7)) := Kept.setCell _ _ _ rfl
        have o8 := ownsRow_mono (base' := w.heap.size) (rowKeepS ho7 KS (fun j hj => by have h5 := (ho7.lt j hj).1; show ¬ j = rb; omega)) (by omega)
        have e8 : sp3 (l.take l.length) ++ [.int .i64 x.1.1, .int .i64 x.1.2, .int .i64 x.2] = sp3 (l.take l.length ++ [x] ++ l.drop l.length) := by rw [← sp3_put, List.drop_length]; simp [sp3]
        rw [e8] at o8
        go_end0
        refine ⟨rfl, l.length, HP.out, _, h8, by simpa using o8, ?_⟩
        exact ((KWF.and K7).mono (fun _ h => h.elim)).and KS
    · have hkl : k - 1 < l.length := by omega
      obtain ⟨s1, s2, _⟩ := HCC.out (k - 1) hkl
      have s1 := cellKept KW s1
      have s2 := cellKept KW s2
      obtain ⟨y, hy⟩ : ∃ y, l[k - 1] = y := ⟨_, rfl⟩
      have HY : Hid (l[k - 1] = y) := hy
      rw [hy] at s1 s2
      have g2 : (0 : Int) < (k : Int) := by omega
      have g2n : decide (0 < k) = true := by simp; omega
      have g3 : (k : Int) - 1 < (l.length : Int) := by omega
      have g4 : (0 : Int) ≤ (k : Int) - 1 := by omega
      have g5 : ((k : Int) - 1).toNat = k - 1 := by omega
      have g6 : IntKind.i64.wrap ((k : Int) - 1) = (k : Int) - 1 := by rw [IntKind.wrap_i64]; omega
      have KD : Kept (fun _ => False) wr wr.drew := Kept.drew _ wr
      have HS : Hid (∀ V, Kept (fun _ => False) wr.drew V → Kept (fun _ => False) wr.drew V ∧ V.cell? ⟨w.heap.size, 0, none⟩ = some (.int .i64 x.1.1) ∧ V.cell? ⟨w.heap.size, 1, none⟩ = some (.int .i64 x.1.2) ∧ V.cell? ⟨rb, 0, none⟩ = some (.slice (some ⟨g, 0, none⟩) l.length cap) ∧ V.cell? ⟨g, (k - 1) * 3, none⟩ = some (.int .i64 y.1.1) ∧ V.cell? ⟨g, (k - 1) * 3 + 1, none⟩ = some (.int .i64 y.1.2)) := fun V K => ⟨K, cellKept (KD.and K) b0, cellKept (KD.and K) b1, cellKept (KD.and K) r0, cellKept (KD.and K) s1, cellKept (KD.and K) s2⟩
      have BF := fun V (K : Kept (fun _ => False) wr.drew V) => (refBefore_any V x.1 y.1).mono (fun e w' h => (⟨h.1, K.and h.2⟩ : _ ∧ Kept (fun _ => False) wr.drew w'))
      unfold pv at BF
      have HALL : Hid (∀ j (hj : j < l.length), k ≤ j → ahead x.1 (l[j]'hj).1 = true) := hall
      clear hall hy s1 s2 KD
      cases hA : ahead x.1 y.1
      · rw [hA] at BF
        have HAF : Hid (ahead x.1 y.1 = false) := hA
        clear hA
        go_wp2
        first
        | (go_region_held (fun V => Kept (fun _ => False) wr.drew V ∧ V.cell? ⟨w.heap.size, 0, none⟩ = some (.int .i64 x.1.1) ∧ V.cell? ⟨w.heap.size, 1, none⟩ = some (.int .i64 x.1.2) ∧ V.cell? ⟨rb, 0, none⟩ = some (.slice (some ⟨g, 0, none⟩) l.length cap) ∧ V.cell? ⟨g, (k - 1) * 3, none⟩ = some (.int .i64 y.1.1) ∧ V.cell? ⟨g, (k - 1) * 3 + 1, none⟩ = some (.int .i64 y.1.2)) (first | exact HS.out _ (Kept.refl _ _) | exact HS.out _ (by assumption)) (first
          | (go_at_call 34; refine (BF _ (by first | assumption | exact Kept.refl _ _)).mono ?_; rintro e w4 ⟨rfl, K4⟩)
          | fail))
        | fail
        all_goals
          have KF : Kept (fun _ => False) W w4 := (K.and (Kept.drew _ _)).and K4
          have KWF : Kept (fun _ => False) w w4 := KA.and KF
          have r4 := cellKept KF y1
          have R4 := fun X => cellKept (Kept.alloc (fun _ => False) w4 X) r4
          have o4 := fun X => rowKept HO.out (KWF.and (Kept.alloc (fun _ => False) w4 X)) (fun _ _ h => h)
          have HP : Hid (PutAt l x k) := ⟨hk, HALL.out, fun _ _ => by rw [HY.out]; exact HAF.out⟩
          have f1 : (k : Int) ≤ (cap : Int) := by omega
          have f2 : (k : Int) ≤ (l.length : Int) := by omega
          have hs4 := KWF.size
          clear b0 b1 r0
          rcases Nat.decEq cap k with hkc | hkc
          · have hkc2 : ¬ k = cap := fun h => hkc h.symm
            go_wp2_with (first
              | (at_builtin; refine wpList_append_src _ rfl _ _ 35 rfl (w4).heap.size 49 i0 _ 3 24 Tryd.underlying35 hi hz0 hz1 hz2 rfl (by decide) (.slice (some ⟨(w4).heap.size, 0, none⟩) 0 0) 0 [] rfl (ownsRow_empty w4 (w4).heap.size _ 3 (Nat.le_refl _)) _ rfl k _ (srcTake (o4 _) rfl hk) (sp3_one _) (by unfold maxLen; omega) (by omega) (by simp) ?_; intro a5 c5 w5 ho5 hg5 _ hl5; simp only [Nat.zero_add, List.nil_append] at ho5; have K5 := keptNew3 hg5; have c50 := cellKept (KF.and K5) b0W; have c51 := cellKept (KF.and K5) b1W; have c52 := cellKept (KF.and K5) b2W; have hs5 := K5.size)
              | (at_builtin; refine wpList_append_src _ rfl _ _ 35 rfl (w4).heap.size 49 i0 _ 3 24 Tryd.underlying35 hi hz0 hz1 hz2 rfl (by decide) (.slice a5 k c5) k _ rfl (ho5.alloc _) _ rfl 1 [.int .i64 x.1.1, .int .i64 x.1.2, .int .i64 x.2] (.inl ⟨_, 1, rfl, rfl, World.news_of_block (heap_alloc_new _ _)⟩) (by simp [Value.oneCell']) (by unfold maxLen; omega) (by omega) (by simp; omega) ?_; intro a6 c6 w6 ho6 hg6 _ hl6; have K6 : Kept (fun _ => False) w4 w6 := (K5.and (Kept.alloc _ _ _)).trans (Kept.grown (S := fun j => (w4).heap.size ≤ j) hg6 (fun j e => (ho5.lt j e).1)) (fun _ h => .inr h); have r6 := cellKept K6 r4; have hs6 := K6.size; have o6 := rowKept HO.out (KWF.and K6) (fun _ _ h => h))
              | (at_builtin; refine wpList_append_src _ rfl _ _ 35 rfl (w4).heap.size 49 i0 _ 3 24 Tryd.underlying35 hi hz0 hz1 hz2 rfl (by decide) (.slice a6 (k + 1) c6) (k + 1) _ rfl ho6 _ rfl (l.length - k) _ (srcDrop o6 rfl hk) (sp3_one _) (by unfold maxLen; omega) (by omega) (by omega) ?_; intro a7 c7 w7 ho7 hg7 _ hl7; have K7 : Kept (fun _ => False) w4 w7 := K6.trans (Kept.grown (S := fun j => (w4).heap.size ≤ j) hg7 (fun j e => (ho6.lt j e).1)) (fun _ h => .inr h); have h7 := ((KWF.and K7).block rb hrl (fun h => h)).trans HR.out; have r7 : w7.cell? ⟨rb, 0, none⟩ = some (.slice (some ⟨g, 0, none⟩) l.length cap) := (by unfold World.cell?; rw [h7]; rfl); have q7 : w7.frozen? ⟨rb, 0, none⟩ = false := (by unfold World.frozen?; rw [h7]; rfl))
              | fail)
            have hlen : k + 1 + (l.length - k) = l.length + 1 := by omega
            have h8 : (w7.setCell ⟨rb, 0, none⟩ (.slice a7 (k + 1 + (l.length - k)) c7)).heap[rb]? = some (.cells #[.slice a7 (k + 1 + (l.length - k)) c7, hv] 37 (0, 0)) := by simp [World.setCell, Array.getElem?_modify, h7]
            have KS : Kept (fun j => j = rb) w7 (w7.setCell ⟨rb, 0, none⟩ (.slice a7 (k + 1 + (l.length - k)) c7)) := Kept.setCell _ _ _ rfl
            have o8 := ownsRow_mono (base' := w.heap.size) (rowKeepS ho7 KS (fun j hj => by have h5 := (ho7.lt j hj).1; show ¬ j = rb; omega)) (by omega)
            rw [sp3_put] at o8
            go_end0
            refine ⟨rfl, k, _, HP.out, h8, by rw [← hlen]; exact o8, ?_⟩
            exact ((KWF.and K7).mono (fun _ h => h.elim)).and KS
          · obtain rfl : k = l.length := by omega
            subst hkc
            have hsub : l.length - l.length = 0 := Nat.sub_self _
            go_wp2_with (first
              | (at_builtin; refine wpList_append_src _ rfl _ _ 35 rfl (w4).heap.size 49 i0 _ 3 24 Tryd.underlying35 hi hz0 hz1 hz2 rfl (by decide) (.slice (some ⟨(w4).heap.size, 0, none⟩) 0 0) 0 [] rfl (ownsRow_empty w4 (w4).heap.size _ 3 (Nat.le_refl _)) _ rfl l.length _ (srcTake (o4 _) rfl hk) (sp3_one _) (by unfold maxLen; omega) (by omega) (by simp) ?_; intro a5 c5 w5 ho5 hg5 _ hl5; simp only [Nat.zero_add, List.nil_append] at ho5; have K5 := keptNew3 hg5; have c50 := cellKept (KF.and K5) b0W; have c51 := cellKept (KF.and K5) b1W; have c52 := cellKept (KF.and K5) b2W; have hs5 := K5.size)
              | (at_builtin; refine wpList_append_src _ rfl _ _ 35 rfl (w4).heap.size 49 i0 _ 3 24 Tryd.underlying35 hi hz0 hz1 hz2 rfl (by decide) (.slice a5 l.length c5) l.length _ rfl (ho5.alloc _) _ rfl 1 [.int .i64 x.1.1, .int .i64 x.1.2, .int .i64 x.2] (.inl ⟨_, 1, rfl, rfl, World.news_of_block (heap_alloc_new _ _)⟩) (by simp [Value.oneCell']) (by unfold maxLen; omega) (by omega) (by simp; omega) ?_; intro a6 c6 w6 ho6 hg6 _ hl6; have K6 : Kept (fun _ => False) w4 w6 := (K5.and (Kept.alloc _ _ _)).trans (Kept.grown (S := fun j => (w4).heap.size ≤ j) hg6 (fun j e => (ho5.lt j e).1)) (fun _ h => .inr h); have r6 := cellKept K6 r4; have hs6 := K6.size; have o6 := rowKept HO.out (KWF.and K6) (fun _ _ h => h))
              | (at_builtin; refine wpList_append_src _ rfl _ _ 35 rfl (w4).heap.size 49 i0 _ 3 24 Tryd.underlying35 hi hz0 hz1 hz2 rfl (by decide) (.slice a6 (l.length + 1) c6) (l.length + 1) _ rfl ho6 _ rfl 0 [] (.inl ⟨_, _, rfl, rfl, fun j u hu => by simp at hu⟩) (by simp) (by unfold maxLen; omega) (by omega) (by omega) ?_; intro a7 c7 w7 ho7 hg7 _ hl7; have K7 : Kept (fun _ => False) w4 w7 := K6.trans (Kept.grown (S := fun j => (w4).heap.size ≤ j) hg7 (fun j e => (ho6.lt j e).1)) (fun _ h => .inr h); have h7 := ((KWF.and K7).block rb hrl (fun h => h)).trans HR.out; have r7 : w7.cell? ⟨rb, 0, none⟩ = some (.slice (some ⟨g, 0, none⟩) l.length l.length) := (by unfold World.cell?; rw [h7]; rfl); have q7 : w7.frozen? ⟨rb, 0, none⟩ = false := (by unfold World.frozen?; rw [h7]; rfl))
              | fail)
            rw [Nat.add_zero, List.append_nil] at ho7
            have h8 : (w7.setCell ⟨rb, 0, none⟩ (.slice a7 (l.length + 1) c7)).heap[rb]? = some (.cells #[.slice a7 (l.length + 1) c7, hv] 37 (0, 0)) := by simp [World.setCell, Array.getElem?_modify, h7]
            have KS : Kept (fun j => j = rb) w7 (w7.setCell ⟨rb, 0, none⟩ (.slice a7 (l.length + 1) c7)) := Kept.setCell _ _ _ rfl
            have o8 := ownsRow_mono (base' := w.heap.size) (rowKeepS ho7 KS (fun j hj => by have h5 := (ho7.lt j hj).1; show ¬ j = rb; omega)) (by omega)
            have e8 : sp3 (l.take l.length) ++ [.int .i64 x.1.1, .int .i64 x.1.2, .int .i64 x.2] = sp3 (l.take l.length ++ [x] ++ l.drop l.length) := by rw [← sp3_put, List.drop_length]; simp [sp3]
            rw [e8] at o8
            go_end0
            refine ⟨rfl, l.length, HP.out, _, h8, by simpa using o8, ?_⟩
            exact ((KWF.and K7).mono (fun _ h => h.elim)).and KS
      · rw [hA] at BF
        have HQ : Hid (∀ j (hj : j < l.length), k - 1 ≤ j → ahead x.1 (l[j]'hj).1 = true) := fun j hj h => by
          rcases Nat.lt_or_ge j k with h5 | h5
          · obtain rfl : j = k - 1 := by omega
            rw [HY.out]; exact hA
          · exact HALL.out j hj h5
        clear hA
        go_wp2
        first
        | (go_region_held (fun V => Kept (fun _ => False) wr.drew V ∧ V.cell? ⟨w.heap.size, 0, none⟩ = some (.int .i64 x.1.1) ∧ V.cell? ⟨w.heap.size, 1, none⟩ = some (.int .i64 x.1.2) ∧ V.cell? ⟨rb, 0, none⟩ = some (.slice (some ⟨g, 0, none⟩) l.length cap) ∧ V.cell? ⟨g, (k - 1) * 3, none⟩ = some (.int .i64 y.1.1) ∧ V.cell? ⟨g, (k - 1) * 3 + 1, none⟩ = some (.int .i64 y.1.2)) (first | exact HS.out _ (Kept.refl _ _) | exact HS.out _ (by assumption)) (first
          | (go_at_call 34; refine (BF _ (by first | assumption | exact Kept.refl _ _)).mono ?_; rintro e w4 ⟨rfl, K4⟩)
          | fail))
        | fail
        all_goals
          go_wp2
          go_roundw
          case rel => exact ⟨k - 1, by omega, by go_num, HQ.out, (K.and (Kept.drew _ _)).and K4⟩
          case measure => simp [intOf]; omega

set_option maxRecDepth 100000 in
set_option maxHeartbeats 4000000 in
theorem put_nil (w : World) (rb : Nat) (x : Sp) (hv : Value) (hr : w.heap[rb]? = some (.cells #[.slice none 0 0, hv] 37 (0, 0))) :
    Calls Tryd.prog 22 #[.pointer (some ⟨rb, 0, none⟩), .agg #[.int .i64 x.1.1, .int .i64 x.1.2, .int .i64 x.2]] w fun e w' => e = .returned (.tuple #[]) ∧ ∃ k v', PutAt [] x k ∧ w'.heap[rb]? = some (.cells #[v', hv] 37 (0, 0)) ∧ w'.ownsRow w.heap.size 49 3 v' 1 (sp3 (([] : List Sp).take k ++ [x] ++ ([] : List Sp).drop k)) ∧ Kept (fun j => j = rb) w w' := by
  obtain ⟨i0, hi, hz0, hz1, hz2⟩ := info_parts infoSpot3
  have hrl := (Array.getElem?_eq_some_iff.1 hr).1
  have KA := Kept.alloc (fun _ => False) w (.cells #[.int .i64 x.1.1, .int .i64 x.1.2, .int .i64 x.2] 49)
  have hB := heap_alloc_new w (.cells #[.int .i64 x.1.1, .int .i64 x.1.2, .int .i64 x.2] 49)
  have y0 : w.cell? ⟨rb, 0, none⟩ = some (.slice none 0 0) := by unfold World.cell?; rw [hr]; rfl
  have y1 := cellKept KA y0
  have HR : Hid (w.heap[rb]? = some (.cells #[.slice none 0 0, hv] 37 (0, 0))) := hr
  clear hr y0
  go_enter Tryd.func22, Tryd.ntmps22
  go_wp2
  have b0 : (w.alloc (.cells #[.int .i64 x.1.1, .int .i64 x.1.2, .int .i64 x.2] 49)).cell? ⟨w.heap.size, 0, none⟩ = some (.int .i64 x.1.1) := by unfold World.cell?; rw [hB]; rfl
  have b1 : (w.alloc (.cells #[.int .i64 x.1.1, .int .i64 x.1.2, .int .i64 x.2] 49)).cell? ⟨w.heap.size, 1, none⟩ = some (.int .i64 x.1.2) := by unfold World.cell?; rw [hB]; rfl
  have b2 : (w.alloc (.cells #[.int .i64 x.1.1, .int .i64 x.1.2, .int .i64 x.2] 49)).cell? ⟨w.heap.size, 2, none⟩ = some (.int .i64 x.2) := by unfold World.cell?; rw [hB]; rfl
  generalize hW : w.alloc (.cells #[.int .i64 x.1.1, .int .i64 x.1.2, .int .i64 x.2] 49) = W at *
  clear hW hB
  go_loopw [4] (fun i wr => i = .int .i64 0 ∧ Kept (fun _ => False) W wr) (fun _ _ => 0)
  case atStart => exact ⟨rfl, Kept.refl _ _⟩
  case round =>
    obtain ⟨rfl, K⟩ := hrel
    have r0 := cellKept K y1
    have KW := KA.and K
    go_wp2_with fail
    go_quiet (fail)
    have KF : Kept (fun _ => False) W (wr.drewN nq) := K.and (Kept.drewN _ _ _)
    generalize wr.drewN nq = w4 at *
    have KWF : Kept (fun _ => False) w w4 := KA.and KF
    have r4 := cellKept KF y1
    have R4 := fun X => cellKept (Kept.alloc (fun _ => False) w4 X) r4
    have hs4 := KWF.size
    clear r0 K KW
    go_wp2_with (first
      | (at_builtin; refine wpList_append_src _ rfl _ _ 35 rfl (w4).heap.size 49 i0 _ 3 24 Tryd.underlying35 hi hz0 hz1 hz2 rfl (by decide) (.slice (some ⟨(w4).heap.size, 0, none⟩) 0 0) 0 [] rfl (ownsRow_empty w4 (w4).heap.size _ 3 (Nat.le_refl _)) _ rfl 0 [] (.inr ⟨_, rfl, rfl, rfl⟩) (by simp) (by unfold maxLen; omega) (by omega) (by simp) ?_; intro a5 c5 w5 ho5 hg5 _ hl5; simp only [Nat.zero_add, List.nil_append] at ho5; have K5 := keptNew3 hg5; have c50 := cellKept (KF.and K5) b0; have c51 := cellKept (KF.and K5) b1; have c52 := cellKept (KF.and K5) b2; have hs5 := K5.size)
      | (at_builtin; refine wpList_append_src _ rfl _ _ 35 rfl (w4).heap.size 49 i0 _ 3 24 Tryd.underlying35 hi hz0 hz1 hz2 rfl (by decide) (.slice a5 0 c5) 0 [] rfl (ho5.alloc _) _ rfl 1 [.int .i64 x.1.1, .int .i64 x.1.2, .int .i64 x.2] (.inl ⟨_, 1, rfl, rfl, World.news_of_block (heap_alloc_new _ _)⟩) (by simp [Value.oneCell']) (by unfold maxLen; omega) (by omega) (by simp; omega) ?_; intro a6 c6 w6 ho6 hg6 _ hl6; have K6 : Kept (fun _ => False) w4 w6 := (K5.and (Kept.alloc _ _ _)).trans (Kept.grown (S := fun j => (w4).heap.size ≤ j) hg6 (fun j e => (ho5.lt j e).1)) (fun _ h => .inr h); have r6 := cellKept K6 r4; have hs6 := K6.size; simp only [Nat.zero_add, List.nil_append] at ho6)
      | (at_builtin; refine wpList_append_src _ rfl _ _ 35 rfl (w4).heap.size 49 i0 _ 3 24 Tryd.underlying35 hi hz0 hz1 hz2 rfl (by decide) (.slice a6 1 c6) 1 _ rfl ho6 _ rfl 0 [] (.inr ⟨_, rfl, rfl, rfl⟩) (by simp) (by unfold maxLen; omega) (by omega) (by omega) ?_; intro a7 c7 w7 ho7 hg7 _ hl7; have K7 : Kept (fun _ => False) w4 w7 := K6.trans (Kept.grown (S := fun j => (w4).heap.size ≤ j) hg7 (fun j e => (ho6.lt j e).1)) (fun _ h => .inr h); have h7 := ((KWF.and K7).block rb hrl (fun h => h)).trans HR.out; have r7 : w7.cell? ⟨rb, 0, none⟩ = some (.slice none 0 0) := (by unfold World.cell?; rw [h7]; rfl); have q7 : w7.frozen? ⟨rb, 0, none⟩ = false := (by unfold World.frozen?; rw [h7]; rfl))
      | fail)
    rw [Nat.add_zero, List.append_nil] at ho7
    have h8 : (w7.setCell ⟨rb, 0, none⟩ (.slice a7 1 c7)).heap[rb]? = some (.cells #[.slice a7 1 c7, hv] 37 (0, 0)) := by simp [World.setCell, Array.getElem?_modify, h7]
    have KS : Kept (fun j => j = rb) w7 (w7.setCell ⟨rb, 0, none⟩ (.slice a7 1 c7)) := Kept.setCell _ _ _ rfl
    have o8 := ownsRow_mono (base' := w.heap.size) (rowKeepS ho7 KS (fun j hj => by have h5 := (ho7.lt j hj).1; show ¬ j = rb; omega)) (by omega)
    go_end0
    refine ⟨rfl, ⟨0, Nat.zero_le _, fun j hj => absurd hj (by simp), fun _ h => absurd h (by decide)⟩, _, h8, o8, ?_⟩
    exact ((KWF.and K7).mono (fun _ h => h.elim)).and KS

end Go.Proofs.YtjfgjmiedmpieaaDoor
