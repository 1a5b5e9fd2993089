/-
  The document's disk: Read, Kept, Files, Stop, Fail.
-/
import Derived.Test.YtdbmefjagggnoaaRef
namespace Go.Proofs.Ytdbmefjagggnoaa
open Go.RowKit Go.Maps Go.ChangeMaps Go.MapKept

theorem Try.info107w : (Try.prog.info? 107).map (fun i => (i.zero, i.size, i.bytes)) = some (some (.agg #[.int .i64 0, .int .i64 0]), 2, 16) := by kernel_rfl
theorem Try.info87w : (Try.prog.info? 87).map (fun i => (i.zero, i.size, i.bytes)) = some (some (.agg #[.int .i64 0, .slice none 0 0, .int .i64 0]), 3, 40) := by kernel_rfl

section
variable {w w' : World} {S : Nat → Prop} {r : Nat} {rs : RSt} {vL vF : Value} {M : List RM}

theorem RefIn.drewN (R : RefIn w S r rs vL vF M) (n : Nat) : RefIn (w.drewN n) S r rs vL vF M := R.kept (Kept.drewN (fun _ => False) w n) (fun _ _ h => h)

/-- The file that is told. -/
theorem RefIn.hit (R : RefIn w S r rs vL vF M) (hr : Rising rs.L) {x : Int} (hh : hitL rs.L x = true) : ∃ (hp : posL rs.L x < M.length), getL rs.L x = some (M[posL rs.L x]'hp).1 := by
  have hLM : rs.L.length = M.length := by rw [R.ghost]; simp
  have hp := posL_lt rs.L x hh
  have hp2 : posL rs.L x < M.length := by omega
  refine ⟨hp2, ?_⟩
  rw [getL_pos rs.L x hr, hh]
  simp only [if_true]
  exact getElem_map_fst R _ hp2

theorem RefIn.miss (hr : Rising rs.L) {x : Int} (hh : hitL rs.L x = false) : getL rs.L x = none := by
  rw [getL_pos rs.L x hr, hh]; rfl

set_option maxRecDepth 100000 in
set_option maxHeartbeats 1000000 in
theorem refKept_any (R : RefIn w S r rs vL vF M) (hr : Rising rs.L) (x : Int) (hM : M.length ≤ 1099511627776) :
    Calls Try.prog 54 #[.pointer (some ⟨r, 0, none⟩), .int .i64 x] w fun e w' => e = .returned (.int .i64 (rs.keptOf x)) ∧ ∃ n, w' = w.drewN n := by
  have hat := at_any R x hM
  have hc0 := R.c0
  cases hh : hitL rs.L x with
  | false =>
    have e1 : rs.keptOf x = 0 := by unfold RSt.keptOf; rw [RefIn.miss hr hh]
    rw [e1]
    rw [hh] at hat
    clear hh e1
    go_enter Try.func54, Try.ntmps54
    go_wp2_with (go_at_call 49; refine hat.mono ?_; rintro e w1 ⟨rfl, n1, rfl⟩)
    go_ret
    exact ⟨rfl, n1, rfl⟩
  | true =>
    obtain ⟨hp, hg⟩ := R.hit hr hh
    have e1 : rs.keptOf x = M[posL rs.L x].1.kept := by unfold RSt.keptOf; rw [hg]
    rw [e1]
    rw [hh] at hat
    obtain ⟨g, cap, e, hcap, hcell⟩ := R.file hp
    obtain ⟨_, _, q2⟩ := hcell _ hp
    subst e
    clear hh e1 hg hcell
    generalize M[posL rs.L x].1.kept = kp at *
    generalize posL rs.L x = ps at *
    have e1 : (ps : Int) < (M.length : Int) := by omega
    go_enter Try.func54, Try.ntmps54
    go_wp2_with (go_at_call 49; refine hat.mono ?_; rintro e w1 ⟨rfl, n1, rfl⟩)
    go_ret
    exact ⟨rfl, n1, rfl⟩

set_option maxRecDepth 100000 in
set_option maxHeartbeats 1000000 in
theorem refRead_any (R : RefIn w S r rs vL vF M) (hr : Rising rs.L) (x : Int) (hM : M.length ≤ 1099511627776) (hb : (rs.bytesOf x).length ≤ 1099511627776) :
    Calls Try.prog 11 #[.pointer (some ⟨r, 0, none⟩), .int .i64 x] w fun e w' =>
      ∃ a c, e = .returned (.slice a (rs.bytesOf x).length c) ∧ w'.ownsRow w.heap.size 5 1 (.slice a (rs.bytesOf x).length c) (rs.bytesOf x).length ((rs.bytesOf x).map (Value.int .u8)) ∧ Kept (fun _ => False) w w' := by
  obtain ⟨i0, hi, hz0, hz1, hz2⟩ := info_parts Try.info5
  have hat := at_any R x hM
  have hc0 := R.c0
  cases hh : hitL rs.L x with
  | false =>
    have e1 : rs.bytesOf x = [] := by unfold RSt.bytesOf; rw [RefIn.miss hr hh]
    rw [e1]
    rw [hh] at hat
    clear hh e1
    go_enter Try.func11, Try.ntmps11
    go_wp2_with (go_at_call 49; refine hat.mono ?_; rintro e w1 ⟨rfl, n1, rfl⟩)
    go_ret
    exact ⟨none, 0, rfl, World.ownsRow_nil _ _ _ _, Kept.drewN _ _ _⟩
  | true =>
    obtain ⟨hp, hg⟩ := R.hit hr hh
    have e1 : rs.bytesOf x = M[posL rs.L x].1.bytes := by unfold RSt.bytesOf; rw [hg]
    rw [e1] at hb ⊢
    rw [hh] at hat
    obtain ⟨g, cap, e, hcap, hcell⟩ := R.file hp
    obtain ⟨_, q1, _⟩ := hcell _ hp
    have RB := R.bytes M[posL rs.L x] (List.getElem_mem hp)
    obtain ⟨gb, cb, ev, _, hgb⟩ := RB.row.form RB.pos
    subst e
    clear hh e1 hg hcell
    have hrow := RB.row
    generalize M[posL rs.L x].1.bytes = bs at *
    rw [ev] at q1 hrow
    clear RB ev
    generalize posL rs.L x = ps at *
    have e1 : (ps : Int) < (M.length : Int) := by omega
    have src : ∀ n, Src ((w.drewN n).alloc (.cells #[] 5)) 1 (.slice (some ⟨gb, 0, none⟩) bs.length cb) bs.length (bs.map (Value.int .u8)) := fun n =>
      .inl ⟨_, _, rfl, by simp, fun j u hu => (World.grownBy_alloc (w.drewN n) _ none).cell (hrow.cells rfl j u hu) (by simp)⟩
    have hem : ∀ n, ((w.drewN n).alloc (.cells #[] 5)).ownsRow w.heap.size 5 1 (.slice (some ⟨w.heap.size, 0, none⟩) 0 0) 0 [] := fun n => ownsRow_empty (w.drewN n) w.heap.size 5 1 (Nat.le_refl _)
    have a0 : ∀ n, ((w.drewN n).alloc (.cells #[] 5)).cell? ⟨r, 0, none⟩ = some (.slice (some ⟨g, 0, none⟩) M.length cap) := fun n => (World.grownBy_alloc (w.drewN n) _ none).cell hc0 (by simp)
    have a1 : ∀ n, ((w.drewN n).alloc (.cells #[] 5)).cell? ⟨g, ps * 3 + 1, none⟩ = some (.slice (some ⟨gb, 0, none⟩) bs.length cb) := fun n => (World.grownBy_alloc (w.drewN n) _ none).cell q1 (by simp)
    clear hrow hc0 q1 R
    go_enter Try.func11, Try.ntmps11
    go_wp2_with (first
      | (go_at_call 49; refine hat.mono ?_; rintro e w1 ⟨rfl, n1, rfl⟩)
      | (at_builtin; refine wpList_append_src _ rfl _ _ 28 rfl w.heap.size 5 i0 (.int .u8 0) 1 1 Try.underlying28 hi hz0 hz1 hz2 rfl (by decide) (.slice (some ⟨w.heap.size, 0, none⟩) 0 0) 0 [] rfl (hem _) _ rfl bs.length _ (src _) (oneCells _) (by unfold maxLen; omega) (by omega) (by simp) ?_; intro a1 cap1 w1 ho1 hg1 hn1 hl1; simp only [Nat.zero_add, List.nil_append] at ho1 hn1 hl1 ⊢)
      | fail)
    go_ret
    exact ⟨a1, cap1, rfl, ho1, (Kept.drewN _ w n1).and (lend_k1 (w.drewN n1) w1 hg1)⟩
end

section
variable {w w' : World} {S : Nat → Prop} {r : Nat} {rs : RSt} {vL vF : Value} {M : List RM}

set_option maxRecDepth 100000 in
set_option maxHeartbeats 1000000 in
theorem refFiles_any (R : RefIn w S r rs vL vF M) (hM : M.length ≤ 1099511627776) :
    Calls Try.prog 50 #[.pointer (some ⟨r, 0, none⟩)] w fun e w' =>
      ∃ v, e = .returned v ∧ w'.ownsRow w.heap.size 3 1 v M.length ((rs.L.map (·.n)).map (Value.int .i64)) ∧ Kept (fun _ => False) w w' := by
  obtain ⟨i0, hi, hz0, hz1, hz2⟩ := info_parts Try.info3w
  have eL : (rs.L.map (·.n)) = M.map (fun p => p.1.n) := by rw [R.ghost, List.map_map]; rfl
  rw [eL]
  clear eL
  obtain ⟨aL, cL, eL⟩ := ownsRow_shape R.rowL
  have R0 := R
  subst eL
  go_enter Try.func50, Try.ntmps50
  go_wp2
  go_loopw [3, 4] (fun v i wr => ∃ (k : Nat), k ≤ M.length ∧ i = .int .i64 k ∧ wr.ownsRow w.heap.size 3 1 v k (((M.take k).map (fun p => p.1.n)).map (Value.int .i64)) ∧ Kept (fun _ => False) w wr) (fun _ i _ => M.length - (intOf i).toNat)
  case atStart => exact ⟨0, Nat.zero_le _, rfl, by simpa using World.ownsRow_nil w w.heap.size 3 1, Kept.refl _ _⟩
  case round =>
    obtain ⟨k, hk, rfl, ho, K⟩ := hrel
    have R1 := R.kept K (fun _ _ h => h)
    have hc0 := R1.c0
    by_cases hlt : k < M.length
    · obtain ⟨g, cap, e, hcap, hcell⟩ := R1.file hlt
      obtain ⟨q0, _, _⟩ := hcell k hlt
      simp only [Value.slice.injEq] at e
      obtain ⟨rfl, _, rfl⟩ := e
      have ht : (((M.take (k + 1)).map (fun p => p.1.n)).map (Value.int .i64)) = (((M.take k).map (fun p => p.1.n)).map (Value.int .i64)) ++ [.int .i64 M[k].1.n] := by
        rw [List.take_succ_eq_append_getElem hlt, List.map_append, List.map_append]; rfl
      have HT : Hid _ := ht
      have hz := K.size
      clear hcell R R0 R1 ht
      generalize M[k].1.n = nk at *
      have e1 : (k : Int) < (M.length : Int) := by omega
      go_wp2_with (at_builtin; refine wpList_append_lies _ rfl _ _ 29 rfl w.heap.size 3 i0 (.int .i64 0) 1 8 Try.underlying29 hi hz0 hz1 hz2 rfl (by decide) _ k _ rfl (ho.alloc _) ⟨wr.heap.size, 0, none⟩ 1 1 [.int .i64 nk] rfl rfl (cell_one_new _ _ _) (by simp [Value.oneCell']) (by decide) (by unfold maxLen; omega) (by omega) (by simp; omega) (wr.heap.size + 1) (by simp) ?_; intro g2 cap2 w2 hown2 hgrow hat hlt2)
      go_roundw
      case rel => exact ⟨k + 1, by omega, by go_num, by rw [HT.out]; exact hown2, (K.and (Kept.alloc _ _ _)).trans (Kept.grown (S := fun k => w.heap.size ≤ k) hgrow (fun k e => (ho.lt k e).1)) (fun k h => .inr h)⟩
      case measure => simp [intOf]; omega
    · have hkM : k = M.length := by omega
      have HR : Hid (wr.ownsRow w.heap.size 3 1 u3 M.length ((M.map (fun p => p.1.n)).map (Value.int .i64))) := by
        rw [hkM] at ho; rw [List.take_length] at ho; exact ho
      subst hkM
      clear R R0 R1 ho
      go_wp2
      go_ret
      exact ⟨u3, rfl, HR.out, K⟩

theorem RefIn.setStop (R : RefIn w S r rs vL vF M) (s : Int) : RefIn (w.setCell ⟨r, 2, none⟩ (.int .i64 s)) S r { rs with stop := s } vL vF M := by
  have hb : ∀ k, k ≠ r → (w.setCell ⟨r, 2, none⟩ (.int .i64 s)).heap[k]? = w.heap[k]? := fun k hk => by simp [World.setCell, Array.getElem?_modify, Ne.symm hk]
  exact {
    ghost := R.ghost
    head := by simp [World.setCell, Array.getElem?_modify, R.head]
    rowL := ownsRow_block R.rowL (fun k hk => hb k (R.neL hk))
    rowF := ownsRow_block R.rowF (fun k hk => hb k (R.neF hk))
    bytes := fun p hp => ⟨ownsRow_block (R.bytes p hp).row (fun k hk => hb k (R.neM hp hk)), (R.bytes p hp).kept, (R.bytes p hp).pos, (R.bytes p hp).byte⟩
    sr := R.sr
    sL := R.sL
    sF := R.sF
    sM := R.sM
    bnd := fun k hk => by simpa [World.setCell] using R.bnd k hk }

set_option maxRecDepth 100000 in
set_option maxHeartbeats 1000000 in
theorem refStop_any (R : RefIn w S r rs vL vF M) (x : Int) :
    Calls Try.prog 46 #[.pointer (some ⟨r, 0, none⟩), .int .i64 x] w fun e w' =>
      e = .returned (.tuple #[]) ∧ RefIn w' S r (rs.stopIn x) vL vF M ∧ Kept S w w' := by
  have hc2 := R.c2
  have hf2 := R.fz 2
  have hs := R.setStop (max x 0)
  by_cases hx : x < 0
  · have e : max x 0 = 0 := by omega
    unfold RSt.stopIn
    rw [e] at hs ⊢
    clear e
    go_enter Try.func46, Try.ntmps46
    go_wp2
    go_end0
    exact ⟨rfl, hs, Kept.setCell _ _ _ R.sr⟩
  · have e : max x 0 = x := by omega
    unfold RSt.stopIn
    rw [e] at hs ⊢
    clear e
    go_enter Try.func46, Try.ntmps46
    go_wp2
    go_end0
    exact ⟨rfl, hs, Kept.setCell _ _ _ R.sr⟩
end

end Go.Proofs.Ytdbmefjagggnoaa
