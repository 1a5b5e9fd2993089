/-
  The document's disk: add.
-/
import Derived.Test.YtdbmefjagggnoaaRefDel
namespace Go.Proofs.Ytdbmefjagggnoaa
open Go.RowKit Go.Maps Go.ChangeMaps Go.MapKept

section
variable {w w' : World} {S : Nat → Prop} {r : Nat} {rs : RSt} {vL vF : Value} {M : List RM}

/-- Bytes at the end of a file that stands. -/
theorem RefIn.addHit (R : RefIn w S r rs vL vF M) {x : Int} (hh : hitL rs.L x = true) (hp : posL rs.L x < M.length) {g cap : Nat} (hv : vL = .slice (some ⟨g, 0, none⟩) M.length cap) {b : List Int} (hb : ∀ y ∈ b, 0 ≤ y ∧ y ≤ 255) {w4 : World} {v' : Value} {n : Nat}
    (K : Kept (fun _ => False) w w4) (hn : n = (M[posL rs.L x].1.bytes ++ b).length) (ho : w4.ownsRow w.heap.size 5 1 v' n ((M[posL rs.L x].1.bytes ++ b).map (Value.int .u8))) :
    RefTo w S r { rs with L := setL rs.L x ⟨x, M[posL rs.L x].1.bytes ++ b, M[posL rs.L x].1.kept⟩ } (w4.setCell ⟨g, posL rs.L x * 3 + 1, none⟩ v') := by
  subst hv
  have hg : g ≠ r := R.neL rfl
  have hgl : g < w.heap.size := R.ltL rfl
  have hr4 : w4.heap[r]? = w.heap[r]? := K.block r (R.bnd r R.sr) (fun h => h)
  have hg4 : w4.heap[g]? = w.heap[g]? := K.block g hgl (fun h => h)
  have K2 : Kept (fun k => k = r ∨ (Value.slice (some ⟨g, 0, none⟩) M.length cap).ownBlock = some k) w (w4.setCell ⟨g, posL rs.L x * 3 + 1, none⟩ v') := (K.mono (fun _ h => h.elim)).and (Kept.setCell _ _ _ (.inr rfl))
  have hne := hit_n R hh hp
  have RB := R.old K2 (List.getElem_mem hp)
  have eL : setL rs.L x ⟨x, M[posL rs.L x].1.bytes ++ b, M[posL rs.L x].1.kept⟩ = (M.set (posL rs.L x) (⟨x, M[posL rs.L x].1.bytes ++ b, M[posL rs.L x].1.kept⟩, v')).map Prod.fst := by
    rw [setCells_set rs.L x _ hh, List.map_set, ← R.ghost]
  have hvne : ∀ k, v'.ownBlock = some k → k ≠ g := fun k hk e => by have := (ho.lt k hk).1; omega
  rw [eL]
  refine R.toL K2 (by rw [setCell_block _ _ _ _ (Ne.symm hg), hr4]; exact R.head) (vL' := .slice (some ⟨g, 0, none⟩) M.length cap) ?_ (fun k hk => .inl (R.sL k hk)) ?_ ?_
  · have h0 := ownsRow_block (w' := w4) R.rowL (fun k hk => by cases hk; exact hg4)
    have h1 := (h0.stored (posL rs.L x * 3 + 1) v').1
    have h2 := rowCells_setBytes M (posL rs.L x) hp v' (M[posL rs.L x].1.bytes ++ b)
    rw [hne] at h2
    rw [h2] at h1
    rw [List.length_set]
    exact h1
  · intro p hp'
    rcases List.mem_or_eq_of_mem_set hp' with h | h
    · exact R.old K2 h
    · subst h
      refine ⟨?_, ?_, ?_, ?_⟩
      · rw [← hn]; exact ownsRow_block (ownsRow_low ho) (fun k hk => setCell_block _ _ _ _ (hvne k hk))
      · have := RB.kept; simp only [List.length_append]; omega
      · have := RB.pos; simp only [List.length_append]; omega
      · intro y hy
        exact (List.mem_append.1 hy).elim (RB.byte y) (hb y)
  · intro p hp' k hk
    rcases List.mem_or_eq_of_mem_set hp' with h | h
    · exact .inl (R.sM p h k hk)
    · subst h
      exact .inr (ho.lt k hk).1

/-- A file that was not there. -/
theorem RefIn.addMiss (R : RefIn w S r rs vL vF M) {x : Int} (hh : hitL rs.L x = false) {b : List Int} (hb : ∀ y ∈ b, 0 ≤ y ∧ y ≤ 255) (hbp : 0 < b.length) {w5 w4 : World} {v' : Value} {n n5 g cap : Nat}
    (K5 : Kept (fun _ => False) w w5) (hn5 : n5 = M.length + 1) (ho5 : w5.ownsRow w.heap.size 87 3 (.slice (some ⟨g, 0, none⟩) n5 cap) n5 (rowCells (M.take (posL rs.L x)) ++ [.int .i64 x, .slice none 0 0, .int .i64 0] ++ rowCells (M.drop (posL rs.L x))))
    (K : Kept (fun _ => False) (w5.setCell ⟨r, 0, none⟩ (.slice (some ⟨g, 0, none⟩) n5 cap)) w4) (hn : n = b.length) (ho : w4.ownsRow w5.heap.size 5 1 v' n (b.map (Value.int .u8))) :
    RefTo w S r { rs with L := setL rs.L x ⟨x, b, 0⟩ } (w4.setCell ⟨g, posL rs.L x * 3 + 1, none⟩ v') := by
  have hrl := R.bnd r R.sr
  have hgb : w.heap.size ≤ g := (ho5.lt g rfl).1
  have hgl : g < w5.heap.size := (ho5.lt g rfl).2
  have hg : g ≠ r := by omega
  have hr5 : w5.heap[r]? = w.heap[r]? := K5.block r hrl (fun h => h)
  have hz5 := K5.size
  have hzs : (w5.setCell ⟨r, 0, none⟩ (.slice (some ⟨g, 0, none⟩) n5 cap)).heap.size = w5.heap.size := by simp [World.setCell]
  have hr4 : w4.heap[r]? = (w5.setCell ⟨r, 0, none⟩ (.slice (some ⟨g, 0, none⟩) n5 cap)).heap[r]? := K.block r (by omega) (fun h => h)
  have hg4 : w4.heap[g]? = w5.heap[g]? := (K.block g (by omega) (fun h => h)).trans (setCell_block _ _ _ _ hg)
  have hpl : posL rs.L x ≤ M.length := by have := posL_le rs.L x; have h2 : rs.L.length = M.length := by rw [R.ghost]; simp
                                          omega
  have K2 : Kept (fun k => k = r ∨ vL.ownBlock = some k) w (w4.setCell ⟨g, posL rs.L x * 3 + 1, none⟩ v') :=
    (((K5.mono (fun _ h => h.elim)).and (Kept.setCell _ _ _ (.inl rfl))).trans K (fun _ h => h.elim)).trans (Kept.setCell (S := fun k => k = g) _ _ _ rfl) (fun i h => .inr (by omega))
  have eR : rowCells (M.take (posL rs.L x)) ++ [.int .i64 x, .slice none 0 0, .int .i64 0] ++ rowCells (M.drop (posL rs.L x)) = rowCells (M.take (posL rs.L x) ++ (⟨x, [], 0⟩, .slice none 0 0) :: M.drop (posL rs.L x)) := by
    rw [rowCells_append]
    show _ = _ ++ (_ :: _ :: _ :: rowCells (M.drop (posL rs.L x)))
    simp
  have eset : (M.take (posL rs.L x) ++ ((⟨x, [], 0⟩ : RF), Value.slice none 0 0) :: M.drop (posL rs.L x)).set (posL rs.L x) (⟨x, b, 0⟩, v') = M.take (posL rs.L x) ++ (⟨x, b, 0⟩, v') :: M.drop (posL rs.L x) := by
    have : (M.take (posL rs.L x)).length = posL rs.L x := by rw [List.length_take]; omega
    rw [List.set_append_right _ _ (by omega), this, Nat.sub_self]; rfl
  have hlen : (M.take (posL rs.L x) ++ ((⟨x, b, 0⟩ : RF), v') :: M.drop (posL rs.L x)).length = n5 := by
    rw [List.length_append, List.length_cons, List.length_take, List.length_drop]; omega
  have eL : setL rs.L x ⟨x, b, 0⟩ = (M.take (posL rs.L x) ++ (⟨x, b, 0⟩, v') :: M.drop (posL rs.L x)).map Prod.fst := by
    rw [setL_eq, hh, List.map_append, List.map_cons, List.map_take, List.map_drop, ← R.ghost]; simp
  have hvne : ∀ k, v'.ownBlock = some k → k ≠ g := fun k hk e => by have := (ho.lt k hk).1; omega
  have hmem : ∀ p ∈ M.take (posL rs.L x) ++ ((⟨x, b, 0⟩ : RF), v') :: M.drop (posL rs.L x), p ∈ M ∨ p = (⟨x, b, 0⟩, v') := fun p hp => by
    rcases List.mem_append.1 hp with h | h
    · exact .inl (List.mem_of_mem_take h)
    · rcases List.mem_cons.1 h with h | h
      · exact .inr h
      · exact .inl (List.mem_of_mem_drop h)
  rw [eL]
  refine R.toL K2 (vL' := .slice (some ⟨g, 0, none⟩) n5 cap) ?_ ?_ ?_ ?_ ?_
  · rw [setCell_block _ _ _ _ (Ne.symm hg), hr4]
    simp [World.setCell, Array.getElem?_modify, hr5, R.head]
  · rw [eR] at ho5
    have h0 := ownsRow_block (w' := w4) (ownsRow_low ho5) (fun k hk => by cases hk; exact hg4)
    have h1 := (h0.stored (posL rs.L x * 3 + 1) v').1
    have hlt : posL rs.L x < (M.take (posL rs.L x) ++ ((⟨x, [], 0⟩ : RF), Value.slice none 0 0) :: M.drop (posL rs.L x)).length := by
      rw [List.length_append, List.length_cons, List.length_take, List.length_drop]; omega
    have hget : (M.take (posL rs.L x) ++ ((⟨x, [], 0⟩ : RF), Value.slice none 0 0) :: M.drop (posL rs.L x))[posL rs.L x] = (⟨x, [], 0⟩, .slice none 0 0) := by
      have h3 : (M.take (posL rs.L x)).length = posL rs.L x := by rw [List.length_take]; omega
      rw [List.getElem_append_right (by omega)]
      simp [h3]
    have h2 := rowCells_setBytes _ (posL rs.L x) hlt v' b
    rw [hget] at h2
    rw [h2, eset] at h1
    rw [hlen]
    exact h1
  · intro k hk
    cases hk
    exact .inr hgb
  · intro p hp
    rcases hmem p hp with h | h
    · exact R.old K2 h
    · subst h
      exact ⟨by rw [← hn]; exact ownsRow_block (ownsRow_low ho) (fun k hk => setCell_block _ _ _ _ (hvne k hk)), Nat.zero_le _, hbp, hb⟩
  · intro p hp k hk
    rcases hmem p hp with h | h
    · exact .inl (R.sM p h k hk)
    · subst h
      have := (ho.lt k hk).1
      exact .inr (by omega)

set_option maxRecDepth 100000 in
set_option maxHeartbeats 1000000 in
theorem refAdd_none (a : Option Addr) (c : Nat) (x : Int) :
    Calls Try.prog 69 #[.pointer (some ⟨r, 0, none⟩), .int .i64 x, .slice a 0 c] w fun e w' => e = .returned (.tuple #[]) ∧ w' = w := by
  go_enter Try.func69, Try.ntmps69
  go_wp2
  refine bodyPost_ret (results_none rfl _ _ _) rfl ?_
  exact ⟨rfl, rfl⟩

set_option maxRecDepth 100000 in
set_option maxHeartbeats 4000000 in
theorem refAdd_hit (R : RefIn w S r rs vL vF M) (hr : Rising rs.L) (x : Int) (hM : M.length ≤ 1099511627776) (hh : hitL rs.L x = true) {ad : Addr} {m c : Nat} {b : List Int} (B : BytesAt w (some ad) m c b) (hm : 0 < m) (hbl : (rs.bytesOf x).length + m ≤ 1099511627776) :
    Calls Try.prog 69 #[.pointer (some ⟨r, 0, none⟩), .int .i64 x, .slice (some ad) m c] w fun e w' => e = .returned (.tuple #[]) ∧ RefTo w S r (rs.add x b) w' := by
  obtain ⟨i0, hi, hz0, hz1, hz2⟩ := info_parts Try.info5
  have hat := at_any R x hM
  rw [hh] at hat
  obtain ⟨hp, hg0⟩ := R.hit hr hh
  obtain ⟨g, cap, e, hcap, hcell⟩ := R.file hp
  obtain ⟨_, q1, _⟩ := hcell _ hp
  have RB := R.bytes M[posL rs.L x] (List.getElem_mem hp)
  obtain ⟨gb, cb, ev, _, hgb⟩ := RB.row.form RB.pos
  have eB : rs.bytesOf x = M[posL rs.L x].1.bytes := by unfold RSt.bytesOf; rw [hg0]
  have hbne : b ≠ [] := fun e => by have := B.len; rw [e] at this; simp at this; omega
  have eA : rs.add x b = { rs with L := setL rs.L x ⟨x, M[posL rs.L x].1.bytes ++ b, M[posL rs.L x].1.kept⟩ } := by
    unfold RSt.add; rw [if_neg hbne, hg0]; rfl
  have fin : ∀ (w4 : World) (v' : Value) (n : Nat), Kept (fun _ => False) w w4 → n = M[posL rs.L x].1.bytes.length + m → w4.ownsRow w.heap.size 5 1 v' n ((M[posL rs.L x].1.bytes).map (Value.int .u8) ++ b.map (Value.int .u8)) → RefTo w S r (rs.add x b) (w4.setCell ⟨g, posL rs.L x * 3 + 1, none⟩ v') := fun w4 v' n K hn ho => by
    rw [eA]
    have hn' : n = (M[posL rs.L x].1.bytes ++ b).length := by rw [List.length_append, B.len]; exact hn
    exact R.addHit hh hp e B.byte K hn' (by rw [List.map_append]; exact ho)
  have hgl : g < w.heap.size := R.ltL e
  have hrl := R.bnd r R.sr
  have hgr : g ≠ r := R.neL (by rw [e]; rfl)
  have hrg : r ≠ g := Ne.symm hgr
  have hfz : w.frozen? ⟨g, posL rs.L x * 3 + 1, none⟩ = false := by subst e; exact World.ownsRow.frozenAt R.rowL _
  have hc0 := R.c0
  rw [e] at hc0
  rw [eB] at hbl
  have hrow := RB.row
  rw [ev] at q1 hrow
  have e1 : (posL rs.L x : Int) < (M.length : Int) := by omega
  have Bk : ∀ w', Kept (fun _ => False) w w' → BytesAt w' (some ad) m c b := fun w' K => B.kept K (fun _ _ _ h => h)
  clear hat
  have hat := at_any R x hM
  rw [hh] at hat
  generalize M[posL rs.L x].1.bytes = old at *
  generalize rs.add x b = RS at *
  clear eA eB ev RB hcell hg0 B hh
  generalize posL rs.L x = ps at *
  have z0 : (0 : Int) ≤ (ps : Int) := Int.natCast_nonneg _
  have hm0 : ((m : Int) == 0) = false := by simp; omega
  have HE : Hid (vL = .slice (some ⟨g, 0, none⟩) M.length cap) := e
  clear e R hr
  have k1 : ∀ n w', Kept (fun _ => False) (w.drewN n) w' → w'.cell? ⟨r, 0, none⟩ = some (.slice (some ⟨g, 0, none⟩) M.length cap) ∧ w'.cell? ⟨g, ps * 3 + 1, none⟩ = some (.slice (some ⟨gb, 0, none⟩) old.length cb) ∧ w'.frozen? ⟨g, ps * 3 + 1, none⟩ = false ∧ Kept (fun _ => False) w w' ∧ Src w' 1 (.slice (some ⟨gb, 0, none⟩) old.length cb) old.length (old.map (Value.int .u8)) := fun n w' K => by
    have K' : Kept (fun _ => False) w w' := (Kept.drewN _ w n).and K
    have h1 : w'.heap[r]? = w.heap[r]? := K'.block r hrl (fun h => h)
    have h2 : w'.heap[g]? = w.heap[g]? := K'.block g hgl (fun h => h)
    have h3 : w'.heap[gb]? = w.heap[gb]? := K'.block gb hgb (fun h => h)
    refine ⟨by rw [← hc0]; simp [World.cell?, h1], by rw [← q1]; simp [World.cell?, h2], by rw [← hfz]; simp [World.frozen?, h2], K', .inl ⟨_, _, rfl, by simp, fun j u hu => ?_⟩⟩
    exact (ownsRow_block hrow (fun k hk => by cases hk; exact h3)).cells rfl j u hu
  clear hrow hc0 q1 hfz
  go_enter Try.func69, Try.ntmps69
  go_wp2_with (first
    | (go_at_call 49; refine hat.mono ?_; rintro e w1 ⟨rfl, n1, rfl⟩; clear hat)
    | fail)
  have k1 := k1 n1
  obtain ⟨y1, y2, y3, KW, _⟩ := k1 _ (Kept.refl _ _)
  obtain ⟨ya1, ya2, ya3, KA, SA⟩ := k1 ((w.drewN n1).alloc (.cells #[] 5)).drew ((Kept.alloc _ _ _).and (Kept.drew _ _))
  have hem : (((w.drewN n1).alloc (.cells #[] 5)).drew).ownsRow w.heap.size 5 1 (.slice (some ⟨w.heap.size, 0, none⟩) 0 0) 0 [] := World.ownsRow.drew (ownsRow_empty (w.drewN n1) w.heap.size 5 1 (Nat.le_refl _))
  have k3 : ∀ w3, (((w.drewN n1).alloc (.cells #[] 5)).drew).grownBy w3 (Value.slice (some ⟨w.heap.size, 0, none⟩) 0 0).ownBlock → Kept (fun _ => False) (w.drewN n1) w3 := fun w3 hg => ((Kept.alloc _ _ _).and (Kept.drew _ _)).trans (Kept.grown (S := fun k => w.heap.size ≤ k) hg (fun _ e => Nat.le_of_eq (Option.some.inj e))) (fun _ h => .inr h)
  have k4 : ∀ (w3 w4 : World) (v3 : Value) (n3 : Nat) (xs3 : List Value), Kept (fun _ => False) (w.drewN n1) w3 → w3.ownsRow w.heap.size 5 1 v3 n3 xs3 → w3.grownBy w4 v3.ownBlock → Kept (fun _ => False) (w.drewN n1) w4 := fun w3 w4 v3 n3 xs3 K3 ho hg => K3.trans (Kept.grown (S := fun k => w.heap.size ≤ k) hg (fun k e => (ho.lt k e).1)) (fun _ h => .inr h)
  generalize hW : w.drewN n1 = W at *
  have hWs : Hid (W.heap.size = w.heap.size) := by rw [← hW]; exact rfl
  clear hW
  go_region_law
    (first
      | (refine step_append_src _ (by rfl) _ _ _ (by rfl) w.heap.size 5 i0 _ 1 1 Try.underlying28 hi hz0 hz1 hz2 rfl (by decide) (.slice (some ⟨W.heap.size, 0, none⟩) 0 0) 0 [] (by rfl) (by rw [hWs.out]; exact hem) _ (by rfl) old.length _ SA (oneCells _) (by unfold maxLen; omega) (by omega) (by have := KA.size; exact this) ?_; intro a3 cap3 w3 ho3 hg3 _ _; rw [hWs.out] at hg3; obtain ⟨yb1, yb2, yb3, KB, SB⟩ := k1 _ (k3 w3 hg3); have K3 := k3 w3 hg3; simp only [Nat.zero_add, List.nil_append] at ho3 ⊢)
      | (refine step_append_src w3 (by rfl) _ _ _ (by rfl) w.heap.size 5 i0 _ 1 1 Try.underlying28 hi hz0 hz1 hz2 rfl (by decide) (.slice a3 old.length cap3) old.length _ (by rfl) ho3 _ (by rfl) m _ (Bk w3 KB).src (oneCells _) (by unfold maxLen; omega) (by omega) KB.size ?_; intro a4 cap4 w4 ho4 hg4 _ _; obtain ⟨yc1, yc2, yc3, KC, SC⟩ := k1 _ (k4 w3 w4 _ _ _ K3 ho3 hg4)))
  all_goals go_wp2
  all_goals go_end0
  all_goals exact ⟨rfl, fin _ _ _ KC rfl ho4⟩
end

end Go.Proofs.Ytdbmefjagggnoaa
