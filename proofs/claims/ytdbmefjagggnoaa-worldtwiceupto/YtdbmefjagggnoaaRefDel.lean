/-
  The document's disk: Delete.
-/
import Derived.Test.YtdbmefjagggnoaaRefOps
import Derived.Deep.RegionLaw
namespace Go.Proofs.Ytdbmefjagggnoaa
open Go.RowKit Go.Maps Go.ChangeMaps Go.MapKept

section
variable {w w' : World} {S : Nat → Prop} {r : Nat} {rs : RSt} {vL vF : Value} {M : List RM}

theorem RefIn.shapes (R : RefIn w S r rs vL vF M) : ∀ p ∈ M, ∃ a n c, p.2 = .slice a n c := fun p hp => by
  obtain ⟨a, c, e⟩ := ownsRow_shape (R.bytes p hp).row
  exact ⟨a, _, c, e⟩

/-- A beginning of the files' list, as it is handed to append; in every world that keeps it. -/
theorem RefIn.srcTake (R : RefIn w S r rs vL vF M) {g cap : Nat} (hv : vL = .slice (some ⟨g, 0, none⟩) M.length cap) {k : Nat} (hk : k ≤ M.length) {w1 : World} (hw : w1.heap[g]? = w.heap[g]?) (c : Nat) :
    Src w1 3 (.slice (some ⟨g, 0, none⟩) k c) k (rowCells (M.take k)) := by
  subst hv
  refine .inl ⟨_, _, rfl, by rw [rowCells_length, List.length_take]; omega, fun j u hu => ?_⟩
  rw [World.cell?_of_block (w := w) (by rw [block_add]; exact hw)]
  refine R.rowL.cells (g := g) rfl j u ?_
  rw [← rowCells_take, List.getElem?_take] at hu
  split at hu
  · exact hu
  · cases hu

/-- A rest of the files' list. -/
theorem RefIn.srcDrop (R : RefIn w S r rs vL vF M) {g cap : Nat} (hv : vL = .slice (some ⟨g, 0, none⟩) M.length cap) {k : Nat} (hk : k ≤ M.length) {w1 : World} (hw : w1.heap[g]? = w.heap[g]?) (c : Nat) (A : Addr) (hA : A = ⟨g, k * 3, none⟩ ∨ k = M.length) :
    Src w1 3 (.slice (some A) (M.length - k) c) (M.length - k) (rowCells (M.drop k)) := by
  subst hv
  refine .inl ⟨_, _, rfl, by rw [rowCells_length, List.length_drop], fun j u hu => ?_⟩
  rcases hA with rfl | rfl
  · rw [World.cell?_of_block (w := w) (by rw [block_add]; exact hw)]
    have := R.rowL.cells (g := g) rfl (k * 3 + j) u (by rw [← rowCells_drop, List.getElem?_drop] at hu; exact hu)
    rw [Addr.add_lit] at this ⊢
    simpa using this
  · simp [rowCells] at hu

theorem RefIn.ltL (R : RefIn w S r rs vL vF M) {g n cap : Nat} (hv : vL = .slice (some ⟨g, 0, none⟩) n cap) : g < w.heap.size := R.bnd g (R.sL g (by rw [hv]; rfl))

/-- What is behind Delete. -/
theorem RefIn.delTo (R : RefIn w S r rs vL vF M) {x : Int} (hh : hitL rs.L x = true) {w1 : World} {v' : Value} {n : Nat} (K : Kept (fun _ => False) w w1) (hn : n = posL rs.L x + (M.length - (posL rs.L x + 1)))
    (ho : w1.ownsRow w.heap.size 87 3 v' n (rowCells (M.take (posL rs.L x)) ++ rowCells (M.drop (posL rs.L x + 1)))) :
    RefTo w S r { rs with L := delL rs.L x } (w1.setCell ⟨r, 0, none⟩ v') := by
  have hp := posL_lt rs.L x hh
  have hr1 : w1.heap[r]? = w.heap[r]? := K.block r (R.bnd r R.sr) (fun h => h)
  have eL : delL rs.L x = (M.take (posL rs.L x) ++ M.drop (posL rs.L x + 1)).map Prod.fst := by
    rw [delL_eq rs.L x hh, List.map_append, List.map_take, List.map_drop, ← R.ghost]
  have hlen : (M.take (posL rs.L x) ++ M.drop (posL rs.L x + 1)).length = n := by
    have : rs.L.length = M.length := by rw [R.ghost]; simp
    rw [List.length_append, List.length_take, List.length_drop]; omega
  have hmem : ∀ p ∈ M.take (posL rs.L x) ++ M.drop (posL rs.L x + 1), p ∈ M := fun p hp => (List.mem_append.1 hp).elim List.mem_of_mem_take List.mem_of_mem_drop
  have K2 : Kept (fun k => k = r ∨ vL.ownBlock = some k) w (w1.setCell ⟨r, 0, none⟩ v') := (K.mono (fun _ h => h.elim)).and (Kept.setCell _ _ _ (.inl rfl))
  have hne : ∀ k, v'.ownBlock = some k → k ≠ r := fun k hk e => by have := (ho.lt k hk).1; have := R.bnd r R.sr; omega
  rw [eL]
  refine R.toL K2 (vL' := v') (by simp [World.setCell, Array.getElem?_modify, hr1, R.head]) ?_ (fun k hk => .inr (ho.lt k hk).1) (fun p hp => R.old K2 (hmem p hp)) (fun p hp k hk => .inl (R.sM p (hmem p hp) k hk))
  rw [hlen, rowCells_append]
  exact ownsRow_block (ownsRow_low ho) (fun k hk => setCell_block _ _ _ _ (hne k hk))

set_option maxRecDepth 100000 in
set_option maxHeartbeats 2000000 in
theorem refDelete_any (R : RefIn w S r rs vL vF M) (B : RBd rs) (x : Int) (hM : M.length ≤ 1099511627776) (hl : rs.faults.length ≤ 1099511627776) (hc : rs.count < 4611686018427387904) :
    Calls Try.prog 42 #[.pointer (some ⟨r, 0, none⟩), .int .i64 x] w fun e w' =>
      e = .returned (.int .i64 (rs.err x)) ∧ RefTo w S r (rs.delete x) w' := by
  obtain ⟨i0, hi, hz0, hz1, hz2⟩ := info_parts Try.info87w
  have hbeg := refBegin_any R B x hl hc
  have ML : M.length = rs.L.length := by rw [R.ghost]; simp
  have hat : ∀ w1 S1 vL1 vF1 M1, RefIn w1 S1 r rs.after vL1 vF1 M1 → Calls Try.prog 49 #[.pointer (some ⟨r, 0, none⟩), .int .i64 x] w1 fun e w' => e = .returned (.tuple #[.int .i64 (posL rs.L x), .bool (hitL rs.L x)]) ∧ ∃ n, w' = w1.drewN n := fun w1 S1 vL1 vF1 M1 R1 => by
    have h1 : M1.length = rs.L.length := by have := R1.ghost; rw [show rs.after.L = rs.L from rfl] at this; rw [this]; simp
    exact at_any R1 x (by omega)
  by_cases he : rs.err x = 0
  · cases hh : hitL rs.L x with
    | false =>
      have e1 : rs.delete x = rs.after := by unfold RSt.delete; rw [if_pos he, delL_not _ _ hh]; rfl
      rw [e1, he]
      rw [he] at hbeg
      rw [hh] at hat
      clear e1 he hh R B ML
      go_enter Try.func42, Try.ntmps42
      go_wp2_with (first
        | (go_at_call 68; refine hbeg.mono ?_; rintro e w1 ⟨rfl, S1, vL1, vF1, M1, R1, K1, hS1⟩; have hat1 := hat w1 _ _ _ _ R1; clear hbeg hat)
        | (go_at_call 49; refine hat1.mono ?_; rintro e w2 ⟨rfl, n2, rfl⟩; clear hat1)
        | fail)
      go_ret
      exact ⟨rfl, RefTo.trans K1 hS1 (R1.to (Kept.drewN _ _ _))⟩
    | true =>
      have hLx := posL_lt rs.L x hh
      have e1 : rs.delete x = { rs.after with L := delL rs.L x } := by unfold RSt.delete; rw [if_pos he]
      rw [e1, he]
      rw [he] at hbeg
      have facts : ∀ w1 S1 vL1 vF1 M1, RefIn w1 S1 r rs.after vL1 vF1 M1 → ∃ (g cap : Nat), vL1 = .slice (some ⟨g, 0, none⟩) M1.length cap ∧ (M1.length : Int) ≤ (cap : Int) ∧ (r ≠ g ∧ g ≠ r) ∧ ((posL rs.L x : Int) < (M1.length : Int)) ∧ M1.length = rs.L.length ∧ r < w1.heap.size ∧ g < w1.heap.size := by
        intro w1 S1 vL1 vF1 M1 R1
        have h1 : M1.length = rs.L.length := by have := R1.ghost; rw [show rs.after.L = rs.L from rfl] at this; rw [this]; simp
        have hp : posL rs.L x < M1.length := by omega
        obtain ⟨g, cap, e, hcap, hcell⟩ := R1.file hp
        exact ⟨g, cap, e, by omega, ⟨fun h => R1.neL (by rw [e]; rfl) h.symm, fun h => R1.neL (by rw [e]; rfl) h⟩, by omega, h1, R1.bnd r R1.sr, R1.ltL e⟩
      have hto : ∀ w1 S1 vL1 vF1 M1, RefIn w1 S1 r rs.after vL1 vF1 M1 → ∀ (w2 : World) (v' : Value) (n : Nat), Kept (fun _ => False) w1 w2 → n = posL rs.L x + (M1.length - (posL rs.L x + 1)) → w2.ownsRow w1.heap.size 87 3 v' n (rowCells (M1.take (posL rs.L x)) ++ rowCells (M1.drop (posL rs.L x + 1))) → RefTo w1 S1 r { rs.after with L := delL rs.L x } (w2.setCell ⟨r, 0, none⟩ v') :=
        fun w1 S1 vL1 vF1 M1 R1 w2 v' n K hn ho => R1.delTo (x := x) hh K hn ho
      rw [hh] at hat
      generalize ({ rs.after with L := delL rs.L x } : RSt) = RS at *
      have HML : Hid (M.length = rs.L.length) := ML
      clear e1 he hh R B ML
      generalize posL rs.L x = ps at *
      go_enter Try.func42, Try.ntmps42
      go_wp2_with (first
        | (go_at_call 68; refine hbeg.mono ?_; rintro e w1 ⟨rfl, S1, vL1, vF1, M1, R1, K1, hS1⟩; have hat1 := hat w1 _ _ _ _ R1; obtain ⟨g, cap, e0, x1, ⟨m1, m2⟩, x2, x3, x4, x5⟩ := facts _ _ _ _ _ R1; have hto1 := hto _ _ _ _ _ R1; clear hbeg hat facts hto)
        | (go_at_call 49; refine hat1.mono ?_; rintro e w2 ⟨rfl, n3, rfl⟩; clear hat1)
        | fail)
      have y1 : (w1.drewN n3).cell? ⟨r, 0, none⟩ = some (.slice (some ⟨g, 0, none⟩) M1.length cap) := by have := R1.c0; rw [e0] at this; exact this
      have y2 := R1.fz 0
      have KW : Kept (fun _ => False) w1 (w1.drewN n3) := Kept.drewN _ _ _
      have hWs : (w1.drewN n3).heap.size = w1.heap.size := rfl
      have R2 := R1.drewN n3
      generalize w1.drewN n3 = W at *
      have z0 : (0 : Int) ≤ (ps : Int) := Int.natCast_nonneg _
      have z1 : (0 : Int) ≤ (ps : Int) + 1 := by omega
      have z2 : (ps : Int) + 1 ≤ (M1.length : Int) := by omega
      have hbig : M1.length ≤ 1099511627776 := by have := HML.out; omega
      have c1 : ps ≤ cap := by omega
      have c2 : ps + 1 ≤ M1.length := by omega
      have c3 : M1.length ≤ cap := by omega
      have c4 : IntKind.i64.wrap ((ps : Int) + 1) = (ps : Int) + 1 := by rw [IntKind.wrap_i64]; omega
      have c5 : ps ≤ M1.length := by omega
      have c6 : W.frozen? ⟨r, 0, none⟩ = false := R2.fz 0
      have k3 : ∀ w3, ((W.alloc (.cells #[] 87)).drew).grownBy w3 (Value.slice (some ⟨W.heap.size, 0, none⟩) 0 0).ownBlock → w3.cell? ⟨r, 0, none⟩ = some (.slice (some ⟨g, 0, none⟩) M1.length cap) ∧ w3.frozen? ⟨r, 0, none⟩ = false ∧ Kept (fun _ => False) W w3 := fun w3 hg => by
        have K : Kept (fun _ => False) W w3 := ((Kept.alloc _ W _).and (Kept.drew _ _)).trans (Kept.grown (S := fun k => W.heap.size ≤ k) hg (fun _ e => Nat.le_of_eq (Option.some.inj e))) (fun _ h => .inr h)
        have hr : w3.heap[r]? = W.heap[r]? := K.block r (by omega) (fun h => h)
        exact ⟨by rw [← y1]; simp [World.cell?, hr], by rw [← c6]; simp [World.frozen?, hr], K⟩
      have k4 : ∀ (w3 w4 : World) (v3 : Value) (n3 : Nat) (xs3 : List Value), Kept (fun _ => False) W w3 → w3.ownsRow w1.heap.size 87 3 v3 n3 xs3 → w3.grownBy w4 v3.ownBlock → w4.cell? ⟨r, 0, none⟩ = some (.slice (some ⟨g, 0, none⟩) M1.length cap) ∧ w4.frozen? ⟨r, 0, none⟩ = false ∧ Kept (fun _ => False) W w4 := fun w3 w4 v3 n3 xs3 K3 ho hg => by
        have K : Kept (fun _ => False) W w4 := K3.trans (Kept.grown (S := fun k => W.heap.size ≤ k) hg (fun k e => by have := (ho.lt k e).1; omega)) (fun _ h => .inr h)
        have hr : w4.heap[r]? = W.heap[r]? := K.block r (by omega) (fun h => h)
        exact ⟨by rw [← y1]; simp [World.cell?, hr], by rw [← c6]; simp [World.frozen?, hr], K⟩
      have hem : ((W.alloc (.cells #[] 87)).drew).ownsRow w1.heap.size 87 3 (.slice (some ⟨W.heap.size, 0, none⟩) 0 0) 0 [] := World.ownsRow.drew (ownsRow_empty W w1.heap.size 87 3 (by omega))
      have src1 : Src ((W.alloc (.cells #[] 87)).drew) 3 (.slice (some ⟨g, 0, none⟩) ps cap) ps (rowCells (M1.take ps)) := R2.srcTake e0 (by omega) ((Kept.alloc (fun _ => False) W _).block g (by omega) (fun h => h)) cap
      have src2 : ∀ w3, Kept (fun _ => False) W w3 → ∀ c, Src w3 3 (.slice (if cap = ps + 1 then some ⟨g, 0, none⟩ else some ⟨g, (ps + 1) * 3, none⟩) (M1.length - (ps + 1)) c) (M1.length - (ps + 1)) (rowCells (M1.drop (ps + 1))) := fun w3 K c => by
        split
        · exact R2.srcDrop e0 c2 (K.block g (by omega) (fun h => h)) c _ (.inr (by omega))
        · exact R2.srcDrop e0 c2 (K.block g (by omega) (fun h => h)) c _ (.inl rfl)
      have one1 := rowCells_one (M1.take ps) (fun p hp => R2.shapes p (List.mem_of_mem_take hp))
      have one2 := rowCells_one (M1.drop (ps + 1)) (fun p hp => R2.shapes p (List.mem_of_mem_drop hp))
      have ya : (W.alloc (.cells #[] 87)).cell? ⟨r, 0, none⟩ = some (.slice (some ⟨g, 0, none⟩) M1.length cap) := (World.grownBy_alloc W _ none).cell y1 (by simp)
      have HH : Hid (W.heap.size = w1.heap.size ∧ M1.length = rs.L.length ∧ vL1 = .slice (some ⟨g, 0, none⟩) M1.length cap) := ⟨hWs, x3, e0⟩
      have hbz : w1.heap.size ≤ W.heap.size := by omega
      clear hWs x3 e0 R1 R2 hLx
      go_region_law
        (first
          | (refine step_append_src _ (by rfl) _ _ _ (by rfl) w1.heap.size 87 i0 _ 3 40 Try.underlying73 hi hz0 hz1 hz2 rfl (by decide) (.slice (some ⟨W.heap.size, 0, none⟩) 0 0) 0 [] (by rfl) hem _ (by rfl) ps _ src1 one1 (by unfold maxLen; omega) (by omega) (by simp; omega) ?_; intro a3 cap3 w3 ho3 hg3 _ _; obtain ⟨y3, f3, K3⟩ := k3 w3 hg3; simp only [Nat.zero_add, List.nil_append] at ho3 ⊢)
          | (refine step_append_src w3 (by rfl) _ _ _ (by rfl) w1.heap.size 87 i0 _ 3 40 Try.underlying73 hi hz0 hz1 hz2 rfl (by decide) (.slice a3 ps cap3) ps _ (by rfl) ho3 _ (by rfl) (M1.length - (ps + 1)) _ (src2 w3 K3 _) one2 (by unfold maxLen; omega) (by omega) (Nat.le_trans hbz K3.size) ?_; intro a4 cap4 w4 ho4 hg4 _ _; obtain ⟨y4, f4, K4⟩ := k4 w3 w4 _ _ _ K3 ho3 hg4))
      all_goals go_wp2
      all_goals go_ret
      all_goals exact ⟨rfl, RefTo.trans K1 hS1 (hto1 _ _ _ (KW.and K4) rfl ho4)⟩
  · have e1 : rs.delete x = rs.after := by unfold RSt.delete; rw [if_neg he]
    rw [e1]
    have he2 : (rs.err x == 0) = false := by simpa using he
    generalize rs.err x = er at *
    clear e1 R B ML
    generalize posL rs.L x = ps at *
    generalize hitL rs.L x = ht at *
    go_enter Try.func42, Try.ntmps42
    go_wp2_with (first
      | (go_at_call 68; refine hbeg.mono ?_; rintro e w1 ⟨rfl, S1, vL1, vF1, M1, R1, K1, hS1⟩; have hat1 := hat w1 _ _ _ _ R1; clear hbeg hat)
      | (go_at_call 49; refine hat1.mono ?_; rintro e w2 ⟨rfl, n2, rfl⟩; clear hat1)
      | fail)
    go_ret
    exact ⟨rfl, RefTo.trans K1 hS1 (R1.to (Kept.drewN _ _ _))⟩
end

end Go.Proofs.Ytdbmefjagggnoaa
