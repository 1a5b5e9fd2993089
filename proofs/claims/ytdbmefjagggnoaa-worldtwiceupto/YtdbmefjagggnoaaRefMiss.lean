/-
  The document's disk: add, where the file is not there; Append.
-/
import Derived.Test.YtdbmefjagggnoaaRefAdd
namespace Go.Proofs.Ytdbmefjagggnoaa
open Go.RowKit Go.Maps Go.ChangeMaps Go.MapKept

section
variable {w w' : World} {S : Nat → Prop} {r : Nat} {rs : RSt} {vL vF : Value} {M : List RM}

theorem midCells (x : Int) (M : List RM) (ps : Nat) (hps : ps ≤ M.length) : (rowCells (M.take ps) ++ [.int .i64 x, .slice none 0 0, .int .i64 0] ++ rowCells (M.drop ps))[ps * 3 + 1]? = some (.slice none 0 0) := by
  have h : (rowCells (M.take ps)).length = ps * 3 := by rw [rowCells_length, List.length_take]; omega
  rw [List.append_assoc, List.getElem?_append_right (by omega), h]
  simp

set_option maxRecDepth 100000 in
set_option maxHeartbeats 8000000 in
theorem refAdd_miss (R : RefIn w S r rs vL vF M) (x : Int) (hM : M.length ≤ 1099511627775) (hh : hitL rs.L x = false) (hr : Rising rs.L) {g cap : Nat} (hv : vL = .slice (some ⟨g, 0, none⟩) M.length cap) {ad : Addr} {m c : Nat} {b : List Int} (B : BytesAt w (some ad) m c b) (hsep : ad.block ≠ r) (hm : 0 < m) (hbl : m ≤ 1099511627776) :
    Calls Try.prog 69 #[.pointer (some ⟨r, 0, none⟩), .int .i64 x, .slice (some ad) m c] w fun e w' => e = .returned (.tuple #[]) ∧ RefTo w S r (rs.add x b) w' := by
  obtain ⟨i0, hi, hz0, hz1, hz2⟩ := info_parts Try.info5
  obtain ⟨j0, hj, hj0, hj1, hj2⟩ := info_parts Try.info87w
  have hat := at_any R x (by omega)
  rw [hh] at hat
  have hbne : b ≠ [] := fun e => by have := B.len; rw [e] at this; simp at this; omega
  have hbp : 0 < b.length := by rw [B.len]; exact hm
  have ML : rs.L.length = M.length := by rw [R.ghost]; simp
  have hpl : posL rs.L x ≤ M.length := by have := posL_le rs.L x; omega
  have eA : rs.add x b = { rs with L := setL rs.L x ⟨x, b, 0⟩ } := by
    unfold RSt.add; rw [if_neg hbne]
    have hn : getL rs.L x = none := by
      exact RefIn.miss hr hh
    rw [hn]; rfl
  have fin : ∀ (w5 w4 : World) (v' : Value) (n5 n g cap : Nat), Kept (fun _ => False) w w5 → n5 = M.length + 1 → w5.ownsRow w.heap.size 87 3 (.slice (some ⟨g, 0, none⟩) n5 cap) n5 (rowCells (M.take (posL rs.L x)) ++ [.int .i64 x, .slice none 0 0, .int .i64 0] ++ rowCells (M.drop (posL rs.L x))) → Kept (fun _ => False) (w5.setCell ⟨r, 0, none⟩ (.slice (some ⟨g, 0, none⟩) n5 cap)) w4 → n = m → w4.ownsRow w5.heap.size 5 1 v' n (b.map (Value.int .u8)) → RefTo w S r (rs.add x b) (w4.setCell ⟨g, posL rs.L x * 3 + 1, none⟩ v') := fun w5 w4 v' n5 n g cap K5 hn5 ho5 K hn ho => by
    rw [eA]
    exact R.addMiss hh B.byte hbp K5 hn5 ho5 K (by rw [B.len]; exact hn) ho
  have hrl := R.bnd r R.sr
  have kr : ∀ w', Kept (fun _ => False) w w' → w'.cell? ⟨r, 0, none⟩ = some vL ∧ w'.frozen? ⟨r, 0, none⟩ = false := fun w' K => by
    have h1 : w'.heap[r]? = w.heap[r]? := K.block r hrl (fun h => h)
    exact ⟨by rw [← R.c0]; simp [World.cell?, h1], by rw [← R.fz 0]; simp [World.frozen?, h1]⟩
  have Bk : ∀ w', Kept (fun k => k = r) w w' → BytesAt w' (some ad) m c b := fun w' K => B.kept K (fun _ a h e => by cases h; exact hsep e)
  have hgl := R.ltL hv
  have hcap : M.length ≤ cap := by
    rcases R.rowL.2 with ⟨h0, _⟩ | ⟨g', cap', cur, h1, _, _, h2, _⟩
    · rw [hv] at h0; cases h0
    · rw [hv] at h1; simp only [Value.slice.injEq] at h1; omega
  have src1 : ∀ w', Kept (fun _ => False) w w' → Src w' 3 (.slice (some ⟨g, 0, none⟩) (posL rs.L x) cap) (posL rs.L x) (rowCells (M.take (posL rs.L x))) := fun w' K => R.srcTake hv hpl (K.block g hgl (fun h => h)) cap
  have src2 : ∀ w', Kept (fun _ => False) w w' → ∀ c, Src w' 3 (.slice (if cap = posL rs.L x then some ⟨g, 0, none⟩ else some ⟨g, posL rs.L x * 3, none⟩) (M.length - posL rs.L x) c) (M.length - posL rs.L x) (rowCells (M.drop (posL rs.L x))) := fun w' K c => by
    split
    · exact R.srcDrop hv hpl (K.block g hgl (fun h => h)) c _ (.inr (by omega))
    · exact R.srcDrop hv hpl (K.block g hgl (fun h => h)) c _ (.inl rfl)
  subst hv
  have one1 := rowCells_one (M.take (posL rs.L x)) (fun p hp => R.shapes p (List.mem_of_mem_take hp))
  have one2 := rowCells_one (M.drop (posL rs.L x)) (fun p hp => R.shapes p (List.mem_of_mem_drop hp))
  have mid := midCells x M (posL rs.L x) hpl
  generalize rs.add x b = RS at *
  clear eA R B hh ML
  generalize posL rs.L x = ps at *
  have z0 : (0 : Int) ≤ (ps : Int) := Int.natCast_nonneg _
  have z1 : (ps : Int) ≤ (M.length : Int) := by omega
  have hm0 : ((m : Int) == 0) = false := by simp; omega
  have c1 : ps ≤ cap := by omega
  have c2 : (ps : Int) ≤ (cap : Int) := by omega
  have c3 : (M.length : Int) ≤ (cap : Int) := by omega
  have k2 : ∀ n w2, ((w.drewN n).alloc (.cells #[] 87)).grownBy w2 (Value.slice (some ⟨w.heap.size, 0, none⟩) 0 0).ownBlock → Kept (fun _ => False) w w2 := fun n w2 hg => ((Kept.drewN _ w n).and (Kept.alloc _ _ _)).trans (Kept.grown (S := fun k => w.heap.size ≤ k) hg (fun _ e => Nat.le_of_eq (Option.some.inj e))) (fun _ h => .inr h)
  have kg : ∀ (w3 w4 : World) (v3 : Value) (t n3 sz : Nat) (xs3 : List Value), Kept (fun _ => False) w w3 → w3.ownsRow w.heap.size t sz v3 n3 xs3 → w3.grownBy w4 v3.ownBlock → Kept (fun _ => False) w w4 := fun w3 w4 v3 t n3 sz xs3 K3 ho hg => K3.trans (Kept.grown (S := fun k => w.heap.size ≤ k) hg (fun k e => (ho.lt k e).1)) (fun _ h => .inr h)
  have hem0 : ∀ n, ((w.drewN n).alloc (.cells #[] 87)).ownsRow w.heap.size 87 3 (.slice (some ⟨w.heap.size, 0, none⟩) 0 0) 0 [] := fun n => ownsRow_empty (w.drewN n) w.heap.size 87 3 (Nat.le_refl _)
  have y0 : ∀ n, ((w.drewN n).alloc (.cells #[] 87)).cell? ⟨r, 0, none⟩ = some (.slice (some ⟨g, 0, none⟩) M.length cap) := fun n => (kr _ ((Kept.drewN _ w n).and (Kept.alloc _ _ _))).1
  have nm : ∀ w2 : World, ∀ j u, ([.int .i64 x, .slice none 0 0, .int .i64 0] : List Value)[j]? = some u → (w2.alloc (.cells #[.int .i64 x, .slice none 0 0, .int .i64 0] 87)).cell? ((⟨w2.heap.size, 0, none⟩ : Addr).add j) = some u := fun w2 => World.news_of_block (heap_alloc_new w2 _)
  have post : ∀ (w5 : World) (n5 g5 cap5 : Nat), Kept (fun _ => False) w w5 → w5.ownsRow w.heap.size 87 3 (.slice (some ⟨g5, 0, none⟩) n5 cap5) n5 (rowCells (M.take ps) ++ [.int .i64 x, .slice none 0 0, .int .i64 0] ++ rowCells (M.drop ps)) →
      g5 ≠ r ∧ (∀ w', Kept (fun _ => False) (w5.setCell ⟨r, 0, none⟩ (.slice (some ⟨g5, 0, none⟩) n5 cap5)) w' → w'.cell? ⟨r, 0, none⟩ = some (.slice (some ⟨g5, 0, none⟩) n5 cap5) ∧ w'.cell? ⟨g5, ps * 3 + 1, none⟩ = some (.slice none 0 0) ∧ w'.frozen? ⟨g5, ps * 3 + 1, none⟩ = false ∧ BytesAt w' (some ad) m c b) := fun w5 n5 g5 cap5 K5 ho5 => by
    have hgb : w.heap.size ≤ g5 := (ho5.lt g5 rfl).1
    have hgl5 : g5 < w5.heap.size := (ho5.lt g5 rfl).2
    have hz5 := K5.size
    have hgr : g5 ≠ r := by omega
    refine ⟨hgr, fun w' K' => ?_⟩
    have hzs : (w5.setCell ⟨r, 0, none⟩ (.slice (some ⟨g5, 0, none⟩) n5 cap5)).heap.size = w5.heap.size := by simp [World.setCell]
    have h1 : w'.heap[r]? = (w5.setCell ⟨r, 0, none⟩ (.slice (some ⟨g5, 0, none⟩) n5 cap5)).heap[r]? := K'.block r (by omega) (fun h => h)
    have h2 : w'.heap[g5]? = w5.heap[g5]? := (K'.block g5 (by omega) (fun h => h)).trans (setCell_block _ _ _ _ hgr)
    have ho' := ownsRow_block (w' := w') ho5 (fun k hk => by cases hk; exact h2)
    refine ⟨?_, ?_, World.ownsRow.frozenAt ho' _, Bk w' (((K5.mono (fun _ h => h.elim)).and (Kept.setCell (S := fun k => k = r) _ _ _ rfl)).trans K' (fun _ h => h.elim))⟩
    · have h3 : (w5.setCell ⟨r, 0, none⟩ (.slice (some ⟨g5, 0, none⟩) n5 cap5)).cell? ⟨r, 0, none⟩ = some (.slice (some ⟨g5, 0, none⟩) n5 cap5) := World.cell?_setCell_same _ _ _ (kr w5 K5).1
      rw [← h3]; simp [World.cell?, h1]
    · have h3 := ho'.cells (g := g5) rfl _ _ mid
      simpa [Addr.add_lit] using h3
  clear Bk mid
  go_enter Try.func69, Try.ntmps69
  go_wp2_with (first
    | (go_at_call 49; refine hat.mono ?_; rintro e w1 ⟨rfl, n1, rfl⟩; clear hat)
    | (at_builtin; refine wpList_append_src _ rfl _ _ 73 rfl w.heap.size 87 j0 _ 3 40 Try.underlying73 hj hj0 hj1 hj2 rfl (by decide) (.slice (some ⟨w.heap.size, 0, none⟩) 0 0) 0 [] rfl (hem0 n1) _ rfl ps _ (src1 _ ((Kept.drewN _ w n1).and (Kept.alloc _ _ _))) one1 (by unfold maxLen; omega) (by omega) (by simp) ?_; intro a2 cap2 w2 ho2 hg2 _ _; simp only [Nat.zero_add, List.nil_append] at ho2 ⊢; have K2 := k2 n1 w2 hg2; clear y0 k2 hem0)
    | (at_builtin; refine wpList_append_lies _ rfl _ _ 73 rfl w.heap.size 87 j0 _ 3 40 Try.underlying73 hj hj0 hj1 hj2 rfl (by decide) (.slice a2 ps cap2) ps _ rfl (ho2.alloc _) ⟨w2.heap.size, 0, none⟩ 1 1 [.int .i64 x, .slice none 0 0, .int .i64 0] rfl rfl (nm w2) (by simp [Value.oneCell']) (by decide) (by unfold maxLen; omega) (by omega) (by have := K2.size; simp; omega) (w2.heap.size + 1) (by simp) ?_; intro g3 cap3 w3 ho3 hg3 hat3 hlt3; have K3 := kg _ w3 _ _ _ _ _ (K2.and (Kept.alloc _ _ _)) (ho2.alloc _) hg3; obtain ⟨y3, f3⟩ := kr w3 K3; clear hat3 nm)
    | (at_builtin; refine wpList_append_src _ rfl _ _ 73 rfl w.heap.size 87 j0 _ 3 40 Try.underlying73 hj hj0 hj1 hj2 rfl (by decide) (.slice (some ⟨g3, 0, none⟩) (ps + 1) cap3) (ps + 1) _ rfl ho3 _ rfl (M.length - ps) _ (src2 _ K3 _) one2 (by unfold maxLen; omega) (by omega) K3.size ?_; intro a5 cap5 w5 ho5 hg5 _ _; have K5 := kg _ w5 _ _ _ _ _ K3 ho3 hg5; obtain ⟨y5, f5⟩ := kr w5 K5; obtain ⟨g5, cap5', e5, _, _⟩ := ho5.form (by omega); simp only [Value.slice.injEq] at e5; obtain ⟨e5a, _, e5b⟩ := e5; subst e5a; subst e5b; clear y3 f3 ho3 hg3 K3 ho2 hg2 K2 hg5 hlt3)
    | fail)
  all_goals (
    obtain ⟨hgr, k1⟩ := post _ _ _ _ K5 ho5
    have hrg : r ≠ g5 := Ne.symm hgr
    have fin1 := fun w4 v' n => fin w5 w4 v' _ n g5 cap5 K5 (by omega) ho5
    have hWs : (w5.setCell ⟨r, 0, none⟩ (.slice (some ⟨g5, 0, none⟩) (ps + 1 + (M.length - ps)) cap5)).heap.size = w5.heap.size := by simp [World.setCell]
    generalize w5.setCell ⟨r, 0, none⟩ (.slice (some ⟨g5, 0, none⟩) (ps + 1 + (M.length - ps)) cap5) = W at *
    have e1 : (ps : Int) < ((ps + 1 + (M.length - ps) : Nat) : Int) := by omega
    generalize ps + 1 + (M.length - ps) = n5 at *
    have HWs : Hid (W.heap.size = w5.heap.size) := hWs
    clear fin post hWs ho5 src1 src2 kr y5 f5 K5 kg
    obtain ⟨y1, y2, y3, _⟩ := k1 _ (Kept.refl _ _)
    obtain ⟨ya1, ya2, ya3, _⟩ := k1 (W.alloc (.cells #[] 5)).drew ((Kept.alloc _ _ _).and (Kept.drew _ _))
    have hem : ((W.alloc (.cells #[] 5)).drew).ownsRow W.heap.size 5 1 (.slice (some ⟨W.heap.size, 0, none⟩) 0 0) 0 [] := World.ownsRow.drew (ownsRow_empty W W.heap.size 5 1 (Nat.le_refl _))
    have k3 : ∀ w3, ((W.alloc (.cells #[] 5)).drew).grownBy w3 (Value.slice (some ⟨W.heap.size, 0, none⟩) 0 0).ownBlock → Kept (fun _ => False) W w3 := fun w3 hg => ((Kept.alloc _ _ _).and (Kept.drew _ _)).trans (Kept.grown (S := fun k => W.heap.size ≤ k) hg (fun _ e => Nat.le_of_eq (Option.some.inj e))) (fun _ h => .inr h)
    have k4 : ∀ (w3 w4 : World) (v3 : Value) (n3 : Nat) (xs3 : List Value), Kept (fun _ => False) W w3 → w3.ownsRow W.heap.size 5 1 v3 n3 xs3 → w3.grownBy w4 v3.ownBlock → Kept (fun _ => False) W w4 := fun w3 w4 v3 n3 xs3 K3 ho hg => K3.trans (Kept.grown (S := fun k => W.heap.size ≤ k) hg (fun k e => (ho.lt k e).1)) (fun _ h => .inr h)
    go_region_law
      (first
        | (refine step_append_src _ (by rfl) _ _ _ (by rfl) W.heap.size 5 i0 _ 1 1 Try.underlying28 hi hz0 hz1 hz2 rfl (by decide) (.slice (some ⟨W.heap.size, 0, none⟩) 0 0) 0 [] (by rfl) hem _ (by rfl) 0 [] (.inr ⟨_, rfl, rfl, rfl⟩) (by simp) (by unfold maxLen; omega) (by omega) (by simp) ?_; intro a3 cap3 w3 ho3 hg3 _ _; have K3 := k3 w3 hg3; obtain ⟨yb1, yb2, yb3, Bw⟩ := k1 _ K3; simp only [Nat.zero_add, List.nil_append] at ho3 ⊢)
        | (refine step_append_src w3 (by rfl) _ _ _ (by rfl) W.heap.size 5 i0 _ 1 1 Try.underlying28 hi hz0 hz1 hz2 rfl (by decide) (.slice a3 0 cap3) 0 _ (by rfl) ho3 _ (by rfl) m _ Bw.src (oneCells _) (by unfold maxLen; omega) (by omega) K3.size ?_; intro a4 cap4 w4 ho4 hg4 _ _; have K4 := k4 w3 w4 _ _ _ K3 ho3 hg4; obtain ⟨yc1, yc2, yc3, _⟩ := k1 _ K4; simp only [Nat.zero_add, List.nil_append] at ho4 ⊢))
    all_goals go_wp2
    all_goals go_end0
    all_goals exact ⟨rfl, fin1 _ _ _ K4 rfl (by rw [← HWs.out]; exact ho4)⟩)


end

end Go.Proofs.Ytdbmefjagggnoaa
