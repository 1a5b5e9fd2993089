/-
  Crash: what each file loses, and the whole.
-/
import Derived.Test.YthpamcfemhimcaaDiskFiles
import Derived.ScopeJumps
namespace Go.Proofs.Ythpamcfemhimcaa
open Go.RowKit Go.Maps Go.ChangeMaps Go.MapKept

theorem ret_int {k : IntKind} {a b : Int} (h : a = b) : Ending.returned (.int k a) = .returned (.int k b) := by rw [h]

theorem isI64_bd {x : Int} (h : isI64 x) : -9223372036854775808 ≤ x ∧ x ≤ 9223372036854775807 := by
  simp [isI64, Lit.wf, IntKind.min, IntKind.max, IntKind.signed, IntKind.bits] at h
  omega

theorem tmod_emod_neg {n m : Int} (hm : 0 < m) (h : n.tmod m < 0) : n.tmod m + m = n % m := by
  have h1 := Int.emod_nonneg n (by omega : m ≠ 0)
  have h2 := Int.emod_lt_of_pos n hm
  rw [Int.tmod_eq_emod] at h ⊢
  split at h <;> rename_i hc
  · omega
  · have : (m.natAbs : Int) = m := by omega
    rw [if_neg hc]
    omega

theorem tmod_emod_pos {n m : Int} (hm : 0 < m) (h : 0 ≤ n.tmod m) : n.tmod m = n % m := by
  have h1 := Int.emod_nonneg n (by omega : m ≠ 0)
  have h2 := Int.emod_lt_of_pos n hm
  rw [Int.tmod_eq_emod] at h ⊢
  split at h <;> rename_i hc
  · rw [if_pos hc]; omega
  · have : (m.natAbs : Int) = m := by omega
    omega

set_option maxRecDepth 100000 in
set_option maxHeartbeats 400000 in
theorem remainder_any (w : World) (k m : Int) (hm : 0 < m) (hm2 : m ≤ 281474976710656) :
    Calls Try.prog 49 #[.int .i64 k, .int .i64 m] w fun e w' => e = .returned (.int .i64 (k % m)) ∧ w' = w := by
  have h1 := Int.emod_nonneg k (by omega : m ≠ 0)
  have h2 := Int.emod_lt_of_pos k hm
  have hmz : (m == 0) = false := by simp; omega
  by_cases h : k.tmod m < 0
  · have e := tmod_emod_neg hm h
    have HE : Hid (k.tmod m + m = k % m) := e
    have hlo : -m ≤ k.tmod m := by omega
    clear e h1 h2
    go_enter Try.func49, Try.ntmps49
    go_wp2
    go_ret
    exact ⟨ret_int HE.out, rfl⟩
  · have e := tmod_emod_pos (n := k) hm (by omega)
    have HE : Hid (k.tmod m = k % m) := e
    clear e h1 h2
    go_enter Try.func49, Try.ntmps49
    go_wp2
    go_ret
    exact ⟨ret_int HE.out, rfl⟩

/-- How many of a file's bytes are counted by a cut. -/
def cutK (f : DFile) (cut : Int) : Nat := (cut % (2 * ((f.bytes.length : Int) - f.kept) + 1)).toNat
def cutQ (f : DFile) (cut : Int) : Nat := f.kept + (cutK f cut + 1) / 2
/-- The bytes that a cut leaves: the last may be torn. -/
def cutB (f : DFile) (cut : Int) : List Int :=
  if 0 < cutK f cut ∧ cutK f cut % 2 = 0 then (f.bytes.take (cutQ f cut)).set (cutQ f cut - 1) (255 - (f.bytes[cutQ f cut - 1]?).getD 0) else f.bytes.take (cutQ f cut)
/-- What a cut leaves of a file. -/
def cutF (f : DFile) (cut : Int) : Option DFile := if cutQ f cut = 0 then none else some ⟨cutB f cut, cutQ f cut⟩

theorem cutK_int (f : DFile) (cut : Int) (h : f.kept ≤ f.bytes.length) : cut % (2 * ((f.bytes.length : Int) - f.kept) + 1) = (cutK f cut : Int) ∧ cutK f cut ≤ 2 * (f.bytes.length - f.kept) := by
  have h1 := Int.emod_nonneg cut (by omega : (2 * ((f.bytes.length : Int) - f.kept) + 1) ≠ 0)
  have h2 := Int.emod_lt_of_pos cut (by omega : 0 < (2 * ((f.bytes.length : Int) - f.kept) + 1))
  unfold cutK
  omega

theorem cutQ_le (f : DFile) (cut : Int) (h : f.kept ≤ f.bytes.length) : cutQ f cut ≤ f.bytes.length := by
  have := (cutK_int f cut h).2
  unfold cutQ
  omega

def DSt.lose (st : DSt) (x cut : Int) : DSt := match st.files x with | some f => { st with files := setF st.files x (cutF f cut) } | none => st

section
variable {w : World} {S : Nat → Prop} {d n L : Nat} {st : DSt} {bf bq : Nat} {G C : Int → Nat}

set_option maxRecDepth 100000 in
set_option maxHeartbeats 1000000 in
theorem lose_gone (D : DiskIn w S d n L st bf bq G C) (x : Int) (hx : isI64 x) (cut : Int) (f : DFile) (hF : st.files x = some f) (hL : L ≤ 70368744177664) (hq : cutQ f cut = 0) :
    Calls Try.prog 46 #[.pointer (some ⟨d, 0, none⟩), .int .i64 x, .int .i64 cut] w fun e w' =>
      e = .returned (.tuple #[]) ∧ DiskIn w' S d n L { st with files := setF st.files x none } bf bq G C ∧ Kept S w w' := by
  have h0 := D.c0
  have hF' := D.rows x f hF
  have hlen := D.len x f hF
  have hkl := hF'.kept
  obtain ⟨hK, hK2⟩ := cutK_int f cut hkl
  have hrem : ∀ W, Calls Try.prog 49 #[.int .i64 cut, .int .i64 (2 * ((f.bytes.length : Int) - f.kept) + 1)] W fun e w' => e = .returned (.int .i64 (cutK f cut)) ∧ w' = W := by
    intro W
    rw [← hK]
    exact remainder_any W _ _ (by omega) (by omega)
  have hv : ((fun x => (st.files x).map fun f => fileVal (G x) (C x) f) x).getD (.agg #[.slice none 0 0, .int .i64 0]) = .agg #[.slice (some ⟨G x, 0, none⟩) f.bytes.length (C x), .int .i64 f.kept] := by simp [hF, fileVal]
  unfold cutQ at hq
  have hk0 : f.kept = 0 := by omega
  have hK0 : cutK f cut = 0 := by omega
  rw [hK0] at hrem
  rw [hk0] at hrem hv
  have T := D.tf
  have hdl : d < w.heap.size := D.bnd d D.sd
  have hlen2 : (f.bytes.length : Int) ≤ 70368744177664 := by omega
  clear hK hK2 hkl hq hk0 hK0 hF' hF
  go_enter Try.func46, Try.ntmps46
  go_wp2_with (first
    | (at_lookup; refine wpList_tab_look _ rfl _ _ 68 rfl 3 76 Try.underlying3 Try.underlying68 (Try.zeroValue76 _) bf n _ T rfl x hx rfl _ hv ?_; clear hv)
    | (go_at_call 49; refine (hrem _).mono ?_; rintro e w1 ⟨rfl, rfl⟩; clear hrem)
    | (at_delete; refine wpList_tab_drop _ rfl _ _ 68 3 rfl 76 Try.underlying3 Try.underlying68 bf n _ (T.block (Below.heap_alloc _ _ _ T.lt)) rfl x hx rfl ?_; intro w2 T2 ht2)
    | fail)
  refine bodyPost_ret (results_none rfl _ _ _) rfl ?_
  exact ⟨rfl, DiskIn.dropFile (D.kept (Kept.alloc (fun _ => False) w _) (fun _ _ h => h)) T2 ht2, (Kept.alloc S w _).and (Kept.turned ht2 D.sf)⟩

theorem FileAt.cut {g cap : Nat} {f : DFile} (F : FileAt w g cap f) {q : Nat} (h0 : 0 < q) (hq : q ≤ f.bytes.length) : FileAt w g cap ⟨f.bytes.take q, q⟩ := by
  obtain ⟨cur, hh, h1, h2, h3, h4⟩ := F.heap
  have hl : (f.bytes.take q).length = q := by rw [List.length_take]; omega
  refine ⟨⟨by simp only [List.length_map, Nat.mul_one], .inr ⟨g, cap, cur, by simp only [hl], Nat.zero_le _, hh, by rw [hl]; omega, h3, by omega, ?_⟩⟩, by simp only [hl]; omega, by simp only [hl]; omega, fun b hb => F.byte b (List.mem_of_mem_take hb)⟩
  have e : cur.toList.take q = (cur.toList.take f.bytes.length).take q := by rw [List.take_take, Nat.min_eq_left hq]
  simp only [hl, Nat.mul_one]
  rw [e, h4, List.map_take]

theorem FileAt.tear {g cap : Nat} {f : DFile} (F : FileAt w g cap f) {j : Nat} {v : Int} (hv : 0 ≤ v ∧ v ≤ 255) : FileAt (w.setCell ⟨g, j, none⟩ (.int .u8 v)) g cap ⟨f.bytes.set j v, f.kept⟩ := by
  obtain ⟨cur, hh, h1, h2, h3, h4⟩ := F.heap
  have hh2 : (w.setCell ⟨g, j, none⟩ (.int .u8 v)).heap[g]? = some (.cells (cur.setIfInBounds j (.int .u8 v)) 5 (0, 0)) := by
    simp [World.setCell, Array.getElem?_modify, hh]
  refine ⟨⟨by simp, .inr ⟨g, cap, _, by simp, Nat.zero_le _, hh2, by simpa using h2, h3, by simpa using h1, ?_⟩⟩, by simpa using F.kept, by simpa using F.pos, ?_⟩
  · simp only [List.length_set, Nat.mul_one, Array.toList_setIfInBounds]
    rw [List.take_set, h4, List.map_set]
  · intro b hb
    rcases List.mem_or_eq_of_mem_set hb with h | h
    · exact F.byte b h
    · rw [h]; exact hv

/-- The file of x is set anew in its own block. -/
theorem lose_key (D : DiskIn w S d n L st bf bq G C) (x : Int) (hx : isI64 x) (f f' : DFile) (hF : st.files x = some f) (hn : n < 4611686018427387904) (hl : f'.bytes.length ≤ L) (W : World) (K : Kept (fun k => k = G x) w W) (F' : FileAt W (G x) (C x) f') :
    ∃ w2, (Instr.mapUpdate 68 (.map (some bf)) (.int .i64 x) (fileVal (G x) (C x) f')).run Try.prog W = .ok () w2 ∧
      ∃ S' G' C', DiskIn w2 S' d (n + 1) L { st with files := setF st.files x (some f') } bf bq G' C' ∧ Kept S w w2 ∧ ∀ k, S' k → S k ∨ w.heap.size ≤ k := by
  have hbf : W.heap[bf]? = w.heap[bf]? := K.block bf D.tf.lt (fun e => D.neGf hF e.symm)
  obtain ⟨w2, hrun, T2, ht2⟩ := (D.tf.block hbf).store (i := x) Try.underlying3 Try.underlying68 (by unfold maxLen; omega) hx (fileVal (G x) (C x) f')
  have hb2 : ∀ k, k ≠ bf → w2.heap[k]? = W.heap[k]? := by
    intro k hk
    obtain ⟨es, c', es', c'', h, rfl⟩ := ht2
    exact heap_setBlock_other h _ hk
  have hz : w.heap.size ≤ w2.heap.size := Nat.le_trans K.size ht2.grown.size
  refine ⟨w2, hrun, fun k => S k ∨ k = G x, _, _, D.setFile (Nat.le_succ n) (Nat.le_refl L) hl (fun k hk hkf hkg _ => (hb2 k hkf).trans (K.block k (D.bnd k hk) hkg)) hz T2 (F'.of (hb2 _ (D.neGf hF))) (.inl ⟨f, hF, rfl⟩), ?_, ?_⟩
  · exact (K.mono (fun k e => e ▸ D.sg x f hF)).and (Kept.turned ht2 D.sf)
  · rintro k (hk | rfl)
    · exact .inl hk
    · exact .inl (D.sg x f hF)

set_option maxRecDepth 100000 in
set_option maxHeartbeats 1000000 in
theorem lose_whole (D : DiskIn w S d n L st bf bq G C) (x : Int) (hx : isI64 x) (cut : Int) (f : DFile) (hF : st.files x = some f) (hL : L ≤ 70368744177664) (hn : n < 4611686018427387904) (hq : 0 < cutQ f cut) (ht : ¬ (0 < cutK f cut ∧ cutK f cut % 2 = 0)) :
    Calls Try.prog 46 #[.pointer (some ⟨d, 0, none⟩), .int .i64 x, .int .i64 cut] w fun e w' =>
      e = .returned (.tuple #[]) ∧ ∃ S' G' C', DiskIn w' S' d (n + 1) L { st with files := setF st.files x (some ⟨f.bytes.take (cutQ f cut), cutQ f cut⟩) } bf bq G' C' ∧ Kept S w w' ∧ ∀ k, S' k → S k ∨ w.heap.size ≤ k := by
  have h0 := D.c0
  have hF' := D.rows x f hF
  have hlen := D.len x f hF
  have hkl := hF'.kept
  have hql := cutQ_le f cut hkl
  obtain ⟨hK, hK2⟩ := cutK_int f cut hkl
  have hrem : ∀ W, Calls Try.prog 49 #[.int .i64 cut, .int .i64 (2 * ((f.bytes.length : Int) - f.kept) + 1)] W fun e w' => e = .returned (.int .i64 (cutK f cut)) ∧ w' = W := by
    intro W
    rw [← hK]
    exact remainder_any W _ _ (by omega) (by omega)
  have hv : ((fun x => (st.files x).map fun f => fileVal (G x) (C x) f) x).getD (.agg #[.slice none 0 0, .int .i64 0]) = .agg #[.slice (some ⟨G x, 0, none⟩) f.bytes.length (C x), .int .i64 f.kept] := by simp [hF, fileVal]
  have hcap : f.bytes.length ≤ C x := by obtain ⟨_, _, _, h, _⟩ := hF'.heap; exact h
  have T := D.tf
  have hdl : d < w.heap.size := D.bnd d D.sd
  unfold cutQ at *
  generalize cutK f cut = K at *
  have hcap2 : (f.kept : Int) + ((K : Int) + 1) / 2 ≤ C x := by omega
  have hq2 : ((f.kept : Int) + ((K : Int) + 1) / 2 == 0) = false := by simp; omega
  obtain ⟨w2, hrun, F2⟩ := lose_key D x hx f ⟨f.bytes.take (f.kept + (K + 1) / 2), f.kept + (K + 1) / 2⟩ hF hn (by rw [List.length_take]; omega)
    (w.alloc (.cells #[.slice (some ⟨G x, 0, none⟩) (f.kept + (K + 1) / 2) (C x), .int .i64 ((f.kept : Int) + ((K : Int) + 1) / 2)] 76)).drew ((Kept.alloc _ _ _).and (Kept.drew _ _))
    ((hF'.cut hq hql).of (by exact Below.heap_alloc _ _ _ (D.bnd _ (D.sg x f hF))))
  have eV : fileVal (G x) (C x) ⟨f.bytes.take (f.kept + (K + 1) / 2), f.kept + (K + 1) / 2⟩ = .agg #[.slice (some ⟨G x, 0, none⟩) (f.kept + (K + 1) / 2) (C x), .int .i64 ((f.kept : Int) + ((K : Int) + 1) / 2)] := by
    simp only [fileVal, List.length_take]
    rw [Nat.min_eq_left hql]
    rfl
  rw [eV] at hrun
  clear hK eV hF' hF D
  go_enter Try.func46, Try.ntmps46
  go_wp2_with (first
    | (at_lookup; refine wpList_tab_look _ rfl _ _ 68 rfl 3 76 Try.underlying3 Try.underlying68 (Try.zeroValue76 _) bf n _ T rfl x hx rfl _ hv ?_; clear hv)
    | (go_at_call 49; refine (hrem _).mono ?_; rintro e w1 ⟨rfl, rfl⟩; clear hrem)
    | fail)
  all_goals
    go_region
    go_end0
    exact ⟨rfl, F2⟩
set_option maxRecDepth 100000 in
set_option maxHeartbeats 1000000 in
theorem lose_torn (D : DiskIn w S d n L st bf bq G C) (x : Int) (hx : isI64 x) (cut : Int) (f : DFile) (hF : st.files x = some f) (hL : L ≤ 70368744177664) (hn : n < 4611686018427387904) (hq : 0 < cutQ f cut) (ht : 0 < cutK f cut ∧ cutK f cut % 2 = 0) :
    Calls Try.prog 46 #[.pointer (some ⟨d, 0, none⟩), .int .i64 x, .int .i64 cut] w fun e w' =>
      e = .returned (.tuple #[]) ∧ ∃ S' G' C', DiskIn w' S' d (n + 1) L { st with files := setF st.files x (some ⟨(f.bytes.take (cutQ f cut)).set (cutQ f cut - 1) (255 - (f.bytes[cutQ f cut - 1]?).getD 0), cutQ f cut⟩) } bf bq G' C' ∧ Kept S w w' ∧ ∀ k, S' k → S k ∨ w.heap.size ≤ k := by
  have h0 := D.c0
  have hF' := D.rows x f hF
  have hlen := D.len x f hF
  have hkl := hF'.kept
  have hql := cutQ_le f cut hkl
  obtain ⟨hK, hK2⟩ := cutK_int f cut hkl
  have hrem : ∀ W, Calls Try.prog 49 #[.int .i64 cut, .int .i64 (2 * ((f.bytes.length : Int) - f.kept) + 1)] W fun e w' => e = .returned (.int .i64 (cutK f cut)) ∧ w' = W := by
    intro W
    rw [← hK]
    exact remainder_any W _ _ (by omega) (by omega)
  have hv : ((fun x => (st.files x).map fun f => fileVal (G x) (C x) f) x).getD (.agg #[.slice none 0 0, .int .i64 0]) = .agg #[.slice (some ⟨G x, 0, none⟩) f.bytes.length (C x), .int .i64 f.kept] := by simp [hF, fileVal]
  have hcap : f.bytes.length ≤ C x := by obtain ⟨_, _, _, h, _⟩ := hF'.heap; exact h
  have T := D.tf
  have hdl : d < w.heap.size := D.bnd d D.sd
  unfold cutQ at *
  generalize cutK f cut = K at *
  have hcap2 : (f.kept : Int) + ((K : Int) + 1) / 2 ≤ C x := by omega
  have hq2 : ((f.kept : Int) + ((K : Int) + 1) / 2 == 0) = false := by simp; omega
  obtain ⟨ht1, ht2⟩ := ht
  have ht3 : ((K : Int) % 2 == 0) = true := by simp; omega
  obtain ⟨b, hb, hb0, hb1⟩ : ∃ b, f.bytes[f.kept + (K + 1) / 2 - 1]? = some b ∧ 0 ≤ b ∧ b ≤ 255 := by
    have hlt : f.kept + (K + 1) / 2 - 1 < f.bytes.length := by omega
    exact ⟨f.bytes[f.kept + (K + 1) / 2 - 1], by simp, hF'.byte _ (List.getElem_mem hlt)⟩
  have hcell : w.cell? ⟨G x, f.kept + (K + 1) / 2 - 1, none⟩ = some (.int .u8 b) := by
    have h := hF'.row.cells (g := G x) rfl (f.kept + (K + 1) / 2 - 1) (.int .u8 b) (by rw [List.getElem?_map, hb]; rfl)
    simpa [Addr.add_lit] using h
  have hGl : G x < w.heap.size := D.bnd _ (D.sg x f hF)
  have hfz : w.frozen? ⟨G x, f.kept + (K + 1) / 2 - 1, none⟩ = false := by
    obtain ⟨cur, hh, _⟩ := hF'.heap
    simp [World.frozen?, hh]
  have FT : FileAt (w.setCell ⟨G x, f.kept + (K + 1) / 2 - 1, none⟩ (.int .u8 (255 - b))) (G x) (C x) ⟨(f.bytes.take (f.kept + (K + 1) / 2)).set (f.kept + (K + 1) / 2 - 1) (255 - b), f.kept + (K + 1) / 2⟩ :=
    (hF'.cut hq hql).tear (by omega)
  obtain ⟨w2, hrun, F2⟩ := lose_key D x hx f ⟨(f.bytes.take (f.kept + (K + 1) / 2)).set (f.kept + (K + 1) / 2 - 1) (255 - b), f.kept + (K + 1) / 2⟩ hF hn (by rw [List.length_set, List.length_take]; omega)
    ((w.setCell ⟨G x, f.kept + (K + 1) / 2 - 1, none⟩ (.int .u8 (255 - b))).alloc (.cells #[.slice (some ⟨G x, 0, none⟩) (f.kept + (K + 1) / 2) (C x), .int .i64 ((f.kept : Int) + ((K : Int) + 1) / 2)] 76)).drew.drew
    ((((Kept.setCell (S := fun k => k = G x) _ _ _ rfl).and (Kept.alloc _ _ _)).and (Kept.drew _ _)).and (Kept.drew _ _))
    (FT.of (by exact Below.heap_alloc _ _ _ (by simp only [World.setCell, Array.size_modify]; exact hGl)))
  have eV : fileVal (G x) (C x) ⟨(f.bytes.take (f.kept + (K + 1) / 2)).set (f.kept + (K + 1) / 2 - 1) (255 - b), f.kept + (K + 1) / 2⟩ = .agg #[.slice (some ⟨G x, 0, none⟩) (f.kept + (K + 1) / 2) (C x), .int .i64 ((f.kept : Int) + ((K : Int) + 1) / 2)] := by
    simp only [fileVal, List.length_set, List.length_take]
    rw [Nat.min_eq_left hql]
    rfl
  rw [eV] at hrun
  have hc0 : (w.setCell ⟨G x, f.kept + (K + 1) / 2 - 1, none⟩ (.int .u8 (255 - b))).cell? ⟨d, 0, none⟩ = some (.map (some bf)) := by
    rw [World.cell?_of_block (w := w) (Below.heap_setCell _ _ _ _ (Ne.symm (D.neG hF)))]; exact h0
  rw [hb]
  clear hK hF' hF D FT eV
  go_enter Try.func46, Try.ntmps46
  go_wp2_with (first
    | (at_lookup; refine wpList_tab_look _ rfl _ _ 68 rfl 3 76 Try.underlying3 Try.underlying68 (Try.zeroValue76 _) bf n _ T rfl x hx rfl _ hv ?_; clear hv)
    | (go_at_call 49; refine (hrem _).mono ?_; rintro e w1 ⟨rfl, rfl⟩; clear hrem)
    | fail)
  go_region
  go_wp2
  go_region
  go_end0
  exact ⟨rfl, F2⟩

theorem lose_any (D : DiskIn w S d n L st bf bq G C) (x : Int) (hx : isI64 x) (cut : Int) (f : DFile) (hF : st.files x = some f) (hL : L ≤ 70368744177664) (hn : n < 4611686018427387904) :
    Calls Try.prog 46 #[.pointer (some ⟨d, 0, none⟩), .int .i64 x, .int .i64 cut] w fun e w' =>
      e = .returned (.tuple #[]) ∧ ∃ S' G' C', DiskIn w' S' d (n + 1) L (st.lose x cut) bf bq G' C' ∧ Kept S w w' ∧ ∀ k, S' k → S k ∨ w.heap.size ≤ k := by
  by_cases hq : cutQ f cut = 0
  · have e1 : st.lose x cut = { st with files := setF st.files x none } := by simp [DSt.lose, hF, cutF, hq]
    rw [e1]
    refine (lose_gone D x hx cut f hF hL hq).mono ?_
    rintro e w' ⟨rfl, D', K⟩
    exact ⟨rfl, S, G, C, D'.mono (Nat.le_succ _) (Nat.le_refl _), K, fun _ => .inl⟩
  · by_cases ht : 0 < cutK f cut ∧ cutK f cut % 2 = 0
    · have e1 : st.lose x cut = { st with files := setF st.files x (some ⟨(f.bytes.take (cutQ f cut)).set (cutQ f cut - 1) (255 - (f.bytes[cutQ f cut - 1]?).getD 0), cutQ f cut⟩) } := by
        simp only [DSt.lose, hF, cutF, hq, if_false, cutB, if_pos ht]
      rw [e1]
      exact lose_torn D x hx cut f hF hL hn (by omega) ht
    · have e1 : st.lose x cut = { st with files := setF st.files x (some ⟨f.bytes.take (cutQ f cut), cutQ f cut⟩) } := by
        simp only [DSt.lose, hF, cutF, hq, if_false, cutB, if_neg ht]
      rw [e1]
      exact lose_whole D x hx cut f hF hL hn (by omega) ht
end

end Go.Proofs.Ythpamcfemhimcaa
