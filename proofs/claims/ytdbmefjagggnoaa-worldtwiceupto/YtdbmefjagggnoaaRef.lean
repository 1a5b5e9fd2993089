/-
  The document's disk in memory: what it is; NewDisk, at, Stop.
-/
import Derived.Test.YtdbmefjagggnoaaSim
namespace Go.Proofs.Ytdbmefjagggnoaa
open Go.RowKit Go.Maps Go.ChangeMaps Go.MapKept

/-- A row of the files' list, with the value that its bytes are. -/
abbrev RM := RF × Value

def rowCells (M : List RM) : List Value := M.flatMap (fun p => [.int .i64 p.1.n, p.2, .int .i64 p.1.kept])
def faultCells (l : List (Int × Int)) : List Value := l.flatMap (fun p => [.int .i64 p.1, .int .i64 p.2])

theorem rowCells_length : ∀ M : List RM, (rowCells M).length = M.length * 3
  | [] => rfl
  | p :: r => by
    have := rowCells_length r
    simp only [rowCells, List.flatMap_cons, List.length_append, List.length_cons, List.length_nil] at this ⊢
    omega

theorem rowCells_get : ∀ (M : List RM) (i : Nat) (p : RM), M[i]? = some p → (rowCells M)[i * 3]? = some (.int .i64 p.1.n) ∧ (rowCells M)[i * 3 + 1]? = some p.2 ∧ (rowCells M)[i * 3 + 2]? = some (.int .i64 p.1.kept)
  | [], _, _, h => by simp at h
  | q :: r, 0, p, h => by
    simp at h
    subst h
    exact ⟨rfl, rfl, rfl⟩
  | q :: r, i + 1, p, h => by
    have ih := rowCells_get r i p (by simpa using h)
    have e : rowCells (q :: r) = [.int .i64 q.1.n, q.2, .int .i64 q.1.kept] ++ rowCells r := rfl
    have e1 : ∀ k, (rowCells (q :: r))[i * 3 + k + 3]? = (rowCells r)[i * 3 + k]? := fun k => by
      rw [e, List.getElem?_append_right (by simp)]; simp
    refine ⟨?_, ?_, ?_⟩
    · have h0 := e1 0
      rw [Nat.add_zero] at h0
      rw [show (i + 1) * 3 = i * 3 + 3 by omega, h0]; exact ih.1
    · rw [show (i + 1) * 3 + 1 = i * 3 + 1 + 3 by omega, e1]; exact ih.2.1
    · rw [show (i + 1) * 3 + 2 = i * 3 + 2 + 3 by omega, e1]; exact ih.2.2

theorem faultCells_get : ∀ (l : List (Int × Int)) (i : Nat) (p : Int × Int), l[i]? = some p → (faultCells l)[i * 2]? = some (.int .i64 p.1) ∧ (faultCells l)[i * 2 + 1]? = some (.int .i64 p.2)
  | [], _, _, h => by simp at h
  | q :: r, 0, p, h => by
    simp at h
    subst h
    exact ⟨rfl, rfl⟩
  | q :: r, i + 1, p, h => by
    have ih := faultCells_get r i p (by simpa using h)
    have e : faultCells (q :: r) = [.int .i64 q.1, .int .i64 q.2] ++ faultCells r := rfl
    have e1 : ∀ k, (faultCells (q :: r))[i * 2 + k + 2]? = (faultCells r)[i * 2 + k]? := fun k => by
      rw [e, List.getElem?_append_right (by simp)]; simp
    refine ⟨?_, ?_⟩
    · have h0 := e1 0
      rw [Nat.add_zero] at h0
      rw [show (i + 1) * 2 = i * 2 + 2 by omega, h0]; exact ih.1
    · rw [show (i + 1) * 2 + 1 = i * 2 + 1 + 2 by omega, e1]; exact ih.2

/-- The bytes of a file of the document's disk, as they lie. -/
structure RBytes (w : World) (v : Value) (f : RF) : Prop where
  row : w.ownsRow 0 5 1 v f.bytes.length (f.bytes.map (Value.int .u8))
  kept : f.kept ≤ f.bytes.length
  pos : 0 < f.bytes.length
  byte : ∀ b ∈ f.bytes, 0 ≤ b ∧ b ≤ 255

/-- Block r is the document's disk, which is rs. -/
structure RefIn (w : World) (S : Nat → Prop) (r : Nat) (rs : RSt) (vL vF : Value) (M : List RM) : Prop where
  ghost : rs.L = M.map Prod.fst
  head : w.heap[r]? = some (.cells #[vL, vF, .int .i64 rs.stop, .int .i64 rs.count] 76 (0, 0))
  rowL : w.ownsRow 0 87 3 vL M.length (rowCells M)
  rowF : w.ownsRow 0 107 2 vF rs.faults.length (faultCells rs.faults)
  bytes : ∀ p ∈ M, RBytes w p.2 p.1
  sr : S r
  sL : ∀ k, vL.ownBlock = some k → S k
  sF : ∀ k, vF.ownBlock = some k → S k
  sM : ∀ p ∈ M, ∀ k, p.2.ownBlock = some k → S k
  bnd : ∀ k, S k → k < w.heap.size

theorem ownsRow_block {w w' : World} {base n size : Nat} {e : TypeId} {v : Value} {xs : List Value} (h : w.ownsRow base e size v n xs) (hb : ∀ k, v.ownBlock = some k → w'.heap[k]? = w.heap[k]?) : w'.ownsRow base e size v n xs := by
  refine ⟨h.1, ?_⟩
  rcases h.2 with h0 | ⟨g, cap, cur, rfl, hb2, hh, r⟩
  · exact .inl h0
  · exact .inr ⟨g, cap, cur, rfl, hb2, (hb g rfl).trans hh, r⟩

theorem ownsRow_type {w : World} {base n size : Nat} {e : TypeId} {v : Value} {xs : List Value} (h : w.ownsRow base e size v n xs) {k : Nat} (hk : v.ownBlock = some k) : ∃ cur, w.heap[k]? = some (.cells cur e (0, 0)) := by
  rcases h.2 with ⟨rfl, _⟩ | ⟨g, cap, cur, rfl, hb2, hh, r⟩
  · cases hk
  · cases hk; exact ⟨cur, hh⟩

section
variable {w w' : World} {S : Nat → Prop} {r : Nat} {rs : RSt} {vL vF : Value} {M : List RM}

theorem RefIn.c0 (R : RefIn w S r rs vL vF M) : w.cell? ⟨r, 0, none⟩ = some vL := by simp [World.cell?, R.head]
theorem RefIn.c1 (R : RefIn w S r rs vL vF M) : w.cell? ⟨r, 1, none⟩ = some vF := by simp [World.cell?, R.head]
theorem RefIn.c2 (R : RefIn w S r rs vL vF M) : w.cell? ⟨r, 2, none⟩ = some (.int .i64 rs.stop) := by simp [World.cell?, R.head]
theorem RefIn.c3 (R : RefIn w S r rs vL vF M) : w.cell? ⟨r, 3, none⟩ = some (.int .i64 rs.count) := by simp [World.cell?, R.head]
theorem RefIn.fz (R : RefIn w S r rs vL vF M) (o : Nat) : w.frozen? ⟨r, o, none⟩ = false := by simp [World.frozen?, R.head]

theorem RefIn.kept {S' : Nat → Prop} (R : RefIn w S r rs vL vF M) (K : Kept S' w w') (hd : ∀ k, S k → ¬ S' k) : RefIn w' S r rs vL vF M := {
  ghost := R.ghost
  head := (K.block r (R.bnd r R.sr) (hd r R.sr)).trans R.head
  rowL := ownsRow_block R.rowL (fun k hk => K.block k (R.bnd k (R.sL k hk)) (hd k (R.sL k hk)))
  rowF := ownsRow_block R.rowF (fun k hk => K.block k (R.bnd k (R.sF k hk)) (hd k (R.sF k hk)))
  bytes := fun p hp => ⟨ownsRow_block (R.bytes p hp).row (fun k hk => K.block k (R.bnd k (R.sM p hp k hk)) (hd k (R.sM p hp k hk))), (R.bytes p hp).kept, (R.bytes p hp).pos, (R.bytes p hp).byte⟩
  sr := R.sr
  sL := R.sL
  sF := R.sF
  sM := R.sM
  bnd := fun k hk => Nat.lt_of_lt_of_le (R.bnd k hk) K.size }

theorem RefIn.neL (R : RefIn w S r rs vL vF M) {k : Nat} (h : vL.ownBlock = some k) : k ≠ r := by
  intro e; obtain ⟨cur, hh⟩ := ownsRow_type R.rowL h; rw [e, R.head] at hh; simp at hh
theorem RefIn.neF (R : RefIn w S r rs vL vF M) {k : Nat} (h : vF.ownBlock = some k) : k ≠ r := by
  intro e; obtain ⟨cur, hh⟩ := ownsRow_type R.rowF h; rw [e, R.head] at hh; simp at hh
theorem RefIn.neM (R : RefIn w S r rs vL vF M) {p : RM} (hp : p ∈ M) {k : Nat} (h : p.2.ownBlock = some k) : k ≠ r := by
  intro e; obtain ⟨cur, hh⟩ := ownsRow_type (R.bytes p hp).row h; rw [e, R.head] at hh; simp at hh
theorem RefIn.neLM (R : RefIn w S r rs vL vF M) {p : RM} (hp : p ∈ M) {k : Nat} (h : p.2.ownBlock = some k) : vL.ownBlock ≠ some k := by
  intro e; obtain ⟨cur, hh⟩ := ownsRow_type (R.bytes p hp).row h; obtain ⟨cur2, hh2⟩ := ownsRow_type R.rowL e; rw [hh] at hh2; simp at hh2
theorem RefIn.neLF (R : RefIn w S r rs vL vF M) {k : Nat} (h : vF.ownBlock = some k) : vL.ownBlock ≠ some k := by
  intro e; obtain ⟨cur, hh⟩ := ownsRow_type R.rowF h; obtain ⟨cur2, hh2⟩ := ownsRow_type R.rowL e; rw [hh] at hh2; simp at hh2

/-- The cells of the i-th file. -/
theorem RefIn.file (R : RefIn w S r rs vL vF M) {i : Nat} (hi : i < M.length) : ∃ g cap, vL = .slice (some ⟨g, 0, none⟩) M.length cap ∧ M.length ≤ cap ∧ ∀ j (hj : j < M.length), w.cell? ⟨g, j * 3, none⟩ = some (.int .i64 M[j].1.n) ∧ w.cell? ⟨g, j * 3 + 1, none⟩ = some M[j].2 ∧ w.cell? ⟨g, j * 3 + 2, none⟩ = some (.int .i64 M[j].1.kept) := by
  rcases R.rowL.2 with ⟨_, h0⟩ | ⟨g, cap, cur, rfl, _, hh, h1, _⟩
  · omega
  · refine ⟨g, cap, rfl, h1, fun j hj => ?_⟩
    obtain ⟨a, b, c⟩ := rowCells_get M j M[j] (List.getElem?_eq_getElem hj)
    have f := fun q u hq => R.rowL.cells (g := g) rfl q u hq
    have ad : ∀ q, (⟨g, 0, none⟩ : Addr).add q = ⟨g, q, none⟩ := fun q => by rw [Addr.add_lit]; simp
    exact ⟨by have := f _ _ a; rw [ad] at this; exact this, by have := f _ _ b; rw [ad] at this; exact this, by have := f _ _ c; rw [ad] at this; exact this⟩

theorem getElem_map_fst (R : RefIn w S r rs vL vF M) (j : Nat) (hj : j < M.length) : rs.L[j]? = some M[j].1 := by
  rw [R.ghost, List.getElem?_map, List.getElem?_eq_getElem hj]; rfl
end

theorem posL_unfold : ∀ (l : List RF) (x : Int) (k : Nat), k ≤ posL l x → ∀ f, l[k]? = some f → (f.n < x ↔ k < posL l x)
  | [], _, _, _, _, h => by simp at h
  | g :: r, x, 0, _, f, h => by
    simp at h
    subst h
    unfold posL
    split <;> simp <;> omega
  | g :: r, x, k + 1, hk, f, h => by
    unfold posL at hk ⊢
    split at hk
    · rename_i hc
      rw [if_pos hc]
      have := posL_unfold r x k (by omega) f (by simpa using h)
      omega
    · omega

theorem hitL_at : ∀ (l : List RF) (x : Int) (f : RF), l[posL l x]? = some f → hitL l x = decide (f.n = x)
  | [], _, _, h => by simp at h
  | g :: r, x, f, h => by
    unfold posL at h
    unfold hitL
    split at h
    · rename_i hc
      rw [if_pos hc]
      exact hitL_at r x f (by simpa using h)
    · rename_i hc
      rw [if_neg hc]
      simp at h
      rw [h]

theorem hitL_end (l : List RF) (x : Int) (h : l.length ≤ posL l x) : hitL l x = false := by
  cases hh : hitL l x with
  | false => rfl
  | true => have := posL_lt l x hh; omega

section
variable {w w' : World} {S : Nat → Prop} {r : Nat} {rs : RSt} {vL vF : Value} {M : List RM}

set_option maxRecDepth 100000 in
set_option maxHeartbeats 400000 in
theorem refNew_any (w : World) :
    Calls Try.prog 8 #[] w fun e w' => e = .returned (.pointer (some ⟨w.heap.size, 0, none⟩)) ∧ RefIn w' (fun k => k = w.heap.size) w.heap.size RSt.new (.slice none 0 0) (.slice none 0 0) [] ∧ Kept (fun _ => False) w w' := by
  go_enter Try.func8, Try.ntmps8
  go_wp2
  go_ret
  refine ⟨rfl, ?_, Kept.alloc _ _ _⟩
  exact {
    ghost := rfl
    head := heap_alloc_new w _
    rowL := World.ownsRow_nil _ _ _ _
    rowF := World.ownsRow_nil _ _ _ _
    bytes := fun p hp => by cases hp
    sr := rfl
    sL := fun k h => by cases h
    sF := fun k h => by cases h
    sM := fun p hp => by cases hp
    bnd := fun k hk => by rw [hk]; simp }

set_option maxRecDepth 100000 in
set_option maxHeartbeats 1000000 in
theorem at_any (R : RefIn w S r rs vL vF M) (x : Int) (hM : M.length ≤ 1099511627776) :
    Calls Try.prog 49 #[.pointer (some ⟨r, 0, none⟩), .int .i64 x] w fun e w' => e = .returned (.tuple #[.int .i64 (posL rs.L x), .bool (hitL rs.L x)]) ∧ ∃ n, w' = w.drewN n := by
  have hc0 := R.c0
  have hLM : rs.L.length = M.length := by rw [R.ghost]; simp
  obtain ⟨aL, cL, eL⟩ := ownsRow_shape R.rowL
  have hpos := posL_le rs.L x
  rw [hLM] at hpos
  go_enter Try.func49, Try.ntmps49
  go_wp2
  go_loop [6] (fun i => ∃ (k : Nat), k ≤ posL rs.L x ∧ i = .int .i64 k) (fun i => M.length - (intOf i).toNat)
  case atStart => exact ⟨0, Nat.zero_le _, rfl⟩
  case round =>
    obtain ⟨k, hk, rfl⟩ := hrel
    by_cases hlt : k < M.length
    · obtain ⟨g, cap, e, hcap, hcell⟩ := R.file hlt
      obtain ⟨q0, _, _⟩ := hcell k hlt
      have hf := getElem_map_fst R k hlt
      have hiff := posL_unfold rs.L x k hk _ hf
      have hhit := hitL_at rs.L x
      subst e
      clear eL
      generalize hn : M[k].1.n = nk at *
      have e1 : (k : Int) < (M.length : Int) := by omega
      have hm2 : (M.length : Int) ≤ 1099511627776 := by omega
      by_cases hc : nk < x
      · have hk2 := hiff.1 hc
        clear hhit hcell hf hiff
        go_wp2
        go_round
        case rel => exact ⟨k + 1, by omega, by go_num⟩
        case measure => simp [intOf]; omega
      · have hk2 : ¬ k < posL rs.L x := fun h => hc (hiff.2 h)
        have hpk : posL rs.L x = k := by omega
        have hh2 : hitL rs.L x = decide (nk = x) := by rw [← hn]; exact hhit _ (by rw [hpk]; exact hf)
        have HH : Hid (hitL rs.L x = decide (nk = x) ∧ posL rs.L x = k) := ⟨hh2, hpk⟩
        clear hhit hcell hf hiff hpk hh2 hk hpos hn hLM
        go_wp2_with fail
        go_quiet (fail)
        go_wp2
        go_ret2
        refine ⟨?_, nq, rfl⟩
        rw [HH.out.1, HH.out.2]
        rfl
    · have HP : Hid (posL rs.L x = M.length ∧ hitL rs.L x = false) := ⟨by omega, hitL_end _ _ (by rw [hLM]; omega)⟩
      have hkM : k = M.length := by omega
      subst hkM
      subst eL
      clear hk hpos hLM
      go_wp2
      go_ret2
      refine ⟨?_, 0, rfl⟩
      rw [HP.out.1, HP.out.2]
      rfl
end

end Go.Proofs.Ytdbmefjagggnoaa
