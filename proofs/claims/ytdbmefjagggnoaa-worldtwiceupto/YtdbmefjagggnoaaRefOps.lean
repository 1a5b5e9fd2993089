/-
  The document's disk: Sync, Delete.
-/
import Derived.Test.YtdbmefjagggnoaaRefBeg
import Derived.Deep.RegionHeld3
namespace Go.Proofs.Ytdbmefjagggnoaa
open Go.RowKit Go.Maps Go.ChangeMaps Go.MapKept

/-- append(v, x...) onto a row that is owned, as a step of a region that draws. -/
theorem step_append_src {P : Program} {ops : Array Oper} {o : Oper} {a : Act} (w : World) {K : Act → World → Prop} {Q : Exit → Act → World → Prop} {E : Prop}
    (hg : o.guard = none) (s x : Operand) (t : TypeId) (hop : o.op = Op.call { callee := Callee.builtin Builtin.append, args := #[s, x], argTypes := #[t, t] })
    (base : Nat) (e : TypeId) (i : TypeInfo) (z : Value) (size bytes : Nat) (ht : P.underlying t = some (.slice e)) (hi : P.info? e = some i) (hz : i.zero = some z)
    (hsize : i.size = size) (hby : i.bytes = bytes) (hzs : z.cells.size = size) (hsz : 0 < size)
    (v : Value) (n : Nat) (xs : List Value) (hs : a.eval s = v) (hown : w.ownsRow base e size v n xs) (xv : Value) (hx : a.eval x = xv) (m : Nat) (news : List Value) (hsrc : Src w size xv m news) (h1 : ∀ u ∈ news, u.oneCell' = true)
    (h63 : n + m ≤ maxLen) (hbytes : (n + m) * bytes ≤ 140737488355328) (hbase : base ≤ w.heap.size)
    (hK : ∀ a' cap w', w'.ownsRow base e size (.slice a' (n + m) cap) (n + m) (xs ++ news) → w.grownBy w' v.ownBlock → (Value.slice a' (n + m) cap = .slice none 0 0 ↔ v = .slice none 0 0 ∧ m = 0) → ((Value.slice a' (n + m) cap).ownBlock = v.ownBlock ∨ (Value.slice a' (n + m) cap).ownBlock = some w.heap.size) → K (a.put o.dst (.slice a' (n + m) cap)) w') :
    if Region.wanted o (yielded ops a.tmps) = true then Oper.wp P o a w K Q else E := by
  have hw : Region.wanted o (yielded ops a.tmps) = true := by simp [Region.wanted, hg]
  rw [if_pos hw]
  obtain ⟨v', w', hrun, h2, h3, h4, h5⟩ := run_append_src (P := P) w base t o.type e i z size bytes ht hi hz hsize hby hzs hsz v n xs hown xv m news hsrc h1 h63 hbytes hbase
  obtain ⟨a', cap, rfl⟩ := ownsRow_shape h2
  unfold Oper.wp
  simp [execOp, hop, resolve, invoke, builtin, hs, hx, hrun, Result.andThen]
  exact hK a' cap w' h2 h3 h4 h5

theorem rowCells_append (l m : List RM) : rowCells (l ++ m) = rowCells l ++ rowCells m := by simp [rowCells]

theorem rowCells_one (l : List RM) (hl : ∀ p ∈ l, ∃ a n c, p.2 = .slice a n c) : ∀ u ∈ rowCells l, u.oneCell' = true := by
  intro u hu
  simp only [rowCells, List.mem_flatMap] at hu
  obtain ⟨p, hp, hu⟩ := hu
  obtain ⟨a, n, c, e⟩ := hl p hp
  simp only [List.mem_cons, List.not_mem_nil, or_false] at hu
  rcases hu with rfl | rfl | rfl
  · rfl
  · rw [e]; rfl
  · rfl

theorem rowCells_take (l : List RM) (k : Nat) : (rowCells l).take (k * 3) = rowCells (l.take k) := by
  induction l generalizing k with
  | nil => simp [rowCells]
  | cons p r ih =>
    cases k with
    | zero => simp [rowCells]
    | succ k =>
      rw [show (k + 1) * 3 = k * 3 + 3 by omega]
      show List.take (k * 3 + 3) (_ :: _ :: _ :: rowCells r) = _ :: _ :: _ :: rowCells (r.take k)
      simp [ih]

theorem rowCells_drop (l : List RM) (k : Nat) : (rowCells l).drop (k * 3) = rowCells (l.drop k) := by
  induction l generalizing k with
  | nil => simp [rowCells]
  | cons p r ih =>
    cases k with
    | zero => simp
    | succ k =>
      rw [show (k + 1) * 3 = k * 3 + 3 by omega]
      show List.drop (k * 3 + 3) (_ :: _ :: _ :: rowCells r) = rowCells (r.drop k)
      simp [ih]

theorem rowCells_setKept (l : List RM) (k : Nat) (hk : k < l.length) (n : Nat) : (rowCells l).set (k * 3 + 2) (.int .i64 n) = rowCells (l.set k (⟨l[k].1.n, l[k].1.bytes, n⟩, l[k].2)) := by
  induction l generalizing k with
  | nil => simp at hk
  | cons p r ih =>
    cases k with
    | zero => rfl
    | succ k =>
      rw [show (k + 1) * 3 + 2 = (k * 3 + 2) + 3 by omega]
      show List.set (_ :: _ :: _ :: rowCells r) (k * 3 + 2 + 3) _ = _ :: _ :: _ :: rowCells (r.set k _)
      simp only [List.set_cons_succ]
      rw [ih k (by simpa using hk)]
      rfl

theorem rowCells_setBytes (l : List RM) (k : Nat) (hk : k < l.length) (v : Value) (b : List Int) : (rowCells l).set (k * 3 + 1) v = rowCells (l.set k (⟨l[k].1.n, b, l[k].1.kept⟩, v)) := by
  induction l generalizing k with
  | nil => simp at hk
  | cons p r ih =>
    cases k with
    | zero => rfl
    | succ k =>
      rw [show (k + 1) * 3 + 1 = (k * 3 + 1) + 3 by omega]
      show List.set (_ :: _ :: _ :: rowCells r) (k * 3 + 1 + 3) _ = _ :: _ :: _ :: rowCells (r.set k _)
      simp only [List.set_cons_succ]
      rw [ih k (by simpa using hk)]
      rfl

section
variable {w w' : World} {S : Nat → Prop} {r : Nat} {rs : RSt} {vL vF : Value} {M : List RM}

/-- The bytes of the old files stand behind a change of the list. -/
theorem RefIn.old (R : RefIn w S r rs vL vF M) {w1 : World} (K : Kept (fun k => k = r ∨ vL.ownBlock = some k) w w1) {p : RM} (hp : p ∈ M) : RBytes w1 p.2 p.1 :=
  ⟨ownsRow_block (R.bytes p hp).row (fun k hk => K.block k (R.bnd k (R.sM p hp k hk)) (fun e => e.elim (fun e => R.neM hp hk e) (fun e => R.neLM hp hk e))), (R.bytes p hp).kept, (R.bytes p hp).pos, (R.bytes p hp).byte⟩

/-- Another list of files is laid. -/
theorem RefIn.toL (R : RefIn w S r rs vL vF M) {w1 : World} {vL' : Value} {M' : List RM} (K : Kept (fun k => k = r ∨ vL.ownBlock = some k) w w1)
    (head : w1.heap[r]? = some (.cells #[vL', vF, .int .i64 rs.stop, .int .i64 rs.count] 76 (0, 0)))
    (ho : w1.ownsRow 0 87 3 vL' M'.length (rowCells M')) (hbL : ∀ k, vL'.ownBlock = some k → S k ∨ w.heap.size ≤ k)
    (hby : ∀ p ∈ M', RBytes w1 p.2 p.1) (hM : ∀ p ∈ M', ∀ k, p.2.ownBlock = some k → S k ∨ w.heap.size ≤ k) :
    RefTo w S r { rs with L := M'.map Prod.fst } w1 := by
  refine ⟨fun k => S k ∨ (w.heap.size ≤ k ∧ k < w1.heap.size), vL', vF, M', ?_, K.mono (fun k h => h.elim (fun e => e ▸ R.sr) (R.sL k)), fun k hk => hk.imp id And.left⟩
  exact {
    ghost := rfl
    head := head
    rowL := ho
    rowF := ownsRow_block R.rowF (fun k hk => K.block k (R.bnd k (R.sF k hk)) (fun e => e.elim (fun e => R.neF hk e) (fun e => R.neLF hk e)))
    bytes := hby
    sr := .inl R.sr
    sL := fun k hk => (hbL k hk).imp id (fun h => ⟨h, (ho.lt k hk).2⟩)
    sF := fun k hk => .inl (R.sF k hk)
    sM := fun p hp k hk => (hM p hp k hk).imp id (fun h => ⟨h, ((hby p hp).row.lt k hk).2⟩)
    bnd := fun k hk => hk.elim (fun h => Nat.lt_of_lt_of_le (R.bnd k h) K.size) And.right }

theorem RefTo.after {w1 w2 : World} {rs' : RSt} (K : Kept S w w1) (hs : RefTo w1 S r rs' w2) : RefTo w S r rs' w2 := by
  obtain ⟨S', a, b, c, R', K', h⟩ := hs
  exact ⟨S', a, b, c, R', K.and K', fun k hk => (h k hk).imp id (fun h => Nat.le_trans K.size h)⟩

theorem RefTo.trans {S1 : Nat → Prop} {w1 w2 : World} {rs' : RSt} (K : Kept S w w1) (hS : ∀ k, S1 k → S k ∨ w.heap.size ≤ k) (hs : RefTo w1 S1 r rs' w2) : RefTo w S r rs' w2 := by
  obtain ⟨S', a, b, c, R', K', h⟩ := hs
  exact ⟨S', a, b, c, R', K.trans K' hS, fun k hk => (h k hk).elim (fun h => hS k h) (fun h => .inr (Nat.le_trans K.size h))⟩

theorem RefIn.to (R : RefIn w S r rs vL vF M) {w1 : World} (K : Kept (fun _ => False) w w1) : RefTo w S r rs w1 := ⟨S, vL, vF, M, R.kept K (fun _ _ h => h), K.mono (fun _ h => h.elim), fun _ => .inl⟩

theorem setCells_set : ∀ (l : List RF) (x : Int) (f : RF), hitL l x = true → setL l x f = l.set (posL l x) f := by
  intro l x f hh
  have hp := posL_lt l x hh
  rw [setL_eq, hh]
  simp only [if_true]
  rw [List.set_eq_take_append_cons_drop, if_pos hp]

theorem rs_err_cases (rs : RSt) (x : Int) : rs.err x = 0 ∨ rs.err x = 1 ∨ rs.err x = 3 ∨ rs.err x = 4 := by
  unfold RSt.err
  (repeat' split) <;> simp

/-- The number of a file that stands is the one that was asked for. -/
theorem hit_n (R : RefIn w S r rs vL vF M) {x : Int} (hh : hitL rs.L x = true) (hp : posL rs.L x < M.length) : M[posL rs.L x].1.n = x := by
  have := hitL_at rs.L x M[posL rs.L x].1 (getElem_map_fst R _ hp)
  rw [hh] at this
  simpa using this.symm

/-- What a file's line is behind Sync. -/
theorem RefIn.syncTo (R : RefIn w S r rs vL vF M) {x : Int} (hh : hitL rs.L x = true) (hp : posL rs.L x < M.length) {g cap : Nat} (hv : vL = .slice (some ⟨g, 0, none⟩) M.length cap) :
    RefTo w S r { rs with L := setL rs.L x ⟨x, M[posL rs.L x].1.bytes, M[posL rs.L x].1.bytes.length⟩ } (w.setCell ⟨g, posL rs.L x * 3 + 2, none⟩ (.int .i64 M[posL rs.L x].1.bytes.length)) := by
  subst hv
  have hg : g ≠ r := R.neL rfl
  have K : Kept (fun k => k = r ∨ (Value.slice (some ⟨g, 0, none⟩) M.length cap).ownBlock = some k) w (w.setCell ⟨g, posL rs.L x * 3 + 2, none⟩ (.int .i64 M[posL rs.L x].1.bytes.length)) := Kept.setCell _ _ _ (.inr rfl)
  have hn := hit_n R hh hp
  have eL : setL rs.L x ⟨x, M[posL rs.L x].1.bytes, M[posL rs.L x].1.bytes.length⟩ = (M.set (posL rs.L x) (⟨x, M[posL rs.L x].1.bytes, M[posL rs.L x].1.bytes.length⟩, M[posL rs.L x].2)).map Prod.fst := by
    rw [setCells_set rs.L x _ hh, List.map_set, ← R.ghost]
  rw [eL]
  refine R.toL K (by rw [setCell_block _ _ _ _ (Ne.symm hg)]; exact R.head) (vL' := .slice (some ⟨g, 0, none⟩) M.length cap) ?_ (fun k hk => .inl (R.sL k hk)) ?_ ?_
  · have h1 := (R.rowL.stored (posL rs.L x * 3 + 2) (.int .i64 M[posL rs.L x].1.bytes.length)).1
    have h2 := rowCells_setKept M (posL rs.L x) hp M[posL rs.L x].1.bytes.length
    rw [hn] at h2
    rw [h2] at h1
    rw [List.length_set]
    exact h1
  · intro p hp'
    rcases List.mem_or_eq_of_mem_set hp' with h | h
    · exact R.old K h
    · have h0 := R.old K (List.getElem_mem hp)
      subst h
      exact ⟨h0.row, Nat.le_refl _, h0.pos, h0.byte⟩
  · intro p hp' k hk
    rcases List.mem_or_eq_of_mem_set hp' with h | h
    · exact .inl (R.sM p h k hk)
    · subst h
      exact .inl (R.sM _ (List.getElem_mem hp) k hk)

set_option maxRecDepth 100000 in
set_option maxHeartbeats 2000000 in
theorem refSync_any (R : RefIn w S r rs vL vF M) (B : RBd rs) (hr : Rising rs.L) (x : Int) (hM : M.length ≤ 1099511627776) (hl : rs.faults.length ≤ 1099511627776) (hc : rs.count < 4611686018427387904) (hb : ∀ f ∈ rs.L, f.bytes.length ≤ 1099511627776) :
    Calls Try.prog 40 #[.pointer (some ⟨r, 0, none⟩), .int .i64 x] w fun e w' =>
      e = .returned (.int .i64 (rs.err x)) ∧ RefTo w S r (rs.sync x) w' := by
  have hbeg := refBegin_any R B x hl hc
  have ML : M.length = rs.L.length := by rw [R.ghost]; simp
  have hat : ∀ w1 S1 vL1 vF1 M1, RefIn w1 S1 r rs.after vL1 vF1 M1 → Calls Try.prog 49 #[.pointer (some ⟨r, 0, none⟩), .int .i64 x] w1 fun e w' => e = .returned (.tuple #[.int .i64 (posL rs.L x), .bool (hitL rs.L x)]) ∧ ∃ n, w' = w1.drewN n := fun w1 S1 vL1 vF1 M1 R1 => by
    have h1 : M1.length = rs.L.length := by have := R1.ghost; rw [show rs.after.L = rs.L from rfl] at this; rw [this]; simp
    exact at_any R1 x (by omega)
  by_cases he : rs.err x = 0
  · cases hh : hitL rs.L x with
    | false =>
      have e1 : rs.sync x = rs.after := by unfold RSt.sync; rw [if_pos he, RefIn.miss hr hh]
      rw [e1, he]
      rw [he] at hbeg
      rw [hh] at hat
      clear e1 he hh R B hr hb ML
      go_enter Try.func40, Try.ntmps40
      go_wp2_with (first
        | (go_at_call 68; refine hbeg.mono ?_; rintro e w1 ⟨rfl, S1, vL1, vF1, M1, R1, K1, hS1⟩; have hat1 := hat w1 _ _ _ _ R1; clear hbeg hat)
        | (go_at_call 49; refine hat1.mono ?_; rintro e w2 ⟨rfl, n2, rfl⟩; clear hat1)
        | fail)
      go_ret
      exact ⟨rfl, RefTo.trans K1 hS1 (R1.to (Kept.drewN _ _ _))⟩
    | true =>
      have hLx := posL_lt rs.L x hh
      obtain ⟨f, hf⟩ : ∃ f, getL rs.L x = some f := by rw [getL_pos rs.L x hr, hh]; simp only [if_true]; exact ⟨_, List.getElem?_eq_getElem hLx⟩
      have hff : rs.L[posL rs.L x]? = some f := by rw [getL_pos rs.L x hr, hh] at hf; simpa using hf
      have hfm : f ∈ rs.L := List.mem_of_getElem? hff
      have e1 : rs.sync x = { rs.after with L := setL rs.L x ⟨x, f.bytes, f.bytes.length⟩ } := by unfold RSt.sync; rw [if_pos he, hf]
      rw [e1, he]
      rw [he] at hbeg
      have hbf := hb f hfm
      have facts : ∀ w1 S1 vL1 vF1 M1, RefIn w1 S1 r rs.after vL1 vF1 M1 → ∃ (g cap : Nat) (vb : Nat × Nat), (r ≠ g ∧ g ≠ r) ∧ ((posL rs.L x : Int) < (M1.length : Int)) ∧ (∀ n, (w1.drewN n).cell? ⟨r, 0, none⟩ = some (.slice (some ⟨g, 0, none⟩) M1.length cap)) ∧ (∀ n, (w1.drewN n).cell? ⟨g, posL rs.L x * 3 + 1, none⟩ = some (.slice (some ⟨vb.1, 0, none⟩) f.bytes.length vb.2)) ∧ (∀ n, (w1.drewN n).cell? ⟨g, posL rs.L x * 3 + 2, none⟩ = some (.int .i64 f.kept)) ∧ (∀ n, (w1.drewN n).frozen? ⟨g, posL rs.L x * 3 + 2, none⟩ = false) ∧
          (∀ n, RefTo w1 S1 r { rs.after with L := setL rs.L x ⟨x, f.bytes, f.bytes.length⟩ } ((w1.drewN n).setCell ⟨g, posL rs.L x * 3 + 2, none⟩ (.int .i64 f.bytes.length))) := by
        intro w1 S1 vL1 vF1 M1 R1
        have h1 : M1.length = rs.L.length := by have := R1.ghost; rw [show rs.after.L = rs.L from rfl] at this; rw [this]; simp
        have hp : posL rs.L x < M1.length := by omega
        have hfe : M1[posL rs.L x].1 = f := by
          have := getElem_map_fst R1 (posL rs.L x) hp
          rw [show rs.after.L = rs.L from rfl, hff] at this
          exact (Option.some.inj this).symm
        obtain ⟨g, cap, e, hcap, hcell⟩ := R1.file hp
        obtain ⟨_, q1, q2⟩ := hcell _ hp
        have RB := R1.bytes M1[posL rs.L x] (List.getElem_mem hp)
        obtain ⟨gb, cb, ev, _, hgb⟩ := RB.row.form RB.pos
        rw [ev, hfe] at q1
        rw [hfe] at q2
        have hto : ∀ n, RefTo w1 S1 r { rs.after with L := setL rs.L x ⟨x, M1[posL rs.L x].1.bytes, M1[posL rs.L x].1.bytes.length⟩ } ((w1.drewN n).setCell ⟨g, posL rs.L x * 3 + 2, none⟩ (.int .i64 M1[posL rs.L x].1.bytes.length)) := fun n => RefTo.after (S := S1) (Kept.drewN _ w1 n) ((R1.drewN n).syncTo (x := x) hh hp e)
        rw [hfe] at hto
        exact ⟨g, cap, (gb, cb), ⟨fun h => R1.neL (by rw [e]; rfl) h.symm, fun h => R1.neL (by rw [e]; rfl) h⟩, by omega, fun n => by have := R1.c0; rw [e] at this; exact this, fun n => q1, fun n => q2, fun n => by subst e; exact World.ownsRow.frozenAt R1.rowL _, hto⟩
      rw [hh] at hat
      generalize f.bytes.length = fl at *
      generalize f.kept = fk at *
      generalize ({ rs.after with L := setL rs.L x ⟨x, f.bytes, fl⟩ } : RSt) = RS at *
      clear e1 he hh R B hr hb ML hff hfm hf hLx
      generalize posL rs.L x = ps at *
      go_enter Try.func40, Try.ntmps40
      go_wp2_with (first
        | (go_at_call 68; refine hbeg.mono ?_; rintro e w1 ⟨rfl, S1, vL1, vF1, M1, R1, K1, hS1⟩; have hat1 := hat w1 _ _ _ _ R1; obtain ⟨g, cap, ⟨gb, cb⟩, ⟨n1, n2⟩, x1, x2, x3, x4, x5, x6⟩ := facts _ _ _ _ _ R1; clear hbeg hat facts R1)
        | (go_at_call 49; refine hat1.mono ?_; rintro e w2 ⟨rfl, n3, rfl⟩; clear hat1)
        | fail)
      have y2 := x2 n3
      have y3 := x3 n3
      have y4 := x4 n3
      have y5 := x5 n3
      have y6 : RefTo w1 S1 r RS ((w1.drewN n3).drew.setCell ⟨g, ps * 3 + 2, none⟩ (.int .i64 fl)) := x6 (n3 + 1)
      have z0 : (0 : Int) ≤ (ps : Int) := Int.natCast_nonneg _
      clear x2 x3 x4 x5 x6
      generalize w1.drewN n3 = W at *
      have y7 : (W.setCell ⟨g, ps * 3 + 2, none⟩ (.int .i64 fl)).cell? ⟨g, ps * 3 + 1, none⟩ = some (.slice (some ⟨gb, 0, none⟩) fl cb) := (World.cell?_setCell_other W ⟨g, ps * 3 + 2, none⟩ ⟨g, ps * 3 + 1, none⟩ _ (by simp)).trans y3
      go_region_held3 (fun w' => w'.cell? ⟨r, 0, none⟩ = some (.slice (some ⟨g, 0, none⟩) M1.length cap) ∧ w'.cell? ⟨g, ps * 3 + 1, none⟩ = some (.slice (some ⟨gb, 0, none⟩) fl cb)) (first | go_keep | (refine ⟨?_, ?_⟩ <;> first | exact y7 | go_keep)) (fail)
      go_wp2
      go_ret
      exact ⟨rfl, RefTo.trans K1 hS1 y6⟩
  · have e1 : rs.sync x = rs.after := by unfold RSt.sync; rw [if_neg he]
    rw [e1]
    have he2 : (rs.err x == 0) = false := by simpa using he
    generalize rs.err x = er at *
    clear e1 R B hr hb ML
    generalize posL rs.L x = ps at *
    generalize hitL rs.L x = ht at *
    go_enter Try.func40, Try.ntmps40
    go_wp2_with (first
      | (go_at_call 68; refine hbeg.mono ?_; rintro e w1 ⟨rfl, S1, vL1, vF1, M1, R1, K1, hS1⟩; have hat1 := hat w1 _ _ _ _ R1; clear hbeg hat)
      | (go_at_call 49; refine hat1.mono ?_; rintro e w2 ⟨rfl, n2, rfl⟩; clear hat1)
      | fail)
    go_ret
    exact ⟨rfl, RefTo.trans K1 hS1 (R1.to (Kept.drewN _ _ _))⟩
end

end Go.Proofs.Ytdbmefjagggnoaa
