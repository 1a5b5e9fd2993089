/-
  The document's disk: Crash.
-/
import Derived.Test.YtdbmefjagggnoaaRefApp
namespace Go.Proofs.Ytdbmefjagggnoaa
open Go.RowKit Go.Maps Go.ChangeMaps Go.MapKept

/-- What a crash leaves of one file. -/
def crash1 (f : RF) (c : Int) : List RF := match cutF ⟨f.bytes, f.kept⟩ c with | some d => [⟨f.n, d.bytes, d.kept⟩] | none => []

theorem crashL_snoc : ∀ (l : List RF) (f : RF) (cs : List Int), crashL (l ++ [f]) cs = crashL l cs ++ crash1 f ((cs[l.length]?).getD 0)
  | [], f, cs => by
    cases cs <;> simp [crashL, crash1] <;> rfl
  | g :: l, f, cs => by
    show _ ++ crashL (l ++ [f]) cs.tail = (_ ++ crashL l cs.tail) ++ _
    rw [crashL_snoc l f cs.tail, List.append_assoc]
    cases cs <;> simp

/-- The files that a crash has left so far. -/
structure CrashAt (w0 w : World) (v : Value) (Mi : List RM) (L : List RF) : Prop where
  row : w.ownsRow w0.heap.size 87 3 v Mi.length (rowCells Mi)
  eq : Mi.map Prod.fst = L
  bytes : ∀ p ∈ Mi, w.ownsRow w0.heap.size 5 1 p.2 p.1.bytes.length (p.1.bytes.map (Value.int .u8))
  good : ∀ p ∈ Mi, p.1.kept ≤ p.1.bytes.length ∧ 0 < p.1.bytes.length ∧ ∀ b ∈ p.1.bytes, 0 ≤ b ∧ b ≤ 255
  kept : Kept (fun _ => False) w0 w

theorem CrashAt.move {w0 w w' : World} {v : Value} {Mi : List RM} {L : List RF} (C : CrashAt w0 w v Mi L) (K : Kept (fun _ => False) w w') : CrashAt w0 w' v Mi L :=
  ⟨ownsRow_block C.row (fun k hk => K.block k (C.row.lt k hk).2 (fun h => h)), C.eq, fun p hp => ownsRow_block (C.bytes p hp) (fun k hk => K.block k ((C.bytes p hp).lt k hk).2 (fun h => h)), C.good, C.kept.and K⟩

/-- One more file is laid down. -/
theorem CrashAt.push {w0 w w' : World} {v v' vb : Value} {Mi : List RM} {L : List RF} (C : CrashAt w0 w v Mi L) {f : RF} {n : Nat} (hb : w.ownsRow w0.heap.size 5 1 vb f.bytes.length (f.bytes.map (Value.int .u8)))
    (hg : f.kept ≤ f.bytes.length ∧ 0 < f.bytes.length ∧ ∀ b ∈ f.bytes, 0 ≤ b ∧ b ≤ 255) (hgr : w.grownBy w' v.ownBlock) (hn : n = Mi.length + 1) (ho : w'.ownsRow w0.heap.size 87 3 v' n (rowCells Mi ++ [.int .i64 f.n, vb, .int .i64 f.kept])) :
    CrashAt w0 w' v' (Mi ++ [(f, vb)]) (L ++ [f]) := by
  have K : Kept (fun k => v.ownBlock = some k) w w' := Kept.grown hgr (fun k h => h)
  have hne : ∀ (u : Value) (m : Nat) (xs : List Value), w.ownsRow w0.heap.size 5 1 u m xs → ∀ k, u.ownBlock = some k → v.ownBlock ≠ some k := fun u m xs h k hk e => by
    obtain ⟨cur, hh⟩ := ownsRow_type h hk; obtain ⟨cur2, hh2⟩ := ownsRow_type C.row e; rw [hh] at hh2; simp at hh2
  refine ⟨?_, by rw [List.map_append, C.eq]; rfl, ?_, ?_, C.kept.trans K (fun k h => .inr (C.row.lt k h).1)⟩
  · have hl : (Mi ++ [(f, vb)]).length = n := by rw [List.length_append, hn]; rfl
    rw [hl, rowCells_append]
    exact ho
  · intro p hp
    rcases List.mem_append.1 hp with h | h
    · exact ownsRow_block (C.bytes p h) (fun k hk => K.block k ((C.bytes p h).lt k hk).2 (hne _ _ _ (C.bytes p h) k hk))
    · simp only [List.mem_singleton] at h
      subst h
      exact ownsRow_block hb (fun k hk => K.block k (hb.lt k hk).2 (hne _ _ _ hb k hk))
  · intro p hp
    rcases List.mem_append.1 hp with h | h
    · exact C.good p h
    · simp only [List.mem_singleton] at h
      subst h
      exact hg

theorem setHead3 {w : World} {r t : Nat} {a b c d u v s : Value} (h : w.heap[r]? = some (.cells #[a, b, c, d] t (0, 0))) :
    (((w.setCell ⟨r, 0, none⟩ u).setCell ⟨r, 1, none⟩ v).setCell ⟨r, 2, none⟩ s).heap[r]? = some (.cells #[u, v, s, d] t (0, 0)) := by
  simp [World.setCell, Array.getElem?_modify, h]

section
variable {w w' : World} {S : Nat → Prop} {r : Nat} {rs : RSt} {vL vF : Value} {M : List RM}

/-- The disk behind a crash. -/
theorem RefIn.crashTo (R : RefIn w S r rs vL vF M) {w1 : World} {v : Value} {Mi : List RM} {cs : List Int} (C : CrashAt w w1 v Mi (crashL rs.L cs)) :
    RefTo w S r (rs.crash cs) (((w1.setCell ⟨r, 0, none⟩ v).setCell ⟨r, 1, none⟩ (.slice none 0 0)).setCell ⟨r, 2, none⟩ (.int .i64 (-1))) := by
  have hrl := R.bnd r R.sr
  have hr1 : w1.heap[r]? = w.heap[r]? := C.kept.block r hrl (fun h => h)
  have hb : ∀ k, k ≠ r → (((w1.setCell ⟨r, 0, none⟩ v).setCell ⟨r, 1, none⟩ (.slice none 0 0)).setCell ⟨r, 2, none⟩ (.int .i64 (-1))).heap[k]? = w1.heap[k]? := fun k hk => by
    rw [setCell_block _ _ _ _ hk, setCell_block _ _ _ _ hk, setCell_block _ _ _ _ hk]
  have hsz : (((w1.setCell ⟨r, 0, none⟩ v).setCell ⟨r, 1, none⟩ (.slice none 0 0)).setCell ⟨r, 2, none⟩ (.int .i64 (-1))).heap.size = w1.heap.size := by simp [World.setCell]
  have hz := C.kept.size
  refine ⟨fun k => k = r ∨ (w.heap.size ≤ k ∧ k < w1.heap.size), v, .slice none 0 0, Mi, ?_, ?_, ?_⟩
  · exact {
      ghost := by rw [C.eq]; rfl
      head := setHead3 (by rw [hr1]; exact R.head)
      rowL := ownsRow_block (ownsRow_low C.row) (fun k hk => hb k (by have := (C.row.lt k hk).1; omega))
      rowF := World.ownsRow_nil _ _ _ _
      bytes := fun p hp => ⟨ownsRow_block (ownsRow_low (C.bytes p hp)) (fun k hk => hb k (by have := ((C.bytes p hp).lt k hk).1; omega)), (C.good p hp).1, (C.good p hp).2.1, (C.good p hp).2.2⟩
      sr := .inl rfl
      sL := fun k hk => .inr (C.row.lt k hk)
      sF := fun k hk => by cases hk
      sM := fun p hp k hk => .inr ((C.bytes p hp).lt k hk)
      bnd := fun k hk => by rw [hsz]; omega }
  · exact (((C.kept.mono (fun _ h => h.elim)).and (Kept.setCell _ _ _ R.sr)).and (Kept.setCell _ _ _ R.sr)).and (Kept.setCell _ _ _ R.sr)
  · rintro k (rfl | h)
    · exact .inl R.sr
    · exact .inr h.1

theorem cutQ_pos_tear (f : DFile) (c : Int) (h : 0 < cutK f c) : 0 < cutQ f c := by unfold cutQ; omega

/-- How the remainder of a cut is reckoned. -/
theorem cut_tmod (f : DFile) (c : Int) (h : f.kept ≤ f.bytes.length) :
    (0 ≤ c.tmod (2 * ((f.bytes.length : Int) - f.kept) + 1) → c.tmod (2 * ((f.bytes.length : Int) - f.kept) + 1) = cutK f c) ∧
    (c.tmod (2 * ((f.bytes.length : Int) - f.kept) + 1) < 0 → c.tmod (2 * ((f.bytes.length : Int) - f.kept) + 1) + 2 * ((f.bytes.length : Int) - f.kept) + 1 = cutK f c) := by
  obtain ⟨h1, _⟩ := cutK_int f c h
  constructor
  · intro h2
    rw [tmod_emod_pos (by omega) h2, h1]
  · intro h2
    have := tmod_emod_neg (n := c) (m := 2 * ((f.bytes.length : Int) - f.kept) + 1) (by omega) h2
    omega

set_option maxRecDepth 100000 in
set_option maxHeartbeats 8000000 in
theorem refCrash_any (R : RefIn w S r rs vL vF M) (hM : M.length ≤ 1099511627775) (hb : ∀ f ∈ rs.L, f.bytes.length ≤ 1099511627776) (vc : Value) (cs : List Int) (hc : IntsAt w (fun _ => False) vc cs) (hcl : cs.length ≤ 4611686018427387904) :
    Calls Try.prog 47 #[.pointer (some ⟨r, 0, none⟩), vc] w fun e w' => e = .returned (.tuple #[]) ∧ RefTo w S r (rs.crash cs) w' := by
  obtain ⟨i0, hi, hz0, hz1, hz2⟩ := info_parts Try.info5
  obtain ⟨j0, hj, hj0, hj1, hj2⟩ := info_parts Try.info87w
  obtain ⟨ac, cc, rfl, hcell⟩ := hc
  have ML : rs.L.length = M.length := by rw [R.ghost]; simp
  obtain ⟨aL, cL, eL⟩ := ownsRow_shape R.rowL
  subst eL
  go_enter Try.func47, Try.ntmps47
  go_wp2
  go_loopw [4, 5] (fun s4 s5 wr => ∃ (i : Nat) (Mi : List RM), i ≤ M.length ∧ s5 = .int .i64 i ∧ Mi.length ≤ i ∧ CrashAt w wr s4 Mi (crashL (rs.L.take i) cs)) (fun _ s5 _ => M.length - (intOf s5).toNat)
  case atStart => exact ⟨0, [], Nat.zero_le _, rfl, Nat.le_refl _, ⟨World.ownsRow_nil _ _ _ _, by simp [crashL], fun p hp => (by cases hp), fun p hp => (by cases hp), Kept.refl _ _⟩⟩
  case round =>
    obtain ⟨i, Mi, hk, rfl, hMi, C⟩ := hrel
    have R1 := R.kept C.kept (fun _ _ h => h)
    have hc0 := R1.c0
    obtain ⟨a4, c4, e4⟩ := ownsRow_shape C.row
    subst e4
    by_cases hlt : i < M.length
    · obtain ⟨g, cap, e, hcap, hcells⟩ := R1.file hlt
      simp only [Value.slice.injEq] at e
      obtain ⟨rfl, _, rfl⟩ := e
      obtain ⟨q0, q1, q2⟩ := hcells i hlt
      have RB := R1.bytes M[i] (List.getElem_mem hlt)
      obtain ⟨gb, cb, ev, _, hgb⟩ := RB.row.form RB.pos
      have hfe := getElem_map_fst R i hlt
      have hfm : M[i].1 ∈ rs.L := List.mem_of_getElem? hfe
      have hbl := hb _ hfm
      have hkl := RB.kept
      have hby := RB.byte
      have hrow := RB.row
      have hcb : M[i].1.bytes.length ≤ cb := by have := lend_cap (ev ▸ hrow); omega
      have et : crashL (rs.L.take (i + 1)) cs = crashL (rs.L.take i) cs ++ crash1 M[i].1 ((cs[i]?).getD 0) := by
        have h1 : rs.L.take (i + 1) = rs.L.take i ++ [M[i].1] := by
          rw [List.take_add_one, hfe]; rfl
        rw [h1, crashL_snoc, List.length_take, Nat.min_eq_left (by omega)]
      rw [ev] at q1 hrow
      generalize M[i].1 = f at *
      obtain ⟨fn, fb, fk⟩ := f
      dsimp only at q0 q1 q2 hbl hkl hby hrow hcb
      have hcut := cut_tmod ⟨fb, fk⟩ ((cs[i]?).getD 0) hkl
      have hQle := cutQ_le ⟨fb, fk⟩ ((cs[i]?).getD 0) hkl
      have hK2 := (cutK_int ⟨fb, fk⟩ ((cs[i]?).getD 0) hkl).2
      have c1e : crash1 ⟨fn, fb, fk⟩ ((cs[i]?).getD 0) = if cutQ ⟨fb, fk⟩ ((cs[i]?).getD 0) = 0 then [] else [⟨fn, cutB ⟨fb, fk⟩ ((cs[i]?).getD 0), cutQ ⟨fb, fk⟩ ((cs[i]?).getD 0)⟩] := by
        unfold crash1 cutF; split <;> rename_i h
        · split at h
          · cases h
          · rename_i h0; rw [if_neg h0]; cases h; rfl
        · split at h
          · rename_i h0; rw [if_pos h0]
          · cases h
      rw [c1e] at et
      clear c1e
      unfold cutB at et
      unfold cutQ at et hQle
      dsimp only at hcut et hQle hK2
      have e1 : (i : Int) < (M.length : Int) := by omega
      have HT : Hid _ := et
      -- the worlds of a round
      have hz := C.kept.size
      have hrl : r < wr.heap.size := Nat.lt_of_lt_of_le (R.bnd r R.sr) hz
      have src : ∀ w', Kept (fun _ => False) wr w' → ∀ q c, q ≤ fb.length → Src w' 1 (.slice (some ⟨gb, 0, none⟩) q c) q ((fb.take q).map (Value.int .u8)) := fun w' K q c hq => by
        refine .inl ⟨_, _, rfl, by rw [List.length_map, List.length_take]; omega, fun j u hu => ?_⟩
        have hr' := ownsRow_block (w' := w') hrow (fun k hk => K.block k (by cases hk; exact hgb) (fun h => h))
        refine hr'.cells (g := gb) rfl j u ?_
        rw [List.map_take, List.getElem?_take] at hu
        split at hu
        · exact hu
        · cases hu
      have hem : ∀ w' : World, w.heap.size ≤ w'.heap.size → (w'.alloc (.cells #[] 5)).ownsRow w.heap.size 5 1 (.slice (some ⟨w'.heap.size, 0, none⟩) 0 0) 0 [] := fun w' h => ownsRow_empty w' w.heap.size 5 1 h
      have k3 : ∀ w3, ((wr.alloc (.cells #[.int .i64 fn, .slice (some ⟨gb, 0, none⟩) fb.length cb, .int .i64 fk] 87)).alloc (.cells #[] 5)).grownBy w3 (Value.slice (some ⟨wr.heap.size + 1, 0, none⟩) 0 0).ownBlock → Kept (fun _ => False) wr w3 ∧ w3.heap[wr.heap.size]? = some (.cells #[.int .i64 fn, .slice (some ⟨gb, 0, none⟩) fb.length cb, .int .i64 fk] 87 (0, 0)) ∧ wr.heap.size + 2 ≤ w3.heap.size := fun w3 hg => by
        have K : Kept (fun k => k = wr.heap.size + 1) ((wr.alloc (.cells #[.int .i64 fn, .slice (some ⟨gb, 0, none⟩) fb.length cb, .int .i64 fk] 87)).alloc (.cells #[] 5)) w3 := Kept.grown hg (fun _ e => (Option.some.inj e).symm)
        refine ⟨((Kept.alloc _ wr _).and (Kept.alloc _ _ _)).trans K (fun k h => .inr (by omega)), ?_, by have := K.size; simpa using this⟩
        rw [K.block wr.heap.size (by simp; omega) (by omega)]
        have h2 := (Kept.alloc (fun _ => False) (wr.alloc (.cells #[.int .i64 fn, .slice (some ⟨gb, 0, none⟩) fb.length cb, .int .i64 fk] 87)) (.cells #[] 5)).block wr.heap.size (by simp) (fun h => h)
        rw [h2]
        exact heap_alloc_new wr _
      have hem1 : ((wr.alloc (.cells #[.int .i64 fn, .slice (some ⟨gb, 0, none⟩) fb.length cb, .int .i64 fk] 87)).alloc (.cells #[] 5)).ownsRow w.heap.size 5 1 (.slice (some ⟨wr.heap.size + 1, 0, none⟩) 0 0) 0 [] := by
        have := hem (wr.alloc (.cells #[.int .i64 fn, .slice (some ⟨gb, 0, none⟩) fb.length cb, .int .i64 fk] 87)) (by simp; omega)
        simpa using this
      have kne : ∀ (g3 n c : Nat), ((Value.slice (some ⟨g3, 0, none⟩) n c).ownBlock = (Value.slice (some ⟨wr.heap.size + 1, 0, none⟩) 0 0).ownBlock ∨ (Value.slice (some ⟨g3, 0, none⟩) n c).ownBlock = some ((wr.alloc (.cells #[.int .i64 fn, .slice (some ⟨gb, 0, none⟩) fb.length cb, .int .i64 fk] 87)).alloc (.cells #[] 5)).heap.size) → g3 ≠ wr.heap.size ∧ wr.heap.size ≤ g3 := fun g3 n c h => by
        rcases h with h | h
        · simp [Value.ownBlock] at h; omega
        · simp [Value.ownBlock] at h; omega
      clear hem hcells hfe hfm R1 RB
      by_cases hci : i < cs.length
      · have hcg : (cs[i]?).getD 0 = cs[i] := by rw [List.getElem?_eq_getElem hci]; rfl
        rw [hcg] at hcut hK2 HT hQle
        obtain ⟨bc, oc, rfl, hcc, _, hcellc⟩ := hcell (fun e => by rw [e] at hci; simp at hci)
        have hw := hcellc i cs[i] (List.getElem?_eq_getElem hci)
        have hwl := World.block_lt_of_cell? w _ hw
        have y0 : (wr.alloc (.cells #[.int .i64 fn, .slice (some ⟨gb, 0, none⟩) fb.length cb, .int .i64 fk] 87)).cell? ⟨bc, oc + i, none⟩ = some (.int .i64 cs[i]) := by
          rw [World.cell?_of_block (w := w) ((C.kept.and (Kept.alloc _ _ _)).block bc hwl (fun h => h))]; exact hw
        have e2 : (i : Int) < (cs.length : Int) := by omega
        clear et hcellc hw
        generalize cs[i] = ct at *
        generalize cutK ⟨fb, fk⟩ ct = K at *
        obtain ⟨Q, hQ⟩ : ∃ Q, Q = fk + (K + 1) / 2 := ⟨_, rfl⟩
        rw [← hQ] at HT hQle
        have hQi : (fk : Int) + ((K : Int) + 1) / 2 = Q := by omega
        have hmz : (2 * ((fb.length : Int) - fk) + 1 == 0) = false := by simp; omega
        by_cases htm : ct.tmod (2 * ((fb.length : Int) - fk) + 1) < 0
        · have hkk := hcut.2 htm
          clear hcut hQ
          by_cases hq : Q = 0
          · have hq0 : Hid (Q = 0) := hq
            have hqi : ((Q : Int)) = 0 := by omega
            have ht0 : ((K : Int) > 0) = False := by simp; omega
            clear hq
            go_wp2_with (first
                | (at_builtin; refine wpList_append_src _ rfl _ _ 28 rfl w.heap.size 5 i0 (.int .u8 0) 1 1 Try.underlying28 hi hz0 hz1 hz2 rfl (by decide) (.slice (some ⟨wr.heap.size + 1, 0, none⟩) 0 0) 0 [] rfl hem1 _ rfl Q _ (src _ ((Kept.alloc _ _ _).and (Kept.alloc _ _ _)) Q _ hQle) (oneCells _) (by unfold maxLen; omega) (by omega) (by simp; omega) ?_; intro a3 cap3 w3 ho3 hg3 _ hl3; simp only [Nat.zero_add, List.nil_append] at ho3 hl3 ⊢; obtain ⟨K3, hblk, hs3⟩ := k3 w3 hg3; have x0 : w3.cell? ⟨wr.heap.size, 0, none⟩ = some (.int .i64 fn) := (by simp [World.cell?, hblk]))
                | fail)
            go_roundw
            case rel =>
              refine ⟨i + 1, Mi, by omega, by go_num, by omega, ?_⟩
              rw [HT.out, if_pos hq0.out, List.append_nil]
              exact C.move ((Kept.alloc _ _ _).and (Kept.alloc _ _ _))
            case measure => simp [intOf]; omega
          · by_cases htt : 0 < K ∧ K % 2 = 0
            · have hq0 : Hid (¬ Q = 0) := hq
              have ht : Hid (0 < K ∧ K % 2 = 0) := htt
              have hQp : 0 < Q := by omega
              obtain ⟨ht1, ht2⟩ := htt
              have ht3 : ((K : Int) % 2 == 0) = true := by simp; omega
              have hqlt : Q - 1 < fb.length := by omega
              have hbq : fb[Q - 1]? = some fb[Q - 1] := List.getElem?_eq_getElem hqlt
              have hbq2 := hby _ (List.getElem_mem hqlt)
              generalize fb[Q - 1] = bq at *
              go_wp2_with (first
                  | (at_builtin; refine wpList_append_src _ rfl _ _ 28 rfl w.heap.size 5 i0 (.int .u8 0) 1 1 Try.underlying28 hi hz0 hz1 hz2 rfl (by decide) (.slice (some ⟨wr.heap.size + 1, 0, none⟩) 0 0) 0 [] rfl hem1 _ rfl Q _ (src _ ((Kept.alloc _ _ _).and (Kept.alloc _ _ _)) Q _ hQle) (oneCells _) (by unfold maxLen; omega) (by omega) (by simp; omega) ?_; intro a3 cap3 w3 ho3 hg3 _ hl3; simp only [Nat.zero_add, List.nil_append] at ho3 hl3 ⊢; obtain ⟨K3, hblk, hs3⟩ := k3 w3 hg3; have x0 : w3.cell? ⟨wr.heap.size, 0, none⟩ = some (.int .i64 fn) := (by simp [World.cell?, hblk]); obtain ⟨g3, cap3', e3, _, hgl3⟩ := ho3.form hQp; simp only [Value.slice.injEq] at e3; obtain ⟨e3a, _, e3b⟩ := e3; subst e3a; subst e3b; obtain ⟨y1, y2⟩ := ownsRow_get ho3 (k := Q - 1) (u := .int .u8 bq) (by rw [List.getElem?_map, List.getElem?_take, if_pos (by omega), hbq]; rfl); have hst := ownsRow_set ho3 (k := Q - 1) (.int .u8 (255 - bq)); obtain ⟨hgne, hgnw⟩ := kne _ _ _ hl3; have K3' : Kept (fun _ => False) wr (w3.setCell ⟨g3, Q - 1, none⟩ (.int .u8 (255 - bq))) := K3.trans (Kept.setCell (S := fun k => k = g3) _ _ _ rfl) (fun k h => .inr (by omega)); have C3 := C.move K3'; have x0' : (w3.setCell ⟨g3, Q - 1, none⟩ (.int .u8 (255 - bq))).cell? ⟨wr.heap.size, 0, none⟩ = some (.int .i64 fn) := (World.cell?_setCell_far _ _ _ _ hgne).trans x0; have hs3' := C3.kept.size)
                  | (at_builtin; refine wpList_append_lies _ rfl _ _ 73 rfl w.heap.size 87 j0 _ 3 40 Try.underlying73 hj hj0 hj1 hj2 rfl (by decide) (.slice a4 Mi.length c4) Mi.length _ rfl ((C3.row).alloc _) ⟨w3.heap.size, 0, none⟩ 1 1 [.int .i64 fn, .slice (some ⟨g3, 0, none⟩) Q cap3, .int .i64 Q] rfl rfl (World.news_of_block (by have := heap_alloc_new (w3.setCell ⟨g3, Q - 1, none⟩ (.int .u8 (255 - bq))) (.cells #[.int .i64 fn, .slice (some ⟨g3, 0, none⟩) Q cap3, .int .i64 Q] 87); simpa [World.setCell] using this)) (by simp [Value.oneCell']) (by decide) (by unfold maxLen; omega) (by omega) (by have := C3.kept.size; simp at this ⊢; omega) (w3.heap.size + 1) (by simp) ?_; intro g5 cap5 w5 ho5 hg5 hat5 hlt5)
                  | fail)
              go_roundw
              case rel =>
                refine ⟨i + 1, Mi ++ [(⟨fn, (fb.take Q).set (Q - 1) (255 - (fb[Q - 1]?).getD 0), Q⟩, .slice (some ⟨g3, 0, none⟩) Q cap3)], by omega, by go_num, ?_, ?_⟩
                · rw [List.length_append]; simp; omega
                · rw [HT.out, if_neg hq0.out, if_pos ht.out]
                  have h0 : ((fb.take Q).set (Q - 1) (255 - (fb[Q - 1]?).getD 0)).length = Q := by rw [List.length_set, List.length_take]; omega
                  refine (C3.move (Kept.alloc _ _ _)).push (f := ⟨fn, (fb.take Q).set (Q - 1) (255 - (fb[Q - 1]?).getD 0), Q⟩) (n := Mi.length + 1) (vb := .slice (some ⟨g3, 0, none⟩) Q cap3) ?_ ⟨Nat.le_of_eq h0.symm, ?_, ?_⟩ hg5 rfl ho5
                  · show World.ownsRow _ _ _ _ _ ((fb.take Q).set (Q - 1) (255 - (fb[Q - 1]?).getD 0)).length _
                    rw [h0, hbq, List.map_set]; exact hst.alloc _
                  · show 0 < ((fb.take Q).set (Q - 1) (255 - (fb[Q - 1]?).getD 0)).length
                    rw [h0]; exact hQp
                  · intro b hb
                    rcases List.mem_or_eq_of_mem_set hb with h | h
                    · exact hby b (List.mem_of_mem_take h)
                    · rw [h, hbq]; show 0 ≤ 255 - bq ∧ 255 - bq ≤ 255; omega
              case measure => simp [intOf]; omega
            · have hq0 : Hid (¬ Q = 0) := hq
              have ht : Hid (¬ (0 < K ∧ K % 2 = 0)) := htt
              have hQp : 0 < Q := by omega
              by_cases hk0 : 0 < K
              · have ht3 : ((K : Int) % 2 == 0) = false := by simp; omega
                go_wp2_with (first
                    | (at_builtin; refine wpList_append_src _ rfl _ _ 28 rfl w.heap.size 5 i0 (.int .u8 0) 1 1 Try.underlying28 hi hz0 hz1 hz2 rfl (by decide) (.slice (some ⟨wr.heap.size + 1, 0, none⟩) 0 0) 0 [] rfl hem1 _ rfl Q _ (src _ ((Kept.alloc _ _ _).and (Kept.alloc _ _ _)) Q _ hQle) (oneCells _) (by unfold maxLen; omega) (by omega) (by simp; omega) ?_; intro a3 cap3 w3 ho3 hg3 _ hl3; simp only [Nat.zero_add, List.nil_append] at ho3 hl3 ⊢; obtain ⟨K3, hblk, hs3⟩ := k3 w3 hg3; have x0 : w3.cell? ⟨wr.heap.size, 0, none⟩ = some (.int .i64 fn) := (by simp [World.cell?, hblk]); have C3 := C.move K3; have hs3' := C3.kept.size)
                    | (at_builtin; refine wpList_append_lies _ rfl _ _ 73 rfl w.heap.size 87 j0 _ 3 40 Try.underlying73 hj hj0 hj1 hj2 rfl (by decide) (.slice a4 Mi.length c4) Mi.length _ rfl ((C3.row).alloc _) ⟨w3.heap.size, 0, none⟩ 1 1 [.int .i64 fn, .slice a3 Q cap3, .int .i64 Q] rfl rfl (World.news_of_block (heap_alloc_new w3 _)) (by simp [Value.oneCell']) (by decide) (by unfold maxLen; omega) (by omega) (by have := C3.kept.size; simp at this ⊢; omega) (w3.heap.size + 1) (by simp) ?_; intro g5 cap5 w5 ho5 hg5 hat5 hlt5)
                    | fail)
                go_roundw
                case rel =>
                  refine ⟨i + 1, Mi ++ [(⟨fn, fb.take Q, Q⟩, .slice a3 Q cap3)], by omega, by go_num, ?_, ?_⟩
                  · rw [List.length_append]; simp; omega
                  · rw [HT.out, if_neg hq0.out, if_neg ht.out]
                    have h0 : (fb.take Q).length = Q := by rw [List.length_take]; omega
                    refine (C3.move (Kept.alloc _ _ _)).push (f := ⟨fn, fb.take Q, Q⟩) (n := Mi.length + 1) (vb := .slice a3 Q cap3) ?_ ⟨Nat.le_of_eq h0.symm, ?_, fun b hb => hby b (List.mem_of_mem_take hb)⟩ hg5 rfl ho5
                    · show World.ownsRow _ _ _ _ _ (fb.take Q).length _
                      rw [h0]; exact ho3.alloc _
                    · show 0 < (fb.take Q).length
                      rw [h0]; exact hQp
                case measure => simp [intOf]; omega
              · go_wp2_with (first
                    | (at_builtin; refine wpList_append_src _ rfl _ _ 28 rfl w.heap.size 5 i0 (.int .u8 0) 1 1 Try.underlying28 hi hz0 hz1 hz2 rfl (by decide) (.slice (some ⟨wr.heap.size + 1, 0, none⟩) 0 0) 0 [] rfl hem1 _ rfl Q _ (src _ ((Kept.alloc _ _ _).and (Kept.alloc _ _ _)) Q _ hQle) (oneCells _) (by unfold maxLen; omega) (by omega) (by simp; omega) ?_; intro a3 cap3 w3 ho3 hg3 _ hl3; simp only [Nat.zero_add, List.nil_append] at ho3 hl3 ⊢; obtain ⟨K3, hblk, hs3⟩ := k3 w3 hg3; have x0 : w3.cell? ⟨wr.heap.size, 0, none⟩ = some (.int .i64 fn) := (by simp [World.cell?, hblk]); have C3 := C.move K3; have hs3' := C3.kept.size)
                    | (at_builtin; refine wpList_append_lies _ rfl _ _ 73 rfl w.heap.size 87 j0 _ 3 40 Try.underlying73 hj hj0 hj1 hj2 rfl (by decide) (.slice a4 Mi.length c4) Mi.length _ rfl ((C3.row).alloc _) ⟨w3.heap.size, 0, none⟩ 1 1 [.int .i64 fn, .slice a3 Q cap3, .int .i64 Q] rfl rfl (World.news_of_block (heap_alloc_new w3 _)) (by simp [Value.oneCell']) (by decide) (by unfold maxLen; omega) (by omega) (by have := C3.kept.size; simp at this ⊢; omega) (w3.heap.size + 1) (by simp) ?_; intro g5 cap5 w5 ho5 hg5 hat5 hlt5)
                    | fail)
                go_roundw
                case rel =>
                  refine ⟨i + 1, Mi ++ [(⟨fn, fb.take Q, Q⟩, .slice a3 Q cap3)], by omega, by go_num, ?_, ?_⟩
                  · rw [List.length_append]; simp; omega
                  · rw [HT.out, if_neg hq0.out, if_neg ht.out]
                    have h0 : (fb.take Q).length = Q := by rw [List.length_take]; omega
                    refine (C3.move (Kept.alloc _ _ _)).push (f := ⟨fn, fb.take Q, Q⟩) (n := Mi.length + 1) (vb := .slice a3 Q cap3) ?_ ⟨Nat.le_of_eq h0.symm, ?_, fun b hb => hby b (List.mem_of_mem_take hb)⟩ hg5 rfl ho5
                    · show World.ownsRow _ _ _ _ _ (fb.take Q).length _
                      rw [h0]; exact ho3.alloc _
                    · show 0 < (fb.take Q).length
                      rw [h0]; exact hQp
                case measure => simp [intOf]; omega
        · have hkk := hcut.1 (by omega)
          clear hcut hQ htm
          by_cases hq : Q = 0
          · have hq0 : Hid (Q = 0) := hq
            have hqi : ((Q : Int)) = 0 := by omega
            have ht0 : ((K : Int) > 0) = False := by simp; omega
            clear hq
            go_wp2_with (first
                | (at_builtin; refine wpList_append_src _ rfl _ _ 28 rfl w.heap.size 5 i0 (.int .u8 0) 1 1 Try.underlying28 hi hz0 hz1 hz2 rfl (by decide) (.slice (some ⟨wr.heap.size + 1, 0, none⟩) 0 0) 0 [] rfl hem1 _ rfl Q _ (src _ ((Kept.alloc _ _ _).and (Kept.alloc _ _ _)) Q _ hQle) (oneCells _) (by unfold maxLen; omega) (by omega) (by simp; omega) ?_; intro a3 cap3 w3 ho3 hg3 _ hl3; simp only [Nat.zero_add, List.nil_append] at ho3 hl3 ⊢; obtain ⟨K3, hblk, hs3⟩ := k3 w3 hg3; have x0 : w3.cell? ⟨wr.heap.size, 0, none⟩ = some (.int .i64 fn) := (by simp [World.cell?, hblk]))
                | fail)
            go_roundw
            case rel =>
              refine ⟨i + 1, Mi, by omega, by go_num, by omega, ?_⟩
              rw [HT.out, if_pos hq0.out, List.append_nil]
              exact C.move ((Kept.alloc _ _ _).and (Kept.alloc _ _ _))
            case measure => simp [intOf]; omega
          · by_cases htt : 0 < K ∧ K % 2 = 0
            · have hq0 : Hid (¬ Q = 0) := hq
              have ht : Hid (0 < K ∧ K % 2 = 0) := htt
              have hQp : 0 < Q := by omega
              obtain ⟨ht1, ht2⟩ := htt
              have ht3 : ((K : Int) % 2 == 0) = true := by simp; omega
              have hqlt : Q - 1 < fb.length := by omega
              have hbq : fb[Q - 1]? = some fb[Q - 1] := List.getElem?_eq_getElem hqlt
              have hbq2 := hby _ (List.getElem_mem hqlt)
              generalize fb[Q - 1] = bq at *
              go_wp2_with (first
                  | (at_builtin; refine wpList_append_src _ rfl _ _ 28 rfl w.heap.size 5 i0 (.int .u8 0) 1 1 Try.underlying28 hi hz0 hz1 hz2 rfl (by decide) (.slice (some ⟨wr.heap.size + 1, 0, none⟩) 0 0) 0 [] rfl hem1 _ rfl Q _ (src _ ((Kept.alloc _ _ _).and (Kept.alloc _ _ _)) Q _ hQle) (oneCells _) (by unfold maxLen; omega) (by omega) (by simp; omega) ?_; intro a3 cap3 w3 ho3 hg3 _ hl3; simp only [Nat.zero_add, List.nil_append] at ho3 hl3 ⊢; obtain ⟨K3, hblk, hs3⟩ := k3 w3 hg3; have x0 : w3.cell? ⟨wr.heap.size, 0, none⟩ = some (.int .i64 fn) := (by simp [World.cell?, hblk]); obtain ⟨g3, cap3', e3, _, hgl3⟩ := ho3.form hQp; simp only [Value.slice.injEq] at e3; obtain ⟨e3a, _, e3b⟩ := e3; subst e3a; subst e3b; obtain ⟨y1, y2⟩ := ownsRow_get ho3 (k := Q - 1) (u := .int .u8 bq) (by rw [List.getElem?_map, List.getElem?_take, if_pos (by omega), hbq]; rfl); have hst := ownsRow_set ho3 (k := Q - 1) (.int .u8 (255 - bq)); obtain ⟨hgne, hgnw⟩ := kne _ _ _ hl3; have K3' : Kept (fun _ => False) wr (w3.setCell ⟨g3, Q - 1, none⟩ (.int .u8 (255 - bq))) := K3.trans (Kept.setCell (S := fun k => k = g3) _ _ _ rfl) (fun k h => .inr (by omega)); have C3 := C.move K3'; have x0' : (w3.setCell ⟨g3, Q - 1, none⟩ (.int .u8 (255 - bq))).cell? ⟨wr.heap.size, 0, none⟩ = some (.int .i64 fn) := (World.cell?_setCell_far _ _ _ _ hgne).trans x0; have hs3' := C3.kept.size)
                  | (at_builtin; refine wpList_append_lies _ rfl _ _ 73 rfl w.heap.size 87 j0 _ 3 40 Try.underlying73 hj hj0 hj1 hj2 rfl (by decide) (.slice a4 Mi.length c4) Mi.length _ rfl ((C3.row).alloc _) ⟨w3.heap.size, 0, none⟩ 1 1 [.int .i64 fn, .slice (some ⟨g3, 0, none⟩) Q cap3, .int .i64 Q] rfl rfl (World.news_of_block (by have := heap_alloc_new (w3.setCell ⟨g3, Q - 1, none⟩ (.int .u8 (255 - bq))) (.cells #[.int .i64 fn, .slice (some ⟨g3, 0, none⟩) Q cap3, .int .i64 Q] 87); simpa [World.setCell] using this)) (by simp [Value.oneCell']) (by decide) (by unfold maxLen; omega) (by omega) (by have := C3.kept.size; simp at this ⊢; omega) (w3.heap.size + 1) (by simp) ?_; intro g5 cap5 w5 ho5 hg5 hat5 hlt5)
                  | fail)
              go_roundw
              case rel =>
                refine ⟨i + 1, Mi ++ [(⟨fn, (fb.take Q).set (Q - 1) (255 - (fb[Q - 1]?).getD 0), Q⟩, .slice (some ⟨g3, 0, none⟩) Q cap3)], by omega, by go_num, ?_, ?_⟩
                · rw [List.length_append]; simp; omega
                · rw [HT.out, if_neg hq0.out, if_pos ht.out]
                  have h0 : ((fb.take Q).set (Q - 1) (255 - (fb[Q - 1]?).getD 0)).length = Q := by rw [List.length_set, List.length_take]; omega
                  refine (C3.move (Kept.alloc _ _ _)).push (f := ⟨fn, (fb.take Q).set (Q - 1) (255 - (fb[Q - 1]?).getD 0), Q⟩) (n := Mi.length + 1) (vb := .slice (some ⟨g3, 0, none⟩) Q cap3) ?_ ⟨Nat.le_of_eq h0.symm, ?_, ?_⟩ hg5 rfl ho5
                  · show World.ownsRow _ _ _ _ _ ((fb.take Q).set (Q - 1) (255 - (fb[Q - 1]?).getD 0)).length _
                    rw [h0, hbq, List.map_set]; exact hst.alloc _
                  · show 0 < ((fb.take Q).set (Q - 1) (255 - (fb[Q - 1]?).getD 0)).length
                    rw [h0]; exact hQp
                  · intro b hb
                    rcases List.mem_or_eq_of_mem_set hb with h | h
                    · exact hby b (List.mem_of_mem_take h)
                    · rw [h, hbq]; show 0 ≤ 255 - bq ∧ 255 - bq ≤ 255; omega
              case measure => simp [intOf]; omega
            · have hq0 : Hid (¬ Q = 0) := hq
              have ht : Hid (¬ (0 < K ∧ K % 2 = 0)) := htt
              have hQp : 0 < Q := by omega
              by_cases hk0 : 0 < K
              · have ht3 : ((K : Int) % 2 == 0) = false := by simp; omega
                go_wp2_with (first
                    | (at_builtin; refine wpList_append_src _ rfl _ _ 28 rfl w.heap.size 5 i0 (.int .u8 0) 1 1 Try.underlying28 hi hz0 hz1 hz2 rfl (by decide) (.slice (some ⟨wr.heap.size + 1, 0, none⟩) 0 0) 0 [] rfl hem1 _ rfl Q _ (src _ ((Kept.alloc _ _ _).and (Kept.alloc _ _ _)) Q _ hQle) (oneCells _) (by unfold maxLen; omega) (by omega) (by simp; omega) ?_; intro a3 cap3 w3 ho3 hg3 _ hl3; simp only [Nat.zero_add, List.nil_append] at ho3 hl3 ⊢; obtain ⟨K3, hblk, hs3⟩ := k3 w3 hg3; have x0 : w3.cell? ⟨wr.heap.size, 0, none⟩ = some (.int .i64 fn) := (by simp [World.cell?, hblk]); have C3 := C.move K3; have hs3' := C3.kept.size)
                    | (at_builtin; refine wpList_append_lies _ rfl _ _ 73 rfl w.heap.size 87 j0 _ 3 40 Try.underlying73 hj hj0 hj1 hj2 rfl (by decide) (.slice a4 Mi.length c4) Mi.length _ rfl ((C3.row).alloc _) ⟨w3.heap.size, 0, none⟩ 1 1 [.int .i64 fn, .slice a3 Q cap3, .int .i64 Q] rfl rfl (World.news_of_block (heap_alloc_new w3 _)) (by simp [Value.oneCell']) (by decide) (by unfold maxLen; omega) (by omega) (by have := C3.kept.size; simp at this ⊢; omega) (w3.heap.size + 1) (by simp) ?_; intro g5 cap5 w5 ho5 hg5 hat5 hlt5)
                    | fail)
                go_roundw
                case rel =>
                  refine ⟨i + 1, Mi ++ [(⟨fn, fb.take Q, Q⟩, .slice a3 Q cap3)], by omega, by go_num, ?_, ?_⟩
                  · rw [List.length_append]; simp; omega
                  · rw [HT.out, if_neg hq0.out, if_neg ht.out]
                    have h0 : (fb.take Q).length = Q := by rw [List.length_take]; omega
                    refine (C3.move (Kept.alloc _ _ _)).push (f := ⟨fn, fb.take Q, Q⟩) (n := Mi.length + 1) (vb := .slice a3 Q cap3) ?_ ⟨Nat.le_of_eq h0.symm, ?_, fun b hb => hby b (List.mem_of_mem_take hb)⟩ hg5 rfl ho5
                    · show World.ownsRow _ _ _ _ _ (fb.take Q).length _
                      rw [h0]; exact ho3.alloc _
                    · show 0 < (fb.take Q).length
                      rw [h0]; exact hQp
                case measure => simp [intOf]; omega
              · go_wp2_with (first
                    | (at_builtin; refine wpList_append_src _ rfl _ _ 28 rfl w.heap.size 5 i0 (.int .u8 0) 1 1 Try.underlying28 hi hz0 hz1 hz2 rfl (by decide) (.slice (some ⟨wr.heap.size + 1, 0, none⟩) 0 0) 0 [] rfl hem1 _ rfl Q _ (src _ ((Kept.alloc _ _ _).and (Kept.alloc _ _ _)) Q _ hQle) (oneCells _) (by unfold maxLen; omega) (by omega) (by simp; omega) ?_; intro a3 cap3 w3 ho3 hg3 _ hl3; simp only [Nat.zero_add, List.nil_append] at ho3 hl3 ⊢; obtain ⟨K3, hblk, hs3⟩ := k3 w3 hg3; have x0 : w3.cell? ⟨wr.heap.size, 0, none⟩ = some (.int .i64 fn) := (by simp [World.cell?, hblk]); have C3 := C.move K3; have hs3' := C3.kept.size)
                    | (at_builtin; refine wpList_append_lies _ rfl _ _ 73 rfl w.heap.size 87 j0 _ 3 40 Try.underlying73 hj hj0 hj1 hj2 rfl (by decide) (.slice a4 Mi.length c4) Mi.length _ rfl ((C3.row).alloc _) ⟨w3.heap.size, 0, none⟩ 1 1 [.int .i64 fn, .slice a3 Q cap3, .int .i64 Q] rfl rfl (World.news_of_block (heap_alloc_new w3 _)) (by simp [Value.oneCell']) (by decide) (by unfold maxLen; omega) (by omega) (by have := C3.kept.size; simp at this ⊢; omega) (w3.heap.size + 1) (by simp) ?_; intro g5 cap5 w5 ho5 hg5 hat5 hlt5)
                    | fail)
                go_roundw
                case rel =>
                  refine ⟨i + 1, Mi ++ [(⟨fn, fb.take Q, Q⟩, .slice a3 Q cap3)], by omega, by go_num, ?_, ?_⟩
                  · rw [List.length_append]; simp; omega
                  · rw [HT.out, if_neg hq0.out, if_neg ht.out]
                    have h0 : (fb.take Q).length = Q := by rw [List.length_take]; omega
                    refine (C3.move (Kept.alloc _ _ _)).push (f := ⟨fn, fb.take Q, Q⟩) (n := Mi.length + 1) (vb := .slice a3 Q cap3) ?_ ⟨Nat.le_of_eq h0.symm, ?_, fun b hb => hby b (List.mem_of_mem_take hb)⟩ hg5 rfl ho5
                    · show World.ownsRow _ _ _ _ _ (fb.take Q).length _
                      rw [h0]; exact ho3.alloc _
                    · show 0 < (fb.take Q).length
                      rw [h0]; exact hQp
                case measure => simp [intOf]; omega
      · have hcg : (cs[i]?).getD 0 = 0 := by rw [List.getElem?_eq_none (by omega)]; rfl
        have hK0 : cutK ⟨fb, fk⟩ 0 = 0 := by simp [cutK]
        rw [hcg, hK0] at HT hQle
        clear et hcut hK2 hcell
        have e2 : ¬ ((i : Int) < (cs.length : Int)) := by omega
        obtain ⟨Q, hQ⟩ : ∃ Q, Q = fk := ⟨_, rfl⟩
        rw [show fk + (0 + 1) / 2 = Q by omega] at HT hQle
        subst hQ
        by_cases hq : Q = 0
        · have hq0 : Hid (Q = 0) := hq
          have hqi : ((Q : Int)) = 0 := by omega
          clear hq
          go_wp2_with (first
              | (at_builtin; refine wpList_append_src _ rfl _ _ 28 rfl w.heap.size 5 i0 (.int .u8 0) 1 1 Try.underlying28 hi hz0 hz1 hz2 rfl (by decide) (.slice (some ⟨wr.heap.size + 1, 0, none⟩) 0 0) 0 [] rfl hem1 _ rfl Q _ (src _ ((Kept.alloc _ _ _).and (Kept.alloc _ _ _)) Q _ hQle) (oneCells _) (by unfold maxLen; omega) (by omega) (by simp; omega) ?_; intro a3 cap3 w3 ho3 hg3 _ hl3; simp only [Nat.zero_add, List.nil_append] at ho3 hl3 ⊢; obtain ⟨K3, hblk, hs3⟩ := k3 w3 hg3; have x0 : w3.cell? ⟨wr.heap.size, 0, none⟩ = some (.int .i64 fn) := (by simp [World.cell?, hblk]))
              | fail)
          go_roundw
          case rel =>
            refine ⟨i + 1, Mi, by omega, by go_num, by omega, ?_⟩
            rw [HT.out, if_pos hq0.out, List.append_nil]
            exact C.move ((Kept.alloc _ _ _).and (Kept.alloc _ _ _))
          case measure => simp [intOf]; omega
        · have hq0 : Hid (¬ Q = 0) := hq
          have ht : Hid (¬ (0 < 0 ∧ 0 % 2 = 0)) := by rintro ⟨h, _⟩; omega
          have hQp : 0 < Q := by omega
          go_wp2_with (first
              | (at_builtin; refine wpList_append_src _ rfl _ _ 28 rfl w.heap.size 5 i0 (.int .u8 0) 1 1 Try.underlying28 hi hz0 hz1 hz2 rfl (by decide) (.slice (some ⟨wr.heap.size + 1, 0, none⟩) 0 0) 0 [] rfl hem1 _ rfl Q _ (src _ ((Kept.alloc _ _ _).and (Kept.alloc _ _ _)) Q _ hQle) (oneCells _) (by unfold maxLen; omega) (by omega) (by simp; omega) ?_; intro a3 cap3 w3 ho3 hg3 _ hl3; simp only [Nat.zero_add, List.nil_append] at ho3 hl3 ⊢; obtain ⟨K3, hblk, hs3⟩ := k3 w3 hg3; have x0 : w3.cell? ⟨wr.heap.size, 0, none⟩ = some (.int .i64 fn) := (by simp [World.cell?, hblk]); have C3 := C.move K3; have hs3' := C3.kept.size)
              | (at_builtin; refine wpList_append_lies _ rfl _ _ 73 rfl w.heap.size 87 j0 _ 3 40 Try.underlying73 hj hj0 hj1 hj2 rfl (by decide) (.slice a4 Mi.length c4) Mi.length _ rfl ((C3.row).alloc _) ⟨w3.heap.size, 0, none⟩ 1 1 [.int .i64 fn, .slice a3 Q cap3, .int .i64 Q] rfl rfl (World.news_of_block (heap_alloc_new w3 _)) (by simp [Value.oneCell']) (by decide) (by unfold maxLen; omega) (by omega) (by have := C3.kept.size; simp at this ⊢; omega) (w3.heap.size + 1) (by simp) ?_; intro g5 cap5 w5 ho5 hg5 hat5 hlt5)
              | fail)
          go_roundw
          case rel =>
            refine ⟨i + 1, Mi ++ [(⟨fn, fb.take Q, Q⟩, .slice a3 Q cap3)], by omega, by go_num, ?_, ?_⟩
            · rw [List.length_append]; simp; omega
            · rw [HT.out, if_neg hq0.out, if_neg ht.out]
              have h0 : (fb.take Q).length = Q := by rw [List.length_take]; omega
              refine (C3.move (Kept.alloc _ _ _)).push (f := ⟨fn, fb.take Q, Q⟩) (n := Mi.length + 1) (vb := .slice a3 Q cap3) ?_ ⟨Nat.le_of_eq h0.symm, ?_, fun b hb => hby b (List.mem_of_mem_take hb)⟩ hg5 rfl ho5
              · show World.ownsRow _ _ _ _ _ (fb.take Q).length _
                rw [h0]; exact ho3.alloc _
              · show 0 < (fb.take Q).length
                rw [h0]; exact hQp
          case measure => simp [intOf]; omega
    · have hiM : i = M.length := by omega
      have hC : CrashAt w wr (.slice a4 Mi.length c4) Mi (crashL rs.L cs) := by
        rw [hiM, ← ML, List.take_length] at C; exact C
      have hto := R.crashTo hC
      have hr1 : wr.heap[r]? = w.heap[r]? := C.kept.block r (R.bnd r R.sr) (fun h => h)
      have f0 : wr.frozen? ⟨r, 0, none⟩ = false := by rw [← R.fz 0]; simp [World.frozen?, hr1]
      have hd1 : (wr.setCell ⟨r, 0, none⟩ (.slice a4 Mi.length c4)).heap[r]? = some (.cells #[.slice a4 Mi.length c4, vF, .int .i64 rs.stop, .int .i64 rs.count] 76 (0, 0)) := by
        simp [World.setCell, Array.getElem?_modify, hr1, R.head]
      have hd2 : ((wr.setCell ⟨r, 0, none⟩ (.slice a4 Mi.length c4)).setCell ⟨r, 1, none⟩ (.slice none 0 0)).heap[r]? = some (.cells #[.slice a4 Mi.length c4, .slice none 0 0, .int .i64 rs.stop, .int .i64 rs.count] 76 (0, 0)) := by
        simp [World.setCell, Array.getElem?_modify, hr1, R.head]
      have x1 : (wr.setCell ⟨r, 0, none⟩ (.slice a4 Mi.length c4)).cell? ⟨r, 1, none⟩ = some vF := by simp [World.cell?, hd1]
      have x2 : (wr.setCell ⟨r, 0, none⟩ (.slice a4 Mi.length c4)).frozen? ⟨r, 1, none⟩ = false := by simp [World.frozen?, hd1]
      have x3 : ((wr.setCell ⟨r, 0, none⟩ (.slice a4 Mi.length c4)).setCell ⟨r, 1, none⟩ (.slice none 0 0)).cell? ⟨r, 2, none⟩ = some (.int .i64 rs.stop) := by simp [World.cell?, hd2]
      have x4 : ((wr.setCell ⟨r, 0, none⟩ (.slice a4 Mi.length c4)).setCell ⟨r, 1, none⟩ (.slice none 0 0)).frozen? ⟨r, 2, none⟩ = false := by simp [World.frozen?, hd2]
      clear C hC R R1 hd1 hd2 hcell hr1
      subst hiM
      go_wp2
      go_end0
      exact ⟨rfl, hto⟩
end

end Go.Proofs.Ytdbmefjagggnoaa
