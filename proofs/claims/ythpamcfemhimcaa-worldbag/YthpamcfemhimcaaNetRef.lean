/-
  The document's net: NewNet, Look, Send.
-/
import Derived.Test.YthpamcfemhimcaaNetDrop
namespace Go.Proofs.Ythpamcfemhimcaa
open Go.RowKit

set_option maxRecDepth 100000 in
set_option maxHeartbeats 400000 in
theorem copiedR_any (w : World) (fr to : Int) (a : Option Addr) (m c : Nat) (b : List Int) (B : BytesAt w a m c b) (hm : m ≤ 1099511627776) :
    Calls Try.prog 28 #[.agg #[.int .i64 fr, .int .i64 to, .slice a m c]] w fun e w' => ∃ a' c', e = .returned (.agg #[.int .i64 fr, .int .i64 to, .slice a' m c']) ∧ w'.ownsRow w.heap.size 5 1 (.slice a' m c') m (b.map (Value.int .u8)) ∧ Kept (fun _ => False) w w' := by
  obtain ⟨i0, hi, hz0, hz1, hz2⟩ := info_parts Try.info5
  have K0 : Kept (fun _ => False) w ((w.alloc (.cells #[.int .i64 fr, .int .i64 to, .slice a m c] 29)).alloc (.cells #[.int .i64 0, .int .i64 0, .slice none 0 0] 29)) := (Kept.alloc _ _ _).and (Kept.alloc _ _ _)
  obtain ⟨q0, q1⟩ := heap_two w (.cells #[.int .i64 fr, .int .i64 to, .slice a m c] 29) (.cells #[.int .i64 0, .int .i64 0, .slice none 0 0] 29)
  have hz : ((w.alloc (.cells #[.int .i64 fr, .int .i64 to, .slice a m c] 29)).alloc (.cells #[.int .i64 0, .int .i64 0, .slice none 0 0] 29)).heap.size = w.heap.size + 2 := by simp
  have KE : Kept (fun _ => False) ((w.alloc (.cells #[.int .i64 fr, .int .i64 to, .slice a m c] 29)).alloc (.cells #[.int .i64 0, .int .i64 0, .slice none 0 0] 29)) (((w.alloc (.cells #[.int .i64 fr, .int .i64 to, .slice a m c] 29)).alloc (.cells #[.int .i64 0, .int .i64 0, .slice none 0 0] 29)).alloc (.cells #[] 5)) := Kept.alloc _ _ _
  have hown : (((w.alloc (.cells #[.int .i64 fr, .int .i64 to, .slice a m c] 29)).alloc (.cells #[.int .i64 0, .int .i64 0, .slice none 0 0] 29)).alloc (.cells #[] 5)).ownsRow (w.heap.size + 2) 5 1 (.slice (some ⟨w.heap.size + 2, 0, none⟩) 0 0) 0 [] := by have := ownsRow_empty ((w.alloc (.cells #[.int .i64 fr, .int .i64 to, .slice a m c] 29)).alloc (.cells #[.int .i64 0, .int .i64 0, .slice none 0 0] 29)) ((w.alloc (.cells #[.int .i64 fr, .int .i64 to, .slice a m c] 29)).alloc (.cells #[.int .i64 0, .int .i64 0, .slice none 0 0] 29)).heap.size 5 1 (Nat.le_refl _); rwa [hz] at this
  have src := (B.kept (K0.and KE) (fun _ _ _ h => h)).src
  obtain ⟨_, _, t2', _⟩ := three ((KE.block _ (by omega) (fun h => h)).trans q0)
  have hk := fun (w1 : World) (K1 : Kept (fun _ => False) ((w.alloc (.cells #[.int .i64 fr, .int .i64 to, .slice a m c] 29)).alloc (.cells #[.int .i64 0, .int .i64 0, .slice none 0 0] 29)) w1) => three ((K1.block _ (by omega) (fun h => h)).trans q0)
  have hk2 := fun (w1 : World) (K1 : Kept (fun _ => False) ((w.alloc (.cells #[.int .i64 fr, .int .i64 to, .slice a m c] 29)).alloc (.cells #[.int .i64 0, .int .i64 0, .slice none 0 0] 29)) w1) => three ((K1.block _ (by omega) (fun h => h)).trans q1)
  have hkn := fun w1 hg => lend_kn ((w.alloc (.cells #[.int .i64 fr, .int .i64 to, .slice a m c] 29)).alloc (.cells #[.int .i64 0, .int .i64 0, .slice none 0 0] 29)) w1 5 hg
  rw [hz] at hkn
  have HK : Hid _ := hk
  have HK2 : Hid _ := hk2
  have HKN : Hid _ := hkn
  clear hk hk2 q0 q1 hkn
  go_enter Try.func28, Try.ntmps28
  go_wp2_with (first
    | (at_builtin; refine wpList_append_src _ rfl _ _ 27 rfl (w.heap.size + 2) 5 i0 (.int .u8 0) 1 1 Try.underlying27 hi hz0 hz1 hz2 rfl (by decide) (.slice (some ⟨w.heap.size + 2, 0, none⟩) 0 0) 0 [] rfl hown _ rfl m _ src (oneCells _) (by unfold maxLen; omega) (by omega) (by simp) ?_; intro a1 c1 w1 ho1 hg1 _ _; simp only [Nat.zero_add, List.nil_append] at ho1 ⊢; have K1 := HKN.out w1 hg1; obtain ⟨p0, p1, p2, f0, f1, f2⟩ := HK.out w1 K1; obtain ⟨r0, r1, r2, g0, g1, g2⟩ := HK2.out w1 K1; clear HK HK2 HKN)
    | fail)
  refine bodyPost_ret (v := .agg #[.int .i64 fr, .int .i64 to, .slice a1 m c1]) (by simp [results, Try.results28, go_sem, r0, r1, r2]) rfl ?_
  have low := fun k hk => (ho1.lt k hk).1
  have K3 := Kept.set3 (w1.setCell ⟨w.heap.size, 2, none⟩ (.slice a1 m c1)) (w.heap.size + 1) (.int .i64 fr) (.int .i64 to) (.slice a1 m c1)
  have K2 : Kept (fun k => k = w.heap.size) w1 (w1.setCell ⟨w.heap.size, 2, none⟩ (.slice a1 m c1)) := Kept.setCell _ _ _ rfl
  refine ⟨a1, c1, rfl, ?_, ?_⟩
  · refine ownsRow_low (base := w.heap.size + 2) ?_ (by omega)
    refine ownsRow_blk ho1 (fun k hk => ?_)
    have h1 := low k hk
    have h2 := (ho1.lt k hk).2
    exact (K3.block k (by rw [World.size_setCell]; exact h2) (fun e => by have e' : k = w.heap.size + 1 := e; omega)).trans (K2.block k h2 (fun e => by have e' : k = w.heap.size := e; omega))
  · refine Kept.fresh ?_
    exact (((K0.and K1).mono (fun _ h => h.elim)).and (K2.mono (fun k e => Nat.le_of_eq e.symm))).and (K3.mono (fun k e => by have e' : k = w.heap.size + 1 := e; omega))

set_option maxRecDepth 100000 in
set_option maxHeartbeats 400000 in
theorem refNet_any (w : World) (most : Int) :
    Calls Try.prog 6 #[.int .i64 most] w fun e w' => e = .returned (.pointer (some ⟨w.heap.size, 0, none⟩)) ∧ NetR (if most < 0 then 0 else most) w' (fun k => k = w.heap.size) w.heap.size (.slice none 0 0) [] ∧ Kept (fun _ => False) w w' ∧ w'.heap.size = w.heap.size + 1 := by
  by_cases h : most < 0
  · rw [if_pos h]
    go_enter Try.func6, Try.ntmps6
    go_wp2
    go_ret
    exact ⟨rfl, ⟨heap_alloc_new _ _, World.ownsRow_nil _ _ _ _, fun p hp => (by cases hp), rfl, fun k hk => (by cases hk), fun p hp => (by cases hp), fun k hk => (by simp; omega), by decide⟩, Kept.alloc _ _ _, by simp⟩
  · rw [if_neg h]
    go_enter Try.func6, Try.ntmps6
    go_wp2
    go_ret
    exact ⟨rfl, ⟨heap_alloc_new _ _, World.ownsRow_nil _ _ _ _, fun p hp => (by cases hp), rfl, fun k hk => (by cases hk), fun p hp => (by cases hp), fun k hk => (by simp; omega), by decide⟩, Kept.alloc _ _ _, by simp⟩

section
variable {w : World} {S : Nat → Prop} {d : Nat} {v : Value} {ps : List PV} {most : Int}

theorem NetIn.r0 (N : NetR most w S d v ps) : w.cell? ⟨d, 0, none⟩ = some (.int .i64 most) ∧ w.cell? ⟨d, 1, none⟩ = some v ∧ w.frozen? ⟨d, 0, none⟩ = false ∧ w.frozen? ⟨d, 1, none⟩ = false := two N.head

set_option maxRecDepth 100000 in
set_option maxHeartbeats 400000 in
theorem refLook_any (N : NetR most w S d v ps) (i : Int) :
    Calls Try.prog 22 #[.pointer (some ⟨d, 0, none⟩), .int .i64 i] w fun e w' => Given w (atX (ps.map PV.pure) i) e w' := by
  have K0 : Kept (fun _ => False) w (w.alloc (.cells #[.int .i64 0, .int .i64 0, .slice none 0 0] 29)) := Kept.alloc _ _ _
  have N0 := N.keptN K0
  obtain ⟨_, h0, _⟩ := N0.r0
  cases hb : inB ps.length i with
  | false =>
    have e1 : atX (ps.map PV.pure) i = none := by simp [atX, hb]
    rw [e1]
    obtain ⟨a, c, rfl, _⟩ := N.shape
    have hno := inB_no hb
    by_cases hi : i < 0
    · clear hb e1 hno
      have hd : decide (i < 0) = true := by simpa using hi
      go_enter Try.func22, Try.ntmps22
      go_wp2
      refine bodyPost_ret (v := .tuple #[.agg #[.int .i64 0, .int .i64 0, .slice none 0 0], .bool false]) (by simp [results, Try.results22, go_sem]) rfl ?_
      exact ⟨⟨none, 0, rfl, World.ownsRow_nil _ _ _ _, fun y hy => (by cases hy), Nat.zero_le _⟩, K0⟩
    · have hi2 : (ps.length : Int) ≤ i := by omega
      have hd : decide (i < 0) = false := by simpa using hi
      clear hb e1 hno
      go_enter Try.func22, Try.ntmps22
      go_wp2
      refine bodyPost_ret (v := .tuple #[.agg #[.int .i64 0, .int .i64 0, .slice none 0 0], .bool false]) (by simp [results, Try.results22, go_sem]) rfl ?_
      exact ⟨⟨none, 0, rfl, World.ownsRow_nil _ _ _ _, fun y hy => (by cases hy), Nat.zero_le _⟩, K0⟩
  | true =>
    obtain ⟨k, rfl, hk⟩ := inB_yes hb
    have hp : ps[k]? = some ps[k] := List.getElem?_eq_getElem hk
    have e1 : atX (ps.map PV.pure) (k : Int) = some ps[k].pure := by simp [atX, hb, hk]
    rw [e1]
    obtain ⟨g, cap, rfl, hcap, c0, c1, c2⟩ := N0.at hp
    obtain ⟨a, c, ev, B⟩ := N.copyW (List.getElem_mem hk) K0
    have okp := N.ok _ (List.getElem_mem hk)
    have hC := copiedR_any _ ps[k].fr ps[k].to a _ c _ B (by have := okp.short; omega)
    rw [ev] at c2
    have HO : Hid (PvOk w ps[k]) := okp
    have hsz : ((w.alloc (.cells #[.int .i64 0, .int .i64 0, .slice none 0 0] 29))).heap.size = w.heap.size + 1 := by simp
    have hk2 := fun (w1 : World) (K1 : Kept (fun _ => False) _ w1) => three ((K1.block _ (by rw [hsz]; omega) (fun h => h)).trans (heap_alloc_new w (.cells #[.int .i64 0, .int .i64 0, .slice none 0 0] 29)))
    have HK2 : Hid _ := hk2
    have e2 : (k : Int) < (ps.length : Int) := by omega
    have e3 : ¬ (ps.length : Int) ≤ (k : Int) := by omega
    have hd : decide ((k : Int) < 0) = false := by simp
    clear hb e1 N N0 B ev hp okp hk2
    generalize ps[k] = p at *
    go_enter Try.func22, Try.ntmps22
    go_wp2_with (first
      | (go_at_call 28; refine hC.mono ?_; rintro e w1 ⟨a1, c1, rfl, ho1, K1⟩; clear hC; obtain ⟨r0, r1, r2, g0, g1, g2⟩ := HK2.out w1 K1; clear HK2)
      | fail)
    refine bodyPost_ret (v := .tuple #[.agg #[.int .i64 p.fr, .int .i64 p.to, .slice a1 p.bs.length c1], .bool true]) (by simp [results, Try.results22, go_sem, r0, r1, r2]) rfl ?_
    have low := fun k hk => (ho1.lt k hk).1
    rw [hsz] at low
    have K3 := Kept.set3 w1 w.heap.size (.int .i64 p.fr) (.int .i64 p.to) (.slice a1 p.bs.length c1)
    refine ⟨⟨a1, c1, rfl, ?_, HO.out.byte, HO.out.short⟩, ?_⟩
    · refine ownsRow_low (base := w.heap.size + 1) ?_ (Nat.le_succ _)
      rw [hsz] at ho1
      exact ownsRow_blk ho1 (fun k hk => K3.block k (ho1.lt k hk).2 (fun e => by have := low k hk; have e' : k = w.heap.size := e; omega))
    · refine Kept.fresh ?_
      exact ((K0.and K1).mono (fun _ h => h.elim)).and (K3.mono (fun k e => Nat.le_of_eq e.symm))

set_option maxRecDepth 100000 in
set_option maxHeartbeats 1000000 in
theorem refSend_any (N : NetR most w S d v ps) (hl : ps.length < 1000) (fr to : Int) (a : Option Addr) (m c : Nat) (b : List Int) (B : BytesAt w a m c b) (hm : m ≤ 200) :
    Calls Try.prog 12 #[.pointer (some ⟨d, 0, none⟩), .agg #[.int .i64 fr, .int .i64 to, .slice a m c]] w fun e w' =>
      e = .returned (.bool (!decide (most ≤ (ps.length : Int)))) ∧ NetTo 44 (hdR most) w S d (sendX most (ps.map PV.pure) (fr, to, b)) w' := by
  obtain ⟨i0, hi, hz0, hz1, hz2⟩ := info_parts Try.info29w
  have K0 : Kept (fun _ => False) w (w.alloc (.cells #[.int .i64 fr, .int .i64 to, .slice a m c] 29)) := Kept.alloc _ _ _
  have N0 := N.keptN K0
  obtain ⟨h0, h1, _⟩ := N0.r0
  obtain ⟨aV, cV, rfl, hcV⟩ := N.shape
  by_cases hfull : most ≤ (ps.length : Int)
  · have e1 : sendX most (ps.map PV.pure) (fr, to, b) = ps.map PV.pure := by simp [sendX, hfull]
    rw [e1]
    have e2 : decide (most ≤ (ps.length : Int)) = true := by simpa using hfull
    rw [e2]
    clear e1 e2
    go_enter Try.func12, Try.ntmps12
    go_wp2_with fail
    go_quiet (fail)
    go_wp2
    go_ret
    exact ⟨rfl, S, _, ps, N0.keptN (Kept.drewN _ _ _), rfl, (K0.and (Kept.drewN _ _ _)).mono (fun _ h => h.elim), fun _ => .inl⟩
  · have e1 : sendX most (ps.map PV.pure) (fr, to, b) = ps.map PV.pure ++ [(fr, to, b)] := by simp [sendX, hfull]
    rw [e1]
    have e2 : decide (most ≤ (ps.length : Int)) = false := by simpa using hfull
    rw [e2]
    clear e1 e2
    go_enter Try.func12, Try.ntmps12
    go_wp2_with fail
    go_quiet (fail)
    go_wp2_with fail
    have KD : Kept (fun _ => False) (w.alloc (.cells #[.int .i64 fr, .int .i64 to, .slice a m c] 29)) ((w.alloc (.cells #[.int .i64 fr, .int .i64 to, .slice a m c] 29)).drewN nq) := Kept.drewN _ _ _
    have hq := (KD.block _ (by simp) (fun h => h)).trans (heap_alloc_new w (.cells #[.int .i64 fr, .int .i64 to, .slice a m c] 29))
    have N1 := N0.keptN KD
    have K1 := K0.and KD
    have hsz : ((w.alloc (.cells #[.int .i64 fr, .int .i64 to, .slice a m c] 29)).drewN nq).heap.size = w.heap.size + 1 := by simp
    generalize hW : (w.alloc (.cells #[.int .i64 fr, .int .i64 to, .slice a m c] 29)).drewN nq = W at *
    clear hW KD K0 N0 h0 h1
    have KW : Kept (fun _ => False) W W.drew := Kept.drew _ W
    have BW := B.kept K1 (fun _ _ _ h => h)
    have hbW : w.heap.size < W.heap.size := by omega
    have hS := fun (V : World) (K : Kept (fun _ => False) W V) => show (V.cell? ⟨w.heap.size, 0, none⟩ = some (.int .i64 fr) ∧ V.cell? ⟨w.heap.size, 1, none⟩ = some (.int .i64 to) ∧ V.cell? ⟨w.heap.size, 2, none⟩ = some (.slice a m c)) ∧ V.cell? ⟨d, 1, none⟩ = some (.slice aV ps.length cV) ∧ V.frozen? ⟨d, 1, none⟩ = false by
      obtain ⟨q0, q1, q2, _⟩ := three ((K.block _ hbW (fun h => h)).trans hq)
      obtain ⟨_, x0, _, f0⟩ := (N1.keptN K).r0
      exact ⟨⟨q0, q1, q2⟩, x0, f0⟩
    obtain ⟨⟨y0, y1, y2⟩, y3, y4⟩ := hS W (Kept.refl _ _)
    have KE : Kept (fun _ => False) W (W.alloc (.cells #[] 29)) := Kept.alloc _ _ _
    obtain ⟨⟨z0, z1, z2⟩, z3, z4⟩ := hS _ KE
    have hem : ((W.alloc (.cells #[] 29)).drew).ownsRow W.heap.size 29 3 (.slice (some ⟨W.heap.size, 0, none⟩) 0 0) 0 [] := World.ownsRow.drew (ownsRow_empty W W.heap.size 29 3 (Nat.le_refl _))
    have src1 : Src ((W.alloc (.cells #[] 29)).drew) 3 (.slice aV ps.length cV) ps.length (netCells ps) := by
      have NE := N1.keptN (KE.and (Kept.drew _ _))
      rcases NE.row.2 with ⟨e, h0⟩ | ⟨g, cap, cur, e, _⟩
      · have hp0 : ps = [] := List.eq_nil_of_length_eq_zero h0
        subst hp0
        simp only [Value.slice.injEq] at e
        obtain ⟨rfl, _, rfl⟩ := e
        exact .inr ⟨0, rfl, rfl, rfl⟩
      · have hr := NE.row
        rw [e] at hr ⊢
        exact .inl ⟨_, _, rfl, by rw [netCells_length], hr.cells rfl⟩
    have one1 := netCells_one N.ok
    have k2 := fun (w2 : World) (hg : ((W.alloc (.cells #[] 29)).drew).grownBy w2 (Value.slice (some ⟨W.heap.size, 0, none⟩) 0 0).ownBlock) => show Kept (fun _ => False) W w2 from
      (KE.and (Kept.drew _ _)).trans (Kept.grown (S := fun k => W.heap.size ≤ k) hg (fun _ e => Nat.le_of_eq (Option.some.inj e))) (fun _ h => .inr h)
    have hC := fun (w2 : World) (K2 : Kept (fun _ => False) W w2) => copiedR_any w2 fr to a m c b (BW.kept K2 (fun _ _ _ h => h)) (by omega)
    have fin := fun (w2 w3 w4 : World) (v2 : Value) (a2 : Option Addr) (c2 : Nat) (K2 : Kept (fun _ => False) W w2) (ho2 : w2.ownsRow W.heap.size 29 3 v2 ps.length (netCells ps)) (K3 : Kept (fun _ => False) w2 w3) (ho3 : w3.ownsRow w2.heap.size 5 1 (.slice a2 m c2) m (b.map (Value.int .u8)))
        (v4 : Value) (ho4 : w4.ownsRow W.heap.size 29 3 v4 (ps.length + 1) (netCells ps ++ [.int .i64 fr, .int .i64 to, .slice a2 m c2])) (hg4 : (w3.alloc (.cells #[.int .i64 fr, .int .i64 to, .slice a2 m c2] 29)).grownBy w4 v2.ownBlock) => show NetTo 44 (hdR most) w S d (ps.map PV.pure ++ [(fr, to, b)]) (w4.setCell ⟨d, 1, none⟩ v4) by
      have hbl : b.length = m := B.len
      have hz2 := K2.size
      have hz3 := K3.size
      have Ka : Kept (fun _ => False) w (w3.alloc (.cells #[.int .i64 fr, .int .i64 to, .slice a2 m c2] 29)) := ((K1.and K2).and K3).and (Kept.alloc _ _ _)
      have Kw4 : Kept (fun k => (Value.slice aV ps.length cV).ownBlock = some k) w w4 := Ka.trans (Kept.grown (S := fun k => W.heap.size ≤ k) hg4 (fun k e => (ho2.lt k e).1)) (fun k h => .inr (by omega)) |>.mono (fun _ h => h.elim)
      have hdl := N.bnd d N.sd
      have nd : ¬ (Value.slice aV ps.length cV).ownBlock = some d := fun e => N.neR (by decide) e rfl
      have hd4 := (Kw4.block d hdl nd).trans N.head
      refine N.push (q := ⟨fr, to, .slice a2 m c2, b⟩) (by decide) (by decide) Kw4 (ownsRow_low ho4 (Nat.zero_le _)) ?_ ⟨?_, B.byte, by rw [hbl]; exact hm⟩ (fun k hk => .inr ?_) (Kept.setCell _ _ _ rfl) ?_ hl
      · obtain ⟨a4, c4, e4⟩ := ownsRow_shape ho4
        cases a4 with
        | none =>
          rcases ho4.2 with ⟨_, h0⟩ | ⟨g, cap, cur, e, _⟩
          · omega
          · rw [e4] at e; simp at e
        | some ad => exact .inr ⟨ad.block, by rw [e4]; rfl, by have := (ho4.lt ad.block (by rw [e4]; rfl)).1; omega⟩
      · rw [hbl]
        refine ownsRow_low (base := w2.heap.size) ?_ (Nat.zero_le _)
        refine ownsRow_blk ho3 (fun k hk => ?_)
        have hk3 := ho3.lt k hk
        exact (hg4.block k (by simp; omega) (fun e => by have := (ho2.lt k e.symm).2; omega)).trans (Below.heap_alloc _ _ _ hk3.2)
      · have := (ho3.lt k hk).1
        omega
      · simp [World.setCell, Array.getElem?_modify, hd4]
    have hk4 := fun (w2 w3 w4 : World) (v2 : Value) (a2 : Option Addr) (c2 : Nat) (K2 : Kept (fun _ => False) W w2) (ho2 : w2.ownsRow W.heap.size 29 3 v2 ps.length (netCells ps)) (K3 : Kept (fun _ => False) w2 w3) (hg4 : (w3.alloc (.cells #[.int .i64 fr, .int .i64 to, .slice a2 m c2] 29)).grownBy w4 v2.ownBlock) => show Kept (fun _ => False) W w4 from
      ((K2.and K3).and (Kept.alloc _ _ _)).trans (Kept.grown (S := fun k => W.heap.size ≤ k) hg4 (fun k e => (ho2.lt k e).1)) (fun k h => .inr h)
    have hrow3 := fun (w2 w3 : World) (v2 : Value) (a2 : Option Addr) (c2 : Nat) (ho2 : w2.ownsRow W.heap.size 29 3 v2 ps.length (netCells ps)) (K3 : Kept (fun _ => False) w2 w3) => show (w3.alloc (.cells #[.int .i64 fr, .int .i64 to, .slice a2 m c2] 29)).ownsRow W.heap.size 29 3 v2 ps.length (netCells ps) from
      ownsRow_blk ho2 (fun k hk => (K3.and (Kept.alloc _ _ _)).block k (ho2.lt k hk).2 (fun h => h))
    have HS : Hid _ := hS
    have HF : Hid _ := fin
    have HC : Hid _ := hC
    have HK2 : Hid _ := k2
    have HK4 : Hid _ := hk4
    have HR : Hid _ := hrow3
    clear hS fin hC k2 hk4 hrow3 N N1 B BW hq KE hsz hbW
    go_region_law
      (first
        | (refine step_append_sr _ (by rfl) _ _ _ (by rfl) W.heap.size 29 i0 _ 3 40 Try.underlying39 hi hz0 hz1 hz2 rfl (by decide) (.slice a5 ps.length c5) ps.length _ (by rfl) (HR.out w5 w3 _ a2 c2 ho5 K3) _ (by rfl) 1 _ (srcNew3 w3 _ _ _ _) netCells_oneP (by unfold maxLen; omega) (by omega) (by have := K5.size; have := K3.size; simp; omega) ?_; intro a4 cap4 w4 ho4 hg4 _ hl4; obtain ⟨_, x7, x8⟩ := HS.out w4 (HK4.out w5 w3 w4 _ a2 c2 K5 ho5 K3 hg4))
        | (refine step_append_sr _ (by rfl) _ _ _ (by rfl) W.heap.size 29 i0 _ 3 40 Try.underlying39 hi hz0 hz1 hz2 rfl (by decide) (.slice (some ⟨W.heap.size, 0, none⟩) 0 0) 0 [] (by rfl) hem _ (by rfl) ps.length _ src1 one1 (by unfold maxLen; omega) (by omega) (by simp) ?_; intro a5 c5 w5 ho5 hg5 _ _; simp only [Nat.zero_add, List.nil_append] at ho5 ⊢; have K5 := HK2.out w5 hg5; obtain ⟨⟨x0, x1, x2⟩, _, _⟩ := HS.out w5 K5; clear hem)
        | (refine step_call1 _ rfl 28 _ _ rfl (enters_of Try.func28 (by kernel_rfl) rfl) _ (by rfl) (HC.out w5 K5) ?_; rintro e w3 ⟨a2, c2, rfl, ho3, K3⟩; refine ⟨_, rfl, ?_⟩)
        | fail)
    all_goals go_wp2
    all_goals go_ret
    all_goals exact ⟨rfl, HF.out w5 w3 w4 _ a2 c2 K5 ho5 K3 ho3 _ ho4 hg4⟩

end

end Go.Proofs.Ythpamcfemhimcaa
