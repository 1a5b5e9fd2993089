/-
  The program's net: Drop, Take, Double.
-/
import Derived.Test.YthpamcfemhimcaaNetDel
namespace Go.Proofs.Ythpamcfemhimcaa
open Go.RowKit

theorem Kept.set3 (w : World) (b : Nat) (x y z : Value) : Kept (fun k => k = b) w (((w.setCell ⟨b, 0, Option.none⟩ x).setCell ⟨b, 1, Option.none⟩ y).setCell ⟨b, 2, Option.none⟩ z) :=
  ((Kept.setCell (S := fun k => k = b) w ⟨b, 0, Option.none⟩ x rfl).and (Kept.setCell (S := fun k => k = b) _ ⟨b, 1, Option.none⟩ y rfl)).and (Kept.setCell (S := fun k => k = b) _ ⟨b, 2, Option.none⟩ z rfl)

theorem ownsRow_low {w : World} {base base' n size : Nat} {e : TypeId} {v : Value} {xs : List Value} (h : w.ownsRow base e size v n xs) (hb : base' ≤ base) : w.ownsRow base' e size v n xs :=
  ⟨h.1, h.2.imp id (fun ⟨g, cap, cur, e, hg, r⟩ => ⟨g, cap, cur, e, Nat.le_trans hb hg, r⟩)⟩

/-- A row without its i-th. -/
def dropX (l : List PX) (i : Int) : List PX := if inB l.length i then l.eraseIdx i.toNat else l

section
variable {w : World} {S : Nat → Prop} {d : Nat} {v : Value} {ps : List PV} {most : Int}

/-- A net from which one parcel is taken. -/
theorem NetIn.erase {T : TypeId} {hd : Value → Array Value} (N : NetIn T hd w S d v ps) {w1 w2 : World} {v' : Value} {i n : Nat} (hi : i < ps.length) (hT : T ≠ 29) (hT8 : T ≠ 5) (K : Kept (fun k => v.ownBlock = some k) w w1) (hn : n = ps.length - 1)
    (row : w1.ownsRow 0 29 3 v' n (netCells (ps.eraseIdx i))) (hb : v'.ownBlock = v.ownBlock) (K2 : Kept (fun k => k = d) w1 w2) (head : w2.heap[d]? = some (.cells (hd v') T (0, 0))) :
    NetIn T hd w2 S d v' (ps.eraseIdx i) ∧ Kept S w w2 := by
  have hle : (ps.eraseIdx i).length = n := by rw [List.length_eraseIdx_of_lt hi, hn]
  have hmem : ∀ p ∈ ps.eraseIdx i, p ∈ ps := fun p hp => List.mem_of_mem_eraseIdx hp
  refine ⟨⟨head, ?_, ?_, N.sd, fun k hk => N.sr k (hb ▸ hk), fun p hp => N.sp p (hmem p hp), fun k hk => Nat.lt_of_lt_of_le (N.bnd k hk) (Nat.le_trans K.size K2.size), ?_⟩, ?_⟩
  · rw [hle]
    exact ownsRow_blk row (fun k hk => K2.block k (row.lt k hk).2 (fun e => N.neR hT (hb ▸ hk) e))
  · intro p hp
    have hp := hmem p hp
    exact ((N.ok p hp).kept K (fun k hk e => N.neRP hp hk e)).kept K2 (fun k hk => N.neP hT8 hp hk)
  · have := N.few; omega
  · exact (K.mono (fun k hk => N.sr k hk)).and (K2.mono (fun k hk => hk ▸ N.sd))

theorem eraseX (ps : List PV) (k : Nat) (hk : k < ps.length) : (ps.eraseIdx k).map PV.pure = dropX (ps.map PV.pure) (k : Int) := by
  unfold dropX
  rw [List.length_map, if_pos (inB_k hk), Int.toNat_natCast, List.eraseIdx_eq_take_drop_succ, List.eraseIdx_eq_take_drop_succ, List.map_append, List.map_take, List.map_drop]

set_option maxRecDepth 100000 in
set_option maxHeartbeats 1000000 in
theorem netDrop_any (N : NetW most w S d v ps) (i : Int) :
    Calls Try.prog 17 #[.pointer (some ⟨d, 0, none⟩), .int .i64 i] w fun e w' =>
      e = .returned (.bool (inB ps.length i)) ∧ ∃ v' ps', NetW most w' S d v' ps' ∧ ps'.map PV.pure = dropX (ps.map PV.pure) i ∧ Kept S w w' := by
  have hH := netHas_any N i
  cases hb : inB ps.length i with
  | false =>
    have e1 : dropX (ps.map PV.pure) i = ps.map PV.pure := by simp [dropX, hb]
    rw [e1]
    rw [hb] at hH
    have HN : Hid (NetW most w S d v ps) := N
    clear hb e1 N
    go_enter Try.func17, Try.ntmps17
    go_wp2_with (first
      | (go_at_call 29; refine hH.mono ?_; rintro e w1 ⟨rfl, rfl⟩; clear hH)
      | fail)
    go_ret
    exact ⟨rfl, v, ps, HN.out, rfl, Kept.refl _ _⟩
  | true =>
    obtain ⟨k, rfl, hk⟩ := inB_yes hb
    rw [hb] at hH
    obtain ⟨g, cap, rfl, hcap, _⟩ := N.at (List.getElem?_eq_getElem hk)
    obtain ⟨q, hq⟩ : ∃ q, ps.length = q + 1 := ⟨ps.length - 1, by omega⟩
    have hfew := N.few
    have hrow := N.row
    rw [hq] at hrow
    have hD := del_any w g cap k q ps hrow hq (by omega) (by omega) (netCells_one N.ok)
    obtain ⟨h0, _, f0, _⟩ := N.w0
    have hdz := N.bnd d N.sd
    have hgd : g ≠ d := N.neR (by decide) rfl
    have k1 := fun (w1 : World) (K1 : Kept (fun k => k = g) w w1) => two ((K1.block d hdz (fun e => hgd (by have e' : d = g := e; omega))).trans N.head)
    have fin := fun (w1 : World) (K1 : Kept (fun k => k = g) w w1) (ho : w1.ownsRow 0 29 3 (.slice (some ⟨g, 0, none⟩) q cap) q (netCells (ps.eraseIdx k))) => N.erase (w2 := w1.setCell ⟨d, 0, none⟩ (.slice (some ⟨g, 0, none⟩) q cap)) hk (by decide) (by decide) (K1.mono (fun k e => by have e' : k = g := e; rw [e']; rfl)) (by omega) ho rfl (Kept.setCell _ _ _ rfl) (by
      have := (K1.block d hdz (fun e => hgd (by have e' : d = g := e; omega))).trans N.head
      simp [World.setCell, Array.getElem?_modify, this])
    have HF : Hid _ := fin
    have HK1 : Hid _ := k1
    have he := eraseX ps k hk
    have HE : Hid _ := he
    have e6 : IntKind.i64.wrap ((k : Int) + 1) = (k : Int) + 1 := by rw [IntKind.wrap_i64]; omega
    have hkq : k ≤ 1000 := by omega
    rw [hq] at h0
    clear hb fin k1 he hrow N hq hcap hfew
    go_enter Try.func17, Try.ntmps17
    go_wp2_with (first
      | (go_at_call 29; refine hH.mono ?_; rintro e w1 ⟨rfl, rfl⟩; clear hH)
      | (go_at_call 30; refine hD.mono ?_; rintro e w1 ⟨rfl, ho1, K1⟩; clear hD; obtain ⟨y0, y1, y2, y3⟩ := HK1.out w1 K1)
      | fail)
    go_ret
    obtain ⟨N2, K2⟩ := HF.out w1 K1 ho1
    exact ⟨rfl, _, _, N2, HE.out, K2⟩

set_option maxRecDepth 100000 in
set_option maxHeartbeats 1000000 in
theorem netTake_any (N : NetW most w S d v ps) (i : Int) :
    Calls Try.prog 13 #[.pointer (some ⟨d, 0, none⟩), .int .i64 i] w fun e w' =>
      CopyOf w.heap.size (atX (ps.map PV.pure) i) e w' ∧ ∃ v' ps', NetW most w' S d v' ps' ∧ ps'.map PV.pure = dropX (ps.map PV.pure) i ∧ Kept S w w' := by
  have K0 : Kept (fun _ => False) w (w.alloc (.cells #[.int .i64 0, .int .i64 0, .slice none 0 0] 29)) := Kept.alloc _ _ _
  have N0 := N.keptN K0
  have hL := netLook_any N0 i
  have hsz : ((w.alloc (.cells #[.int .i64 0, .int .i64 0, .slice none 0 0] 29))).heap.size = w.heap.size + 1 := by simp
  have hbnd := N.bnd
  generalize hx : atX (ps.map PV.pure) i = o at *
  generalize hl : dropX (ps.map PV.pure) i = l' at *
  obtain ⟨fr, to, bs, hpx⟩ : ∃ fr to bs, o.getD px0 = (fr, to, bs) := ⟨_, _, _, rfl⟩
  unfold Given CopyOf at hL
  unfold CopyOf
  rw [hpx, hsz] at hL
  rw [hpx]
  simp only at hL ⊢
  -- behind Look the net is as it was, and a parcel is laid
  have k1 := fun (w1 : World) (a1 : Option Addr) (c1 : Nat) (K1 : Kept (fun _ => False) (w.alloc (.cells #[.int .i64 0, .int .i64 0, .slice none 0 0] 29)) w1) => (N0.keptN K1).keptN (Kept.alloc (fun _ => False) w1 (.cells #[.int .i64 fr, .int .i64 to, .slice a1 bs.length c1] 29))
  have hD := fun w1 a1 c1 K1 => netDrop_any (k1 w1 a1 c1 K1) i
  rw [hl] at hD
  have low : ∀ k, w.heap.size ≤ k → ¬ S k := fun k hk hs => by have := hbnd k hs; omega
  have k2 := fun (w1 w2 : World) (a1 : Option Addr) (c1 : Nat) (K1 : Kept (fun _ => False) (w.alloc (.cells #[.int .i64 0, .int .i64 0, .slice none 0 0] 29)) w1) (K2 : Kept S (w1.alloc (.cells #[.int .i64 fr, .int .i64 to, .slice a1 bs.length c1] 29)) w2) => show _ ∧ _ from
    ⟨three ((K2.block w.heap.size (by have := K1.size; simp at this ⊢; omega) (low _ (Nat.le_refl _))).trans ((Below.heap_alloc w1 _ _ (by have := K1.size; simp at this; omega)).trans ((K1.block _ (by rw [hsz]; omega) (fun h => h)).trans (heap_alloc_new w _)))),
     three ((K2.block w1.heap.size (by simp) (low _ (by have := K1.size; simp at this; omega))).trans (heap_alloc_new w1 _))⟩
  have HD : Hid _ := hD
  have HK2 : Hid _ := k2
  clear hD k2 k1 N N0
  go_enter Try.func13, Try.ntmps13
  go_wp2_with (first
    | (go_at_call 21; refine hL.mono ?_; rintro e w1 ⟨⟨a1, c1, rfl, ho1, hby, hsh⟩, K1⟩; clear hL; have hD := HD.out w1 a1 c1 K1; have k2 := fun w2 => HK2.out w1 w2 a1 c1 K1; clear HD HK2)
    | (go_at_call 17; refine hD.mono ?_; rintro e w2 ⟨rfl, v2, ps2, N2, hp2, K2⟩; clear hD; obtain ⟨⟨p0, p1, p2, f0, f1, f2⟩, r0, r1, r2, _, _, _⟩ := k2 w2 K2; clear k2)
    | fail)
  refine bodyPost_ret (v := .tuple #[.agg #[.int .i64 fr, .int .i64 to, .slice a1 bs.length c1], .bool o.isSome]) (by simp [results, Try.results13, go_sem, p0, p1, p2]) rfl ?_
  have K3 := Kept.set3 w2 w.heap.size (.int .i64 fr) (.int .i64 to) (.slice a1 bs.length c1)
  have hz1 := K1.size
  rw [hsz] at hz1
  refine ⟨⟨a1, c1, rfl, ?_, hby, hsh⟩, v2, ps2, N2.kept K3 (fun k hk e => low k (Nat.le_of_eq e.symm) hk), hp2, ?_⟩
  · have hlt := fun k hk => (ho1.lt k hk)
    refine ownsRow_low (base := w.heap.size + 1) ?_ (Nat.le_succ _)
    refine ownsRow_blk ho1 (fun k hk => ?_)
    have := hlt k hk
    refine (K3.block k (Nat.lt_of_lt_of_le (by simp; omega) K2.size) (fun e => by have e' : k = w.heap.size := e; omega)).trans ?_
    exact (K2.block k (by simp; omega) (low k (by omega))).trans (Below.heap_alloc _ _ _ this.2)
  · refine Kept.trans ?_ K3 (fun k e => .inr (Nat.le_of_eq e.symm))
    exact (((K0.and K1).and (Kept.alloc _ _ _)).mono (fun _ h => h.elim)).and K2

/-- What Double makes of a row. -/
def doubleX (most : Int) (l : List PX) (i : Int) : List PX := match atX l i with | some x => sendX most l x | none => l

set_option maxRecDepth 100000 in
set_option maxHeartbeats 1000000 in
theorem netDouble_any (N : NetW most w S d v ps) (hl : ps.length < 1000) (i : Int) :
    Calls Try.prog 19 #[.pointer (some ⟨d, 0, none⟩), .int .i64 i] w fun e w' =>
      e = .returned (.bool (inB ps.length i && !decide (most ≤ (ps.length : Int)))) ∧ NetTo 53 (hdW most) w S d (doubleX most (ps.map PV.pure) i) w' := by
  obtain ⟨i0, hi, hz0, hz1, hz2⟩ := info_parts Try.info29w
  have hH := netHas_any N i
  have hF := netFull_any N
  cases hb : inB ps.length i with
  | false =>
    have e1 : doubleX most (ps.map PV.pure) i = ps.map PV.pure := by simp [doubleX, atX, hb]
    rw [e1]
    rw [hb] at hH
    simp only [Bool.false_and]
    have HN : Hid (NetW most w S d v ps) := N
    clear hb e1 N hF
    go_enter Try.func19, Try.ntmps19
    go_wp2_with (first
      | (go_at_call 29; refine hH.mono ?_; rintro e w1 ⟨rfl, rfl⟩; clear hH)
      | fail)
    go_ret
    exact ⟨rfl, S, v, ps, HN.out, rfl, Kept.refl _ _, fun _ => .inl⟩
  | true =>
    obtain ⟨k, rfl, hk⟩ := inB_yes hb
    have hat : atX (ps.map PV.pure) (k : Int) = some ps[k].pure := by simp [atX, hb, hk]
    rw [hb] at hH
    simp only [Bool.true_and]
    by_cases hfull : most ≤ (ps.length : Int)
    · have e1 : doubleX most (ps.map PV.pure) (k : Int) = ps.map PV.pure := by simp [doubleX, hat, sendX, hfull]
      rw [e1]
      have e2 : decide (most ≤ (ps.length : Int)) = true := by simpa using hfull
      rw [e2] at hF ⊢
      have HN : Hid (NetW most w S d v ps) := N
      clear hb e1 N hfull hat e2
      go_enter Try.func19, Try.ntmps19
      go_wp2_with (first
        | (go_at_call 29; refine hH.mono ?_; rintro e w1 ⟨rfl, rfl⟩; clear hH)
        | (go_at_call 26; refine hF.mono ?_; rintro e w1 ⟨rfl, n1, rfl⟩; clear hF)
        | fail)
      go_ret
      exact ⟨rfl, S, v, ps, HN.out.keptN (Kept.drewN _ _ _), rfl, Kept.drewN _ _ _, fun _ => .inl⟩
    · have e1 : doubleX most (ps.map PV.pure) (k : Int) = ps.map PV.pure ++ [ps[k].pure] := by simp [doubleX, hat, sendX, hfull]
      rw [e1]
      have e2 : decide (most ≤ (ps.length : Int)) = false := by simpa using hfull
      rw [e2] at hF ⊢
      obtain ⟨g, cap, rfl, hcap, c0, c1, c2⟩ := N.at (List.getElem?_eq_getElem hk)
      have okp := N.ok _ (List.getElem_mem hk)
      have spp := N.sp _ (List.getElem_mem hk)
      obtain ⟨h0, _, f0, _⟩ := N.w0
      have hdz := N.bnd d N.sd
      have hgd : g ≠ d := N.neR (by decide) rfl
      obtain ⟨a, c, ev⟩ := ownsRow_shape okp.row
      have hgz := (N.row.lt g rfl).2
      have oneP := okp.one
      rw [show pvCells ps[k] = [.int .i64 ps[k].fr, .int .i64 ps[k].to, ps[k].v] from rfl] at oneP
      have fin := fun (W : World) (KW : Kept (fun _ => False) w W) (w3 : World) (v3 : Value) (ho3 : w3.ownsRow 0 29 3 v3 (ps.length + 1) (netCells ps ++ [.int .i64 ps[k].fr, .int .i64 ps[k].to, ps[k].v])) (hg3 : ((W.alloc (.cells #[.int .i64 ps[k].fr, .int .i64 ps[k].to, ps[k].v] 29)).drew).grownBy w3 (Value.slice (some ⟨g, 0, none⟩) ps.length cap).ownBlock)
          (hl3 : v3.ownBlock = (Value.slice (some ⟨g, 0, none⟩) ps.length cap).ownBlock ∨ v3.ownBlock = some ((W.alloc (.cells #[.int .i64 ps[k].fr, .int .i64 ps[k].to, ps[k].v] 29)).drew).heap.size) => show NetTo 53 (hdW most) w S d (ps.map PV.pure ++ [ps[k].pure]) (w3.setCell ⟨d, 0, none⟩ v3) by
        have Ka : Kept (fun _ => False) w ((W.alloc (.cells #[.int .i64 ps[k].fr, .int .i64 ps[k].to, ps[k].v] 29)).drew) := (KW.and (Kept.alloc _ _ _)).and (Kept.drew _ _)
        have Kw3 : Kept (fun kk => (Value.slice (some ⟨g, 0, none⟩) ps.length cap).ownBlock = some kk) w w3 := (Ka.mono (fun _ h => h.elim)).and (Kept.grown hg3 (fun k e => e))
        have hd3 := (Kw3.block d hdz (fun e => hgd (by cases e; rfl))).trans N.head
        refine N.push (q := ps[k]) (by decide) (by decide) Kw3 ho3 (hl3.imp id (fun h => ⟨_, h, Ka.size⟩)) (okp.kept Kw3 (fun kk hkk e => N.neRP (List.getElem_mem hk) hkk e)) (fun kk hkk => .inl (spp kk hkk)) (Kept.setCell _ _ _ rfl) ?_ hl
        simp [World.setCell, Array.getElem?_modify, hd3]
      have HF : Hid _ := fin
      have hk2 := fun (W : World) (KW : Kept (fun _ => False) w W) => show (W.cell? ⟨d, 0, none⟩ = some (.slice (some ⟨g, 0, none⟩) ps.length cap) ∧ W.frozen? ⟨d, 0, none⟩ = false ∧ W.cell? ⟨g, k * 3, none⟩ = some (.int .i64 ps[k].fr) ∧ W.cell? ⟨g, k * 3 + 1, none⟩ = some (.int .i64 ps[k].to) ∧ W.cell? ⟨g, k * 3 + 2, none⟩ = some ps[k].v) ∧ (W.alloc (.cells #[.int .i64 ps[k].fr, .int .i64 ps[k].to, ps[k].v] 29)).cell? ⟨d, 0, none⟩ = some (.slice (some ⟨g, 0, none⟩) ps.length cap) ∧ ((W.alloc (.cells #[.int .i64 ps[k].fr, .int .i64 ps[k].to, ps[k].v] 29)).drew).ownsRow 0 29 3 (.slice (some ⟨g, 0, none⟩) ps.length cap) ps.length (netCells ps) by
        have N3 := N.keptN ((KW.and (Kept.alloc _ _ (.cells #[.int .i64 ps[k].fr, .int .i64 ps[k].to, ps[k].v] 29))).and (Kept.drew _ _))
        have N4 := N.keptN KW
        obtain ⟨g', cap', e', _, q0, q1, q2⟩ := N4.at (List.getElem?_eq_getElem hk)
        simp only [Value.slice.injEq, Option.some.injEq, Addr.mk.injEq] at e'
        obtain ⟨⟨rfl, _⟩, _⟩ := e'
        exact ⟨⟨N4.w0.1, N4.w0.2.2.1, q0, q1, q2⟩, N3.w0.1, N3.row⟩
      have hk3 := fun (W : World) (KW : Kept (fun _ => False) w W) (w3 : World) (hg3 : ((W.alloc (.cells #[.int .i64 ps[k].fr, .int .i64 ps[k].to, ps[k].v] 29)).drew).grownBy w3 (Value.slice (some ⟨g, 0, none⟩) ps.length cap).ownBlock) => show w3.cell? ⟨d, 0, none⟩ = some (.slice (some ⟨g, 0, none⟩) ps.length cap) ∧ w3.frozen? ⟨d, 0, none⟩ = false by
        have N3 := N.keptN ((KW.and (Kept.alloc _ _ (.cells #[.int .i64 ps[k].fr, .int .i64 ps[k].to, ps[k].v] 29))).and (Kept.drew _ _))
        have hb := hg3.block d (N3.bnd d N3.sd) (fun e => N3.neR (by decide) e.symm rfl)
        exact ⟨(World.cell?_of_block hb).trans N3.w0.1, (World.frozen?_of_block hb).trans N3.w0.2.2.1⟩
      have HK2 : Hid _ := hk2
      have HK3 : Hid _ := hk3
      have e5 : (k : Int) < (ps.length : Int) := by omega
      rw [ev] at HF HK2 HK3 oneP
      clear hb fin hk2 hk3 N okp spp ev hat e1 e2 c0 c1 c2 h0 f0
      generalize ps[k].fr = fr at *
      generalize ps[k].to = to at *
      generalize ps[k].bs = bs at *
      go_enter Try.func19, Try.ntmps19
      go_wp2_with (first
        | (go_at_call 29; refine hH.mono ?_; rintro e w0 ⟨rfl, hw0⟩; subst w0; clear hH)
        | (go_at_call 26; refine hF.mono ?_; rintro e w1 ⟨rfl, n1, rfl⟩; clear hF)
        | fail)
      have KW : Kept (fun _ => False) w (w.drewN n1) := Kept.drewN _ _ _
      generalize w.drewN n1 = W at *
      obtain ⟨⟨y0, y1, y2, y3, y4⟩, z1, z2⟩ := HK2.out W KW
      go_region_law
        (first
          | (refine step_append_sr _ (by rfl) _ _ _ (by rfl) 0 29 i0 _ 3 40 Try.underlying39 hi hz0 hz1 hz2 rfl (by decide) (.slice (some ⟨g, 0, none⟩) ps.length cap) ps.length _ (by rfl) z2 _ (by rfl) 1 _ (show Src _ _ _ _ _ from srcNew3 W _ _ _ _) oneP (by unfold maxLen; omega) (by omega) (Nat.zero_le _) ?_; intro a3 cap3 w3 ho3 hg3 _ hl3; obtain ⟨u0, u1⟩ := HK3.out W KW w3 hg3))
      all_goals go_wp2
      all_goals go_ret
      all_goals exact ⟨rfl, HF.out W KW w3 _ ho3 hg3 hl3⟩

end

end Go.Proofs.Ythpamcfemhimcaa
