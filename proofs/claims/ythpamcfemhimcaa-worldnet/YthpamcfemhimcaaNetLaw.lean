/-
  The walk of WorldNet.
-/
import Derived.Test.YthpamcfemhimcaaNet40
namespace Go.Proofs.Ythpamcfemhimcaa
open Go.RowKit Go.Shelf
attribute [local go_sem] Oper.semAt_some

/-- Which blocks the nets may have. -/
def XN (lo b8 : Nat) (k : Nat) : Prop := lo + 2 ≤ k ∧ k ≠ b8

/-- What stands ahead of each round: both nets are the row l; the boxes stand. -/
structure NSt (w wr : World) (most stop : Int) (d r b8 : Nat) (k : Nat) (l : List PX) : Prop where
  nets : NM (XN w.heap.size b8) most (if most < 0 then 0 else most) d r l l wr
  len : l.length ≤ k
  bx5 : wr.heap[w.heap.size]? = some (.cells #[.int .i64 stop] 3 (0, 0))
  bx6 : wr.heap[w.heap.size + 1]? = some (.cells #[.bool false] 4 (0, 0))
  bx8 : wr.heap[b8]? = some (.cells #[.pointer (some ⟨r, 0, none⟩)] 25 (0, 0))
  lo8 : w.heap.size + 2 ≤ b8
  below : Below w.heap.size w wr

theorem NSt.new {w w1 w2 : World} {most stop : Int} (N1 : NetW most w1 (fun k => k = ((w.alloc (.cells #[.int .i64 stop] 3)).alloc (.cells #[.bool false] 4)).heap.size) ((w.alloc (.cells #[.int .i64 stop] 3)).alloc (.cells #[.bool false] 4)).heap.size (.slice none 0 0) []) (K1 : Kept (fun _ => False) ((w.alloc (.cells #[.int .i64 stop] 3)).alloc (.cells #[.bool false] 4)) w1) (hz1 : w1.heap.size = ((w.alloc (.cells #[.int .i64 stop] 3)).alloc (.cells #[.bool false] 4)).heap.size + 1)
    (N2 : NetR (if most < 0 then 0 else most) w2 (fun k => k = w1.heap.size) w1.heap.size (.slice none 0 0) []) (K2 : Kept (fun _ => False) w1 w2) (hz2 : w2.heap.size = w1.heap.size + 1) :
    NSt w (w2.alloc (.cells #[.pointer (some ⟨w1.heap.size, 0, none⟩)] 25)) most stop (w.heap.size + 1 + 1) w1.heap.size w2.heap.size 0 [] := by
  have hz : ((w.alloc (.cells #[.int .i64 stop] 3)).alloc (.cells #[.bool false] 4)).heap.size = w.heap.size + 1 + 1 := by simp
  rw [hz] at N1 hz1
  obtain ⟨q5, q6⟩ := heap_two w (.cells #[.int .i64 stop] 3) (.cells #[.bool false] 4)
  have K12 : Kept (fun _ => False) ((w.alloc (.cells #[.int .i64 stop] 3)).alloc (.cells #[.bool false] 4)) (w2.alloc (.cells #[.pointer (some ⟨w1.heap.size, 0, none⟩)] 25)) := (K1.and K2).and (Kept.alloc _ _ _)
  have K0 : Kept (fun _ => False) w ((w.alloc (.cells #[.int .i64 stop] 3)).alloc (.cells #[.bool false] 4)) := (Kept.alloc _ _ _).and (Kept.alloc _ _ _)
  refine ⟨⟨_, _, _, _, [], [], N1.keptN (K2.and (Kept.alloc _ _ _)), N2.keptN (Kept.alloc _ _ _), rfl, rfl, ?_, ?_, ?_⟩, Nat.le_refl _, (K12.block _ (by omega) (fun h => h)).trans q5, (K12.block _ (by omega) (fun h => h)).trans q6, heap_alloc_new w2 _, by omega, (K0.and K12).none⟩
  · rintro k rfl h
    omega
  · rintro k rfl
    exact ⟨by omega, by omega⟩
  · rintro k rfl
    exact ⟨by omega, by omega⟩

theorem XN.new {w wr : World} {most stop : Int} {d r b8 k : Nat} {l : List PX} (S : NSt w wr most stop d r b8 k l) {j : Nat} (h : wr.heap.size ≤ j) : XN w.heap.size b8 j := by
  have h8 := (Array.getElem?_eq_some_iff.1 S.bx8).1
  have := S.lo8
  exact ⟨by omega, by omega⟩

/-- The round's end. -/
theorem NSt.next {w wr w9 : World} {most stop : Int} {d r b8 k : Nat} {l l' : List PX} {Y : Nat → Prop} (S : NSt w wr most stop d r b8 k l) (N : NM Y most (if most < 0 then 0 else most) d r l' l' w9) (hY : ∀ j, Y j → XN w.heap.size b8 j ∨ wr.heap.size ≤ j) (K : Kept (XN w.heap.size b8) wr w9) (hl : l'.length ≤ k + 1) : NSt w w9 most stop d r b8 (k + 1) l' := by
  have h5 := (Array.getElem?_eq_some_iff.1 S.bx5).1
  have h6 := (Array.getElem?_eq_some_iff.1 S.bx6).1
  have h8 := (Array.getElem?_eq_some_iff.1 S.bx8).1
  refine ⟨N.mono (fun j hj => (hY j hj).elim id (fun h => XN.new S h)), hl, (K.block _ h5 (fun h => by have := h.1; omega)).trans S.bx5, (K.block _ h6 (fun h => by have := h.1; omega)).trans S.bx6, (K.block _ h8 (fun h => h.2 rfl)).trans S.bx8, S.lo8, S.below.trans (K.below S.below.size (fun j h => by have := h.1; omega))⟩

theorem nm_sendR' {X : Nat → Prop} {most : Int} {d r : Nat} {l1 l2 : List PX} {w : World} (N : NM X most (if most < 0 then 0 else most) d r l1 l2 w) (hl : l2.length < 1000) (fr to : Int) (a : Option Addr) (n c : Nat) (b : List Int) (B : BytesAt w a n c b) (hm : n ≤ 200) :
    Calls Try.prog 12 #[.pointer (some ⟨r, 0, none⟩), .agg #[.int .i64 fr, .int .i64 to, .slice a n c]] w fun e w' =>
      e = .returned (.bool (!decide (most ≤ (l2.length : Int)))) ∧ NM (fun k => X k ∨ w.heap.size ≤ k) most (if most < 0 then 0 else most) d r l1 (sendX most l2 (fr, to, b)) w' ∧ Kept X w w' := by
  refine (nm_sendR N hl fr to a n c b B hm).mono ?_
  rintro e w' ⟨he, h⟩
  rw [(sendX_most most l2 (fr, to, b)).2] at he
  rw [(sendX_most most l2 (fr, to, b)).1] at h
  exact ⟨he, h⟩

theorem nm_doubleR' {X : Nat → Prop} {most : Int} {d r : Nat} {l1 l2 : List PX} {w : World} (N : NM X most (if most < 0 then 0 else most) d r l1 l2 w) (hl : l2.length < 1000) (i : Int) :
    Calls Try.prog 20 #[.pointer (some ⟨r, 0, none⟩), .int .i64 i] w fun e w' =>
      e = .returned (.bool (inB l2.length i && !decide (most ≤ (l2.length : Int)))) ∧ NM (fun k => X k ∨ w.heap.size ≤ k) most (if most < 0 then 0 else most) d r l1 (doubleX most l2 i) w' ∧ Kept X w w' := by
  refine (nm_doubleR N hl i).mono ?_
  rintro e w' ⟨he, h⟩
  rw [(sendX_most most l2 px0).2] at he
  rw [doubleX_most most l2 i] at h
  exact ⟨he, h⟩

theorem nm_lookA {X : Nat → Prop} {most m : Int} {d r : Nat} {l1 l2 : List PX} {w : World} (N : NM X most m d r l1 l2 w) (i : Int) :
    Calls Try.prog 21 #[.pointer (some ⟨d, 0, none⟩), .int .i64 i] w fun e w' =>
      CopyOf w.heap.size (atX l1 i) e w' ∧ NM X most m d r l1 l2 w' ∧ Kept X w w' :=
  (nm_look N i).mono (fun _ _ h => ⟨h.1, h.2.1, h.2.2.mono (fun _ h => h.elim)⟩)

theorem nm_lookB {X : Nat → Prop} {most m : Int} {d r : Nat} {l1 l2 : List PX} {w : World} (N : NM X most m d r l1 l2 w) (i : Int) :
    Calls Try.prog 22 #[.pointer (some ⟨r, 0, none⟩), .int .i64 i] w fun e w' =>
      CopyOf w.heap.size (atX l2 i) e w' ∧ NM (fun k => X k ∨ w.heap.size ≤ k) most m d r l1 l2 w' ∧ Kept X w w' :=
  (nm_lookR N i).mono (fun _ _ h => ⟨h.1, h.2.1.mono (fun _ => .inl), h.2.2.mono (fun _ h => h.elim)⟩)

/-- What stands while All is ranged over: k parcels were told. -/
structure RJ0 (M : Nat → Prop) (W3 : World) (kx rs L : Nat) (r : Loop) (k : Nat) (V : World) : Prop where
  kept : Kept M W3 V
  kbox : V.heap[kx]? = some (.cells #[.int .i64 (k : Int)] 3 (0, 0))
  res : V.heap[rs]? = some (.cells #[.bool false] 4 (0, 0))
  rc_ : V.heap[L]? = some (.loop r)

/-- A round has left: the answer is true. -/
structure RX0 (M : Nat → Prop) (W3 : World) (rs L : Nat) (r : Loop) (V : World) : Prop where
  kept : Kept M W3 V
  res : V.heap[rs]? = some (.cells #[.bool true] 4 (0, 0))
  rc_ : V.heap[L]? = some (.loop { r with state := .done, pending := some .ret })

theorem RJ0.keep {M : Nat → Prop} {W3 : World} {kx rs L : Nat} {r : Loop} {k : Nat} {A B : World} (hx : kx < W3.heap.size) (hs : rs < W3.heap.size) (hL : L < W3.heap.size) (h : RJ0 M W3 kx rs L r k A) (K : Kept (fun b => W3.heap.size ≤ b) A B) : RJ0 M W3 kx rs L r k B := by
  have hz := h.kept.size
  exact ⟨h.kept.trans K (fun b hb => .inr hb), (K.block _ (by omega) (by omega)).trans h.kbox, (K.block _ (by omega) (by omega)).trans h.res, (K.block _ (by omega) (by omega)).trans h.rc_⟩

theorem RX0.keep {M : Nat → Prop} {W3 : World} {rs L : Nat} {r : Loop} {A B : World} (hs : rs < W3.heap.size) (hL : L < W3.heap.size) (h : RX0 M W3 rs L r A) (K : Kept (fun b => W3.heap.size ≤ b) A B) : RX0 M W3 rs L r B := by
  have hz := h.kept.size
  exact ⟨h.kept.trans K (fun b hb => .inr hb), (K.block _ (by omega) (by omega)).trans h.res, (K.block _ (by omega) (by omega)).trans h.rc_⟩

/-- A lent row, as bytes. -/
theorem lentBytes {w : World} {base g m cap : Nat} {b : List Int} (ho : w.ownsRow base 5 1 (.slice (some ⟨g, 0, none⟩) (m + 4) cap) (m + 4) (lentOf b)) (hb : ∀ y ∈ b, 0 ≤ y ∧ y ≤ 255) (hl : b.length = m) : BytesAt w (some ⟨g, 0, none⟩) m cap b := by
  have hl2 : (b ++ [201, 202, 203, 204]).length = m + 4 := by rw [List.length_append, hl]; rfl
  have h2 : w.ownsRow base 5 1 (.slice (some ⟨g, 0, none⟩) (b ++ [201, 202, 203, 204]).length cap) (b ++ [201, 202, 203, 204]).length ((b ++ [201, 202, 203, 204]).map (Value.int .u8)) := by
    rw [hl2, List.map_append]; exact ho
  have h3 := BytesAt.ofRow h2 (fun x hx => by
    rcases List.mem_append.1 hx with h | h
    · exact hb x h
    · simp at h; omega)
  rw [hl2] at h3
  have h4 := h3.take (h := m) (by omega)
  rwa [List.take_append_of_le_length (by omega), List.take_of_length_le (by omega)] at h4

set_option maxRecDepth 100000 in
set_option maxHeartbeats 4000000 in
theorem net_walk (most stop : Int) (ap : Option Addr) (np cp : Nat) (xs : List QX) (w : World) (O : QsAt w ap np cp xs) :
    Calls Try.prog 3 #[.int .i64 most, .slice ap np cp, .int .i64 stop] w fun e w' => e = .returned (.bool true) ∧ Below w.heap.size w w' := by
  have hlen := O.len
  have hcap := O.cap
  have HO : Hid (QsAt w ap np cp xs) := O
  clear O
  refine (callsIn_wide (n := 9)).1 ?_
  refine callsIn_of_wp_marks Try.func3 rfl trivial ?_ rfl
  simp only [Try.ntmps3, List.size_toArray, List.length_cons, List.length_nil, Nat.reduceAdd, Nat.reduceSub, Array.replicate_succ, Array.replicate_zero, List.push_toArray, List.append_toArray, List.nil_append, List.cons_append]
  refine wpIn_wide.2 ?_
  go_wp2_with (first
    | (go_at_call 5; refine (newNet_any _ _).mono ?_; rintro e w1 ⟨rfl, N1, K1, hz1⟩; have HN1 : Hid _ := N1; have HK1 : Hid _ := K1; have HZ1 : Hid _ := hz1; clear N1 K1 hz1)
    | (go_at_call 6; refine (refNet_any _ _).mono ?_; rintro e w2 ⟨rfl, N2, K2, hz2⟩; have HN2 : Hid _ := N2; have HK2 : Hid _ := K2; have HZ2 : Hid _ := hz2; clear N2 K2 hz2)
    | fail)
  have HS0 : Hid _ := NSt.new HN1.out HK1.out HZ1.out HN2.out HK2.out HZ2.out
  clear HN1 HK1 HZ1 HN2 HK2 HZ2
  generalize w2.alloc (.cells #[.pointer (some ⟨w1.heap.size, 0, none⟩)] 25) = w3 at *
  generalize w.heap.size + 1 + 1 = d at *
  generalize w1.heap.size = r at *
  generalize w2.heap.size = b8 at *
  go_loopw [9] (fun i wr => ∃ (k : Nat) (l : List PX), k ≤ np ∧ k ≤ 200 ∧ i = .int .i64 k ∧ NSt w wr most stop d r b8 k l) (fun i _ => np - (Go.RowKit.intOf i).toNat)
  case atStart => exact ⟨0, [], Nat.zero_le _, Nat.zero_le _, rfl, HS0.out⟩
  case round =>
    obtain ⟨k, l, hk, hk2, rfl, St⟩ := hrel
    by_cases hgo : k < np ∧ k < 200
    · obtain ⟨hkn, hk3⟩ := hgo
      have hc1 : (k : Int) < (np : Int) := by omega
      have hc2 : (k : Int) < 200 := by omega
      obtain ⟨x, b, off, rfl, hbl, QC, QB, QL⟩ := HO.out.at St.below hkn
      obtain ⟨q0, q1, q2, q3, q4⟩ := QC
      have hcl := clip_any
      have hwi := fun W => within_any W x.dd 5 (by decide) (by decide)
      have hm0 := Int.emod_nonneg x.dd (show (5 : Int) ≠ 0 by decide)
      have hm5 := Int.emod_lt_of_pos x.dd (show (0 : Int) < 5 by decide)
      have hcapb := QB.cap
      have HSt : Hid _ := St
      have HQB : Hid _ := QB
      clear St QB
      generalize hdo : x.dd % 5 = dd at *
      clear hdo
      rcases (show dd = 0 ∨ dd = 1 ∨ dd = 2 ∨ dd = 3 ∨ dd = 4 by omega) with rfl | rfl | rfl | rfl | rfl
      · go_wp2_with (first
          | (go_at_call 7; refine (hcl _ _ _ _ hcapb).mono ?_; rintro e w0 ⟨rfl, hw0⟩; subst w0)
          | (go_at_call 8; refine (hwi _).mono ?_; rintro e w0 ⟨rfl, hw0⟩; subst w0)
          | fail)
        have HBB : Hid (x.bs = [] → x.bs.take (min x.bm 200) = []) := fun h => by rw [h]; simp
        have K0 : Kept (fun _ => False) wr (wr.alloc (.cells #[.int .i64 x.dd, .int .i64 x.ii, .int .i64 x.fr, .int .i64 x.to, .slice x.ba (min x.bm 200) x.bc] 31)) := Kept.alloc _ _ _
        have hx0 := heap_alloc_new wr (.cells #[.int .i64 x.dd, .int .i64 x.ii, .int .i64 x.fr, .int .i64 x.to, .slice x.ba (min x.bm 200) x.bc] 31)
        have hz0 : (wr.alloc (.cells #[.int .i64 x.dd, .int .i64 x.ii, .int .i64 x.fr, .int .i64 x.to, .slice x.ba (min x.bm 200) x.bc] 31)).heap.size = wr.heap.size + 1 := by simp
        have N0 := HSt.out.nets.tight.keptN K0
        have B0 := (HQB.out.take (Nat.min_le_left x.bm 200)).kept K0 (fun _ _ _ h => h)
        have h80 := (K0.block b8 (Array.getElem?_eq_some_iff.1 HSt.out.bx8).1 (fun h => h)).trans HSt.out.bx8
        have hlb := HSt.out.len
        have h8n : b8 < wr.heap.size := (Array.getElem?_eq_some_iff.1 HSt.out.bx8).1
        generalize hW0 : (wr.alloc (.cells #[.int .i64 x.dd, .int .i64 x.ii, .int .i64 x.fr, .int .i64 x.to, .slice x.ba (min x.bm 200) x.bc] 31)) = W0 at *
        clear hW0
        have hbl0 : (x.bs.take (min x.bm 200)).length = min x.bm 200 := B0.len
        have hby0 := B0.byte
        have hm200 : min x.bm 200 ≤ 200 := Nat.min_le_right _ _
        generalize x.bs.take (min x.bm 200) = bb at *
        generalize min x.bm 200 = mm at *
        have K1 : Kept (fun _ => False) W0 (W0.alloc (.cells #[.int .i64 x.fr, .int .i64 x.to, .slice x.ba mm x.bc] 29)) := Kept.alloc _ _ _
        have hz1 : (W0.alloc (.cells #[.int .i64 x.fr, .int .i64 x.to, .slice x.ba mm x.bc] 29)).heap.size = wr.heap.size + 2 := by simp; omega
        have hP := heap_alloc_new W0 (.cells #[.int .i64 x.fr, .int .i64 x.to, .slice x.ba mm x.bc] 29)
        rw [hz0] at hP
        have hLd := lend_any _ x.ba mm x.bc bb (B0.kept K1 (fun _ _ _ h => h)) (by omega)
        have lob : bb ≠ [] → ∀ ad, x.ba = some ad → ad.block < w.heap.size := fun hne ad e => QL (fun h => hne (HBB.out h)) ad e
        have hloz := HSt.out.below.size
        have h2 := fun (w2 : World) (K2 : Kept (fun _ => False) _ w2) => three ((K2.block (wr.heap.size + 1) (by rw [hz1]; omega) (fun h => h)).trans hP)
        have h3 := fun (w2 : World) (g cap : Nat) (ho2 : w2.ownsRow (wr.heap.size + 2) 5 1 (.slice (some ⟨g, 0, none⟩) (mm + 4) cap) (mm + 4) (lentOf bb)) (K2 : Kept (fun _ => False) _ w2) => nm_send ((N0.keptN (K1.and K2)).kept (Kept.setCell (S := fun k => k = (wr.heap.size + 1)) w2 ⟨wr.heap.size + 1, 2, none⟩ (.slice (some ⟨g, 0, none⟩) mm cap) rfl) (fun k hk e => by have := hk.2; have e' : k = (wr.heap.size + 1) := e; omega)) (by omega) x.fr x.to (some ⟨g, 0, none⟩) mm cap bb ((lentBytes ho2 hby0 hbl0).kept (Kept.setCell (S := fun k => k = (wr.heap.size + 1)) w2 ⟨wr.heap.size + 1, 2, none⟩ _ rfl) (fun _ ad e e2 => by cases e; have := (ho2.lt g rfl).1; have e' : g = (wr.heap.size + 1) := e2; omega)) hm200
        rw [hz1] at hLd
        have H3 : Hid _ := h3
        have H2 : Hid _ := h2
        clear h2 h3
        go_wp2_with (first
          | (go_at_call 9; refine hLd.mono ?_; rintro e w2 ⟨g, cap, rfl, ho2, K2⟩; clear hLd; obtain ⟨c0, c1, c2, f0, f1, f2⟩ := H2.out w2 K2; have hSn := H3.out w2 g cap ho2 K2)
          | fail)
        have K23 : Kept (fun k => k = wr.heap.size + 1) w2 (w2.setCell ⟨wr.heap.size + 1, 2, none⟩ (.slice (some ⟨g, 0, none⟩) mm cap)) := Kept.setCell _ _ _ rfl
        have hz2 := K2.size
        rw [hz1] at hz2
        have hg := ho2.lt g rfl
        have hPB : (w2.setCell ⟨wr.heap.size + 1, 2, none⟩ (.slice (some ⟨g, 0, none⟩) mm cap)).heap[wr.heap.size + 1]? = some (.cells #[.int .i64 x.fr, .int .i64 x.to, .slice (some ⟨g, 0, none⟩) mm cap] 29 (0, 0)) := by
          have h := (K2.block (wr.heap.size + 1) (by rw [hz1]; omega) (fun h => h)).trans hP
          simp [World.setCell, Array.getElem?_modify, h]
        have hXB := (K23.block wr.heap.size (by omega) (fun e => by have e' : wr.heap.size = wr.heap.size + 1 := e; omega)).trans (((K1.and K2).block wr.heap.size (by omega) (fun h => h)).trans hx0)
        have h83 := (K23.block b8 (by omega) (fun e => by have e' : b8 = wr.heap.size + 1 := e; omega)).trans (((K1.and K2).block b8 (by omega) (fun h => h)).trans h80)
        have ho3 := ownsRow_blk ho2 (fun k hk => K23.block k (ho2.lt k hk).2 (fun e => by have := (ho2.lt k hk).1; have e' : k = wr.heap.size + 1 := e; omega))
        have B3 := (B0.kept (K1.and K2) (fun _ _ _ h => h)).kept K23 (fun hne ad e e2 => by have := lob hne ad e; have e' : ad.block = wr.heap.size + 1 := e2; omega)
        have K03 : Kept (fun k => wr.heap.size ≤ k) wr (w2.setCell ⟨wr.heap.size + 1, 2, none⟩ (.slice (some ⟨g, 0, none⟩) mm cap)) := (((K0.and K1).and K2).mono (fun _ h => h.elim)).and (K23.mono (fun k e => by have e' : k = wr.heap.size + 1 := e; omega))
        have hz3 : (w2.setCell ⟨wr.heap.size + 1, 2, none⟩ (.slice (some ⟨g, 0, none⟩) mm cap)).heap.size = w2.heap.size := by simp
        generalize hW3 : w2.setCell ⟨wr.heap.size + 1, 2, none⟩ (.slice (some ⟨g, 0, none⟩) mm cap) = W3 at *
        have ngY : ∀ k, wr.heap.size ≤ k → ¬ (XN w.heap.size b8 k ∧ k < wr.heap.size) := fun k hk h => by have := h.2; omega
        have loY : ∀ k, k < w.heap.size → ¬ (XN w.heap.size b8 k ∧ k < wr.heap.size) := fun k hk h => by have := h.1.1; omega
        have h4 := fun (w4 : World) (K4 : Kept (fun k => XN w.heap.size b8 k ∧ k < wr.heap.size) W3 w4) => show (w4.cell? ⟨wr.heap.size + 1, 2, none⟩ = some (.slice (some ⟨g, 0, none⟩) mm cap) ∧ w4.cell? ⟨wr.heap.size, 4, none⟩ = some (.slice x.ba mm x.bc)) ∧ _ from
          ⟨⟨(three ((K4.block _ (by omega) (ngY _ (by omega))).trans hPB)).2.2.1, (five ((K4.block _ (by omega) (ngY _ (by omega))).trans hXB)).2.2.2.2⟩,
           intact_any w4 (wr.heap.size + 2) g mm cap x.ba x.bc bb (B3.kept K4 (fun hne ad e => loY _ (lob hne ad e))) (ownsRow_blk ho3 (fun k hk => K4.block k (ho3.lt k hk).2 (ngY _ (by have := (ho3.lt k hk).1; omega)))) (by omega)⟩
        have h5 := fun (w4 w5 : World) (K4 : Kept (fun k => XN w.heap.size b8 k ∧ k < wr.heap.size) W3 w4) (K5 : Kept (fun k => k = g) w4 w5) (N4 : NM (fun k => (XN w.heap.size b8 k ∧ k < wr.heap.size) ∨ W3.heap.size ≤ k) most (if most < 0 then 0 else most) d r (sendX most l (x.fr, x.to, bb)) l w4) => show (w5.heap[b8]? = some (.cells #[.pointer (some ⟨r, 0, none⟩)] 25 (0, 0)) ∧ w5.cell? ⟨wr.heap.size, 2, none⟩ = some (.int .i64 x.fr) ∧ w5.cell? ⟨wr.heap.size, 3, none⟩ = some (.int .i64 x.to) ∧ w5.cell? ⟨wr.heap.size, 4, none⟩ = some (.slice x.ba mm x.bc)) ∧ _ by
          have hz4 := K4.size
          have ng : ∀ k, k < wr.heap.size + 2 → ¬ k = g := fun k hk e => by omega
          have q8 := (K5.block b8 (by omega) (ng _ (by omega))).trans ((K4.block b8 (by omega) (fun h => h.1.2 rfl)).trans h83)
          obtain ⟨_, _, e2, e3, e4⟩ := five ((K5.block wr.heap.size (by omega) (ng _ (by omega))).trans ((K4.block wr.heap.size (by omega) (ngY _ (by omega))).trans hXB))
          exact ⟨⟨q8, e2, e3, e4⟩, nm_sendR' (N4.kept K5 (fun k hk e => by
            have e' : k = g := e
            rcases hk with h | h
            · have := h.2; omega
            · omega)) (by omega) x.fr x.to x.ba mm x.bc bb ((B3.kept K4 (fun hne ad e => loY _ (lob hne ad e))).kept K5 (fun hne ad e e2 => by have := lob hne ad e; have e' : ad.block = g := e2; omega)) hm200⟩
        have H4 : Hid _ := h4
        have H5 : Hid _ := h5
        have HG : Hid (wr.heap.size + 2 ≤ g ∧ g < w2.heap.size ∧ W3.heap.size = w2.heap.size) := ⟨hg.1, hg.2, hz3⟩
        have HK03 : Hid _ := K03
        clear h4 h5 hW3 hPB hXB h83 ho3 B3 K03 hz3 K23 hP hx0 h80 N0 B0 K1 K2 H2 H3 ho2 c0 c1 c2 f0 f1 f2
        go_wp2_with (first
          | (go_at_call 10; refine hSn.mono ?_; rintro e w4 ⟨rfl, N4, K4⟩; clear hSn; obtain ⟨⟨y2, y4⟩, hIn⟩ := H4.out w4 K4; have HN4 : Hid _ := N4; clear N4)
          | (go_at_call 11; refine hIn.mono ?_; rintro e w5 ⟨rfl, K5⟩; clear hIn; obtain ⟨⟨q8, z2, z3, z4⟩, hRs⟩ := H5.out w4 w5 K4 K5 HN4.out; have z8 := (one q8).1)
          | (go_at_call 12; refine hRs.mono ?_; rintro e w6 ⟨rfl, N6, K6⟩; clear hRs)
          | fail)
        obtain ⟨hg1, hg2, hg3⟩ := HG.out
        have hz4 := K4.size
        have hz5 := K5.size
        have NV := N6
        have KV : Kept (XN w.heap.size b8) wr w6 := ((((Kept.fresh HK03.out).mono (fun _ h => h.elim)).and (K4.mono (fun _ h => h.1))).trans K5 (fun k e => .inr (by have e' : k = g := e; omega))).trans K6 (fun k h => h.elim (fun h => .inl h.1) (fun h => .inr (by omega)))
        have hV8 := (K6.block b8 (by omega) (fun h => h.elim (fun h => h.1.2 rfl) (fun h => by omega))).trans q8
        have HY : ∀ j, (((XN w.heap.size b8 j ∧ j < wr.heap.size) ∨ W3.heap.size ≤ j) ∨ w5.heap.size ≤ j) → XN w.heap.size b8 j ∨ wr.heap.size ≤ j := fun j hj => by
          rcases hj with (h | h) | h
          · exact .inl h.1
          · exact .inr (by omega)
          · exact .inr (by omega)
        generalize w6 = V at *
        have hL8 := (one hV8).1
        obtain ⟨aR, cR, hRr⟩ := NV.rowR
        have hLn := fun n => nm_len (NV.keptN (Kept.drewN (fun _ => False) V n))
        have HNV : Hid _ := NV
        have HKV : Hid _ := KV
        have HV8 : Hid _ := hV8
        clear NV KV hV8
        go_quiet ((go_at_call 23; exact Calls.quiet_of_same (hLn _)))
        go_wp2
        go_roundw
        case rel => exact ⟨k + 1, sendX most l (x.fr, x.to, bb), by omega, by omega, by go_num, NSt.next HSt.out (NM.keptN HNV.out (Kept.drewN _ V nq)) HY (Kept.and HKV.out (Kept.drewN _ V nq)) (by have := sendX_len most l (x.fr, x.to, bb); omega)⟩
        case measure => simp [Go.RowKit.intOf]; omega
      · go_wp2_with (first
          | (go_at_call 7; refine (hcl _ _ _ _ hcapb).mono ?_; rintro e w0 ⟨rfl, hw0⟩; subst w0)
          | (go_at_call 8; refine (hwi _).mono ?_; rintro e w0 ⟨rfl, hw0⟩; subst w0)
          | fail)
        have K0 : Kept (fun _ => False) wr (wr.alloc (.cells #[.int .i64 x.dd, .int .i64 x.ii, .int .i64 x.fr, .int .i64 x.to, .slice x.ba (min x.bm 200) x.bc] 31)) := Kept.alloc _ _ _
        have hx0 := heap_alloc_new wr (.cells #[.int .i64 x.dd, .int .i64 x.ii, .int .i64 x.fr, .int .i64 x.to, .slice x.ba (min x.bm 200) x.bc] 31)
        have hz0 : (wr.alloc (.cells #[.int .i64 x.dd, .int .i64 x.ii, .int .i64 x.fr, .int .i64 x.to, .slice x.ba (min x.bm 200) x.bc] 31)).heap.size = wr.heap.size + 1 := by simp
        have N0 := HSt.out.nets.tight.keptN K0
        have B0 := (HQB.out.take (Nat.min_le_left x.bm 200)).kept K0 (fun _ _ _ h => h)
        have h80 := (K0.block b8 (Array.getElem?_eq_some_iff.1 HSt.out.bx8).1 (fun h => h)).trans HSt.out.bx8
        have hlb := HSt.out.len
        have h8n : b8 < wr.heap.size := (Array.getElem?_eq_some_iff.1 HSt.out.bx8).1
        generalize hW0 : (wr.alloc (.cells #[.int .i64 x.dd, .int .i64 x.ii, .int .i64 x.fr, .int .i64 x.to, .slice x.ba (min x.bm 200) x.bc] 31)) = W0 at *
        clear hW0
        have hT1 := nm_take N0 x.ii
        have hT2 := fun (w1 : World) (a1 : Option Addr) (c1 : Nat) (fr to : Int) (bs : List Int) (N1 : NM (fun k => XN w.heap.size b8 k ∧ k < wr.heap.size) most (if most < 0 then 0 else most) d r (dropX l x.ii) l w1) => nm_takeR (N1.keptN (Kept.alloc (fun _ => False) w1 (.cells #[.int .i64 fr, .int .i64 to, .slice a1 bs.length c1] 29))) x.ii
        obtain ⟨o, ho⟩ : ∃ o, atX l x.ii = o := ⟨_, rfl⟩
        obtain ⟨fr, to, bs, hpx⟩ : ∃ fr to bs, o.getD px0 = (fr, to, bs) := ⟨_, _, _, rfl⟩
        simp only [CopyOf, ho, hpx] at hT1 hT2
        have ngY : ∀ k, wr.heap.size ≤ k → ¬ (XN w.heap.size b8 k ∧ k < wr.heap.size) := fun k hk h => by have := h.2; omega
        have h1 := fun (w1 : World) (a1 : Option Addr) (c1 : Nat) (K1 : Kept (fun k => XN w.heap.size b8 k ∧ k < wr.heap.size) W0 w1) => show (w1.alloc (.cells #[.int .i64 fr, .int .i64 to, .slice a1 bs.length c1] 29)).cell? ⟨b8, 0, none⟩ = some (.pointer (some ⟨r, 0, none⟩)) ∧ (w1.alloc (.cells #[.int .i64 fr, .int .i64 to, .slice a1 bs.length c1] 29)).cell? ⟨wr.heap.size, 1, none⟩ = some (.int .i64 x.ii) by
          have K1a : Kept (fun k => XN w.heap.size b8 k ∧ k < wr.heap.size) W0 (w1.alloc (.cells #[.int .i64 fr, .int .i64 to, .slice a1 bs.length c1] 29)) := K1.and (Kept.alloc _ _ _)
          exact ⟨(one ((K1a.block b8 (by omega) (fun h => h.1.2 rfl)).trans h80)).1, (five ((K1a.block wr.heap.size (by omega) (ngY _ (Nat.le_refl _))).trans hx0)).2.1⟩
        have h2 := fun (w1 w2 : World) (a1 a2 : Option Addr) (c1 c2 : Nat) (K1 : Kept (fun k => XN w.heap.size b8 k ∧ k < wr.heap.size) W0 w1) (ho1 : w1.ownsRow W0.heap.size 5 1 (.slice a1 bs.length c1) bs.length (bs.map (Value.int .u8))) (hby : ∀ y ∈ bs, 0 ≤ y ∧ y ≤ 255) (hsh : bs.length ≤ 200) (K2 : Kept (fun k => XN w.heap.size b8 k ∧ k < wr.heap.size) (w1.alloc (.cells #[.int .i64 fr, .int .i64 to, .slice a1 bs.length c1] 29)) w2) (ho2 : w2.ownsRow (w1.alloc (.cells #[.int .i64 fr, .int .i64 to, .slice a1 bs.length c1] 29)).heap.size 5 1 (.slice a2 bs.length c2) bs.length (bs.map (Value.int .u8)))
            (N2 : NM (fun k => (XN w.heap.size b8 k ∧ k < wr.heap.size) ∨ (w1.alloc (.cells #[.int .i64 fr, .int .i64 to, .slice a1 bs.length c1] 29)).heap.size ≤ k) most (if most < 0 then 0 else most) d r (dropX l x.ii) (dropX l x.ii) w2) =>
          show ((w2.alloc (.cells #[.int .i64 fr, .int .i64 to, .slice a2 bs.length c2] 29)).cell? ⟨w1.heap.size, 0, none⟩ = some (.int .i64 fr) ∧ (w2.alloc (.cells #[.int .i64 fr, .int .i64 to, .slice a2 bs.length c2] 29)).cell? ⟨w1.heap.size, 1, none⟩ = some (.int .i64 to) ∧ (w2.alloc (.cells #[.int .i64 fr, .int .i64 to, .slice a2 bs.length c2] 29)).cell? ⟨w1.heap.size, 2, none⟩ = some (.slice a1 bs.length c1) ∧ (((w2.alloc (.cells #[.int .i64 fr, .int .i64 to, .slice a2 bs.length c2] 29)).alloc (.cells #[.int .i64 fr, .int .i64 to, .slice a1 bs.length c1] 29)).alloc (.cells #[.int .i64 fr, .int .i64 to, .slice a2 bs.length c2] 29)).cell? ⟨w1.heap.size, 2, none⟩ = some (.slice a1 bs.length c1)) ∧
            Calls Try.prog 15 #[.slice (some ⟨w2.heap.size + 1, 0, none⟩) 1 1, .slice (some ⟨w2.heap.size + 1 + 1, 0, none⟩) 1 1] (((w2.alloc (.cells #[.int .i64 fr, .int .i64 to, .slice a2 bs.length c2] 29)).alloc (.cells #[.int .i64 fr, .int .i64 to, .slice a1 bs.length c1] 29)).alloc (.cells #[.int .i64 fr, .int .i64 to, .slice a2 bs.length c2] 29)) (fun e w' => e = .returned (.bool true) ∧ ∃ n, w' = (((w2.alloc (.cells #[.int .i64 fr, .int .i64 to, .slice a2 bs.length c2] 29)).alloc (.cells #[.int .i64 fr, .int .i64 to, .slice a1 bs.length c1] 29)).alloc (.cells #[.int .i64 fr, .int .i64 to, .slice a2 bs.length c2] 29)).drewN n) ∧
            (∀ n, Calls Try.prog 16 #[.slice a1 bs.length c1] ((((w2.alloc (.cells #[.int .i64 fr, .int .i64 to, .slice a2 bs.length c2] 29)).alloc (.cells #[.int .i64 fr, .int .i64 to, .slice a1 bs.length c1] 29)).alloc (.cells #[.int .i64 fr, .int .i64 to, .slice a2 bs.length c2] 29)).drewN n) fun e w' => e = .returned (.tuple #[]) ∧ Kept (fun k => (Value.slice a1 bs.length c1).ownBlock = some k) ((((w2.alloc (.cells #[.int .i64 fr, .int .i64 to, .slice a2 bs.length c2] 29)).alloc (.cells #[.int .i64 fr, .int .i64 to, .slice a1 bs.length c1] 29)).alloc (.cells #[.int .i64 fr, .int .i64 to, .slice a2 bs.length c2] 29)).drewN n) w') ∧
            (∀ n w', Kept (fun k => (Value.slice a1 bs.length c1).ownBlock = some k) ((((w2.alloc (.cells #[.int .i64 fr, .int .i64 to, .slice a2 bs.length c2] 29)).alloc (.cells #[.int .i64 fr, .int .i64 to, .slice a1 bs.length c1] 29)).alloc (.cells #[.int .i64 fr, .int .i64 to, .slice a2 bs.length c2] 29)).drewN n) w' → NM (fun k => (XN w.heap.size b8 k ∧ k < wr.heap.size) ∨ (w1.alloc (.cells #[.int .i64 fr, .int .i64 to, .slice a1 bs.length c1] 29)).heap.size ≤ k) most (if most < 0 then 0 else most) d r (dropX l x.ii) (dropX l x.ii) w' ∧ Kept (XN w.heap.size b8) wr w' ∧ w'.heap[b8]? = some (.cells #[.pointer (some ⟨r, 0, none⟩)] 25 (0, 0))) by
          have hz1 := K1.size
          have hz2 := K2.size
          have hza : (w1.alloc (.cells #[.int .i64 fr, .int .i64 to, .slice a1 bs.length c1] 29)).heap.size = w1.heap.size + 1 := by simp
          rw [hza] at ho2 hz2
          have hCq := (K2.block w1.heap.size (by rw [hza]; omega) (ngY _ (by omega))).trans (heap_alloc_new w1 (.cells #[.int .i64 fr, .int .i64 to, .slice a1 bs.length c1] 29))
          have KA : Kept (fun _ => False) w2 (w2.alloc (.cells #[.int .i64 fr, .int .i64 to, .slice a2 bs.length c2] 29)) := Kept.alloc _ _ _
          have KZ : Kept (fun _ => False) w2 (((w2.alloc (.cells #[.int .i64 fr, .int .i64 to, .slice a2 bs.length c2] 29)).alloc (.cells #[.int .i64 fr, .int .i64 to, .slice a1 bs.length c1] 29)).alloc (.cells #[.int .i64 fr, .int .i64 to, .slice a2 bs.length c2] 29)) := ((Kept.alloc _ _ _).and (Kept.alloc _ _ _)).and (Kept.alloc _ _ _)
          obtain ⟨e0, e1, e2, _⟩ := three ((KA.block w1.heap.size (by omega) (fun h => h)).trans hCq)
          obtain ⟨_, _, e3, _⟩ := three ((KZ.block w1.heap.size (by omega) (fun h => h)).trans hCq)
          have hr1 : ∀ n, ((((w2.alloc (.cells #[.int .i64 fr, .int .i64 to, .slice a2 bs.length c2] 29)).alloc (.cells #[.int .i64 fr, .int .i64 to, .slice a1 bs.length c1] 29)).alloc (.cells #[.int .i64 fr, .int .i64 to, .slice a2 bs.length c2] 29)).drewN n).ownsRow 0 5 1 (.slice a1 bs.length c1) bs.length (bs.map (Value.int .u8)) := fun n => ownsRow_low (ownsRow_blk ho1 (fun k hk => by
            have hlt := ho1.lt k hk
            have hkz : k < (w1.alloc (.cells #[.int .i64 fr, .int .i64 to, .slice a1 bs.length c1] 29)).heap.size := by rw [hza]; omega
            exact ((KZ.and (Kept.drewN _ _ n)).block k (by omega) (fun h => h)).trans ((K2.block k hkz (ngY _ (by omega))).trans (Below.heap_alloc _ _ _ hlt.2)))) (Nat.zero_le _)
          have hr2 : (((w2.alloc (.cells #[.int .i64 fr, .int .i64 to, .slice a2 bs.length c2] 29)).alloc (.cells #[.int .i64 fr, .int .i64 to, .slice a1 bs.length c1] 29)).alloc (.cells #[.int .i64 fr, .int .i64 to, .slice a2 bs.length c2] 29)).ownsRow (w1.heap.size + 1) 5 1 (.slice a2 bs.length c2) bs.length (bs.map (Value.int .u8)) := ownsRow_blk ho2 (fun k hk => KZ.block k (ho2.lt k hk).2 (fun h => h))
          have hs : ((w2.alloc (.cells #[.int .i64 fr, .int .i64 to, .slice a2 bs.length c2] 29)).alloc (.cells #[.int .i64 fr, .int .i64 to, .slice a1 bs.length c1] 29)).heap.size = w2.heap.size + 1 + 1 := by simp
          have hs1 : (w2.alloc (.cells #[.int .i64 fr, .int .i64 to, .slice a2 bs.length c2] 29)).heap.size = w2.heap.size + 1 := by simp
          have hS1 := (Below.heap_alloc ((w2.alloc (.cells #[.int .i64 fr, .int .i64 to, .slice a2 bs.length c2] 29)).alloc (.cells #[.int .i64 fr, .int .i64 to, .slice a1 bs.length c1] 29)) (.cells #[.int .i64 fr, .int .i64 to, .slice a2 bs.length c2] 29) (w2.alloc (.cells #[.int .i64 fr, .int .i64 to, .slice a2 bs.length c2] 29)).heap.size (by simp)).trans (heap_alloc_new (w2.alloc (.cells #[.int .i64 fr, .int .i64 to, .slice a2 bs.length c2] 29)) (.cells #[.int .i64 fr, .int .i64 to, .slice a1 bs.length c1] 29))
          have hS2 := heap_alloc_new ((w2.alloc (.cells #[.int .i64 fr, .int .i64 to, .slice a2 bs.length c2] 29)).alloc (.cells #[.int .i64 fr, .int .i64 to, .slice a1 bs.length c1] 29)) (.cells #[.int .i64 fr, .int .i64 to, .slice a2 bs.length c2] 29)
          rw [hs1] at hS1
          rw [hs] at hS2
          obtain ⟨s0, s1, s2, _⟩ := three hS1
          obtain ⟨t0, t1, t2, _⟩ := three hS2
          refine ⟨⟨e0, e1, e2, e3⟩, parcels_one (((w2.alloc (.cells #[.int .i64 fr, .int .i64 to, .slice a2 bs.length c2] 29)).alloc (.cells #[.int .i64 fr, .int .i64 to, .slice a1 bs.length c1] 29)).alloc (.cells #[.int .i64 fr, .int .i64 to, .slice a2 bs.length c2] 29)) (w2.heap.size + 1) 0 1 (w2.heap.size + 1 + 1) 0 1 fr to a1 _ c1 a2 c2 bs ⟨s0, s1, s2, BytesAt.ofRow (hr1 0) hby⟩ ⟨t0, t1, t2, BytesAt.ofRow hr2 hby⟩, fun n => spoilBytes_own _ _ _ bs (hr1 n) (by omega), fun n w' K => ?_⟩
          have hz3 := KZ.size
          have hbl : ∀ k, (Value.slice a1 bs.length c1).ownBlock = some k → W0.heap.size ≤ k ∧ k < w1.heap.size := fun k hk => ho1.lt k hk
          refine ⟨(N2.keptN (KZ.and (Kept.drewN _ _ n))).kept K (fun k hk e => ?_), ?_, ?_⟩
          · have := hbl k e
            rcases hk with h | h
            · have := h.2; omega
            · omega
          · refine Kept.trans ?_ K (fun k e => .inr (by have := hbl k e; omega))
            exact ((((K0.mono (fun _ h => h.elim)).and (K1.mono (fun _ h => h.1))).and (Kept.alloc _ _ _)).and (K2.mono (fun _ h => h.1))).and ((KZ.and (Kept.drewN _ _ n)).mono (fun _ h => h.elim))
          · refine (K.block b8 (by have := (KZ.and (Kept.drewN (fun _ => False) _ n)).size; omega) (fun e => by have := hbl b8 e; omega)).trans ?_
            refine ((KZ.and (Kept.drewN _ _ n)).block b8 (by omega) (fun h => h)).trans ?_
            refine (K2.block b8 (by rw [hza]; omega) (fun h => h.1.2 rfl)).trans ?_
            exact ((K1.and (Kept.alloc _ _ _)).block b8 (by omega) (fun h => h.1.2 rfl)).trans h80
        have H1 : Hid _ := h1
        have H2 : Hid _ := h2
        have HT2 : Hid _ := hT2
        have HZ0 : Hid _ := hz0
        clear h1 h2 hT2 N0 B0 hx0 h80 ho hpx hz0
        go_wp2_with (first
          | (go_at_call 13; refine hT1.mono ?_; rintro e w1 ⟨⟨a1, c1, rfl, ho1, hby, hsh⟩, N1, K1⟩; clear hT1; obtain ⟨y8, y1⟩ := H1.out w1 a1 c1 K1; have hT2 := HT2.out w1 a1 c1 fr to bs N1; clear N1 H1 HT2)
          | (go_at_call 14; refine hT2.mono ?_; rintro e w2 ⟨⟨a2, c2, rfl, ho2, _, _⟩, N2, K2⟩; clear hT2; obtain ⟨⟨e0, e1, e2, e3⟩, hPc, hSp, hFin⟩ := H2.out w1 w2 a1 a2 c1 c2 K1 ho1 hby hsh K2 ho2 N2; have HFin : Hid _ := hFin; clear N2 H2 ho1 ho2 hFin)
          | (go_at_call 15; refine hPc.mono ?_; rintro e w3 ⟨rfl, n3, hw3⟩; subst w3; clear hPc; have hSp := hSp n3)
          | (go_at_call 16; refine hSp.mono ?_; rintro e w4 ⟨rfl, K4⟩; clear hSp)
          | fail)
        obtain ⟨NV, KV, hV8⟩ := HFin.out n3 w4 K4
        have HY : ∀ j, ((XN w.heap.size b8 j ∧ j < wr.heap.size) ∨ (w1.alloc (.cells #[.int .i64 fr, .int .i64 to, .slice a1 bs.length c1] 29)).heap.size ≤ j) → XN w.heap.size b8 j ∨ wr.heap.size ≤ j := fun j hj => by
          have hz1 := K1.size
          rw [HZ0.out] at hz1
          simp only [World.size_alloc] at hj
          rcases hj with h | h
          · exact .inl h.1
          · exact .inr (by omega)
        clear K4 e0 e1 e2 e3 HFin
        generalize w4 = V at *
        have hL8 := (one hV8).1
        obtain ⟨aR, cR, hRr⟩ := NV.rowR
        have hLn := fun n => nm_len (NV.keptN (Kept.drewN (fun _ => False) V n))
        have HNV : Hid _ := NV
        have HKV : Hid _ := KV
        have HV8 : Hid _ := hV8
        clear NV KV hV8
        go_quiet ((go_at_call 23; exact Calls.quiet_of_same (hLn _)))
        go_wp2
        go_roundw
        case rel => exact ⟨k + 1, dropX l x.ii, by omega, by omega, by go_num, NSt.next HSt.out (NM.keptN HNV.out (Kept.drewN _ V nq)) HY (Kept.and HKV.out (Kept.drewN _ V nq)) (by have := dropX_len l x.ii; omega)⟩
        case measure => simp [Go.RowKit.intOf]; omega
      · go_wp2_with (first
          | (go_at_call 7; refine (hcl _ _ _ _ hcapb).mono ?_; rintro e w0 ⟨rfl, hw0⟩; subst w0)
          | (go_at_call 8; refine (hwi _).mono ?_; rintro e w0 ⟨rfl, hw0⟩; subst w0)
          | fail)
        have K0 : Kept (fun _ => False) wr (wr.alloc (.cells #[.int .i64 x.dd, .int .i64 x.ii, .int .i64 x.fr, .int .i64 x.to, .slice x.ba (min x.bm 200) x.bc] 31)) := Kept.alloc _ _ _
        have hx0 := heap_alloc_new wr (.cells #[.int .i64 x.dd, .int .i64 x.ii, .int .i64 x.fr, .int .i64 x.to, .slice x.ba (min x.bm 200) x.bc] 31)
        have hz0 : (wr.alloc (.cells #[.int .i64 x.dd, .int .i64 x.ii, .int .i64 x.fr, .int .i64 x.to, .slice x.ba (min x.bm 200) x.bc] 31)).heap.size = wr.heap.size + 1 := by simp
        have N0 := HSt.out.nets.tight.keptN K0
        have B0 := (HQB.out.take (Nat.min_le_left x.bm 200)).kept K0 (fun _ _ _ h => h)
        have h80 := (K0.block b8 (Array.getElem?_eq_some_iff.1 HSt.out.bx8).1 (fun h => h)).trans HSt.out.bx8
        have hlb := HSt.out.len
        have h8n : b8 < wr.heap.size := (Array.getElem?_eq_some_iff.1 HSt.out.bx8).1
        generalize hW0 : (wr.alloc (.cells #[.int .i64 x.dd, .int .i64 x.ii, .int .i64 x.fr, .int .i64 x.to, .slice x.ba (min x.bm 200) x.bc] 31)) = W0 at *
        clear hW0
        have Nd := N0.keptN (Kept.drew (fun _ => False) W0)
        have hD1 := nm_drop Nd x.ii
        have HD2 : Hid _ := fun (w1 : World) (N1 : NM (fun k => (XN w.heap.size b8 k ∧ k < wr.heap.size) ∨ W0.drew.heap.size ≤ k) most (if most < 0 then 0 else most) d r (dropX l x.ii) l w1) => nm_dropR N1 x.ii
        have KD := Kept.drew (fun _ => False) W0
        have HS : Hid (∀ V, Kept (fun k => XN w.heap.size b8 k ∧ k < wr.heap.size) W0.drew V → Kept (fun k => XN w.heap.size b8 k ∧ k < wr.heap.size) W0.drew V ∧ V.cell? ⟨wr.heap.size, 1, none⟩ = some (.int .i64 x.ii) ∧ V.cell? ⟨b8, 0, none⟩ = some (.pointer (some ⟨r, 0, none⟩))) := fun V K => by
          have y1 := (five ((K.block wr.heap.size (by simp; omega) (fun h => by have := h.2; omega)).trans hx0)).2.1
          have y8 := (one ((K.block b8 (by simp; omega) (fun h => h.1.2 rfl)).trans h80)).1
          exact ⟨K, y1, y8⟩
        have H80 : Hid _ := h80
        clear N0 Nd B0 hx0 h80
        refine wp_nrm ?_
        go_region_held (fun V => Kept (fun k => XN w.heap.size b8 k ∧ k < wr.heap.size) W0.drew V ∧ V.cell? ⟨wr.heap.size, 1, none⟩ = some (.int .i64 x.ii) ∧ V.cell? ⟨b8, 0, none⟩ = some (.pointer (some ⟨r, 0, none⟩))) (first | exact HS.out _ (Kept.refl _ _) | exact HS.out _ (by assumption)) (first
          | (go_at_call 17; refine hD1.mono ?_; rintro e w1 ⟨rfl, N1, K1⟩; have hD2 := HD2.out w1 N1; clear hD1)
          | (go_at_call 18; refine hD2.mono ?_; rintro e w2 ⟨rfl, N2, K2⟩; have K12 := K1.trans K2 (fun i h => h); clear hD2)
          | fail)
        simp only [nrm]
        go_wp2_with fail
        have NV := N2
        have KV : Kept (XN w.heap.size b8) wr w2 := ((K0.and KD).mono (fun _ h => h.elim)).and (K12.mono (fun _ h => h.1))
        have hV8 := (K12.block b8 (by simp; omega) (fun h => h.1.2 rfl)).trans H80.out
        have HY : ∀ j, (((XN w.heap.size b8 j ∧ j < wr.heap.size) ∨ W0.drew.heap.size ≤ j) ∨ w1.heap.size ≤ j) → XN w.heap.size b8 j ∨ wr.heap.size ≤ j := fun j hj => by
          have hz1 := K1.size
          simp only [World.size_drew] at hz1 hj
          rcases hj with (h | h) | h
          · exact .inl h.1
          · exact .inr (by omega)
          · exact .inr (by omega)
        generalize w2 = V at *
        have hL8 := (one hV8).1
        obtain ⟨aR, cR, hRr⟩ := NV.rowR
        have hLn := fun n => nm_len (NV.keptN (Kept.drewN (fun _ => False) V n))
        have HNV : Hid _ := NV
        have HKV : Hid _ := KV
        have HV8 : Hid _ := hV8
        clear NV KV hV8
        go_quiet ((go_at_call 23; exact Calls.quiet_of_same (hLn _)))
        go_wp2
        go_roundw
        case rel => exact ⟨k + 1, dropX l x.ii, by omega, by omega, by go_num, NSt.next HSt.out (NM.keptN HNV.out (Kept.drewN _ V nq)) HY (Kept.and HKV.out (Kept.drewN _ V nq)) (by have := dropX_len l x.ii; omega)⟩
        case measure => simp [Go.RowKit.intOf]; omega
      · go_wp2_with (first
          | (go_at_call 7; refine (hcl _ _ _ _ hcapb).mono ?_; rintro e w0 ⟨rfl, hw0⟩; subst w0)
          | (go_at_call 8; refine (hwi _).mono ?_; rintro e w0 ⟨rfl, hw0⟩; subst w0)
          | fail)
        have K0 : Kept (fun _ => False) wr (wr.alloc (.cells #[.int .i64 x.dd, .int .i64 x.ii, .int .i64 x.fr, .int .i64 x.to, .slice x.ba (min x.bm 200) x.bc] 31)) := Kept.alloc _ _ _
        have hx0 := heap_alloc_new wr (.cells #[.int .i64 x.dd, .int .i64 x.ii, .int .i64 x.fr, .int .i64 x.to, .slice x.ba (min x.bm 200) x.bc] 31)
        have hz0 : (wr.alloc (.cells #[.int .i64 x.dd, .int .i64 x.ii, .int .i64 x.fr, .int .i64 x.to, .slice x.ba (min x.bm 200) x.bc] 31)).heap.size = wr.heap.size + 1 := by simp
        have N0 := HSt.out.nets.tight.keptN K0
        have B0 := (HQB.out.take (Nat.min_le_left x.bm 200)).kept K0 (fun _ _ _ h => h)
        have h80 := (K0.block b8 (Array.getElem?_eq_some_iff.1 HSt.out.bx8).1 (fun h => h)).trans HSt.out.bx8
        have hlb := HSt.out.len
        have h8n : b8 < wr.heap.size := (Array.getElem?_eq_some_iff.1 HSt.out.bx8).1
        generalize hW0 : (wr.alloc (.cells #[.int .i64 x.dd, .int .i64 x.ii, .int .i64 x.fr, .int .i64 x.to, .slice x.ba (min x.bm 200) x.bc] 31)) = W0 at *
        clear hW0
        have Nd := N0.keptN (Kept.drew (fun _ => False) W0)
        have hD1 := nm_double Nd (by omega) x.ii
        have HD2 : Hid _ := fun (w1 : World) (N1 : NM (fun k => (XN w.heap.size b8 k ∧ k < wr.heap.size) ∨ W0.drew.heap.size ≤ k) most (if most < 0 then 0 else most) d r (doubleX most l x.ii) l w1) => nm_doubleR' N1 (by omega) x.ii
        have KD := Kept.drew (fun _ => False) W0
        have HS : Hid (∀ V, Kept (fun k => XN w.heap.size b8 k ∧ k < wr.heap.size) W0.drew V → Kept (fun k => XN w.heap.size b8 k ∧ k < wr.heap.size) W0.drew V ∧ V.cell? ⟨wr.heap.size, 1, none⟩ = some (.int .i64 x.ii) ∧ V.cell? ⟨b8, 0, none⟩ = some (.pointer (some ⟨r, 0, none⟩))) := fun V K => by
          have y1 := (five ((K.block wr.heap.size (by simp; omega) (fun h => by have := h.2; omega)).trans hx0)).2.1
          have y8 := (one ((K.block b8 (by simp; omega) (fun h => h.1.2 rfl)).trans h80)).1
          exact ⟨K, y1, y8⟩
        have H80 : Hid _ := h80
        clear N0 Nd B0 hx0 h80
        refine wp_nrm ?_
        go_region_held (fun V => Kept (fun k => XN w.heap.size b8 k ∧ k < wr.heap.size) W0.drew V ∧ V.cell? ⟨wr.heap.size, 1, none⟩ = some (.int .i64 x.ii) ∧ V.cell? ⟨b8, 0, none⟩ = some (.pointer (some ⟨r, 0, none⟩))) (first | exact HS.out _ (Kept.refl _ _) | exact HS.out _ (by assumption)) (first
          | (go_at_call 19; refine hD1.mono ?_; rintro e w1 ⟨rfl, N1, K1⟩; have hD2 := HD2.out w1 N1; clear hD1)
          | (go_at_call 20; refine hD2.mono ?_; rintro e w2 ⟨rfl, N2, K2⟩; have K12 := K1.trans K2 (fun i h => h); clear hD2)
          | fail)
        simp only [nrm]
        go_wp2_with fail
        have NV := N2
        have KV : Kept (XN w.heap.size b8) wr w2 := ((K0.and KD).mono (fun _ h => h.elim)).and (K12.mono (fun _ h => h.1))
        have hV8 := (K12.block b8 (by simp; omega) (fun h => h.1.2 rfl)).trans H80.out
        have HY : ∀ j, (((XN w.heap.size b8 j ∧ j < wr.heap.size) ∨ W0.drew.heap.size ≤ j) ∨ w1.heap.size ≤ j) → XN w.heap.size b8 j ∨ wr.heap.size ≤ j := fun j hj => by
          have hz1 := K1.size
          simp only [World.size_drew] at hz1 hj
          rcases hj with (h | h) | h
          · exact .inl h.1
          · exact .inr (by omega)
          · exact .inr (by omega)
        generalize w2 = V at *
        have hL8 := (one hV8).1
        obtain ⟨aR, cR, hRr⟩ := NV.rowR
        have hLn := fun n => nm_len (NV.keptN (Kept.drewN (fun _ => False) V n))
        have HNV : Hid _ := NV
        have HKV : Hid _ := KV
        have HV8 : Hid _ := hV8
        clear NV KV hV8
        go_quiet ((go_at_call 23; exact Calls.quiet_of_same (hLn _)))
        go_wp2
        go_roundw
        case rel => exact ⟨k + 1, doubleX most l x.ii, by omega, by omega, by go_num, NSt.next HSt.out (NM.keptN HNV.out (Kept.drewN _ V nq)) HY (Kept.and HKV.out (Kept.drewN _ V nq)) (by have := doubleX_len most l x.ii; omega)⟩
        case measure => simp [Go.RowKit.intOf]; omega
      · go_wp2_with (first
          | (go_at_call 7; refine (hcl _ _ _ _ hcapb).mono ?_; rintro e w0 ⟨rfl, hw0⟩; subst w0)
          | (go_at_call 8; refine (hwi _).mono ?_; rintro e w0 ⟨rfl, hw0⟩; subst w0)
          | fail)
        have K0 : Kept (fun _ => False) wr (wr.alloc (.cells #[.int .i64 x.dd, .int .i64 x.ii, .int .i64 x.fr, .int .i64 x.to, .slice x.ba (min x.bm 200) x.bc] 31)) := Kept.alloc _ _ _
        have hx0 := heap_alloc_new wr (.cells #[.int .i64 x.dd, .int .i64 x.ii, .int .i64 x.fr, .int .i64 x.to, .slice x.ba (min x.bm 200) x.bc] 31)
        have hz0 : (wr.alloc (.cells #[.int .i64 x.dd, .int .i64 x.ii, .int .i64 x.fr, .int .i64 x.to, .slice x.ba (min x.bm 200) x.bc] 31)).heap.size = wr.heap.size + 1 := by simp
        have N0 := HSt.out.nets.tight.keptN K0
        have B0 := (HQB.out.take (Nat.min_le_left x.bm 200)).kept K0 (fun _ _ _ h => h)
        have h80 := (K0.block b8 (Array.getElem?_eq_some_iff.1 HSt.out.bx8).1 (fun h => h)).trans HSt.out.bx8
        have hlb := HSt.out.len
        have h8n : b8 < wr.heap.size := (Array.getElem?_eq_some_iff.1 HSt.out.bx8).1
        generalize hW0 : (wr.alloc (.cells #[.int .i64 x.dd, .int .i64 x.ii, .int .i64 x.fr, .int .i64 x.to, .slice x.ba (min x.bm 200) x.bc] 31)) = W0 at *
        clear hW0
        have hT1 := nm_lookA N0 x.ii
        have hT2 := fun (w1 : World) (a1 : Option Addr) (c1 : Nat) (fr to : Int) (bs : List Int) (N1 : NM (fun k => XN w.heap.size b8 k ∧ k < wr.heap.size) most (if most < 0 then 0 else most) d r (l) l w1) => nm_lookB (N1.keptN (Kept.alloc (fun _ => False) w1 (.cells #[.int .i64 fr, .int .i64 to, .slice a1 bs.length c1] 29))) x.ii
        obtain ⟨o, ho⟩ : ∃ o, atX l x.ii = o := ⟨_, rfl⟩
        obtain ⟨fr, to, bs, hpx⟩ : ∃ fr to bs, o.getD px0 = (fr, to, bs) := ⟨_, _, _, rfl⟩
        simp only [CopyOf, ho, hpx] at hT1 hT2
        have ngY : ∀ k, wr.heap.size ≤ k → ¬ (XN w.heap.size b8 k ∧ k < wr.heap.size) := fun k hk h => by have := h.2; omega
        have h1 := fun (w1 : World) (a1 : Option Addr) (c1 : Nat) (K1 : Kept (fun k => XN w.heap.size b8 k ∧ k < wr.heap.size) W0 w1) => show (w1.alloc (.cells #[.int .i64 fr, .int .i64 to, .slice a1 bs.length c1] 29)).cell? ⟨b8, 0, none⟩ = some (.pointer (some ⟨r, 0, none⟩)) ∧ (w1.alloc (.cells #[.int .i64 fr, .int .i64 to, .slice a1 bs.length c1] 29)).cell? ⟨wr.heap.size, 1, none⟩ = some (.int .i64 x.ii) by
          have K1a : Kept (fun k => XN w.heap.size b8 k ∧ k < wr.heap.size) W0 (w1.alloc (.cells #[.int .i64 fr, .int .i64 to, .slice a1 bs.length c1] 29)) := K1.and (Kept.alloc _ _ _)
          exact ⟨(one ((K1a.block b8 (by omega) (fun h => h.1.2 rfl)).trans h80)).1, (five ((K1a.block wr.heap.size (by omega) (ngY _ (Nat.le_refl _))).trans hx0)).2.1⟩
        have h2 := fun (w1 w2 : World) (a1 a2 : Option Addr) (c1 c2 : Nat) (K1 : Kept (fun k => XN w.heap.size b8 k ∧ k < wr.heap.size) W0 w1) (ho1 : w1.ownsRow W0.heap.size 5 1 (.slice a1 bs.length c1) bs.length (bs.map (Value.int .u8))) (hby : ∀ y ∈ bs, 0 ≤ y ∧ y ≤ 255) (hsh : bs.length ≤ 200) (K2 : Kept (fun k => XN w.heap.size b8 k ∧ k < wr.heap.size) (w1.alloc (.cells #[.int .i64 fr, .int .i64 to, .slice a1 bs.length c1] 29)) w2) (ho2 : w2.ownsRow (w1.alloc (.cells #[.int .i64 fr, .int .i64 to, .slice a1 bs.length c1] 29)).heap.size 5 1 (.slice a2 bs.length c2) bs.length (bs.map (Value.int .u8)))
            (N2 : NM (fun k => (XN w.heap.size b8 k ∧ k < wr.heap.size) ∨ (w1.alloc (.cells #[.int .i64 fr, .int .i64 to, .slice a1 bs.length c1] 29)).heap.size ≤ k) most (if most < 0 then 0 else most) d r (l) (l) w2) =>
          show ((w2.alloc (.cells #[.int .i64 fr, .int .i64 to, .slice a2 bs.length c2] 29)).cell? ⟨w1.heap.size, 0, none⟩ = some (.int .i64 fr) ∧ (w2.alloc (.cells #[.int .i64 fr, .int .i64 to, .slice a2 bs.length c2] 29)).cell? ⟨w1.heap.size, 1, none⟩ = some (.int .i64 to) ∧ (w2.alloc (.cells #[.int .i64 fr, .int .i64 to, .slice a2 bs.length c2] 29)).cell? ⟨w1.heap.size, 2, none⟩ = some (.slice a1 bs.length c1) ∧ (((w2.alloc (.cells #[.int .i64 fr, .int .i64 to, .slice a2 bs.length c2] 29)).alloc (.cells #[.int .i64 fr, .int .i64 to, .slice a1 bs.length c1] 29)).alloc (.cells #[.int .i64 fr, .int .i64 to, .slice a2 bs.length c2] 29)).cell? ⟨w1.heap.size, 2, none⟩ = some (.slice a1 bs.length c1)) ∧
            Calls Try.prog 15 #[.slice (some ⟨w2.heap.size + 1, 0, none⟩) 1 1, .slice (some ⟨w2.heap.size + 1 + 1, 0, none⟩) 1 1] (((w2.alloc (.cells #[.int .i64 fr, .int .i64 to, .slice a2 bs.length c2] 29)).alloc (.cells #[.int .i64 fr, .int .i64 to, .slice a1 bs.length c1] 29)).alloc (.cells #[.int .i64 fr, .int .i64 to, .slice a2 bs.length c2] 29)) (fun e w' => e = .returned (.bool true) ∧ ∃ n, w' = (((w2.alloc (.cells #[.int .i64 fr, .int .i64 to, .slice a2 bs.length c2] 29)).alloc (.cells #[.int .i64 fr, .int .i64 to, .slice a1 bs.length c1] 29)).alloc (.cells #[.int .i64 fr, .int .i64 to, .slice a2 bs.length c2] 29)).drewN n) ∧
            (∀ n, Calls Try.prog 16 #[.slice a1 bs.length c1] ((((w2.alloc (.cells #[.int .i64 fr, .int .i64 to, .slice a2 bs.length c2] 29)).alloc (.cells #[.int .i64 fr, .int .i64 to, .slice a1 bs.length c1] 29)).alloc (.cells #[.int .i64 fr, .int .i64 to, .slice a2 bs.length c2] 29)).drewN n) fun e w' => e = .returned (.tuple #[]) ∧ Kept (fun k => (Value.slice a1 bs.length c1).ownBlock = some k) ((((w2.alloc (.cells #[.int .i64 fr, .int .i64 to, .slice a2 bs.length c2] 29)).alloc (.cells #[.int .i64 fr, .int .i64 to, .slice a1 bs.length c1] 29)).alloc (.cells #[.int .i64 fr, .int .i64 to, .slice a2 bs.length c2] 29)).drewN n) w') ∧
            (∀ n w', Kept (fun k => (Value.slice a1 bs.length c1).ownBlock = some k) ((((w2.alloc (.cells #[.int .i64 fr, .int .i64 to, .slice a2 bs.length c2] 29)).alloc (.cells #[.int .i64 fr, .int .i64 to, .slice a1 bs.length c1] 29)).alloc (.cells #[.int .i64 fr, .int .i64 to, .slice a2 bs.length c2] 29)).drewN n) w' → NM (fun k => (XN w.heap.size b8 k ∧ k < wr.heap.size) ∨ (w1.alloc (.cells #[.int .i64 fr, .int .i64 to, .slice a1 bs.length c1] 29)).heap.size ≤ k) most (if most < 0 then 0 else most) d r (l) (l) w' ∧ Kept (XN w.heap.size b8) wr w' ∧ w'.heap[b8]? = some (.cells #[.pointer (some ⟨r, 0, none⟩)] 25 (0, 0))) by
          have hz1 := K1.size
          have hz2 := K2.size
          have hza : (w1.alloc (.cells #[.int .i64 fr, .int .i64 to, .slice a1 bs.length c1] 29)).heap.size = w1.heap.size + 1 := by simp
          rw [hza] at ho2 hz2
          have hCq := (K2.block w1.heap.size (by rw [hza]; omega) (ngY _ (by omega))).trans (heap_alloc_new w1 (.cells #[.int .i64 fr, .int .i64 to, .slice a1 bs.length c1] 29))
          have KA : Kept (fun _ => False) w2 (w2.alloc (.cells #[.int .i64 fr, .int .i64 to, .slice a2 bs.length c2] 29)) := Kept.alloc _ _ _
          have KZ : Kept (fun _ => False) w2 (((w2.alloc (.cells #[.int .i64 fr, .int .i64 to, .slice a2 bs.length c2] 29)).alloc (.cells #[.int .i64 fr, .int .i64 to, .slice a1 bs.length c1] 29)).alloc (.cells #[.int .i64 fr, .int .i64 to, .slice a2 bs.length c2] 29)) := ((Kept.alloc _ _ _).and (Kept.alloc _ _ _)).and (Kept.alloc _ _ _)
          obtain ⟨e0, e1, e2, _⟩ := three ((KA.block w1.heap.size (by omega) (fun h => h)).trans hCq)
          obtain ⟨_, _, e3, _⟩ := three ((KZ.block w1.heap.size (by omega) (fun h => h)).trans hCq)
          have hr1 : ∀ n, ((((w2.alloc (.cells #[.int .i64 fr, .int .i64 to, .slice a2 bs.length c2] 29)).alloc (.cells #[.int .i64 fr, .int .i64 to, .slice a1 bs.length c1] 29)).alloc (.cells #[.int .i64 fr, .int .i64 to, .slice a2 bs.length c2] 29)).drewN n).ownsRow 0 5 1 (.slice a1 bs.length c1) bs.length (bs.map (Value.int .u8)) := fun n => ownsRow_low (ownsRow_blk ho1 (fun k hk => by
            have hlt := ho1.lt k hk
            have hkz : k < (w1.alloc (.cells #[.int .i64 fr, .int .i64 to, .slice a1 bs.length c1] 29)).heap.size := by rw [hza]; omega
            exact ((KZ.and (Kept.drewN _ _ n)).block k (by omega) (fun h => h)).trans ((K2.block k hkz (ngY _ (by omega))).trans (Below.heap_alloc _ _ _ hlt.2)))) (Nat.zero_le _)
          have hr2 : (((w2.alloc (.cells #[.int .i64 fr, .int .i64 to, .slice a2 bs.length c2] 29)).alloc (.cells #[.int .i64 fr, .int .i64 to, .slice a1 bs.length c1] 29)).alloc (.cells #[.int .i64 fr, .int .i64 to, .slice a2 bs.length c2] 29)).ownsRow (w1.heap.size + 1) 5 1 (.slice a2 bs.length c2) bs.length (bs.map (Value.int .u8)) := ownsRow_blk ho2 (fun k hk => KZ.block k (ho2.lt k hk).2 (fun h => h))
          have hs : ((w2.alloc (.cells #[.int .i64 fr, .int .i64 to, .slice a2 bs.length c2] 29)).alloc (.cells #[.int .i64 fr, .int .i64 to, .slice a1 bs.length c1] 29)).heap.size = w2.heap.size + 1 + 1 := by simp
          have hs1 : (w2.alloc (.cells #[.int .i64 fr, .int .i64 to, .slice a2 bs.length c2] 29)).heap.size = w2.heap.size + 1 := by simp
          have hS1 := (Below.heap_alloc ((w2.alloc (.cells #[.int .i64 fr, .int .i64 to, .slice a2 bs.length c2] 29)).alloc (.cells #[.int .i64 fr, .int .i64 to, .slice a1 bs.length c1] 29)) (.cells #[.int .i64 fr, .int .i64 to, .slice a2 bs.length c2] 29) (w2.alloc (.cells #[.int .i64 fr, .int .i64 to, .slice a2 bs.length c2] 29)).heap.size (by simp)).trans (heap_alloc_new (w2.alloc (.cells #[.int .i64 fr, .int .i64 to, .slice a2 bs.length c2] 29)) (.cells #[.int .i64 fr, .int .i64 to, .slice a1 bs.length c1] 29))
          have hS2 := heap_alloc_new ((w2.alloc (.cells #[.int .i64 fr, .int .i64 to, .slice a2 bs.length c2] 29)).alloc (.cells #[.int .i64 fr, .int .i64 to, .slice a1 bs.length c1] 29)) (.cells #[.int .i64 fr, .int .i64 to, .slice a2 bs.length c2] 29)
          rw [hs1] at hS1
          rw [hs] at hS2
          obtain ⟨s0, s1, s2, _⟩ := three hS1
          obtain ⟨t0, t1, t2, _⟩ := three hS2
          refine ⟨⟨e0, e1, e2, e3⟩, parcels_one (((w2.alloc (.cells #[.int .i64 fr, .int .i64 to, .slice a2 bs.length c2] 29)).alloc (.cells #[.int .i64 fr, .int .i64 to, .slice a1 bs.length c1] 29)).alloc (.cells #[.int .i64 fr, .int .i64 to, .slice a2 bs.length c2] 29)) (w2.heap.size + 1) 0 1 (w2.heap.size + 1 + 1) 0 1 fr to a1 _ c1 a2 c2 bs ⟨s0, s1, s2, BytesAt.ofRow (hr1 0) hby⟩ ⟨t0, t1, t2, BytesAt.ofRow hr2 hby⟩, fun n => spoilBytes_own _ _ _ bs (hr1 n) (by omega), fun n w' K => ?_⟩
          have hz3 := KZ.size
          have hbl : ∀ k, (Value.slice a1 bs.length c1).ownBlock = some k → W0.heap.size ≤ k ∧ k < w1.heap.size := fun k hk => ho1.lt k hk
          refine ⟨(N2.keptN (KZ.and (Kept.drewN _ _ n))).kept K (fun k hk e => ?_), ?_, ?_⟩
          · have := hbl k e
            rcases hk with h | h
            · have := h.2; omega
            · omega
          · refine Kept.trans ?_ K (fun k e => .inr (by have := hbl k e; omega))
            exact ((((K0.mono (fun _ h => h.elim)).and (K1.mono (fun _ h => h.1))).and (Kept.alloc _ _ _)).and (K2.mono (fun _ h => h.1))).and ((KZ.and (Kept.drewN _ _ n)).mono (fun _ h => h.elim))
          · refine (K.block b8 (by have := (KZ.and (Kept.drewN (fun _ => False) _ n)).size; omega) (fun e => by have := hbl b8 e; omega)).trans ?_
            refine ((KZ.and (Kept.drewN _ _ n)).block b8 (by omega) (fun h => h)).trans ?_
            refine (K2.block b8 (by rw [hza]; omega) (fun h => h.1.2 rfl)).trans ?_
            exact ((K1.and (Kept.alloc _ _ _)).block b8 (by omega) (fun h => h.1.2 rfl)).trans h80
        have H1 : Hid _ := h1
        have H2 : Hid _ := h2
        have HT2 : Hid _ := hT2
        have HZ0 : Hid _ := hz0
        clear h1 h2 hT2 N0 B0 hx0 h80 ho hpx hz0
        go_wp2_with (first
          | (go_at_call 21; refine hT1.mono ?_; rintro e w1 ⟨⟨a1, c1, rfl, ho1, hby, hsh⟩, N1, K1⟩; clear hT1; obtain ⟨y8, y1⟩ := H1.out w1 a1 c1 K1; have hT2 := HT2.out w1 a1 c1 fr to bs N1; clear N1 H1 HT2)
          | (go_at_call 22; refine hT2.mono ?_; rintro e w2 ⟨⟨a2, c2, rfl, ho2, _, _⟩, N2, K2⟩; clear hT2; obtain ⟨⟨e0, e1, e2, e3⟩, hPc, hSp, hFin⟩ := H2.out w1 w2 a1 a2 c1 c2 K1 ho1 hby hsh K2 ho2 N2; have HFin : Hid _ := hFin; clear N2 H2 ho1 ho2 hFin)
          | (go_at_call 15; refine hPc.mono ?_; rintro e w3 ⟨rfl, n3, hw3⟩; subst w3; clear hPc; have hSp := hSp n3)
          | (go_at_call 16; refine hSp.mono ?_; rintro e w4 ⟨rfl, K4⟩; clear hSp)
          | fail)
        obtain ⟨NV, KV, hV8⟩ := HFin.out n3 w4 K4
        have HY : ∀ j, ((XN w.heap.size b8 j ∧ j < wr.heap.size) ∨ (w1.alloc (.cells #[.int .i64 fr, .int .i64 to, .slice a1 bs.length c1] 29)).heap.size ≤ j) → XN w.heap.size b8 j ∨ wr.heap.size ≤ j := fun j hj => by
          have hz1 := K1.size
          rw [HZ0.out] at hz1
          simp only [World.size_alloc] at hj
          rcases hj with h | h
          · exact .inl h.1
          · exact .inr (by omega)
        clear K4 e0 e1 e2 e3 HFin
        generalize w4 = V at *
        have hL8 := (one hV8).1
        obtain ⟨aR, cR, hRr⟩ := NV.rowR
        have hLn := fun n => nm_len (NV.keptN (Kept.drewN (fun _ => False) V n))
        have HNV : Hid _ := NV
        have HKV : Hid _ := KV
        have HV8 : Hid _ := hV8
        clear NV KV hV8
        go_quiet ((go_at_call 23; exact Calls.quiet_of_same (hLn _)))
        go_wp2
        go_roundw
        case rel => exact ⟨k + 1, l, by omega, by omega, by go_num, NSt.next HSt.out (NM.keptN HNV.out (Kept.drewN _ V nq)) HY (Kept.and HKV.out (Kept.drewN _ V nq)) (by omega)⟩
        case measure => simp [Go.RowKit.intOf]; omega
    · have hex : ¬ (k : Int) < (np : Int) ∨ ((k : Int) < (np : Int) ∧ ¬ (k : Int) < 200) := by omega
      obtain ⟨S1, S2, v1, v2, ps1, ps2, N1, N2, hp1, hp2, hdis, xx1, xx2⟩ := St.nets
      have hlen5 := (Array.getElem?_eq_some_iff.1 St.bx5).1
      have hlen6 := (Array.getElem?_eq_some_iff.1 St.bx6).1
      have hlen8 := (Array.getElem?_eq_some_iff.1 St.bx8).1
      have hlo8 := St.lo8
      have hll : l.length ≤ 200 := Nat.le_trans St.len hk2
      have HSt : Hid (NSt w wr most stop d r b8 k l) := St
      clear St
      rcases hex with h | ⟨h, h'⟩
      · go_wp2_with (first
          | (go_at_call 24; refine (netAll_any _ _).mono ?_; rintro e w5 ⟨rfl, hw5⟩; subst w5)
          | fail)
        obtain ⟨qk, qn⟩ := heap_two wr (.cells #[.int .i64 0] 3) (.cells #[.pointer (some ⟨d, 0, none⟩)] 23)
        have KA : Kept (fun _ => False) wr ((wr.alloc (.cells #[.int .i64 0] 3)).alloc (.cells #[.pointer (some ⟨d, 0, none⟩)] 23)) := (Kept.alloc _ _ _).and (Kept.alloc _ _ _)
        have hzA : ((wr.alloc (.cells #[.int .i64 0] 3)).alloc (.cells #[.pointer (some ⟨d, 0, none⟩)] 23)).heap.size = wr.heap.size + 2 := by simp
        generalize hWA : (wr.alloc (.cells #[.int .i64 0] 3)).alloc (.cells #[.pointer (some ⟨d, 0, none⟩)] 23) = WA at *
        clear hWA
        refine (wpIn_wide (n := 9)).1 (range_of rfl (by decide) (gf := 31) (lb := #[.pointer (some ⟨wr.heap.size + 1, 0, none⟩)]) rfl trivial (enters_of Try.func31 (by kernel_rfl) rfl) ?_)
        intro rc hfn hst hpend htm hpa has hbo
        have hreq : ({ rc with state := .ready, pending := none } : Loop) = rc := by
          cases rc
          simp only [] at hst hpend
          subst hst hpend
          rfl
        have K3 : Kept (fun _ => False) WA ((WA.alloc (.deferred (some []))).alloc (.loop rc)) := (Kept.alloc _ _ _).and (Kept.alloc _ _ _)
        have hL3 : ((WA.alloc (.deferred (some []))).alloc (.loop rc)).heap[WA.heap.size + 1]? = some (.loop rc) := (heap_two WA _ _).2
        have hD3 : ((WA.alloc (.deferred (some []))).alloc (.loop rc)).heap[WA.heap.size]? = some (.deferred (some [])) := (heap_two WA _ _).1
        have hz3 : ((WA.alloc (.deferred (some []))).alloc (.loop rc)).heap.size = WA.heap.size + 2 := by simp
        generalize hW3 : (WA.alloc (.deferred (some []))).alloc (.loop rc) = W3 at *
        clear hW3
        have KW : Kept (fun _ => False) wr W3 := KA.and K3
        have hM : ∀ b, (b = wr.heap.size ∨ b = w.heap.size + 1 ∨ b = WA.heap.size + 1) → b < W3.heap.size ∧ ¬ S1 b := fun b hb => by
          refine ⟨by omega, fun hs => ?_⟩
          have h1 := N1.bnd b hs
          have h2 := (xx1 b hs).1
          omega
        have hM2 : ∀ b, S2 b → ¬ (b = wr.heap.size ∨ b = w.heap.size + 1 ∨ b = WA.heap.size + 1) := fun b hs hb => by
          have h1 := N2.bnd b hs
          have h2 := (xx2 b hs).1
          omega
        refine (nAll_in 8 (by decide) (WA.heap.size + 1) (wr.heap.size + 1) d most S1 (fun b => b = wr.heap.size ∨ b = w.heap.size + 1 ∨ b = WA.heap.size + 1) v1 ps1 (fun k V => RJ0 (fun b => b = wr.heap.size ∨ b = w.heap.size + 1 ∨ b = WA.heap.size + 1) W3 wr.heap.size (w.heap.size + 1) (WA.heap.size + 1) rc k V) (fun V => RX0 (fun b => b = wr.heap.size ∨ b = w.heap.size + 1 ∨ b = WA.heap.size + 1) W3 (w.heap.size + 1) (WA.heap.size + 1) rc V) W3 (N1.keptN KW) hM (fun k A B h K => h.keep (by omega) (by omega) (by omega) K) (fun A B h K => h.keep (by omega) (by omega) K) ?_ ?_ ?_).mono ?_
        · rintro k2 p a c V J hp hown
          obtain ⟨q, hq, hqp⟩ : ∃ q, ps2[k2]? = some q ∧ q.pure = p.pure := by
            have h1 : l[k2]? = some p.pure := by rw [← hp1, List.getElem?_map, hp]; rfl
            rw [← hp2, List.getElem?_map] at h1
            cases hq : ps2[k2]? with
            | none => rw [hq] at h1; cases h1
            | some q => rw [hq] at h1; exact ⟨q, rfl, Option.some.inj h1⟩
          have hk2 : k2 < ps2.length := (List.getElem?_eq_some_iff.1 hq).1
          have hfr : q.fr = p.fr := congrArg Prod.fst hqp
          have hto : q.to = p.to := congrArg (fun x => x.2.1) hqp
          have hbs : q.bs = p.bs := congrArg (fun x => x.2.2) hqp
          have hby := ((N1.ok p (List.mem_of_getElem? hp))).byte
          have hVz := J.kept.size
          have hVlt := (Array.getElem?_eq_some_iff.1 J.rc_).1
          refine yield_gen (a1 := ?a1LA) (W2 := V.alloc (.cells #[.int .i64 p.fr, .int .i64 p.to, .slice a p.bs.length c] 29)) J.rc_ hst htm hpa has hbo rfl hfn ((Below.heap_alloc _ _ _ hVlt).trans J.rc_) ?hA ?hB
          case hA =>
            intro K hK
            gi_wp2
            exact hK
          case hB =>
            have HREQ : Hid _ := hreq
            clear htm hpa has hbo hst hpend hreq
            have KP : Kept (fun b => b = WA.heap.size + 1) (V.alloc (.cells #[.int .i64 p.fr, .int .i64 p.to, .slice a p.bs.length c] 29)) ((V.alloc (.cells #[.int .i64 p.fr, .int .i64 p.to, .slice a p.bs.length c] 29)).putObj (WA.heap.size + 1) (.loop { rc with state := .busy })) := Kept.putObj _ _ _ rfl
            have hzV : (V.alloc (.cells #[.int .i64 p.fr, .int .i64 p.to, .slice a p.bs.length c] 29)).heap.size = V.heap.size + 1 := by simp
            have K1V : Kept (fun b => b = WA.heap.size + 1) V ((V.alloc (.cells #[.int .i64 p.fr, .int .i64 p.to, .slice a p.bs.length c] 29)).putObj (WA.heap.size + 1) (.loop { rc with state := .busy })) := ((Kept.alloc _ _ _).and KP)
            have hl1 := heap_putObj_same (W := V.alloc (.cells #[.int .i64 p.fr, .int .i64 p.to, .slice a p.bs.length c] 29)) (l := WA.heap.size + 1) (.loop { rc with state := .busy }) (by rw [hzV]; omega)
            have xp := (KP.block V.heap.size (by rw [hzV]; omega) (fun e => by have e' : V.heap.size = WA.heap.size + 1 := e; omega)).trans (heap_alloc_new V _)
            have nL : ∀ b, b ≠ WA.heap.size + 1 → ¬ (fun b => b = WA.heap.size + 1) b := fun b h => h
            generalize hV1 : (V.alloc (.cells #[.int .i64 p.fr, .int .i64 p.to, .slice a p.bs.length c] 29)).putObj (WA.heap.size + 1) (.loop { rc with state := .busy }) = V1 at *
            clear hV1 KP
            have xk := (K1V.block wr.heap.size (by omega) (nL _ (by omega))).trans J.kbox
            have xres := (K1V.block (w.heap.size + 1) (by omega) (nL _ (by omega))).trans J.res
            have x5 := (K1V.block w.heap.size (by omega) (nL _ (by omega))).trans ((J.kept.block w.heap.size (by omega) (fun h => by omega)).trans ((KW.block _ (by omega) (fun h => h)).trans HSt.out.bx5))
            have x8 := (K1V.block b8 (by omega) (nL _ (by omega))).trans ((J.kept.block b8 (by omega) (fun h => by omega)).trans ((KW.block _ (by omega) (fun h => h)).trans HSt.out.bx8))
            have NR := ((N2.keptN KW).kept J.kept hM2).kept K1V (fun b hb e => hM2 b hb (.inr (.inr e)))
            obtain ⟨g, cap, ev2, hcap2, c0, c1, c2⟩ := NR.at hq
            obtain ⟨_, xr, _, _⟩ := NR.r0
            rw [ev2] at xr
            obtain ⟨aq, cq, evq, Bq⟩ := NR.copyW (List.mem_of_getElem? hq) (Kept.refl _ _)
            rw [hbs] at evq Bq
            rw [hfr] at c0
            rw [hto] at c1
            rw [evq] at c2
            have B1 : BytesAt V1 a p.bs.length c p.bs := (BytesAt.ofRow hown hby).kept K1V (fun hne ad e e2 => by
              have := (hown.lt ad.block (by rw [e]; rfl)).1
              have e' : ad.block = WA.heap.size + 1 := e2
              omega)
            have hrl : ps2.length ≤ 1000 := NR.few
            have KMV : Kept (fun b => b = wr.heap.size ∨ b = w.heap.size + 1 ∨ b = WA.heap.size + 1) V V1 := K1V.mono (fun b e => .inr (.inr e))
            have HJ : Hid _ := J
            have Bq2 := Bq
            clear J NR Bq evq hfr hto hbs hqp
            gi_wp2_with fail
            refine wpIn_nrm (net40 _ xk x8 xr xp hk2 hcap2 hrl B1 ⟨c0, c1, c2, Bq2⟩ ?_)
            intro v172 v173 v174 v175 v176 v177 v178 v179 v180 v181 v182 v183 v184 v185 v186 v187 v188 v189 v190 v191 v192 v193 v194 v195 v196 w9 K9
            dsimp only
            have K19 : Kept (fun _ => False) V1 w9 := (Kept.drew _ _).and K9
            have hV1z := K1V.size
            obtain ⟨yk, yf⟩ := one ((K19.block wr.heap.size (by omega) (fun h => h)).trans xk)
            gi_wp2_with fail
            have K2 : Kept (fun b => b = wr.heap.size ∨ b = w.heap.size + 1 ∨ b = WA.heap.size + 1) V (w9.setCell ⟨wr.heap.size, 0, none⟩ (.int .i64 ((k2 : Int) + 1))) := (KMV.and (K19.mono (fun _ h => h.elim))).and (Kept.setCell _ _ _ (.inl rfl))
            have KS : Kept (fun b => b = wr.heap.size) w9 (w9.setCell ⟨wr.heap.size, 0, none⟩ (.int .i64 ((k2 : Int) + 1))) := Kept.setCell _ _ _ rfl
            have hz9 := K19.size
            have zk : (w9.setCell ⟨wr.heap.size, 0, none⟩ (.int .i64 ((k2 : Int) + 1))).heap[wr.heap.size]? = some (.cells #[.int .i64 ((k2 : Int) + 1)] 3 (0, 0)) := by
              have h := (K19.block wr.heap.size (by omega) (fun h => h)).trans xk
              simp [World.setCell, Array.getElem?_modify, h]
            have K19S : Kept (fun b => b = wr.heap.size) V1 (w9.setCell ⟨wr.heap.size, 0, none⟩ (.int .i64 ((k2 : Int) + 1))) := (K19.mono (fun _ h => h.elim)).and KS
            have z5 := (K19S.block w.heap.size (by omega) (fun e => by have e' : w.heap.size = wr.heap.size := e; omega)).trans x5
            have z6 := (K19S.block (w.heap.size + 1) (by omega) (fun e => by have e' : w.heap.size + 1 = wr.heap.size := e; omega)).trans xres
            have zL := (K19S.block (WA.heap.size + 1) (by omega) (fun e => by have e' : WA.heap.size + 1 = wr.heap.size := e; omega)).trans hl1
            have hz2 := K19S.size
            clear K9 K19 KS K19S yk yf xk x5 x8 xr xp xres hl1 c0 c1 c2 B1 Bq2 KMV
            generalize w9.setCell ⟨wr.heap.size, 0, none⟩ (.int .i64 ((k2 : Int) + 1)) = V2 at *
            have finN : ∀ W', Kept (fun _ => False) V2 W' → W'.heap[WA.heap.size + 1]? = some (.loop { rc with state := .busy }) ∧ RJ0 (fun b => b = wr.heap.size ∨ b = w.heap.size + 1 ∨ b = WA.heap.size + 1) W3 wr.heap.size (w.heap.size + 1) (WA.heap.size + 1) rc (k2 + 1) (W'.putObj (WA.heap.size + 1) (.loop rc)) ∧ Kept (fun b => b = wr.heap.size ∨ b = w.heap.size + 1 ∨ b = WA.heap.size + 1) V (W'.putObj (WA.heap.size + 1) (.loop rc)) := fun W' K => by
              have hL := (K.block _ (by omega) (fun h => h)).trans zL
              have hLz := (Array.getElem?_eq_some_iff.1 hL).1
              have KV : Kept (fun b => b = wr.heap.size ∨ b = w.heap.size + 1 ∨ b = WA.heap.size + 1) V (W'.putObj (WA.heap.size + 1) (.loop rc)) := (K2.and (K.mono (fun _ h => h.elim))).and (Kept.putObj _ _ _ (.inr (.inr rfl)))
              refine ⟨hL, ⟨HJ.out.kept.and KV, ?_, ?_, heap_putObj_same _ hLz⟩, KV⟩
              · rw [World.putObj_heap_other (by omega), K.block _ (by omega) (fun h => h), zk]
                push_cast
                rfl
              · rw [World.putObj_heap_other (by omega), K.block _ (by omega) (fun h => h), z6]
            have finX : ∀ W', Kept (fun _ => False) V2 W' → (W'.setCell ⟨w.heap.size + 1, 0, none⟩ (.bool true)).heap[WA.heap.size + 1]? = some (.loop { rc with state := .busy }) ∧ RX0 (fun b => b = wr.heap.size ∨ b = w.heap.size + 1 ∨ b = WA.heap.size + 1) W3 (w.heap.size + 1) (WA.heap.size + 1) rc ((W'.setCell ⟨w.heap.size + 1, 0, none⟩ (.bool true)).putObj (WA.heap.size + 1) (.loop { rc with state := .done, pending := some .ret })) ∧ Kept (fun b => b = wr.heap.size ∨ b = w.heap.size + 1 ∨ b = WA.heap.size + 1) V ((W'.setCell ⟨w.heap.size + 1, 0, none⟩ (.bool true)).putObj (WA.heap.size + 1) (.loop { rc with state := .done, pending := some .ret })) := fun W' K => by
              have hL := (K.block _ (by omega) (fun h => h)).trans zL
              have hLz := (Array.getElem?_eq_some_iff.1 hL).1
              have KV : Kept (fun b => b = wr.heap.size ∨ b = w.heap.size + 1 ∨ b = WA.heap.size + 1) V ((W'.setCell ⟨w.heap.size + 1, 0, none⟩ (.bool true)).putObj (WA.heap.size + 1) (.loop { rc with state := .done, pending := some .ret })) := ((K2.and (K.mono (fun _ h => h.elim))).and (Kept.setCell _ _ _ (.inr (.inl rfl)))).and (Kept.putObj _ _ _ (.inr (.inr rfl)))
              have h6 := (K.block (w.heap.size + 1) (by omega) (fun h => h)).trans z6
              refine ⟨(Below.heap_setCell _ _ _ _ (by show WA.heap.size + 1 ≠ w.heap.size + 1; omega)).trans hL, ⟨HJ.out.kept.and KV, ?_, heap_putObj_same _ (by rw [World.size_setCell]; exact hLz)⟩, KV⟩
              rw [World.putObj_heap_other (by omega)]
              simp [World.setCell, Array.getElem?_modify, h6]
            have HN : Hid _ := finN
            have HX : Hid _ := finX
            have y0 := (one zk).1
            have y5 := (one z5).1
            have h6z : ∀ W', Kept (fun _ => False) V2 W' → W'.cell? ⟨w.heap.size + 1, 0, none⟩ = some (.bool false) ∧ W'.frozen? ⟨w.heap.size + 1, 0, none⟩ = false := fun W' K => one ((K.block _ (by omega) (fun h => h)).trans z6)
            have H6 : Hid _ := h6z
            have hWi : ∀ W, _ := fun W => within_any W stop 20 (by decide) (by decide)
            have hs0 := Int.emod_nonneg stop (show (20 : Int) ≠ 0 by decide)
            have hs1 := Int.emod_lt_of_pos stop (show (0 : Int) < 20 by decide)
            generalize stop % 20 = sv at *
            have hw : IntKind.i64.wrap (1 + sv) = 1 + sv := by rw [IntKind.wrap_i64]; omega
            clear finN finX h6z zk z5 z6 zL hzA hz3
            by_cases hend : (k2 : Int) = sv
            · have e1 : ((k2 : Int) + 1 == 1 + sv) = true := by simp; omega
              refine region_round rfl (by kernel_rfl) (by kernel_rfl) (by kernel_rfl) ?_
              iterate 2 (gi_big_quiet_step (fail))
              refine BigFrame.wpQuietIn_want (fun _ _ _ _ => trivial) rfl (fun K hK => ?_)
              gi_big_quiet_op
              apply Exists.intro
              refine ⟨fun _ => ?_, ?_⟩
              · exact callsIn_wide.2 (Calls.quiet_of_same (hWi _))
              refine hK _ ?_
              clear hK K
              repeat (gi_big_quiet_step (fail))
              refine wpQuietIn_nil ?_
              rintro _ ⟨nr, rfl⟩
              gi_wp2_with (first
                | (refine ⟨trivial, ?_⟩; gi_at_call 25; refine (CallsIn.inRound (WA.heap.size + 1) (callsIn_wide.2 (wakes_any _))).mono ?_; rintro e w12 ⟨rfl, K12⟩; obtain ⟨r12, f12⟩ := H6.out w12 ((Kept.drewN (fun _ => False) V2 nr).and K12))
                | fail)
              exact HX.out w12 ((Kept.drewN (fun _ => False) V2 nr).and K12)
            · have e1 : ((k2 : Int) + 1 == 1 + sv) = false := by simp; omega
              refine region_round rfl (by kernel_rfl) (by kernel_rfl) (by kernel_rfl) ?_
              iterate 2 (gi_big_quiet_step (fail))
              refine BigFrame.wpQuietIn_want (fun _ _ _ _ => trivial) rfl (fun K hK => ?_)
              gi_big_quiet_op
              apply Exists.intro
              refine ⟨fun _ => ?_, ?_⟩
              · exact callsIn_wide.2 (Calls.quiet_of_same (hWi _))
              refine hK _ ?_
              clear hK K
              repeat (gi_big_quiet_step (fail))
              refine wpQuietIn_nil ?_
              rintro _ ⟨nr, rfl⟩
              gi_wp2
              rw [HREQ.out]
              exact HN.out _ (Kept.drewN (fun _ => False) V2 nr)
        · have h := (K3.block (wr.heap.size + 1) (by omega) (fun h => h)).trans qn
          exact (one h).1
        · exact ⟨Kept.refl _ _, (K3.block _ (by omega) (fun h => h)).trans qk, (KW.block _ (by omega) (fun h => h)).trans HSt.out.bx6, hL3⟩
        · rintro e V ⟨⟨v9, rfl⟩, J | X⟩
          · have hVz := J.kept.size
            have BV : Below w.heap.size w V := (HSt.out.below.trans (KW.below HSt.out.below.size (fun _ h => h.elim))).trans (J.kept.below (by omega) (fun b hb => by omega))
            have hVd := (J.kept.block WA.heap.size (by omega) (fun h => by omega)).trans hD3
            refine ⟨⟨_, rfl⟩, rc, J.rc_, by rw [hst]; decide, .inl ⟨hpend, ?_⟩⟩
            have KP : Kept (fun b => b = WA.heap.size + 1) V (V.putObj (WA.heap.size + 1) (.loop { rc with state := .exhausted })) := Kept.putObj _ _ _ rfl
            have xk := (KP.block wr.heap.size (by omega) (fun e => by have e' : wr.heap.size = WA.heap.size + 1 := e; omega)).trans J.kbox
            have xres := (KP.block (w.heap.size + 1) (by omega) (fun e => by have e' : w.heap.size + 1 = WA.heap.size + 1 := e; omega)).trans J.res
            have x8 := (KP.block b8 (by omega) (fun e => by have e' : b8 = WA.heap.size + 1 := e; omega)).trans ((J.kept.block b8 (by omega) (fun h => by omega)).trans ((KW.block _ (by omega) (fun h => h)).trans HSt.out.bx8))
            have xd := (KP.block WA.heap.size (by omega) (fun e => by have e' : WA.heap.size = WA.heap.size + 1 := e; omega)).trans hVd
            have NR := ((N2.keptN KW).kept J.kept hM2).kept KP (fun b hb e => hM2 b hb (.inr (.inr e)))
            obtain ⟨aR, cR, eR, _⟩ := NR.shape
            obtain ⟨_, xr, _, _⟩ := NR.r0
            rw [eR] at xr
            have hll2 : ps1.length = ps2.length := (lenX hp1).trans (lenX hp2).symm
            rw [hll2] at xk
            have BP : Below w.heap.size w (V.putObj (WA.heap.size + 1) (.loop { rc with state := .exhausted })) := BV.trans (KP.below BV.size (fun b e => by have e' : b = WA.heap.size + 1 := e; omega))
            have hPz := KP.size
            have HZA : Hid _ := hzA
            clear KP J hVd BV htm hpa has hbo hst hpend hreq NR
            generalize V.putObj (WA.heap.size + 1) (.loop { rc with state := .exhausted }) = V2 at *
            obtain ⟨y0, _⟩ := one xk
            obtain ⟨y8, _⟩ := one x8
            have KD := Kept.drew (fun _ => False) V2
            have hW9 : ∀ w9, Kept (fun _ => False) V2.drew w9 → w9.cell? ⟨w.heap.size + 1, 0, none⟩ = some (.bool false) ∧ w9.frozen? ⟨w.heap.size + 1, 0, none⟩ = false := fun w9 K => one (((KD.and K).block _ (by omega) (fun h => h)).trans xres)
            have H9 : Hid _ := hW9
            have fin : ∀ w9, Kept (fun _ => False) V2.drew w9 → (w9.setCell ⟨w.heap.size + 1, 0, none⟩ (.bool true)).heap[WA.heap.size]? = some (.deferred (some [])) ∧ ((w9.setCell ⟨w.heap.size + 1, 0, none⟩ (.bool true)).putObj WA.heap.size (.deferred none)).cell? ⟨w.heap.size + 1, 0, none⟩ = some (.bool true) ∧ Below w.heap.size w ((w9.setCell ⟨w.heap.size + 1, 0, none⟩ (.bool true)).putObj WA.heap.size (.deferred none)) := fun w9 K => by
              have K29 := KD.and K
              have h6 := (K29.block (w.heap.size + 1) (by omega) (fun h => h)).trans xres
              have hd := (Below.heap_setCell w9 ⟨w.heap.size + 1, 0, none⟩ (.bool true) WA.heap.size (by show WA.heap.size ≠ w.heap.size + 1; omega)).trans ((K29.block _ (by omega) (fun h => h)).trans xd)
              refine ⟨hd, ?_, ?_⟩
              · refine (World.cell?_of_block (World.putObj_heap_other (by show w.heap.size + 1 ≠ WA.heap.size; omega))).trans ?_
                simp [World.cell?, World.setCell, Array.getElem?_modify, h6]
              · have KF : Kept (fun b => w.heap.size ≤ b) V2 ((w9.setCell ⟨w.heap.size + 1, 0, none⟩ (.bool true)).putObj WA.heap.size (.deferred none)) := ((K29.mono (fun _ h => h.elim)).and (Kept.setCell _ _ _ (by show w.heap.size ≤ w.heap.size + 1; omega))).and (Kept.putObj _ _ _ (by show w.heap.size ≤ WA.heap.size; omega))
                exact BP.trans (KF.below BP.size (fun _ h => h))
            have HF : Hid _ := fin
            have ed : decide ((ps2.length : Int) = (ps2.length : Int)) = true := by simp
            clear hW9 fin xk xres x8 xd hzA hz3
            go_wp2_with fail
            refine wp_nrm ?_
            go_region_with (first
              | (go_at_call 25; refine (wakes_any _).mono ?_; rintro e w9 ⟨rfl, K9⟩; obtain ⟨r9, f9⟩ := H9.out w9 K9)
              | fail)
            all_goals
              simp only [nrm]
              go_wp2
              obtain ⟨hKd, hc5, hbl⟩ := HF.out w9 K9
              refine ⟨by simp, .inl ⟨_, _, rfl, run_takeDeferred hKd, ?_⟩⟩
              refine ⟨.bool true, ?_, rfl, hbl⟩
              simp [results, Try.f3, go_sem, hc5]
          · have hVz := X.kept.size
            have BV : Below w.heap.size w V := (HSt.out.below.trans (KW.below HSt.out.below.size (fun _ h => h.elim))).trans (X.kept.below (by omega) (fun b hb => by omega))
            have hVd := (X.kept.block WA.heap.size (by omega) (fun h => by omega)).trans hD3
            refine ⟨⟨_, rfl⟩, _, X.rc_, by simp, .inr ⟨.ret, rfl, ?_⟩⟩
            have KP : Kept (fun b => b = WA.heap.size + 1) V (V.putObj (WA.heap.size + 1) (.loop { rc with state := .exhausted, pending := some .ret })) := Kept.putObj _ _ _ rfl
            have xres := (KP.block (w.heap.size + 1) (by omega) (fun e => by have e' : w.heap.size + 1 = WA.heap.size + 1 := e; omega)).trans X.res
            have xd := (KP.block WA.heap.size (by omega) (fun e => by have e' : WA.heap.size = WA.heap.size + 1 := e; omega)).trans hVd
            have BP : Below w.heap.size w (V.putObj (WA.heap.size + 1) (.loop { rc with state := .exhausted, pending := some .ret })) := BV.trans (KP.below BV.size (fun b e => by have e' : b = WA.heap.size + 1 := e; omega))
            clear KP X hVd BV htm hpa has hbo hst hpend hreq
            generalize V.putObj (WA.heap.size + 1) (.loop { rc with state := .exhausted, pending := some .ret }) = V2 at *
            have KF : Kept (fun b => w.heap.size ≤ b) V2 (V2.putObj WA.heap.size (.deferred none)) := Kept.putObj _ _ _ (by show w.heap.size ≤ WA.heap.size; omega)
            have hbl : Below w.heap.size w (V2.putObj WA.heap.size (.deferred none)) := BP.trans (KF.below BP.size (fun _ h => h))
            have hc5 : (V2.putObj WA.heap.size (.deferred none)).cell? ⟨w.heap.size + 1, 0, none⟩ = some (.bool true) := (World.cell?_of_block (World.putObj_heap_other (by show w.heap.size + 1 ≠ WA.heap.size; omega))).trans (one xres).1
            clear KF xres hzA hz3
            gi_wp2
            refine ⟨by simp, .inl ⟨_, _, rfl, run_takeDeferred xd, ?_⟩⟩
            refine ⟨.bool true, ?_, rfl, hbl⟩
            simp [results, Try.f3, go_sem, hc5]
      · go_wp2_with (first
          | (go_at_call 24; refine (netAll_any _ _).mono ?_; rintro e w5 ⟨rfl, hw5⟩; subst w5)
          | fail)
        obtain ⟨qk, qn⟩ := heap_two wr (.cells #[.int .i64 0] 3) (.cells #[.pointer (some ⟨d, 0, none⟩)] 23)
        have KA : Kept (fun _ => False) wr ((wr.alloc (.cells #[.int .i64 0] 3)).alloc (.cells #[.pointer (some ⟨d, 0, none⟩)] 23)) := (Kept.alloc _ _ _).and (Kept.alloc _ _ _)
        have hzA : ((wr.alloc (.cells #[.int .i64 0] 3)).alloc (.cells #[.pointer (some ⟨d, 0, none⟩)] 23)).heap.size = wr.heap.size + 2 := by simp
        generalize hWA : (wr.alloc (.cells #[.int .i64 0] 3)).alloc (.cells #[.pointer (some ⟨d, 0, none⟩)] 23) = WA at *
        clear hWA
        refine (wpIn_wide (n := 9)).1 (range_of rfl (by decide) (gf := 31) (lb := #[.pointer (some ⟨wr.heap.size + 1, 0, none⟩)]) rfl trivial (enters_of Try.func31 (by kernel_rfl) rfl) ?_)
        intro rc hfn hst hpend htm hpa has hbo
        have hreq : ({ rc with state := .ready, pending := none } : Loop) = rc := by
          cases rc
          simp only [] at hst hpend
          subst hst hpend
          rfl
        have K3 : Kept (fun _ => False) WA ((WA.alloc (.deferred (some []))).alloc (.loop rc)) := (Kept.alloc _ _ _).and (Kept.alloc _ _ _)
        have hL3 : ((WA.alloc (.deferred (some []))).alloc (.loop rc)).heap[WA.heap.size + 1]? = some (.loop rc) := (heap_two WA _ _).2
        have hD3 : ((WA.alloc (.deferred (some []))).alloc (.loop rc)).heap[WA.heap.size]? = some (.deferred (some [])) := (heap_two WA _ _).1
        have hz3 : ((WA.alloc (.deferred (some []))).alloc (.loop rc)).heap.size = WA.heap.size + 2 := by simp
        generalize hW3 : (WA.alloc (.deferred (some []))).alloc (.loop rc) = W3 at *
        clear hW3
        have KW : Kept (fun _ => False) wr W3 := KA.and K3
        have hM : ∀ b, (b = wr.heap.size ∨ b = w.heap.size + 1 ∨ b = WA.heap.size + 1) → b < W3.heap.size ∧ ¬ S1 b := fun b hb => by
          refine ⟨by omega, fun hs => ?_⟩
          have h1 := N1.bnd b hs
          have h2 := (xx1 b hs).1
          omega
        have hM2 : ∀ b, S2 b → ¬ (b = wr.heap.size ∨ b = w.heap.size + 1 ∨ b = WA.heap.size + 1) := fun b hs hb => by
          have h1 := N2.bnd b hs
          have h2 := (xx2 b hs).1
          omega
        refine (nAll_in 8 (by decide) (WA.heap.size + 1) (wr.heap.size + 1) d most S1 (fun b => b = wr.heap.size ∨ b = w.heap.size + 1 ∨ b = WA.heap.size + 1) v1 ps1 (fun k V => RJ0 (fun b => b = wr.heap.size ∨ b = w.heap.size + 1 ∨ b = WA.heap.size + 1) W3 wr.heap.size (w.heap.size + 1) (WA.heap.size + 1) rc k V) (fun V => RX0 (fun b => b = wr.heap.size ∨ b = w.heap.size + 1 ∨ b = WA.heap.size + 1) W3 (w.heap.size + 1) (WA.heap.size + 1) rc V) W3 (N1.keptN KW) hM (fun k A B h K => h.keep (by omega) (by omega) (by omega) K) (fun A B h K => h.keep (by omega) (by omega) K) ?_ ?_ ?_).mono ?_
        · rintro k2 p a c V J hp hown
          obtain ⟨q, hq, hqp⟩ : ∃ q, ps2[k2]? = some q ∧ q.pure = p.pure := by
            have h1 : l[k2]? = some p.pure := by rw [← hp1, List.getElem?_map, hp]; rfl
            rw [← hp2, List.getElem?_map] at h1
            cases hq : ps2[k2]? with
            | none => rw [hq] at h1; cases h1
            | some q => rw [hq] at h1; exact ⟨q, rfl, Option.some.inj h1⟩
          have hk2 : k2 < ps2.length := (List.getElem?_eq_some_iff.1 hq).1
          have hfr : q.fr = p.fr := congrArg Prod.fst hqp
          have hto : q.to = p.to := congrArg (fun x => x.2.1) hqp
          have hbs : q.bs = p.bs := congrArg (fun x => x.2.2) hqp
          have hby := ((N1.ok p (List.mem_of_getElem? hp))).byte
          have hVz := J.kept.size
          have hVlt := (Array.getElem?_eq_some_iff.1 J.rc_).1
          refine yield_gen (a1 := ?a1LB) (W2 := V.alloc (.cells #[.int .i64 p.fr, .int .i64 p.to, .slice a p.bs.length c] 29)) J.rc_ hst htm hpa has hbo rfl hfn ((Below.heap_alloc _ _ _ hVlt).trans J.rc_) ?hA ?hB
          case hA =>
            intro K hK
            gi_wp2
            exact hK
          case hB =>
            have HREQ : Hid _ := hreq
            clear htm hpa has hbo hst hpend hreq
            have KP : Kept (fun b => b = WA.heap.size + 1) (V.alloc (.cells #[.int .i64 p.fr, .int .i64 p.to, .slice a p.bs.length c] 29)) ((V.alloc (.cells #[.int .i64 p.fr, .int .i64 p.to, .slice a p.bs.length c] 29)).putObj (WA.heap.size + 1) (.loop { rc with state := .busy })) := Kept.putObj _ _ _ rfl
            have hzV : (V.alloc (.cells #[.int .i64 p.fr, .int .i64 p.to, .slice a p.bs.length c] 29)).heap.size = V.heap.size + 1 := by simp
            have K1V : Kept (fun b => b = WA.heap.size + 1) V ((V.alloc (.cells #[.int .i64 p.fr, .int .i64 p.to, .slice a p.bs.length c] 29)).putObj (WA.heap.size + 1) (.loop { rc with state := .busy })) := ((Kept.alloc _ _ _).and KP)
            have hl1 := heap_putObj_same (W := V.alloc (.cells #[.int .i64 p.fr, .int .i64 p.to, .slice a p.bs.length c] 29)) (l := WA.heap.size + 1) (.loop { rc with state := .busy }) (by rw [hzV]; omega)
            have xp := (KP.block V.heap.size (by rw [hzV]; omega) (fun e => by have e' : V.heap.size = WA.heap.size + 1 := e; omega)).trans (heap_alloc_new V _)
            have nL : ∀ b, b ≠ WA.heap.size + 1 → ¬ (fun b => b = WA.heap.size + 1) b := fun b h => h
            generalize hV1 : (V.alloc (.cells #[.int .i64 p.fr, .int .i64 p.to, .slice a p.bs.length c] 29)).putObj (WA.heap.size + 1) (.loop { rc with state := .busy }) = V1 at *
            clear hV1 KP
            have xk := (K1V.block wr.heap.size (by omega) (nL _ (by omega))).trans J.kbox
            have xres := (K1V.block (w.heap.size + 1) (by omega) (nL _ (by omega))).trans J.res
            have x5 := (K1V.block w.heap.size (by omega) (nL _ (by omega))).trans ((J.kept.block w.heap.size (by omega) (fun h => by omega)).trans ((KW.block _ (by omega) (fun h => h)).trans HSt.out.bx5))
            have x8 := (K1V.block b8 (by omega) (nL _ (by omega))).trans ((J.kept.block b8 (by omega) (fun h => by omega)).trans ((KW.block _ (by omega) (fun h => h)).trans HSt.out.bx8))
            have NR := ((N2.keptN KW).kept J.kept hM2).kept K1V (fun b hb e => hM2 b hb (.inr (.inr e)))
            obtain ⟨g, cap, ev2, hcap2, c0, c1, c2⟩ := NR.at hq
            obtain ⟨_, xr, _, _⟩ := NR.r0
            rw [ev2] at xr
            obtain ⟨aq, cq, evq, Bq⟩ := NR.copyW (List.mem_of_getElem? hq) (Kept.refl _ _)
            rw [hbs] at evq Bq
            rw [hfr] at c0
            rw [hto] at c1
            rw [evq] at c2
            have B1 : BytesAt V1 a p.bs.length c p.bs := (BytesAt.ofRow hown hby).kept K1V (fun hne ad e e2 => by
              have := (hown.lt ad.block (by rw [e]; rfl)).1
              have e' : ad.block = WA.heap.size + 1 := e2
              omega)
            have hrl : ps2.length ≤ 1000 := NR.few
            have KMV : Kept (fun b => b = wr.heap.size ∨ b = w.heap.size + 1 ∨ b = WA.heap.size + 1) V V1 := K1V.mono (fun b e => .inr (.inr e))
            have HJ : Hid _ := J
            have Bq2 := Bq
            clear J NR Bq evq hfr hto hbs hqp
            gi_wp2_with fail
            refine wpIn_nrm (net40 _ xk x8 xr xp hk2 hcap2 hrl B1 ⟨c0, c1, c2, Bq2⟩ ?_)
            intro v172 v173 v174 v175 v176 v177 v178 v179 v180 v181 v182 v183 v184 v185 v186 v187 v188 v189 v190 v191 v192 v193 v194 v195 v196 w9 K9
            dsimp only
            have K19 : Kept (fun _ => False) V1 w9 := (Kept.drew _ _).and K9
            have hV1z := K1V.size
            obtain ⟨yk, yf⟩ := one ((K19.block wr.heap.size (by omega) (fun h => h)).trans xk)
            gi_wp2_with fail
            have K2 : Kept (fun b => b = wr.heap.size ∨ b = w.heap.size + 1 ∨ b = WA.heap.size + 1) V (w9.setCell ⟨wr.heap.size, 0, none⟩ (.int .i64 ((k2 : Int) + 1))) := (KMV.and (K19.mono (fun _ h => h.elim))).and (Kept.setCell _ _ _ (.inl rfl))
            have KS : Kept (fun b => b = wr.heap.size) w9 (w9.setCell ⟨wr.heap.size, 0, none⟩ (.int .i64 ((k2 : Int) + 1))) := Kept.setCell _ _ _ rfl
            have hz9 := K19.size
            have zk : (w9.setCell ⟨wr.heap.size, 0, none⟩ (.int .i64 ((k2 : Int) + 1))).heap[wr.heap.size]? = some (.cells #[.int .i64 ((k2 : Int) + 1)] 3 (0, 0)) := by
              have h := (K19.block wr.heap.size (by omega) (fun h => h)).trans xk
              simp [World.setCell, Array.getElem?_modify, h]
            have K19S : Kept (fun b => b = wr.heap.size) V1 (w9.setCell ⟨wr.heap.size, 0, none⟩ (.int .i64 ((k2 : Int) + 1))) := (K19.mono (fun _ h => h.elim)).and KS
            have z5 := (K19S.block w.heap.size (by omega) (fun e => by have e' : w.heap.size = wr.heap.size := e; omega)).trans x5
            have z6 := (K19S.block (w.heap.size + 1) (by omega) (fun e => by have e' : w.heap.size + 1 = wr.heap.size := e; omega)).trans xres
            have zL := (K19S.block (WA.heap.size + 1) (by omega) (fun e => by have e' : WA.heap.size + 1 = wr.heap.size := e; omega)).trans hl1
            have hz2 := K19S.size
            clear K9 K19 KS K19S yk yf xk x5 x8 xr xp xres hl1 c0 c1 c2 B1 Bq2 KMV
            generalize w9.setCell ⟨wr.heap.size, 0, none⟩ (.int .i64 ((k2 : Int) + 1)) = V2 at *
            have finN : ∀ W', Kept (fun _ => False) V2 W' → W'.heap[WA.heap.size + 1]? = some (.loop { rc with state := .busy }) ∧ RJ0 (fun b => b = wr.heap.size ∨ b = w.heap.size + 1 ∨ b = WA.heap.size + 1) W3 wr.heap.size (w.heap.size + 1) (WA.heap.size + 1) rc (k2 + 1) (W'.putObj (WA.heap.size + 1) (.loop rc)) ∧ Kept (fun b => b = wr.heap.size ∨ b = w.heap.size + 1 ∨ b = WA.heap.size + 1) V (W'.putObj (WA.heap.size + 1) (.loop rc)) := fun W' K => by
              have hL := (K.block _ (by omega) (fun h => h)).trans zL
              have hLz := (Array.getElem?_eq_some_iff.1 hL).1
              have KV : Kept (fun b => b = wr.heap.size ∨ b = w.heap.size + 1 ∨ b = WA.heap.size + 1) V (W'.putObj (WA.heap.size + 1) (.loop rc)) := (K2.and (K.mono (fun _ h => h.elim))).and (Kept.putObj _ _ _ (.inr (.inr rfl)))
              refine ⟨hL, ⟨HJ.out.kept.and KV, ?_, ?_, heap_putObj_same _ hLz⟩, KV⟩
              · rw [World.putObj_heap_other (by omega), K.block _ (by omega) (fun h => h), zk]
                push_cast
                rfl
              · rw [World.putObj_heap_other (by omega), K.block _ (by omega) (fun h => h), z6]
            have finX : ∀ W', Kept (fun _ => False) V2 W' → (W'.setCell ⟨w.heap.size + 1, 0, none⟩ (.bool true)).heap[WA.heap.size + 1]? = some (.loop { rc with state := .busy }) ∧ RX0 (fun b => b = wr.heap.size ∨ b = w.heap.size + 1 ∨ b = WA.heap.size + 1) W3 (w.heap.size + 1) (WA.heap.size + 1) rc ((W'.setCell ⟨w.heap.size + 1, 0, none⟩ (.bool true)).putObj (WA.heap.size + 1) (.loop { rc with state := .done, pending := some .ret })) ∧ Kept (fun b => b = wr.heap.size ∨ b = w.heap.size + 1 ∨ b = WA.heap.size + 1) V ((W'.setCell ⟨w.heap.size + 1, 0, none⟩ (.bool true)).putObj (WA.heap.size + 1) (.loop { rc with state := .done, pending := some .ret })) := fun W' K => by
              have hL := (K.block _ (by omega) (fun h => h)).trans zL
              have hLz := (Array.getElem?_eq_some_iff.1 hL).1
              have KV : Kept (fun b => b = wr.heap.size ∨ b = w.heap.size + 1 ∨ b = WA.heap.size + 1) V ((W'.setCell ⟨w.heap.size + 1, 0, none⟩ (.bool true)).putObj (WA.heap.size + 1) (.loop { rc with state := .done, pending := some .ret })) := ((K2.and (K.mono (fun _ h => h.elim))).and (Kept.setCell _ _ _ (.inr (.inl rfl)))).and (Kept.putObj _ _ _ (.inr (.inr rfl)))
              have h6 := (K.block (w.heap.size + 1) (by omega) (fun h => h)).trans z6
              refine ⟨(Below.heap_setCell _ _ _ _ (by show WA.heap.size + 1 ≠ w.heap.size + 1; omega)).trans hL, ⟨HJ.out.kept.and KV, ?_, heap_putObj_same _ (by rw [World.size_setCell]; exact hLz)⟩, KV⟩
              rw [World.putObj_heap_other (by omega)]
              simp [World.setCell, Array.getElem?_modify, h6]
            have HN : Hid _ := finN
            have HX : Hid _ := finX
            have y0 := (one zk).1
            have y5 := (one z5).1
            have h6z : ∀ W', Kept (fun _ => False) V2 W' → W'.cell? ⟨w.heap.size + 1, 0, none⟩ = some (.bool false) ∧ W'.frozen? ⟨w.heap.size + 1, 0, none⟩ = false := fun W' K => one ((K.block _ (by omega) (fun h => h)).trans z6)
            have H6 : Hid _ := h6z
            have hWi : ∀ W, _ := fun W => within_any W stop 20 (by decide) (by decide)
            have hs0 := Int.emod_nonneg stop (show (20 : Int) ≠ 0 by decide)
            have hs1 := Int.emod_lt_of_pos stop (show (0 : Int) < 20 by decide)
            generalize stop % 20 = sv at *
            have hw : IntKind.i64.wrap (1 + sv) = 1 + sv := by rw [IntKind.wrap_i64]; omega
            clear finN finX h6z zk z5 z6 zL hzA hz3
            by_cases hend : (k2 : Int) = sv
            · have e1 : ((k2 : Int) + 1 == 1 + sv) = true := by simp; omega
              refine region_round rfl (by kernel_rfl) (by kernel_rfl) (by kernel_rfl) ?_
              iterate 2 (gi_big_quiet_step (fail))
              refine BigFrame.wpQuietIn_want (fun _ _ _ _ => trivial) rfl (fun K hK => ?_)
              gi_big_quiet_op
              apply Exists.intro
              refine ⟨fun _ => ?_, ?_⟩
              · exact callsIn_wide.2 (Calls.quiet_of_same (hWi _))
              refine hK _ ?_
              clear hK K
              repeat (gi_big_quiet_step (fail))
              refine wpQuietIn_nil ?_
              rintro _ ⟨nr, rfl⟩
              gi_wp2_with (first
                | (refine ⟨trivial, ?_⟩; gi_at_call 25; refine (CallsIn.inRound (WA.heap.size + 1) (callsIn_wide.2 (wakes_any _))).mono ?_; rintro e w12 ⟨rfl, K12⟩; obtain ⟨r12, f12⟩ := H6.out w12 ((Kept.drewN (fun _ => False) V2 nr).and K12))
                | fail)
              exact HX.out w12 ((Kept.drewN (fun _ => False) V2 nr).and K12)
            · have e1 : ((k2 : Int) + 1 == 1 + sv) = false := by simp; omega
              refine region_round rfl (by kernel_rfl) (by kernel_rfl) (by kernel_rfl) ?_
              iterate 2 (gi_big_quiet_step (fail))
              refine BigFrame.wpQuietIn_want (fun _ _ _ _ => trivial) rfl (fun K hK => ?_)
              gi_big_quiet_op
              apply Exists.intro
              refine ⟨fun _ => ?_, ?_⟩
              · exact callsIn_wide.2 (Calls.quiet_of_same (hWi _))
              refine hK _ ?_
              clear hK K
              repeat (gi_big_quiet_step (fail))
              refine wpQuietIn_nil ?_
              rintro _ ⟨nr, rfl⟩
              gi_wp2
              rw [HREQ.out]
              exact HN.out _ (Kept.drewN (fun _ => False) V2 nr)
        · have h := (K3.block (wr.heap.size + 1) (by omega) (fun h => h)).trans qn
          exact (one h).1
        · exact ⟨Kept.refl _ _, (K3.block _ (by omega) (fun h => h)).trans qk, (KW.block _ (by omega) (fun h => h)).trans HSt.out.bx6, hL3⟩
        · rintro e V ⟨⟨v9, rfl⟩, J | X⟩
          · have hVz := J.kept.size
            have BV : Below w.heap.size w V := (HSt.out.below.trans (KW.below HSt.out.below.size (fun _ h => h.elim))).trans (J.kept.below (by omega) (fun b hb => by omega))
            have hVd := (J.kept.block WA.heap.size (by omega) (fun h => by omega)).trans hD3
            refine ⟨⟨_, rfl⟩, rc, J.rc_, by rw [hst]; decide, .inl ⟨hpend, ?_⟩⟩
            have KP : Kept (fun b => b = WA.heap.size + 1) V (V.putObj (WA.heap.size + 1) (.loop { rc with state := .exhausted })) := Kept.putObj _ _ _ rfl
            have xk := (KP.block wr.heap.size (by omega) (fun e => by have e' : wr.heap.size = WA.heap.size + 1 := e; omega)).trans J.kbox
            have xres := (KP.block (w.heap.size + 1) (by omega) (fun e => by have e' : w.heap.size + 1 = WA.heap.size + 1 := e; omega)).trans J.res
            have x8 := (KP.block b8 (by omega) (fun e => by have e' : b8 = WA.heap.size + 1 := e; omega)).trans ((J.kept.block b8 (by omega) (fun h => by omega)).trans ((KW.block _ (by omega) (fun h => h)).trans HSt.out.bx8))
            have xd := (KP.block WA.heap.size (by omega) (fun e => by have e' : WA.heap.size = WA.heap.size + 1 := e; omega)).trans hVd
            have NR := ((N2.keptN KW).kept J.kept hM2).kept KP (fun b hb e => hM2 b hb (.inr (.inr e)))
            obtain ⟨aR, cR, eR, _⟩ := NR.shape
            obtain ⟨_, xr, _, _⟩ := NR.r0
            rw [eR] at xr
            have hll2 : ps1.length = ps2.length := (lenX hp1).trans (lenX hp2).symm
            rw [hll2] at xk
            have BP : Below w.heap.size w (V.putObj (WA.heap.size + 1) (.loop { rc with state := .exhausted })) := BV.trans (KP.below BV.size (fun b e => by have e' : b = WA.heap.size + 1 := e; omega))
            have hPz := KP.size
            have HZA : Hid _ := hzA
            clear KP J hVd BV htm hpa has hbo hst hpend hreq NR
            generalize V.putObj (WA.heap.size + 1) (.loop { rc with state := .exhausted }) = V2 at *
            obtain ⟨y0, _⟩ := one xk
            obtain ⟨y8, _⟩ := one x8
            have KD := Kept.drew (fun _ => False) V2
            have hW9 : ∀ w9, Kept (fun _ => False) V2.drew w9 → w9.cell? ⟨w.heap.size + 1, 0, none⟩ = some (.bool false) ∧ w9.frozen? ⟨w.heap.size + 1, 0, none⟩ = false := fun w9 K => one (((KD.and K).block _ (by omega) (fun h => h)).trans xres)
            have H9 : Hid _ := hW9
            have fin : ∀ w9, Kept (fun _ => False) V2.drew w9 → (w9.setCell ⟨w.heap.size + 1, 0, none⟩ (.bool true)).heap[WA.heap.size]? = some (.deferred (some [])) ∧ ((w9.setCell ⟨w.heap.size + 1, 0, none⟩ (.bool true)).putObj WA.heap.size (.deferred none)).cell? ⟨w.heap.size + 1, 0, none⟩ = some (.bool true) ∧ Below w.heap.size w ((w9.setCell ⟨w.heap.size + 1, 0, none⟩ (.bool true)).putObj WA.heap.size (.deferred none)) := fun w9 K => by
              have K29 := KD.and K
              have h6 := (K29.block (w.heap.size + 1) (by omega) (fun h => h)).trans xres
              have hd := (Below.heap_setCell w9 ⟨w.heap.size + 1, 0, none⟩ (.bool true) WA.heap.size (by show WA.heap.size ≠ w.heap.size + 1; omega)).trans ((K29.block _ (by omega) (fun h => h)).trans xd)
              refine ⟨hd, ?_, ?_⟩
              · refine (World.cell?_of_block (World.putObj_heap_other (by show w.heap.size + 1 ≠ WA.heap.size; omega))).trans ?_
                simp [World.cell?, World.setCell, Array.getElem?_modify, h6]
              · have KF : Kept (fun b => w.heap.size ≤ b) V2 ((w9.setCell ⟨w.heap.size + 1, 0, none⟩ (.bool true)).putObj WA.heap.size (.deferred none)) := ((K29.mono (fun _ h => h.elim)).and (Kept.setCell _ _ _ (by show w.heap.size ≤ w.heap.size + 1; omega))).and (Kept.putObj _ _ _ (by show w.heap.size ≤ WA.heap.size; omega))
                exact BP.trans (KF.below BP.size (fun _ h => h))
            have HF : Hid _ := fin
            have ed : decide ((ps2.length : Int) = (ps2.length : Int)) = true := by simp
            clear hW9 fin xk xres x8 xd hzA hz3
            go_wp2_with fail
            refine wp_nrm ?_
            go_region_with (first
              | (go_at_call 25; refine (wakes_any _).mono ?_; rintro e w9 ⟨rfl, K9⟩; obtain ⟨r9, f9⟩ := H9.out w9 K9)
              | fail)
            all_goals
              simp only [nrm]
              go_wp2
              obtain ⟨hKd, hc5, hbl⟩ := HF.out w9 K9
              refine ⟨by simp, .inl ⟨_, _, rfl, run_takeDeferred hKd, ?_⟩⟩
              refine ⟨.bool true, ?_, rfl, hbl⟩
              simp [results, Try.f3, go_sem, hc5]
          · have hVz := X.kept.size
            have BV : Below w.heap.size w V := (HSt.out.below.trans (KW.below HSt.out.below.size (fun _ h => h.elim))).trans (X.kept.below (by omega) (fun b hb => by omega))
            have hVd := (X.kept.block WA.heap.size (by omega) (fun h => by omega)).trans hD3
            refine ⟨⟨_, rfl⟩, _, X.rc_, by simp, .inr ⟨.ret, rfl, ?_⟩⟩
            have KP : Kept (fun b => b = WA.heap.size + 1) V (V.putObj (WA.heap.size + 1) (.loop { rc with state := .exhausted, pending := some .ret })) := Kept.putObj _ _ _ rfl
            have xres := (KP.block (w.heap.size + 1) (by omega) (fun e => by have e' : w.heap.size + 1 = WA.heap.size + 1 := e; omega)).trans X.res
            have xd := (KP.block WA.heap.size (by omega) (fun e => by have e' : WA.heap.size = WA.heap.size + 1 := e; omega)).trans hVd
            have BP : Below w.heap.size w (V.putObj (WA.heap.size + 1) (.loop { rc with state := .exhausted, pending := some .ret })) := BV.trans (KP.below BV.size (fun b e => by have e' : b = WA.heap.size + 1 := e; omega))
            clear KP X hVd BV htm hpa has hbo hst hpend hreq
            generalize V.putObj (WA.heap.size + 1) (.loop { rc with state := .exhausted, pending := some .ret }) = V2 at *
            have KF : Kept (fun b => w.heap.size ≤ b) V2 (V2.putObj WA.heap.size (.deferred none)) := Kept.putObj _ _ _ (by show w.heap.size ≤ WA.heap.size; omega)
            have hbl : Below w.heap.size w (V2.putObj WA.heap.size (.deferred none)) := BP.trans (KF.below BP.size (fun _ h => h))
            have hc5 : (V2.putObj WA.heap.size (.deferred none)).cell? ⟨w.heap.size + 1, 0, none⟩ = some (.bool true) := (World.cell?_of_block (World.putObj_heap_other (by show w.heap.size + 1 ≠ WA.heap.size; omega))).trans (one xres).1
            clear KF xres hzA hz3
            gi_wp2
            refine ⟨by simp, .inl ⟨_, _, rfl, run_takeDeferred xd, ?_⟩⟩
            refine ⟨.bool true, ?_, rfl, hbl⟩
            simp [results, Try.f3, go_sem, hc5]

end Go.Proofs.Ythpamcfemhimcaa
