/-
  Walk: the order and a copy of the nodes, kept for the function that tells them.
-/
import Derived.Test.YtoonnbagppliaaaDoorDWalk6
import Derived.Test.YtoonnbagppliaaaDoorDOrder
namespace Go.Proofs.YtoonnbagppliaaaDoor
open Go.RowKit

/-- What the function keeps: the order's box pb, the nodes' box qb; all of it lies behind B. -/
structure WalkAt (B : Nat) (w : World) (pb qb : Nat) (ord : List Nat) (ns : List Nd) : Prop where
  po : ∃ a c, w.heap[pb]? = some (.cells #[.slice a ord.length c] 37 (0, 0)) ∧ w.ownsRow B 3 1 (.slice a ord.length c) ord.length (natsV ord)
  qo : ∃ a c, w.heap[qb]? = some (.cells #[.slice a ns.length c] 23 (0, 0)) ∧ NodesRow w B (.slice a ns.length c) ns
  pB : B ≤ pb
  qB : B ≤ qb

theorem WalkAt.keep {B : Nat} {w w' : World} {pb qb : Nat} {ord : List Nat} {ns : List Nd} (T : WalkAt B w pb qb ord ns) (h : ∀ g, B ≤ g → g < w.heap.size → w'.heap[g]? = w.heap[g]?) : WalkAt B w' pb qb ord ns := by
  obtain ⟨a, c, h1, h2⟩ := T.po
  obtain ⟨a', c', h3, vs, h4, h5, h6⟩ := T.qo
  refine ⟨⟨a, c, (h pb T.pB (Array.getElem?_eq_some_iff.1 h1).1).trans h1, ownsRow_keep h2 (fun g hg => h g (h2.lt g hg).1 (h2.lt g hg).2)⟩, ⟨a', c', (h qb T.qB (Array.getElem?_eq_some_iff.1 h3).1).trans h3, vs, h4, ownsRow_keep h5 (fun g hg => h g (h5.lt g hg).1 (h5.lt g hg).2), fun i hi hj => ?_⟩, T.pB, T.qB⟩
  obtain ⟨aq, cq, e, o⟩ := h6 i hi hj
  exact ⟨aq, cq, e, ownsRow_keep o (fun g hg => h g (o.lt g hg).1 (o.lt g hg).2)⟩

theorem oneC {w : World} {b : Nat} {T : TypeId} {u : Value} (h : w.heap[b]? = some (.cells #[u] T (0, 0))) : w.cell? ⟨b, 0, none⟩ = some u ∧ w.frozen? ⟨b, 0, none⟩ = false := by
  simp [World.cell?, World.frozen?, h]

theorem nodesRow_low {w : World} {B B' : Nat} {v : Value} {ns : List Nd} (N : NodesRow w B v ns) (h : B' ≤ B) : NodesRow w B' v ns := by
  obtain ⟨vs, h1, h2, h3⟩ := N
  refine ⟨vs, h1, ownsRow_low h2 h, fun i hi hj => ?_⟩
  obtain ⟨a, c, e, o⟩ := h3 i hi hj
  exact ⟨a, c, e, ownsRow_low o h⟩

set_option maxRecDepth 100000 in
set_option maxHeartbeats 2000000 in
theorem walk_any (w : World) (name : ByteArray) (a : Option Addr) (n c : Nat) (ns : List Nd) (hN : NodesAt w a ns) (hl : ns.length = n) (hn : n ≤ 1000000) :
    Calls Tryd.prog 29 #[.agg #[.string name, .slice a n c]] w fun e w' => ∃ pb qb, e = .returned (.func (.func 40) #[] #[.pointer (some ⟨pb, 0, none⟩), .pointer (some ⟨qb, 0, none⟩)]) ∧ WalkAt w.heap.size w' pb qb (ordP ns) ns ∧ Kept (fun _ => False) w w' := by
  subst hl
  have hO := order_any (w.alloc (.cells #[.string name, .slice a ns.length c] 25)) name a ns.length c ns (keptNew (Kept.alloc _ _ _) hN) rfl hn
  rw [World.size_alloc] at hO
  have HN : Hid (NodesAt w a ns) := hN
  have HL : Hid (∀ n ∈ ns, n.after.length ≤ 1000000) := fun n h => (hN.1 n h).few
  clear hN
  generalize hod : ordP ns = od at *
  clear hod
  go_enter Tryd.func29, Tryd.ntmps29
  go_wp2_with (first
    | (go_at_call 11; refine hO.mono ?_; rintro e w1 ⟨ao, co, rfl, O1, K1⟩; clear hO; have hd := boxD K1; obtain ⟨d0, d1⟩ := hd; have HS1 := K1.size; rw [World.size_alloc] at HS1;
        have d1b : ((w1.alloc (.cells #[.slice ao od.length co] 37)).alloc (.cells #[.slice none 0 0] 23)).cell? ⟨w.heap.size, 1, none⟩ = some (.slice a ns.length c) := keepC ((Kept.alloc (fun _ => False) _ _).and (Kept.alloc _ _ _)) d1 (fun _ _ h => h);
        have HO1 : Hid (w1.ownsRow (w.heap.size + 1) 3 1 (.slice ao od.length co) od.length (natsV od)) := O1; clear O1; have K0 : Hid (Kept (fun _ => False) w w1) := (Kept.alloc (fun _ => False) _ _).and K1)
    | fail)
  go_loopw [16] (fun q wr => ∃ (k : Nat) (a2 : Option Addr) (c2 : Nat), k ≤ ns.length ∧ q = .int .i64 (k : Nat) ∧ Kept (fun j => w1.heap.size + 1 ≤ j) ((w1.alloc (.cells #[.slice ao od.length co] 37)).alloc (.cells #[.slice none 0 0] 23)) wr ∧ wr.heap[w1.heap.size + 1]? = some (.cells #[.slice a2 k c2] 23 (0, 0)) ∧ NodesRow wr (w1.heap.size + 2) (.slice a2 k c2) (ns.take k)) (fun q _ => ns.length - (intOf q).toNat)
  case atStart =>
    refine ⟨0, none, 0, Nat.zero_le _, rfl, Kept.refl _ _, ?_, ⟨[], rfl, World.ownsRow_nil _ _ _ _, fun i h => by simp at h⟩⟩
    have := heap_alloc_new (w1.alloc (.cells #[.slice ao od.length co] 37)) (.cells #[.slice none 0 0] 23)
    rw [World.size_alloc] at this
    exact this
  case round =>
    obtain ⟨k, a2, c2, hk, rfl, K, hq, N⟩ := hrel
    have Kw : Kept (fun _ => False) w wr := (((K0.out.and (Kept.alloc _ _ _)).and (Kept.alloc _ _ _)).trans K (fun g h => .inr (by omega)))
    have hsz2 : w1.heap.size + 2 ≤ wr.heap.size := by have := K.size; simp at this; omega
    by_cases hlt : k < ns.length
    · obtain ⟨b, o, av, cv, hae, hT, c0, c1, c2', c3, c4, c5, c6⟩ := HN.out.at hlt
      replace c0 := keepC Kw c0 (fun _ _ h => h)
      replace c1 := keepC Kw c1 (fun _ _ h => h)
      replace c2' := keepC Kw c2' (fun _ _ h => h)
      replace c3 := keepC Kw c3 (fun _ _ h => h)
      replace c4 := keepC Kw c4 (fun _ _ h => h)
      replace c5 := keepC Kw c5 (fun _ _ h => h)
      replace c6 := keepC Kw c6 (fun _ _ h => h)
      have hfew := HL.out _ (List.getElem_mem hlt)
      have HT0 : Hid (TextsAt w (.slice av (ns[k]).after.length cv) (ns[k]).after) := hT
      have HTk : Hid (ns.take (k + 1) = ns.take k ++ [ns[k]]) := take_snoc hlt
      have hlen : (ns.take k).length = k := by rw [List.length_take]; omega
      have e0 : (k : Int) < (ns.length : Int) := by omega
      clear hT d1 d1b
      obtain ⟨vs, hv1, hv2, hv3⟩ := N
      rw [hlen] at hv1 hv2
      have HV3 : Hid _ := hv3
      have HV2 : Hid (wr.ownsRow (w1.heap.size + 2) 34 7 (.slice a2 k c2) k (flatN (ns.take k) vs)) := hv2
      have HV1 : Hid (k = vs.length) := hv1
      have HLE : Hid ((ns.take k).length = k) := hlen
      clear hv3 hv2 hv1 hlen
      generalize hx : ns[k] = x at *
      clear hx
      subst hae
      go_wp2_with fail
      have KB : Kept (fun _ => False) wr (wr.alloc (.cells #[.string x.name, .int .i64 x.kind, .string x.arg, .string x.to, .int .i64 x.delay, .int .i64 x.tries, .slice av x.after.length cv] 34)) := Kept.alloc _ _ _
      have hnb := heap_alloc_new wr (.cells #[.string x.name, .int .i64 x.kind, .string x.arg, .string x.to, .int .i64 x.delay, .int .i64 x.tries, .slice av x.after.length cv] 34)
      have hszW : (wr.alloc (.cells #[.string x.name, .int .i64 x.kind, .string x.arg, .string x.to, .int .i64 x.delay, .int .i64 x.tries, .slice av x.after.length cv] 34)).heap.size = wr.heap.size + 1 := by simp
      generalize wr.alloc (.cells #[.string x.name, .int .i64 x.kind, .string x.arg, .string x.to, .int .i64 x.delay, .int .i64 x.tries, .slice av x.after.length cv] 34) = W at *
      have KW : Kept (fun _ => False) W W.drew := Kept.drew _ W
      have KBW : Kept (fun _ => False) wr W.drew := KB.and KW
      obtain ⟨⟨y0, y1, y2, y3, y4, y5, y6⟩, _⟩ := seven ((KW.block _ (by omega) (fun h => h)).trans hnb)
      have hq1 : W.drew.heap[w1.heap.size + 1]? = _ := (KBW.block _ (by omega) (fun h => h)).trans hq
      have o1 := ownsRow_keep HV2.out (fun g hg => KBW.block g (ownsRow_blk HV2.out hg) (fun h => h))
      have hC := copied_any W.drew x.name x.kind x.arg x.to x.delay x.tries x.after av cv (HT0.out.kept (Kw.and KBW) (fun _ _ h => h)) hfew
      have hk2 := fun (w5 : World) (o : Obj) (K5 : Kept (fun _ => False) W.drew w5) => show w5.cell? ⟨w1.heap.size + 1, 0, none⟩ = some (.slice a2 k c2) ∧ (w5.alloc o).cell? ⟨w1.heap.size + 1, 0, none⟩ = some (.slice a2 k c2) ∧ (w5.alloc o).ownsRow (w1.heap.size + 2) 34 7 (.slice a2 k c2) k (flatN (ns.take k) vs) ∧ w1.heap.size + 2 ≤ w5.heap.size + 1 by
        have b5 := (K5.block _ (Array.getElem?_eq_some_iff.1 hq1).1 (fun h => h)).trans hq1
        have o5 := ownsRow_keep o1 (fun g hg => K5.block g (ownsRow_blk o1 hg) (fun h => h))
        refine ⟨(oneC b5).1, ?_, o5.alloc _, by have := K5.size; have := KBW.size; omega⟩
        exact (oneC (((Kept.alloc (fun _ => False) w5 o).block _ (Array.getElem?_eq_some_iff.1 b5).1 (fun h => h)).trans b5)).1
      have hb6 := fun (w5 w6 : World) (o : Obj) (K5 : Kept (fun _ => False) W.drew w5) (hg6 : (w5.alloc o).grownBy w6 (Value.slice a2 k c2).ownBlock) => show w6.heap[w1.heap.size + 1]? = some (.cells #[.slice a2 k c2] 23 (0, 0)) by
        have b5 := (K5.block _ (Array.getElem?_eq_some_iff.1 hq1).1 (fun h => h)).trans hq1
        have hl5 := (Array.getElem?_eq_some_iff.1 b5).1
        rw [hg6.block _ (by simp; omega) (fun e => by have := (o1.lt _ e.symm).1; omega), Below.heap_alloc _ _ _ hl5]
        exact b5
      refine wp_onlyN (walk6 (nd := x) (base := w1.heap.size + 2) (xs := flatN (ns.take k) vs) (R := fun w5 aa ca => w5.ownsRow W.drew.heap.size 9 1 (.slice aa x.after.length ca) x.after.length (strsV x.after) ∧ Kept (fun _ => False) W.drew w5) _ (oneC hq1).1 y0 y1 y2 y3 y4 y5 y6 hC ?_ ?_ (by omega) ?_)
      · rintro w5 aa ca ⟨O5, K5⟩
        exact hk2 w5 _ K5
      · rintro w5 w6 aa ca ⟨O5, K5⟩ hg6
        exact oneC (hb6 w5 w6 _ K5 hg6)
      · rintro v20 v21 v22 v23 v24 w5 w6 aa a6 ca c6' ⟨O5, K5⟩ ho6 hg6
        have b6 := hb6 w5 w6 _ K5 hg6
        have KS : Kept (fun j => j = w1.heap.size + 1) w6 (w6.setCell ⟨w1.heap.size + 1, 0, none⟩ (.slice a6 (k + 1) c6')) := Kept.setCell _ _ _ rfl
        have N6 : NodesRow w6 (w1.heap.size + 2) (.slice a6 (k + 1) c6') (ns.take k ++ [x]) := by
          refine NodesRow.push (by rw [HLE.out]; exact HV1.out) ?_ (fun i hi hj => ?_) (ownsRow_low O5 (by have := KBW.size; omega)) (by rw [HLE.out]; exact ho6) hg6
          · rw [HLE.out]; exact ownsRow_keep o1 (fun g hg => K5.block g (ownsRow_blk o1 hg) (fun h => h))
          · obtain ⟨aq, cq, e1, oo⟩ := HV3.out i hi hj
            exact ⟨aq, cq, e1, ownsRow_keep oo (fun g hg => (KBW.and K5).block g (ownsRow_blk oo hg) (fun h => h))⟩
        have hset : (w6.setCell ⟨w1.heap.size + 1, 0, none⟩ (.slice a6 (k + 1) c6')).heap[w1.heap.size + 1]? = some (.cells #[.slice a6 (k + 1) c6'] 23 (0, 0)) := by simp [World.setCell, Array.getElem?_modify, b6]
        have HFin : Hid (Kept (fun j => w1.heap.size + 1 ≤ j) wr (w6.setCell ⟨w1.heap.size + 1, 0, none⟩ (.slice a6 (k + 1) c6')) ∧ NodesRow (w6.setCell ⟨w1.heap.size + 1, 0, none⟩ (.slice a6 (k + 1) c6')) (w1.heap.size + 2) (.slice a6 (k + 1) c6') (ns.take (k + 1)) ∧ (w6.setCell ⟨w1.heap.size + 1, 0, none⟩ (.slice a6 (k + 1) c6')).heap[w1.heap.size + 1]? = some (.cells #[.slice a6 (k + 1) c6'] 23 (0, 0))) := by
          refine ⟨(((((KBW.and K5).and (Kept.alloc _ _ _)).mono (fun _ h => h.elim)).and (Kept.grown hg6 (fun g e => by have := (o1.lt g e).1; omega))).and (KS.mono (fun j h => by omega))), ?_, hset⟩
          rw [HTk.out]
          exact N6.kept KS (fun g hg _ => by omega)
        clear N6 hset KS b6 hb6 hk2 hC o1 hq1 ho6 hg6 O5 K5 y0 y1 y2 y3 y4 y5 y6 hq hnb KB KBW KW HV3 HV2 HTk HT0 c0 c1 c2' c3 c4 c5 c6 HLE HV1
        generalize w6.setCell ⟨w1.heap.size + 1, 0, none⟩ (.slice a6 (k + 1) c6') = W7 at *
        go_wp2_with fail
        go_roundw
        case rel => exact ⟨k + 1, a6, c6', by omega, by go_num, K.and HFin.out.1, HFin.out.2.2, HFin.out.2.1⟩
        case measure => simp [intOf]; omega
    · obtain rfl : k = ns.length := by omega
      rw [List.take_length] at N
      have hp : wr.heap[w1.heap.size]? = some (.cells #[.slice ao od.length co] 37 (0, 0)) := by
        rw [K.block _ (by simp; omega) (by omega), Below.heap_alloc _ _ _ (by simp)]
        exact heap_alloc_new _ _
      go_wp2_with fail
      go_ret
      refine ⟨w1.heap.size, w1.heap.size + 1, rfl, ⟨⟨ao, co, hp, ?_⟩, ⟨a2, c2, hq, nodesRow_low N (by omega)⟩, by omega, by omega⟩, Kw⟩
      refine ownsRow_low (ownsRow_keep HO1.out (fun g hg => ?_)) (by omega)
      have hg1 := ownsRow_blk HO1.out hg
      rw [K.block g (by simp; omega) (by omega), Below.heap_alloc _ _ _ (by simp; omega), Below.heap_alloc _ _ _ hg1]

end Go.Proofs.YtoonnbagppliaaaDoor
