/-
  The program's Apply: an event on a state that is handed in.
-/
import Derived.Test.YtfjekjbkifmpfaaDoorG12
import Derived.Test.YtfjekjbkifmpfaaDoorG02
import Derived.Test.YtfjekjbkifmpfaaDoorG25
import Derived.Test.YtfjekjbkifmpfaaDoorG32
import Derived.Test.YtfjekjbkifmpfaaDoorG18
import Derived.Test.YtfjekjbkifmpfaaDoorG48
import Derived.Test.YtfjekjbkifmpfaaDoorG28
import Derived.Test.YtfjekjbkifmpfaaDoorG53
import Derived.Test.YtfjekjbkifmpfaaDoorG34
import Derived.Deep.Slices
import Derived.Deep.QuietTactic
import Derived.BigQuiet
namespace Go.Proofs.YtfjekjbkifmpfaaDoor.Rf
open Go.RowKit

/-- What the program's Apply answers. -/
def HApPost (w : World) (s : St) (r : Option St) (e : Ending) (w' : World) : Prop := ∃ u6 u7, e = .returned (.tuple #[.agg (stA (r.getD s) u6 u7), .int .i64 (if r.isSome then 0 else 12)]) ∧ StOwn w' w.heap.size (r.getD s) u6 u7 ∧ Kept (fun _ => False) w w'

set_option maxRecDepth 100000 in
set_option maxHeartbeats 8000000 in
theorem hApply_any (w : World) (nm : ByteArray) (a : Option Addr) (c : Nat) (ns : List Nd) (hN : NodesAt w a ns) (hn : ns.length ≤ 1000000) (hlow : ∀ b o, a = some ⟨b, o, none⟩ → b < w.heap.size) (M : MovesAt w) (s : St) (v6 v7 : Value) (R : StRd w s v6 v7) (he0 : 0 ≤ s.events) (he1 : s.events ≤ 1000000000000) (ev : Ev) :
    Calls Tryd.prog 17 #[.agg #[.string nm, .slice a ns.length c], .agg (stA s v6 v7), .agg #[.int .i64 ev.kind, .string ev.node, .string ev.text, .int .i64 ev.num]] w (HApPost w s (changeP nm ns s ev)) := by
  obtain ⟨ek, en, et, ez⟩ := ev
  simp only []
  have f6 := R.few6
  have f7 := R.few7
  obtain ⟨va6, vc6, rfl⟩ := R.nodes.shape
  obtain ⟨va7, vc7, rfl⟩ := R.sigs.shape
  obtain ⟨d0, d1, d2, d3, dz, KW⟩ := ap_boxes w nm a ns.length c s (.slice va6 s.nodes.length vc6) (.slice va7 s.sigs.length vc7) ⟨ek, en, et, ez⟩
  have hC := stateCopy_any _ s _ _ (R.new KW)
  unfold stA at hC ⊢
  unfold apD apS apE apZ stA zero9 at d0 d1 d2 d3 dz KW hC
  simp only [] at d0 d1 d2 d3 dz KW hC ⊢
  obtain ⟨⟨p0, p1, p2, p3, p4, p5, p6, p7, p8⟩, _⟩ := nine d1
  have HD0 := hid d0
  have HD2 := hid d2
  have HD3 := hid d3
  have HDZ := hid dz
  have HKW := hid KW
  have HN := hid hN
  have HM := hid M
  have HL := hid hlow
  clear d0 d1 d2 d3 dz KW R hN M hlow
  go_enter Tryd.func17, Tryd.ntmps17
  go_upto_region 2 with (first
    | (go_at_call 40; refine hC.mono ?_; rintro e w1 ⟨w6, w7, rfl, O1, K1⟩; obtain ⟨ua6, uc6, rfl⟩ := ownsRow_shape O1.nodes; obtain ⟨ua7, uc7, rfl⟩ := ownsRow_shape O1.sigs; clear hC p0 p1 p2 p3 p4 p5 p6 p7 p8; unfold stA; have HO1 := hid O1; have HK1 := hid K1; clear O1 K1)
    | fail)
  have KX : Kept (fun _ => False) w1 (w1.alloc (.cells #[.string s.dfn, .string s.id, .string s.par, .string s.pnode, .int .i64 s.status, .string s.text, .slice ua6 s.nodes.length uc6, .slice ua7 s.sigs.length uc7, .int .i64 s.events] 33)) := Kept.alloc _ _ _
  have hx4 : w.heap.size + 4 ≤ w1.heap.size := by rw [← HDZ.out]; exact HK1.out.size
  have hbx : (w1.alloc (.cells #[.string s.dfn, .string s.id, .string s.par, .string s.pnode, .int .i64 s.status, .string s.text, .slice ua6 s.nodes.length uc6, .slice ua7 s.sigs.length uc7, .int .i64 s.events] 33)).heap[w1.heap.size]? = some (.cells (stA s (.slice ua6 s.nodes.length uc6) (.slice ua7 s.sigs.length uc7)) 33 (0, 0)) := heap_alloc_new w1 _
  have hzx : w1.heap.size < (w1.alloc (.cells #[.string s.dfn, .string s.id, .string s.par, .string s.pnode, .int .i64 s.status, .string s.text, .slice ua6 s.nodes.length uc6, .slice ua7 s.sigs.length uc7, .int .i64 s.events] 33)).heap.size := (Array.getElem?_eq_some_iff.1 hbx).1
  have key : ∀ {k : Nat} {o : Obj}, k < w.heap.size + 4 → ((((w.alloc (.cells #[.string nm, .slice a ns.length c] 24)).alloc (.cells #[.string s.dfn, .string s.id, .string s.par, .string s.pnode, .int .i64 s.status, .string s.text, .slice va6 s.nodes.length vc6, .slice va7 s.sigs.length vc7, .int .i64 s.events] 33)).alloc (.cells #[.int .i64 ek, .string en, .string et, .int .i64 ez] 51)).alloc (.cells #[.string ⟨#[]⟩, .string ⟨#[]⟩, .string ⟨#[]⟩, .string ⟨#[]⟩, .int .i64 0, .string ⟨#[]⟩, .slice none 0 0, .slice none 0 0, .int .i64 0] 33)).heap[k]? = some o → (w1.alloc (.cells #[.string s.dfn, .string s.id, .string s.par, .string s.pnode, .int .i64 s.status, .string s.text, .slice ua6 s.nodes.length uc6, .slice ua7 s.sigs.length uc7, .int .i64 s.events] 33)).heap[k]? = some o := fun {k o} hk h => (KX.block k (Nat.lt_of_lt_of_le hk hx4) (fun h => h)).trans ((HK1.out.block k (by rw [HDZ.out]; exact hk) (fun h => h)).trans h)
  have hd := key (by omega) HD0.out
  have hev := key (by omega) HD2.out
  have hz := key (by omega) HD3.out
  have o6 := HO1.out.nodes
  have o7 := HO1.out.sigs
  have b6 : ∀ g, (Value.slice ua6 s.nodes.length uc6).ownBlock = some g → w.heap.size + 4 ≤ g ∧ g < w1.heap.size := fun g hg => ⟨by rw [← HDZ.out]; exact (o6.lt g hg).1, (o6.lt g hg).2⟩
  have b7 : ∀ g, (Value.slice ua7 s.sigs.length uc7).ownBlock = some g → w.heap.size + 4 ≤ g ∧ g < w1.heap.size := fun g hg => ⟨by rw [← HDZ.out]; exact (o7.lt g hg).1, (o7.lt g hg).2⟩
  have S : StIn (w1.alloc (.cells #[.string s.dfn, .string s.id, .string s.par, .string s.pnode, .int .i64 s.status, .string s.text, .slice ua6 s.nodes.length uc6, .slice ua7 s.sigs.length uc7, .int .i64 s.events] 33)) (fun g => w.heap.size + 4 ≤ g ∧ g < (w1.alloc (.cells #[.string s.dfn, .string s.id, .string s.par, .string s.pnode, .int .i64 s.status, .string s.text, .slice ua6 s.nodes.length uc6, .slice ua7 s.sigs.length uc7, .int .i64 s.events] 33)).heap.size) w1.heap.size 0 33 [] [] s (.slice ua6 s.nodes.length uc6) (.slice ua7 s.sigs.length uc7) :=
    ⟨hbx, rfl, ownsRow_low (ownsRow_keep o6 (fun g hg => KX.block g (b6 g hg).2 (fun h => h))) (Nat.zero_le _), ownsRow_low (ownsRow_keep o7 (fun g hg => KX.block g (b7 g hg).2 (fun h => h))) (Nat.zero_le _), ⟨hx4, hzx⟩, fun g hg => ⟨⟨(b6 g hg).1, by have := (b6 g hg).2; omega⟩, by have := (b6 g hg).2; omega⟩, fun g hg => ⟨⟨(b7 g hg).1, by have := (b7 g hg).2; omega⟩, by have := (b7 g hg).2; omega⟩, fun g h => h.2⟩
  have KV := (HKW.out.and HK1.out).and KX
  have hCh := change_any (w1.alloc (.cells #[.string s.dfn, .string s.id, .string s.par, .string s.pnode, .int .i64 s.status, .string s.text, .slice ua6 s.nodes.length uc6, .slice ua7 s.sigs.length uc7, .int .i64 s.events] 33)) _ w1.heap.size 0 33 [] [] s _ _ S f6 f7 he0 he1 nm a c ns (keptNew KV HN.out) hn (fun b o h hF => by have := HL.out b o h; omega) (HM.out.kept KV (fun h => h)) ⟨ek, en, et, ez⟩
  simp only [] at hCh
  obtain ⟨y0, y1⟩ := twoB hd
  obtain ⟨⟨e0, e1, e2, e3⟩, _⟩ := four hev
  have HS := hid S
  have HKV := hid KV
  have HZ := hid hz
  have hVz := KV.size
  clear HO1 HK1 KX hbx key hd hev hz o6 o7 b6 b7 S KV HD0 HD2 HD3 HDZ HKW
  generalize (w1.alloc (.cells #[.string s.dfn, .string s.id, .string s.par, .string s.pnode, .int .i64 s.status, .string s.text, .slice ua6 s.nodes.length uc6, .slice ua7 s.sigs.length uc7, .int .i64 s.events] 33)) = V at *
  generalize w1.heap.size = bx at *
  cases hp : changeP nm ns s ⟨ek, en, et, ez⟩ with
  | none =>
    rw [hp] at hCh
    unfold ChgPost at hCh
    simp only [Option.isSome_none] at hCh
    have HP := hid hp
    clear hp
    go_upto_region 3 with (first
      | (go_at_call 36; refine hCh.mono ?_; rintro e w2 ⟨rfl, K2⟩; clear hCh)
      | fail)
    have S2 := HS.out.new K2
    have hx9 := S2.blk
    change w2.heap[bx]? = some (.cells #[.string s.dfn, .string s.id, .string s.par, .string s.pnode, .int .i64 s.status, .string s.text, .slice ua6 s.nodes.length uc6, .slice ua7 s.sigs.length uc7, .int .i64 s.events] 33 (0, 0)) at hx9
    have hz9 := (K2.block _ (Array.getElem?_eq_some_iff.1 HZ.out).1 (fun h => h)).trans HZ.out
    have HK2 := hid (HKV.out.and K2)
    have HG6 := hid (fun g hg => ((S2.in6 g hg).1 : w.heap.size + 4 ≤ g ∧ g < V.heap.size).1)
    have HG7 := hid (fun g hg => ((S2.in7 g hg).1 : w.heap.size + 4 ≤ g ∧ g < V.heap.size).1)
    have HO : Hid (StOwn w2 w.heap.size s (.slice ua6 s.nodes.length uc6) (.slice ua7 s.sigs.length uc7)) := ⟨ownsRow_high S2.nodes (fun g hg => by have := HG6.out g hg; omega), ownsRow_high S2.sigs (fun g hg => by have := HG7.out g hg; omega)⟩
    clear y0 y1 e0 e1 e2 e3 S2 K2
    have E1 := put9 hz9 (.string s.dfn) (.string s.id) (.string s.par) (.string s.pnode) (.int .i64 s.status) (.string s.text) (.slice ua6 s.nodes.length uc6) (.slice ua7 s.sigs.length uc7) (.int .i64 s.events)
    have KK := kept9 (S := fun j => j = w.heap.size + 1 + 1 + 1) w2 rfl (.string s.dfn) (.string s.id) (.string s.par) (.string s.pnode) (.int .i64 s.status) (.string s.text) (.slice ua6 s.nodes.length uc6) (.slice ua7 s.sigs.length uc7) (.int .i64 s.events)
    obtain ⟨⟨k0, k1, k2, k3, k4, k5, k6, k7, k8⟩, _⟩ := nine E1
    obtain ⟨⟨z0, z1, z2, z3, z4, z5, z6, z7, z8⟩, q0, q1, q2, q3, q4, q5, q6, q7, q8⟩ := nine hz9
    obtain ⟨⟨l0, l1, l2, l3, l4, l5, l6, l7, l8⟩, _⟩ := nine hx9
    have HKK := hid KK
    clear E1 KK hz9 hx9
    go_wp2_with fail
    refine bodyPost_ret (v := .tuple #[.agg #[.string s.dfn, .string s.id, .string s.par, .string s.pnode, .int .i64 s.status, .string s.text, .slice ua6 s.nodes.length uc6, .slice ua7 s.sigs.length uc7, .int .i64 s.events], .int .i64 12]) (by simp [results, Tryd.results17, go_sem, k0, k1, k2, k3, k4, k5, k6, k7, k8]; try rfl) rfl ?_
    show HApPost _ _ _ _ _
    rw [HP.out]
    refine ⟨.slice ua6 s.nodes.length uc6, .slice ua7 s.sigs.length uc7, rfl, ⟨?_, ?_⟩, HK2.out.trans HKK.out (fun i hi => .inr (by have hi : i = _ := hi; omega))⟩
    · exact ownsRow_keep HO.out.nodes (fun g hg => HKK.out.block g (ownsRow_blk HO.out.nodes hg) (fun h => by have := HG6.out g hg; have h : g = _ := h; omega))
    · exact ownsRow_keep HO.out.sigs (fun g hg => HKK.out.block g (ownsRow_blk HO.out.sigs hg) (fun h => by have := HG7.out g hg; have h : g = _ := h; omega))
  | some t =>
    rw [hp] at hCh
    unfold ChgPost at hCh
    simp only [Option.isSome_some] at hCh
    have HP := hid hp
    clear hp
    go_upto_region 4 with (first
      | (go_at_call 36; refine hCh.mono ?_; rintro e w2 ⟨rfl, ⟨F', g6, g7, S2, hF'⟩, K2⟩; clear hCh)
      | fail)
    have hF2 : ∀ g, F' g → w.heap.size + 4 ≤ g := fun g h => (hF' g h).elim (fun h => h.1) (fun h => by omega)
    obtain ⟨ta6, tc6, rfl⟩ := ownsRow_shape S2.nodes
    obtain ⟨ta7, tc7, rfl⟩ := ownsRow_shape S2.sigs
    have hx9 := S2.blk
    change w2.heap[bx]? = some (.cells #[.string t.dfn, .string t.id, .string t.par, .string t.pnode, .int .i64 t.status, .string t.text, .slice ta6 t.nodes.length tc6, .slice ta7 t.sigs.length tc7, .int .i64 t.events] 33 (0, 0)) at hx9
    have hz9 := (K2.block _ (Array.getElem?_eq_some_iff.1 HZ.out).1 (fun h => by have h1 := h.1; omega)).trans HZ.out
    have HK2 : Hid (Kept (fun _ => False) w w2) := HKV.out.trans K2 (fun g h => .inr (by have h1 := h.1; omega))
    have HG6 := hid (fun g hg => hF2 g (S2.in6 g hg).1)
    have HG7 := hid (fun g hg => hF2 g (S2.in7 g hg).1)
    have HO : Hid (StOwn w2 w.heap.size t (.slice ta6 t.nodes.length tc6) (.slice ta7 t.sigs.length tc7)) := ⟨ownsRow_high S2.nodes (fun g hg => by have := HG6.out g hg; omega), ownsRow_high S2.sigs (fun g hg => by have := HG7.out g hg; omega)⟩
    clear y0 y1 e0 e1 e2 e3 S2 K2 hF'
    have E1 := put9 hz9 (.string t.dfn) (.string t.id) (.string t.par) (.string t.pnode) (.int .i64 t.status) (.string t.text) (.slice ta6 t.nodes.length tc6) (.slice ta7 t.sigs.length tc7) (.int .i64 t.events)
    have KK := kept9 (S := fun j => j = w.heap.size + 1 + 1 + 1) w2 rfl (.string t.dfn) (.string t.id) (.string t.par) (.string t.pnode) (.int .i64 t.status) (.string t.text) (.slice ta6 t.nodes.length tc6) (.slice ta7 t.sigs.length tc7) (.int .i64 t.events)
    obtain ⟨⟨k0, k1, k2, k3, k4, k5, k6, k7, k8⟩, _⟩ := nine E1
    obtain ⟨⟨z0, z1, z2, z3, z4, z5, z6, z7, z8⟩, q0, q1, q2, q3, q4, q5, q6, q7, q8⟩ := nine hz9
    obtain ⟨⟨l0, l1, l2, l3, l4, l5, l6, l7, l8⟩, _⟩ := nine hx9
    have HKK := hid KK
    clear E1 KK hz9 hx9
    go_wp2_with fail
    refine bodyPost_ret (v := .tuple #[.agg #[.string t.dfn, .string t.id, .string t.par, .string t.pnode, .int .i64 t.status, .string t.text, .slice ta6 t.nodes.length tc6, .slice ta7 t.sigs.length tc7, .int .i64 t.events], .int .i64 0]) (by simp [results, Tryd.results17, go_sem, k0, k1, k2, k3, k4, k5, k6, k7, k8]; try rfl) rfl ?_
    show HApPost _ _ _ _ _
    rw [HP.out]
    refine ⟨.slice ta6 t.nodes.length tc6, .slice ta7 t.sigs.length tc7, rfl, ⟨?_, ?_⟩, HK2.out.trans HKK.out (fun i hi => .inr (by have hi : i = _ := hi; omega))⟩
    · exact ownsRow_keep HO.out.nodes (fun g hg => HKK.out.block g (ownsRow_blk HO.out.nodes hg) (fun h => by have := HG6.out g hg; have h : g = _ := h; omega))
    · exact ownsRow_keep HO.out.sigs (fun g hg => HKK.out.block g (ownsRow_blk HO.out.sigs hg) (fun h => by have := HG7.out g hg; have h : g = _ := h; omega))

end Go.Proofs.YtfjekjbkifmpfaaDoor.Rf

/-
  The program's Fold: what events come to.
-/
namespace Go.Proofs.YtfjekjbkifmpfaaDoor.Rf
open Go.RowKit

def foldP (nm : ByteArray) (ns : List Nd) : St → List Ev → Option St
  | s, [] => some s
  | s, e :: l => match changeP nm ns s e with
    | none => none
    | some t => foldP nm ns t l

def FoldPost (w : World) (r : Option St) (e : Ending) (w' : World) : Prop := ∃ u6 u7, e = .returned (.tuple #[.agg (stA (r.getD zeroSt) u6 u7), .int .i64 (if r.isSome then 0 else 12)]) ∧ StOwn w' w.heap.size (r.getD zeroSt) u6 u7 ∧ Kept (fun _ => False) w w'

set_option maxRecDepth 100000 in
set_option maxHeartbeats 8000000 in
theorem hFold_any (w : World) (nm : ByteArray) (a : Option Addr) (c : Nat) (ns : List Nd) (hN : NodesAt w a ns) (hn : ns.length ≤ 1000000) (hlow : ∀ b o, a = some ⟨b, o, none⟩ → b < w.heap.size) (M : MovesAt w) (flow : ByteArray) (al : Option Addr) (cl : Nat) (l : List Ev) (hE : FlatAt w 4 (.slice al l.length cl) l.length (evF l)) (hl : l.length ≤ 1000000) :
    Calls Tryd.prog 14 #[.agg #[.string nm, .slice a ns.length c], .string flow, .slice al l.length cl] w (FoldPost w (foldP nm ns { zeroSt with id := flow } l)) := by
  have K3 : Kept (fun _ => False) w (((w.alloc (.cells #[.string nm, .slice a ns.length c] 24)).alloc (.cells #[.string ⟨#[]⟩, .string ⟨#[]⟩, .string ⟨#[]⟩, .string ⟨#[]⟩, .int .i64 0, .string ⟨#[]⟩, .slice none 0 0, .slice none 0 0, .int .i64 0] 33)).alloc (.cells #[.string ⟨#[]⟩, .string flow, .string ⟨#[]⟩, .string ⟨#[]⟩, .int .i64 0, .string ⟨#[]⟩, .slice none 0 0, .slice none 0 0, .int .i64 0] 33)) := ((Kept.alloc _ _ _).and (Kept.alloc _ _ _)).and (Kept.alloc _ _ _)
  have z1 : (w.alloc (.cells #[.string nm, .slice a ns.length c] 24)).heap.size = w.heap.size + 1 := World.size_alloc _ _
  have z2 : ((w.alloc (.cells #[.string nm, .slice a ns.length c] 24)).alloc (.cells #[.string ⟨#[]⟩, .string ⟨#[]⟩, .string ⟨#[]⟩, .string ⟨#[]⟩, .int .i64 0, .string ⟨#[]⟩, .slice none 0 0, .slice none 0 0, .int .i64 0] 33)).heap.size = w.heap.size + 2 := by rw [World.size_alloc, z1]
  have z3 : (((w.alloc (.cells #[.string nm, .slice a ns.length c] 24)).alloc (.cells #[.string ⟨#[]⟩, .string ⟨#[]⟩, .string ⟨#[]⟩, .string ⟨#[]⟩, .int .i64 0, .string ⟨#[]⟩, .slice none 0 0, .slice none 0 0, .int .i64 0] 33)).alloc (.cells #[.string ⟨#[]⟩, .string flow, .string ⟨#[]⟩, .string ⟨#[]⟩, .int .i64 0, .string ⟨#[]⟩, .slice none 0 0, .slice none 0 0, .int .i64 0] 33)).heap.size = w.heap.size + 3 := by rw [World.size_alloc, z2]
  have hd : (((w.alloc (.cells #[.string nm, .slice a ns.length c] 24)).alloc (.cells #[.string ⟨#[]⟩, .string ⟨#[]⟩, .string ⟨#[]⟩, .string ⟨#[]⟩, .int .i64 0, .string ⟨#[]⟩, .slice none 0 0, .slice none 0 0, .int .i64 0] 33)).alloc (.cells #[.string ⟨#[]⟩, .string flow, .string ⟨#[]⟩, .string ⟨#[]⟩, .int .i64 0, .string ⟨#[]⟩, .slice none 0 0, .slice none 0 0, .int .i64 0] 33)).heap[w.heap.size]? = some (.cells #[.string nm, .slice a ns.length c] 24 (0, 0)) := (((Kept.alloc (fun _ => False) (w.alloc (.cells #[.string nm, .slice a ns.length c] 24)) (.cells #[.string ⟨#[]⟩, .string ⟨#[]⟩, .string ⟨#[]⟩, .string ⟨#[]⟩, .int .i64 0, .string ⟨#[]⟩, .slice none 0 0, .slice none 0 0, .int .i64 0] 33)).and (Kept.alloc _ _ (.cells #[.string ⟨#[]⟩, .string flow, .string ⟨#[]⟩, .string ⟨#[]⟩, .int .i64 0, .string ⟨#[]⟩, .slice none 0 0, .slice none 0 0, .int .i64 0] 33))).block w.heap.size (by omega) (fun h => h)).trans (heap_alloc_new _ _)
  have hr : (((w.alloc (.cells #[.string nm, .slice a ns.length c] 24)).alloc (.cells #[.string ⟨#[]⟩, .string ⟨#[]⟩, .string ⟨#[]⟩, .string ⟨#[]⟩, .int .i64 0, .string ⟨#[]⟩, .slice none 0 0, .slice none 0 0, .int .i64 0] 33)).alloc (.cells #[.string ⟨#[]⟩, .string flow, .string ⟨#[]⟩, .string ⟨#[]⟩, .int .i64 0, .string ⟨#[]⟩, .slice none 0 0, .slice none 0 0, .int .i64 0] 33)).heap[w.heap.size + 1]? = some (.cells #[.string ⟨#[]⟩, .string ⟨#[]⟩, .string ⟨#[]⟩, .string ⟨#[]⟩, .int .i64 0, .string ⟨#[]⟩, .slice none 0 0, .slice none 0 0, .int .i64 0] 33 (0, 0)) := by
    have h := heap_alloc_new (w.alloc (.cells #[.string nm, .slice a ns.length c] 24)) (.cells #[.string ⟨#[]⟩, .string ⟨#[]⟩, .string ⟨#[]⟩, .string ⟨#[]⟩, .int .i64 0, .string ⟨#[]⟩, .slice none 0 0, .slice none 0 0, .int .i64 0] 33)
    rw [z1] at h
    exact ((Kept.alloc (fun _ => False) ((w.alloc (.cells #[.string nm, .slice a ns.length c] 24)).alloc (.cells #[.string ⟨#[]⟩, .string ⟨#[]⟩, .string ⟨#[]⟩, .string ⟨#[]⟩, .int .i64 0, .string ⟨#[]⟩, .slice none 0 0, .slice none 0 0, .int .i64 0] 33)) (.cells #[.string ⟨#[]⟩, .string flow, .string ⟨#[]⟩, .string ⟨#[]⟩, .int .i64 0, .string ⟨#[]⟩, .slice none 0 0, .slice none 0 0, .int .i64 0] 33)).block _ (by omega) (fun h => h)).trans h
  have hs : (((w.alloc (.cells #[.string nm, .slice a ns.length c] 24)).alloc (.cells #[.string ⟨#[]⟩, .string ⟨#[]⟩, .string ⟨#[]⟩, .string ⟨#[]⟩, .int .i64 0, .string ⟨#[]⟩, .slice none 0 0, .slice none 0 0, .int .i64 0] 33)).alloc (.cells #[.string ⟨#[]⟩, .string flow, .string ⟨#[]⟩, .string ⟨#[]⟩, .int .i64 0, .string ⟨#[]⟩, .slice none 0 0, .slice none 0 0, .int .i64 0] 33)).heap[w.heap.size + 2]? = some (.cells (stA { zeroSt with id := flow } (.slice none 0 0) (.slice none 0 0)) 33 (0, 0)) := by
    have h := heap_alloc_new ((w.alloc (.cells #[.string nm, .slice a ns.length c] 24)).alloc (.cells #[.string ⟨#[]⟩, .string ⟨#[]⟩, .string ⟨#[]⟩, .string ⟨#[]⟩, .int .i64 0, .string ⟨#[]⟩, .slice none 0 0, .slice none 0 0, .int .i64 0] 33)) (.cells #[.string ⟨#[]⟩, .string flow, .string ⟨#[]⟩, .string ⟨#[]⟩, .int .i64 0, .string ⟨#[]⟩, .slice none 0 0, .slice none 0 0, .int .i64 0] 33)
    rw [z2] at h
    exact h
  have S0 : StIn (((w.alloc (.cells #[.string nm, .slice a ns.length c] 24)).alloc (.cells #[.string ⟨#[]⟩, .string ⟨#[]⟩, .string ⟨#[]⟩, .string ⟨#[]⟩, .int .i64 0, .string ⟨#[]⟩, .slice none 0 0, .slice none 0 0, .int .i64 0] 33)).alloc (.cells #[.string ⟨#[]⟩, .string flow, .string ⟨#[]⟩, .string ⟨#[]⟩, .int .i64 0, .string ⟨#[]⟩, .slice none 0 0, .slice none 0 0, .int .i64 0] 33)) (fun g => w.heap.size + 2 ≤ g ∧ g < w.heap.size + 3) (w.heap.size + 2) 0 33 [] [] { zeroSt with id := flow } (.slice none 0 0) (.slice none 0 0) :=
    ⟨hs, rfl, World.ownsRow_nil _ _ _ _, World.ownsRow_nil _ _ _ _, ⟨Nat.le_refl _, by omega⟩, fun g h => (by cases h), fun g h => (by cases h), fun g h => by rw [z3]; exact h.2⟩
  obtain ⟨r, hr0⟩ : ∃ r, r = foldP nm ns { zeroSt with id := flow } l := ⟨_, rfl⟩
  rw [← hr0]
  have HR0 := hid hr0
  have HN := hid hN
  have HM := hid M
  have HL := hid hlow
  have HE := hid hE
  have HK3 := hid K3
  have HD := hid hd
  have HZ := hid hr
  have HS0 := hid S0
  have Hz3 := hid z3
  clear K3 z1 z2 z3 hd hr hs S0 hN M hlow hE hr0
  go_enter Tryd.func14, Tryd.ntmps14
  go_wp2_with fail
  go_loopw [15] (fun i wr => ∃ (k : Nat) (t : St) (F' : Nat → Prop) (u6 u7 : Value), k ≤ l.length ∧ i = .int .i64 k ∧ StIn wr F' (w.heap.size + 2) 0 33 [] [] t u6 u7 ∧ (∀ g, F' g → w.heap.size + 2 ≤ g) ∧ r = foldP nm ns t (l.drop k) ∧ t.events = (k : Int) ∧ t.sigs.length ≤ k ∧ t.nodes.length ≤ 1000000 ∧ Kept (fun g => w.heap.size + 2 ≤ g) (((w.alloc (.cells #[.string nm, .slice a ns.length c] 24)).alloc (.cells #[.string ⟨#[]⟩, .string ⟨#[]⟩, .string ⟨#[]⟩, .string ⟨#[]⟩, .int .i64 0, .string ⟨#[]⟩, .slice none 0 0, .slice none 0 0, .int .i64 0] 33)).alloc (.cells #[.string ⟨#[]⟩, .string flow, .string ⟨#[]⟩, .string ⟨#[]⟩, .int .i64 0, .string ⟨#[]⟩, .slice none 0 0, .slice none 0 0, .int .i64 0] 33)) wr) (fun i _ => l.length - (intOf i).toNat)
  case atStart => exact ⟨0, { zeroSt with id := flow }, _, _, _, Nat.zero_le _, rfl, HS0.out, fun g h => h.1, HR0.out, rfl, Nat.zero_le _, Nat.zero_le _, Kept.refl _ _⟩
  case round =>
    clear HS0
    obtain ⟨k, t, F', u6, u7, hk, rfl, S, hF, hr, hev, hsg, hnd, K⟩ := hrel
    have hdb := (K.block _ (Array.getElem?_eq_some_iff.1 HD.out).1 (by omega)).trans HD.out
    have hzb := (K.block _ (Array.getElem?_eq_some_iff.1 HZ.out).1 (by omega)).trans HZ.out
    have KW : Kept (fun _ => False) w wr := HK3.out.trans K (fun g h => .inr (by omega))
    obtain ⟨y0, y1⟩ := twoB hdb
    have hzw := K.size
    rw [Hz3.out] at hzw
    by_cases hlt : k < l.length
    · have e0 : (k : Int) < (l.length : Int) := by omega
      obtain ⟨hlc, b, o, rfl, x0, x1, x2, x3⟩ := flat_ev (HE.out.new KW) hlt
      have KA : Kept (fun _ => False) wr (wr.alloc (.cells #[.int .i64 (l[k]).kind, .string (l[k]).node, .string (l[k]).text, .int .i64 (l[k]).num] 51)) := Kept.alloc _ _ _
      obtain ⟨y0', y1'⟩ := twoB ((KA.block _ (Array.getElem?_eq_some_iff.1 hdb).1 (fun h => h)).trans hdb)
      obtain ⟨⟨e0', e1', e2', e3'⟩, _⟩ := four (heap_alloc_new wr (.cells #[.int .i64 (l[k]).kind, .string (l[k]).node, .string (l[k]).text, .int .i64 (l[k]).num] 51))
      have hCh := change_any (wr.alloc (.cells #[.int .i64 (l[k]).kind, .string (l[k]).node, .string (l[k]).text, .int .i64 (l[k]).num] 51)) F' (w.heap.size + 2) 0 33 [] [] t u6 u7 (S.new KA) hnd (by omega) (by omega) (by omega) nm a c ns (keptNew (KW.and KA) HN.out) hn (fun b o h hF' => by have := HL.out b o h; have := hF b hF'; omega) (HM.out.kept (KW.and KA) (fun h => h)) l[k]
      have hdr : l.drop k = l[k] :: l.drop (k + 1) := List.drop_eq_getElem_cons hlt
      rw [hdr] at hr
      have HS := hid S
      have HF := hid hF
      have HK := hid K
      have HKA := hid KA
      have HKW := hid KW
      have Hzb := hid hzb
      clear S hF K KA KW hdr hdb hzb
      cases hp : changeP nm ns t l[k] with
      | none =>
        rw [hp] at hCh
        unfold foldP at hr
        rw [hp] at hr
        have HRn := hid hr
        unfold ChgPost at hCh
        simp only [Option.isSome_none] at hCh
        clear hp hr
        go_upto_region 6 with (first
          | (go_at_call 36; refine hCh.mono ?_; rintro e w2 ⟨rfl, K2⟩; clear hCh)
          | fail)
        have hz9 := ((HKA.out.and K2).block _ (Array.getElem?_eq_some_iff.1 Hzb.out).1 (fun h => h)).trans Hzb.out
        have E1 := put9 hz9 (.string ⟨#[]⟩) (.string ⟨#[]⟩) (.string ⟨#[]⟩) (.string ⟨#[]⟩) (.int .i64 0) (.string ⟨#[]⟩) (.slice none 0 0) (.slice none 0 0) (.int .i64 0)
        have KK := kept9 (S := fun j => j = w.heap.size + 1) w2 rfl (.string ⟨#[]⟩) (.string ⟨#[]⟩) (.string ⟨#[]⟩) (.string ⟨#[]⟩) (.int .i64 0) (.string ⟨#[]⟩) (.slice none 0 0) (.slice none 0 0) (.int .i64 0)
        obtain ⟨⟨k0, k1, k2, k3, k4, k5, k6, k7, k8⟩, _⟩ := nine E1
        obtain ⟨⟨p0, p1, p2, p3, p4, p5, p6, p7, p8⟩, q0, q1, q2, q3, q4, q5, q6, q7, q8⟩ := nine hz9
        have HKK := hid (((HKW.out.and HKA.out).and K2).trans KK (fun i hi => .inr (by have hi : i = _ := hi; omega)))
        clear E1 KK hz9 K2 y0 y1 y0' y1' x0 x1 x2 x3 e0' e1' e2' e3'
        go_wp2_with fail
        refine bodyPost_ret (v := .tuple #[.agg #[.string ⟨#[]⟩, .string ⟨#[]⟩, .string ⟨#[]⟩, .string ⟨#[]⟩, .int .i64 0, .string ⟨#[]⟩, .slice none 0 0, .slice none 0 0, .int .i64 0], .int .i64 12]) (by simp [results, Tryd.results14, go_sem, k0, k1, k2, k3, k4, k5, k6, k7, k8]; try rfl) rfl ?_
        show FoldPost _ _ _ _
        rw [HRn.out]
        exact ⟨_, _, rfl, ⟨World.ownsRow_nil _ _ _ _, World.ownsRow_nil _ _ _ _⟩, HKK.out⟩
      | some t' =>
        rw [hp] at hCh
        unfold foldP at hr
        rw [hp] at hr
        have HRn := hid hr
        obtain ⟨f1, f2, f3, _, _⟩ := changeP_fit hp hn hnd
        unfold ChgPost at hCh
        simp only [Option.isSome_some] at hCh
        clear hp hr
        go_wp2_with (first
          | (go_at_call 36; refine hCh.mono ?_; rintro e w2 ⟨rfl, ⟨F2, g6, g7, S2, hF2⟩, K2⟩; clear hCh)
          | fail)
        go_roundw
        case rel => exact ⟨k + 1, t', F2, g6, g7, by omega, by go_num, S2, fun g h => (hF2 g h).elim (HF.out g) (fun h => by have := HKA.out.size; omega), HRn.out, by omega, by omega, f1, (HK.out.and (HKA.out.mono (fun _ h => h.elim))).and (K2.mono (fun g h => HF.out g h))⟩
        case measure => simp [intOf]; omega
    · obtain rfl : k = l.length := by omega
      have e0 : ¬ ((l.length : Int) < (l.length : Int)) := by omega
      rw [List.drop_length] at hr
      have HRn := hid (show r = some t from hr)
      obtain ⟨ta6, tc6, rfl⟩ := ownsRow_shape S.nodes
      obtain ⟨ta7, tc7, rfl⟩ := ownsRow_shape S.sigs
      have hx9 := S.blk
      change wr.heap[w.heap.size + 2]? = some (.cells #[.string t.dfn, .string t.id, .string t.par, .string t.pnode, .int .i64 t.status, .string t.text, .slice ta6 t.nodes.length tc6, .slice ta7 t.sigs.length tc7, .int .i64 t.events] 33 (0, 0)) at hx9
      have E1 := put9 hzb (.string t.dfn) (.string t.id) (.string t.par) (.string t.pnode) (.int .i64 t.status) (.string t.text) (.slice ta6 t.nodes.length tc6) (.slice ta7 t.sigs.length tc7) (.int .i64 t.events)
      have KK := kept9 (S := fun j => j = w.heap.size + 1) wr rfl (.string t.dfn) (.string t.id) (.string t.par) (.string t.pnode) (.int .i64 t.status) (.string t.text) (.slice ta6 t.nodes.length tc6) (.slice ta7 t.sigs.length tc7) (.int .i64 t.events)
      obtain ⟨⟨k0, k1, k2, k3, k4, k5, k6, k7, k8⟩, _⟩ := nine E1
      obtain ⟨⟨p0, p1, p2, p3, p4, p5, p6, p7, p8⟩, q0, q1, q2, q3, q4, q5, q6, q7, q8⟩ := nine hzb
      obtain ⟨⟨l0, l1, l2, l3, l4, l5, l6, l7, l8⟩, _⟩ := nine hx9
      have HG6 := hid (fun g hg => hF g (S.in6 g hg).1)
      have HG7 := hid (fun g hg => hF g (S.in7 g hg).1)
      have HKf := hid KK
      have HKK := hid (KW.trans KK (fun i hi => .inr (by have hi : i = _ := hi; omega)))
      have HO : Hid (StOwn wr w.heap.size t (.slice ta6 t.nodes.length tc6) (.slice ta7 t.sigs.length tc7)) := ⟨ownsRow_high S.nodes (fun g hg => by have := HG6.out g hg; omega), ownsRow_high S.sigs (fun g hg => by have := HG7.out g hg; omega)⟩
      clear E1 KK hzb hx9 S hF K KW hr hdb y0 y1 hev
      go_wp2_with fail
      refine bodyPost_ret (v := .tuple #[.agg #[.string t.dfn, .string t.id, .string t.par, .string t.pnode, .int .i64 t.status, .string t.text, .slice ta6 t.nodes.length tc6, .slice ta7 t.sigs.length tc7, .int .i64 t.events], .int .i64 0]) (by simp [results, Tryd.results14, go_sem, k0, k1, k2, k3, k4, k5, k6, k7, k8]; try rfl) rfl ?_
      show FoldPost _ _ _ _
      rw [HRn.out]
      refine ⟨.slice ta6 t.nodes.length tc6, .slice ta7 t.sigs.length tc7, rfl, ⟨?_, ?_⟩, HKK.out⟩
      · exact ownsRow_keep HO.out.nodes (fun g hg => HKf.out.block g (ownsRow_blk HO.out.nodes hg) (fun h => by have := HG6.out g hg; have h : g = _ := h; omega))
      · exact ownsRow_keep HO.out.sigs (fun g hg => HKf.out.block g (ownsRow_blk HO.out.sigs hg) (fun h => by have := HG7.out g hg; have h : g = _ := h; omega))

end Go.Proofs.YtfjekjbkifmpfaaDoor.Rf

/-
  The document's Fold.
-/
namespace Go.Proofs.YtfjekjbkifmpfaaDoor.Rf
open Go.RowKit

set_option maxRecDepth 100000 in
set_option maxHeartbeats 8000000 in
theorem fo5 {W : World} {db sb b o n cn i : Nat} {d0 d1 q0 q1 q2 q3 q4 q5 q6 q7 q8 g0 g1 g2 g3 : Value} {Q : Nat → World → St → Value → Value → Int → Prop} {ds : List Deferred} {u0 u1 u4 u5 u6 u7 u10 u11 u12 u13 u14 u15 u16 u17 u18 u19 u20 u21 u22 u23 u24 u25 u26 u27 u28 u29 u30 u31 u32 u33 u34 u35 : Value} (K : Act → World → Prop)
    (x0 : W.cell? ⟨db, 0, none⟩ = some (d0)) (x1 : W.cell? ⟨db, 1, none⟩ = some (d1)) (x2 : W.cell? ⟨sb, 0, none⟩ = some (q0)) (x3 : W.cell? ⟨sb, 1, none⟩ = some (q1)) (x4 : W.cell? ⟨sb, 2, none⟩ = some (q2)) (x5 : W.cell? ⟨sb, 3, none⟩ = some (q3)) (x6 : W.cell? ⟨sb, 4, none⟩ = some (q4)) (x7 : W.cell? ⟨sb, 5, none⟩ = some (q5)) (x8 : W.cell? ⟨sb, 6, none⟩ = some (q6)) (x9 : W.cell? ⟨sb, 7, none⟩ = some (q7)) (x10 : W.cell? ⟨sb, 8, none⟩ = some (q8)) (x11 : W.cell? ⟨b, o + i * 4, none⟩ = some (g0)) (x12 : W.cell? ⟨b, o + i * 4 + 1, none⟩ = some (g1)) (x13 : W.cell? ⟨b, o + i * 4 + 2, none⟩ = some (g2)) (x14 : W.cell? ⟨b, o + i * 4 + 3, none⟩ = some (g3))
    (hi : i < n)
    (hC : ∀ V, Kept (fun _ => False) W.drew V → Calls Tryd.prog 19 #[.agg #[d0, d1], .agg #[q0, q1, q2, q3, q4, q5, q6, q7, q8], .agg #[g0, g1, g2, g3]] V fun e w' => ∃ (t : St) (a6 : Option Addr) (c6 : Nat) (a7 : Option Addr) (c7 : Nat) (z : Int), e = .returned (.tuple #[.agg #[.string t.dfn, .string t.id, .string t.par, .string t.pnode, .int .i64 t.status, .string t.text, .slice a6 t.nodes.length c6, .slice a7 t.sigs.length c7, .int .i64 t.events], .int .i64 z]) ∧ Q V.heap.size w' t (.slice a6 t.nodes.length c6) (.slice a7 t.sigs.length c7) z ∧ Kept (fun _ => False) V w')
    (hQ : ∀ B w1 w2 t p6 p7 z mb, Q B w1 t p6 p7 z → mb < B ∨ w1.heap.size ≤ mb → Kept (fun j => j = mb) w1 w2 → Q B w2 t p6 p7 z)
    (h : ∀ (v20 v21 v22 v23 v24 v25 v26 v27 v28 v29 : Value) (mb B : Nat) (t : St) (a6 : Option Addr) (c6 : Nat) (a7 : Option Addr) (c7 : Nat) (z : Int) (W' : World), W.heap.size ≤ mb → W.heap.size ≤ B → W'.heap[mb]? = some (.cells #[.string t.dfn, .string t.id, .string t.par, .string t.pnode, .int .i64 t.status, .string t.text, .slice a6 t.nodes.length c6, .slice a7 t.sigs.length c7, .int .i64 t.events] 33 (0, 0)) → Q B W' t (.slice a6 t.nodes.length c6) (.slice a7 t.sigs.length c7) z → Kept (fun _ => False) W W' → K { tmps := #[u0, u1, .slice (some ⟨b, o, none⟩) n cn, .pointer (some ⟨db, 0, none⟩), u4, u5, u6, u7, .pointer (some ⟨sb, 0, none⟩), .int .i64 (i : Nat), .pointer (some ⟨mb, 0, none⟩), .int .i64 z, u12, u13, u14, u15, u16, u17, u18, u19, v20, v21, v22, v23, v24, v25, v26, v27, v28, v29, u30, u31, u32, u33, u34, u35], defers := ds } W') :
    (Code.region 5 #[{ dst := some 21, op := Op.load 24 (Operand.tmp 3), type := 24, pos := "ref.go:104", after := #[], guard := none }, { dst := some 22, op := Op.load 33 (Operand.tmp 8), type := 33, pos := "ref.go:104", after := #[], guard := none }, { dst := some 23, op := Op.move (Operand.tmp 2), type := 34, pos := "ref.go:104", after := #[], guard := none }, { dst := some 24, op := Op.move (Operand.tmp 9), type := 3, pos := "ref.go:104", after := #[], guard := none }, { dst := some 25, op := Op.indexAddr 34 (Operand.tmp 23) (Operand.tmp 24), type := 0, pos := "ref.go:104", after := #[{ on := 2, ground := Ground.data }, { on := 3, ground := Ground.data }], guard := none }, { dst := some 26, op := Op.load 51 (Operand.tmp 25), type := 51, pos := "ref.go:104", after := #[{ on := 4, ground := Ground.data }], guard := none }, { dst := some 27, op := Op.call { callee := Callee.value (Operand.func 19), args := #[Operand.tmp 21, Operand.tmp 22, Operand.tmp 26], argTypes := #[24, 33, 51] }, type := 43, pos := "ref.go:104", after := #[{ on := 0, ground := Ground.data }, { on := 1, ground := Ground.data }, { on := 5, ground := Ground.data }], guard := none }, { dst := some 20, op := Op.move (Operand.tmp 27), type := 43, pos := "ref.go:104", after := #[{ on := 6, ground := Ground.data }], guard := none }, { dst := some 28, op := Op.extract (Operand.tmp 20) 0, type := 33, pos := "ref.go:104", after := #[{ on := 7, ground := Ground.data }], guard := none }, { dst := some 29, op := Op.extract (Operand.tmp 20) 1, type := 42, pos := "ref.go:104", after := #[{ on := 7, ground := Ground.data }, { on := 11, ground := Ground.gcOnly Departure.lateStores }], guard := none }, { dst := some 10, op := Op.alloc 33, type := 0, pos := "ref.go:104", after := #[], guard := none }, { dst := none, op := Op.store 33 (Operand.tmp 10) (Operand.tmp 28), type := 0, pos := "ref.go:104", after := #[{ on := 10, ground := Ground.data }, { on := 8, ground := Ground.data }, { on := 6, ground := Ground.chain }, { on := 0, ground := Ground.phase }, { on := 1, ground := Ground.phase }, { on := 2, ground := Ground.phase }, { on := 3, ground := Ground.phase }, { on := 4, ground := Ground.phase }, { on := 5, ground := Ground.phase }, { on := 6, ground := Ground.phase }, { on := 7, ground := Ground.phase }, { on := 8, ground := Ground.phase }, { on := 9, ground := Ground.textOnly Departure.lateStores }, { on := 10, ground := Ground.phase }], guard := none }, { dst := some 11, op := Op.assign (Operand.tmp 29), type := 42, pos := "ref.go:104", after := #[{ on := 9, ground := Ground.data }, { on := 11, ground := Ground.chain }, { on := 0, ground := Ground.phase }, { on := 1, ground := Ground.phase }, { on := 2, ground := Ground.phase }, { on := 3, ground := Ground.phase }, { on := 4, ground := Ground.phase }, { on := 5, ground := Ground.phase }, { on := 6, ground := Ground.phase }, { on := 7, ground := Ground.phase }, { on := 8, ground := Ground.phase }, { on := 9, ground := Ground.phase }, { on := 10, ground := Ground.phase }, { on := 11, ground := Ground.phase }], guard := none }] true).wp Tryd.prog (onlyN K) { tmps := #[u0, u1, .slice (some ⟨b, o, none⟩) n cn, .pointer (some ⟨db, 0, none⟩), u4, u5, u6, u7, .pointer (some ⟨sb, 0, none⟩), .int .i64 (i : Nat), u10, u11, u12, u13, u14, u15, u16, u17, u18, u19, u20, u21, u22, u23, u24, u25, u26, u27, u28, u29, u30, u31, u32, u33, u34, u35], defers := ds } W := by
  have e1 : (i : Int) < (n : Int) := by omega
  have HH : Hid _ := h
  have KD := Kept.drew (fun _ => False) W
  have HS : Hid (∀ V, Kept (fun _ => False) W.drew V → V.cell? ⟨db, 0, none⟩ = some (d0) ∧ V.cell? ⟨db, 1, none⟩ = some (d1) ∧ V.cell? ⟨sb, 0, none⟩ = some (q0) ∧ V.cell? ⟨sb, 1, none⟩ = some (q1) ∧ V.cell? ⟨sb, 2, none⟩ = some (q2) ∧ V.cell? ⟨sb, 3, none⟩ = some (q3) ∧ V.cell? ⟨sb, 4, none⟩ = some (q4) ∧ V.cell? ⟨sb, 5, none⟩ = some (q5) ∧ V.cell? ⟨sb, 6, none⟩ = some (q6) ∧ V.cell? ⟨sb, 7, none⟩ = some (q7) ∧ V.cell? ⟨sb, 8, none⟩ = some (q8) ∧ V.cell? ⟨b, o + i * 4, none⟩ = some (g0) ∧ V.cell? ⟨b, o + i * 4 + 1, none⟩ = some (g1) ∧ V.cell? ⟨b, o + i * 4 + 2, none⟩ = some (g2) ∧ V.cell? ⟨b, o + i * 4 + 3, none⟩ = some (g3)) := fun V KV => ⟨keepC (KD.and KV) x0 (fun _ _ h => h), keepC (KD.and KV) x1 (fun _ _ h => h), keepC (KD.and KV) x2 (fun _ _ h => h), keepC (KD.and KV) x3 (fun _ _ h => h), keepC (KD.and KV) x4 (fun _ _ h => h), keepC (KD.and KV) x5 (fun _ _ h => h), keepC (KD.and KV) x6 (fun _ _ h => h), keepC (KD.and KV) x7 (fun _ _ h => h), keepC (KD.and KV) x8 (fun _ _ h => h), keepC (KD.and KV) x9 (fun _ _ h => h), keepC (KD.and KV) x10 (fun _ _ h => h), keepC (KD.and KV) x11 (fun _ _ h => h), keepC (KD.and KV) x12 (fun _ _ h => h), keepC (KD.and KV) x13 (fun _ _ h => h), keepC (KD.and KV) x14 (fun _ _ h => h)⟩
  have HKD : Hid (Kept (fun _ => False) W W.drew) := KD
  have hS0 := HS.out W.drew (Kept.refl _ _)
  clear h KD x0 x1 x2 x3 x4 x5 x6 x7 x8 x9 x10 x11 x12 x13 x14
  refine wp_region_held_drew (S := fun V => V.cell? ⟨db, 0, none⟩ = some (d0) ∧ V.cell? ⟨db, 1, none⟩ = some (d1) ∧ V.cell? ⟨sb, 0, none⟩ = some (q0) ∧ V.cell? ⟨sb, 1, none⟩ = some (q1) ∧ V.cell? ⟨sb, 2, none⟩ = some (q2) ∧ V.cell? ⟨sb, 3, none⟩ = some (q3) ∧ V.cell? ⟨sb, 4, none⟩ = some (q4) ∧ V.cell? ⟨sb, 5, none⟩ = some (q5) ∧ V.cell? ⟨sb, 6, none⟩ = some (q6) ∧ V.cell? ⟨sb, 7, none⟩ = some (q7) ∧ V.cell? ⟨sb, 8, none⟩ = some (q8) ∧ V.cell? ⟨b, o + i * 4, none⟩ = some (g0) ∧ V.cell? ⟨b, o + i * 4 + 1, none⟩ = some (g1) ∧ V.cell? ⟨b, o + i * 4 + 2, none⟩ = some (g2) ∧ V.cell? ⟨b, o + i * 4 + 3, none⟩ = some (g3)) (by kernel_rfl) hS0 (fun _ => ?_)
  generalize W.drew = V0 at *
  refine wpAnyH_take (i := 0) (oi := { dst := some 21, op := Op.load 24 (Operand.tmp 3), type := 24, pos := "ref.go:104", after := #[], guard := none }) (v := ?vv1) rfl (by kernel_rfl) (by kernel_rfl) (by kernel_rfl) (fun _ _ _ h => h) (Or.inl ⟨by rfl, ?hy1⟩) hS0 ?rest1
  case hy1 =>
    intro V hV
    obtain ⟨y0, y1, y2, y3, y4, y5, y6, y7, y8, y9, y10, y11, y12, y13, y14⟩ := hV
    go_simp
    all_goals rfl
  simp only [Act.put, List.setIfInBounds_toArray, List.set_cons_zero, List.set_cons_succ]
  refine wpAnyH_take (i := 1) (oi := { dst := some 22, op := Op.load 33 (Operand.tmp 8), type := 33, pos := "ref.go:104", after := #[], guard := none }) (v := ?vv2) rfl (by kernel_rfl) (by kernel_rfl) (by kernel_rfl) (fun _ _ _ h => h) (Or.inl ⟨by rfl, ?hy2⟩) hS0 ?rest2
  case hy2 =>
    intro V hV
    obtain ⟨y0, y1, y2, y3, y4, y5, y6, y7, y8, y9, y10, y11, y12, y13, y14⟩ := hV
    go_simp
    all_goals rfl
  simp only [Act.put, List.setIfInBounds_toArray, List.set_cons_zero, List.set_cons_succ]
  refine wpAnyH_take (i := 2) (oi := { dst := some 23, op := Op.move (Operand.tmp 2), type := 34, pos := "ref.go:104", after := #[], guard := none }) (v := ?vv3) rfl (by kernel_rfl) (by kernel_rfl) (by kernel_rfl) (fun _ _ _ h => h) (Or.inl ⟨by rfl, ?hy3⟩) hS0 ?rest3
  case hy3 =>
    intro V hV
    obtain ⟨y0, y1, y2, y3, y4, y5, y6, y7, y8, y9, y10, y11, y12, y13, y14⟩ := hV
    go_simp
    all_goals rfl
  simp only [Act.put, List.setIfInBounds_toArray, List.set_cons_zero, List.set_cons_succ]
  refine wpAnyH_take (i := 3) (oi := { dst := some 24, op := Op.move (Operand.tmp 9), type := 3, pos := "ref.go:104", after := #[], guard := none }) (v := ?vv4) rfl (by kernel_rfl) (by kernel_rfl) (by kernel_rfl) (fun _ _ _ h => h) (Or.inl ⟨by rfl, ?hy4⟩) hS0 ?rest4
  case hy4 =>
    intro V hV
    obtain ⟨y0, y1, y2, y3, y4, y5, y6, y7, y8, y9, y10, y11, y12, y13, y14⟩ := hV
    go_simp
    all_goals rfl
  simp only [Act.put, List.setIfInBounds_toArray, List.set_cons_zero, List.set_cons_succ]
  refine wpAnyH_take (i := 4) (oi := { dst := some 25, op := Op.indexAddr 34 (Operand.tmp 23) (Operand.tmp 24), type := 0, pos := "ref.go:104", after := #[{ on := 2, ground := Ground.data }, { on := 3, ground := Ground.data }], guard := none }) (v := ?vv5) rfl (by kernel_rfl) (by kernel_rfl) (by kernel_rfl) (fun _ _ _ h => h) (Or.inl ⟨by rfl, ?hy5⟩) hS0 ?rest5
  case hy5 =>
    intro V hV
    obtain ⟨y0, y1, y2, y3, y4, y5, y6, y7, y8, y9, y10, y11, y12, y13, y14⟩ := hV
    go_simp
    all_goals rfl
  simp only [Act.put, List.setIfInBounds_toArray, List.set_cons_zero, List.set_cons_succ]
  refine wpAnyH_take (i := 5) (oi := { dst := some 26, op := Op.load 51 (Operand.tmp 25), type := 51, pos := "ref.go:104", after := #[{ on := 4, ground := Ground.data }], guard := none }) (v := ?vv6) rfl (by kernel_rfl) (by kernel_rfl) (by kernel_rfl) (fun _ _ _ h => h) (Or.inl ⟨by rfl, ?hy6⟩) hS0 ?rest6
  case hy6 =>
    intro V hV
    obtain ⟨y0, y1, y2, y3, y4, y5, y6, y7, y8, y9, y10, y11, y12, y13, y14⟩ := hV
    go_simp
    all_goals rfl
  simp only [Act.put, List.setIfInBounds_toArray, List.set_cons_zero, List.set_cons_succ]
  refine wpAnyH_ready (rs := [6, 10]) (by kernel_rfl) (by simp) (AllReadyH.cons (o := { dst := some 27, op := Op.call { callee := Callee.value (Operand.func 19), args := #[Operand.tmp 21, Operand.tmp 22, Operand.tmp 26], argTypes := #[24, 33, 51] }, type := 43, pos := "ref.go:104", after := #[{ on := 0, ground := Ground.data }, { on := 1, ground := Ground.data }, { on := 5, ground := Ground.data }], guard := none }) rfl (fun K' hK => ?_) (AllReadyH.cons (o := { dst := some 10, op := Op.alloc 33, type := 0, pos := "ref.go:104", after := #[], guard := none }) rfl (fun K' hK => ?_) AllReadyH.nil))
  · refine step_call3 _ (by rfl) 19 _ _ _ _ _ _ (by rfl) (enters_of Tryd.func19 (by kernel_rfl) rfl) _ _ _ (by rfl) (by rfl) (by rfl) (hC _ (Kept.refl (fun _ => False) V0)) ?_
    rintro e w9 ⟨t, a6, c6, a7, c7, z, rfl, Q9, K9⟩
    have L9 := ((Kept.refl (fun _ => False) V0)).and K9
    have hB9 : V0.heap.size ≤ V0.heap.size := ((Kept.refl (fun _ => False) V0)).size
    refine ⟨_, rfl, ?_⟩
    refine hK.out _ _ (HS.out _ L9) (fun _ => ?_)
    clear hK K'
    try (simp only [Act.put, List.setIfInBounds_toArray, List.set_cons_zero, List.set_cons_succ])
    refine wpAnyH_take (i := 7) (oi := { dst := some 20, op := Op.move (Operand.tmp 27), type := 43, pos := "ref.go:104", after := #[{ on := 6, ground := Ground.data }], guard := none }) (v := ?vv7) rfl (by kernel_rfl) (by kernel_rfl) (by kernel_rfl) (fun _ _ _ h => h) (Or.inl ⟨by rfl, ?hy7⟩) (HS.out _ L9) ?rest7
    case hy7 =>
      intro V hV
      obtain ⟨y0, y1, y2, y3, y4, y5, y6, y7, y8, y9, y10, y11, y12, y13, y14⟩ := hV
      go_simp
      all_goals rfl
    simp only [Act.put, List.setIfInBounds_toArray, List.set_cons_zero, List.set_cons_succ]
    refine wpAnyH_take (i := 8) (oi := { dst := some 28, op := Op.extract (Operand.tmp 20) 0, type := 33, pos := "ref.go:104", after := #[{ on := 7, ground := Ground.data }], guard := none }) (v := ?vv8) rfl (by kernel_rfl) (by kernel_rfl) (by kernel_rfl) (fun _ _ _ h => h) (Or.inl ⟨by rfl, ?hy8⟩) (HS.out _ L9) ?rest8
    case hy8 =>
      intro V hV
      obtain ⟨y0, y1, y2, y3, y4, y5, y6, y7, y8, y9, y10, y11, y12, y13, y14⟩ := hV
      go_simp
      all_goals rfl
    simp only [Act.put, List.setIfInBounds_toArray, List.set_cons_zero, List.set_cons_succ]
    refine wpAnyH_take (i := 9) (oi := { dst := some 29, op := Op.extract (Operand.tmp 20) 1, type := 42, pos := "ref.go:104", after := #[{ on := 7, ground := Ground.data }, { on := 11, ground := Ground.gcOnly Departure.lateStores }], guard := none }) (v := ?vv9) rfl (by kernel_rfl) (by kernel_rfl) (by kernel_rfl) (fun _ _ _ h => h) (Or.inl ⟨by rfl, ?hy9⟩) (HS.out _ L9) ?rest9
    case hy9 =>
      intro V hV
      obtain ⟨y0, y1, y2, y3, y4, y5, y6, y7, y8, y9, y10, y11, y12, y13, y14⟩ := hV
      go_simp
      all_goals rfl
    simp only [Act.put, List.setIfInBounds_toArray, List.set_cons_zero, List.set_cons_succ]
    refine wpAnyH_ready (rs := [10]) (by kernel_rfl) (by simp) (AllReadyH.cons (o := { dst := some 10, op := Op.alloc 33, type := 0, pos := "ref.go:104", after := #[], guard := none }) rfl (fun K' hK => ?_) AllReadyH.nil)
    have hmb : (w9.alloc (.cells #[.string ⟨#[]⟩, .string ⟨#[]⟩, .string ⟨#[]⟩, .string ⟨#[]⟩, .int .i64 0, .string ⟨#[]⟩, .slice none 0 0, .slice none 0 0, .int .i64 0] 33)).heap[w9.heap.size]? = some (.cells #[.string ⟨#[]⟩, .string ⟨#[]⟩, .string ⟨#[]⟩, .string ⟨#[]⟩, .int .i64 0, .string ⟨#[]⟩, .slice none 0 0, .slice none 0 0, .int .i64 0] 33 (0, 0)) := heap_alloc_new _ _
    have KA0 : Kept (fun _ => False) w9 (w9.alloc (.cells #[.string ⟨#[]⟩, .string ⟨#[]⟩, .string ⟨#[]⟩, .string ⟨#[]⟩, .int .i64 0, .string ⟨#[]⟩, .slice none 0 0, .slice none 0 0, .int .i64 0] 33)) := Kept.alloc _ _ _
    have KA := (L9).and KA0
    go_simp
    refine hK.out _ _ (HS.out _ KA) (fun _ => ?_)
    generalize w9.alloc (.cells #[.string ⟨#[]⟩, .string ⟨#[]⟩, .string ⟨#[]⟩, .string ⟨#[]⟩, .int .i64 0, .string ⟨#[]⟩, .slice none 0 0, .slice none 0 0, .int .i64 0] 33) = V6 at *
    obtain ⟨mb, hmbe⟩ : ∃ mb, mb = w9.heap.size := ⟨_, rfl⟩
    rw [← hmbe] at hmb ⊢
    have hz : V0.heap.size ≤ mb := by rw [hmbe]; exact (L9).size
    have hmC : mb < V0.heap.size ∨ w9.heap.size ≤ mb := .inr (Nat.le_of_eq hmbe.symm)
    have K90 : Kept (fun j => j = mb) w9 V6 := KA0.mono (fun _ h => h.elim)
    clear hmbe KA0
    clear hK K'
    try (simp only [Act.put, List.setIfInBounds_toArray, List.set_cons_zero, List.set_cons_succ])
    refine wpAnyH_ready (rs := [11]) (by kernel_rfl) (by simp) (AllReadyH.cons (o := { dst := none, op := Op.store 33 (Operand.tmp 10) (Operand.tmp 28), type := 0, pos := "ref.go:104", after := #[{ on := 10, ground := Ground.data }, { on := 8, ground := Ground.data }, { on := 6, ground := Ground.chain }, { on := 0, ground := Ground.phase }, { on := 1, ground := Ground.phase }, { on := 2, ground := Ground.phase }, { on := 3, ground := Ground.phase }, { on := 4, ground := Ground.phase }, { on := 5, ground := Ground.phase }, { on := 6, ground := Ground.phase }, { on := 7, ground := Ground.phase }, { on := 8, ground := Ground.phase }, { on := 9, ground := Ground.textOnly Departure.lateStores }, { on := 10, ground := Ground.phase }], guard := none }) rfl (fun K' hK => ?_) AllReadyH.nil)
    obtain ⟨⟨p0, p1, p2, p3, p4, p5, p6, p7, p8⟩, f0, f1, f2, f3, f4, f5, f6, f7, f8⟩ := nine hmb
    have HMb := hid (put9 hmb (.string t.dfn) (.string t.id) (.string t.par) (.string t.pnode) (.int .i64 t.status) (.string t.text) (.slice a6 t.nodes.length c6) (.slice a7 t.sigs.length c7) (.int .i64 t.events))
    have KS := kept9 (S := fun j => j = mb) V6 rfl (.string t.dfn) (.string t.id) (.string t.par) (.string t.pnode) (.int .i64 t.status) (.string t.text) (.slice a6 t.nodes.length c6) (.slice a7 t.sigs.length c7) (.int .i64 t.events)
    have QS := hid (hQ _ _ _ _ _ _ _ _ Q9 hmC (K90.and KS))
    have KF := (KA).trans KS (fun j h => .inr (by subst h; exact hz))
    go_simp
    refine hK.out _ _ (HS.out _ KF) (fun _ => ?_)
    have HKF := hid (HKD.out.and KF)
    clear p0 p1 p2 p3 p4 p5 p6 p7 p8 f0 f1 f2 f3 f4 f5 f6 f7 f8 KS
    clear hK K'
    try (simp only [Act.put, List.setIfInBounds_toArray, List.set_cons_zero, List.set_cons_succ])
    refine wpAnyH_take (i := 12) (oi := { dst := some 11, op := Op.assign (Operand.tmp 29), type := 42, pos := "ref.go:104", after := #[{ on := 9, ground := Ground.data }, { on := 11, ground := Ground.chain }, { on := 0, ground := Ground.phase }, { on := 1, ground := Ground.phase }, { on := 2, ground := Ground.phase }, { on := 3, ground := Ground.phase }, { on := 4, ground := Ground.phase }, { on := 5, ground := Ground.phase }, { on := 6, ground := Ground.phase }, { on := 7, ground := Ground.phase }, { on := 8, ground := Ground.phase }, { on := 9, ground := Ground.phase }, { on := 10, ground := Ground.phase }, { on := 11, ground := Ground.phase }], guard := none }) (v := ?vv10) rfl (by kernel_rfl) (by kernel_rfl) (by kernel_rfl) (fun _ _ _ h => h) (Or.inl ⟨by rfl, ?hy10⟩) (HS.out _ KF) ?rest10
    case hy10 =>
      intro V hV
      obtain ⟨y0, y1, y2, y3, y4, y5, y6, y7, y8, y9, y10, y11, y12, y13, y14⟩ := hV
      go_simp
      all_goals rfl
    simp only [Act.put, List.setIfInBounds_toArray, List.set_cons_zero, List.set_cons_succ]
    refine wpAnyH_done (by kernel_rfl) ?_ _
    exact HH.out _ _ _ _ _ _ _ _ _ _ mb _ t a6 c6 a7 c7 z _ (Nat.le_trans HKD.out.size hz) (Nat.le_trans HKD.out.size hB9) HMb.out QS.out HKF.out
  · have hmb : (V0.alloc (.cells #[.string ⟨#[]⟩, .string ⟨#[]⟩, .string ⟨#[]⟩, .string ⟨#[]⟩, .int .i64 0, .string ⟨#[]⟩, .slice none 0 0, .slice none 0 0, .int .i64 0] 33)).heap[V0.heap.size]? = some (.cells #[.string ⟨#[]⟩, .string ⟨#[]⟩, .string ⟨#[]⟩, .string ⟨#[]⟩, .int .i64 0, .string ⟨#[]⟩, .slice none 0 0, .slice none 0 0, .int .i64 0] 33 (0, 0)) := heap_alloc_new _ _
    have KA0 : Kept (fun _ => False) V0 (V0.alloc (.cells #[.string ⟨#[]⟩, .string ⟨#[]⟩, .string ⟨#[]⟩, .string ⟨#[]⟩, .int .i64 0, .string ⟨#[]⟩, .slice none 0 0, .slice none 0 0, .int .i64 0] 33)) := Kept.alloc _ _ _
    have KA := ((Kept.refl (fun _ => False) V0)).and KA0
    go_simp
    refine hK.out _ _ (HS.out _ KA) (fun _ => ?_)
    generalize V0.alloc (.cells #[.string ⟨#[]⟩, .string ⟨#[]⟩, .string ⟨#[]⟩, .string ⟨#[]⟩, .int .i64 0, .string ⟨#[]⟩, .slice none 0 0, .slice none 0 0, .int .i64 0] 33) = V6 at *
    obtain ⟨mb, hmbe⟩ : ∃ mb, mb = V0.heap.size := ⟨_, rfl⟩
    rw [← hmbe] at hmb ⊢
    have hz : V0.heap.size ≤ mb := by rw [hmbe]; exact ((Kept.refl (fun _ => False) V0)).size
    clear hmbe KA0
    clear hK K'
    try (simp only [Act.put, List.setIfInBounds_toArray, List.set_cons_zero, List.set_cons_succ])
    refine wpAnyH_ready (rs := [6]) (by kernel_rfl) (by simp) (AllReadyH.cons (o := { dst := some 27, op := Op.call { callee := Callee.value (Operand.func 19), args := #[Operand.tmp 21, Operand.tmp 22, Operand.tmp 26], argTypes := #[24, 33, 51] }, type := 43, pos := "ref.go:104", after := #[{ on := 0, ground := Ground.data }, { on := 1, ground := Ground.data }, { on := 5, ground := Ground.data }], guard := none }) rfl (fun K' hK => ?_) AllReadyH.nil)
    refine step_call3 _ (by rfl) 19 _ _ _ _ _ _ (by rfl) (enters_of Tryd.func19 (by kernel_rfl) rfl) _ _ _ (by rfl) (by rfl) (by rfl) (hC _ KA) ?_
    rintro e w9 ⟨t, a6, c6, a7, c7, z, rfl, Q9, K9⟩
    have L9 := (KA).and K9
    have hB9 : V0.heap.size ≤ V6.heap.size := (KA).size
    have hmC : mb < V6.heap.size ∨ w9.heap.size ≤ mb := .inl (Array.getElem?_eq_some_iff.1 hmb).1
    replace hmb := (K9.block _ (Array.getElem?_eq_some_iff.1 hmb).1 (fun h => h)).trans hmb
    have K90 : Kept (fun j => j = mb) w9 w9 := Kept.refl _ _
    refine ⟨_, rfl, ?_⟩
    refine hK.out _ _ (HS.out _ L9) (fun _ => ?_)
    clear hK K'
    try (simp only [Act.put, List.setIfInBounds_toArray, List.set_cons_zero, List.set_cons_succ])
    refine wpAnyH_take (i := 7) (oi := { dst := some 20, op := Op.move (Operand.tmp 27), type := 43, pos := "ref.go:104", after := #[{ on := 6, ground := Ground.data }], guard := none }) (v := ?vv11) rfl (by kernel_rfl) (by kernel_rfl) (by kernel_rfl) (fun _ _ _ h => h) (Or.inl ⟨by rfl, ?hy11⟩) (HS.out _ L9) ?rest11
    case hy11 =>
      intro V hV
      obtain ⟨y0, y1, y2, y3, y4, y5, y6, y7, y8, y9, y10, y11, y12, y13, y14⟩ := hV
      go_simp
      all_goals rfl
    simp only [Act.put, List.setIfInBounds_toArray, List.set_cons_zero, List.set_cons_succ]
    refine wpAnyH_take (i := 8) (oi := { dst := some 28, op := Op.extract (Operand.tmp 20) 0, type := 33, pos := "ref.go:104", after := #[{ on := 7, ground := Ground.data }], guard := none }) (v := ?vv12) rfl (by kernel_rfl) (by kernel_rfl) (by kernel_rfl) (fun _ _ _ h => h) (Or.inl ⟨by rfl, ?hy12⟩) (HS.out _ L9) ?rest12
    case hy12 =>
      intro V hV
      obtain ⟨y0, y1, y2, y3, y4, y5, y6, y7, y8, y9, y10, y11, y12, y13, y14⟩ := hV
      go_simp
      all_goals rfl
    simp only [Act.put, List.setIfInBounds_toArray, List.set_cons_zero, List.set_cons_succ]
    refine wpAnyH_take (i := 9) (oi := { dst := some 29, op := Op.extract (Operand.tmp 20) 1, type := 42, pos := "ref.go:104", after := #[{ on := 7, ground := Ground.data }, { on := 11, ground := Ground.gcOnly Departure.lateStores }], guard := none }) (v := ?vv13) rfl (by kernel_rfl) (by kernel_rfl) (by kernel_rfl) (fun _ _ _ h => h) (Or.inl ⟨by rfl, ?hy13⟩) (HS.out _ L9) ?rest13
    case hy13 =>
      intro V hV
      obtain ⟨y0, y1, y2, y3, y4, y5, y6, y7, y8, y9, y10, y11, y12, y13, y14⟩ := hV
      go_simp
      all_goals rfl
    simp only [Act.put, List.setIfInBounds_toArray, List.set_cons_zero, List.set_cons_succ]
    refine wpAnyH_ready (rs := [11]) (by kernel_rfl) (by simp) (AllReadyH.cons (o := { dst := none, op := Op.store 33 (Operand.tmp 10) (Operand.tmp 28), type := 0, pos := "ref.go:104", after := #[{ on := 10, ground := Ground.data }, { on := 8, ground := Ground.data }, { on := 6, ground := Ground.chain }, { on := 0, ground := Ground.phase }, { on := 1, ground := Ground.phase }, { on := 2, ground := Ground.phase }, { on := 3, ground := Ground.phase }, { on := 4, ground := Ground.phase }, { on := 5, ground := Ground.phase }, { on := 6, ground := Ground.phase }, { on := 7, ground := Ground.phase }, { on := 8, ground := Ground.phase }, { on := 9, ground := Ground.textOnly Departure.lateStores }, { on := 10, ground := Ground.phase }], guard := none }) rfl (fun K' hK => ?_) AllReadyH.nil)
    obtain ⟨⟨p0, p1, p2, p3, p4, p5, p6, p7, p8⟩, f0, f1, f2, f3, f4, f5, f6, f7, f8⟩ := nine hmb
    have HMb := hid (put9 hmb (.string t.dfn) (.string t.id) (.string t.par) (.string t.pnode) (.int .i64 t.status) (.string t.text) (.slice a6 t.nodes.length c6) (.slice a7 t.sigs.length c7) (.int .i64 t.events))
    have KS := kept9 (S := fun j => j = mb) w9 rfl (.string t.dfn) (.string t.id) (.string t.par) (.string t.pnode) (.int .i64 t.status) (.string t.text) (.slice a6 t.nodes.length c6) (.slice a7 t.sigs.length c7) (.int .i64 t.events)
    have QS := hid (hQ _ _ _ _ _ _ _ _ Q9 hmC (K90.and KS))
    have KF := (L9).trans KS (fun j h => .inr (by subst h; exact hz))
    go_simp
    refine hK.out _ _ (HS.out _ KF) (fun _ => ?_)
    have HKF := hid (HKD.out.and KF)
    clear p0 p1 p2 p3 p4 p5 p6 p7 p8 f0 f1 f2 f3 f4 f5 f6 f7 f8 KS
    clear hK K'
    try (simp only [Act.put, List.setIfInBounds_toArray, List.set_cons_zero, List.set_cons_succ])
    refine wpAnyH_take (i := 12) (oi := { dst := some 11, op := Op.assign (Operand.tmp 29), type := 42, pos := "ref.go:104", after := #[{ on := 9, ground := Ground.data }, { on := 11, ground := Ground.chain }, { on := 0, ground := Ground.phase }, { on := 1, ground := Ground.phase }, { on := 2, ground := Ground.phase }, { on := 3, ground := Ground.phase }, { on := 4, ground := Ground.phase }, { on := 5, ground := Ground.phase }, { on := 6, ground := Ground.phase }, { on := 7, ground := Ground.phase }, { on := 8, ground := Ground.phase }, { on := 9, ground := Ground.phase }, { on := 10, ground := Ground.phase }, { on := 11, ground := Ground.phase }], guard := none }) (v := ?vv14) rfl (by kernel_rfl) (by kernel_rfl) (by kernel_rfl) (fun _ _ _ h => h) (Or.inl ⟨by rfl, ?hy14⟩) (HS.out _ KF) ?rest14
    case hy14 =>
      intro V hV
      obtain ⟨y0, y1, y2, y3, y4, y5, y6, y7, y8, y9, y10, y11, y12, y13, y14⟩ := hV
      go_simp
      all_goals rfl
    simp only [Act.put, List.setIfInBounds_toArray, List.set_cons_zero, List.set_cons_succ]
    refine wpAnyH_done (by kernel_rfl) ?_ _
    exact HH.out _ _ _ _ _ _ _ _ _ _ mb _ t a6 c6 a7 c7 z _ (Nat.le_trans HKD.out.size hz) (Nat.le_trans HKD.out.size hB9) HMb.out QS.out HKF.out

set_option maxRecDepth 100000 in
set_option maxHeartbeats 8000000 in
theorem refFold_any (w : World) (nm : ByteArray) (a : Option Addr) (c : Nat) (ns : List Nd) (hN : NodesAt w a ns) (hn : ns.length ≤ 1000000) (flow : ByteArray) (al : Option Addr) (cl : Nat) (l : List Ev) (hE : FlatAt w 4 (.slice al l.length cl) l.length (evF l)) (hl : l.length ≤ 1000000) :
    Calls Tryd.prog 21 #[.agg #[.string nm, .slice a ns.length c], .string flow, .slice al l.length cl] w (FoldPost w (foldP nm ns { zeroSt with id := flow } l)) := by
  have K3 : Kept (fun _ => False) w (((w.alloc (.cells #[.string nm, .slice a ns.length c] 24)).alloc (.cells #[.string ⟨#[]⟩, .string ⟨#[]⟩, .string ⟨#[]⟩, .string ⟨#[]⟩, .int .i64 0, .string ⟨#[]⟩, .slice none 0 0, .slice none 0 0, .int .i64 0] 33)).alloc (.cells #[.string ⟨#[]⟩, .string flow, .string ⟨#[]⟩, .string ⟨#[]⟩, .int .i64 0, .string ⟨#[]⟩, .slice none 0 0, .slice none 0 0, .int .i64 0] 33)) := ((Kept.alloc _ _ _).and (Kept.alloc _ _ _)).and (Kept.alloc _ _ _)
  have z1 : (w.alloc (.cells #[.string nm, .slice a ns.length c] 24)).heap.size = w.heap.size + 1 := World.size_alloc _ _
  have z2 : ((w.alloc (.cells #[.string nm, .slice a ns.length c] 24)).alloc (.cells #[.string ⟨#[]⟩, .string ⟨#[]⟩, .string ⟨#[]⟩, .string ⟨#[]⟩, .int .i64 0, .string ⟨#[]⟩, .slice none 0 0, .slice none 0 0, .int .i64 0] 33)).heap.size = w.heap.size + 2 := by rw [World.size_alloc, z1]
  have z3 : (((w.alloc (.cells #[.string nm, .slice a ns.length c] 24)).alloc (.cells #[.string ⟨#[]⟩, .string ⟨#[]⟩, .string ⟨#[]⟩, .string ⟨#[]⟩, .int .i64 0, .string ⟨#[]⟩, .slice none 0 0, .slice none 0 0, .int .i64 0] 33)).alloc (.cells #[.string ⟨#[]⟩, .string flow, .string ⟨#[]⟩, .string ⟨#[]⟩, .int .i64 0, .string ⟨#[]⟩, .slice none 0 0, .slice none 0 0, .int .i64 0] 33)).heap.size = w.heap.size + 3 := by rw [World.size_alloc, z2]
  have hd : (((w.alloc (.cells #[.string nm, .slice a ns.length c] 24)).alloc (.cells #[.string ⟨#[]⟩, .string ⟨#[]⟩, .string ⟨#[]⟩, .string ⟨#[]⟩, .int .i64 0, .string ⟨#[]⟩, .slice none 0 0, .slice none 0 0, .int .i64 0] 33)).alloc (.cells #[.string ⟨#[]⟩, .string flow, .string ⟨#[]⟩, .string ⟨#[]⟩, .int .i64 0, .string ⟨#[]⟩, .slice none 0 0, .slice none 0 0, .int .i64 0] 33)).heap[w.heap.size]? = some (.cells #[.string nm, .slice a ns.length c] 24 (0, 0)) := (((Kept.alloc (fun _ => False) (w.alloc (.cells #[.string nm, .slice a ns.length c] 24)) (.cells #[.string ⟨#[]⟩, .string ⟨#[]⟩, .string ⟨#[]⟩, .string ⟨#[]⟩, .int .i64 0, .string ⟨#[]⟩, .slice none 0 0, .slice none 0 0, .int .i64 0] 33)).and (Kept.alloc _ _ (.cells #[.string ⟨#[]⟩, .string flow, .string ⟨#[]⟩, .string ⟨#[]⟩, .int .i64 0, .string ⟨#[]⟩, .slice none 0 0, .slice none 0 0, .int .i64 0] 33))).block w.heap.size (by omega) (fun h => h)).trans (heap_alloc_new _ _)
  have hr : (((w.alloc (.cells #[.string nm, .slice a ns.length c] 24)).alloc (.cells #[.string ⟨#[]⟩, .string ⟨#[]⟩, .string ⟨#[]⟩, .string ⟨#[]⟩, .int .i64 0, .string ⟨#[]⟩, .slice none 0 0, .slice none 0 0, .int .i64 0] 33)).alloc (.cells #[.string ⟨#[]⟩, .string flow, .string ⟨#[]⟩, .string ⟨#[]⟩, .int .i64 0, .string ⟨#[]⟩, .slice none 0 0, .slice none 0 0, .int .i64 0] 33)).heap[w.heap.size + 1]? = some (.cells #[.string ⟨#[]⟩, .string ⟨#[]⟩, .string ⟨#[]⟩, .string ⟨#[]⟩, .int .i64 0, .string ⟨#[]⟩, .slice none 0 0, .slice none 0 0, .int .i64 0] 33 (0, 0)) := by
    have h := heap_alloc_new (w.alloc (.cells #[.string nm, .slice a ns.length c] 24)) (.cells #[.string ⟨#[]⟩, .string ⟨#[]⟩, .string ⟨#[]⟩, .string ⟨#[]⟩, .int .i64 0, .string ⟨#[]⟩, .slice none 0 0, .slice none 0 0, .int .i64 0] 33)
    rw [z1] at h
    exact ((Kept.alloc (fun _ => False) ((w.alloc (.cells #[.string nm, .slice a ns.length c] 24)).alloc (.cells #[.string ⟨#[]⟩, .string ⟨#[]⟩, .string ⟨#[]⟩, .string ⟨#[]⟩, .int .i64 0, .string ⟨#[]⟩, .slice none 0 0, .slice none 0 0, .int .i64 0] 33)) (.cells #[.string ⟨#[]⟩, .string flow, .string ⟨#[]⟩, .string ⟨#[]⟩, .int .i64 0, .string ⟨#[]⟩, .slice none 0 0, .slice none 0 0, .int .i64 0] 33)).block _ (by omega) (fun h => h)).trans h
  have hs : (((w.alloc (.cells #[.string nm, .slice a ns.length c] 24)).alloc (.cells #[.string ⟨#[]⟩, .string ⟨#[]⟩, .string ⟨#[]⟩, .string ⟨#[]⟩, .int .i64 0, .string ⟨#[]⟩, .slice none 0 0, .slice none 0 0, .int .i64 0] 33)).alloc (.cells #[.string ⟨#[]⟩, .string flow, .string ⟨#[]⟩, .string ⟨#[]⟩, .int .i64 0, .string ⟨#[]⟩, .slice none 0 0, .slice none 0 0, .int .i64 0] 33)).heap[w.heap.size + 2]? = some (.cells (stA { zeroSt with id := flow } (.slice none 0 0) (.slice none 0 0)) 33 (0, 0)) := by
    have h := heap_alloc_new ((w.alloc (.cells #[.string nm, .slice a ns.length c] 24)).alloc (.cells #[.string ⟨#[]⟩, .string ⟨#[]⟩, .string ⟨#[]⟩, .string ⟨#[]⟩, .int .i64 0, .string ⟨#[]⟩, .slice none 0 0, .slice none 0 0, .int .i64 0] 33)) (.cells #[.string ⟨#[]⟩, .string flow, .string ⟨#[]⟩, .string ⟨#[]⟩, .int .i64 0, .string ⟨#[]⟩, .slice none 0 0, .slice none 0 0, .int .i64 0] 33)
    rw [z2] at h
    exact h
  have S0 : StIn (((w.alloc (.cells #[.string nm, .slice a ns.length c] 24)).alloc (.cells #[.string ⟨#[]⟩, .string ⟨#[]⟩, .string ⟨#[]⟩, .string ⟨#[]⟩, .int .i64 0, .string ⟨#[]⟩, .slice none 0 0, .slice none 0 0, .int .i64 0] 33)).alloc (.cells #[.string ⟨#[]⟩, .string flow, .string ⟨#[]⟩, .string ⟨#[]⟩, .int .i64 0, .string ⟨#[]⟩, .slice none 0 0, .slice none 0 0, .int .i64 0] 33)) (fun g => w.heap.size + 2 ≤ g ∧ g < w.heap.size + 3) (w.heap.size + 2) 0 33 [] [] { zeroSt with id := flow } (.slice none 0 0) (.slice none 0 0) :=
    ⟨hs, rfl, World.ownsRow_nil _ _ _ _, World.ownsRow_nil _ _ _ _, ⟨Nat.le_refl _, by omega⟩, fun g h => (by cases h), fun g h => (by cases h), fun g h => by rw [z3]; exact h.2⟩
  obtain ⟨r, hr0⟩ : ∃ r, r = foldP nm ns { zeroSt with id := flow } l := ⟨_, rfl⟩
  rw [← hr0]
  have HR0 := hid hr0
  have HN := hid hN
  have HE := hid hE
  have HK3 := hid K3
  have HD := hid hd
  have HZ := hid hr
  have HS0 := hid S0
  have Hz3 := hid z3
  clear K3 z1 z2 z3 hd hr hs S0 hN hE hr0
  go_enter Tryd.func21, Tryd.ntmps21
  go_wp2_with fail
  go_loopw [9] (fun i wr => ∃ (k : Nat) (t : St) (F' : Nat → Prop) (u6 u7 : Value), k ≤ l.length ∧ i = .int .i64 k ∧ StIn wr F' (w.heap.size + 2) 0 33 [] [] t u6 u7 ∧ (∀ g, F' g → w.heap.size + 2 ≤ g) ∧ r = foldP nm ns t (l.drop k) ∧ t.events = (k : Int) ∧ t.sigs.length ≤ k ∧ t.nodes.length ≤ 1000000 ∧ Bare t ∧ Kept (fun g => w.heap.size + 2 ≤ g) (((w.alloc (.cells #[.string nm, .slice a ns.length c] 24)).alloc (.cells #[.string ⟨#[]⟩, .string ⟨#[]⟩, .string ⟨#[]⟩, .string ⟨#[]⟩, .int .i64 0, .string ⟨#[]⟩, .slice none 0 0, .slice none 0 0, .int .i64 0] 33)).alloc (.cells #[.string ⟨#[]⟩, .string flow, .string ⟨#[]⟩, .string ⟨#[]⟩, .int .i64 0, .string ⟨#[]⟩, .slice none 0 0, .slice none 0 0, .int .i64 0] 33)) wr) (fun i _ => l.length - (intOf i).toNat)
  case atStart => exact ⟨0, { zeroSt with id := flow }, _, _, _, Nat.zero_le _, rfl, HS0.out, fun g h => h.1, HR0.out, rfl, Nat.zero_le _, Nat.zero_le _, fun y hy => (by cases hy), Kept.refl _ _⟩
  case round =>
    clear HS0
    obtain ⟨k, t, F', u6, u7, hk, rfl, S, hF, hr, hev, hsg, hnd, hbr, K⟩ := hrel
    have hdb := (K.block _ (Array.getElem?_eq_some_iff.1 HD.out).1 (by omega)).trans HD.out
    have hzb := (K.block _ (Array.getElem?_eq_some_iff.1 HZ.out).1 (by omega)).trans HZ.out
    have KW : Kept (fun _ => False) w wr := HK3.out.trans K (fun g h => .inr (by omega))
    obtain ⟨y0, y1⟩ := twoB hdb
    have hzw := K.size
    rw [Hz3.out] at hzw
    by_cases hlt : k < l.length
    · have e0 : (k : Int) < (l.length : Int) := by omega
      obtain ⟨hlc, b, o, rfl, x0, x1, x2, x3⟩ := flat_ev (HE.out.new KW) hlt
      obtain ⟨ta6, tc6, rfl⟩ := ownsRow_shape S.nodes
      obtain ⟨ta7, tc7, rfl⟩ := ownsRow_shape S.sigs
      have hx9 := S.blk
      change wr.heap[w.heap.size + 2]? = some (.cells #[.string t.dfn, .string t.id, .string t.par, .string t.pnode, .int .i64 t.status, .string t.text, .slice ta6 t.nodes.length tc6, .slice ta7 t.sigs.length tc7, .int .i64 t.events] 33 (0, 0)) at hx9
      obtain ⟨⟨l0, l1, l2, l3, l4, l5, l6, l7, l8⟩, _⟩ := nine hx9
      have hAp := fun V (KV : Kept (fun _ => False) wr.drew V) => Calls.mono (refApply_any V nm a c ns (keptNew (KW.and ((Kept.drew _ _).and KV)) HN.out) hn t _ _ ((S.rd hnd (by omega)).new ((Kept.drew _ _).and KV)) (by omega) (by omega) l[k]) (fun e w' h => ApPost.open h)
      have hdr : l.drop k = l[k] :: l.drop (k + 1) := List.drop_eq_getElem_cons hlt
      rw [hdr] at hr
      have has := apply_same (nm := nm) (ns := ns) hbr l[k]
      have HS := hid S
      have HF := hid hF
      have HK := hid K
      have HKW := hid KW
      have Hzb := hid hzb
      have Hbr := hid hbr
      have Hev := hid hev
      have Hx9 := hid hx9
      clear S hF K KW hdr hdb hzb hbr hev hx9
      go_upto_region 5 with fail
      refine wp_onlyN (fo5 (n := l.length) (i := k) (Q := ApQ (applyR nm ns t l[k])) _ y0 y1 l0 l1 l2 l3 l4 l5 l6 l7 l8 x0 x1 x2 x3 hlt hAp ApQ.keep ?_)
      intro _ _ _ _ _ _ _ _ _ _ mb B t' a6 c6 a7 c7 z w2 hmb hB hbx hQ K2
      rw [has] at hQ
      cases hp : changeP nm ns t l[k] with
      | none =>
        rw [hp] at hQ
        have hz : z = 12 := hQ
        subst hz
        unfold foldP at hr
        rw [hp] at hr
        have HRn := hid hr
        have hz9 := (K2.block _ (Array.getElem?_eq_some_iff.1 Hzb.out).1 (fun h => h)).trans Hzb.out
        have E1 := put9 hz9 (.string ⟨#[]⟩) (.string ⟨#[]⟩) (.string ⟨#[]⟩) (.string ⟨#[]⟩) (.int .i64 0) (.string ⟨#[]⟩) (.slice none 0 0) (.slice none 0 0) (.int .i64 0)
        have KK := kept9 (S := fun j => j = w.heap.size + 1) w2 rfl (.string ⟨#[]⟩) (.string ⟨#[]⟩) (.string ⟨#[]⟩) (.string ⟨#[]⟩) (.int .i64 0) (.string ⟨#[]⟩) (.slice none 0 0) (.slice none 0 0) (.int .i64 0)
        obtain ⟨⟨k0, k1, k2, k3, k4, k5, k6, k7, k8⟩, _⟩ := nine E1
        obtain ⟨⟨p0, p1, p2, p3, p4, p5, p6, p7, p8⟩, q0, q1, q2, q3, q4, q5, q6, q7, q8⟩ := nine hz9
        have HKK := hid ((HKW.out.and K2).trans KK (fun i hi => .inr (by have hi : i = _ := hi; omega)))
        clear hp hr hQ E1 KK hz9 K2 y0 y1 x0 x1 x2 x3 l0 l1 l2 l3 l4 l5 l6 l7 l8 hbx has hAp
        go_wp2_with fail
        refine bodyPost_ret (v := .tuple #[.agg #[.string ⟨#[]⟩, .string ⟨#[]⟩, .string ⟨#[]⟩, .string ⟨#[]⟩, .int .i64 0, .string ⟨#[]⟩, .slice none 0 0, .slice none 0 0, .int .i64 0], .int .i64 12]) (by simp [results, Tryd.results21, go_sem, k0, k1, k2, k3, k4, k5, k6, k7, k8]; try rfl) rfl ?_
        show FoldPost _ _ _ _
        rw [HRn.out]
        exact ⟨_, _, rfl, ⟨World.ownsRow_nil _ _ _ _, World.ownsRow_nil _ _ _ _⟩, HKK.out⟩
      | some t2 =>
        rw [hp] at hQ
        obtain ⟨hz, ht, O⟩ := hQ
        subst hz
        subst ht
        unfold foldP at hr
        rw [hp] at hr
        have HRn := hid hr
        obtain ⟨f1, f2, f3, -, -⟩ := changeP_fit hp hn hnd
        have Hf1 := hid f1
        have Hf2 := hid f2
        have Hf3 := hid f3
        clear f1 f2 f3
        have hb2 := changeP_bare Hbr.out hp
        have hx2 := (K2.block _ (Array.getElem?_eq_some_iff.1 Hx9.out).1 (fun h => h)).trans Hx9.out
        have hsz : w.heap.size + 2 < wr.heap.size := (Array.getElem?_eq_some_iff.1 Hx9.out).1
        obtain ⟨⟨p0, p1, p2, p3, p4, p5, p6, p7, p8⟩, q0, q1, q2, q3, q4, q5, q6, q7, q8⟩ := nine hx2
        obtain ⟨⟨m0, m1, m2, m3, m4, m5, m6, m7, m8⟩, _⟩ := nine hbx
        have hmne : mb ≠ w.heap.size + 2 := by omega
        have E1 := put9 hx2 (.string t'.dfn) (.string t'.id) (.string t'.par) (.string t'.pnode) (.int .i64 t'.status) (.string t'.text) ((.slice a6 t'.nodes.length c6)) ((.slice a7 t'.sigs.length c7)) (.int .i64 t'.events)
        have KK := kept9 (S := fun j => j = w.heap.size + 2) w2 rfl (.string t'.dfn) (.string t'.id) (.string t'.par) (.string t'.pnode) (.int .i64 t'.status) (.string t'.text) ((.slice a6 t'.nodes.length c6)) ((.slice a7 t'.sigs.length c7)) (.int .i64 t'.events)
        have o6 := ownsRow_keep O.nodes (fun g hg => KK.block g (ownsRow_blk O.nodes hg) (fun h => by have := (O.nodes.lt g hg).1; have h : g = _ := h; omega))
        have o7 := ownsRow_keep O.sigs (fun g hg => KK.block g (ownsRow_blk O.sigs hg) (fun h => by have := (O.sigs.lt g hg).1; have h : g = _ := h; omega))
        have hzz : (((((((((w2.setCell ⟨w.heap.size + 2, 0, none⟩ (.string t'.dfn)).setCell ⟨w.heap.size + 2, 1, none⟩ (.string t'.id)).setCell ⟨w.heap.size + 2, 2, none⟩ (.string t'.par)).setCell ⟨w.heap.size + 2, 3, none⟩ (.string t'.pnode)).setCell ⟨w.heap.size + 2, 4, none⟩ (.int .i64 t'.status)).setCell ⟨w.heap.size + 2, 5, none⟩ (.string t'.text)).setCell ⟨w.heap.size + 2, 6, none⟩ ((.slice a6 t'.nodes.length c6))).setCell ⟨w.heap.size + 2, 7, none⟩ ((.slice a7 t'.sigs.length c7))).setCell ⟨w.heap.size + 2, 8, none⟩ (.int .i64 t'.events)).heap.size = w2.heap.size := by simp [World.setCell]
        have S2 : StIn (((((((((w2.setCell ⟨w.heap.size + 2, 0, none⟩ (.string t'.dfn)).setCell ⟨w.heap.size + 2, 1, none⟩ (.string t'.id)).setCell ⟨w.heap.size + 2, 2, none⟩ (.string t'.par)).setCell ⟨w.heap.size + 2, 3, none⟩ (.string t'.pnode)).setCell ⟨w.heap.size + 2, 4, none⟩ (.int .i64 t'.status)).setCell ⟨w.heap.size + 2, 5, none⟩ (.string t'.text)).setCell ⟨w.heap.size + 2, 6, none⟩ ((.slice a6 t'.nodes.length c6))).setCell ⟨w.heap.size + 2, 7, none⟩ ((.slice a7 t'.sigs.length c7))).setCell ⟨w.heap.size + 2, 8, none⟩ (.int .i64 t'.events)) (fun g => g = w.heap.size + 2 ∨ (B ≤ g ∧ g < w2.heap.size)) (w.heap.size + 2) 0 33 [] [] t' (.slice a6 t'.nodes.length c6) (.slice a7 t'.sigs.length c7) :=
          ⟨E1, rfl, ownsRow_low o6 (Nat.zero_le _), ownsRow_low o7 (Nat.zero_le _), .inl rfl, fun g hg => ⟨.inr ⟨(O.nodes.lt g hg).1, (O.nodes.lt g hg).2⟩, by have := (O.nodes.lt g hg).1; omega⟩, fun g hg => ⟨.inr ⟨(O.sigs.lt g hg).1, (O.sigs.lt g hg).2⟩, by have := (O.sigs.lt g hg).1; omega⟩, fun g h => by
            rw [hzz]
            have := K2.size
            rcases h with h | h
            · omega
            · exact h.2⟩
        have HS2 := hid S2
        have HKn := hid ((HK.out.and (K2.mono (fun _ h => h.elim))).and (KK.mono (fun g h => (by have h : g = _ := h; omega : w.heap.size + 2 ≤ g))))
        clear hp hr E1 KK K2 hx2 S2 O o6 o7 hzz y0 y1 x0 x1 x2 x3 l0 l1 l2 l3 l4 l5 l6 l7 l8 hbx has hAp
        go_wp2_with fail
        go_roundw
        case rel => exact ⟨k + 1, t', _, _, _, by omega, by go_num, HS2.out, fun g h => (by
          rcases h with h | h
          · omega
          · have := h.1; omega), HRn.out, by have := Hev.out; have := Hf2.out; have := Hf3.out; omega, by have := Hf2.out; have := Hf3.out; omega, Hf1.out, hb2, HKn.out⟩
        case measure => simp [intOf]; omega
    · obtain rfl : k = l.length := by omega
      have e0 : ¬ ((l.length : Int) < (l.length : Int)) := by omega
      rw [List.drop_length] at hr
      have HRn := hid (show r = some t from hr)
      obtain ⟨ta6, tc6, rfl⟩ := ownsRow_shape S.nodes
      obtain ⟨ta7, tc7, rfl⟩ := ownsRow_shape S.sigs
      have hx9 := S.blk
      change wr.heap[w.heap.size + 2]? = some (.cells #[.string t.dfn, .string t.id, .string t.par, .string t.pnode, .int .i64 t.status, .string t.text, .slice ta6 t.nodes.length tc6, .slice ta7 t.sigs.length tc7, .int .i64 t.events] 33 (0, 0)) at hx9
      have E1 := put9 hzb (.string t.dfn) (.string t.id) (.string t.par) (.string t.pnode) (.int .i64 t.status) (.string t.text) (.slice ta6 t.nodes.length tc6) (.slice ta7 t.sigs.length tc7) (.int .i64 t.events)
      have KK := kept9 (S := fun j => j = w.heap.size + 1) wr rfl (.string t.dfn) (.string t.id) (.string t.par) (.string t.pnode) (.int .i64 t.status) (.string t.text) (.slice ta6 t.nodes.length tc6) (.slice ta7 t.sigs.length tc7) (.int .i64 t.events)
      obtain ⟨⟨k0, k1, k2, k3, k4, k5, k6, k7, k8⟩, _⟩ := nine E1
      obtain ⟨⟨p0, p1, p2, p3, p4, p5, p6, p7, p8⟩, q0, q1, q2, q3, q4, q5, q6, q7, q8⟩ := nine hzb
      obtain ⟨⟨l0, l1, l2, l3, l4, l5, l6, l7, l8⟩, _⟩ := nine hx9
      have HG6 := hid (fun g hg => hF g (S.in6 g hg).1)
      have HG7 := hid (fun g hg => hF g (S.in7 g hg).1)
      have HKf := hid KK
      have HKK := hid (KW.trans KK (fun i hi => .inr (by have hi : i = _ := hi; omega)))
      have HO : Hid (StOwn wr w.heap.size t (.slice ta6 t.nodes.length tc6) (.slice ta7 t.sigs.length tc7)) := ⟨ownsRow_high S.nodes (fun g hg => by have := HG6.out g hg; omega), ownsRow_high S.sigs (fun g hg => by have := HG7.out g hg; omega)⟩
      clear E1 KK hzb hx9 S hF K KW hr hdb y0 y1 hev
      go_wp2_with fail
      refine bodyPost_ret (v := .tuple #[.agg #[.string t.dfn, .string t.id, .string t.par, .string t.pnode, .int .i64 t.status, .string t.text, .slice ta6 t.nodes.length tc6, .slice ta7 t.sigs.length tc7, .int .i64 t.events], .int .i64 0]) (by simp [results, Tryd.results21, go_sem, k0, k1, k2, k3, k4, k5, k6, k7, k8]; try rfl) rfl ?_
      show FoldPost _ _ _ _
      rw [HRn.out]
      refine ⟨.slice ta6 t.nodes.length tc6, .slice ta7 t.sigs.length tc7, rfl, ⟨?_, ?_⟩, HKK.out⟩
      · exact ownsRow_keep HO.out.nodes (fun g hg => HKf.out.block g (ownsRow_blk HO.out.nodes hg) (fun h => by have := HG6.out g hg; have h : g = _ := h; omega))
      · exact ownsRow_keep HO.out.sigs (fun g hg => HKf.out.block g (ownsRow_blk HO.out.sigs hg) (fun h => by have := HG7.out g hg; have h : g = _ := h; omega))

end Go.Proofs.YtfjekjbkifmpfaaDoor.Rf

/-
  HistoryApply: its regions that draw their order.
-/
namespace Go.Proofs.YtfjekjbkifmpfaaDoor.Rf
open Go.RowKit

/-- What the program's Apply answers, in parts. -/
def HApQ (x : Option St) (s : St) (B : Nat) (V : World) (t : St) (p6 p7 : Value) (z : Int) : Prop := t = x.getD s ∧ z = (if x.isSome then 0 else 12) ∧ StOwn V B t p6 p7

theorem HApQ.keep {x : Option St} {s : St} (B : Nat) (w1 w2 : World) (t : St) (p6 p7 : Value) (z : Int) (mb : Nat) (h : HApQ x s B w1 t p6 p7 z) (hm : mb < B ∨ w1.heap.size ≤ mb) (K : Kept (fun j => j = mb) w1 w2) : HApQ x s B w2 t p6 p7 z := ⟨h.1, h.2.1, stOwn_keep h.2.2 hm K⟩

theorem HApPost.open {w : World} {s : St} {x : Option St} {e : Ending} {w' : World} (h : HApPost w s x e w') :
    ∃ (t : St) (b6 : Option Addr) (d6 : Nat) (b7 : Option Addr) (d7 : Nat) (z : Int), e = .returned (.tuple #[.agg #[.string t.dfn, .string t.id, .string t.par, .string t.pnode, .int .i64 t.status, .string t.text, .slice b6 t.nodes.length d6, .slice b7 t.sigs.length d7, .int .i64 t.events], .int .i64 z]) ∧ HApQ x s w.heap.size w' t (.slice b6 t.nodes.length d6) (.slice b7 t.sigs.length d7) z ∧ Kept (fun _ => False) w w' := by
  obtain ⟨u6, u7, he, O, K⟩ := h
  obtain ⟨b6, d6, rfl⟩ := ownsRow_shape O.nodes
  obtain ⟨b7, d7, rfl⟩ := ownsRow_shape O.sigs
  exact ⟨_, b6, d6, b7, d7, _, he, ⟨rfl, rfl, O⟩, K⟩

/-- What the document's Apply answers, in parts: refused, it hands back what it was handed. -/
def RApQ (x : Option St) (s : St) (v6 v7 : Value) (B : Nat) (V : World) (t : St) (p6 p7 : Value) (z : Int) : Prop := match x with
  | none => z = 12 ∧ t = s ∧ p6 = v6 ∧ p7 = v7
  | some t' => z = 0 ∧ t = t' ∧ StOwn V B t p6 p7

theorem RApQ.keep {x : Option St} {s : St} {v6 v7 : Value} (B : Nat) (w1 w2 : World) (t : St) (p6 p7 : Value) (z : Int) (mb : Nat) (h : RApQ x s v6 v7 B w1 t p6 p7 z) (hm : mb < B ∨ w1.heap.size ≤ mb) (K : Kept (fun j => j = mb) w1 w2) : RApQ x s v6 v7 B w2 t p6 p7 z := by
  cases x with
  | none => exact h
  | some t' => exact ⟨h.1, h.2.1, stOwn_keep h.2.2 hm K⟩

theorem ApPost.opens {w : World} {s : St} {a6 a7 : Option Addr} {c6 c7 : Nat} {x : Option St} {e : Ending} {w' : World} (h : ApPost w s (.slice a6 s.nodes.length c6) (.slice a7 s.sigs.length c7) x e w') :
    ∃ (t : St) (b6 : Option Addr) (d6 : Nat) (b7 : Option Addr) (d7 : Nat) (z : Int), e = .returned (.tuple #[.agg #[.string t.dfn, .string t.id, .string t.par, .string t.pnode, .int .i64 t.status, .string t.text, .slice b6 t.nodes.length d6, .slice b7 t.sigs.length d7, .int .i64 t.events], .int .i64 z]) ∧ RApQ x s (.slice a6 s.nodes.length c6) (.slice a7 s.sigs.length c7) w.heap.size w' t (.slice b6 t.nodes.length d6) (.slice b7 t.sigs.length d7) z ∧ Kept (fun _ => False) w w' := by
  cases x with
  | none => exact ⟨s, a6, c6, a7, c7, 12, h.1, ⟨rfl, rfl, rfl, rfl⟩, h.2⟩
  | some t =>
    obtain ⟨u6, u7, he, O, K⟩ := h
    obtain ⟨b6, d6, rfl⟩ := ownsRow_shape O.nodes
    obtain ⟨b7, d7, rfl⟩ := ownsRow_shape O.sigs
    exact ⟨t, b6, d6, b7, d7, 0, he, ⟨rfl, rfl, O⟩, K⟩

set_option maxRecDepth 100000 in
set_option maxHeartbeats 8000000 in
theorem ap14 {W : World} {db sb b o n cn i : Nat} {d0 d1 q0 q1 q2 q3 q4 q5 q6 q7 q8 g0 g1 g2 g3 : Value} {Q : Nat → World → St → Value → Value → Int → Prop} {ds : List Deferred} {u0 u1 u4 u5 u6 u7 u8 u11 u12 u13 u14 u15 u16 u17 u18 u19 u20 u21 u22 u23 u24 u25 u26 u27 u28 u29 u30 u31 u32 u33 u34 u35 u36 u37 u38 u39 u40 u41 u42 u43 u44 u45 u46 u47 u48 u49 u50 u51 u52 u53 u54 u55 u56 u57 u58 u59 u60 u61 u62 u63 u64 u65 u66 u67 u68 u69 u70 u71 u72 u73 u74 u75 u76 u77 u78 u79 u80 u81 u82 u83 u84 u85 u86 u87 u88 u89 u90 u91 u92 u93 u94 u95 u96 u97 u98 u99 u100 u101 u102 u103 u104 u105 u106 u107 u108 u109 u110 u111 u112 u113 u114 u115 u116 u117 u118 u119 u120 u121 u122 u123 u124 u125 u126 u127 u128 u129 : Value} (K : Act → World → Prop)
    (x0 : W.cell? ⟨db, 0, none⟩ = some (d0)) (x1 : W.cell? ⟨db, 1, none⟩ = some (d1)) (x2 : W.cell? ⟨sb, 0, none⟩ = some (q0)) (x3 : W.cell? ⟨sb, 1, none⟩ = some (q1)) (x4 : W.cell? ⟨sb, 2, none⟩ = some (q2)) (x5 : W.cell? ⟨sb, 3, none⟩ = some (q3)) (x6 : W.cell? ⟨sb, 4, none⟩ = some (q4)) (x7 : W.cell? ⟨sb, 5, none⟩ = some (q5)) (x8 : W.cell? ⟨sb, 6, none⟩ = some (q6)) (x9 : W.cell? ⟨sb, 7, none⟩ = some (q7)) (x10 : W.cell? ⟨sb, 8, none⟩ = some (q8)) (x11 : W.cell? ⟨b, o + i * 4, none⟩ = some (g0)) (x12 : W.cell? ⟨b, o + i * 4 + 1, none⟩ = some (g1)) (x13 : W.cell? ⟨b, o + i * 4 + 2, none⟩ = some (g2)) (x14 : W.cell? ⟨b, o + i * 4 + 3, none⟩ = some (g3))
    (hi : i < n)
    (hC : ∀ V, Kept (fun _ => False) W.drew V → Calls Tryd.prog 17 #[.agg #[d0, d1], .agg #[q0, q1, q2, q3, q4, q5, q6, q7, q8], .agg #[g0, g1, g2, g3]] V fun e w' => ∃ (t : St) (a6 : Option Addr) (c6 : Nat) (a7 : Option Addr) (c7 : Nat) (z : Int), e = .returned (.tuple #[.agg #[.string t.dfn, .string t.id, .string t.par, .string t.pnode, .int .i64 t.status, .string t.text, .slice a6 t.nodes.length c6, .slice a7 t.sigs.length c7, .int .i64 t.events], .int .i64 z]) ∧ Q V.heap.size w' t (.slice a6 t.nodes.length c6) (.slice a7 t.sigs.length c7) z ∧ Kept (fun _ => False) V w')
    (hQ : ∀ B w1 w2 t p6 p7 z mb, Q B w1 t p6 p7 z → mb < B ∨ w1.heap.size ≤ mb → Kept (fun j => j = mb) w1 w2 → Q B w2 t p6 p7 z)
    (h : ∀ (v60 v61 v62 v63 v64 v65 v66 v67 v68 v69 : Value) (mb B : Nat) (t : St) (a6 : Option Addr) (c6 : Nat) (a7 : Option Addr) (c7 : Nat) (z : Int) (W' : World), W.heap.size ≤ mb → W.heap.size ≤ B → W'.heap[mb]? = some (.cells #[.string t.dfn, .string t.id, .string t.par, .string t.pnode, .int .i64 t.status, .string t.text, .slice a6 t.nodes.length c6, .slice a7 t.sigs.length c7, .int .i64 t.events] 33 (0, 0)) → Q B W' t (.slice a6 t.nodes.length c6) (.slice a7 t.sigs.length c7) z → Kept (fun _ => False) W W' → K { tmps := #[u0, u1, .slice (some ⟨b, o, none⟩) n cn, .pointer (some ⟨db, 0, none⟩), u4, u5, u6, u7, u8, .pointer (some ⟨sb, 0, none⟩), .int .i64 (i : Nat), .pointer (some ⟨mb, 0, none⟩), .int .i64 z, u13, u14, u15, u16, u17, u18, u19, u20, u21, u22, u23, u24, u25, u26, u27, u28, u29, u30, u31, u32, u33, u34, u35, u36, u37, u38, u39, u40, u41, u42, u43, u44, u45, u46, u47, u48, u49, u50, u51, u52, u53, u54, u55, u56, u57, u58, u59, v60, v61, v62, v63, v64, v65, v66, v67, v68, v69, u70, u71, u72, u73, u74, u75, u76, u77, u78, u79, u80, u81, u82, u83, u84, u85, u86, u87, u88, u89, u90, u91, u92, u93, u94, u95, u96, u97, u98, u99, u100, u101, u102, u103, u104, u105, u106, u107, u108, u109, u110, u111, u112, u113, u114, u115, u116, u117, u118, u119, u120, u121, u122, u123, u124, u125, u126, u127, u128, u129], defers := ds } W') :
    (Code.region 14 #[{ dst := some 61, op := Op.load 24 (Operand.tmp 3), type := 24, pos := "law.go:142", after := #[], guard := none }, { dst := some 62, op := Op.load 33 (Operand.tmp 9), type := 33, pos := "law.go:142", after := #[], guard := none }, { dst := some 63, op := Op.move (Operand.tmp 2), type := 34, pos := "law.go:142", after := #[], guard := none }, { dst := some 64, op := Op.move (Operand.tmp 10), type := 3, pos := "law.go:142", after := #[], guard := none }, { dst := some 65, op := Op.indexAddr 34 (Operand.tmp 63) (Operand.tmp 64), type := 0, pos := "law.go:142", after := #[{ on := 2, ground := Ground.data }, { on := 3, ground := Ground.data }], guard := none }, { dst := some 66, op := Op.load 51 (Operand.tmp 65), type := 51, pos := "law.go:142", after := #[{ on := 4, ground := Ground.data }], guard := none }, { dst := some 67, op := Op.call { callee := Callee.value (Operand.func 17), args := #[Operand.tmp 61, Operand.tmp 62, Operand.tmp 66], argTypes := #[24, 33, 51] }, type := 43, pos := "law.go:142", after := #[{ on := 0, ground := Ground.data }, { on := 1, ground := Ground.data }, { on := 5, ground := Ground.data }], guard := none }, { dst := some 60, op := Op.move (Operand.tmp 67), type := 43, pos := "law.go:142", after := #[{ on := 6, ground := Ground.data }], guard := none }, { dst := some 68, op := Op.extract (Operand.tmp 60) 0, type := 33, pos := "law.go:142", after := #[{ on := 7, ground := Ground.data }], guard := none }, { dst := some 69, op := Op.extract (Operand.tmp 60) 1, type := 42, pos := "law.go:142", after := #[{ on := 7, ground := Ground.data }, { on := 11, ground := Ground.gcOnly Departure.lateStores }], guard := none }, { dst := some 11, op := Op.alloc 33, type := 0, pos := "law.go:142", after := #[], guard := none }, { dst := none, op := Op.store 33 (Operand.tmp 11) (Operand.tmp 68), type := 0, pos := "law.go:142", after := #[{ on := 10, ground := Ground.data }, { on := 8, ground := Ground.data }, { on := 6, ground := Ground.chain }, { on := 0, ground := Ground.phase }, { on := 1, ground := Ground.phase }, { on := 2, ground := Ground.phase }, { on := 3, ground := Ground.phase }, { on := 4, ground := Ground.phase }, { on := 5, ground := Ground.phase }, { on := 6, ground := Ground.phase }, { on := 7, ground := Ground.phase }, { on := 8, ground := Ground.phase }, { on := 9, ground := Ground.textOnly Departure.lateStores }, { on := 10, ground := Ground.phase }], guard := none }, { dst := some 12, op := Op.assign (Operand.tmp 69), type := 42, pos := "law.go:142", after := #[{ on := 9, ground := Ground.data }, { on := 11, ground := Ground.chain }, { on := 0, ground := Ground.phase }, { on := 1, ground := Ground.phase }, { on := 2, ground := Ground.phase }, { on := 3, ground := Ground.phase }, { on := 4, ground := Ground.phase }, { on := 5, ground := Ground.phase }, { on := 6, ground := Ground.phase }, { on := 7, ground := Ground.phase }, { on := 8, ground := Ground.phase }, { on := 9, ground := Ground.phase }, { on := 10, ground := Ground.phase }, { on := 11, ground := Ground.phase }], guard := none }] true).wp Tryd.prog (onlyN K) { tmps := #[u0, u1, .slice (some ⟨b, o, none⟩) n cn, .pointer (some ⟨db, 0, none⟩), u4, u5, u6, u7, u8, .pointer (some ⟨sb, 0, none⟩), .int .i64 (i : Nat), u11, u12, u13, u14, u15, u16, u17, u18, u19, u20, u21, u22, u23, u24, u25, u26, u27, u28, u29, u30, u31, u32, u33, u34, u35, u36, u37, u38, u39, u40, u41, u42, u43, u44, u45, u46, u47, u48, u49, u50, u51, u52, u53, u54, u55, u56, u57, u58, u59, u60, u61, u62, u63, u64, u65, u66, u67, u68, u69, u70, u71, u72, u73, u74, u75, u76, u77, u78, u79, u80, u81, u82, u83, u84, u85, u86, u87, u88, u89, u90, u91, u92, u93, u94, u95, u96, u97, u98, u99, u100, u101, u102, u103, u104, u105, u106, u107, u108, u109, u110, u111, u112, u113, u114, u115, u116, u117, u118, u119, u120, u121, u122, u123, u124, u125, u126, u127, u128, u129], defers := ds } W := by
  have e1 : (i : Int) < (n : Int) := by omega
  have HH : Hid _ := h
  have KD := Kept.drew (fun _ => False) W
  have HS : Hid (∀ V, Kept (fun _ => False) W.drew V → V.cell? ⟨db, 0, none⟩ = some (d0) ∧ V.cell? ⟨db, 1, none⟩ = some (d1) ∧ V.cell? ⟨sb, 0, none⟩ = some (q0) ∧ V.cell? ⟨sb, 1, none⟩ = some (q1) ∧ V.cell? ⟨sb, 2, none⟩ = some (q2) ∧ V.cell? ⟨sb, 3, none⟩ = some (q3) ∧ V.cell? ⟨sb, 4, none⟩ = some (q4) ∧ V.cell? ⟨sb, 5, none⟩ = some (q5) ∧ V.cell? ⟨sb, 6, none⟩ = some (q6) ∧ V.cell? ⟨sb, 7, none⟩ = some (q7) ∧ V.cell? ⟨sb, 8, none⟩ = some (q8) ∧ V.cell? ⟨b, o + i * 4, none⟩ = some (g0) ∧ V.cell? ⟨b, o + i * 4 + 1, none⟩ = some (g1) ∧ V.cell? ⟨b, o + i * 4 + 2, none⟩ = some (g2) ∧ V.cell? ⟨b, o + i * 4 + 3, none⟩ = some (g3)) := fun V KV => ⟨keepC (KD.and KV) x0 (fun _ _ h => h), keepC (KD.and KV) x1 (fun _ _ h => h), keepC (KD.and KV) x2 (fun _ _ h => h), keepC (KD.and KV) x3 (fun _ _ h => h), keepC (KD.and KV) x4 (fun _ _ h => h), keepC (KD.and KV) x5 (fun _ _ h => h), keepC (KD.and KV) x6 (fun _ _ h => h), keepC (KD.and KV) x7 (fun _ _ h => h), keepC (KD.and KV) x8 (fun _ _ h => h), keepC (KD.and KV) x9 (fun _ _ h => h), keepC (KD.and KV) x10 (fun _ _ h => h), keepC (KD.and KV) x11 (fun _ _ h => h), keepC (KD.and KV) x12 (fun _ _ h => h), keepC (KD.and KV) x13 (fun _ _ h => h), keepC (KD.and KV) x14 (fun _ _ h => h)⟩
  have HKD : Hid (Kept (fun _ => False) W W.drew) := KD
  have hS0 := HS.out W.drew (Kept.refl _ _)
  clear h KD x0 x1 x2 x3 x4 x5 x6 x7 x8 x9 x10 x11 x12 x13 x14
  refine wp_region_held_drew (S := fun V => V.cell? ⟨db, 0, none⟩ = some (d0) ∧ V.cell? ⟨db, 1, none⟩ = some (d1) ∧ V.cell? ⟨sb, 0, none⟩ = some (q0) ∧ V.cell? ⟨sb, 1, none⟩ = some (q1) ∧ V.cell? ⟨sb, 2, none⟩ = some (q2) ∧ V.cell? ⟨sb, 3, none⟩ = some (q3) ∧ V.cell? ⟨sb, 4, none⟩ = some (q4) ∧ V.cell? ⟨sb, 5, none⟩ = some (q5) ∧ V.cell? ⟨sb, 6, none⟩ = some (q6) ∧ V.cell? ⟨sb, 7, none⟩ = some (q7) ∧ V.cell? ⟨sb, 8, none⟩ = some (q8) ∧ V.cell? ⟨b, o + i * 4, none⟩ = some (g0) ∧ V.cell? ⟨b, o + i * 4 + 1, none⟩ = some (g1) ∧ V.cell? ⟨b, o + i * 4 + 2, none⟩ = some (g2) ∧ V.cell? ⟨b, o + i * 4 + 3, none⟩ = some (g3)) (by kernel_rfl) hS0 (fun _ => ?_)
  generalize W.drew = V0 at *
  refine wpAnyH_take (i := 0) (oi := { dst := some 61, op := Op.load 24 (Operand.tmp 3), type := 24, pos := "law.go:142", after := #[], guard := none }) (v := ?vv1) rfl (by kernel_rfl) (by kernel_rfl) (by kernel_rfl) (fun _ _ _ h => h) (Or.inl ⟨by rfl, ?hy1⟩) hS0 ?rest1
  case hy1 =>
    intro V hV
    obtain ⟨y0, y1, y2, y3, y4, y5, y6, y7, y8, y9, y10, y11, y12, y13, y14⟩ := hV
    go_simp
    all_goals rfl
  simp only [Act.put, List.setIfInBounds_toArray, List.set_cons_zero, List.set_cons_succ]
  refine wpAnyH_take (i := 1) (oi := { dst := some 62, op := Op.load 33 (Operand.tmp 9), type := 33, pos := "law.go:142", after := #[], guard := none }) (v := ?vv2) rfl (by kernel_rfl) (by kernel_rfl) (by kernel_rfl) (fun _ _ _ h => h) (Or.inl ⟨by rfl, ?hy2⟩) hS0 ?rest2
  case hy2 =>
    intro V hV
    obtain ⟨y0, y1, y2, y3, y4, y5, y6, y7, y8, y9, y10, y11, y12, y13, y14⟩ := hV
    go_simp
    all_goals rfl
  simp only [Act.put, List.setIfInBounds_toArray, List.set_cons_zero, List.set_cons_succ]
  refine wpAnyH_take (i := 2) (oi := { dst := some 63, op := Op.move (Operand.tmp 2), type := 34, pos := "law.go:142", after := #[], guard := none }) (v := ?vv3) rfl (by kernel_rfl) (by kernel_rfl) (by kernel_rfl) (fun _ _ _ h => h) (Or.inl ⟨by rfl, ?hy3⟩) hS0 ?rest3
  case hy3 =>
    intro V hV
    obtain ⟨y0, y1, y2, y3, y4, y5, y6, y7, y8, y9, y10, y11, y12, y13, y14⟩ := hV
    go_simp
    all_goals rfl
  simp only [Act.put, List.setIfInBounds_toArray, List.set_cons_zero, List.set_cons_succ]
  refine wpAnyH_take (i := 3) (oi := { dst := some 64, op := Op.move (Operand.tmp 10), type := 3, pos := "law.go:142", after := #[], guard := none }) (v := ?vv4) rfl (by kernel_rfl) (by kernel_rfl) (by kernel_rfl) (fun _ _ _ h => h) (Or.inl ⟨by rfl, ?hy4⟩) hS0 ?rest4
  case hy4 =>
    intro V hV
    obtain ⟨y0, y1, y2, y3, y4, y5, y6, y7, y8, y9, y10, y11, y12, y13, y14⟩ := hV
    go_simp
    all_goals rfl
  simp only [Act.put, List.setIfInBounds_toArray, List.set_cons_zero, List.set_cons_succ]
  refine wpAnyH_take (i := 4) (oi := { dst := some 65, op := Op.indexAddr 34 (Operand.tmp 63) (Operand.tmp 64), type := 0, pos := "law.go:142", after := #[{ on := 2, ground := Ground.data }, { on := 3, ground := Ground.data }], guard := none }) (v := ?vv5) rfl (by kernel_rfl) (by kernel_rfl) (by kernel_rfl) (fun _ _ _ h => h) (Or.inl ⟨by rfl, ?hy5⟩) hS0 ?rest5
  case hy5 =>
    intro V hV
    obtain ⟨y0, y1, y2, y3, y4, y5, y6, y7, y8, y9, y10, y11, y12, y13, y14⟩ := hV
    go_simp
    all_goals rfl
  simp only [Act.put, List.setIfInBounds_toArray, List.set_cons_zero, List.set_cons_succ]
  refine wpAnyH_take (i := 5) (oi := { dst := some 66, op := Op.load 51 (Operand.tmp 65), type := 51, pos := "law.go:142", after := #[{ on := 4, ground := Ground.data }], guard := none }) (v := ?vv6) rfl (by kernel_rfl) (by kernel_rfl) (by kernel_rfl) (fun _ _ _ h => h) (Or.inl ⟨by rfl, ?hy6⟩) hS0 ?rest6
  case hy6 =>
    intro V hV
    obtain ⟨y0, y1, y2, y3, y4, y5, y6, y7, y8, y9, y10, y11, y12, y13, y14⟩ := hV
    go_simp
    all_goals rfl
  simp only [Act.put, List.setIfInBounds_toArray, List.set_cons_zero, List.set_cons_succ]
  refine wpAnyH_ready (rs := [6, 10]) (by kernel_rfl) (by simp) (AllReadyH.cons (o := { dst := some 67, op := Op.call { callee := Callee.value (Operand.func 17), args := #[Operand.tmp 61, Operand.tmp 62, Operand.tmp 66], argTypes := #[24, 33, 51] }, type := 43, pos := "law.go:142", after := #[{ on := 0, ground := Ground.data }, { on := 1, ground := Ground.data }, { on := 5, ground := Ground.data }], guard := none }) rfl (fun K' hK => ?_) (AllReadyH.cons (o := { dst := some 11, op := Op.alloc 33, type := 0, pos := "law.go:142", after := #[], guard := none }) rfl (fun K' hK => ?_) AllReadyH.nil))
  · refine step_call3 _ (by rfl) 17 _ _ _ _ _ _ (by rfl) (enters_of Tryd.func17 (by kernel_rfl) rfl) _ _ _ (by rfl) (by rfl) (by rfl) (hC _ (Kept.refl (fun _ => False) V0)) ?_
    rintro e w9 ⟨t, a6, c6, a7, c7, z, rfl, Q9, K9⟩
    have L9 := ((Kept.refl (fun _ => False) V0)).and K9
    have hB9 : V0.heap.size ≤ V0.heap.size := ((Kept.refl (fun _ => False) V0)).size
    refine ⟨_, rfl, ?_⟩
    refine hK.out _ _ (HS.out _ L9) (fun _ => ?_)
    clear hK K'
    try (simp only [Act.put, List.setIfInBounds_toArray, List.set_cons_zero, List.set_cons_succ])
    refine wpAnyH_take (i := 7) (oi := { dst := some 60, op := Op.move (Operand.tmp 67), type := 43, pos := "law.go:142", after := #[{ on := 6, ground := Ground.data }], guard := none }) (v := ?vv7) rfl (by kernel_rfl) (by kernel_rfl) (by kernel_rfl) (fun _ _ _ h => h) (Or.inl ⟨by rfl, ?hy7⟩) (HS.out _ L9) ?rest7
    case hy7 =>
      intro V hV
      obtain ⟨y0, y1, y2, y3, y4, y5, y6, y7, y8, y9, y10, y11, y12, y13, y14⟩ := hV
      go_simp
      all_goals rfl
    simp only [Act.put, List.setIfInBounds_toArray, List.set_cons_zero, List.set_cons_succ]
    refine wpAnyH_take (i := 8) (oi := { dst := some 68, op := Op.extract (Operand.tmp 60) 0, type := 33, pos := "law.go:142", after := #[{ on := 7, ground := Ground.data }], guard := none }) (v := ?vv8) rfl (by kernel_rfl) (by kernel_rfl) (by kernel_rfl) (fun _ _ _ h => h) (Or.inl ⟨by rfl, ?hy8⟩) (HS.out _ L9) ?rest8
    case hy8 =>
      intro V hV
      obtain ⟨y0, y1, y2, y3, y4, y5, y6, y7, y8, y9, y10, y11, y12, y13, y14⟩ := hV
      go_simp
      all_goals rfl
    simp only [Act.put, List.setIfInBounds_toArray, List.set_cons_zero, List.set_cons_succ]
    refine wpAnyH_take (i := 9) (oi := { dst := some 69, op := Op.extract (Operand.tmp 60) 1, type := 42, pos := "law.go:142", after := #[{ on := 7, ground := Ground.data }, { on := 11, ground := Ground.gcOnly Departure.lateStores }], guard := none }) (v := ?vv9) rfl (by kernel_rfl) (by kernel_rfl) (by kernel_rfl) (fun _ _ _ h => h) (Or.inl ⟨by rfl, ?hy9⟩) (HS.out _ L9) ?rest9
    case hy9 =>
      intro V hV
      obtain ⟨y0, y1, y2, y3, y4, y5, y6, y7, y8, y9, y10, y11, y12, y13, y14⟩ := hV
      go_simp
      all_goals rfl
    simp only [Act.put, List.setIfInBounds_toArray, List.set_cons_zero, List.set_cons_succ]
    refine wpAnyH_ready (rs := [10]) (by kernel_rfl) (by simp) (AllReadyH.cons (o := { dst := some 11, op := Op.alloc 33, type := 0, pos := "law.go:142", after := #[], guard := none }) rfl (fun K' hK => ?_) AllReadyH.nil)
    have hmb : (w9.alloc (.cells #[.string ⟨#[]⟩, .string ⟨#[]⟩, .string ⟨#[]⟩, .string ⟨#[]⟩, .int .i64 0, .string ⟨#[]⟩, .slice none 0 0, .slice none 0 0, .int .i64 0] 33)).heap[w9.heap.size]? = some (.cells #[.string ⟨#[]⟩, .string ⟨#[]⟩, .string ⟨#[]⟩, .string ⟨#[]⟩, .int .i64 0, .string ⟨#[]⟩, .slice none 0 0, .slice none 0 0, .int .i64 0] 33 (0, 0)) := heap_alloc_new _ _
    have KA0 : Kept (fun _ => False) w9 (w9.alloc (.cells #[.string ⟨#[]⟩, .string ⟨#[]⟩, .string ⟨#[]⟩, .string ⟨#[]⟩, .int .i64 0, .string ⟨#[]⟩, .slice none 0 0, .slice none 0 0, .int .i64 0] 33)) := Kept.alloc _ _ _
    have KA := (L9).and KA0
    go_simp
    refine hK.out _ _ (HS.out _ KA) (fun _ => ?_)
    generalize w9.alloc (.cells #[.string ⟨#[]⟩, .string ⟨#[]⟩, .string ⟨#[]⟩, .string ⟨#[]⟩, .int .i64 0, .string ⟨#[]⟩, .slice none 0 0, .slice none 0 0, .int .i64 0] 33) = V6 at *
    obtain ⟨mb, hmbe⟩ : ∃ mb, mb = w9.heap.size := ⟨_, rfl⟩
    rw [← hmbe] at hmb ⊢
    have hz : V0.heap.size ≤ mb := by rw [hmbe]; exact (L9).size
    have hmC : mb < V0.heap.size ∨ w9.heap.size ≤ mb := .inr (Nat.le_of_eq hmbe.symm)
    have K90 : Kept (fun j => j = mb) w9 V6 := KA0.mono (fun _ h => h.elim)
    clear hmbe KA0
    clear hK K'
    try (simp only [Act.put, List.setIfInBounds_toArray, List.set_cons_zero, List.set_cons_succ])
    refine wpAnyH_ready (rs := [11]) (by kernel_rfl) (by simp) (AllReadyH.cons (o := { dst := none, op := Op.store 33 (Operand.tmp 11) (Operand.tmp 68), type := 0, pos := "law.go:142", after := #[{ on := 10, ground := Ground.data }, { on := 8, ground := Ground.data }, { on := 6, ground := Ground.chain }, { on := 0, ground := Ground.phase }, { on := 1, ground := Ground.phase }, { on := 2, ground := Ground.phase }, { on := 3, ground := Ground.phase }, { on := 4, ground := Ground.phase }, { on := 5, ground := Ground.phase }, { on := 6, ground := Ground.phase }, { on := 7, ground := Ground.phase }, { on := 8, ground := Ground.phase }, { on := 9, ground := Ground.textOnly Departure.lateStores }, { on := 10, ground := Ground.phase }], guard := none }) rfl (fun K' hK => ?_) AllReadyH.nil)
    obtain ⟨⟨p0, p1, p2, p3, p4, p5, p6, p7, p8⟩, f0, f1, f2, f3, f4, f5, f6, f7, f8⟩ := nine hmb
    have HMb := hid (put9 hmb (.string t.dfn) (.string t.id) (.string t.par) (.string t.pnode) (.int .i64 t.status) (.string t.text) (.slice a6 t.nodes.length c6) (.slice a7 t.sigs.length c7) (.int .i64 t.events))
    have KS := kept9 (S := fun j => j = mb) V6 rfl (.string t.dfn) (.string t.id) (.string t.par) (.string t.pnode) (.int .i64 t.status) (.string t.text) (.slice a6 t.nodes.length c6) (.slice a7 t.sigs.length c7) (.int .i64 t.events)
    have QS := hid (hQ _ _ _ _ _ _ _ _ Q9 hmC (K90.and KS))
    have KF := (KA).trans KS (fun j h => .inr (by subst h; exact hz))
    go_simp
    refine hK.out _ _ (HS.out _ KF) (fun _ => ?_)
    have HKF := hid (HKD.out.and KF)
    clear p0 p1 p2 p3 p4 p5 p6 p7 p8 f0 f1 f2 f3 f4 f5 f6 f7 f8 KS
    clear hK K'
    try (simp only [Act.put, List.setIfInBounds_toArray, List.set_cons_zero, List.set_cons_succ])
    refine wpAnyH_take (i := 12) (oi := { dst := some 12, op := Op.assign (Operand.tmp 69), type := 42, pos := "law.go:142", after := #[{ on := 9, ground := Ground.data }, { on := 11, ground := Ground.chain }, { on := 0, ground := Ground.phase }, { on := 1, ground := Ground.phase }, { on := 2, ground := Ground.phase }, { on := 3, ground := Ground.phase }, { on := 4, ground := Ground.phase }, { on := 5, ground := Ground.phase }, { on := 6, ground := Ground.phase }, { on := 7, ground := Ground.phase }, { on := 8, ground := Ground.phase }, { on := 9, ground := Ground.phase }, { on := 10, ground := Ground.phase }, { on := 11, ground := Ground.phase }], guard := none }) (v := ?vv10) rfl (by kernel_rfl) (by kernel_rfl) (by kernel_rfl) (fun _ _ _ h => h) (Or.inl ⟨by rfl, ?hy10⟩) (HS.out _ KF) ?rest10
    case hy10 =>
      intro V hV
      obtain ⟨y0, y1, y2, y3, y4, y5, y6, y7, y8, y9, y10, y11, y12, y13, y14⟩ := hV
      go_simp
      all_goals rfl
    simp only [Act.put, List.setIfInBounds_toArray, List.set_cons_zero, List.set_cons_succ]
    refine wpAnyH_done (by kernel_rfl) ?_ _
    exact HH.out _ _ _ _ _ _ _ _ _ _ mb _ t a6 c6 a7 c7 z _ (Nat.le_trans HKD.out.size hz) (Nat.le_trans HKD.out.size hB9) HMb.out QS.out HKF.out
  · have hmb : (V0.alloc (.cells #[.string ⟨#[]⟩, .string ⟨#[]⟩, .string ⟨#[]⟩, .string ⟨#[]⟩, .int .i64 0, .string ⟨#[]⟩, .slice none 0 0, .slice none 0 0, .int .i64 0] 33)).heap[V0.heap.size]? = some (.cells #[.string ⟨#[]⟩, .string ⟨#[]⟩, .string ⟨#[]⟩, .string ⟨#[]⟩, .int .i64 0, .string ⟨#[]⟩, .slice none 0 0, .slice none 0 0, .int .i64 0] 33 (0, 0)) := heap_alloc_new _ _
    have KA0 : Kept (fun _ => False) V0 (V0.alloc (.cells #[.string ⟨#[]⟩, .string ⟨#[]⟩, .string ⟨#[]⟩, .string ⟨#[]⟩, .int .i64 0, .string ⟨#[]⟩, .slice none 0 0, .slice none 0 0, .int .i64 0] 33)) := Kept.alloc _ _ _
    have KA := ((Kept.refl (fun _ => False) V0)).and KA0
    go_simp
    refine hK.out _ _ (HS.out _ KA) (fun _ => ?_)
    generalize V0.alloc (.cells #[.string ⟨#[]⟩, .string ⟨#[]⟩, .string ⟨#[]⟩, .string ⟨#[]⟩, .int .i64 0, .string ⟨#[]⟩, .slice none 0 0, .slice none 0 0, .int .i64 0] 33) = V6 at *
    obtain ⟨mb, hmbe⟩ : ∃ mb, mb = V0.heap.size := ⟨_, rfl⟩
    rw [← hmbe] at hmb ⊢
    have hz : V0.heap.size ≤ mb := by rw [hmbe]; exact ((Kept.refl (fun _ => False) V0)).size
    clear hmbe KA0
    clear hK K'
    try (simp only [Act.put, List.setIfInBounds_toArray, List.set_cons_zero, List.set_cons_succ])
    refine wpAnyH_ready (rs := [6]) (by kernel_rfl) (by simp) (AllReadyH.cons (o := { dst := some 67, op := Op.call { callee := Callee.value (Operand.func 17), args := #[Operand.tmp 61, Operand.tmp 62, Operand.tmp 66], argTypes := #[24, 33, 51] }, type := 43, pos := "law.go:142", after := #[{ on := 0, ground := Ground.data }, { on := 1, ground := Ground.data }, { on := 5, ground := Ground.data }], guard := none }) rfl (fun K' hK => ?_) AllReadyH.nil)
    refine step_call3 _ (by rfl) 17 _ _ _ _ _ _ (by rfl) (enters_of Tryd.func17 (by kernel_rfl) rfl) _ _ _ (by rfl) (by rfl) (by rfl) (hC _ KA) ?_
    rintro e w9 ⟨t, a6, c6, a7, c7, z, rfl, Q9, K9⟩
    have L9 := (KA).and K9
    have hB9 : V0.heap.size ≤ V6.heap.size := (KA).size
    have hmC : mb < V6.heap.size ∨ w9.heap.size ≤ mb := .inl (Array.getElem?_eq_some_iff.1 hmb).1
    replace hmb := (K9.block _ (Array.getElem?_eq_some_iff.1 hmb).1 (fun h => h)).trans hmb
    have K90 : Kept (fun j => j = mb) w9 w9 := Kept.refl _ _
    refine ⟨_, rfl, ?_⟩
    refine hK.out _ _ (HS.out _ L9) (fun _ => ?_)
    clear hK K'
    try (simp only [Act.put, List.setIfInBounds_toArray, List.set_cons_zero, List.set_cons_succ])
    refine wpAnyH_take (i := 7) (oi := { dst := some 60, op := Op.move (Operand.tmp 67), type := 43, pos := "law.go:142", after := #[{ on := 6, ground := Ground.data }], guard := none }) (v := ?vv11) rfl (by kernel_rfl) (by kernel_rfl) (by kernel_rfl) (fun _ _ _ h => h) (Or.inl ⟨by rfl, ?hy11⟩) (HS.out _ L9) ?rest11
    case hy11 =>
      intro V hV
      obtain ⟨y0, y1, y2, y3, y4, y5, y6, y7, y8, y9, y10, y11, y12, y13, y14⟩ := hV
      go_simp
      all_goals rfl
    simp only [Act.put, List.setIfInBounds_toArray, List.set_cons_zero, List.set_cons_succ]
    refine wpAnyH_take (i := 8) (oi := { dst := some 68, op := Op.extract (Operand.tmp 60) 0, type := 33, pos := "law.go:142", after := #[{ on := 7, ground := Ground.data }], guard := none }) (v := ?vv12) rfl (by kernel_rfl) (by kernel_rfl) (by kernel_rfl) (fun _ _ _ h => h) (Or.inl ⟨by rfl, ?hy12⟩) (HS.out _ L9) ?rest12
    case hy12 =>
      intro V hV
      obtain ⟨y0, y1, y2, y3, y4, y5, y6, y7, y8, y9, y10, y11, y12, y13, y14⟩ := hV
      go_simp
      all_goals rfl
    simp only [Act.put, List.setIfInBounds_toArray, List.set_cons_zero, List.set_cons_succ]
    refine wpAnyH_take (i := 9) (oi := { dst := some 69, op := Op.extract (Operand.tmp 60) 1, type := 42, pos := "law.go:142", after := #[{ on := 7, ground := Ground.data }, { on := 11, ground := Ground.gcOnly Departure.lateStores }], guard := none }) (v := ?vv13) rfl (by kernel_rfl) (by kernel_rfl) (by kernel_rfl) (fun _ _ _ h => h) (Or.inl ⟨by rfl, ?hy13⟩) (HS.out _ L9) ?rest13
    case hy13 =>
      intro V hV
      obtain ⟨y0, y1, y2, y3, y4, y5, y6, y7, y8, y9, y10, y11, y12, y13, y14⟩ := hV
      go_simp
      all_goals rfl
    simp only [Act.put, List.setIfInBounds_toArray, List.set_cons_zero, List.set_cons_succ]
    refine wpAnyH_ready (rs := [11]) (by kernel_rfl) (by simp) (AllReadyH.cons (o := { dst := none, op := Op.store 33 (Operand.tmp 11) (Operand.tmp 68), type := 0, pos := "law.go:142", after := #[{ on := 10, ground := Ground.data }, { on := 8, ground := Ground.data }, { on := 6, ground := Ground.chain }, { on := 0, ground := Ground.phase }, { on := 1, ground := Ground.phase }, { on := 2, ground := Ground.phase }, { on := 3, ground := Ground.phase }, { on := 4, ground := Ground.phase }, { on := 5, ground := Ground.phase }, { on := 6, ground := Ground.phase }, { on := 7, ground := Ground.phase }, { on := 8, ground := Ground.phase }, { on := 9, ground := Ground.textOnly Departure.lateStores }, { on := 10, ground := Ground.phase }], guard := none }) rfl (fun K' hK => ?_) AllReadyH.nil)
    obtain ⟨⟨p0, p1, p2, p3, p4, p5, p6, p7, p8⟩, f0, f1, f2, f3, f4, f5, f6, f7, f8⟩ := nine hmb
    have HMb := hid (put9 hmb (.string t.dfn) (.string t.id) (.string t.par) (.string t.pnode) (.int .i64 t.status) (.string t.text) (.slice a6 t.nodes.length c6) (.slice a7 t.sigs.length c7) (.int .i64 t.events))
    have KS := kept9 (S := fun j => j = mb) w9 rfl (.string t.dfn) (.string t.id) (.string t.par) (.string t.pnode) (.int .i64 t.status) (.string t.text) (.slice a6 t.nodes.length c6) (.slice a7 t.sigs.length c7) (.int .i64 t.events)
    have QS := hid (hQ _ _ _ _ _ _ _ _ Q9 hmC (K90.and KS))
    have KF := (L9).trans KS (fun j h => .inr (by subst h; exact hz))
    go_simp
    refine hK.out _ _ (HS.out _ KF) (fun _ => ?_)
    have HKF := hid (HKD.out.and KF)
    clear p0 p1 p2 p3 p4 p5 p6 p7 p8 f0 f1 f2 f3 f4 f5 f6 f7 f8 KS
    clear hK K'
    try (simp only [Act.put, List.setIfInBounds_toArray, List.set_cons_zero, List.set_cons_succ])
    refine wpAnyH_take (i := 12) (oi := { dst := some 12, op := Op.assign (Operand.tmp 69), type := 42, pos := "law.go:142", after := #[{ on := 9, ground := Ground.data }, { on := 11, ground := Ground.chain }, { on := 0, ground := Ground.phase }, { on := 1, ground := Ground.phase }, { on := 2, ground := Ground.phase }, { on := 3, ground := Ground.phase }, { on := 4, ground := Ground.phase }, { on := 5, ground := Ground.phase }, { on := 6, ground := Ground.phase }, { on := 7, ground := Ground.phase }, { on := 8, ground := Ground.phase }, { on := 9, ground := Ground.phase }, { on := 10, ground := Ground.phase }, { on := 11, ground := Ground.phase }], guard := none }) (v := ?vv14) rfl (by kernel_rfl) (by kernel_rfl) (by kernel_rfl) (fun _ _ _ h => h) (Or.inl ⟨by rfl, ?hy14⟩) (HS.out _ KF) ?rest14
    case hy14 =>
      intro V hV
      obtain ⟨y0, y1, y2, y3, y4, y5, y6, y7, y8, y9, y10, y11, y12, y13, y14⟩ := hV
      go_simp
      all_goals rfl
    simp only [Act.put, List.setIfInBounds_toArray, List.set_cons_zero, List.set_cons_succ]
    refine wpAnyH_done (by kernel_rfl) ?_ _
    exact HH.out _ _ _ _ _ _ _ _ _ _ mb _ t a6 c6 a7 c7 z _ (Nat.le_trans HKD.out.size hz) (Nat.le_trans HKD.out.size hB9) HMb.out QS.out HKF.out

set_option maxRecDepth 100000 in
set_option maxHeartbeats 8000000 in
theorem ap15 {W : World} {db sb b o n cn i : Nat} {d0 d1 q0 q1 q2 q3 q4 q5 q6 q7 q8 g0 g1 g2 g3 : Value} {Q : Nat → World → St → Value → Value → Int → Prop} {ds : List Deferred} {u0 u1 u4 u5 u6 u7 u8 u11 u12 u13 u14 u15 u16 u17 u18 u19 u20 u21 u22 u23 u24 u25 u26 u27 u28 u29 u30 u31 u32 u33 u34 u35 u36 u37 u38 u39 u40 u41 u42 u43 u44 u45 u46 u47 u48 u49 u50 u51 u52 u53 u54 u55 u56 u57 u58 u59 u60 u61 u62 u63 u64 u65 u66 u67 u68 u69 u70 u71 u72 u73 u74 u75 u76 u77 u78 u79 u80 u81 u82 u83 u84 u85 u86 u87 u88 u89 u90 u91 u92 u93 u94 u95 u96 u97 u98 u99 u100 u101 u102 u103 u104 u105 u106 u107 u108 u109 u110 u111 u112 u113 u114 u115 u116 u117 u118 u119 u120 u121 u122 u123 u124 u125 u126 u127 u128 u129 : Value} (K : Act → World → Prop)
    (x0 : W.cell? ⟨db, 0, none⟩ = some (d0)) (x1 : W.cell? ⟨db, 1, none⟩ = some (d1)) (x2 : W.cell? ⟨sb, 0, none⟩ = some (q0)) (x3 : W.cell? ⟨sb, 1, none⟩ = some (q1)) (x4 : W.cell? ⟨sb, 2, none⟩ = some (q2)) (x5 : W.cell? ⟨sb, 3, none⟩ = some (q3)) (x6 : W.cell? ⟨sb, 4, none⟩ = some (q4)) (x7 : W.cell? ⟨sb, 5, none⟩ = some (q5)) (x8 : W.cell? ⟨sb, 6, none⟩ = some (q6)) (x9 : W.cell? ⟨sb, 7, none⟩ = some (q7)) (x10 : W.cell? ⟨sb, 8, none⟩ = some (q8)) (x11 : W.cell? ⟨b, o + i * 4, none⟩ = some (g0)) (x12 : W.cell? ⟨b, o + i * 4 + 1, none⟩ = some (g1)) (x13 : W.cell? ⟨b, o + i * 4 + 2, none⟩ = some (g2)) (x14 : W.cell? ⟨b, o + i * 4 + 3, none⟩ = some (g3))
    (hi : i < n)
    (hC : ∀ V, Kept (fun _ => False) W.drew V → Calls Tryd.prog 19 #[.agg #[d0, d1], .agg #[q0, q1, q2, q3, q4, q5, q6, q7, q8], .agg #[g0, g1, g2, g3]] V fun e w' => ∃ (t : St) (a6 : Option Addr) (c6 : Nat) (a7 : Option Addr) (c7 : Nat) (z : Int), e = .returned (.tuple #[.agg #[.string t.dfn, .string t.id, .string t.par, .string t.pnode, .int .i64 t.status, .string t.text, .slice a6 t.nodes.length c6, .slice a7 t.sigs.length c7, .int .i64 t.events], .int .i64 z]) ∧ Q V.heap.size w' t (.slice a6 t.nodes.length c6) (.slice a7 t.sigs.length c7) z ∧ Kept (fun _ => False) V w')
    (hQ : ∀ B w1 w2 t p6 p7 z mb, Q B w1 t p6 p7 z → mb < B ∨ w1.heap.size ≤ mb → Kept (fun j => j = mb) w1 w2 → Q B w2 t p6 p7 z)
    (h : ∀ (v70 v71 v72 v73 v74 v75 v76 v77 v78 v79 : Value) (mb B : Nat) (t : St) (a6 : Option Addr) (c6 : Nat) (a7 : Option Addr) (c7 : Nat) (z : Int) (W' : World), W.heap.size ≤ mb → W.heap.size ≤ B → W'.heap[mb]? = some (.cells #[.string t.dfn, .string t.id, .string t.par, .string t.pnode, .int .i64 t.status, .string t.text, .slice a6 t.nodes.length c6, .slice a7 t.sigs.length c7, .int .i64 t.events] 33 (0, 0)) → Q B W' t (.slice a6 t.nodes.length c6) (.slice a7 t.sigs.length c7) z → Kept (fun _ => False) W W' → K { tmps := #[u0, u1, .slice (some ⟨b, o, none⟩) n cn, .pointer (some ⟨db, 0, none⟩), u4, u5, u6, u7, u8, .pointer (some ⟨sb, 0, none⟩), .int .i64 (i : Nat), u11, u12, .pointer (some ⟨mb, 0, none⟩), .int .i64 z, u15, u16, u17, u18, u19, u20, u21, u22, u23, u24, u25, u26, u27, u28, u29, u30, u31, u32, u33, u34, u35, u36, u37, u38, u39, u40, u41, u42, u43, u44, u45, u46, u47, u48, u49, u50, u51, u52, u53, u54, u55, u56, u57, u58, u59, u60, u61, u62, u63, u64, u65, u66, u67, u68, u69, v70, v71, v72, v73, v74, v75, v76, v77, v78, v79, u80, u81, u82, u83, u84, u85, u86, u87, u88, u89, u90, u91, u92, u93, u94, u95, u96, u97, u98, u99, u100, u101, u102, u103, u104, u105, u106, u107, u108, u109, u110, u111, u112, u113, u114, u115, u116, u117, u118, u119, u120, u121, u122, u123, u124, u125, u126, u127, u128, u129], defers := ds } W') :
    (Code.region 15 #[{ dst := some 71, op := Op.load 24 (Operand.tmp 3), type := 24, pos := "law.go:143", after := #[], guard := none }, { dst := some 72, op := Op.load 33 (Operand.tmp 9), type := 33, pos := "law.go:143", after := #[], guard := none }, { dst := some 73, op := Op.move (Operand.tmp 2), type := 34, pos := "law.go:143", after := #[], guard := none }, { dst := some 74, op := Op.move (Operand.tmp 10), type := 3, pos := "law.go:143", after := #[], guard := none }, { dst := some 75, op := Op.indexAddr 34 (Operand.tmp 73) (Operand.tmp 74), type := 0, pos := "law.go:143", after := #[{ on := 2, ground := Ground.data }, { on := 3, ground := Ground.data }], guard := none }, { dst := some 76, op := Op.load 51 (Operand.tmp 75), type := 51, pos := "law.go:143", after := #[{ on := 4, ground := Ground.data }], guard := none }, { dst := some 77, op := Op.call { callee := Callee.value (Operand.func 19), args := #[Operand.tmp 71, Operand.tmp 72, Operand.tmp 76], argTypes := #[24, 33, 51] }, type := 43, pos := "law.go:143", after := #[{ on := 0, ground := Ground.data }, { on := 1, ground := Ground.data }, { on := 5, ground := Ground.data }], guard := none }, { dst := some 70, op := Op.move (Operand.tmp 77), type := 43, pos := "law.go:143", after := #[{ on := 6, ground := Ground.data }], guard := none }, { dst := some 78, op := Op.extract (Operand.tmp 70) 0, type := 33, pos := "law.go:143", after := #[{ on := 7, ground := Ground.data }], guard := none }, { dst := some 79, op := Op.extract (Operand.tmp 70) 1, type := 42, pos := "law.go:143", after := #[{ on := 7, ground := Ground.data }, { on := 11, ground := Ground.gcOnly Departure.lateStores }], guard := none }, { dst := some 13, op := Op.alloc 33, type := 0, pos := "law.go:143", after := #[], guard := none }, { dst := none, op := Op.store 33 (Operand.tmp 13) (Operand.tmp 78), type := 0, pos := "law.go:143", after := #[{ on := 10, ground := Ground.data }, { on := 8, ground := Ground.data }, { on := 6, ground := Ground.chain }, { on := 0, ground := Ground.phase }, { on := 1, ground := Ground.phase }, { on := 2, ground := Ground.phase }, { on := 3, ground := Ground.phase }, { on := 4, ground := Ground.phase }, { on := 5, ground := Ground.phase }, { on := 6, ground := Ground.phase }, { on := 7, ground := Ground.phase }, { on := 8, ground := Ground.phase }, { on := 9, ground := Ground.textOnly Departure.lateStores }, { on := 10, ground := Ground.phase }], guard := none }, { dst := some 14, op := Op.assign (Operand.tmp 79), type := 42, pos := "law.go:143", after := #[{ on := 9, ground := Ground.data }, { on := 11, ground := Ground.chain }, { on := 0, ground := Ground.phase }, { on := 1, ground := Ground.phase }, { on := 2, ground := Ground.phase }, { on := 3, ground := Ground.phase }, { on := 4, ground := Ground.phase }, { on := 5, ground := Ground.phase }, { on := 6, ground := Ground.phase }, { on := 7, ground := Ground.phase }, { on := 8, ground := Ground.phase }, { on := 9, ground := Ground.phase }, { on := 10, ground := Ground.phase }, { on := 11, ground := Ground.phase }], guard := none }] true).wp Tryd.prog (onlyN K) { tmps := #[u0, u1, .slice (some ⟨b, o, none⟩) n cn, .pointer (some ⟨db, 0, none⟩), u4, u5, u6, u7, u8, .pointer (some ⟨sb, 0, none⟩), .int .i64 (i : Nat), u11, u12, u13, u14, u15, u16, u17, u18, u19, u20, u21, u22, u23, u24, u25, u26, u27, u28, u29, u30, u31, u32, u33, u34, u35, u36, u37, u38, u39, u40, u41, u42, u43, u44, u45, u46, u47, u48, u49, u50, u51, u52, u53, u54, u55, u56, u57, u58, u59, u60, u61, u62, u63, u64, u65, u66, u67, u68, u69, u70, u71, u72, u73, u74, u75, u76, u77, u78, u79, u80, u81, u82, u83, u84, u85, u86, u87, u88, u89, u90, u91, u92, u93, u94, u95, u96, u97, u98, u99, u100, u101, u102, u103, u104, u105, u106, u107, u108, u109, u110, u111, u112, u113, u114, u115, u116, u117, u118, u119, u120, u121, u122, u123, u124, u125, u126, u127, u128, u129], defers := ds } W := by
  have e1 : (i : Int) < (n : Int) := by omega
  have HH : Hid _ := h
  have KD := Kept.drew (fun _ => False) W
  have HS : Hid (∀ V, Kept (fun _ => False) W.drew V → V.cell? ⟨db, 0, none⟩ = some (d0) ∧ V.cell? ⟨db, 1, none⟩ = some (d1) ∧ V.cell? ⟨sb, 0, none⟩ = some (q0) ∧ V.cell? ⟨sb, 1, none⟩ = some (q1) ∧ V.cell? ⟨sb, 2, none⟩ = some (q2) ∧ V.cell? ⟨sb, 3, none⟩ = some (q3) ∧ V.cell? ⟨sb, 4, none⟩ = some (q4) ∧ V.cell? ⟨sb, 5, none⟩ = some (q5) ∧ V.cell? ⟨sb, 6, none⟩ = some (q6) ∧ V.cell? ⟨sb, 7, none⟩ = some (q7) ∧ V.cell? ⟨sb, 8, none⟩ = some (q8) ∧ V.cell? ⟨b, o + i * 4, none⟩ = some (g0) ∧ V.cell? ⟨b, o + i * 4 + 1, none⟩ = some (g1) ∧ V.cell? ⟨b, o + i * 4 + 2, none⟩ = some (g2) ∧ V.cell? ⟨b, o + i * 4 + 3, none⟩ = some (g3)) := fun V KV => ⟨keepC (KD.and KV) x0 (fun _ _ h => h), keepC (KD.and KV) x1 (fun _ _ h => h), keepC (KD.and KV) x2 (fun _ _ h => h), keepC (KD.and KV) x3 (fun _ _ h => h), keepC (KD.and KV) x4 (fun _ _ h => h), keepC (KD.and KV) x5 (fun _ _ h => h), keepC (KD.and KV) x6 (fun _ _ h => h), keepC (KD.and KV) x7 (fun _ _ h => h), keepC (KD.and KV) x8 (fun _ _ h => h), keepC (KD.and KV) x9 (fun _ _ h => h), keepC (KD.and KV) x10 (fun _ _ h => h), keepC (KD.and KV) x11 (fun _ _ h => h), keepC (KD.and KV) x12 (fun _ _ h => h), keepC (KD.and KV) x13 (fun _ _ h => h), keepC (KD.and KV) x14 (fun _ _ h => h)⟩
  have HKD : Hid (Kept (fun _ => False) W W.drew) := KD
  have hS0 := HS.out W.drew (Kept.refl _ _)
  clear h KD x0 x1 x2 x3 x4 x5 x6 x7 x8 x9 x10 x11 x12 x13 x14
  refine wp_region_held_drew (S := fun V => V.cell? ⟨db, 0, none⟩ = some (d0) ∧ V.cell? ⟨db, 1, none⟩ = some (d1) ∧ V.cell? ⟨sb, 0, none⟩ = some (q0) ∧ V.cell? ⟨sb, 1, none⟩ = some (q1) ∧ V.cell? ⟨sb, 2, none⟩ = some (q2) ∧ V.cell? ⟨sb, 3, none⟩ = some (q3) ∧ V.cell? ⟨sb, 4, none⟩ = some (q4) ∧ V.cell? ⟨sb, 5, none⟩ = some (q5) ∧ V.cell? ⟨sb, 6, none⟩ = some (q6) ∧ V.cell? ⟨sb, 7, none⟩ = some (q7) ∧ V.cell? ⟨sb, 8, none⟩ = some (q8) ∧ V.cell? ⟨b, o + i * 4, none⟩ = some (g0) ∧ V.cell? ⟨b, o + i * 4 + 1, none⟩ = some (g1) ∧ V.cell? ⟨b, o + i * 4 + 2, none⟩ = some (g2) ∧ V.cell? ⟨b, o + i * 4 + 3, none⟩ = some (g3)) (by kernel_rfl) hS0 (fun _ => ?_)
  generalize W.drew = V0 at *
  refine wpAnyH_take (i := 0) (oi := { dst := some 71, op := Op.load 24 (Operand.tmp 3), type := 24, pos := "law.go:143", after := #[], guard := none }) (v := ?vv1) rfl (by kernel_rfl) (by kernel_rfl) (by kernel_rfl) (fun _ _ _ h => h) (Or.inl ⟨by rfl, ?hy1⟩) hS0 ?rest1
  case hy1 =>
    intro V hV
    obtain ⟨y0, y1, y2, y3, y4, y5, y6, y7, y8, y9, y10, y11, y12, y13, y14⟩ := hV
    go_simp
    all_goals rfl
  simp only [Act.put, List.setIfInBounds_toArray, List.set_cons_zero, List.set_cons_succ]
  refine wpAnyH_take (i := 1) (oi := { dst := some 72, op := Op.load 33 (Operand.tmp 9), type := 33, pos := "law.go:143", after := #[], guard := none }) (v := ?vv2) rfl (by kernel_rfl) (by kernel_rfl) (by kernel_rfl) (fun _ _ _ h => h) (Or.inl ⟨by rfl, ?hy2⟩) hS0 ?rest2
  case hy2 =>
    intro V hV
    obtain ⟨y0, y1, y2, y3, y4, y5, y6, y7, y8, y9, y10, y11, y12, y13, y14⟩ := hV
    go_simp
    all_goals rfl
  simp only [Act.put, List.setIfInBounds_toArray, List.set_cons_zero, List.set_cons_succ]
  refine wpAnyH_take (i := 2) (oi := { dst := some 73, op := Op.move (Operand.tmp 2), type := 34, pos := "law.go:143", after := #[], guard := none }) (v := ?vv3) rfl (by kernel_rfl) (by kernel_rfl) (by kernel_rfl) (fun _ _ _ h => h) (Or.inl ⟨by rfl, ?hy3⟩) hS0 ?rest3
  case hy3 =>
    intro V hV
    obtain ⟨y0, y1, y2, y3, y4, y5, y6, y7, y8, y9, y10, y11, y12, y13, y14⟩ := hV
    go_simp
    all_goals rfl
  simp only [Act.put, List.setIfInBounds_toArray, List.set_cons_zero, List.set_cons_succ]
  refine wpAnyH_take (i := 3) (oi := { dst := some 74, op := Op.move (Operand.tmp 10), type := 3, pos := "law.go:143", after := #[], guard := none }) (v := ?vv4) rfl (by kernel_rfl) (by kernel_rfl) (by kernel_rfl) (fun _ _ _ h => h) (Or.inl ⟨by rfl, ?hy4⟩) hS0 ?rest4
  case hy4 =>
    intro V hV
    obtain ⟨y0, y1, y2, y3, y4, y5, y6, y7, y8, y9, y10, y11, y12, y13, y14⟩ := hV
    go_simp
    all_goals rfl
  simp only [Act.put, List.setIfInBounds_toArray, List.set_cons_zero, List.set_cons_succ]
  refine wpAnyH_take (i := 4) (oi := { dst := some 75, op := Op.indexAddr 34 (Operand.tmp 73) (Operand.tmp 74), type := 0, pos := "law.go:143", after := #[{ on := 2, ground := Ground.data }, { on := 3, ground := Ground.data }], guard := none }) (v := ?vv5) rfl (by kernel_rfl) (by kernel_rfl) (by kernel_rfl) (fun _ _ _ h => h) (Or.inl ⟨by rfl, ?hy5⟩) hS0 ?rest5
  case hy5 =>
    intro V hV
    obtain ⟨y0, y1, y2, y3, y4, y5, y6, y7, y8, y9, y10, y11, y12, y13, y14⟩ := hV
    go_simp
    all_goals rfl
  simp only [Act.put, List.setIfInBounds_toArray, List.set_cons_zero, List.set_cons_succ]
  refine wpAnyH_take (i := 5) (oi := { dst := some 76, op := Op.load 51 (Operand.tmp 75), type := 51, pos := "law.go:143", after := #[{ on := 4, ground := Ground.data }], guard := none }) (v := ?vv6) rfl (by kernel_rfl) (by kernel_rfl) (by kernel_rfl) (fun _ _ _ h => h) (Or.inl ⟨by rfl, ?hy6⟩) hS0 ?rest6
  case hy6 =>
    intro V hV
    obtain ⟨y0, y1, y2, y3, y4, y5, y6, y7, y8, y9, y10, y11, y12, y13, y14⟩ := hV
    go_simp
    all_goals rfl
  simp only [Act.put, List.setIfInBounds_toArray, List.set_cons_zero, List.set_cons_succ]
  refine wpAnyH_ready (rs := [6, 10]) (by kernel_rfl) (by simp) (AllReadyH.cons (o := { dst := some 77, op := Op.call { callee := Callee.value (Operand.func 19), args := #[Operand.tmp 71, Operand.tmp 72, Operand.tmp 76], argTypes := #[24, 33, 51] }, type := 43, pos := "law.go:143", after := #[{ on := 0, ground := Ground.data }, { on := 1, ground := Ground.data }, { on := 5, ground := Ground.data }], guard := none }) rfl (fun K' hK => ?_) (AllReadyH.cons (o := { dst := some 13, op := Op.alloc 33, type := 0, pos := "law.go:143", after := #[], guard := none }) rfl (fun K' hK => ?_) AllReadyH.nil))
  · refine step_call3 _ (by rfl) 19 _ _ _ _ _ _ (by rfl) (enters_of Tryd.func19 (by kernel_rfl) rfl) _ _ _ (by rfl) (by rfl) (by rfl) (hC _ (Kept.refl (fun _ => False) V0)) ?_
    rintro e w9 ⟨t, a6, c6, a7, c7, z, rfl, Q9, K9⟩
    have L9 := ((Kept.refl (fun _ => False) V0)).and K9
    have hB9 : V0.heap.size ≤ V0.heap.size := ((Kept.refl (fun _ => False) V0)).size
    refine ⟨_, rfl, ?_⟩
    refine hK.out _ _ (HS.out _ L9) (fun _ => ?_)
    clear hK K'
    try (simp only [Act.put, List.setIfInBounds_toArray, List.set_cons_zero, List.set_cons_succ])
    refine wpAnyH_take (i := 7) (oi := { dst := some 70, op := Op.move (Operand.tmp 77), type := 43, pos := "law.go:143", after := #[{ on := 6, ground := Ground.data }], guard := none }) (v := ?vv7) rfl (by kernel_rfl) (by kernel_rfl) (by kernel_rfl) (fun _ _ _ h => h) (Or.inl ⟨by rfl, ?hy7⟩) (HS.out _ L9) ?rest7
    case hy7 =>
      intro V hV
      obtain ⟨y0, y1, y2, y3, y4, y5, y6, y7, y8, y9, y10, y11, y12, y13, y14⟩ := hV
      go_simp
      all_goals rfl
    simp only [Act.put, List.setIfInBounds_toArray, List.set_cons_zero, List.set_cons_succ]
    refine wpAnyH_take (i := 8) (oi := { dst := some 78, op := Op.extract (Operand.tmp 70) 0, type := 33, pos := "law.go:143", after := #[{ on := 7, ground := Ground.data }], guard := none }) (v := ?vv8) rfl (by kernel_rfl) (by kernel_rfl) (by kernel_rfl) (fun _ _ _ h => h) (Or.inl ⟨by rfl, ?hy8⟩) (HS.out _ L9) ?rest8
    case hy8 =>
      intro V hV
      obtain ⟨y0, y1, y2, y3, y4, y5, y6, y7, y8, y9, y10, y11, y12, y13, y14⟩ := hV
      go_simp
      all_goals rfl
    simp only [Act.put, List.setIfInBounds_toArray, List.set_cons_zero, List.set_cons_succ]
    refine wpAnyH_take (i := 9) (oi := { dst := some 79, op := Op.extract (Operand.tmp 70) 1, type := 42, pos := "law.go:143", after := #[{ on := 7, ground := Ground.data }, { on := 11, ground := Ground.gcOnly Departure.lateStores }], guard := none }) (v := ?vv9) rfl (by kernel_rfl) (by kernel_rfl) (by kernel_rfl) (fun _ _ _ h => h) (Or.inl ⟨by rfl, ?hy9⟩) (HS.out _ L9) ?rest9
    case hy9 =>
      intro V hV
      obtain ⟨y0, y1, y2, y3, y4, y5, y6, y7, y8, y9, y10, y11, y12, y13, y14⟩ := hV
      go_simp
      all_goals rfl
    simp only [Act.put, List.setIfInBounds_toArray, List.set_cons_zero, List.set_cons_succ]
    refine wpAnyH_ready (rs := [10]) (by kernel_rfl) (by simp) (AllReadyH.cons (o := { dst := some 13, op := Op.alloc 33, type := 0, pos := "law.go:143", after := #[], guard := none }) rfl (fun K' hK => ?_) AllReadyH.nil)
    have hmb : (w9.alloc (.cells #[.string ⟨#[]⟩, .string ⟨#[]⟩, .string ⟨#[]⟩, .string ⟨#[]⟩, .int .i64 0, .string ⟨#[]⟩, .slice none 0 0, .slice none 0 0, .int .i64 0] 33)).heap[w9.heap.size]? = some (.cells #[.string ⟨#[]⟩, .string ⟨#[]⟩, .string ⟨#[]⟩, .string ⟨#[]⟩, .int .i64 0, .string ⟨#[]⟩, .slice none 0 0, .slice none 0 0, .int .i64 0] 33 (0, 0)) := heap_alloc_new _ _
    have KA0 : Kept (fun _ => False) w9 (w9.alloc (.cells #[.string ⟨#[]⟩, .string ⟨#[]⟩, .string ⟨#[]⟩, .string ⟨#[]⟩, .int .i64 0, .string ⟨#[]⟩, .slice none 0 0, .slice none 0 0, .int .i64 0] 33)) := Kept.alloc _ _ _
    have KA := (L9).and KA0
    go_simp
    refine hK.out _ _ (HS.out _ KA) (fun _ => ?_)
    generalize w9.alloc (.cells #[.string ⟨#[]⟩, .string ⟨#[]⟩, .string ⟨#[]⟩, .string ⟨#[]⟩, .int .i64 0, .string ⟨#[]⟩, .slice none 0 0, .slice none 0 0, .int .i64 0] 33) = V6 at *
    obtain ⟨mb, hmbe⟩ : ∃ mb, mb = w9.heap.size := ⟨_, rfl⟩
    rw [← hmbe] at hmb ⊢
    have hz : V0.heap.size ≤ mb := by rw [hmbe]; exact (L9).size
    have hmC : mb < V0.heap.size ∨ w9.heap.size ≤ mb := .inr (Nat.le_of_eq hmbe.symm)
    have K90 : Kept (fun j => j = mb) w9 V6 := KA0.mono (fun _ h => h.elim)
    clear hmbe KA0
    clear hK K'
    try (simp only [Act.put, List.setIfInBounds_toArray, List.set_cons_zero, List.set_cons_succ])
    refine wpAnyH_ready (rs := [11]) (by kernel_rfl) (by simp) (AllReadyH.cons (o := { dst := none, op := Op.store 33 (Operand.tmp 13) (Operand.tmp 78), type := 0, pos := "law.go:143", after := #[{ on := 10, ground := Ground.data }, { on := 8, ground := Ground.data }, { on := 6, ground := Ground.chain }, { on := 0, ground := Ground.phase }, { on := 1, ground := Ground.phase }, { on := 2, ground := Ground.phase }, { on := 3, ground := Ground.phase }, { on := 4, ground := Ground.phase }, { on := 5, ground := Ground.phase }, { on := 6, ground := Ground.phase }, { on := 7, ground := Ground.phase }, { on := 8, ground := Ground.phase }, { on := 9, ground := Ground.textOnly Departure.lateStores }, { on := 10, ground := Ground.phase }], guard := none }) rfl (fun K' hK => ?_) AllReadyH.nil)
    obtain ⟨⟨p0, p1, p2, p3, p4, p5, p6, p7, p8⟩, f0, f1, f2, f3, f4, f5, f6, f7, f8⟩ := nine hmb
    have HMb := hid (put9 hmb (.string t.dfn) (.string t.id) (.string t.par) (.string t.pnode) (.int .i64 t.status) (.string t.text) (.slice a6 t.nodes.length c6) (.slice a7 t.sigs.length c7) (.int .i64 t.events))
    have KS := kept9 (S := fun j => j = mb) V6 rfl (.string t.dfn) (.string t.id) (.string t.par) (.string t.pnode) (.int .i64 t.status) (.string t.text) (.slice a6 t.nodes.length c6) (.slice a7 t.sigs.length c7) (.int .i64 t.events)
    have QS := hid (hQ _ _ _ _ _ _ _ _ Q9 hmC (K90.and KS))
    have KF := (KA).trans KS (fun j h => .inr (by subst h; exact hz))
    go_simp
    refine hK.out _ _ (HS.out _ KF) (fun _ => ?_)
    have HKF := hid (HKD.out.and KF)
    clear p0 p1 p2 p3 p4 p5 p6 p7 p8 f0 f1 f2 f3 f4 f5 f6 f7 f8 KS
    clear hK K'
    try (simp only [Act.put, List.setIfInBounds_toArray, List.set_cons_zero, List.set_cons_succ])
    refine wpAnyH_take (i := 12) (oi := { dst := some 14, op := Op.assign (Operand.tmp 79), type := 42, pos := "law.go:143", after := #[{ on := 9, ground := Ground.data }, { on := 11, ground := Ground.chain }, { on := 0, ground := Ground.phase }, { on := 1, ground := Ground.phase }, { on := 2, ground := Ground.phase }, { on := 3, ground := Ground.phase }, { on := 4, ground := Ground.phase }, { on := 5, ground := Ground.phase }, { on := 6, ground := Ground.phase }, { on := 7, ground := Ground.phase }, { on := 8, ground := Ground.phase }, { on := 9, ground := Ground.phase }, { on := 10, ground := Ground.phase }, { on := 11, ground := Ground.phase }], guard := none }) (v := ?vv10) rfl (by kernel_rfl) (by kernel_rfl) (by kernel_rfl) (fun _ _ _ h => h) (Or.inl ⟨by rfl, ?hy10⟩) (HS.out _ KF) ?rest10
    case hy10 =>
      intro V hV
      obtain ⟨y0, y1, y2, y3, y4, y5, y6, y7, y8, y9, y10, y11, y12, y13, y14⟩ := hV
      go_simp
      all_goals rfl
    simp only [Act.put, List.setIfInBounds_toArray, List.set_cons_zero, List.set_cons_succ]
    refine wpAnyH_done (by kernel_rfl) ?_ _
    exact HH.out _ _ _ _ _ _ _ _ _ _ mb _ t a6 c6 a7 c7 z _ (Nat.le_trans HKD.out.size hz) (Nat.le_trans HKD.out.size hB9) HMb.out QS.out HKF.out
  · have hmb : (V0.alloc (.cells #[.string ⟨#[]⟩, .string ⟨#[]⟩, .string ⟨#[]⟩, .string ⟨#[]⟩, .int .i64 0, .string ⟨#[]⟩, .slice none 0 0, .slice none 0 0, .int .i64 0] 33)).heap[V0.heap.size]? = some (.cells #[.string ⟨#[]⟩, .string ⟨#[]⟩, .string ⟨#[]⟩, .string ⟨#[]⟩, .int .i64 0, .string ⟨#[]⟩, .slice none 0 0, .slice none 0 0, .int .i64 0] 33 (0, 0)) := heap_alloc_new _ _
    have KA0 : Kept (fun _ => False) V0 (V0.alloc (.cells #[.string ⟨#[]⟩, .string ⟨#[]⟩, .string ⟨#[]⟩, .string ⟨#[]⟩, .int .i64 0, .string ⟨#[]⟩, .slice none 0 0, .slice none 0 0, .int .i64 0] 33)) := Kept.alloc _ _ _
    have KA := ((Kept.refl (fun _ => False) V0)).and KA0
    go_simp
    refine hK.out _ _ (HS.out _ KA) (fun _ => ?_)
    generalize V0.alloc (.cells #[.string ⟨#[]⟩, .string ⟨#[]⟩, .string ⟨#[]⟩, .string ⟨#[]⟩, .int .i64 0, .string ⟨#[]⟩, .slice none 0 0, .slice none 0 0, .int .i64 0] 33) = V6 at *
    obtain ⟨mb, hmbe⟩ : ∃ mb, mb = V0.heap.size := ⟨_, rfl⟩
    rw [← hmbe] at hmb ⊢
    have hz : V0.heap.size ≤ mb := by rw [hmbe]; exact ((Kept.refl (fun _ => False) V0)).size
    clear hmbe KA0
    clear hK K'
    try (simp only [Act.put, List.setIfInBounds_toArray, List.set_cons_zero, List.set_cons_succ])
    refine wpAnyH_ready (rs := [6]) (by kernel_rfl) (by simp) (AllReadyH.cons (o := { dst := some 77, op := Op.call { callee := Callee.value (Operand.func 19), args := #[Operand.tmp 71, Operand.tmp 72, Operand.tmp 76], argTypes := #[24, 33, 51] }, type := 43, pos := "law.go:143", after := #[{ on := 0, ground := Ground.data }, { on := 1, ground := Ground.data }, { on := 5, ground := Ground.data }], guard := none }) rfl (fun K' hK => ?_) AllReadyH.nil)
    refine step_call3 _ (by rfl) 19 _ _ _ _ _ _ (by rfl) (enters_of Tryd.func19 (by kernel_rfl) rfl) _ _ _ (by rfl) (by rfl) (by rfl) (hC _ KA) ?_
    rintro e w9 ⟨t, a6, c6, a7, c7, z, rfl, Q9, K9⟩
    have L9 := (KA).and K9
    have hB9 : V0.heap.size ≤ V6.heap.size := (KA).size
    have hmC : mb < V6.heap.size ∨ w9.heap.size ≤ mb := .inl (Array.getElem?_eq_some_iff.1 hmb).1
    replace hmb := (K9.block _ (Array.getElem?_eq_some_iff.1 hmb).1 (fun h => h)).trans hmb
    have K90 : Kept (fun j => j = mb) w9 w9 := Kept.refl _ _
    refine ⟨_, rfl, ?_⟩
    refine hK.out _ _ (HS.out _ L9) (fun _ => ?_)
    clear hK K'
    try (simp only [Act.put, List.setIfInBounds_toArray, List.set_cons_zero, List.set_cons_succ])
    refine wpAnyH_take (i := 7) (oi := { dst := some 70, op := Op.move (Operand.tmp 77), type := 43, pos := "law.go:143", after := #[{ on := 6, ground := Ground.data }], guard := none }) (v := ?vv11) rfl (by kernel_rfl) (by kernel_rfl) (by kernel_rfl) (fun _ _ _ h => h) (Or.inl ⟨by rfl, ?hy11⟩) (HS.out _ L9) ?rest11
    case hy11 =>
      intro V hV
      obtain ⟨y0, y1, y2, y3, y4, y5, y6, y7, y8, y9, y10, y11, y12, y13, y14⟩ := hV
      go_simp
      all_goals rfl
    simp only [Act.put, List.setIfInBounds_toArray, List.set_cons_zero, List.set_cons_succ]
    refine wpAnyH_take (i := 8) (oi := { dst := some 78, op := Op.extract (Operand.tmp 70) 0, type := 33, pos := "law.go:143", after := #[{ on := 7, ground := Ground.data }], guard := none }) (v := ?vv12) rfl (by kernel_rfl) (by kernel_rfl) (by kernel_rfl) (fun _ _ _ h => h) (Or.inl ⟨by rfl, ?hy12⟩) (HS.out _ L9) ?rest12
    case hy12 =>
      intro V hV
      obtain ⟨y0, y1, y2, y3, y4, y5, y6, y7, y8, y9, y10, y11, y12, y13, y14⟩ := hV
      go_simp
      all_goals rfl
    simp only [Act.put, List.setIfInBounds_toArray, List.set_cons_zero, List.set_cons_succ]
    refine wpAnyH_take (i := 9) (oi := { dst := some 79, op := Op.extract (Operand.tmp 70) 1, type := 42, pos := "law.go:143", after := #[{ on := 7, ground := Ground.data }, { on := 11, ground := Ground.gcOnly Departure.lateStores }], guard := none }) (v := ?vv13) rfl (by kernel_rfl) (by kernel_rfl) (by kernel_rfl) (fun _ _ _ h => h) (Or.inl ⟨by rfl, ?hy13⟩) (HS.out _ L9) ?rest13
    case hy13 =>
      intro V hV
      obtain ⟨y0, y1, y2, y3, y4, y5, y6, y7, y8, y9, y10, y11, y12, y13, y14⟩ := hV
      go_simp
      all_goals rfl
    simp only [Act.put, List.setIfInBounds_toArray, List.set_cons_zero, List.set_cons_succ]
    refine wpAnyH_ready (rs := [11]) (by kernel_rfl) (by simp) (AllReadyH.cons (o := { dst := none, op := Op.store 33 (Operand.tmp 13) (Operand.tmp 78), type := 0, pos := "law.go:143", after := #[{ on := 10, ground := Ground.data }, { on := 8, ground := Ground.data }, { on := 6, ground := Ground.chain }, { on := 0, ground := Ground.phase }, { on := 1, ground := Ground.phase }, { on := 2, ground := Ground.phase }, { on := 3, ground := Ground.phase }, { on := 4, ground := Ground.phase }, { on := 5, ground := Ground.phase }, { on := 6, ground := Ground.phase }, { on := 7, ground := Ground.phase }, { on := 8, ground := Ground.phase }, { on := 9, ground := Ground.textOnly Departure.lateStores }, { on := 10, ground := Ground.phase }], guard := none }) rfl (fun K' hK => ?_) AllReadyH.nil)
    obtain ⟨⟨p0, p1, p2, p3, p4, p5, p6, p7, p8⟩, f0, f1, f2, f3, f4, f5, f6, f7, f8⟩ := nine hmb
    have HMb := hid (put9 hmb (.string t.dfn) (.string t.id) (.string t.par) (.string t.pnode) (.int .i64 t.status) (.string t.text) (.slice a6 t.nodes.length c6) (.slice a7 t.sigs.length c7) (.int .i64 t.events))
    have KS := kept9 (S := fun j => j = mb) w9 rfl (.string t.dfn) (.string t.id) (.string t.par) (.string t.pnode) (.int .i64 t.status) (.string t.text) (.slice a6 t.nodes.length c6) (.slice a7 t.sigs.length c7) (.int .i64 t.events)
    have QS := hid (hQ _ _ _ _ _ _ _ _ Q9 hmC (K90.and KS))
    have KF := (L9).trans KS (fun j h => .inr (by subst h; exact hz))
    go_simp
    refine hK.out _ _ (HS.out _ KF) (fun _ => ?_)
    have HKF := hid (HKD.out.and KF)
    clear p0 p1 p2 p3 p4 p5 p6 p7 p8 f0 f1 f2 f3 f4 f5 f6 f7 f8 KS
    clear hK K'
    try (simp only [Act.put, List.setIfInBounds_toArray, List.set_cons_zero, List.set_cons_succ])
    refine wpAnyH_take (i := 12) (oi := { dst := some 14, op := Op.assign (Operand.tmp 79), type := 42, pos := "law.go:143", after := #[{ on := 9, ground := Ground.data }, { on := 11, ground := Ground.chain }, { on := 0, ground := Ground.phase }, { on := 1, ground := Ground.phase }, { on := 2, ground := Ground.phase }, { on := 3, ground := Ground.phase }, { on := 4, ground := Ground.phase }, { on := 5, ground := Ground.phase }, { on := 6, ground := Ground.phase }, { on := 7, ground := Ground.phase }, { on := 8, ground := Ground.phase }, { on := 9, ground := Ground.phase }, { on := 10, ground := Ground.phase }, { on := 11, ground := Ground.phase }], guard := none }) (v := ?vv14) rfl (by kernel_rfl) (by kernel_rfl) (by kernel_rfl) (fun _ _ _ h => h) (Or.inl ⟨by rfl, ?hy14⟩) (HS.out _ KF) ?rest14
    case hy14 =>
      intro V hV
      obtain ⟨y0, y1, y2, y3, y4, y5, y6, y7, y8, y9, y10, y11, y12, y13, y14⟩ := hV
      go_simp
      all_goals rfl
    simp only [Act.put, List.setIfInBounds_toArray, List.set_cons_zero, List.set_cons_succ]
    refine wpAnyH_done (by kernel_rfl) ?_ _
    exact HH.out _ _ _ _ _ _ _ _ _ _ mb _ t a6 c6 a7 c7 z _ (Nat.le_trans HKD.out.size hz) (Nat.le_trans HKD.out.size hB9) HMb.out QS.out HKF.out

end Go.Proofs.YtfjekjbkifmpfaaDoor.Rf

/-
  HistoryApply, between the rounds: both Applies answer alike; what stands of the document's answer.
-/
namespace Go.Proofs.YtfjekjbkifmpfaaDoor.Rf
open Go.RowKit

/-- A state's rows at V: none of them in the block sb, none between m and n. -/
structure RowsOk (V : World) (sb m n : Nat) (t : St) (q6 q7 : Value) : Prop where
  nodes : V.ownsRow 0 61 3 q6 t.nodes.length (nsF t.nodes)
  sigs : V.ownsRow 0 88 2 q7 t.sigs.length (sgF t.sigs)
  in6 : ∀ g, q6.ownBlock = some g → g ≠ sb ∧ (g < m ∨ n ≤ g)
  in7 : ∀ g, q7.ownBlock = some g → g ≠ sb ∧ (g < m ∨ n ≤ g)

theorem RowsOk.keep {V V' : World} {sb m n : Nat} {t : St} {q6 q7 : Value} (R : RowsOk V sb m n t q6 q7) (K : Kept (fun g => m ≤ g ∧ g < n) V V') : RowsOk V' sb m n t q6 q7 :=
  ⟨ownsRow_keep R.nodes (fun g hg => K.block g (ownsRow_blk R.nodes hg) (fun h => by have h : m ≤ g ∧ g < n := h; have := (R.in6 g hg).2; omega)), ownsRow_keep R.sigs (fun g hg => K.block g (ownsRow_blk R.sigs hg) (fun h => by have h : m ≤ g ∧ g < n := h; have := (R.in7 g hg).2; omega)), R.in6, R.in7⟩

def nineAtS (V : World) (b : Nat) (t : St) (p6 p7 : Value) : World := ((((((((V.setCell ⟨b, 0, none⟩ (.string t.dfn)).setCell ⟨b, 1, none⟩ (.string t.id)).setCell ⟨b, 2, none⟩ (.string t.par)).setCell ⟨b, 3, none⟩ (.string t.pnode)).setCell ⟨b, 4, none⟩ (.int .i64 t.status)).setCell ⟨b, 5, none⟩ (.string t.text)).setCell ⟨b, 6, none⟩ p6).setCell ⟨b, 7, none⟩ p7).setCell ⟨b, 8, none⟩ (.int .i64 t.events)

theorem nineAtS_kept {S : Nat → Prop} (V : World) {b : Nat} (hS : S b) (t : St) (p6 p7 : Value) : Kept S V (nineAtS V b t p6 p7) :=
  kept9 V hS _ _ _ _ _ _ _ _ _

theorem nineAtS_blk {V : World} {b : Nat} {T : TypeId} {u0 u1 u2 u3 u4 u5 u6 u7 u8 p6 p7 : Value} {t : St} (h : V.heap[b]? = some (.cells #[u0, u1, u2, u3, u4, u5, u6, u7, u8] T (0, 0))) :
    (nineAtS V b t p6 p7).heap[b]? = some (.cells #[.string t.dfn, .string t.id, .string t.par, .string t.pnode, .int .i64 t.status, .string t.text, p6, p7, .int .i64 t.events] T (0, 0)) :=
  put9 h _ _ _ _ _ _ _ _ _

theorem nineAtS_size (V : World) (b : Nat) (t : St) (p6 p7 : Value) : (nineAtS V b t p6 p7).heap.size = V.heap.size := by unfold nineAtS; simp [World.setCell]

/-- The state's block, written: the state stands there. -/
theorem RowsOk.put {V : World} {sb m n : Nat} {t : St} {q6 q7 u0 u1 u2 u3 u4 u5 u6 u7 u8 : Value} (R : RowsOk V sb m n t q6 q7) (h : V.heap[sb]? = some (.cells #[u0, u1, u2, u3, u4, u5, u6, u7, u8] 33 (0, 0))) :
    StIn (nineAtS V sb t q6 q7) (fun g => g < (nineAtS V sb t q6 q7).heap.size) sb 0 33 [] [] t q6 q7 := by
  have KK := nineAtS_kept (S := fun j => j = sb) V rfl t q6 q7
  have hz := nineAtS_size V sb t q6 q7
  have hb := nineAtS_blk (t := t) (p6 := q6) (p7 := q7) h
  have hlt := (Array.getElem?_eq_some_iff.1 hb).1
  exact ⟨hb, rfl, ownsRow_keep R.nodes (fun g hg => KK.block g (ownsRow_blk R.nodes hg) (R.in6 g hg).1), ownsRow_keep R.sigs (fun g hg => KK.block g (ownsRow_blk R.sigs hg) (R.in7 g hg).1), hlt, fun g hg => ⟨by rw [hz]; exact ownsRow_blk R.nodes hg, (R.in6 g hg).1⟩, fun g hg => ⟨by rw [hz]; exact ownsRow_blk R.sigs hg, (R.in7 g hg).1⟩, fun g h => h⟩

/-- A state laid in a block of its own, its rows below. -/
theorem st_laid {V : World} {t : St} {q6 q7 : Value} (h6 : V.ownsRow 0 61 3 q6 t.nodes.length (nsF t.nodes)) (h7 : V.ownsRow 0 88 2 q7 t.sigs.length (sgF t.sigs)) :
    StIn (V.alloc (.cells #[.string t.dfn, .string t.id, .string t.par, .string t.pnode, .int .i64 t.status, .string t.text, q6, q7, .int .i64 t.events] 33)) (fun g => g < (V.alloc (.cells #[.string t.dfn, .string t.id, .string t.par, .string t.pnode, .int .i64 t.status, .string t.text, q6, q7, .int .i64 t.events] 33)).heap.size) V.heap.size 0 33 [] [] t q6 q7 := by
  have K := Kept.alloc (fun _ => False) V (.cells #[.string t.dfn, .string t.id, .string t.par, .string t.pnode, .int .i64 t.status, .string t.text, q6, q7, .int .i64 t.events] 33)
  have hb := heap_alloc_new V (.cells #[.string t.dfn, .string t.id, .string t.par, .string t.pnode, .int .i64 t.status, .string t.text, q6, q7, .int .i64 t.events] 33)
  have hlt := (Array.getElem?_eq_some_iff.1 hb).1
  exact ⟨hb, rfl, ownsRow_keep h6 (fun g hg => K.block g (ownsRow_blk h6 hg) (fun h => h)), ownsRow_keep h7 (fun g hg => K.block g (ownsRow_blk h7 hg) (fun h => h)), hlt, fun g hg => ⟨Nat.lt_trans (ownsRow_blk h6 hg) hlt, Nat.ne_of_lt (ownsRow_blk h6 hg)⟩, fun g hg => ⟨Nat.lt_trans (ownsRow_blk h7 hg) hlt, Nat.ne_of_lt (ownsRow_blk h7 hg)⟩, fun g h => h⟩

theorem ap_join {w9 w5 w6 : World} {x : Option St} {t t1 t2 : St} {sb B B2 : Nat} {v6 v7 p6 p7 q6 q7 : Value} {z z2 : Int} (S : StIn w9 (fun g => g < w9.heap.size) sb 0 33 [] [] t v6 v7) (K5 : Kept (fun _ => False) w9 w5) (K6 : Kept (fun _ => False) w5 w6) (hB2 : w5.heap.size ≤ B2)
    (hQ : HApQ x t B w5 t1 p6 p7 z) (hQ2 : RApQ x t v6 v7 B2 w6 t2 q6 q7 z2) : t2 = t1 ∧ z2 = z ∧ t1 = x.getD t ∧ (z = 0 ∨ z = 12 ∧ t1 = t) ∧ RowsOk w6 sb w9.heap.size w5.heap.size t2 q6 q7 := by
  obtain ⟨h1, h2, O⟩ := hQ
  have hlt := S.lt
  have h5 := K5.size
  cases x with
  | none =>
    obtain ⟨g1, g2, rfl, rfl⟩ := hQ2
    subst g2
    have h1 : t1 = t2 := h1
    have h2 : z = 12 := h2
    subst h1 h2 g1
    exact ⟨rfl, rfl, rfl, .inr ⟨rfl, rfl⟩, ownsRow_keep S.nodes (fun g hg => (K5.and K6).block g (ownsRow_blk S.nodes hg) (fun h => h)), ownsRow_keep S.sigs (fun g hg => (K5.and K6).block g (ownsRow_blk S.sigs hg) (fun h => h)), fun g hg => ⟨(S.in6 g hg).2, .inl (S.in6 g hg).1⟩, fun g hg => ⟨(S.in7 g hg).2, .inl (S.in7 g hg).1⟩⟩
  | some t' =>
    obtain ⟨g1, g2, O2⟩ := hQ2
    have h1 : t1 = t' := h1
    have h2 : z = 0 := h2
    subst g2 g1 h1 h2
    refine ⟨rfl, rfl, rfl, .inl rfl, ownsRow_low O2.nodes (Nat.zero_le _), ownsRow_low O2.sigs (Nat.zero_le _), fun g hg => ?_, fun g hg => ?_⟩
    · have := (O2.nodes.lt g hg).1
      exact ⟨by omega, .inr (by omega)⟩
    · have := (O2.sigs.lt g hg).1
      exact ⟨by omega, .inr (by omega)⟩

theorem ap_fit {nm : ByteArray} {ns : List Nd} {t t1 : St} {e : Ev} (hb : Bare t) (hn : ns.length ≤ 1000000) (h6 : t.nodes.length ≤ 1000000) (h : t1 = (changeP nm ns t e).getD t) : Bare t1 ∧ t1.nodes.length ≤ 1000000 ∧ t1.sigs.length ≤ t.sigs.length + 1 ∧ t.events ≤ t1.events ∧ t1.events ≤ t.events + 1 := by
  cases hp : changeP nm ns t e with
  | none =>
    rw [hp] at h
    have h : t1 = t := h
    subst h
    exact ⟨hb, h6, by omega, by omega, by omega⟩
  | some t' =>
    rw [hp] at h
    have h : t1 = t' := h
    subst h
    obtain ⟨f1, f2, f3, -, -⟩ := changeP_fit hp hn h6
    exact ⟨changeP_bare hb hp, f1, f2, by omega, by omega⟩

theorem evF_take (l : List Ev) (n : Nat) : (evF l).take (n * 4) = evF (l.take n) := by
  induction l generalizing n with
  | nil => simp [evF]
  | cons e l ih =>
    cases n with
    | zero => simp [evF]
    | succ n =>
      have h : evF (e :: l) = evC e ++ evF l := by simp [evF]
      have h2 : evF ((e :: l).take (n + 1)) = evC e ++ evF (l.take n) := by simp [evF]
      rw [h, h2, ← ih n, show (n + 1) * 4 = (evC e).length + n * 4 by rw [evC_len]; omega, List.take_length_add_append]

theorem PlSt.rows {w2 wr : World} {pb : Nat} {nm : ByteArray} {a : Option Addr} {c : Nat} {ns : List Nd} {k : Nat} {s : St} {l : List Ev} (X : PlSt w2 wr pb nm a c ns k s l) : ∃ (a6 : Option Addr) (c6 : Nat) (a7 : Option Addr) (c7 : Nat) (v11 : Value), wr.heap[pb]? = some (.cells #[.string nm, .slice a ns.length c, .string s.dfn, .string s.id, .string s.par, .string s.pnode, .int .i64 s.status, .string s.text, .slice a6 s.nodes.length c6, .slice a7 s.sigs.length c7, .int .i64 s.events, v11] 36 (0, 0)) ∧ wr.ownsRow 0 61 3 (.slice a6 s.nodes.length c6) s.nodes.length (nsF s.nodes) ∧ wr.ownsRow 0 88 2 (.slice a7 s.sigs.length c7) s.sigs.length (sgF s.sigs) := by
  obtain ⟨⟨H, v6, v7, v11, E, P⟩, M, hl⟩ := X
  obtain ⟨a6, c6, rfl⟩ := ownsRow_shape P.nodes
  obtain ⟨a7, c7, rfl⟩ := ownsRow_shape P.sigs
  exact ⟨a6, c6, a7, c7, v11, P.blk, P.nodes, P.sigs⟩

end Go.Proofs.YtfjekjbkifmpfaaDoor.Rf

/-
  A row of events that is handed in, opened.
-/
namespace Go.Proofs.YtfjekjbkifmpfaaDoor
open Go.ChangeShapes Go.WideShapes Go.ChangeAt Go.RowKit Go.Deep

variable {H : Type} {enc : TypeId × Value → H} {W : World} {base : Nat} {held : Bool}

set_option maxRecDepth 100000 in
theorem ev_open {fuel : Nat} {cs : List Value} {x : DataW H × List MemPlace} (h : DataW.trod enc Tryd.prog W base (fun _ => true) held fuel 51 cs = some x) (hl : cs.length = 4) : ∃ q, cs = evC q := by
  match cs, hl with
  | [c0, c1, c2, c3], _ =>
    have kS : Tryd.prog.cellsOf 9 = 1 := by kernel_rfl
    have kI : Tryd.prog.cellsOf 3 = 1 := by kernel_rfl
    obtain ⟨ys, n, _, rfl, hl, hlen, hf⟩ := DataW.trod_struct Tryd.underlying51 h
    match ys, hlen with
    | [z0, z1, z2, z3], _ =>
      have t0 : DataW.trod enc Tryd.prog W base (fun _ => true) held n 3 [c0] = some z0 := by simpa [kI] using hf 0 _ rfl
      have t1 : DataW.trod enc Tryd.prog W base (fun _ => true) held n 9 [c1] = some z1 := by simpa [kS] using hf 1 _ rfl
      have t2 : DataW.trod enc Tryd.prog W base (fun _ => true) held n 9 [c2] = some z2 := by simpa [kS] using hf 2 _ rfl
      have t3 : DataW.trod enc Tryd.prog W base (fun _ => true) held n 3 [c3] = some z3 := by simpa [kI] using hf 3 _ rfl
      obtain ⟨x0, e0, _⟩ := DataW.trod_int Tryd.underlying3 t0
      obtain ⟨x1, e1, _⟩ := DataW.trod_string Tryd.underlying9 t1
      obtain ⟨x2, e2, _⟩ := DataW.trod_string Tryd.underlying9 t2
      obtain ⟨x3, e3, _⟩ := DataW.trod_int Tryd.underlying3 t3
      simp only [List.cons.injEq, and_true] at e0 e1 e2 e3
      subst e0 e1 e2 e3
      exact ⟨⟨x0, x1, x2, x3⟩, rfl⟩

set_option maxRecDepth 100000 in
theorem evs_open {fuel : Nat} {v : Value} {x : DataW H × List MemPlace} (h : DataW.trod enc Tryd.prog W base (fun _ => true) held fuel 34 [v] = some x) :
    ∃ a c l, v = .slice a l.length c ∧ FlatAt W 4 (.slice a l.length c) l.length (evF l) := by
  have kO : Tryd.prog.cellsOf 51 = 4 := by kernel_rfl
  rcases Deep.open_slice Tryd.underlying34 h with ⟨hcs, hx⟩ | ⟨a, len, cap, m, n, D, Pl, hcs, hb, hl, hm, hmm, hx, hel⟩
  · simp only [List.cons.injEq, and_true] at hcs
    subst hcs
    exact ⟨none, 0, [], rfl, rfl, none, 0, rfl, Nat.le_refl _, Nat.zero_le _, .inl rfl⟩
  · simp only [List.cons.injEq, and_true] at hcs
    subst hcs
    have hlm : len ≤ m := by rw [hmm]; split <;> omega
    have each : ∀ i, i < len → ∃ q : Ev, ∀ j, j < 4 → W.cell? (a.add (i * 4 + j)) = (evC q)[j]? := by
      intro i hi
      obtain ⟨cs', h1, h2⟩ := hel i (by omega)
      rw [kO] at h1
      obtain ⟨_, hlen, hcell⟩ := World.cells?_some h1
      obtain ⟨q, rfl⟩ := ev_open h2 hlen
      refine ⟨q, fun j hj => ?_⟩
      rw [← Deep.add_add]
      exact hcell j hj
    haveI : Inhabited Ev := ⟨⟨0, ⟨#[]⟩, ⟨#[]⟩, 0⟩⟩
    obtain ⟨q, hq⟩ := Deep.choose_lt each
    rcases Nat.eq_zero_or_pos len with h0 | h0
    · subst h0
      exact ⟨some a, cap, [], rfl, rfl, some a, cap, rfl, Nat.zero_le _, hm, .inl rfl⟩
    · have h00 := hq 0 h0 0 (by decide)
      obtain ⟨u0, hu0⟩ : ∃ u, (evC (q 0))[0]? = some u := ⟨_, rfl⟩
      rw [hu0] at h00
      obtain ⟨b, off, rfl⟩ := addr_form (v := u0) (by simpa using h00)
      obtain ⟨l, hle⟩ : ∃ l, l = (List.range len).map q := ⟨_, rfl⟩
      have hll : l.length = len := by rw [hle]; simp
      refine ⟨some ⟨b, off, none⟩, cap, l, by rw [hll], flatMap_len evC_len l, some ⟨b, off, none⟩, cap, rfl, by rw [hll]; exact hl, hm, .inr ⟨b, off, rfl, fun j u hu => ?_⟩⟩
      have hj : j < l.length * 4 := by
        have h := (List.getElem?_eq_some_iff.1 hu).1
        have e : (evF l).length = l.length * 4 := flatMap_len evC_len l
        omega
      have hi : j / 4 < l.length := by omega
      have hr : j % 4 < 4 := Nat.mod_lt _ (by decide)
      have hd : j / 4 * 4 + j % 4 = j := by omega
      have h2 := evF_at (l := l) hi (j % 4) hr
      rw [hd, hu] at h2
      have e : l[j / 4] = q (j / 4) := by subst hle; simp
      rw [e] at h2
      have h3 := hq (j / 4) (by omega) (j % 4) hr
      rw [← h2, hd, Addr.add_lit] at h3
      exact h3

end Go.Proofs.YtfjekjbkifmpfaaDoor

/-
  HistoryApply holds for every definition and inputs: the law's call returns true and leaves its arguments as they were. No condition; the listed variable is tied to the program's text.
-/
namespace Go.Proofs.YtfjekjbkifmpfaaDoor.Rf
open Go.ChangeShapes Go.WideShapes Go.ChangeAt Go.RowKit Go.Deep

theorem _root_.Go.Proofs.YtfjekjbkifmpfaaDoor.FlatAt.fits {w : World} {sz n c : Nat} {a : Option Addr} {l : List Value} (F : FlatAt w sz (.slice a n c) n l) : n ≤ c := by
  obtain ⟨_, a', c', e, hc, _⟩ := F
  simp only [Value.slice.injEq] at e
  omega

theorem foldP_fit {nm : ByteArray} {ns : List Nd} : ∀ (l : List Ev) (s t : St), ns.length ≤ 1000000 → s.nodes.length ≤ 1000000 → foldP nm ns s l = some t → t.nodes.length ≤ 1000000 ∧ t.sigs.length ≤ s.sigs.length + l.length
  | [], s, t, _, h6, h => by
    have h : some s = some t := h
    cases h
    exact ⟨h6, by simp⟩
  | e :: l, s, t, hn, h6, h => by
    unfold foldP at h
    cases hp : changeP nm ns s e with
    | none =>
      rw [hp] at h
      cases h
    | some s' =>
      rw [hp] at h
      obtain ⟨f1, f2, -, -, -⟩ := changeP_fit hp hn h6
      have := foldP_fit l s' t hn f1 h
      rw [List.length_cons]
      omega

theorem foldP_few {nm fl : ByteArray} {ns : List Nd} {l : List Ev} (H : l.length ≤ 1000000 ∧ ns.length ≤ 1000000) {t : St} (h : t = (foldP nm ns { zeroSt with id := fl } l).getD zeroSt) : t.nodes.length ≤ 1000000 ∧ t.sigs.length ≤ 1000000 := by
  cases hp : foldP nm ns { zeroSt with id := fl } l with
  | none =>
    rw [hp] at h
    have h : t = zeroSt := h
    subst h
    exact ⟨Nat.zero_le _, Nat.zero_le _⟩
  | some t' =>
    rw [hp] at h
    have h : t = t' := h
    subst h
    have h0 : ({ zeroSt with id := fl } : St).sigs.length = 0 := rfl
    have := foldP_fit l _ _ H.2 (Nat.zero_le _) hp
    omega

set_option maxRecDepth 100000 in
set_option maxHeartbeats 8000000 in
theorem historyApply_walk (name : ByteArray) (a : Option Addr) (c : Nat) (ns0 : List Nd) (ai : Option Addr) (ci : Nat) (ins : List Inp) (al : Option Addr) (cl : Nat) (l : List Ev) (w : World) (R0 : RawAt w a ns0) (hnm : name.size ≤ maxLen) (hc : ns0.length ≤ c) (I0 : InsAt w ai ins) (hi0 : ins.length ≤ ci ∧ ci ≤ maxLen) (E0 : FlatAt w 4 (.slice al l.length cl) l.length (evF l)) (M : MovesAt w) :
    Calls Tryd.prog 5 #[.agg #[.string name, .slice a ns0.length c], .slice ai ins.length ci, .slice al l.length cl] w fun e w' => e = .returned (.bool true) ∧ Below w.heap.size w w' := by
  have hCut := hcut_any (w.alloc (.cells #[.string name, .slice a ns0.length c] 24)) name a ns0.length c ns0 rfl hc
  obtain ⟨ns, hns⟩ : ∃ ns, ns = ns0.take 32 := ⟨_, rfl⟩
  rw [← hns] at hCut
  have R : RawAt w a ns := by rw [hns]; exact R0.take 32
  have h32 : ns.length ≤ 32 := by rw [hns, List.length_take]; omega
  have HTk : Hid (∀ b, decide ((checkP name ns).2 = 0) = b → ∀ V, RawAt V a ns → Calls Tryd.prog 10 #[.agg #[.string name, .slice a ns.length c]] V fun e w' => e = .returned (.bool b) ∧ Kept (fun _ => False) V w') := fun b hb V RV => taken_any V name a _ c _ RV rfl h32 hnm b hb
  have HR := hid R
  have HM := hid M
  have HI := hid I0
  have HE := hid E0
  clear E0
  have hil : ins.length ≤ ci := hi0.1
  have him : ins.length ≤ 9223372036854775807 := by have : maxLen = 9223372036854775807 := rfl; omega
  clear R R0 M hns hc I0 hi0
  by_cases hT : (checkP name ns).2 = 0
  · have T := taken_of hT
    have HT := hid T
    have HTk2 := hid (HTk.out true (by simp [hT]))
    clear HTk hT T
    go_enter Tryd.func5, Tryd.ntmps5
    go_upto_region 4 with (first
      | (go_at_call 9; refine hCut.mono ?_; rintro e w1 ⟨rfl, K1⟩; clear hCut; obtain ⟨_, f0, f1⟩ := pairF ((K1.block w.heap.size (by simp) (fun h => h)).trans (heap_alloc_new _ _)); have hb := cut_box (n' := ns.length) K1 HR.out; obtain ⟨⟨x0, x1⟩, _, _⟩ := pairF hb.1; have hTk := HTk2.out _ hb.2.2; have HB := hid hb; clear hb)
      | (go_at_call 10; refine hTk.mono ?_; rintro e w2 ⟨rfl, K2⟩; clear hTk)
      | fail)
    have hb2 := (K2.block _ (Array.getElem?_eq_some_iff.1 HB.out.1).1 (fun h => h)).trans HB.out.1
    have HK2 := hid (HB.out.2.1.and K2)
    have HD2 := hid (HT.out.at (keptRaw K2 HB.out.2.2) (HM.out.kept HK2.out (fun h => h)))
    obtain ⟨⟨d0, d1⟩, _, _⟩ := pairF hb2
    have HX0 := hid (PlSt.start (nm := name) (c := c) HD2.out)
    have HBX := hid hb2
    clear HTk2 K2 HB f0 f1 x0 x1 K1 hb2
    go_wp2_with fail
    go_loopw [8] (fun q wr => ∃ (i : Nat) (s : St) (lv : List Ev), i ≤ ins.length ∧ i ≤ 20 ∧ q = .int .i64 i ∧ PlSt w2 wr w2.heap.size name a c ns i s lv) (fun q _ => ins.length - (intOf q).toNat)
    case atStart => exact ⟨0, zeroSt, [], Nat.zero_le _, Nat.zero_le _, rfl, HX0.out⟩
    case round =>
      clear HX0
      obtain ⟨i, s, lv, hi, hi60, rfl, X⟩ := hrel
      by_cases hgo : i < ins.length ∧ i < 20
      · obtain ⟨hlt, h60⟩ := hgo
        have e0 : (i : Int) < (ins.length : Int) := by omega
        have e1 : (i : Int) < 20 := by omega
        obtain ⟨bi, oi, rfl, hI⟩ := HI.out.at hlt
        obtain ⟨i0, i1, i2, i3, i4, i5, i6, i7, i8⟩ := hI wr (HK2.out.and X.keep)
        obtain ⟨p, hp⟩ : ∃ p, p = clipQ ins[i] := ⟨_, rfl⟩
        have hpt : p.text.size ≤ 300 := by rw [hp]; exact clipQ_text _
        have hpn : p.name.size ≤ 300 := by rw [hp]; exact clipQ_name _
        have hClip : Calls Tryd.prog 13 #[.agg #[.int .i64 (ins[i]).kind, .string (ins[i]).node, .string (ins[i]).name, .string (ins[i]).text, .int .i64 (ins[i]).tr, .int .i64 (ins[i]).status, .int .i64 (ins[i]).now, .string (ins[i]).par, .string (ins[i]).pnode]] wr fun e w' => e = .returned (.agg #[.int .i64 p.kind, .string p.node, .string p.name, .string p.text, .int .i64 p.tr, .int .i64 p.status, .int .i64 p.now, .string p.par, .string p.pnode]) ∧ Kept (fun _ => False) wr w' := by
          rw [hp]
          exact clip_any wr ins[i] (fun V => within_wide V _ _ (by decide) (by decide))
        have hIn := fun V (KV : Kept (fun _ => False) wr V) => play_input (X.new KV) HT.out (by omega) p hpn (Nat.le_trans hpt (by decide))
        unfold inpV at hIn
        clear X hI hp d0 d1
        go_wp2_with (first
          | (go_at_call 13; refine hClip.mono ?_; rintro e w6 ⟨rfl, K6⟩; clear hClip)
          | (go_at_call 12; refine (hIn _ K6).mono ?_; rintro e w7 ⟨rfl, X7, K7⟩; clear hIn)
          | fail)
        go_roundw
        case rel => exact ⟨i + 1, _, _, by omega, by omega, by go_num, X7⟩
        case measure => simp [intOf]; omega
      · have hcs : (¬ ((i : Int) < (ins.length : Int))) ∨ (((i : Int) < (ins.length : Int)) ∧ ¬ ((i : Int) < 20)) := by omega
        generalize wr = wo at *
        obtain ⟨a6, c6, a7, c7, v11, hblk, o6, o7⟩ := X.rows
        have Z := X.2.1.small (by omega)
        have hm32 := X.2.1.nod
        have hbare : Bare s := X.2.1.met.1
        have hz1 := Z.sigs
        have hz2 := Z.ev0
        have hz3 := Z.ev1
        have KX := X.keep
        have hw2 := KX.size
        have HS0 := hid (st_laid (t := s) o6 o7)
        have HK0 : Hid (Kept (fun _ => False) w2 (wo.alloc (.cells #[.string s.dfn, .string s.id, .string s.par, .string s.pnode, .int .i64 s.status, .string s.text, .slice a6 s.nodes.length c6, .slice a7 s.sigs.length c7, .int .i64 s.events] 33))) := KX.and (Kept.alloc _ _ _)
        have Hbare := hid hbare
        obtain ⟨⟨_, _, x2, x3, x4, x5, x6, x7, x8, x9, x10, _⟩, _⟩ := twelve hblk
        obtain ⟨⟨m0, m1, m2, m3, m4, m5, m6, m7, m8⟩, n0, n1, n2, n3, n4, n5, n6, n7, n8⟩ := nine (heap_alloc_new wo (.cells #[.string ⟨#[]⟩, .string ⟨#[]⟩, .string ⟨#[]⟩, .string ⟨#[]⟩, .int .i64 0, .string ⟨#[]⟩, .slice none 0 0, .slice none 0 0, .int .i64 0] 33))
        clear X hgo d0 d1 Z KX o6 o7 hbare hblk
        rcases hcs with e0 | ⟨e0, e1⟩
        all_goals
          go_upto_region 11 with fail
          clear m0 m1 m2 m3 m4 m5 m6 m7 m8 n0 n1 n2 n3 n4 n5 n6 n7 n8 x2 x3 x4 x5 x6 x7 x8 x9 x10
          go_wp2_with fail
          go_loopw [10] (fun q wr => ∃ (k : Nat) (t : St) (u6 u7 : Value), k ≤ l.length ∧ k ≤ 30 ∧ q = .int .i64 k ∧ StIn wr (fun g => g < wr.heap.size) wo.heap.size 0 33 [] [] t u6 u7 ∧ Bare t ∧ t.nodes.length ≤ 1000000 ∧ t.sigs.length ≤ 100000 + k ∧ 0 ≤ t.events ∧ t.events ≤ 100000 + k ∧ Kept (fun _ => False) w2 wr) (fun q _ => l.length - (intOf q).toNat)
          case atStart => exact ⟨0, s, _, _, Nat.zero_le _, Nat.zero_le _, rfl, HS0.out, Hbare.out, by omega, by omega, by omega, by omega, HK0.out⟩
          case round =>
            clear HS0 HK0 e0 Hbare
            obtain ⟨k, t, u6, u7, hk, hk30, rfl, S, hbr, hnd, hsg, hev0, hev1, K⟩ := hrel
            have hdb := (K.block _ (Array.getElem?_eq_some_iff.1 HBX.out).1 (fun h => h)).trans HBX.out
            obtain ⟨⟨d0, d1⟩, _, _⟩ := pairF hdb
            obtain ⟨ta6, tc6, rfl⟩ := ownsRow_shape S.nodes
            obtain ⟨ta7, tc7, rfl⟩ := ownsRow_shape S.sigs
            have hx9 := S.blk
            change wr.heap[wo.heap.size]? = some (.cells #[.string t.dfn, .string t.id, .string t.par, .string t.pnode, .int .i64 t.status, .string t.text, .slice ta6 t.nodes.length tc6, .slice ta7 t.sigs.length tc7, .int .i64 t.events] 33 (0, 0)) at hx9
            obtain ⟨⟨l0, l1, l2, l3, l4, l5, l6, l7, l8⟩, _⟩ := nine hx9
            by_cases hgo : k < l.length ∧ k < 30
            · obtain ⟨hlt, h30⟩ := hgo
              have f0 : (k : Int) < (l.length : Int) := by omega
              have f1 : (k : Int) < 30 := by omega
              obtain ⟨hlc, b, o, rfl, x0, x1, x2, x3⟩ := flat_ev (HE.out.new (HK2.out.and K)) hlt
              have hA := fun V (KV : Kept (fun _ => False) wr.drew V) => Calls.mono (hApply_any V name a c ns ((HD2.out.new K).new ((Kept.drew _ _).and KV)).nodes (by omega) ((HD2.out.new K).new ((Kept.drew _ _).and KV)).low ((HD2.out.new K).new ((Kept.drew _ _).and KV)).moves t _ _ ((S.rd hnd (by omega)).new ((Kept.drew _ _).and KV)) hev0 (by omega) l[k]) (fun e w' h => HApPost.open h)
              have hR := fun V (KV : Kept (fun _ => False) wr V) => Calls.mono (refApply_any V name a c ns ((HD2.out.new K).new KV).nodes (by omega) t _ _ ((S.rd hnd (by omega)).new KV) hev0 (by omega) l[k]) (fun e w' h => ApPost.opens h)
              have HS := hid S
              have HK29 := hid K
              have Hbr := hid hbr
              have HR := hid hR
              have Hdb := hid hdb
              have Hx9 := hid hx9
              clear S K hbr hR hdb hx9
              go_upto_region 14 with fail
              refine wp_onlyN (ap14 (n := l.length) (i := k) (Q := HApQ (changeP name ns t l[k]) t) _ d0 d1 l0 l1 l2 l3 l4 l5 l6 l7 l8 x0 x1 x2 x3 hlt hA HApQ.keep ?_)
              intro _ _ _ _ _ _ _ _ _ _ mb B t1 b6 e6 b7 e7 z w5 hmb hB hbx hQ K5
              have y := fun {p : Addr} {v : Value} (h : wr.cell? p = some v) => keepC K5 h (fun _ _ h => h)
              have hR := fun V (KV : Kept (fun _ => False) w5.drew V) => HR.out V (K5.and ((Kept.drew _ _).and KV))
              have hmb' := (Array.getElem?_eq_some_iff.1 hbx).1
              go_upto_region 15 with fail
              refine wp_onlyN (ap15 (n := l.length) (i := k) (Q := RApQ (applyR name ns t l[k]) t (.slice ta6 t.nodes.length tc6) (.slice ta7 t.sigs.length tc7)) _ (y d0) (y d1) (y l0) (y l1) (y l2) (y l3) (y l4) (y l5) (y l6) (y l7) (y l8) (y x0) (y x1) (y x2) (y x3) hlt hR RApQ.keep ?_)
              intro _ _ _ _ _ _ _ _ _ _ mb2 B2 t2 f6 g6 f7 g7 z2 w6 hmb2 hB2 hbx2 hQ2 K6
              rw [apply_same Hbr.out] at hQ2
              obtain ⟨rfl, rfl, htx, hzz, hRW⟩ := ap_join HS.out K5 K6 hB2 hQ hQ2
              obtain ⟨hbr2, hnd2, hsg2, hev2, hev3⟩ := ap_fit (nm := name) (ns := ns) (e := l[k]) Hbr.out (by omega) hnd htx
              have OA : Hid (StOwn w6 B t2 (.slice b6 t2.nodes.length e6) (.slice b7 t2.sigs.length e7)) := ⟨ownsRow_keep hQ.2.2.nodes (fun g hg => K6.block g (ownsRow_blk hQ.2.2.nodes hg) (fun h => h)), ownsRow_keep hQ.2.2.sigs (fun g hg => K6.block g (ownsRow_blk hQ.2.2.sigs hg) (fun h => h))⟩
              have InA : Hid ((∀ g, (Value.slice b6 t2.nodes.length e6).ownBlock = some g → wr.heap.size ≤ g ∧ g < w5.heap.size) ∧ (∀ g, (Value.slice b7 t2.sigs.length e7).ownBlock = some g → wr.heap.size ≤ g ∧ g < w5.heap.size)) := ⟨fun g hg => ⟨Nat.le_trans hB (hQ.2.2.nodes.lt g hg).1, (hQ.2.2.nodes.lt g hg).2⟩, fun g hg => ⟨Nat.le_trans hB (hQ.2.2.sigs.lt g hg).1, (hQ.2.2.sigs.lt g hg).2⟩⟩
              have RW := hid hRW
              have Hbr2 := hid hbr2
              have HmA : Hid (w6.heap[mb]? = some _ ∧ mb < w6.heap.size) := ⟨(K6.block mb hmb' (fun h => h)).trans hbx, Nat.lt_of_lt_of_le hmb' K6.size⟩
              have HmB : Hid (w6.heap[mb2]? = some _ ∧ mb2 < w6.heap.size) := ⟨hbx2, (Array.getElem?_eq_some_iff.1 hbx2).1⟩
              have hsbl := (Array.getElem?_eq_some_iff.1 Hx9.out).1
              have HSb : Hid (w6.heap[wo.heap.size]? = some _ ∧ wo.heap.size < w6.heap.size) := ⟨((K5.and K6).block _ hsbl (fun h => h)).trans Hx9.out, Nat.lt_of_lt_of_le hsbl (K5.and K6).size⟩
              have HK56 := hid (K5.and K6)
              have hs5 := K5.size
              have hs9 := HK29.out.size
              clear d0 d1 l0 l1 l2 l3 l4 l5 l6 l7 l8 x0 x1 x2 x3 y hR hQ hQ2 hRW hbr2 hbx hbx2 htx
              obtain ⟨⟨ra0, ra1, ra2, ra3, ra4, ra5, ra6, ra7, ra8⟩, _⟩ := nine HmA.out.1
              obtain ⟨⟨rb0, rb1, rb2, rb3, rb4, rb5, rb6, rb7, rb8⟩, _⟩ := nine HmB.out.1
              obtain ⟨⟨rc0, rc1, rc2, rc3, rc4, rc5, rc6, rc7, rc8⟩, _⟩ := nine HSb.out.1
              clear K5 K6
              rcases hzz with rfl | ⟨rfl, rfl⟩
              all_goals
                have hSm1 := stateSame_any w6 t2 _ _ _ _ _ _ _ _ ⟨flat_of_owns OA.out.nodes, flat_of_owns OA.out.sigs, hnd2, by omega⟩ ⟨flat_of_owns RW.out.nodes, flat_of_owns RW.out.sigs, hnd2, by omega⟩
                (first
                  | (have hSm2 := fun V (KV : Kept (fun _ => False) w6 V) => stateSame_any V t2 _ _ _ _ _ _ _ _ (StRd.new ⟨flat_of_owns OA.out.nodes, flat_of_owns OA.out.sigs, hnd2, by omega⟩ KV) (((HS.out.rd hnd (by omega)).new HK56.out).new KV)
                     have HSm2 := hid hSm2
                     clear hSm2)
                  | skip)
                go_upto_region 18 with (first
                  | (go_at_call 15; refine hSm1.mono ?_; rintro e w10 ⟨rfl, K10⟩; clear hSm1; obtain ⟨⟨ra0, ra1, ra2, ra3, ra4, ra5, ra6, ra7, ra8⟩, _⟩ := nine ((K10.block mb HmA.out.2 (fun h => h)).trans HmA.out.1); obtain ⟨⟨rc0, rc1, rc2, rc3, rc4, rc5, rc6, rc7, rc8⟩, _⟩ := nine ((K10.block wo.heap.size HSb.out.2 (fun h => h)).trans HSb.out.1); (first | have hSm2 := HSm2.out w10 K10 | skip); have HKa := hid K10; clear K10)
                  | (go_at_call 15; refine hSm2.mono ?_; rintro e w11 ⟨rfl, K11⟩; clear hSm2; have HK11 := hid (HKa.out.and K11); clear K11)
                  | fail)
                (first
                  | (have HK10 := hid HK11.out
                     generalize w11 = wz at *)
                  | (have HK10 := hid HKa.out
                     generalize w10 = wz at *))
                obtain ⟨⟨ra0, ra1, ra2, ra3, ra4, ra5, ra6, ra7, ra8⟩, _⟩ := nine ((HK10.out.block mb HmA.out.2 (fun h => h)).trans HmA.out.1)
                have oA6 := ownsRow_keep OA.out.nodes (fun g hg => HK10.out.block g (ownsRow_blk OA.out.nodes hg) (fun h => h))
                have oA7 := ownsRow_keep OA.out.sigs (fun g hg => HK10.out.block g (ownsRow_blk OA.out.sigs hg) (fun h => h))
                have h1 := spoilState_any wz t2 _ _ _ _ (ownsRow_low oA6 (Nat.zero_le _)) (ownsRow_low oA7 (Nat.zero_le _)) hnd2 (by omega)
                clear oA6 oA7
                go_upto_region 19 with (first
                  | (go_at_call 20; refine h1.mono ?_; rintro e w7 ⟨rfl, K7⟩; clear h1)
                  | fail)
                have KS : Kept (fun g => wr.heap.size ≤ g ∧ g < w5.heap.size) wz w7 := K7.mono (fun g h => h.elim (InA.out.1 g) (InA.out.2 g))
                clear K7
                have R7 := (RW.out.keep (HK10.out.mono (fun _ h => h.elim))).keep KS
                have hbx7 := (KS.block mb2 (Nat.lt_of_lt_of_le HmB.out.2 HK10.out.size) (fun h => by have h : _ ∧ mb2 < w5.heap.size := h; omega)).trans ((HK10.out.block mb2 HmB.out.2 (fun h => h)).trans HmB.out.1)
                have hsb7 := (KS.block wo.heap.size (Nat.lt_of_lt_of_le HSb.out.2 HK10.out.size) (fun h => by have h : wr.heap.size ≤ wo.heap.size ∧ _ := h; omega)).trans ((HK10.out.block wo.heap.size HSb.out.2 (fun h => h)).trans HSb.out.1)
                obtain ⟨⟨rb0, rb1, rb2, rb3, rb4, rb5, rb6, rb7, rb8⟩, _⟩ := nine hbx7
                obtain ⟨⟨rc0, rc1, rc2, rc3, rc4, rc5, rc6, rc7, rc8⟩, rk0, rk1, rk2, rk3, rk4, rk5, rk6, rk7, rk8⟩ := nine hsb7
                have hne : mb2 ≠ wo.heap.size := by omega
                have HS2 := hid (R7.put hsb7)
                have HKn : Hid (Kept (fun _ => False) w2 (nineAtS w7 wo.heap.size t2 (.slice f6 t2.nodes.length g6) (.slice f7 t2.sigs.length g7))) := (Kept.refl (fun _ => False) w2).trans ((((HK29.out.and HK56.out).and HK10.out).mono (fun _ h => h.elim)).and ((KS.mono (fun g h => by have h : wr.heap.size ≤ g ∧ _ := h; show w2.heap.size ≤ g; omega)).and (nineAtS_kept (S := fun g => w2.heap.size ≤ g) w7 hw2 t2 _ _))) (fun _ h => .inr h)
                clear KS R7 hbx7 hsb7 ra0 ra1 ra2 ra3 ra4 ra5 ra6 ra7 ra8
                go_wp2_with fail
                go_roundw
                case rel => exact ⟨k + 1, t2, _, _, by omega, by omega, by go_num, HS2.out, Hbr2.out, hnd2, by omega, by omega, by omega, HKn.out⟩
                case measure => simp [intOf]; omega
            · have hlc : l.length ≤ cl := HE.out.fits
              have hfl0 := HE.out.new (HK2.out.and K)
              have hP : ((¬ (k : Int) < (l.length : Int)) ∧ (¬ (30 : Int) < (l.length : Int)) ∧ ∃ lv : List Ev, lv.length = l.length ∧ FlatAt wr 4 (.slice al l.length cl) l.length (evF lv)) ∨ ((k : Int) < (l.length : Int) ∧ (¬ (k : Int) < 30) ∧ (30 : Int) < (l.length : Int) ∧ (30 : Int) ≤ (cl : Int) ∧ ∃ lv : List Ev, lv.length = 30 ∧ FlatAt wr 4 (.slice al 30 cl) 30 (evF lv)) := by
                by_cases hkl : k < l.length
                · have hfl := hfl0.take (k := 30) (by omega)
                  rw [evF_take] at hfl
                  exact .inr ⟨by omega, by omega, by omega, by omega, l.take 30, by rw [List.length_take]; omega, hfl⟩
                · exact .inl ⟨by omega, by omega, l, rfl, hfl0⟩
              clear hfl0
              rcases hP with ⟨f0, f2, lv, hln, hfl⟩ | ⟨f0, f1, f2, f3, lv, hln, hfl⟩
              all_goals
                have hDw := HD2.out.new K
                have hF1 := Calls.mono (hFold_any wr name a c ns hDw.nodes (by omega) hDw.low hDw.moves ⟨#[102]⟩ al cl lv (by rw [hln]; exact hfl) (by omega)) (fun e w' h => HApPost.open (s := zeroSt) h)
                have hF2 := fun V (KV : Kept (fun _ => False) wr V) => Calls.mono (refFold_any V name a c ns (hDw.new KV).nodes (by omega) ⟨#[102]⟩ al cl lv (by rw [hln]; exact hfl.new KV) (by omega)) (fun e w' h => HApPost.open (s := zeroSt) h)
                rw [hln] at hF1
                simp only [hln] at hF2
                have hFew : ∀ t : St, t = (foldP name ns { zeroSt with id := ⟨#[102]⟩ } lv).getD zeroSt → t.nodes.length ≤ 1000000 ∧ t.sigs.length ≤ 1000000 := fun t h => foldP_few ⟨by omega, by omega⟩ h
                generalize foldP name ns { zeroSt with id := ⟨#[102]⟩ } lv = rr at hF1 hF2 hFew
                have HF2 := hid hF2
                have HFew := hid hFew
                have HKw := hid K
                have Hdb := hid hdb
                clear hF2 hFew hDw hfl S K hbr hdb hx9 l0 l1 l2 l3 l4 l5 l6 l7 l8 hln
                go_upto_region 23 with (first
                  | (go_at_call 14; refine hF1.mono ?_; rintro e w10 ⟨t1, b6, e6, b7, e7, z, rfl, Q1, K10⟩; clear hF1; obtain ⟨⟨m0, m1, m2, m3, m4, m5, m6, m7, m8⟩, n0, n1, n2, n3, n4, n5, n6, n7, n8⟩ := nine (heap_alloc_new w10 (.cells #[.string ⟨#[]⟩, .string ⟨#[]⟩, .string ⟨#[]⟩, .string ⟨#[]⟩, .int .i64 0, .string ⟨#[]⟩, .slice none 0 0, .slice none 0 0, .int .i64 0] 33)))
                  | fail)
                have hb1 := heap_alloc_new w10 (.cells #[.string t1.dfn, .string t1.id, .string t1.par, .string t1.pnode, .int .i64 t1.status, .string t1.text, .slice b6 t1.nodes.length e6, .slice b7 t1.sigs.length e7, .int .i64 t1.events] 33)
                have KA := Kept.alloc (fun _ => False) w10 (.cells #[.string t1.dfn, .string t1.id, .string t1.par, .string t1.pnode, .int .i64 t1.status, .string t1.text, .slice b6 t1.nodes.length e6, .slice b7 t1.sigs.length e7, .int .i64 t1.events] 33)
                have HK13 := hid (K10.and KA)
                have HKA := hid KA
                have Hb1 := hid hb1
                have HQ1 := hid Q1
                clear K10 KA hb1 Q1 m0 m1 m2 m3 m4 m5 m6 m7 m8 n0 n1 n2 n3 n4 n5 n6 n7 n8 d0 d1
                generalize w10.alloc (.cells #[.string t1.dfn, .string t1.id, .string t1.par, .string t1.pnode, .int .i64 t1.status, .string t1.text, .slice b6 t1.nodes.length e6, .slice b7 t1.sigs.length e7, .int .i64 t1.events] 33) = w13 at *
                have hF2 := HF2.out w13 HK13.out
                obtain ⟨⟨d0, d1⟩, _, _⟩ := pairF ((HK13.out.block _ (Array.getElem?_eq_some_iff.1 Hdb.out).1 (fun h => h)).trans Hdb.out)
                clear HF2
                go_upto_region 24 with (first
                  | (go_at_call 21; refine hF2.mono ?_; rintro e w14 ⟨t2, f6, g6, f7, g7, z2, rfl, Q2, K14⟩; clear hF2; obtain ⟨⟨m0, m1, m2, m3, m4, m5, m6, m7, m8⟩, n0, n1, n2, n3, n4, n5, n6, n7, n8⟩ := nine (heap_alloc_new w14 (.cells #[.string ⟨#[]⟩, .string ⟨#[]⟩, .string ⟨#[]⟩, .string ⟨#[]⟩, .int .i64 0, .string ⟨#[]⟩, .slice none 0 0, .slice none 0 0, .int .i64 0] 33)))
                  | fail)
                have hb2 := heap_alloc_new w14 (.cells #[.string t2.dfn, .string t2.id, .string t2.par, .string t2.pnode, .int .i64 t2.status, .string t2.text, .slice f6 t2.nodes.length g6, .slice f7 t2.sigs.length g7, .int .i64 t2.events] 33)
                have KA := Kept.alloc (fun _ => False) w14 (.cells #[.string t2.dfn, .string t2.id, .string t2.par, .string t2.pnode, .int .i64 t2.status, .string t2.text, .slice f6 t2.nodes.length g6, .slice f7 t2.sigs.length g7, .int .i64 t2.events] 33)
                have HK17 := hid (K14.and KA)
                obtain ⟨q1, q2, O1⟩ := HQ1.out
                obtain ⟨q3, q4, O2⟩ := Q2
                have hf1 := HFew.out _ q1
                have hf2 := HFew.out _ q3
                have R1 := (StRd.new ⟨flat_of_owns O1.nodes, flat_of_owns O1.sigs, hf1.1, hf1.2⟩ HKA.out).new HK17.out
                have R2 := StRd.new ⟨flat_of_owns O2.nodes, flat_of_owns O2.sigs, hf2.1, hf2.2⟩ KA
                have Hb2 := hid hb2
                have HR1 := hid R1
                have HR2 := hid R2
                have hzz : z2 = z := by rw [q4, q2]
                have htt : t2 = t1 := by rw [q3, q1]
                clear K14 KA hb2 q1 q2 q3 q4 O1 O2 R1 R2 hf1 hf2 HQ1 m0 m1 m2 m3 m4 m5 m6 m7 m8 n0 n1 n2 n3 n4 n5 n6 n7 n8 d0 d1
                subst hzz htt
                generalize w14.alloc (.cells #[.string t2.dfn, .string t2.id, .string t2.par, .string t2.pnode, .int .i64 t2.status, .string t2.text, .slice f6 t2.nodes.length g6, .slice f7 t2.sigs.length g7, .int .i64 t2.events] 33) = w17 at *
                obtain ⟨⟨ra0, ra1, ra2, ra3, ra4, ra5, ra6, ra7, ra8⟩, _⟩ := nine ((HK17.out.block _ (Array.getElem?_eq_some_iff.1 Hb1.out).1 (fun h => h)).trans Hb1.out)
                obtain ⟨⟨rb0, rb1, rb2, rb3, rb4, rb5, rb6, rb7, rb8⟩, _⟩ := nine Hb2.out
                have hW := fun V (KV : Kept (fun _ => False) w17 V) => wakes_any V (HM.out.kept ((((HK2.out.and HKw.out).and HK13.out).and HK17.out).and KV) (fun h => h))
                have HWk := hid hW
                have hSm := stateSame_any w17 t2 _ _ _ _ _ _ _ _ HR1.out HR2.out
                clear hW
                go_wp2_with (first
                  | (go_at_call 15; refine hSm.mono ?_; rintro e w18 ⟨rfl, K18⟩; clear hSm; have hW := HWk.out w18 K18)
                  | (go_at_call 11; refine hW.mono ?_; rintro e w8 ⟨rfl, K8⟩; clear hW)
                  | fail)
                go_ret
                exact ⟨rfl, ((((((HK2.out.and HKw.out).and HK13.out).and HK17.out).and K18).and K8)).none⟩
  · have HTk2 := hid (HTk.out false (by simp [hT]))
    have hW := fun V (K : Kept (fun _ => False) w V) => wakes_any V (HM.out.kept K (fun h => h))
    have HW := hid hW
    clear HTk hT hW
    go_enter Tryd.func5, Tryd.ntmps5
    go_wp2_with (first
      | (go_at_call 9; refine hCut.mono ?_; rintro e w1 ⟨rfl, K1⟩; clear hCut; obtain ⟨_, f0, f1⟩ := pairF ((K1.block w.heap.size (by simp) (fun h => h)).trans (heap_alloc_new _ _)); have hb := cut_box (n' := ns.length) K1 HR.out; obtain ⟨⟨x0, x1⟩, _, _⟩ := pairF hb.1; have hTk := HTk2.out _ hb.2.2; have HB := hid hb; clear hb)
      | (go_at_call 10; refine hTk.mono ?_; rintro e w2 ⟨rfl, K2⟩; clear hTk; have hW := HW.out w2 (HB.out.2.1.and K2))
      | (go_at_call 11; refine hW.mono ?_; rintro e w8 ⟨rfl, K8⟩; clear hW)
      | fail)
    go_ret
    exact ⟨rfl, ((HB.out.2.1.and K2).and K8).none⟩

end Go.Proofs.YtfjekjbkifmpfaaDoor.Rf
namespace Go.Proofs.YtfjekjbkifmpfaaDoor
open Go.ChangeShapes Go.WideShapes Go.ChangeAt Go.RowKit Go.Deep

set_option maxRecDepth 100000 in
theorem historyApply_lifted (os : Os) (started : os.Started) (H : Type) (enc : TypeId × Value → H) :
    ReturnsInHanded {} Tryd.checked os 5 .any (fun w args => (Rows.historyApplySpec.pre enc Tryd.prog Tryd.f5 [] false w args ∧ laidMetH Tryd.prog laidL w) ∧ sizedMet enc Tryd.prog Tryd.f5 (OpenSpec.ofChange Rows.historyApplySpec) false w args)
      (Rows.historyApplySpec.post enc Tryd.prog Tryd.f5 false true false false) := by
  refine returnsInHanded_of_change_and (C := Tryd.checked) (X := fun w _ => laidMetH Tryd.prog laidL w) (fun _ _ _ hh h => h.of_heap hh) Tryd.own started (by kernel_rfl) Tryd.func5
    (ChangeSpec.witness_shaped (enc := enc) (C := Tryd.checked) (os := os) (X := fun w _ => laidMetH Tryd.prog laidL w) false (World.doorLaid Tryd.prog 28 os) #[.agg #[.string ⟨#[]⟩, .slice none 0 0], .slice none 0 0, .slice none 0 0] 8 rfl (World.shaped_of_RefB (by kernel_rfl) (by kernel_rfl)) (by kernel_rfl) (by kernel_rfl) (by kernel_rfl) (door_met os _)) ?_
  intro W base args ds gs before hval0 hW _ _ hL _
  have hval : ∀ (j : Nat) t v, Tryd.f5.params[j]? = some t → args[j]? = some v → Value.okWide Tryd.prog W .any base t v := hval0
  have hW' := hW
  obtain ⟨p, q, hA0, hV, rfl, _, _⟩ := hW
  have hA : DataW.TrodAll enc Tryd.prog W 0 (fun _ => true) true Tryd.f5.params.toList args.toList ds p := hA0
  rw [Tryd.params5] at hA hval
  obtain ⟨v0, vs0, d0, ds0, p0, q0, hargs, rfl, rfl, h0, r0⟩ := trodAll_cons hA
  obtain ⟨v1, vs1, d1, ds1, p1, q1, rfl, rfl, rfl, h1, r1⟩ := trodAll_cons r0
  obtain ⟨v2, vs2, d2, ds2, p2, q2, rfl, rfl, rfl, h2, r2⟩ := trodAll_cons r1
  obtain ⟨rfl, rfl, rfl⟩ := trodAll_nil r2
  obtain rfl : args = #[v0, v1, v2] := by cases args; simp_all
  obtain ⟨rfl, rfl⟩ := trodVars_none hV
  have k0 := h0
  have k1 := h1
  have k2 := h2
  have lt0 : ∀ x ∈ p0, x.block < W.heap.size := by obtain ⟨m, hm⟩ := k0; exact DataW.trod_lt m _ _ _ hm
  have lt1 : ∀ x ∈ p1, x.block < W.heap.size := by obtain ⟨m, hm⟩ := k1; exact DataW.trod_lt m _ _ _ hm
  have lt2 : ∀ x ∈ p2, x.block < W.heap.size := by obtain ⟨m, hm⟩ := k2; exact DataW.trod_lt m _ _ _ hm
  obtain ⟨nm0, a0, c0, ns0, rfl, z0, y0, x0, w0⟩ := dv_open (hval 0 24 v0 rfl rfl) h0
  obtain ⟨a1', len1', cap1', rfl⟩ := okWide_slice Tryd.underlying25 (hval 1 25 v1 rfl rfl)
  obtain ⟨a1, cap1, l1, e1, y1, x1, w1⟩ : ∃ a c l, Value.slice a1' len1' cap1' = .slice a l.length c ∧ l.length ≤ c ∧ c ≤ maxLen ∧ InsAt W a l := by
    obtain ⟨fuel, hf⟩ := h1
    exact ins_open hf
  simp only [Value.slice.injEq] at e1
  obtain ⟨rfl, rfl, rfl⟩ := e1
  obtain ⟨a2', len2', cap2', rfl⟩ := okWide_slice Tryd.underlying34 (hval 2 34 v2 rfl rfl)
  obtain ⟨a2, cap2, l2, e2, w2⟩ : ∃ a c l, Value.slice a2' len2' cap2' = .slice a l.length c ∧ FlatAt W 4 (.slice a l.length c) l.length (evF l) := by
    obtain ⟨fuel, hf⟩ := h2
    exact evs_open hf
  simp only [Value.slice.injEq] at e2
  obtain ⟨rfl, rfl, rfl⟩ := e2
  clear hA0 hval0
  refine (Rf.historyApply_walk _ _ _ _ _ _ _ _ _ _ W w0 z0 y0 w1 ⟨y1, x1⟩ w2 (moves_laid hL)).mono fun e W' ⟨he, bel⟩ => ?_
  subst he
  exact ⟨_, rfl, _, _, _, [], _, [], hW', trodAll_mk1 (shut_bool Tryd.underlying4 _), (trodAll_cons_mk (Below.trod Tryd.laidOut (by kernel_rfl) (of_decide_eq_true (by kernel_rfl)) k0 bel lt0) (trodAll_cons_mk (Below.trod Tryd.laidOut (by kernel_rfl) (of_decide_eq_true (by kernel_rfl)) k1 bel lt1) (trodAll_cons_mk (Below.trod Tryd.laidOut (by kernel_rfl) (of_decide_eq_true (by kernel_rfl)) k2 bel lt2) trodAll_mk0))), rfl, bel.frame _, fun h => by cases h⟩

theorem historyApply_row : Rows.HistoryApplySaid :=
  OpenClaim.holds_of_wide 5 Tryd.f5 rfl rfl rfl rfl rfl rfl rfl ⟨rfl, rfl, rfl, rfl, rfl⟩ rfl rfl rfl rfl rfl (by kernel_rfl) Tryd.func5 (by kernel_rfl)
    (of_decide_eq_true (by kernel_rfl)) (by unfold Func.isWrapper; first | (rw [if_pos (by decide +kernel)]; kernel_rfl) | (rw [if_neg (by decide +kernel)]; exact ⟨rfl, rfl⟩))
    (fun os started H enc _ => historyApply_lifted os started H enc)

theorem historyApply_holds : Rows.HistoryApplyCardSaid :=
  Claim7.holds_tied_plain_at .later [] [.data] true Rows.historyApplyCard.stood.harness false
    historyApply_row (fun _ h => by cases h) (by kernel_rfl) (fun _ h => by cases h) historyApply_row_tie rfl ⟨rfl, rfl⟩ (by kernel_rfl) rfl
    (fun f fn hf hfn => by
      obtain rfl : f = 5 := Option.some.inj ((show Tryd.prog.funcNamed "tiller/tillerlaw09.HistoryApply" = some 5 by kernel_rfl).symm.trans hf) |>.symm
      obtain rfl : fn = Tryd.f5 := (Option.some.inj (Tryd.func5.symm.trans hfn)).symm
      exact ⟨by kernel_rfl, fun j t ht => by
        rw [Tryd.params5] at ht
        have hm : t ∈ [24, 25, 34] := by simpa using Array.mem_of_getElem? ht
        have hall : ([24, 25, 34].all fun u => !Tryd.prog.wantsStandIn u) = true := by kernel_rfl
        exact (show Tryd.prog.wantsStandIn t = false by simpa using List.all_eq_true.1 hall t hm)⟩)
    (by kernel_rfl)

end Go.Proofs.YtfjekjbkifmpfaaDoor
