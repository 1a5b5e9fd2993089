/-
  DagGrows holds for all definitions: the law's call returns true and leaves its argument as it was. No condition; the listed variables are tied to the program's text.
-/
import Derived.Test.YtalhdgelkomaiabDoorDRow7
import Derived.Test.YtalhdgelkomaiabDoorDFresh
import Derived.Test.YtalhdgelkomaiabDoorDGrows10
import Derived.Deep.QuietTactic
import Derived.BigQuiet
namespace Go.Proofs.YtalhdgelkomaiabDoor
open Go.ChangeShapes Go.WideShapes Go.ChangeAt Go.RowKit

theorem natsV_at {l : List Nat} {k : Nat} (hk : k < l.length) : (natsV l)[k]? = some (.int .i64 (l[k] : Nat)) := by unfold natsV; simp [hk]

/-- A row of numbers that is owned, read. -/
theorem nats_at {w : World} {B : Nat} {T : TypeId} {a : Option Addr} {c : Nat} {l : List Nat} (O : w.ownsRow B T 1 (.slice a l.length c) l.length (natsV l)) (hl : 0 < l.length) :
    ∃ g, a = some ⟨g, 0, none⟩ ∧ B ≤ g ∧ g < w.heap.size ∧ l.length ≤ c ∧ ∀ k (hk : k < l.length), w.cell? ⟨g, k, none⟩ = some (.int .i64 (l[k] : Nat)) := by
  rcases O.2 with ⟨e, h0⟩ | ⟨g, cap, cur, e, hg, _, h1, _⟩
  · omega
  · have hO := O
    simp only [Value.slice.injEq] at e
    obtain ⟨rfl, _, rfl⟩ := e
    refine ⟨g, rfl, hg, (ownsRow_blk hO rfl), by omega, fun k hk => ?_⟩
    have := hO.cells (g := g) rfl k _ (natsV_at hk)
    rw [Addr.add_lit, Nat.zero_add] at this
    exact this

/-- The new node. -/
def newN (ms : List Nd) (k : Nat) : Nd := ⟨zsB k, 4, ⟨#[115]⟩, ⟨#[]⟩, 0, 0, ms.map (·.name)⟩

theorem newN_named {ms : List Nd} {k : Nat} (h1 : 1 ≤ k) (h2 : k ≤ 10) : namedP (newN ms k) = true := by
  unfold namedP newN
  simp only []
  rw [zs_name h1 (by omega)]
  decide

theorem newN_fits (ms : List Nd) (k : Nat) : fitsP (newN ms k) = true := by
  rfl

theorem newN_ok {ms : List Nd} {k : Nat} (h2 : k ≤ 10) (hl : ms.length ≤ 9) : NdOk (newN ms k) := by
  refine ⟨?_, ?_, ?_, ?_, ?_, ?_, ?_⟩
  · show (zsB k).size ≤ maxLen
    rw [zsB_size]; unfold maxLen; omega
  · show ByteArray.size ⟨#[115]⟩ ≤ maxLen; decide
  · show ByteArray.size ⟨#[]⟩ ≤ maxLen; decide
  · show isI64 4; unfold isI64; decide
  · show isI64 0; unfold isI64; decide
  · show isI64 0; unfold isI64; decide
  · show (ms.map (·.name)).length ≤ _
    rw [List.length_map]; omega

/-- What stands between the rounds: the new node with its After so far. -/
structure GrSt (w3 wr : World) (ms : List Nd) (z : ByteArray) (i : Nat) (a6 : Option Addr) (c6 : Nat) : Prop where
  box : wr.heap[w3.heap.size]? = some (.cells #[.string z, .int .i64 4, .string ⟨#[115]⟩, .string ⟨#[]⟩, .int .i64 0, .int .i64 0, .slice a6 i c6] 33 (0, 0))
  row : wr.ownsRow (w3.heap.size + 1) 9 1 (.slice a6 i c6) i (strsV ((ms.map (·.name)).take i))
  kept : Kept (fun j => w3.heap.size ≤ j) w3 wr

theorem GrSt.push {w3 wr w4 : World} {ms : List Nd} {z s : ByteArray} {i c6 c4 : Nat} {a6 a4 : Option Addr} (G : GrSt w3 wr ms z i a6 c6) (hs : (ms.map (·.name))[i]? = some s) (O : w4.ownsRow (w3.heap.size + 1) 9 1 (.slice a4 (i + 1) c4) (i + 1) (strsV ((ms.map (·.name)).take i) ++ [.string s])) (K : Kept (fun j => w3.heap.size + 1 ≤ j) wr w4) :
    GrSt w3 (w4.setCell ⟨w3.heap.size, 6, none⟩ (.slice a4 (i + 1) c4)) ms z (i + 1) a4 c4 := by
  have KS : Kept (fun j => j = w3.heap.size) w4 (w4.setCell ⟨w3.heap.size, 6, none⟩ (.slice a4 (i + 1) c4)) := Kept.setCell _ _ _ rfl
  have hb := (K.block _ (Array.getElem?_eq_some_iff.1 G.box).1 (by omega)).trans G.box
  refine ⟨by simp [World.setCell, Array.getElem?_modify, hb], ?_, G.kept.and ((K.mono (fun j h => by omega)).and (KS.mono (fun j h => by omega)))⟩
  have e : strsV ((ms.map (·.name)).take (i + 1)) = strsV ((ms.map (·.name)).take i) ++ [.string s] := by
    rw [List.take_add_one, hs, Option.toList_some]
    unfold strsV
    simp
  rw [e]
  exact ownsRow_keep O (fun g hg => KS.block g (ownsRow_blk O hg) (by have := (O.lt g hg).1; omega))

/-- The row with the new node at its end. -/
theorem grow_nodes {w5 V : World} {ms : List Nd} {vs : List Value} {B c9 c6 k : Nat} {a9 a6 : Option Addr} (hlen : ms.length = vs.length) (hok : ∀ n ∈ ms, NdOk n) (hk : k ≤ 10) (h9 : ms.length ≤ 9) (hn : ∀ n ∈ ms, n.name.size ≤ maxLen)
    (hT : ∀ i (h1 : i < ms.length) (h2 : i < vs.length), TextsAt w5 vs[i] (ms[i]).after) (KV : Kept (fun j => w5.heap.size ≤ j) w5 V)
    (O : V.ownsRow B 33 7 (.slice a9 (ms.length + 1) c9) (ms.length + 1) (flatN ms vs ++ ndC (newN ms k) (.slice a6 ms.length c6))) {B2 : Nat} (O2 : V.ownsRow B2 9 1 (.slice a6 ms.length c6) ms.length (strsV (ms.map (·.name)))) :
    NodesAt V a9 (ms ++ [newN ms k]) := by
  rw [← flatN_append _ _ _ _ hlen] at O
  obtain ⟨g, rfl, _, _, _, hc⟩ := row7_at O (by omega)
  refine ⟨fun n hn => ?_, .inr ⟨g, 0, rfl, fun i hi => ?_⟩⟩
  · rcases List.mem_append.1 hn with h | h
    · exact hok n h
    · simp at h; subst h; exact newN_ok hk h9
  · by_cases e : i < ms.length
    · have hj : i < vs.length := by omega
      rw [List.getElem_append_left e]
      refine ⟨vs[i], (hT i e hj).kept KV (fun k hk => by omega), fun j u hu => ?_⟩
      have h1 := (hc (i * 7 + j) u (flatN_at _ _ i hi (by simp; omega) j u (by rw [List.getElem_append_left e, List.getElem_append_left hj]; exact hu))).1
      rw [show 0 + i * 7 + j = i * 7 + j by omega]
      exact h1
    · have e2 : i = ms.length := by simp at hi; omega
      subst e2
      simp only [List.getElem_append_right (Nat.le_refl _), Nat.sub_self, List.getElem_cons_zero]
      refine ⟨.slice a6 ms.length c6, ?_, fun j u hu => ?_⟩
      · have e3 : (newN ms k).after = ms.map (·.name) := rfl
        rw [e3]
        have hl : (ms.map (·.name)).length = ms.length := by simp
        rw [← hl] at O2
        have := texts_of_row O2 (fun s hs => by obtain ⟨n, h1, rfl⟩ := List.mem_map.1 hs; exact hn n h1)
        rw [hl] at this
        exact this
      · have h1 := (hc (ms.length * 7 + j) u (flatN_at _ _ ms.length (by simp) (by simp; omega) j u (by
          rw [List.getElem_append_right (Nat.le_refl _), List.getElem_append_right (by omega)]
          simp only [Nat.sub_self, List.getElem_cons_zero, hlen]
          rw [hlen] at hu
          exact hu))).1
        rw [show 0 + ms.length * 7 + j = ms.length * 7 + j by omega]
        exact h1

set_option maxRecDepth 100000 in
set_option maxHeartbeats 8000000 in
theorem dagGrows_walk (name : ByteArray) (a : Option Addr) (c : Nat) (ns : List Nd) (w : World) (R : RawAt w a ns) (hc : ns.length ≤ c) :
    Calls Tryd.prog 3 #[.agg #[.string name, .slice a ns.length c]] w fun e w' => e = .returned (.bool true) ∧ Below w.heap.size w w' := by
  have hW := fun V => wakes_any V
  have hCut := lawCut_any (w.alloc (.cells #[.string name, .slice a ns.length c] 24)) name a ns.length c ns (R.kept (Kept.alloc (fun _ => False) _ _) (fun _ _ h => h)) rfl hc
  have hlen : (cutNs ns).length ≤ 40 := by unfold cutNs; simp; omega
  generalize cutNs ns = ms at *
  clear R
  have HCk : Hid (∀ V a' c', NodesAt V a' ms → Calls Tryd.prog 5 #[.agg #[.string name, .slice a' ms.length c']] V fun e w' => e = .returned (.tuple #[.int .i64 (checkP name ms).1, .int .i64 (checkP name ms).2]) ∧ Kept (fun _ => False) V w') := fun V a' c' N => check_any V name a' ms.length c' ms N rfl
  by_cases hT : (checkP name ms).2 = 0
  · have T := taken_of hT
    have HT : Hid (Taken name ms) := T
    have HCk2 : Hid (∀ V a' c', NodesAt V a' ms → Calls Tryd.prog 5 #[.agg #[.string name, .slice a' ms.length c']] V fun e w' => e = .returned (.tuple #[.int .i64 (-1), .int .i64 0]) ∧ Kept (fun _ => False) V w') := fun V a' c' N => by
      have h := HCk.out V a' c' N
      rw [T.check] at h
      exact h
    have hlo := T.lo
    clear hT HCk T
    by_cases h9 : 9 < ms.length
    · have e9 : (9 : Int) < (ms.length : Int) := by omega
      go_enter Tryd.func3, Tryd.ntmps3
      go_wp2_with (first
        | (go_at_call 4; refine hCut.mono ?_; rintro e w1 ⟨a', c', rfl, N1, hc1, K1⟩; clear hCut; have hd := boxD K1; obtain ⟨d0, d1⟩ := hd; have B1 := BoxSt.mk' (m := ms.length) (c' := c') K1 N1; have fz := (K1.block w.heap.size (by simp) (fun h => h)).trans (heap_alloc_new _ _); obtain ⟨_, z0, z1⟩ := twoC fz; obtain ⟨⟨x0, x1⟩, _, _⟩ := twoC B1.b0; have hC := HCk2.out _ _ c' B1.nodes; have HB : Hid (BoxSt w ((w1.setCell ⟨w.heap.size, 0, none⟩ (.string name)).setCell ⟨w.heap.size, 1, none⟩ (.slice a' ms.length c')) name a' ms.length c' ms) := B1; clear B1 N1 fz HCk2)
        | (go_at_call 5; refine hC.mono ?_; rintro e w2 ⟨rfl, K2⟩; clear hC; have y0 := keepC K2 x0 (fun _ _ h => h); have y1 := keepC K2 x1 (fun _ _ h => h))
        | (go_at_call 6; refine (hW _).mono ?_; rintro e w3 ⟨rfl, K3⟩; clear hW)
        | fail)
      go_ret
      exact ⟨rfl, ((HB.out.kept.and K2).and K3).none⟩
    · have e9 : ¬ (9 : Int) < (ms.length : Int) := by omega
      go_enter Tryd.func3, Tryd.ntmps3
      go_wp2_with (first
        | (go_at_call 4; refine hCut.mono ?_; rintro e w1 ⟨a', c', rfl, N1, hc1, K1⟩; clear hCut; have hd := boxD K1; obtain ⟨d0, d1⟩ := hd; have B1 := BoxSt.mk' (m := ms.length) (c' := c') K1 N1; have fz := (K1.block w.heap.size (by simp) (fun h => h)).trans (heap_alloc_new _ _); obtain ⟨_, z0, z1⟩ := twoC fz; obtain ⟨⟨x0, x1⟩, _, _⟩ := twoC B1.b0; have hC := HCk2.out _ _ c' B1.nodes; have HB : Hid (BoxSt w ((w1.setCell ⟨w.heap.size, 0, none⟩ (.string name)).setCell ⟨w.heap.size, 1, none⟩ (.slice a' ms.length c')) name a' ms.length c' ms) := B1; clear B1 N1 fz HCk2)
        | (go_at_call 5; refine hC.mono ?_; rintro e w2 ⟨rfl, K2⟩; clear hC; have y0 := keepC K2 x0 (fun _ _ h => h); have y1 := keepC K2 x1 (fun _ _ h => h))
        | fail)
      have HN2 : Hid (NodesAt w2 a' ms) := keptNew K2 HB.out.nodes
      have HB0 : Hid (w2.heap[w.heap.size]? = some (.cells #[.string name, .slice a' ms.length c'] 24 (0, 0))) := (K2.block _ (Array.getElem?_eq_some_iff.1 HB.out.b0).1 (fun h => h)).trans HB.out.b0
      have HK2 : Hid (Kept (fun _ => False) w w2) := HB.out.kept.and K2
      have hbs := (Array.getElem?_eq_some_iff.1 HB0.out).1
      obtain ⟨vs, hvl, hvt, hvo, hvs⟩ := HN2.out.src (c := c')
      have hvs := hvs hlo
      have HVL : Hid (ms.length = vs.length) := hvl
      have HVT : Hid (∀ i (h1 : i < ms.length) (h2 : i < vs.length), TextsAt w2 vs[i] (ms[i]).after) := hvt
      have HVS : Hid (∀ V, Kept (fun _ => False) w2 V → Src V 7 (.slice a' ms.length c') ms.length (flatN ms vs)) := hvs
      have HVO : Hid (∀ u ∈ flatN ms vs, u.oneCell' = true) := hvo
      clear hvl hvt hvs hvo HB K2 x0 x1 d0 d1 z0 z1 K1
      refine wp_onlyN (grows5 (nm := name) (xs := flatN ms vs) _ y0 y1 HVS.out HVO.out (by omega) ?_)
      intro k26 k27 k28 k29 k30 k31 k32 xb a3 c3 W2 D
      have HD : Hid (DefSt w2 W2 xb name a3 ms.length c3 (flatN ms vs)) := D
      have s0 := keepC D.kept y0 (fun _ _ h => h)
      have s1 := keepC D.kept y1 (fun _ _ h => h)
      have hFr := fresh_any W2 name a' c' ms (keptNew D.kept HN2.out) (by omega)
      have hzD := D.kept.size
      have hxb := D.new
      have hxl := (Array.getElem?_eq_some_iff.1 D.box).1
      clear D y0 y1
      dsimp only
      go_wp2_with (first
        | (go_at_call 7; refine hFr.mono ?_; rintro e w3 ⟨k, rfl, hk1, hk2, hkf, K3⟩; clear hFr)
        | fail)
      have HKF : Hid (findP ms (zsB k) = none) := hkf
      have HK3 : Hid (Kept (fun _ => False) W2 w3) := K3
      have hz3 := K3.size
      have HN3 : Hid (NodesAt w3 a' ms) := keptNew K3 (keptNew HD.out.kept HN2.out)
      have HG0 : Hid (GrSt w3 (w3.alloc (.cells #[.string (zsB k), .int .i64 4, .string ⟨#[115]⟩, .string ⟨#[]⟩, .int .i64 0, .int .i64 0, .slice none 0 0] 33)) ms (zsB k) 0 none 0) := ⟨heap_alloc_new _ _, World.ownsRow_nil _ _ _ _, Kept.alloc _ _ _⟩
      clear hkf K3 s0 s1
      have hbd : w.heap.size < w3.heap.size := by omega
      have HD3 : Hid (∀ V, Kept (fun j => w3.heap.size ≤ j) w3 V → V.heap[w.heap.size]? = some (.cells #[.string name, .slice a' ms.length c'] 24 (0, 0)) ∧ V.heap[xb]? = some (.cells #[.string name, .slice a3 ms.length c3] 24 (0, 0)) ∧ NodesAt V a' ms ∧ V.ownsRow w2.heap.size 33 7 (.slice a3 ms.length c3) ms.length (flatN ms vs)) := fun V KV => by
        have hb1 := (HK3.out.block _ (by omega) (fun h => h)).trans ((HD.out.kept.block _ hbs (fun h => h)).trans HB0.out)
        have hb2 := (HK3.out.block _ hxl (fun h => h)).trans HD.out.box
        have O3 := ownsRow_keep HD.out.row (fun g hg => HK3.out.block g (ownsRow_blk HD.out.row hg) (fun h => h))
        exact ⟨(KV.block _ (by omega) (by omega)).trans hb1, (KV.block _ (by omega) (by omega)).trans hb2, HN3.out.kept KV (fun k hk => by omega), ownsRow_keep O3 (fun g hg => KV.block g (ownsRow_blk O3 hg) (by have := ownsRow_blk O3 hg; omega))⟩
      go_loopw [7] (fun q wr => ∃ (i : Nat) (a6 : Option Addr) (c6 : Nat), i ≤ ms.length ∧ q = .int .i64 i ∧ GrSt w3 wr ms (zsB k) i a6 c6) (fun q _ => ms.length - (intOf q).toNat)
      case atStart => exact ⟨0, none, 0, Nat.zero_le _, rfl, HG0.out⟩
      case round =>
        obtain ⟨i, a6, c6, hi, rfl, G⟩ := hrel
        obtain ⟨hb1, hb2, N, OX⟩ := HD3.out wr G.kept
        obtain ⟨⟨x0, x1⟩, _, _⟩ := twoC hb1
        have HG : Hid (GrSt w3 wr ms (zsB k) i a6 c6) := G
        by_cases hlt : i < ms.length
        · obtain ⟨b, o, av, cv, rfl, _, n0, _⟩ := N.at hlt
          obtain ⟨⟨_, _, _, _, _, _, g6⟩, _, _, _, _, _, _, gz⟩ := seven G.box
          have gbx := (Array.getElem?_eq_some_iff.1 G.box).1
          have e1 : (i : Int) < (ms.length : Int) := by omega
          have HR : Hid (wr.ownsRow (w3.heap.size + 1) 9 1 (.slice a6 i c6) i (strsV ((ms.map (·.name)).take i))) := G.row
          have HNm : Hid ((ms.map (·.name))[i]? = some (ms[i]).name) := by show _ = _; rw [List.getElem?_map, List.getElem?_eq_getElem hlt]; rfl
          clear G hb1 hb2 N OX
          go_wp2_with fail
          refine wp_onlyN (grows10 (s := (ms[i]).name) (xs := strsV ((ms.map (·.name)).take i)) (base := w3.heap.size + 1) _ g6 gz x1 n0 (by omega) (by omega) hlt (by omega) (by omega) HR.out ?_)
          intro k43 k44 k45 k46 k47 k48 k49 k50 k51 k52 k53 a4 c4 w4 O4 K4
          have G4 := HG.out.push HNm.out O4 K4
          have HG4 : Hid (GrSt w3 (w4.setCell ⟨w3.heap.size, 6, none⟩ (.slice a4 (i + 1) c4)) ms (zsB k) (i + 1) a4 c4) := G4
          clear G4 O4 K4 x0 x1 n0 g6 gz
          generalize w4.setCell ⟨w3.heap.size, 6, none⟩ (.slice a4 (i + 1) c4) = V4 at *
          dsimp only
          go_wp2_with fail
          go_roundw
          case rel => exact ⟨i + 1, a4, c4, by omega, by go_num, HG4.out⟩
          case measure => simp [intOf]; omega
        · obtain rfl : i = ms.length := by omega
          have e1 : ¬ (ms.length : Int) < (ms.length : Int) := by omega
          obtain ⟨⟨g0, g1, g2, g3, g4, g5, g6⟩, _⟩ := seven G.box
          have gbx := (Array.getElem?_eq_some_iff.1 G.box).1
          obtain ⟨⟨t0, t1⟩, _, tz⟩ := twoC hb2
          obtain ⟨j0, hj0, hy0, hy1, hy2⟩ := info_parts Tryd.info33
          have HOX : Hid (wr.ownsRow w2.heap.size 33 7 (.slice a3 ms.length c3) ms.length (flatN ms vs)) := OX
          have hgk := G.kept.size
          have t1a : (wr.alloc (.cells #[.string (zsB k), .int .i64 4, .string ⟨#[115]⟩, .string ⟨#[]⟩, .int .i64 0, .int .i64 0, .slice a6 ms.length c6] 33)).cell? ⟨xb, 1, none⟩ = some (.slice a3 ms.length c3) := keepC (Kept.alloc (fun _ => False) _ _) t1 (fun _ _ h => h)
          have HX : Hid (wr.heap[xb]? = some (.cells #[.string name, .slice a3 ms.length c3] 24 (0, 0))) := hb2
          have HX0 : Hid (wr.heap[w.heap.size]? = some (.cells #[.string name, .slice a' ms.length c'] 24 (0, 0))) := hb1
          clear G hb1 hb2 N OX
          go_wp2_with (first
            | (at_builtin; refine wpList_append_src _ rfl _ _ 22 rfl w2.heap.size 33 j0 _ 7 96 Tryd.underlying22 hj0 hy0 hy1 hy2 rfl (by decide) (.slice a3 ms.length c3) ms.length _ rfl (HOX.out.alloc _) _ rfl 1 _ (.inl ⟨_, 1, rfl, rfl, World.news_of_block (heap_alloc_new _ _)⟩) (ndC_one (newN ms k) a6 ms.length c6) (by unfold maxLen; omega) (by omega) (by simp; omega) ?_; intro a9 c9 w9 ho9 hg9 _ hl9;
                have KG : Kept (fun g => (Value.slice a3 ms.length c3).ownBlock = some g) (wr.alloc (.cells #[.string (zsB k), .int .i64 4, .string ⟨#[115]⟩, .string ⟨#[]⟩, .int .i64 0, .int .i64 0, .slice a6 ms.length c6] 33)) w9 := Kept.grown hg9 (fun g e => e);
                have hbx9 : w9.heap[xb]? = some (.cells #[.string name, .slice a3 ms.length c3] 24 (0, 0)) := (KG.block xb (by simp; omega) (fun e => HD.out.apart xb e rfl)).trans ((Below.heap_alloc _ _ _ (by omega)).trans HX.out); have hq9 := twoC hbx9; obtain ⟨⟨v0, v1⟩, vz0, vz1⟩ := hq9; have HBX9 : Hid (w9.heap[xb]? = some (.cells #[.string name, .slice a3 ms.length c3] 24 (0, 0))) := hbx9; clear hbx9)
            | fail)
          have KS : Kept (fun j => j = xb) w9 (w9.setCell ⟨xb, 1, none⟩ (.slice a9 (ms.length + 1) c9)) := Kept.setCell _ _ _ rfl
          have hrow : ∀ g, (Value.slice a3 ms.length c3).ownBlock = some g → w2.heap.size ≤ g ∧ g < w3.heap.size ∧ g ≠ xb := fun g hg => ⟨(HD.out.row.lt g hg).1, by have := ownsRow_blk HD.out.row hg; omega, HD.out.apart g hg⟩
          have hz9 := KG.size
          have hz9' : wr.heap.size + 1 ≤ w9.heap.size := by simpa using hz9
          have KV : Kept (fun j => w2.heap.size ≤ j) w2 (w9.setCell ⟨xb, 1, none⟩ (.slice a9 (ms.length + 1) c9)) :=
            ((((((HD.out.kept.and HK3.out).mono (fun _ h => h.elim)).and (HG.out.kept.mono (fun j h => by omega))).and (Kept.alloc _ _ _)).and (KG.mono (fun j h => (hrow j h).1))).and (KS.mono (fun j h => by omega)))
          have O9V : (w9.setCell ⟨xb, 1, none⟩ (.slice a9 (ms.length + 1) c9)).ownsRow w2.heap.size 33 7 (.slice a9 (ms.length + 1) c9) (ms.length + 1) (flatN ms vs ++ ndC (newN ms k) (.slice a6 ms.length c6)) := ownsRow_keep ho9 (fun g hg => KS.block g (ownsRow_blk ho9 hg) (by
            rcases hl9 with h | h
            · rw [h] at hg; exact (hrow g hg).2.2
            · rw [h] at hg; have h' := Option.some.inj hg; simp only [World.size_alloc] at h'; omega))
          have O2r : wr.ownsRow (w3.heap.size + 1) 9 1 (.slice a6 ms.length c6) ms.length (strsV (ms.map (·.name))) := by
            have h := HG.out.row
            rw [List.take_of_length_le (by simp)] at h
            exact h
          have O2V : (w9.setCell ⟨xb, 1, none⟩ (.slice a9 (ms.length + 1) c9)).ownsRow (w3.heap.size + 1) 9 1 (.slice a6 ms.length c6) ms.length (strsV (ms.map (·.name))) := ownsRow_keep O2r (fun g hg => by
            have h1 := (O2r.lt g hg).1
            have h2 := ownsRow_blk O2r hg
            rw [KS.block g (by omega) (by omega), KG.block g (by simp; omega) (fun e => by have := (hrow g e).2.1; omega)]
            exact Below.heap_alloc _ _ _ h2)
          have hfine := HN2.out.fine
          have NL := grow_nodes (k := k) HVL.out (fun n hn => (hfine n hn).1) hk2 (by omega) (fun n hn => (hfine n hn).1.name) HVT.out KV O9V O2V
          have NV : NodesAt (w9.setCell ⟨xb, 1, none⟩ (.slice a9 (ms.length + 1) c9)) a' ms := HN2.out.kept KV (fun k hk => by omega)
          have hord := ordP_grow HT.out (newN ms k) rfl HKF.out
          have hdep := depP_grow HT.out (newN ms k) rfl HKF.out
          have hTk := (taken_grow HT.out (by omega) (newN ms k) rfl HKF.out (newN_named hk1 hk2) (newN_fits ms k)).check
          have hml : (ms ++ [newN ms k]).length = ms.length + 1 := by simp
          have hol : (ordP (ms ++ [newN ms k])).length = ms.length + 1 := by rw [hord, List.length_append, HT.out.ord]; rfl
          have hdp : depP ms ≤ 40 := by
            have h1 := (depK_le ms (ordP ms) (ordP ms).length).2
            rw [List.take_length] at h1
            have h2 := ordP_len ms
            have h3 : depP ms = (depK ms (ordP ms)).2 := rfl
            omega
          have hO := order_any _ name a9 (ms.length + 1) c9 _ NL hml (by omega)
          have BX : (w9.setCell ⟨xb, 1, none⟩ (.slice a9 (ms.length + 1) c9)).heap[xb]? = some (.cells #[.string name, .slice a9 (ms.length + 1) c9] 24 (0, 0)) := by simp [World.setCell, Array.getElem?_modify, HBX9.out]
          have BD : (w9.setCell ⟨xb, 1, none⟩ (.slice a9 (ms.length + 1) c9)).heap[w.heap.size]? = some (.cells #[.string name, .slice a' ms.length c'] 24 (0, 0)) := (KV.block _ hbs (by omega)).trans HB0.out
          have KwV : Kept (fun _ => False) w (w9.setCell ⟨xb, 1, none⟩ (.slice a9 (ms.length + 1) c9)) := HK2.out.trans KV (fun j h => .inr (by have := HK2.out.size; omega))
          clear O9V O2V O2r hfine ho9 hg9 hl9 hrow KS KG t0 t1 t1a tz x0 x1 g0 g1 g2 g3 g4 g5 g6 v0 v1 vz0 vz1
          generalize w9.setCell ⟨xb, 1, none⟩ (.slice a9 (ms.length + 1) c9) = V9 at *
          refine hO.mono ?_
          rintro e w10 ⟨al, cl, rfl, O10, K10⟩
          clear hO
          rw [hol]
          rw [hol] at O10
          have hll : (ordP ms ++ [ms.length]).length = ms.length + 1 := by rw [← hord]; exact hol
          have O11 : w10.ownsRow V9.heap.size 3 1 (.slice al (ordP ms ++ [ms.length]).length cl) (ordP ms ++ [ms.length]).length (natsV (ordP ms ++ [ms.length])) := by
            rw [hll, ← hord]; exact O10
          obtain ⟨g, rfl, _, _, _, hgc⟩ := nats_at O11 (by rw [hll]; omega)
          have lc := hgc ms.length (by rw [hll]; omega)
          have hlast : (ordP ms ++ [ms.length])[ms.length]'(by rw [hll]; omega) = ms.length := by
            have : (ordP ms).length = ms.length := HT.out.ord
            rw [List.getElem_append_right (by omega)]
            simp
          rw [hlast] at lc
          have hC10 := check_any w10 name a9 (ms.length + 1) c9 _ (keptNew K10 NL) hml
          rw [hTk] at hC10
          obtain ⟨⟨x0, x1⟩, _, _⟩ := twoC ((K10.block _ (Array.getElem?_eq_some_iff.1 BX).1 (fun h => h)).trans BX)
          have HXf : Hid (∀ V, Kept (fun _ => False) w10 V → V.cell? ⟨xb, 0, none⟩ = some (.string name) ∧ V.cell? ⟨xb, 1, none⟩ = some (.slice a9 (ms.length + 1) c9) ∧ V.cell? ⟨w.heap.size, 0, none⟩ = some (.string name) ∧ V.cell? ⟨w.heap.size, 1, none⟩ = some (.slice a' ms.length c') ∧ V.cell? ⟨g, ms.length, none⟩ = some (.int .i64 (ms.length : Nat))) := fun V KV => by
            obtain ⟨⟨q0, q1⟩, _, _⟩ := twoC (((K10.and KV).block _ (Array.getElem?_eq_some_iff.1 BX).1 (fun h => h)).trans BX)
            obtain ⟨⟨q2, q3⟩, _, _⟩ := twoC (((K10.and KV).block _ (Array.getElem?_eq_some_iff.1 BD).1 (fun h => h)).trans BD)
            exact ⟨q0, q1, q2, q3, keepC KV lc (fun _ _ h => h)⟩
          have HDx : Hid (∀ V, Kept (fun _ => False) w10 V → Calls Tryd.prog 9 #[.agg #[.string name, .slice a9 (ms.length + 1) c9]] V fun e w' => e = .returned (.int .i64 ((depP ms + 1 : Nat) : Int)) ∧ Kept (fun _ => False) V w') := fun V KV => by
            have h := depth_any V name a9 (ms.length + 1) c9 _ (keptNew KV (keptNew K10 NL)) hml (by omega)
            rw [hdep] at h
            exact h
          have HDd : Hid (∀ V, Kept (fun _ => False) w10 V → Calls Tryd.prog 9 #[.agg #[.string name, .slice a' ms.length c']] V fun e w' => e = .returned (.int .i64 ((depP ms : Nat) : Int)) ∧ Kept (fun _ => False) V w') := fun V KV => depth_any V name a' ms.length c' ms (keptNew KV (keptNew K10 NV)) rfl (by omega)
          have hdec : decide ((ms.length + 1) = ms.length + 1) = true := by simp
          have HKw : Hid (Kept (fun _ => False) w w10) := KwV.and K10
          clear O10 O11 hgc lc hlast hll hTk hord hdep hol hml NL NV BX BD KV KwV K10
          try rw [hdec]
          clear hdec
          generalize depP ms = dp at *
          go_wp2_with (first
            | (go_at_call 5; refine hC10.mono ?_; rintro e w11 ⟨rfl, K11⟩; clear hC10)
            | fail)
          obtain ⟨q0, q1, q2, q3, q4⟩ := HXf.out w11 K11
          have KDr := Kept.drew (fun _ => False) w11
          refine wp_onlyN (grows14 (nm := name) (dx := dp + 1) (dd := dp) _ q0 q1 q2 q3 q4 (by rw [IntKind.wrap_i64]; omega) (by omega) (by rw [IntKind.wrap_i64]; omega) (fun V KV => HDx.out V ((K11.and KDr).and KV)) (fun V KV => HDd.out V ((K11.and KDr).and KV)) hW ?_)
          intro j70 j71 j72 j73 j74 j75 j76 j77 j78 j79 j80 j81 j82 j83 j84 j85 j86 j87 j88 j89 j90 j91 j92 j93 j94 j95 j96 j97 j98 j99 j100 j101 j102 j103 j104 j105 w12 K12
          clear q0 q1 q2 q3 q4 KDr
          dsimp only
          go_wp2_with fail
          go_ret
          exact ⟨rfl, ((HKw.out.and K11).and K12).none⟩
  · have hz : ((checkP name ms).2 == 0) = false := by simpa using hT
    have hz3 : ((checkP name ms).2 != 0) = true := by simpa using hT
    clear hT
    generalize (checkP name ms).2 = z2 at *
    generalize (checkP name ms).1 = z1' at *
    go_enter Tryd.func3, Tryd.ntmps3
    go_wp2_with (first
      | (go_at_call 4; refine hCut.mono ?_; rintro e w1 ⟨a', c', rfl, N1, hc1, K1⟩; clear hCut; have hd := boxD K1; obtain ⟨d0, d1⟩ := hd; have B1 := BoxSt.mk' (m := ms.length) (c' := c') K1 N1; have fz := (K1.block w.heap.size (by simp) (fun h => h)).trans (heap_alloc_new _ _); obtain ⟨_, z0, z1⟩ := twoC fz; obtain ⟨⟨x0, x1⟩, _, _⟩ := twoC B1.b0; have hC := HCk.out _ _ c' B1.nodes; have HB : Hid (BoxSt w ((w1.setCell ⟨w.heap.size, 0, none⟩ (.string name)).setCell ⟨w.heap.size, 1, none⟩ (.slice a' ms.length c')) name a' ms.length c' ms) := B1; clear B1 N1 fz HCk)
      | (go_at_call 5; refine hC.mono ?_; rintro e w2 ⟨rfl, K2⟩; clear hC; have y0 := keepC K2 x0 (fun _ _ h => h); have y1 := keepC K2 x1 (fun _ _ h => h))
      | (go_at_call 6; refine (hW _).mono ?_; rintro e w3 ⟨rfl, K3⟩; clear hW)
      | fail)
    go_ret
    exact ⟨rfl, ((HB.out.kept.and K2).and K3).none⟩

set_option maxRecDepth 100000 in
theorem dagGrows_lifted (os : Os) (started : os.Started) (H : Type) (enc : TypeId × Value → H) :
    ReturnsInHanded {} Tryd.checked os 3 .any (fun w args => (Rows.dagGrowsSpec.pre enc Tryd.prog Tryd.f3 [] false w args ∧ laidMetH Tryd.prog laidL w) ∧ sizedMet enc Tryd.prog Tryd.f3 (OpenSpec.ofChange Rows.dagGrowsSpec) false w args)
      (Rows.dagGrowsSpec.post enc Tryd.prog Tryd.f3 false true false false) := by
  refine returnsInHanded_of_change_and (C := Tryd.checked) (X := fun w _ => laidMetH Tryd.prog laidL w) (fun _ _ _ hh h => h.of_heap hh) Tryd.own started (by kernel_rfl) Tryd.func3
    (ChangeSpec.witness_shaped (enc := enc) (C := Tryd.checked) (os := os) (X := fun w _ => laidMetH Tryd.prog laidL w) false (World.doorLaid Tryd.prog 62 os) #[.agg #[.string ⟨#[]⟩, .slice none 0 0]] 8 rfl (World.shaped_of_RefB (by kernel_rfl) (by kernel_rfl)) (by kernel_rfl) (by kernel_rfl) (by kernel_rfl) (door_met os _)) ?_
  intro W base args ds gs before hval0 hW _ _ hL _
  have hval : ∀ (j : Nat) t v, Tryd.f3.params[j]? = some t → args[j]? = some v → Value.okWide Tryd.prog W .any base t v := hval0
  have hW' := hW
  obtain ⟨p, q, hA0, hV, rfl, _, _⟩ := hW
  have hA : DataW.TrodAll enc Tryd.prog W 0 (fun _ => true) true Tryd.f3.params.toList args.toList ds p := hA0
  rw [Tryd.params3] at hA hval
  obtain ⟨v0, vs0, d0, ds0, p0, q0, hargs, rfl, rfl, h0, r0⟩ := trodAll_cons hA
  obtain ⟨rfl, rfl, rfl⟩ := trodAll_nil r0
  obtain rfl : args = #[v0] := by cases args; simp_all
  obtain ⟨rfl, rfl⟩ := trodVars_none hV
  have k0 := h0
  have lt0 : ∀ x ∈ p0, x.block < W.heap.size := by obtain ⟨m, hm⟩ := k0; exact DataW.trod_lt m _ _ _ hm
  obtain ⟨nm0, a0, c0, ns0, rfl, z0, y0, x0, w0⟩ := dv_open (hval 0 24 v0 rfl rfl) h0
  clear hA0 hval0
  refine (dagGrows_walk _ _ _ _ W w0 y0).mono fun e W' ⟨he, bel⟩ => ?_
  subst he
  exact ⟨_, rfl, _, _, _, [], _, [], hW', trodAll_mk1 (shut_bool Tryd.underlying4 _), (trodAll_cons_mk (Below.trod Tryd.laidOut (by kernel_rfl) (of_decide_eq_true (by kernel_rfl)) k0 bel lt0) trodAll_mk0), rfl, bel.frame _, fun h => by cases h⟩

theorem dagGrows_row : Rows.DagGrowsSaid :=
  OpenClaim.holds_of_wide 3 Tryd.f3 rfl rfl rfl rfl rfl rfl rfl ⟨rfl, rfl, rfl, rfl, rfl⟩ rfl rfl rfl rfl rfl (by kernel_rfl) Tryd.func3 (by kernel_rfl)
    (of_decide_eq_true (by kernel_rfl)) (by unfold Func.isWrapper; first | (rw [if_pos (by decide +kernel)]; kernel_rfl) | (rw [if_neg (by decide +kernel)]; exact ⟨rfl, rfl⟩))
    (fun os started H enc _ => dagGrows_lifted os started H enc)

theorem dagGrows_holds : Rows.DagGrowsCardSaid :=
  Claim7.holds_tied_plain_at .later [] [.data, .data, .data, .sentinel, .sentinel] true Rows.dagGrowsCard.stood.harness true
    dagGrows_row (fun _ h => by cases h) (by kernel_rfl) (fun _ h => by cases h) dagGrows_row_tie rfl ⟨rfl, rfl⟩ (by kernel_rfl) rfl
    (fun f fn hf hfn => by
      obtain rfl : f = 3 := Option.some.inj ((show Tryd.prog.funcNamed "tiller/tillerlaw08.DagGrows" = some 3 by kernel_rfl).symm.trans hf) |>.symm
      obtain rfl : fn = Tryd.f3 := (Option.some.inj (Tryd.func3.symm.trans hfn)).symm
      exact ⟨by kernel_rfl, fun j t ht => by
        rw [Tryd.params3] at ht
        have hm : t ∈ [24] := by simpa using Array.mem_of_getElem? ht
        have hall : ([24].all fun u => !Tryd.prog.wantsStandIn u) = true := by kernel_rfl
        exact (show Tryd.prog.wantsStandIn t = false by simpa using List.all_eq_true.1 hall t hm)⟩)
    (by kernel_rfl)

end Go.Proofs.YtalhdgelkomaiabDoor
