/-
  changeNode: an event of a node.
-/
import Derived.Test.YtdecceekodpjiaaDoorHNode
import Derived.Test.YtdecceekodpjiaaDoorHReg3
import Derived.Deep.Cut
namespace Go.Proofs.YtdecceekodpjiaaDoor
open Go.RowKit

def ChgPost (w : World) (F : Nat → Prop) (sb so : Nat) (T : TypeId) (pre post : List Value) (r : Option St) (e : Ending) (w' : World) : Prop :=
  e = .returned (.bool r.isSome) ∧ match r with
    | none => Kept (fun _ => False) w w'
    | some s => Goes w F sb so T pre post s w'

theorem StIn.setNodes {w w' : World} {F : Nat → Prop} {sb so g n c : Nat} {T : TypeId} {pre post : List Value} {s : St} {v7 : Value} {l : List Ns} (S : StIn w F sb so T pre post s (.slice (some ⟨g, 0, none⟩) n c) v7) (K : Kept (fun j => j = g) w w')
    (hr : w'.ownsRow 0 54 3 (.slice (some ⟨g, 0, none⟩) n c) l.length (nsF l)) (h7 : v7.ownBlock ≠ some g) : StIn w' F sb so T pre post { s with nodes := l } (.slice (some ⟨g, 0, none⟩) n c) v7 := by
  have hg := S.in6 g rfl
  exact ⟨(K.block _ S.lt (fun h => hg.2 h.symm)).trans S.blk, S.off, hr, ownsRow_keep S.sigs (fun q hq => K.block q (ownsRow_blk S.sigs hq) (fun h => h7 (h ▸ hq))), S.inS, S.in6, S.in7, fun q h => Nat.lt_of_lt_of_le (S.top q h) K.size⟩

theorem rows_apart {w : World} {F : Nat → Prop} {sb so : Nat} {T : TypeId} {pre post : List Value} {s : St} {v6 v7 : Value} (S : StIn w F sb so T pre post s v6 v7) {g : Nat} (hg : v6.ownBlock = some g) : v7.ownBlock ≠ some g := by
  intro h7
  rcases S.nodes.2 with ⟨h0, _⟩ | ⟨g', cap, cur, rfl, _, hh, _⟩
  · rw [h0] at hg; cases hg
  · obtain rfl : g' = g := by simpa [Value.ownBlock] using hg
    rcases S.sigs.2 with ⟨h1, _⟩ | ⟨g2, cap2, cur2, rfl, _, hh2, _⟩
    · rw [h1] at h7; cases h7
    · obtain rfl : g2 = g' := by simpa [Value.ownBlock] using h7
      rw [hh] at hh2
      simp only [Option.some.injEq, Obj.cells.injEq] at hh2
      exact absurd hh2.2.1 (by decide)

theorem hid {p : Prop} (h : p) : Hid p := h

theorem four {w : World} {b : Nat} {T : TypeId} {u0 u1 u2 u3 : Value} (h : w.heap[b]? = some (.cells #[u0, u1, u2, u3] T (0, 0))) :
    (w.cell? ⟨b, 0, none⟩ = some u0 ∧ w.cell? ⟨b, 1, none⟩ = some u1 ∧ w.cell? ⟨b, 2, none⟩ = some u2 ∧ w.cell? ⟨b, 3, none⟩ = some u3) ∧
    (w.frozen? ⟨b, 0, none⟩ = false ∧ w.frozen? ⟨b, 1, none⟩ = false ∧ w.frozen? ⟨b, 2, none⟩ = false ∧ w.frozen? ⟨b, 3, none⟩ = false) := by
  simp [World.cell?, World.frozen?, h]

theorem twoB {w : World} {b : Nat} {T : TypeId} {u0 u1 : Value} (h : w.heap[b]? = some (.cells #[u0, u1] T (0, 0))) : w.cell? ⟨b, 0, none⟩ = some u0 ∧ w.cell? ⟨b, 1, none⟩ = some u1 := by
  simp [World.cell?, h]

/-- The definition and the event, boxed. -/
structure BxSt (w V : World) (nm : ByteArray) (a : Option Addr) (n c : Nat) (ek : Int) (en et : ByteArray) (ez : Int) : Prop where
  b0 : V.heap[w.heap.size]? = some (.cells #[.string nm, .slice a n c] 28 (0, 0))
  b1 : V.heap[w.heap.size + 1]? = some (.cells #[.int .i64 ek, .string en, .string et, .int .i64 ez] 59 (0, 0))

theorem BxSt.kept {w V V' : World} {G : Nat → Prop} {nm : ByteArray} {a : Option Addr} {n c : Nat} {ek : Int} {en et : ByteArray} {ez : Int} (B : BxSt w V nm a n c ek en et ez) (K : Kept G V V') (hG : ∀ g, G g → g < w.heap.size) : BxSt w V' nm a n c ek en et ez :=
  ⟨(K.block _ (Array.getElem?_eq_some_iff.1 B.b0).1 (fun h => by have := hG _ h; omega)).trans B.b0, (K.block _ (Array.getElem?_eq_some_iff.1 B.b1).1 (fun h => by have := hG _ h; omega)).trans B.b1⟩

theorem BxSt.begun (w : World) (nm : ByteArray) (a : Option Addr) (n c : Nat) (ek : Int) (en et : ByteArray) (ez : Int) : BxSt w ((w.alloc (.cells #[.string nm, .slice a n c] 28)).alloc (.cells #[.int .i64 ek, .string en, .string et, .int .i64 ez] 59)) nm a n c ek en et ez := by
  refine ⟨?_, ?_⟩
  · rw [Below.heap_alloc _ _ _ (by rw [World.size_alloc]; omega)]
    exact heap_alloc_new _ _
  · have h := heap_alloc_new (w.alloc (.cells #[.string nm, .slice a n c] 28)) (.cells #[.int .i64 ek, .string en, .string et, .int .i64 ez] 59)
    rw [World.size_alloc] at h
    exact h

set_option maxRecDepth 100000 in
set_option maxHeartbeats 8000000 in
theorem changeNode_any (w : World) (F : Nat → Prop) (sb so : Nat) (T : TypeId) (pre post : List Value) (s : St) (v6 v7 : Value) (S : StIn w F sb so T pre post s v6 v7) (h6 : s.nodes.length ≤ 1000000) (h7 : s.sigs.length ≤ 1000000)
    (nm : ByteArray) (a : Option Addr) (c : Nat) (ns : List Nd) (hN : NodesAt w a ns) (hn : ns.length ≤ 1000000) (hNF : ∀ b o, a = some ⟨b, o, none⟩ → ¬ F b) (M : MovesAt w) (ev : Ev) :
    Calls Tryd.prog 59 #[.agg #[.string nm, .slice a ns.length c], .pointer (some ⟨sb, so, none⟩), .agg #[.int .i64 ev.kind, .string ev.node, .string ev.text, .int .i64 ev.num]] w (ChgPost w F sb so T pre post (changeNodeP ns s ev)) := by
  obtain ⟨ek, en, et, ez⟩ := ev
  simp only []
  have K0 : Kept (fun _ => False) w ((w.alloc (.cells #[.string nm, .slice a ns.length c] 28)).alloc (.cells #[.int .i64 ek, .string en, .string et, .int .i64 ez] 59)) := (Kept.alloc _ _ _).and (Kept.alloc _ _ _)
  have hF := fun V (KV : Kept (fun _ => False) w V) => hfind_any V nm a c ns (keptNew KV hN) hn s v6 v7 ((S.rd h6 h7).new KV) en
  have S0 := S.new K0
  have hb := S0.blk
  unfold stL at hb
  obtain ⟨⟨c0, c1, c2, c3, c4, c5, c6, c7, c8⟩, _⟩ := nineAt hb S0.off
  have HS : Hid (StIn w F sb so T pre post s v6 v7) := S
  have HN : Hid (NodesAt w a ns) := hN
  have HM : Hid (MovesAt w) := M
  have HK0 : Hid (Kept (fun _ => False) w ((w.alloc (.cells #[.string nm, .slice a ns.length c] 28)).alloc (.cells #[.int .i64 ek, .string en, .string et, .int .i64 ez] 59))) := K0
  have B0 := BxSt.begun w nm a ns.length c ek en et ez
  have HB0 : Hid (BxSt w ((w.alloc (.cells #[.string nm, .slice a ns.length c] 28)).alloc (.cells #[.int .i64 ek, .string en, .string et, .int .i64 ez] 59)) nm a ns.length c ek en et ez) := B0
  obtain ⟨x0, x1⟩ := twoB B0.b0
  obtain ⟨⟨_, x2, _, _⟩, _⟩ := four B0.b1
  unfold stA at hF
  have hF0 := hF _ (K0.and (Kept.drew _ _))
  unfold changeNodeP
  simp only []
  clear S S0 hb hN M K0 hF B0
  cases hf : findP ns en with
  | none =>
    have hq : findS ns s.nodes.length en = false := by unfold findS; rw [hf]
    rw [hf, hq] at hF0
    simp only [Option.getD_none] at hF0 ⊢
    clear hf hq
    go_enter Tryd.func59, Tryd.ntmps59
    go_wp2_with fail
    refine wp_onlyN (cn1 _ x0 x1 c0 c1 c2 c3 c4 c5 c6 c7 c8 x2 hF0 ?_)
    intro _ _ _ _ _ _ _ _ _ _ w5 K5
    clear hF0 x0 x1 x2 c0 c1 c2 c3 c4 c5 c6 c7 c8
    go_wp2_with fail
    go_ret
    exact ⟨rfl, HK0.out.and K5⟩
  | some i =>
    have hi := findP_lt hf
    by_cases him : i < s.nodes.length
    · have hq : findS ns s.nodes.length en = true := by unfold findS; rw [hf]; exact decide_eq_true him
      rw [hf, hq] at hF0
      simp only [Option.getD_some] at hF0 ⊢
      clear hf hq
      have hm : nodeMove ns s ⟨ek, en, et, ez⟩ i = moveP ek (ns[i]).kind (s.nodes[i]).status := by unfold nodeMove; rw [List.getElem?_eq_getElem hi, List.getElem?_eq_getElem him]
      have ha : argAt ns i = (ns[i]).arg := by unfold argAt; rw [List.getElem?_eq_getElem hi]
      rw [hm, ha]
      clear hm ha
      obtain ⟨b, o, av, cv, hae, hT, k0, k1, k2, k3, k4, k5, k6⟩ := HN.out.at hi
      have hFb := hNF b o hae
      subst hae
      obtain ⟨g, cg, hv6, hown, hcap, hrow⟩ := row_at HS.out.nodes (by omega)
      subst hv6
      obtain ⟨q0, q1, q2⟩ := nsF_get him
      have hMv := fun V (KV : Kept (fun _ => False) w V) => moveOf_any V (HM.out.kept KV (fun h => h)) ek (ns[i]).kind (s.nodes[i]).status
      have hgF := HS.out.in6 g rfl
      have hgt := HS.out.top g hgF.1
      have hap := rows_apart HS.out (g := g) rfl
      clear hNF hT k0 k3 k4 k5 k6
      generalize ns[i] = nd at *
      cases hmv : moveP ek nd.kind (s.nodes[i]).status with
      | none =>
        rw [hmv] at hMv
        simp only [Option.getD_none, Option.isSome_none] at hMv ⊢
        clear hmv
        go_enter Tryd.func59, Tryd.ntmps59
        go_wp2_with fail
        refine wp_onlyN (cn1 _ x0 x1 c0 c1 c2 c3 c4 c5 c6 c7 c8 x2 hF0 ?_)
        intro _ _ _ _ _ _ _ _ _ _ w5 K5
        have K05 := HK0.out.and K5
        have B5 := HB0.out.kept K5 (fun g h => h.elim)
        obtain ⟨⟨b10, _, _, _⟩, _⟩ := four B5.b1
        obtain ⟨_, b01⟩ := twoB B5.b0
        have S5 := HS.out.new K05
        have hb5 := S5.blk
        unfold stL at hb5
        obtain ⟨⟨_, _, _, _, _, _, s6, _, _⟩, _⟩ := nineAt hb5 S5.off
        have r1 := keepC K05 k1 (fun _ _ h => h)
        have r2 := keepC K05 (hrow _ _ q0).1 (fun _ _ h => h)
        have HMv : Hid _ := hMv
        have HS5 : Hid (StIn w5 F sb so T pre post s (.slice (some ⟨g, 0, none⟩) s.nodes.length cg) v7) := S5
        have HB5 : Hid (BxSt w w5 nm (some ⟨b, o, none⟩) ns.length c ek en et ez) := B5
        have HK05 : Hid (Kept (fun _ => False) w w5) := K05
        clear hF0 x0 x1 x2 c0 c1 c2 c3 c4 c5 c6 c7 c8 hMv S5 hb5 B5
        go_wp2_with fail
        refine wp_onlyN (cn4 (mv := zeroMv) (z8 := false) _ b10 b01 r1 s6 r2 hi him hn (fun V KV => HMv.out V (K05.and ((Kept.drew _ _).and KV))) ?_)
        intro _ _ _ _ _ _ _ _ _ _ _ _ _ _ _ _ _ _ _ _ mb w6 hmb hM6 K6
        clear b10 b01 r1 s6 r2
        go_wp2_with (first | go_quiet (fail) | fail)
        go_ret
        exact ⟨rfl, (K05.and K6).and (Kept.drewN _ _ _)⟩
      | some m =>
        rw [hmv] at hMv
        simp only [Option.getD_some, Option.isSome_some] at hMv ⊢
        clear hmv
        by_cases h12 : ek = 12
        · subst h12
          rw [if_pos rfl]
          generalize hrc : receiveP s.sigs nd.arg m.src ez = rx
          go_enter Tryd.func59, Tryd.ntmps59
          go_wp2_with fail
          refine wp_onlyN (cn1 _ x0 x1 c0 c1 c2 c3 c4 c5 c6 c7 c8 x2 hF0 ?_)
          intro _ _ _ _ _ _ _ _ _ _ w5 K5
          have K05 := HK0.out.and K5
          have B5 := HB0.out.kept K5 (fun g h => h.elim)
          obtain ⟨⟨b10, _, _, _⟩, _⟩ := four B5.b1
          obtain ⟨_, b01⟩ := twoB B5.b0
          have S5 := HS.out.new K05
          have hb5 := S5.blk
          unfold stL at hb5
          obtain ⟨⟨_, _, _, _, _, _, s6, _, _⟩, _⟩ := nineAt hb5 S5.off
          have r1 := keepC K05 k1 (fun _ _ h => h)
          have r2 := keepC K05 (hrow _ _ q0).1 (fun _ _ h => h)
          have HMv : Hid _ := hMv
          have HS5 : Hid (StIn w5 F sb so T pre post s (.slice (some ⟨g, 0, none⟩) s.nodes.length cg) v7) := S5
          have HB5 : Hid (BxSt w w5 nm (some ⟨b, o, none⟩) ns.length c 12 en et ez) := B5
          have HK05 : Hid (Kept (fun _ => False) w w5) := K05
          clear hF0 x0 x1 x2 c0 c1 c2 c3 c4 c5 c6 c7 c8 hMv S5 hb5 B5
          go_wp2_with fail
          refine wp_onlyN (cn4 (mv := m) (z8 := true) _ b10 b01 r1 s6 r2 hi him hn (fun V KV => HMv.out V (K05.and ((Kept.drew _ _).and KV))) ?_)
          intro _ _ _ _ _ _ _ _ _ _ _ _ _ _ _ _ _ _ _ _ mb w6 hmb hM6 K6
          clear b10 b01 r1 s6 r2
          have B6 := HB5.out.kept K6 (fun g h => h.elim)
          obtain ⟨⟨t0, _, _, t3⟩, _⟩ := four B6.b1
          obtain ⟨_, d1⟩ := twoB B6.b0
          obtain ⟨⟨_, _, m2, _, _⟩, _⟩ := five hM6
          have S6 := HS5.out.new K6
          have K06 := K05.and K6
          have x2 := keepC K06 k2 (fun _ _ h => h)
          have hR := receive_any w6.drew F sb so T pre post s _ v7 (S6.new (Kept.drew _ _)) h6 h7 nd.arg m.src ez
          have htop : ∀ q, F q → q < w.heap.size := HS.out.top
          have HB6 : Hid (BxSt w w6 nm (some ⟨b, o, none⟩) ns.length c 12 en et ez) := B6
          have HK06 : Hid (Kept (fun _ => False) w w6) := K06
          have HM6 : Hid (w6.heap[mb]? = some (.cells #[.int .i64 m.event, .int .i64 m.kind, .int .i64 m.src, .int .i64 m.dst, .bool m.txt] 116 (0, 0))) := hM6
          have hz5 := K05.size
          clear S6 B6 hM6 K6 K06 K05 K5 HK05 HS5 HB5 HB0 HK0 HS HN HM HMv hown hcap hgt k1 k2 hgF hap hrow
          rw [hrc] at hR
          clear hrc
          cases rx with
          | none =>
            simp only []
            go_wp2_with fail
            refine wp_onlyN (cn5 (F := fun _ => False) (R := fun V => Kept (fun _ => False) w6.drew V) (r := false) _ t0 d1 x2 m2 t3 hi hn (fun h => h) (fun h => h) (fun h => h) (fun h => h) hR (fun _ h => h) ?_)
            intro _ _ _ _ _ _ _ _ _ _ _ _ _ _ _ _ _ _ _ _ _ w7 K7
            clear t0 d1 x2 m2 t3 hR
            go_wp2_with fail
            go_ret
            exact ⟨rfl, (HK06.out.and (Kept.drew _ _)).and K7⟩
          | some l =>
            simp only []
            have n0 : ¬ F (w.heap.size + 1) := fun h => by have := htop _ h; omega
            have n1 : ¬ F w.heap.size := fun h => by have := htop _ h; omega
            have n3 : ¬ F mb := fun h => by have := htop _ h; omega
            go_wp2_with fail
            refine wp_onlyN (cn5 (F := F) (R := fun V => Goes w6.drew F sb so T pre post { s with sigs := l } V) (r := true) _ t0 d1 x2 m2 t3 hi hn n0 n1 hFb n3 hR (fun _ h => h.2) ?_)
            intro _ _ _ _ _ _ _ _ _ _ _ _ _ _ _ _ _ _ _ _ _ w7 R7
            clear t0 d1 x2 m2 t3 hR
            obtain ⟨⟨F7, u6, v7x, S7, hF7⟩, K7d⟩ := R7
            have K7 : Kept F w6 w7 := (Kept.drew F w6).and K7d
            have hz6 : mb < w6.heap.size := (Array.getElem?_eq_some_iff.1 HM6.out).1
            have hz7 : w.heap.size + 1 < w6.heap.size := (Array.getElem?_eq_some_iff.1 HB6.out.b1).1
            have hM7 := (K7.block mb hz6 n3).trans HM6.out
            have B7 := HB6.out.kept K7 htop
            have hF7' : ∀ q, F7 q → F q ∨ w6.heap.size ≤ q := hF7
            obtain ⟨⟨t0, _, t2, t3⟩, _⟩ := four B7.b1
            obtain ⟨⟨_, _, _, m3, m4⟩, _⟩ := five hM7
            have hb7 := S7.blk
            unfold stL at hb7
            obtain ⟨⟨_, _, _, _, _, _, s6, _, _⟩, _⟩ := nineAt hb7 S7.off
            obtain ⟨g7, cg7, hv7, _, _, hrow7⟩ := row_at S7.nodes (Nat.lt_of_le_of_lt (Nat.zero_le _) him)
            subst hv7
            have n0 := hrow7 _ _ q0
            have n1 := hrow7 _ _ q1
            have n2 := hrow7 _ _ q2
            have hg7 : F7 g7 := (S7.in6 g7 rfl).1
            have hmg : mb ≠ g7 := fun h => by
              rcases hF7' _ hg7 with h1 | h1
              · exact n3 (h ▸ h1)
              · omega
            have heg : w.heap.size + 1 ≠ g7 := fun h => by
              rcases hF7' _ hg7 with h1 | h1
              · have := htop _ h1
                omega
              · omega
            have hap7 : v7x.ownBlock ≠ some g7 := rows_apart S7 (g := g7) rfl
            have HS7 : Hid (StIn w7 F7 sb so T pre post { s with sigs := l } (.slice (some ⟨g7, 0, none⟩) s.nodes.length cg7) v7x) := S7
            have o7 : Hid (w7.ownsRow 0 54 3 (.slice (some ⟨g7, 0, none⟩) s.nodes.length cg7) s.nodes.length (nsF s.nodes)) := S7.nodes
            have oth : ∀ (V : World) (q k j : Nat) (u v : Value), q ≠ g7 → V.cell? ⟨q, k, none⟩ = some v → (V.setCell ⟨g7, j, none⟩ u).cell? ⟨q, k, none⟩ = some v := fun V q k j u v hq hc => by
              rw [World.cell?_setCell_other _ _ _ _ (fun h => hq (by cases h; rfl))]
              exact hc
            have HFr : Hid ((∀ q, F7 q → F q ∨ w.heap.size ≤ q) ∧ Kept F w w7) := ⟨fun q h => (hF7' q h).imp id (fun h => Nat.le_trans HK06.out.size h), (HK06.out.mono (fun _ h => h.elim)).and K7⟩
            clear hb7 S7 B7 hM7 K7 K7d HK06 HM6 HB6 n3 hF7 hF7' htop hz5 hz6 hz7 hmb hFb
            cases htx : m.txt with
            | true =>
              rw [htx] at m4
              have a1 := oth w7 mb 4 (i * 3) (.int .i64 m.dst) _ hmg m4
              have a2 := oth w7 (w.heap.size + 1) 0 (i * 3) (.int .i64 m.dst) _ heg t0
              have a3 := oth w7 (w.heap.size + 1) 2 (i * 3) (.int .i64 m.dst) _ heg t2
              have r1 := ownsRow_put o7.out (i * 3) (.int .i64 m.dst)
              obtain ⟨g1, cg1, hv1, _, _, hr1⟩ := row_at r1 (by omega)
              obtain ⟨rfl, rfl⟩ : g7 = g1 ∧ cg7 = cg1 := by simpa using hv1
              have z1 := hr1 (i * 3 + 1) _ (by rw [List.getElem?_set_ne (by omega)]; exact q1)
              have z2 := hr1 (i * 3 + 2) _ (by rw [List.getElem?_set_ne (by omega)]; exact q2)
              have a5 := oth (w7.setCell ⟨g7, i * 3, none⟩ (.int .i64 m.dst)) (w.heap.size + 1) 0 (i * 3 + 2) (.string et) _ heg a2
              have r2 := ownsRow_put r1 (i * 3 + 2) (.string et)
              obtain ⟨g2, cg2, hv2, _, _, hr2⟩ := row_at r2 (by omega)
              obtain ⟨rfl, rfl⟩ : g7 = g2 ∧ cg7 = cg2 := by simpa using hv2
              have z3 := hr2 (i * 3 + 1) _ (by rw [List.getElem?_set_ne (by omega), List.getElem?_set_ne (by omega)]; exact q1)
              have Kg := (Kept.setCell (S := fun j => j = g7) w7 ⟨g7, i * 3, none⟩ (.int .i64 m.dst) rfl).and (Kept.setCell (S := fun j => j = g7) _ ⟨g7, i * 3 + 2, none⟩ (.string et) rfl)
              have hlist := nl_tf him m ⟨12, en, et, ez⟩ htx (show (12 : Int) ≠ 3 by decide)
              have HRow := hid r2
              obtain ⟨n00, n01⟩ := n0
              obtain ⟨z10, z11⟩ := z1
              obtain ⟨z20, z21⟩ := z2
              obtain ⟨z30, z31⟩ := z3
              have HKg := hid Kg
              have HL := hid hlist
              clear r1 hr1 hv1 n1 n2 oth q0 q1 q2 hrow7 Kg hlist r2 hr2 hv2
              go_wp2_with fail
              go_ret
              refine ⟨rfl, ⟨F7, _, v7x, HS7.out.setNodes HKg.out ?_ hap7, HFr.out.1⟩, HFr.out.2.trans HKg.out (fun j h => by subst h; exact HFr.out.1 _ hg7)⟩
              rw [setNode_len]
              have hrw := HRow.out
              rw [← HL.out] at hrw
              exact hrw
            | false =>
              rw [htx] at m4
              have a1 := oth w7 mb 4 (i * 3) (.int .i64 m.dst) _ hmg m4
              have a2 := oth w7 (w.heap.size + 1) 0 (i * 3) (.int .i64 m.dst) _ heg t0
              have r1 := ownsRow_put o7.out (i * 3) (.int .i64 m.dst)
              obtain ⟨g1, cg1, hv1, _, _, hr1⟩ := row_at r1 (by omega)
              obtain ⟨rfl, rfl⟩ : g7 = g1 ∧ cg7 = cg1 := by simpa using hv1
              have z1 := hr1 (i * 3 + 1) _ (by rw [List.getElem?_set_ne (by omega)]; exact q1)
              have z2 := hr1 (i * 3 + 2) _ (by rw [List.getElem?_set_ne (by omega)]; exact q2)
              have Kg := Kept.setCell (S := fun j => j = g7) w7 ⟨g7, i * 3, none⟩ (.int .i64 m.dst) rfl
              have hlist := nl_ff him m ⟨12, en, et, ez⟩ htx (show (12 : Int) ≠ 3 by decide)
              have HRow := hid r1
              obtain ⟨n00, n01⟩ := n0
              obtain ⟨z10, z11⟩ := z1
              obtain ⟨z20, z21⟩ := z2
              have HKg := hid Kg
              have HL := hid hlist
              clear r1 hr1 hv1 n1 n2 oth q0 q1 q2 hrow7 Kg hlist
              go_wp2_with fail
              go_ret
              refine ⟨rfl, ⟨F7, _, v7x, HS7.out.setNodes HKg.out ?_ hap7, HFr.out.1⟩, HFr.out.2.trans HKg.out (fun j h => by subst h; exact HFr.out.1 _ hg7)⟩
              rw [setNode_len]
              have hrw := HRow.out
              rw [← HL.out] at hrw
              exact hrw
        · have e12 : (ek == 12) = false := by simp [h12]
          rw [if_neg h12]
          simp only []
          clear h12
          go_enter Tryd.func59, Tryd.ntmps59
          go_wp2_with fail
          refine wp_onlyN (cn1 _ x0 x1 c0 c1 c2 c3 c4 c5 c6 c7 c8 x2 hF0 ?_)
          intro _ _ _ _ _ _ _ _ _ _ w5 K5
          have K05 := HK0.out.and K5
          have B5 := HB0.out.kept K5 (fun g h => h.elim)
          obtain ⟨⟨b10, _, _, _⟩, _⟩ := four B5.b1
          obtain ⟨_, b01⟩ := twoB B5.b0
          have S5 := HS.out.new K05
          have hb5 := S5.blk
          unfold stL at hb5
          obtain ⟨⟨_, _, _, _, _, _, s6, _, _⟩, _⟩ := nineAt hb5 S5.off
          have r1 := keepC K05 k1 (fun _ _ h => h)
          have r2 := keepC K05 (hrow _ _ q0).1 (fun _ _ h => h)
          have HMv : Hid _ := hMv
          have HS5 : Hid (StIn w5 F sb so T pre post s (.slice (some ⟨g, 0, none⟩) s.nodes.length cg) v7) := S5
          have HB5 : Hid (BxSt w w5 nm (some ⟨b, o, none⟩) ns.length c ek en et ez) := B5
          have HK05 : Hid (Kept (fun _ => False) w w5) := K05
          clear hF0 x0 x1 x2 c0 c1 c2 c3 c4 c5 c6 c7 c8 hMv S5 hb5 B5
          go_wp2_with fail
          refine wp_onlyN (cn4 (mv := m) (z8 := true) _ b10 b01 r1 s6 r2 hi him hn (fun V KV => HMv.out V (K05.and ((Kept.drew _ _).and KV))) ?_)
          intro _ _ _ _ _ _ _ _ _ _ _ _ _ _ _ _ _ _ _ _ mb w6 hmb hM6 K6
          clear b10 b01 r1 s6 r2
          have B6 := HB5.out.kept K6 (fun g h => h.elim)
          obtain ⟨⟨t0, t1, t2, t3⟩, _⟩ := four B6.b1
          have HK6 : Hid (Kept (fun _ => False) w5 w6) := K6
          have HM6 : Hid (w6.heap[mb]? = some (.cells #[.int .i64 m.event, .int .i64 m.kind, .int .i64 m.src, .int .i64 m.dst, .bool m.txt] 116 (0, 0))) := hM6
          clear B6 hM6 K6
          go_upto_region 7 with (first | go_quiet (fail) | fail)
          clear t0 t1 t2 t3
          have K7 : Kept (fun _ => False) w5 (w6.drewN nq) := HK6.out.and (Kept.drewN _ _ _)
          have hM7 : (w6.drewN nq).heap[mb]? = some (.cells #[.int .i64 m.event, .int .i64 m.kind, .int .i64 m.src, .int .i64 m.dst, .bool m.txt] 116 (0, 0)) := HM6.out
          generalize w6.drewN nq = w7 at *
          have S7 := HS5.out.new K7
          have B7 := HB5.out.kept K7 (fun g h => h.elim)
          obtain ⟨⟨t0, _, t2, t3⟩, _⟩ := four B7.b1
          obtain ⟨⟨_, _, _, m3, m4⟩, _⟩ := five hM7
          have hb7 := S7.blk
          unfold stL at hb7
          obtain ⟨⟨_, _, _, _, _, _, s6, _, _⟩, _⟩ := nineAt hb7 S7.off
          obtain ⟨g', cg', hv', _, _, hrow7⟩ := row_at S7.nodes (by omega)
          obtain ⟨rfl, rfl⟩ : g = g' ∧ cg = cg' := by simpa using hv'
          have n0 := hrow7 _ _ q0
          have n1 := hrow7 _ _ q1
          have n2 := hrow7 _ _ q2
          have hmg : mb ≠ g := by have := K05.size; omega
          have heg : w.heap.size + 1 ≠ g := by omega
          have HS7 : Hid (StIn w7 F sb so T pre post s (.slice (some ⟨g, 0, none⟩) s.nodes.length cg) v7) := S7
          have o7 : Hid (w7.ownsRow 0 54 3 (.slice (some ⟨g, 0, none⟩) s.nodes.length cg) s.nodes.length (nsF s.nodes)) := S7.nodes
          have HK7 : Hid (Kept (fun _ => False) w5 w7) := K7
          have oth : ∀ (V : World) (q k j : Nat) (u v : Value), q ≠ g → V.cell? ⟨q, k, none⟩ = some v → (V.setCell ⟨g, j, none⟩ u).cell? ⟨q, k, none⟩ = some v := fun V q k j u v hq hc => by
            rw [World.cell?_setCell_other _ _ _ _ (fun h => hq (by cases h; rfl))]
            exact hc
          have hap7 : v7.ownBlock ≠ some g := hap
          have hg7 : F g := hgF.1
          have HFr : Hid ((∀ g, F g → F g ∨ w.heap.size ≤ g) ∧ Kept F w w7) := ⟨fun _ h => .inl h, (K05.and K7).mono (fun _ h => h.elim)⟩
          clear hb7 S7 B7 hM7 K7 K05 K5 HK05 HK6 HM6 HS5 HB5 HB0 HK0 HS HN HM HMv hown hcap hgt hmb hFb k1 k2 HK7 hgF hap
          cases htx : m.txt with
          | true =>
            rw [htx] at m4
            by_cases hk3 : ek = 3
            · have e3 : (ek == 3) = true := by simp [hk3]
              have a1 := oth w7 mb 4 (i * 3) (.int .i64 m.dst) _ hmg m4
              have a2 := oth w7 (w.heap.size + 1) 0 (i * 3) (.int .i64 m.dst) _ heg t0
              have a3 := oth w7 (w.heap.size + 1) 2 (i * 3) (.int .i64 m.dst) _ heg t2
              have a4 := oth w7 (w.heap.size + 1) 3 (i * 3) (.int .i64 m.dst) _ heg t3
              have r1 := ownsRow_put o7.out (i * 3) (.int .i64 m.dst)
              obtain ⟨g1, cg1, hv1, _, _, hr1⟩ := row_at r1 (by omega)
              obtain ⟨rfl, rfl⟩ : g = g1 ∧ cg = cg1 := by simpa using hv1
              have z1 := hr1 (i * 3 + 1) _ (by rw [List.getElem?_set_ne (by omega)]; exact q1)
              have z2 := hr1 (i * 3 + 2) _ (by rw [List.getElem?_set_ne (by omega)]; exact q2)
              have a5 := oth (w7.setCell ⟨g, i * 3, none⟩ (.int .i64 m.dst)) (w.heap.size + 1) 0 (i * 3 + 2) (.string et) _ heg a2
              have a6 := oth (w7.setCell ⟨g, i * 3, none⟩ (.int .i64 m.dst)) (w.heap.size + 1) 3 (i * 3 + 2) (.string et) _ heg a4
              have r2 := ownsRow_put r1 (i * 3 + 2) (.string et)
              obtain ⟨g2, cg2, hv2, _, _, hr2⟩ := row_at r2 (by omega)
              obtain ⟨rfl, rfl⟩ : g = g2 ∧ cg = cg2 := by simpa using hv2
              have z3 := hr2 (i * 3 + 1) _ (by rw [List.getElem?_set_ne (by omega), List.getElem?_set_ne (by omega)]; exact q1)
              have r3 := ownsRow_put r2 (i * 3 + 1) (.int .i64 ez)
              have Kg := ((Kept.setCell (S := fun j => j = g) w7 ⟨g, i * 3, none⟩ (.int .i64 m.dst) rfl).and (Kept.setCell (S := fun j => j = g) _ ⟨g, i * 3 + 2, none⟩ (.string et) rfl)).and (Kept.setCell (S := fun j => j = g) _ ⟨g, i * 3 + 1, none⟩ (.int .i64 ez) rfl)
              have hlist := nl_tt him m ⟨ek, en, et, ez⟩ htx hk3
              have HRow := hid r3
              obtain ⟨n00, n01⟩ := n0
              obtain ⟨z10, z11⟩ := z1
              obtain ⟨z20, z21⟩ := z2
              obtain ⟨z30, z31⟩ := z3
              have HKg := hid Kg
              have HL := hid hlist
              clear hk3 r1 hr1 hv1 n1 n2 oth q0 q1 q2 hrow hrow7 hv' Kg hlist r2 hr2 hv2 r3
              go_wp2_with fail
              go_ret
              refine ⟨rfl, ⟨F, _, v7, HS7.out.setNodes HKg.out ?_ hap7, HFr.out.1⟩, HFr.out.2.trans HKg.out (fun j h => by subst h; exact HFr.out.1 _ hg7)⟩
              rw [setNode_len]
              have hrw := HRow.out
              rw [← HL.out] at hrw
              exact hrw
            · have e3 : (ek == 3) = false := by simp [hk3]
              have a1 := oth w7 mb 4 (i * 3) (.int .i64 m.dst) _ hmg m4
              have a2 := oth w7 (w.heap.size + 1) 0 (i * 3) (.int .i64 m.dst) _ heg t0
              have a3 := oth w7 (w.heap.size + 1) 2 (i * 3) (.int .i64 m.dst) _ heg t2
              have r1 := ownsRow_put o7.out (i * 3) (.int .i64 m.dst)
              obtain ⟨g1, cg1, hv1, _, _, hr1⟩ := row_at r1 (by omega)
              obtain ⟨rfl, rfl⟩ : g = g1 ∧ cg = cg1 := by simpa using hv1
              have z1 := hr1 (i * 3 + 1) _ (by rw [List.getElem?_set_ne (by omega)]; exact q1)
              have z2 := hr1 (i * 3 + 2) _ (by rw [List.getElem?_set_ne (by omega)]; exact q2)
              have a5 := oth (w7.setCell ⟨g, i * 3, none⟩ (.int .i64 m.dst)) (w.heap.size + 1) 0 (i * 3 + 2) (.string et) _ heg a2
              have r2 := ownsRow_put r1 (i * 3 + 2) (.string et)
              obtain ⟨g2, cg2, hv2, _, _, hr2⟩ := row_at r2 (by omega)
              obtain ⟨rfl, rfl⟩ : g = g2 ∧ cg = cg2 := by simpa using hv2
              have z3 := hr2 (i * 3 + 1) _ (by rw [List.getElem?_set_ne (by omega), List.getElem?_set_ne (by omega)]; exact q1)
              have Kg := (Kept.setCell (S := fun j => j = g) w7 ⟨g, i * 3, none⟩ (.int .i64 m.dst) rfl).and (Kept.setCell (S := fun j => j = g) _ ⟨g, i * 3 + 2, none⟩ (.string et) rfl)
              have hlist := nl_tf him m ⟨ek, en, et, ez⟩ htx hk3
              have HRow := hid r2
              obtain ⟨n00, n01⟩ := n0
              obtain ⟨z10, z11⟩ := z1
              obtain ⟨z20, z21⟩ := z2
              obtain ⟨z30, z31⟩ := z3
              have HKg := hid Kg
              have HL := hid hlist
              clear hk3 r1 hr1 hv1 n1 n2 oth q0 q1 q2 hrow hrow7 hv' Kg hlist r2 hr2 hv2
              go_wp2_with fail
              go_ret
              refine ⟨rfl, ⟨F, _, v7, HS7.out.setNodes HKg.out ?_ hap7, HFr.out.1⟩, HFr.out.2.trans HKg.out (fun j h => by subst h; exact HFr.out.1 _ hg7)⟩
              rw [setNode_len]
              have hrw := HRow.out
              rw [← HL.out] at hrw
              exact hrw
          | false =>
            rw [htx] at m4
            by_cases hk3 : ek = 3
            · have e3 : (ek == 3) = true := by simp [hk3]
              have a1 := oth w7 mb 4 (i * 3) (.int .i64 m.dst) _ hmg m4
              have a2 := oth w7 (w.heap.size + 1) 0 (i * 3) (.int .i64 m.dst) _ heg t0
              have a4 := oth w7 (w.heap.size + 1) 3 (i * 3) (.int .i64 m.dst) _ heg t3
              have r1 := ownsRow_put o7.out (i * 3) (.int .i64 m.dst)
              obtain ⟨g1, cg1, hv1, _, _, hr1⟩ := row_at r1 (by omega)
              obtain ⟨rfl, rfl⟩ : g = g1 ∧ cg = cg1 := by simpa using hv1
              have z1 := hr1 (i * 3 + 1) _ (by rw [List.getElem?_set_ne (by omega)]; exact q1)
              have z2 := hr1 (i * 3 + 2) _ (by rw [List.getElem?_set_ne (by omega)]; exact q2)
              have r3 := ownsRow_put r1 (i * 3 + 1) (.int .i64 ez)
              have Kg := (Kept.setCell (S := fun j => j = g) w7 ⟨g, i * 3, none⟩ (.int .i64 m.dst) rfl).and (Kept.setCell (S := fun j => j = g) _ ⟨g, i * 3 + 1, none⟩ (.int .i64 ez) rfl)
              have hlist := nl_ft him m ⟨ek, en, et, ez⟩ htx hk3
              have HRow := hid r3
              obtain ⟨n00, n01⟩ := n0
              obtain ⟨z10, z11⟩ := z1
              obtain ⟨z20, z21⟩ := z2
              have HKg := hid Kg
              have HL := hid hlist
              clear hk3 r1 hr1 hv1 n1 n2 oth q0 q1 q2 hrow hrow7 hv' Kg hlist r3
              go_wp2_with fail
              go_ret
              refine ⟨rfl, ⟨F, _, v7, HS7.out.setNodes HKg.out ?_ hap7, HFr.out.1⟩, HFr.out.2.trans HKg.out (fun j h => by subst h; exact HFr.out.1 _ hg7)⟩
              rw [setNode_len]
              have hrw := HRow.out
              rw [← HL.out] at hrw
              exact hrw
            · have e3 : (ek == 3) = false := by simp [hk3]
              have a1 := oth w7 mb 4 (i * 3) (.int .i64 m.dst) _ hmg m4
              have a2 := oth w7 (w.heap.size + 1) 0 (i * 3) (.int .i64 m.dst) _ heg t0
              have r1 := ownsRow_put o7.out (i * 3) (.int .i64 m.dst)
              obtain ⟨g1, cg1, hv1, _, _, hr1⟩ := row_at r1 (by omega)
              obtain ⟨rfl, rfl⟩ : g = g1 ∧ cg = cg1 := by simpa using hv1
              have z1 := hr1 (i * 3 + 1) _ (by rw [List.getElem?_set_ne (by omega)]; exact q1)
              have z2 := hr1 (i * 3 + 2) _ (by rw [List.getElem?_set_ne (by omega)]; exact q2)
              have Kg := Kept.setCell (S := fun j => j = g) w7 ⟨g, i * 3, none⟩ (.int .i64 m.dst) rfl
              have hlist := nl_ff him m ⟨ek, en, et, ez⟩ htx hk3
              have HRow := hid r1
              obtain ⟨n00, n01⟩ := n0
              obtain ⟨z10, z11⟩ := z1
              obtain ⟨z20, z21⟩ := z2
              have HKg := hid Kg
              have HL := hid hlist
              clear hk3 r1 hr1 hv1 n1 n2 oth q0 q1 q2 hrow hrow7 hv' Kg hlist
              go_wp2_with fail
              go_ret
              refine ⟨rfl, ⟨F, _, v7, HS7.out.setNodes HKg.out ?_ hap7, HFr.out.1⟩, HFr.out.2.trans HKg.out (fun j h => by subst h; exact HFr.out.1 _ hg7)⟩
              rw [setNode_len]
              have hrw := HRow.out
              rw [← HL.out] at hrw
              exact hrw
    · have hq : findS ns s.nodes.length en = false := by unfold findS; rw [hf]; exact decide_eq_false him
      have hm : nodeMove ns s ⟨ek, en, et, ez⟩ i = none := by unfold nodeMove; rw [List.getElem?_eq_none (l := s.nodes) (by omega)]; cases ns[i]? <;> rfl
      rw [hf, hq] at hF0
      simp only [Option.getD_some, hm] at hF0 ⊢
      clear hf hq hm
      go_enter Tryd.func59, Tryd.ntmps59
      go_wp2_with fail
      refine wp_onlyN (cn1 _ x0 x1 c0 c1 c2 c3 c4 c5 c6 c7 c8 x2 hF0 ?_)
      intro _ _ _ _ _ _ _ _ _ _ w5 K5
      clear hF0 x0 x1 x2 c0 c1 c2 c3 c4 c5 c6 c7 c8
      go_wp2_with fail
      go_ret
      exact ⟨rfl, HK0.out.and K5⟩

end Go.Proofs.YtdecceekodpjiaaDoor
