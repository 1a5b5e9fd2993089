/-
  change: an event of a workflow.
-/
import Derived.Test.YtfjekjbkifmpfaaDoorG06
import Derived.Test.YtfjekjbkifmpfaaDoorG08
namespace Go.Proofs.YtfjekjbkifmpfaaDoor
open Go.RowKit

/-- The memory at change's begin. -/
abbrev Bx2 (w : World) (nm : ByteArray) (a : Option Addr) (n c : Nat) (ek : Int) (en et : ByteArray) (ez : Int) : World := (w.alloc (.cells #[.string nm, .slice a n c] 24)).alloc (.cells #[.int .i64 ek, .string en, .string et, .int .i64 ez] 51)

theorem Bx2.kept (w : World) (nm : ByteArray) (a : Option Addr) (n c : Nat) (ek : Int) (en et : ByteArray) (ez : Int) : Kept (fun _ => False) w (Bx2 w nm a n c ek en et ez) := (Kept.alloc _ _ _).and (Kept.alloc _ _ _)

set_option maxRecDepth 100000 in
set_option maxHeartbeats 8000000 in
theorem chg_no (w : World) (F : Nat → Prop) (sb so : Nat) (T : TypeId) (pre post : List Value) (s : St) (v6 v7 : Value) (S : StIn w F sb so T pre post s v6 v7)
    (nm : ByteArray) (a : Option Addr) (n c : Nat) (ek : Int) (en et : ByteArray) (ez : Int) (hst : s.status ≠ if ek = 1 then 0 else 1) :
    Calls Tryd.prog 36 #[.agg #[.string nm, .slice a n c], .pointer (some ⟨sb, so, none⟩), .agg #[.int .i64 ek, .string en, .string et, .int .i64 ez]] w (ChgPost w F sb so T pre post none) := by
  have K0 := Bx2.kept w nm a n c ek en et ez
  have S0 := S.new K0
  have hb := S0.blk
  unfold stL at hb
  obtain ⟨⟨_, _, _, _, c4, _, _, _, _⟩, _⟩ := nineAt hb S0.off
  have B0 := BxSt.begun w nm a n c ek en et ez
  obtain ⟨⟨x0, _, _, _⟩, _⟩ := four B0.b1
  have HK0 := hid K0
  clear S S0 hb B0 K0
  by_cases h1 : ek = 1
  · subst h1
    have e2 : (s.status != 0) = true := by simpa using hst
    clear hst
    go_enter Tryd.func36, Tryd.ntmps36
    go_wp2_with fail
    go_ret
    exact ⟨rfl, HK0.out⟩
  · have e1 : (ek == 1) = false := by simp [h1]
    have e2 : (s.status != 1) = true := by simpa [h1] using hst
    clear hst h1
    go_enter Tryd.func36, Tryd.ntmps36
    go_wp2_with fail
    go_ret
    exact ⟨rfl, HK0.out⟩

theorem StIn.re {w w' : World} {F : Nat → Prop} {sb so : Nat} {T : TypeId} {pre post : List Value} {s s' : St} {v6 v7 : Value} (S : StIn w F sb so T pre post s v6 v7) (K : Kept (fun j => j = sb) w w')
    (hb : w'.heap[sb]? = some (.cells (pre ++ stL s' v6 v7 ++ post).toArray T (0, 0))) (h6 : s'.nodes = s.nodes) (h7 : s'.sigs = s.sigs) : StIn w' F sb so T pre post s' v6 v7 :=
  ⟨hb, S.off, by rw [h6]; exact ownsRow_keep S.nodes (fun g hg => K.block g (ownsRow_blk S.nodes hg) (S.in6 g hg).2), by rw [h7]; exact ownsRow_keep S.sigs (fun g hg => K.block g (ownsRow_blk S.sigs hg) (S.in7 g hg).2), S.inS, S.in6, S.in7, fun g h => Nat.lt_of_lt_of_le (S.top g h) K.size⟩

theorem StIn.count {w : World} {F : Nat → Prop} {sb so : Nat} {T : TypeId} {pre post : List Value} {s : St} {v6 v7 : Value} (S : StIn w F sb so T pre post s v6 v7) : StIn (w.setCell ⟨sb, so + 8, none⟩ (.int .i64 (s.events + 1))) F sb so T pre post { s with events := s.events + 1 } v6 v7 :=
  S.re (Kept.setCell _ _ _ rfl) (blk_set S.blk S.off (j := 8) (by simp [stL]) _) rfl rfl

theorem Goes.count {w V : World} {F : Nat → Prop} {sb so : Nat} {T : TypeId} {pre post : List Value} {s : St} (hF : F sb) (G : Goes w F sb so T pre post s V) : Goes w F sb so T pre post { s with events := s.events + 1 } (V.setCell ⟨sb, so + 8, none⟩ (.int .i64 (s.events + 1))) := by
  obtain ⟨⟨F', v6, v7, S, hF'⟩, K⟩ := G
  exact ⟨⟨F', v6, v7, S.count, hF'⟩, K.and ((Kept.setCell (S := fun j => j = sb) _ _ _ rfl).mono (fun j h => h ▸ hF))⟩

theorem made_nodes (n : Nat) : (madeCells (Value.agg #[.int .i64 0, .int .i64 0, .string ⟨#[]⟩]).cells (n * 3)).toList = nsF (List.replicate n ⟨0, 0, ⟨#[]⟩⟩) := by
  have hc : (Value.agg #[.int .i64 0, .int .i64 0, .string ⟨#[]⟩]).cells = #[.int .i64 0, .int .i64 0, .string ⟨#[]⟩] := by kernel_rfl
  rw [hc]
  unfold madeCells
  rw [Array.toList_map, Array.toList_range]
  induction n with
  | zero => rfl
  | succ n ih =>
    rw [List.replicate_succ', show (n + 1) * 3 = n * 3 + 1 + 1 + 1 by omega, List.range_succ, List.range_succ, List.range_succ]
    unfold nsF at ih ⊢
    rw [List.flatMap_append, ← ih]
    simp only [List.map_append, List.append_assoc]
    congr 1
    have m0 : n * 3 % 3 = 0 := by omega
    have m1 : (n * 3 + 1) % 3 = 1 := by omega
    have m2 : (n * 3 + 1 + 1) % 3 = 2 := by omega
    simp [m0, m1, m2, nsC]

theorem make_nodes (w : World) (n : Nat) (hn : n ≤ 1000000) : ∃ w', (Instr.makeSlice 30 (.int .i64 (n : Int)) (.int .i64 (n : Int))).run Tryd.prog w = .ok (.slice (some ⟨w.heap.size, 0, none⟩) n n) w' ∧
    w'.ownsRow w.heap.size 61 3 (.slice (some ⟨w.heap.size, 0, none⟩) n n) n (nsF (List.replicate n ⟨0, 0, ⟨#[]⟩⟩)) ∧ Kept (fun _ => False) w w' := by
  obtain ⟨i, hi, hz, h3, h32⟩ := info_parts Tryd.info61
  obtain ⟨w', h1, h2, h4⟩ := run_makeSlice_full (P := Tryd.prog) w w.heap.size 30 61 i _ 3 (by kernel_rfl) hi hz h3 .i64 .i64 n (by omega) (by rw [h32]; omega) (by simp [maxLen]; omega) (Nat.le_refl _)
  rw [made_nodes] at h2
  exact ⟨w', h1, h2, Kept.grown h4 (fun _ h => nomatch h)⟩

set_option maxRecDepth 100000 in
set_option maxHeartbeats 8000000 in
theorem chg_start (w : World) (F : Nat → Prop) (sb so : Nat) (T : TypeId) (pre post : List Value) (s : St) (v6 v7 : Value) (S : StIn w F sb so T pre post s v6 v7) (hs : s.status = 0)
    (nm : ByteArray) (a : Option Addr) (n c : Nat) (hn : n ≤ 1000000) (en et : ByteArray) (ez : Int) (he0 : 0 ≤ s.events) (he1 : s.events ≤ 1000000000000) :
    Calls Tryd.prog 36 #[.agg #[.string nm, .slice a n c], .pointer (some ⟨sb, so, none⟩), .agg #[.int .i64 1, .string en, .string et, .int .i64 ez]] w (ChgPost w F sb so T pre post (some { s with status := 1, dfn := nm, par := et, pnode := en, nodes := List.replicate n ⟨0, 0, ⟨#[]⟩⟩, events := s.events + 1 })) := by
  have K0 := Bx2.kept w nm a n c 1 en et ez
  have S0 := S.new K0
  have hb := S0.blk
  unfold stL at hb
  obtain ⟨⟨_, _, _, _, c4, _, _, _, _⟩, _⟩ := nineAt hb S0.off
  rw [hs] at c4
  have B0 := BxSt.begun w nm a n c 1 en et ez
  obtain ⟨⟨x0, x1, x2, _⟩, _⟩ := four B0.b1
  obtain ⟨y0, y1⟩ := twoB B0.b0
  have HK0 := hid K0
  have HS0 := hid S0
  have HB0 := hid B0
  have hlt := S.lt
  have hb' := hid hb
  have hof := S.off
  clear S S0 hb B0 K0
  go_enter Tryd.func36, Tryd.ntmps36
  go_upto_region 10 with fail
  refine wp_onlyN (ch10 _ hb'.out hof y0 x2 x1 (by omega) (by omega) ?_)
  intro _ _ _ _ _ _ _ _ _ _ _ _ _ _ _ _ _ _ w1 hb1 K1
  have B1 := HB0.out.kept K1 (fun g h => by omega)
  obtain ⟨_, z1⟩ := twoB B1.b0
  obtain ⟨⟨_, _, _, _, _, _, d6, _, _⟩, _, _, _, _, _, _, f6, _, _⟩ := nineAt hb1 hof
  clear c4 x0 x1 x2 y0 y1
  obtain ⟨w2, hmk, o2, K2⟩ := make_nodes w1 n hn
  obtain ⟨⟨_, _, _, _, _, _, e6, _, e8⟩, _, _, _, _, _, _, g6, _, g8⟩ := nineAt ((K2.block _ (Array.getElem?_eq_some_iff.1 hb1).1 (fun h => h)).trans hb1) hof
  have hw8 : IntKind.i64.wrap (s.events + 1) = s.events + 1 := by rw [IntKind.wrap_i64]; omega
  have HO2 := hid o2
  have HK2 := hid K2
  have HK1 := hid K1
  have HB1 := hid hb1
  clear o2 K2 K1 B1
  go_wp2_with fail
  go_ret
  have hs0 := HS0.out
  have hz0 := HK0.out.size
  have hz1 : w.heap.size ≤ w1.heap.size := Nat.le_trans HK0.out.size HK1.out.size
  have hz2 := HK2.out.size
  have o2 := HO2.out
  have KS : Kept (fun j => j = sb) w2 (w2.setCell ⟨sb, so + 6, none⟩ (.slice (some ⟨w1.heap.size, 0, none⟩) n n)) := Kept.setCell _ _ _ rfl
  have hz3 := KS.size
  have hb2 := (HK2.out.block _ (Array.getElem?_eq_some_iff.1 HB1.out).1 (fun h => h)).trans HB1.out
  have KA : Kept (fun j => j = sb) (Bx2 w nm a n c 1 en et ez) (w2.setCell ⟨sb, so + 6, none⟩ (.slice (some ⟨w1.heap.size, 0, none⟩) n n)) := (HK1.out.and (HK2.out.mono (fun _ h => h.elim))).and KS
  refine ⟨rfl, Goes.count (s := { s with status := 1, dfn := nm, par := et, pnode := en, nodes := List.replicate n ⟨0, 0, ⟨#[]⟩⟩ }) hs0.inS ⟨⟨fun g => F g ∨ (w.heap.size ≤ g ∧ g < (w2.setCell ⟨sb, so + 6, none⟩ (.slice (some ⟨w1.heap.size, 0, none⟩) n n)).heap.size), .slice (some ⟨w1.heap.size, 0, none⟩) n n, v7, ⟨blk_set hb2 hof (j := 6) (by simp) _, hof, ?_, ?_, .inl hs0.inS, fun g hg => ?_, fun g hg => ⟨.inl (hs0.in7 g hg).1, (hs0.in7 g hg).2⟩, fun g h => ?_⟩, fun g h => h.imp id And.left⟩, ?_⟩⟩
  · show World.ownsRow _ _ _ _ _ (List.replicate n _).length _
    rw [List.length_replicate]
    exact ownsRow_low (ownsRow_keep o2 (fun g hg => KS.block g (ownsRow_blk o2 hg) (by have := (o2.lt g hg).1; omega))) (Nat.zero_le _)
  · exact ownsRow_keep hs0.sigs (fun g hg => KA.block g (ownsRow_blk hs0.sigs hg) (hs0.in7 g hg).2)
  · have hl := o2.lt g hg
    exact ⟨.inr ⟨by omega, by omega⟩, by omega⟩
  · rcases h with h | h
    · have := hs0.top g h
      have := KA.size
      omega
    · exact h.2
  · exact (HK0.out.mono (fun _ h => h.elim)).and (KA.mono (fun j h => h ▸ hs0.inS))

theorem sgF_add (l : List Sg) (en et : ByteArray) : sgF (l ++ [⟨en, et⟩]) = sgF l ++ [.string en, .string et] := by
  unfold sgF
  rw [List.flatMap_append]
  rfl

set_option maxRecDepth 100000 in
set_option maxHeartbeats 8000000 in
theorem chg_kept (w : World) (F : Nat → Prop) (sb so : Nat) (T : TypeId) (pre post : List Value) (s : St) (v6 v7 : Value) (S : StIn w F sb so T pre post s v6 v7) (hs : s.status = 1) (h7 : s.sigs.length ≤ 1000000)
    (nm : ByteArray) (a : Option Addr) (n c : Nat) (en et : ByteArray) (ez : Int) (he0 : 0 ≤ s.events) (he1 : s.events ≤ 1000000000000) :
    Calls Tryd.prog 36 #[.agg #[.string nm, .slice a n c], .pointer (some ⟨sb, so, none⟩), .agg #[.int .i64 13, .string en, .string et, .int .i64 ez]] w (ChgPost w F sb so T pre post (some { s with sigs := s.sigs ++ [⟨en, et⟩], events := s.events + 1 })) := by
  have K0 := Bx2.kept w nm a n c 13 en et ez
  have S0 := S.new K0
  obtain ⟨a7, c7, rfl⟩ : ∃ a7 c7, v7 = .slice a7 s.sigs.length c7 := by
    rcases S.sigs.2 with ⟨h0, h1⟩ | ⟨g, cap, cur, hv, _⟩
    · exact ⟨none, 0, by rw [h0, h1]⟩
    · exact ⟨_, cap, hv⟩
  have hb := S0.blk
  unfold stL at hb
  obtain ⟨⟨_, _, _, _, c4, _, _, _, _⟩, _⟩ := nineAt hb S0.off
  rw [hs] at c4
  have B0 := BxSt.begun w nm a n c 13 en et ez
  obtain ⟨⟨x0, _, _, _⟩, _⟩ := four B0.b1
  have HK0 := hid K0
  have HS0 := hid S0
  have HB0 := hid B0
  have hof := S.off
  have hw8 : IntKind.i64.wrap (s.events + 1) = s.events + 1 := by rw [IntKind.wrap_i64]; omega
  clear S S0 hb B0 K0
  go_enter Tryd.func36, Tryd.ntmps36
  go_upto_region 13 with (first | go_quiet (fail) | fail)
  obtain ⟨⟨_, t1, t2, _⟩, _⟩ := four HB0.out.b1
  have hb1 := HS0.out.blk
  unfold stL at hb1
  obtain ⟨⟨_, _, _, _, _, _, _, d7, _⟩, _, _, _, _, _, _, _, f7, _⟩ := nineAt hb1 hof
  refine wp_onlyN (ch13 _ d7 f7 t1 t2 (fun g hg => (HS0.out.in7 g hg).2) h7 HS0.out.sigs ?_)
  intro _ _ _ _ _ _ _ _ _ _ _ _ _ _ a4 c4' w4 o4 hw4 K4
  have hlt : sb < (Bx2 w nm a n c 13 en et ez).heap.size := HS0.out.lt
  have hb4 : w4.heap[sb]? = _ := (K4.block sb hlt (fun h => (HS0.out.in7 sb h).2 rfl)).trans hb1
  have hb5 := blk_set hb4 hof (j := 7) (by simp) (.slice a4 (s.sigs.length + 1) c4')
  simp only [List.set_cons_succ, List.set_cons_zero] at hb5
  have KS : Kept (fun j => j = sb) w4 (w4.setCell ⟨sb, so + 7, none⟩ (.slice a4 (s.sigs.length + 1) c4')) := Kept.setCell _ _ _ rfl
  have hne4 : ∀ g, (Value.slice a4 (s.sigs.length + 1) c4').ownBlock = some g → g ≠ sb := fun g hg => by
    rcases hw4 with h | ⟨g', h, hg'⟩
    · exact (HS0.out.in7 g (h ▸ hg)).2
    · obtain rfl : g' = g := by rw [h] at hg; simpa using hg
      exact fun h => absurd (h ▸ hlt) (Nat.not_lt.2 hg')
  have o5 : (w4.setCell ⟨sb, so + 7, none⟩ (.slice a4 (s.sigs.length + 1) c4')).ownsRow 0 88 2 (.slice a4 (s.sigs.length + 1) c4') (s.sigs.length + 1) (sgF (s.sigs ++ [⟨en, et⟩])) := by
    rw [sgF_add]
    exact ownsRow_keep o4 (fun g hg => KS.block g (ownsRow_blk o4 hg) (hne4 g hg))
  have n5 := ownsRow_keep (ownsRow_keep HS0.out.nodes (fun g hg => K4.block g (ownsRow_blk HS0.out.nodes hg) (rows_apart HS0.out hg))) (fun g hg => KS.block g (Nat.lt_of_lt_of_le (ownsRow_blk HS0.out.nodes hg) K4.size) (HS0.out.in6 g hg).2)
  have KF : Kept F w (w4.setCell ⟨sb, so + 7, none⟩ (.slice a4 (s.sigs.length + 1) c4')) := ((HK0.out.mono (fun _ h => h.elim)).and (K4.mono (fun j h => (HS0.out.in7 j h).1))).and (KS.mono (fun j h => h ▸ HS0.out.inS))
  have hl5 : ∀ g, (Value.slice a4 (s.sigs.length + 1) c4').ownBlock = some g → F g ∨ (w.heap.size ≤ g ∧ g < (w4.setCell ⟨sb, so + 7, none⟩ (.slice a4 (s.sigs.length + 1) c4')).heap.size) := fun g hg => by
    rcases hw4 with h | ⟨g', h, hg'⟩
    · exact .inl (HS0.out.in7 g (h ▸ hg)).1
    · obtain rfl : g' = g := by rw [h] at hg; simpa using hg
      exact .inr ⟨Nat.le_trans HK0.out.size hg', Nat.lt_of_lt_of_le (ownsRow_blk o4 hg) KS.size⟩
  have htop : ∀ g, F g → g < (w4.setCell ⟨sb, so + 7, none⟩ (.slice a4 (s.sigs.length + 1) c4')).heap.size := fun g h => Nat.lt_of_lt_of_le (HS0.out.top g h) (Nat.le_trans K4.size KS.size)
  generalize w4.setCell ⟨sb, so + 7, none⟩ (.slice a4 (s.sigs.length + 1) c4') = w5 at *
  obtain ⟨⟨_, _, _, _, _, _, _, _, e8⟩, _, _, _, _, _, _, _, _, g8⟩ := nineAt hb5 hof
  have HG : Hid (Goes w F sb so T pre post { s with sigs := s.sigs ++ [⟨en, et⟩] } w5) := ⟨⟨fun g => F g ∨ (w.heap.size ≤ g ∧ g < w5.heap.size), v6, .slice a4 (s.sigs.length + 1) c4', ⟨hb5, hof, n5, by rw [List.length_append]; exact o5, .inl HS0.out.inS, fun g hg => ⟨.inl (HS0.out.in6 g hg).1, (HS0.out.in6 g hg).2⟩, fun g hg => ⟨hl5 g hg, hne4 g hg⟩, fun g h => h.elim (htop g) And.right⟩, fun g h => h.imp id And.left⟩, KF⟩
  have hin := HS0.out.inS
  clear hb1 d7 f7 t1 t2 o4 hw4 K4 hb4 hb5 KS hne4 o5 n5 KF hl5 htop HS0 HB0 HK0 c4 x0 hlt
  go_wp2_with fail
  go_ret
  exact ⟨rfl, Goes.count (s := { s with sigs := s.sigs ++ [⟨en, et⟩] }) hin HG.out⟩

end Go.Proofs.YtfjekjbkifmpfaaDoor
