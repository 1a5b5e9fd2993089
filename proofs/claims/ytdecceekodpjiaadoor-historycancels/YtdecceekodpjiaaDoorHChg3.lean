/-
  change: an event of a node; all events.
-/
import Derived.Test.YtdecceekodpjiaaDoorHChg2
namespace Go.Proofs.YtdecceekodpjiaaDoor
open Go.RowKit

set_option maxRecDepth 100000 in
set_option maxHeartbeats 8000000 in
theorem chg_node (w : World) (F : Nat → Prop) (sb so : Nat) (T : TypeId) (pre post : List Value) (s : St) (v6 v7 : Value) (S : StIn w F sb so T pre post s v6 v7) (hs : s.status = 1) (h6 : s.nodes.length ≤ 1000000) (h7 : s.sigs.length ≤ 1000000)
    (nm : ByteArray) (a : Option Addr) (c : Nat) (ns : List Nd) (hN : NodesAt w a ns) (hn : ns.length ≤ 1000000) (hNF : ∀ b o, a = some ⟨b, o, none⟩ → ¬ F b) (M : MovesAt w) (ek : Int) (en et : ByteArray) (ez : Int) (he0 : 0 ≤ s.events) (he1 : s.events ≤ 1000000000000)
    (h1 : ek ≠ 1) (h13 : ek ≠ 13) (h15 : ek ≠ 15) :
    Calls Tryd.prog 46 #[.agg #[.string nm, .slice a ns.length c], .pointer (some ⟨sb, so, none⟩), .agg #[.int .i64 ek, .string en, .string et, .int .i64 ez]] w (ChgPost w F sb so T pre post ((changeNodeP ns s ⟨ek, en, et, ez⟩).map (fun s' => { s' with events := s'.events + 1 }))) := by
  have K0 := Bx2.kept w nm a ns.length c ek en et ez
  have S0 := S.new K0
  have hb := S0.blk
  unfold stL at hb
  obtain ⟨⟨_, _, _, _, c4, _, _, _, _⟩, _⟩ := nineAt hb S0.off
  rw [hs] at c4
  have B0 := BxSt.begun w nm a ns.length c ek en et ez
  obtain ⟨⟨x0, x1, x2, x3⟩, _⟩ := four B0.b1
  obtain ⟨y0, y1⟩ := twoB B0.b0
  have hC := fun V (KV : Kept (fun _ => False) w V) => changeNode_any V F sb so T pre post s v6 v7 (S.new KV) h6 h7 nm a c ns (keptNew KV hN) hn hNF (M.kept KV (fun h => h)) ⟨ek, en, et, ez⟩
  have hev : ∀ s', changeNodeP ns s ⟨ek, en, et, ez⟩ = some s' → s'.events = s.events := fun s' h => by
    unfold changeNodeP at h
    split at h
    · cases h
    · split at h
      · cases h
      · split at h
        · cases h
        · cases h
          rfl
  have HK0 := hid K0
  have HS0 := hid S0
  have HB0 := hid B0
  have hof := S.off
  have hw8 : IntKind.i64.wrap (s.events + 1) = s.events + 1 := by rw [IntKind.wrap_i64]; omega
  have e1 : (ek == 1) = false := by simp [h1]
  have e13 : (ek == 13) = false := by simp [h13]
  have e15 : (ek == 15) = false := by simp [h15]
  clear S S0 hb B0 K0 h1 h13 h15
  have hC0 := hC _ HK0.out
  clear hC
  have hin := HS0.out.inS
  cases hp : changeNodeP ns s ⟨ek, en, et, ez⟩ with
  | none =>
    rw [hp] at hC0
    clear hp hev
    go_enter Tryd.func46, Tryd.ntmps46
    go_wp2_with (first
      | (go_at_call 59; refine hC0.mono ?_; rintro e w1 ⟨rfl, K1⟩; clear hC0 x0 x1 x2 x3 y0 y1 c4)
      | go_quiet (fail) | fail)
    go_ret
    exact ⟨rfl, HK0.out.and K1⟩
  | some s' =>
    have hes := hev s' hp
    rw [hp] at hC0
    clear hp hev
    go_enter Tryd.func46, Tryd.ntmps46
    go_wp2_with (first
      | (go_at_call 59; refine hC0.mono ?_; rintro e w1 ⟨rfl, G1⟩; clear hC0 x0 x1 x2 x3 y0 y1 c4; obtain ⟨⟨F1, u6, u7, S1, hF1⟩, K1⟩ := G1; have hb1 := S1.blk; unfold stL at hb1; obtain ⟨⟨_, _, _, _, _, _, _, _, e8⟩, _, _, _, _, _, _, _, _, g8⟩ := nineAt hb1 hof; rw [hes] at e8; have HG : Hid (Goes w F sb so T pre post s' w1) := ⟨⟨F1, u6, u7, S1, fun g h => (hF1 g h).imp id (Nat.le_trans HK0.out.size)⟩, (HK0.out.mono (fun _ h => h.elim)).and K1⟩; clear S1 hF1 K1 hb1)
      | go_quiet (fail) | fail)
    go_ret
    have hg := Goes.count hin HG.out
    refine ⟨rfl, ?_⟩
    show Goes w F sb so T pre post { s' with events := s'.events + 1 } _
    rw [hes] at hg ⊢
    exact hg

theorem change_any (w : World) (F : Nat → Prop) (sb so : Nat) (T : TypeId) (pre post : List Value) (s : St) (v6 v7 : Value) (S : StIn w F sb so T pre post s v6 v7) (h6 : s.nodes.length ≤ 1000000) (h7 : s.sigs.length ≤ 1000000) (he0 : 0 ≤ s.events) (he1 : s.events ≤ 1000000000000)
    (nm : ByteArray) (a : Option Addr) (c : Nat) (ns : List Nd) (hN : NodesAt w a ns) (hn : ns.length ≤ 1000000) (hNF : ∀ b o, a = some ⟨b, o, none⟩ → ¬ F b) (M : MovesAt w) (ev : Ev) :
    Calls Tryd.prog 46 #[.agg #[.string nm, .slice a ns.length c], .pointer (some ⟨sb, so, none⟩), .agg #[.int .i64 ev.kind, .string ev.node, .string ev.text, .int .i64 ev.num]] w (ChgPost w F sb so T pre post (changeP nm ns s ev)) := by
  obtain ⟨ek, en, et, ez⟩ := ev
  unfold changeP
  simp only []
  by_cases hst : s.status ≠ if ek = 1 then 0 else 1
  · rw [if_pos hst]
    exact chg_no w F sb so T pre post s v6 v7 S nm a ns.length c ek en et ez hst
  · rw [if_neg hst]
    replace hst := Classical.not_not.1 hst
    by_cases h1 : ek = 1
    · subst h1
      rw [if_pos rfl]
      exact chg_start w F sb so T pre post s v6 v7 S (by simpa using hst) nm a ns.length c hn en et ez he0 he1
    · rw [if_neg h1] at hst ⊢
      by_cases h13 : ek = 13
      · subst h13
        rw [if_pos rfl]
        exact chg_kept w F sb so T pre post s v6 v7 S hst h7 nm a ns.length c en et ez he0 he1
      · rw [if_neg h13]
        by_cases h15 : ek = 15
        · subst h15
          rw [if_pos rfl]
          exact chg_closed w F sb so T pre post s v6 v7 S hst nm a ns.length c en et ez he0 he1
        · rw [if_neg h15]
          exact chg_node w F sb so T pre post s v6 v7 S hst h6 h7 nm a c ns hN hn hNF M ek en et ez he0 he1 h1 h13 h15

end Go.Proofs.YtdecceekodpjiaaDoor
