/-
  A state in memory, within a block; receive.
-/
import Derived.Test.YtdecceekodpjiaaDoorHRcv
namespace Go.Proofs.YtdecceekodpjiaaDoor
open Go.RowKit

/-- A state that lies in block sb from cell so on (pre ahead of it, post behind it); F has its blocks. -/
structure StIn (w : World) (F : Nat → Prop) (sb so : Nat) (T : TypeId) (pre post : List Value) (s : St) (v6 v7 : Value) : Prop where
  blk : w.heap[sb]? = some (.cells (pre ++ stL s v6 v7 ++ post).toArray T (0, 0))
  off : pre.length = so
  nodes : w.ownsRow 0 54 3 v6 s.nodes.length (nsF s.nodes)
  sigs : w.ownsRow 0 78 2 v7 s.sigs.length (sgF s.sigs)
  inS : F sb
  in6 : ∀ g, v6.ownBlock = some g → F g ∧ g ≠ sb
  in7 : ∀ g, v7.ownBlock = some g → F g ∧ g ≠ sb
  top : ∀ g, F g → g < w.heap.size

theorem StIn.new {w w' : World} {F : Nat → Prop} {sb so : Nat} {T : TypeId} {pre post : List Value} {s : St} {v6 v7 : Value} (S : StIn w F sb so T pre post s v6 v7) (K : Kept (fun _ => False) w w') : StIn w' F sb so T pre post s v6 v7 :=
  ⟨(K.block _ (Array.getElem?_eq_some_iff.1 S.blk).1 (fun h => h)).trans S.blk, S.off, ownsRow_keep S.nodes (fun g hg => K.block g (ownsRow_blk S.nodes hg) (fun h => h)), ownsRow_keep S.sigs (fun g hg => K.block g (ownsRow_blk S.sigs hg) (fun h => h)), S.inS, S.in6, S.in7, fun g h => Nat.lt_of_lt_of_le (S.top g h) K.size⟩

theorem StIn.rd {w : World} {F : Nat → Prop} {sb so : Nat} {T : TypeId} {pre post : List Value} {s : St} {v6 v7 : Value} (S : StIn w F sb so T pre post s v6 v7) (h6 : s.nodes.length ≤ 1000000) (h7 : s.sigs.length ≤ 1000000) : StRd w s v6 v7 := ⟨flat_of_owns S.nodes, flat_of_owns S.sigs, h6, h7⟩

theorem StIn.lt {w : World} {F : Nat → Prop} {sb so : Nat} {T : TypeId} {pre post : List Value} {s : St} {v6 v7 : Value} (S : StIn w F sb so T pre post s v6 v7) : sb < w.heap.size := (Array.getElem?_eq_some_iff.1 S.blk).1

/-- What a call leaves of a state that it may change: the state, and all else. -/
def Goes (w : World) (F : Nat → Prop) (sb so : Nat) (T : TypeId) (pre post : List Value) (s : St) (w' : World) : Prop :=
  (∃ F' v6 v7, StIn w' F' sb so T pre post s v6 v7 ∧ ∀ g, F' g → F g ∨ w.heap.size ≤ g) ∧ Kept F w w'

def RcvPost (w : World) (F : Nat → Prop) (sb so : Nat) (T : TypeId) (pre post : List Value) (s : St) (r : Option (List Sg)) (e : Ending) (w' : World) : Prop :=
  e = .returned (.bool r.isSome) ∧ match r with
    | none => Kept (fun _ => False) w w'
    | some l => Goes w F sb so T pre post { s with sigs := l } w'

theorem erase_flat (l : List Sg) (k : Nat) : (sgF l).take (k * 2) ++ (sgF l).drop ((k + 1) * 2) = sgF (l.eraseIdx k) := by
  have h : ∀ (l : List Sg) (k : Nat), (sgF l).take (k * 2) = sgF (l.take k) ∧ (sgF l).drop (k * 2) = sgF (l.drop k) := by
    intro l
    induction l with
    | nil => intro k; simp [sgF]
    | cons x t ih =>
      intro k
      cases k with
      | zero => simp [sgF]
      | succ k =>
        have e : sgF (x :: t) = sgC x ++ sgF t := rfl
        have e2 : (k + 1) * 2 = (sgC x).length + k * 2 := by rw [sgC_len]; omega
        rw [e, e2, List.take_length_add_append, List.drop_length_add_append, (ih k).1, (ih k).2]
        exact ⟨rfl, rfl⟩
  rw [(h l k).1, (h l (k + 1)).2, List.eraseIdx_eq_take_drop_succ]
  unfold sgF
  rw [List.flatMap_append]

set_option maxRecDepth 100000 in
set_option maxHeartbeats 4000000 in
theorem receive_any (w : World) (F : Nat → Prop) (sb so : Nat) (T : TypeId) (pre post : List Value) (s : St) (v6 v7 : Value) (S : StIn w F sb so T pre post s v6 v7) (h6 : s.nodes.length ≤ 1000000) (h7 : s.sigs.length ≤ 1000000) (x : ByteArray) (st nb : Int) :
    Calls Tryd.prog 69 #[.pointer (some ⟨sb, so, none⟩), .string x, .int .i64 st, .int .i64 nb] w (RcvPost w F sb so T pre post s (receiveP s.sigs x st nb)) := by
  have HS : Hid (StIn w F sb so T pre post s v6 v7) := S
  by_cases hst : st = 2
  · have e1 : (st == 2) = true := by simp [hst]
    have hr : receiveP s.sigs x st nb = if nb = 0 then some s.sigs else none := by unfold receiveP; rw [if_pos hst]
    rw [hr]
    clear hst hr S
    by_cases hnb : nb = 0
    · have e2 : (nb == 0) = true := by simp [hnb]
      rw [if_pos hnb]
      clear hnb
      go_enter Tryd.func69, Tryd.ntmps69
      go_wp2_with fail
      go_ret
      exact ⟨rfl, ⟨F, v6, v7, HS.out, fun g h => .inl h⟩, Kept.refl _ _⟩
    · have e2 : (nb == 0) = false := by simp [hnb]
      rw [if_neg hnb]
      clear hnb
      go_enter Tryd.func69, Tryd.ntmps69
      go_wp2_with fail
      go_ret
      exact ⟨rfl, Kept.refl _ _⟩
  · have e1 : (st == 2) = false := by simp [hst]
    have hr : receiveP s.sigs x st nb = match keptP s.sigs x with | some i => if nb = 1 then some (s.sigs.eraseIdx i) else none | none => none := by unfold receiveP; rw [if_neg hst]; rfl
    have hK := kept_any w s v6 v7 (S.rd h6 h7) x
    unfold keptZ stA at hK
    have hb := S.blk
    unfold stL at hb
    obtain ⟨⟨c0, c1, c2, c3, c4, c5, c6, c7, c8⟩, f0, f1, f2, f3, f4, f5, f6, f7, f8⟩ := nineAt hb S.off
    rw [hr]
    clear hst hr hb S
    cases hk : keptP s.sigs x with
    | none =>
      rw [hk] at hK
      simp only [] at hK ⊢
      clear hk
      by_cases hnb : nb = 1
      · have e2 : (nb != 1) = false := by simp [hnb]
        clear hnb
        go_enter Tryd.func69, Tryd.ntmps69
        go_wp2_with (first
          | (go_at_call 71; refine hK.mono ?_; rintro e w1 ⟨rfl, K1⟩; clear hK)
          | fail)
        go_ret
        exact ⟨rfl, K1⟩
      · have e2 : (nb != 1) = true := by simp [hnb]
        clear hnb
        go_enter Tryd.func69, Tryd.ntmps69
        go_wp2_with (first
          | (go_at_call 71; refine hK.mono ?_; rintro e w1 ⟨rfl, K1⟩; clear hK)
          | fail)
        go_ret
        exact ⟨rfl, K1⟩
    | some k =>
      have hkl := keptP_lt hk
      rw [hk] at hK
      simp only [] at hK ⊢
      clear hk
      by_cases hnb : nb = 1
      · have e2 : (nb != 1) = false := by simp [hnb]
        have e3 : ¬ (k : Int) < 0 := by omega
        rw [if_pos hnb]
        clear hnb
        go_enter Tryd.func69, Tryd.ntmps69
        go_wp2_with (first
          | (go_at_call 71; refine hK.mono ?_; rintro e w1 ⟨rfl, K1⟩; clear hK c0 c1 c2 c3 c4 c5 c6 c7 c8 f0 f1 f2 f3 f4 f5 f6 f7 f8)
          | fail)
        have S1 := HS.out.new K1
        obtain ⟨g, cg, rfl⟩ : ∃ g cg, v7 = .slice (some ⟨g, 0, none⟩) s.sigs.length cg := by
          rcases S1.sigs.2 with ⟨_, h0⟩ | ⟨g, cap, cur, hv, _⟩
          · omega
          · exact ⟨g, cap, hv⟩
        have hb := S1.blk
        unfold stL at hb
        obtain ⟨⟨_, _, _, _, _, _, _, c7, _⟩, _, _, _, _, _, _, _, f7, _⟩ := nineAt hb S1.off
        have HS1 : Hid (StIn w1 F sb so T pre post s v6 (.slice (some ⟨g, 0, none⟩) s.sigs.length cg)) := S1
        have hbh : Hid (w1.heap[sb]? = some (.cells (pre ++ [.string s.dfn, .string s.id, .string s.par, .string s.pnode, .int .i64 s.status, .string s.text, v6, .slice (some ⟨g, 0, none⟩) s.sigs.length cg, .int .i64 s.events] ++ post).toArray T (0, 0))) := hb
        clear hb
        refine wp_onlyN (rc6 (xs := sgF s.sigs) _ c7 f7 hkl h7 S1.sigs (sgF_one _) ?_)
        intro _ _ _ _ _ _ _ _ _ _ _ _ _ _ _ _ _ _ a4 c4 w4 o4 K4
        have HO4 : Hid (w4.ownsRow w1.heap.size 78 2 (.slice a4 (s.sigs.length - 1) c4) (s.sigs.length - 1) ((sgF s.sigs).take (k * 2) ++ (sgF s.sigs).drop ((k + 1) * 2))) := o4
        have HK4 : Hid (Kept (fun _ => False) w1 w4) := K4
        clear S1 c7 f7 o4 K4
        go_wp2_with fail
        go_ret
        refine ⟨rfl, ?_⟩
        have KS : Kept (fun j => j = sb) w4 (w4.setCell ⟨sb, so + 7, none⟩ (.slice a4 (s.sigs.length - 1) c4)) := Kept.setCell _ _ _ rfl
        have b4 := (HK4.out.block _ HS1.out.lt (fun h => h)).trans hbh.out
        have hlt1 := HS1.out.lt
        have hz1 := K1.size
        have o4 := HO4.out
        rw [erase_flat] at o4
        have hz4 : w1.heap.size ≤ (w4.setCell ⟨sb, so + 7, none⟩ (.slice a4 (s.sigs.length - 1) c4)).heap.size := Nat.le_trans HK4.out.size KS.size
        refine ⟨⟨fun g => F g ∨ (w.heap.size ≤ g ∧ g < (w4.setCell ⟨sb, so + 7, none⟩ (.slice a4 (s.sigs.length - 1) c4)).heap.size), v6, .slice a4 (s.sigs.length - 1) c4, ⟨blk_set b4 HS1.out.off (j := 7) (by simp) _, HS1.out.off, ?_, ?_, .inl HS1.out.inS, fun g hg => ⟨.inl (HS1.out.in6 g hg).1, (HS1.out.in6 g hg).2⟩, fun g hg => ?_, fun g h => ?_⟩, fun g h => h.imp id And.left⟩, ?_⟩
        · have n4 := ownsRow_keep HS1.out.nodes (fun g hg => HK4.out.block g (ownsRow_blk HS1.out.nodes hg) (fun h => h))
          exact ownsRow_keep n4 (fun g hg => KS.block g (ownsRow_blk n4 hg) (HS1.out.in6 g hg).2)
        · have hl : (s.sigs.eraseIdx k).length = s.sigs.length - 1 := by rw [List.length_eraseIdx, if_pos hkl]
          show World.ownsRow _ _ _ _ _ (s.sigs.eraseIdx k).length _
          rw [hl]
          exact ownsRow_low (ownsRow_keep o4 (fun g hg => KS.block g (ownsRow_blk o4 hg) (by have := (o4.lt g hg).1; omega))) (Nat.zero_le _)
        · have := (o4.lt g hg).1
          exact ⟨.inr ⟨by omega, Nat.lt_of_lt_of_le (o4.lt g hg).2 KS.size⟩, by omega⟩
        · rcases h with h | h
          · exact Nat.lt_of_lt_of_le (HS1.out.top g h) hz4
          · exact h.2
        · exact ((K1.and HK4.out).mono (fun _ h => h.elim)).and (KS.mono (fun j h => h ▸ HS1.out.inS))
      · have e2 : (nb != 1) = true := by simp [hnb]
        rw [if_neg hnb]
        clear hnb
        go_enter Tryd.func69, Tryd.ntmps69
        go_wp2_with (first
          | (go_at_call 71; refine hK.mono ?_; rintro e w1 ⟨rfl, K1⟩; clear hK)
          | fail)
        go_ret
        exact ⟨rfl, K1⟩

end Go.Proofs.YtdecceekodpjiaaDoor
