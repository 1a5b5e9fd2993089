/-
  The document's ReadyNodes, where no two nodes bear one name.
-/
import Derived.Test.YtfjekjbkifmpfaaDoorG14
namespace Go.Proofs.YtfjekjbkifmpfaaDoor.Rf
open Go.RowKit

set_option maxRecDepth 100000 in
set_option maxHeartbeats 4000000 in
theorem refReady_any (w : World) (name : ByteArray) (a : Option Addr) (c : Nat) (ns : List Nd) (hN : NodesAt w a ns) (hU : Uniq ns) (hn : ns.length ≤ 1000) (ao ab : Option Addr) (co cb : Nat) (m : Nat) (hm : m = ns.length) (lo lb : List Bool) (hlo : lo.length = ns.length) (hlb : lb.length = ns.length)
    (hao : 0 < ns.length → ∃ g, ao = some ⟨g, 0, none⟩) (hab : 0 < ns.length → ∃ g, ab = some ⟨g, 0, none⟩) (ho : CellsAt w ao (lo.map Value.bool)) (hb : CellsAt w ab (lb.map Value.bool)) :
    Calls Tryd.prog 100 #[.agg #[.string name, .slice a ns.length c], .slice ao m co, .slice ab m cb] w fun e w' => ∃ av cv, e = .returned (.slice av (rdyL ns lo lb ns.length).length cv) ∧ w'.ownsRow w.heap.size 3 1 (.slice av (rdyL ns lo lb ns.length).length cv) (rdyL ns lo lb ns.length).length (natsV (rdyL ns lo lb ns.length)) ∧ Kept (fun _ => False) w w' := by
  subst hm
  obtain ⟨i0, hi0, hz0, hz1, hz2⟩ := info_parts Tryd.info3
  have HO : Hid (CellsAt w ao (lo.map Value.bool)) := ho
  have HB : Hid (CellsAt w ab (lb.map Value.bool)) := hb
  have HN : Hid (NodesAt w a ns) := hN
  clear hN ho hb
  go_enter Tryd.func100, Tryd.ntmps100
  go_wp2_with fail
  have K0 : Hid (Kept (fun _ => False) w (w.alloc (.cells #[.string name, .slice a ns.length c] 24))) := Kept.alloc (fun _ => False) _ _
  go_loopw [7, 8] (fun v q wr => ∃ (k : Nat) (a8 : Option Addr) (c8 : Nat), k ≤ ns.length ∧ q = .int .i64 k ∧ v = .slice a8 (rdyL ns lo lb k).length c8 ∧ wr.ownsRow (w.alloc (.cells #[.string name, .slice a ns.length c] 24)).heap.size 3 1 (.slice a8 (rdyL ns lo lb k).length c8) (rdyL ns lo lb k).length (natsV (rdyL ns lo lb k)) ∧ Kept (fun _ => False) (w.alloc (.cells #[.string name, .slice a ns.length c] 24)) wr) (fun _ q _ => ns.length - (intOf q).toNat)
  case atStart => exact ⟨0, none, 0, Nat.zero_le _, rfl, rfl, World.ownsRow_nil _ _ _ _, Kept.refl _ _⟩
  case round =>
    obtain ⟨k, a8, c8, hk, rfl, rfl, OR, K⟩ := hrel
    have Kw : Kept (fun _ => False) w wr := K0.out.and K
    obtain ⟨d0, d1⟩ := boxD K
    by_cases hlt : k < ns.length
    · obtain ⟨og, rfl⟩ := hao (by omega)
      obtain ⟨bg, rfl⟩ := hab (by omega)
      have e0 : (k : Int) < (ns.length : Int) := by omega
      have hM := fun V (KV : Kept (fun _ => False) wr V) => refAt_any V bg 0 ns.length cb lb hlb (by omega) (bcells_at (HB.out.kept (Kw.and KV) (fun _ _ h => h))) k
      have hA := fun V (KV : Kept (fun _ => False) wr V) => refMay_any V name a c ns (keptNew (Kw.and KV) HN.out) hn k hlt og co lo (by omega) (HO.out.kept (Kw.and KV) (fun _ _ h => h))
      rw [hlo] at hA
      rw [mayR_eq hU hlt] at hA
      have hbk : rdyB ns lo lb k = (!lb.getD k false && overP ns ns[k] lo) := by unfold rdyB; rw [List.getElem?_eq_getElem hlt]
      have HH : Hid (rdyB ns lo lb k = true → rdyL ns lo lb (k + 1) = rdyL ns lo lb k ++ [k]) := rdyL_hit
      have HS : Hid (rdyB ns lo lb k = false → rdyL ns lo lb (k + 1) = rdyL ns lo lb k) := rdyL_miss
      have hlen := rdyL_len ns lo lb k
      have HOR := hid OR
      have HKw := hid Kw
      have HK := hid K
      clear OR Kw K
      generalize overP ns ns[k] lo = b2 at *
      generalize hT8 : rdyL ns lo lb k = T8 at *
      generalize lb.getD k false = b1 at *
      cases b1 with
      | true =>
        have HB : Hid (rdyL ns lo lb (k + 1) = T8) := HS.out (by rw [hbk]; rfl)
        clear HH HS hbk hT8 hA
        go_wp2_with (first
          | (go_at_call 82; refine (hM _ (Kept.refl _ _)).mono ?_; rintro e w6 ⟨rfl, hw⟩; subst w6; clear hM)
          | fail)
        go_roundw
        case rel => exact ⟨k + 1, a8, c8, by omega, by go_num, by rw [HB.out], by rw [HB.out]; exact HOR.out, HK.out⟩
        case measure => simp [intOf]; omega
      | false =>
        cases b2 with
        | false =>
          have HB : Hid (rdyL ns lo lb (k + 1) = T8) := HS.out (by rw [hbk]; rfl)
          clear HH HS hbk hT8
          go_wp2_with (first
            | (go_at_call 82; refine (hM _ (Kept.refl _ _)).mono ?_; rintro e w6 ⟨rfl, hw⟩; subst w6; clear hM)
            | (go_at_call 62; refine (hA _ (Kept.refl _ _)).mono ?_; rintro e w6 ⟨rfl, K6⟩; clear hA)
            | fail)
          go_roundw
          case rel => exact ⟨k + 1, a8, c8, by omega, by go_num, by rw [HB.out], by rw [HB.out]; exact ownsRow_keep HOR.out (fun g hg => K6.block g (ownsRow_blk HOR.out hg) (fun h => h)), HK.out.and K6⟩
          case measure => simp [intOf]; omega
        | true =>
          have HB : Hid (rdyL ns lo lb (k + 1) = T8 ++ [k]) := HH.out (by rw [hbk]; rfl)
          clear HH HS hbk hT8
          have HC : Hid (∀ u ∈ [Value.int .i64 (k : Nat)], u.oneCell' = true) := natsV_one [k]
          generalize hm8 : T8.length = m8 at *
          go_wp2_with (first
            | (go_at_call 82; refine (hM _ (Kept.refl _ _)).mono ?_; rintro e w6 ⟨rfl, hw⟩; subst w6; clear hM)
            | (go_at_call 62; refine (hA _ (Kept.refl _ _)).mono ?_; rintro e w6 ⟨rfl, K6⟩; clear hA; have HO6 : Hid (w6.ownsRow (w.alloc (.cells #[.string name, .slice a ns.length c] 24)).heap.size 3 1 (.slice a8 m8 c8) m8 (natsV T8)) := ownsRow_keep HOR.out (fun g hg => K6.block g (ownsRow_blk HOR.out hg) (fun h => h)); have hz6 := K6.size; have hzr : w.heap.size + 1 ≤ wr.heap.size := (by have h := HK.out.size; rwa [World.size_alloc] at h); have HK6 := hid K6; clear K6)
            | (at_builtin; refine wpList_append_src _ rfl _ _ 101 rfl (w.alloc (.cells #[.string name, .slice a ns.length c] 24)).heap.size 3 i0 _ 1 8 Tryd.underlying101 hi0 hz0 hz1 hz2 rfl (by decide) (.slice a8 m8 c8) m8 _ rfl (HO6.out.alloc _) _ rfl 1 _ (.inl ⟨_, 1, rfl, rfl, World.news_of_block (heap_alloc_new _ _)⟩) HC.out (by unfold maxLen; omega) (by omega) (by simp; omega) ?_; intro a3 cap3 w7 ho3 hg3 _ hl3)
            | fail)
          have KG : Kept (fun g => (w.alloc (.cells #[.string name, .slice a ns.length c] 24)).heap.size ≤ g) (w6.alloc (.cells #[.int .i64 (k : Nat)] 3)) w7 := Kept.grown hg3 (fun g e => (HO6.out.lt g e).1)
          go_roundw
          case rel =>
            refine ⟨k + 1, a3, cap3, by omega, by go_num, by rw [HB.out]; simp [hm8], ?_, ((HK.out.and HK6.out).and (Kept.alloc _ _ _)).trans KG (fun g h => .inr h)⟩
            rw [HB.out, natsV_snoc, List.length_append, hm8]
            exact ho3
          case measure => simp [intOf]; omega
    · obtain rfl : k = ns.length := by omega
      have HOR := hid OR
      clear OR
      generalize hT8 : rdyL ns lo lb ns.length = T8 at *
      generalize hm8 : T8.length = m8 at *
      go_wp2_with fail
      go_ret
      subst hm8 hT8
      exact ⟨a8, c8, rfl, ownsRow_low HOR.out K0.out.size, Kw⟩

end Go.Proofs.YtfjekjbkifmpfaaDoor.Rf
