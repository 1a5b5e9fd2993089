/-
  FrontState, walked: a workflow is written as the document's JSON. For every definition and state whose texts are at most 1048576 bytes long.
-/
import Derived.Test.YtdbplemcjnlfiaaGreatDoorFStL
import Derived.Test.YtdbplemcjnlfiaaGreatDoorFStM
import Derived.Test.YtdbplemcjnlfiaaGreatDoorFStR
import Derived.Test.YtdbplemcjnlfiaaGreatDoorFStF
import Derived.Test.YtdbplemcjnlfiaaGreatDoorFStrs
import Derived.Test.YtdbplemcjnlfiaaGreatDoorFWakes
import Derived.Deep.RegionWith
namespace Go.Proofs.YtdbplemcjnlfiaaGreatDoor
open Go.RowKit Go.Sort

set_option maxRecDepth 100000 in
theorem short_all (s : ByteArray) (hs : s.size ≤ maxLen) : ∃ l : List UInt8, l.length ≤ 1500 ∧ ∀ w, Calls Tryz.prog 12 #[.string s] w fun e w' => e = .returned (.string (mkB l)) ∧ w' = w := by
  unfold maxLen at hs
  by_cases h : 1500 < s.size
  · refine ⟨(s.extract 0 1500).data.toList, ?_, ?_⟩
    · have : (s.extract 0 1500).data.toList.length = (s.extract 0 1500).size := Array.length_toList
      rw [this, ByteArray.size_extract]
      omega
    · rw [mkB_of]
      have h1 : (s.size : Int) > 1500 := by omega
      have h2 : (1500 : Int) ≤ (s.size : Int) := by omega
      intro w
      go_enter Tryz.func12, Tryz.ntmps12
      go_wp2
      go_ret
      exact ⟨rfl, rfl⟩
  · refine ⟨s.data.toList, ?_, ?_⟩
    · have : s.data.toList.length = s.size := Array.length_toList
      omega
    · rw [mkB_of]
      have h1 : ¬ (s.size : Int) > 1500 := by omega
      intro w
      go_enter Tryz.func12, Tryz.ntmps12
      go_wp2
      go_ret
      exact ⟨rfl, rfl⟩

theorem block_lt {w : World} {g : Nat} {o : Obj} (h : w.heap[g]? = some o) : g < w.heap.size := (Array.getElem?_eq_some_iff.1 h).1

theorem set_other {w : World} {g k i : Nat} {o : Obj} (v : Value) (hk : k ≠ g) (h : w.heap[k]? = some o) : (w.setCell ⟨g, i, none⟩ v).heap[k]? = some o := by
  rw [← h]
  simp [World.setCell, Array.getElem?_modify, Ne.symm hk]

set_option maxRecDepth 100000 in
set_option maxHeartbeats 16000000 in
theorem frontState_walk (w : World) (dn : ByteArray) (ad : Option Addr) (ld cd : Nat) (df id pa pn : ByteArray) (st : Int) (tx : ByteArray) (an : Option Addr) (ln cn : Nat) (ag : Option Addr) (lg cg : Nat) (ev : Int) (Nm : Nat → ByteArray) (St Tr : Nat → Int) (Tx : Nat → ByteArray) (z1 : df.size ≤ 1048576) (z2 : id.size ≤ 1048576) (z3 : tx.size ≤ 1048576) (z4 : -9223372036854775808 ≤ ev) (z5 : ev ≤ 9223372036854775807) (hc1 : ld ≤ cd) (hc2 : ln ≤ cn) (hm1 : ld ≤ 1048576) (hm2 : ln ≤ 1048576)
    (R : NdsIn w an ln St Tr Tx) (D : NmsIn w ad ld Nm) (T : Utf8At w) (T10 : Pow10 w) (M : MaxAt w) :
    Calls Tryz.prog 4 #[.agg #[.string dn, .slice ad ld cd], .agg #[.string df, .string id, .string pa, .string pn, .int .i64 st, .string tx, .slice an ln cn, .slice ag lg cg, .int .i64 ev]] w fun e w' => e = .returned (.bool true) ∧ Below w.heap.size w w' := by
  have HR := hid R
  have HD := hid D
  have HT := hid T
  have HP := hid T10
  have HM := hid M
  have HZ := hid (And.intro z1 (And.intro z4 z5))
  obtain ⟨il, hil, hI⟩ := short_all id (by unfold maxLen; omega)
  obtain ⟨tl, htl, hT⟩ := short_all tx (by unfold maxLen; omega)
  have HSI : Hid (∀ V, Calls Tryz.prog 12 #[.string id] V fun e w' => e = .returned (.string (mkB il)) ∧ w' = V) := hI
  have HST : Hid (∀ V, Calls Tryz.prog 12 #[.string tx] V fun e w' => e = .returned (.string (mkB tl)) ∧ w' = V) := hT
  have HIL := hid (And.intro hil htl)
  obtain ⟨l1, hl1⟩ : ∃ l1, l1 = min ld 40 := ⟨_, rfl⟩
  obtain ⟨l2, hl2⟩ : ∃ l2, l2 = min ln 40 := ⟨_, rfl⟩
  have HL := hid (And.intro hl1 hl2)
  clear hl1 hl2 hI hT hil htl
  have K0 : Kept (fun _ => False) w (w.alloc (.cells #[.string dn, .slice ad ld cd] 38)) := Kept.alloc _ _ _
  have hb := heap_alloc_new w (.cells #[.string dn, .slice ad ld cd] 38)
  have K1 : Kept (fun _ => False) (w.alloc (.cells #[.string dn, .slice ad ld cd] 38)) ((w.alloc (.cells #[.string dn, .slice ad ld cd] 38)).alloc (.cells #[.string df, .string id, .string pa, .string pn, .int .i64 st, .string tx, .slice an ln cn, .slice ag lg cg, .int .i64 ev] 42)) := Kept.alloc _ _ _
  have hb1 := heap_alloc_new (w.alloc (.cells #[.string dn, .slice ad ld cd] 38)) (.cells #[.string df, .string id, .string pa, .string pn, .int .i64 st, .string tx, .slice an ln cn, .slice ag lg cg, .int .i64 ev] 42)
  have hsz : (w.alloc (.cells #[.string dn, .slice ad ld cd] 38)).heap.size = w.heap.size + 1 := World.size_alloc _ _
  rw [hsz] at hb1
  have hb0 : ((w.alloc (.cells #[.string dn, .slice ad ld cd] 38)).alloc (.cells #[.string df, .string id, .string pa, .string pn, .int .i64 st, .string tx, .slice an ln cn, .slice ag lg cg, .int .i64 ev] 42)).heap[w.heap.size]? = some (.cells #[.string dn, .slice ad ld cd] 38) := by
    rw [K1.block w.heap.size (by rw [hsz]; omega) (fun h => h)]; exact hb
  clear R D T T10 M hb hsz
  go_enter Tryz.func4, Tryz.ntmps4
  go_upto_region 1 with fail
  have HK1 := hid (K0.and K1)
  clear K0 K1
  generalize (w.alloc (.cells #[.string dn, .slice ad ld cd] 38)).alloc (.cells #[.string df, .string id, .string pa, .string pn, .int .i64 st, .string tx, .slice an ln cn, .slice ag lg cg, .int .i64 ev] 42) = W at *
  generalize hgs : w.heap.size + 1 = gs at *
  generalize hgd : w.heap.size = gd at *
  have HGG : Hid (gd = w.heap.size ∧ gs = w.heap.size + 1 ∧ gd ≠ gs) := by show _ ∧ _; omega
  clear hgs hgd
  have HB0 := hid hb0
  have HB1 := hid hb1
  have c1 : W.cell? ⟨gd, 1, none⟩ = some (.slice ad ld cd) := by simp [World.cell?, hb0]
  have f1 : W.frozen? ⟨gd, 1, none⟩ = false := by simp [World.frozen?, hb0]
  clear hb0 hb1
  go_upto_if 8 with fail
  go_cut [] from 5 (fun wx => Kept (fun _ => False) w wx ∧ wx.heap[gd]? = some (.cells #[.string dn, .slice ad l1 cd] 38) ∧ wx.heap[gs]? = some (.cells #[.string df, .string id, .string pa, .string pn, .int .i64 st, .string tx, .slice an ln cn, .slice ag lg cg, .int .i64 ev] 42))
  case first =>
    by_cases h40 : (ld : Int) > 40
    · have hcap : (40 : Int) ≤ (cd : Int) := by omega
      have HLL : Hid (l1 = 40) := by show l1 = 40; have := HL.out.1; omega
      go_wp2_with fail
      go_meet
      case rel =>
        refine ⟨HK1.out.trans (Kept.setCell (S := fun j => j = gd) _ _ _ rfl) (fun i h => .inr (by have := HGG.out; omega)), ?_, set_other _ (Ne.symm HGG.out.2.2) HB1.out⟩
        have h := set_heap (i := 1) (.slice ad 40 cd) HB0.out
        rw [HLL.out]
        exact h
    · have HLL : Hid (l1 = ld) := by show l1 = ld; have := HL.out.1; omega
      go_wp2_with fail
      go_meet
      case rel => exact ⟨HK1.out, by rw [HLL.out]; exact HB0.out, HB1.out⟩
  case rest =>
    obtain ⟨KW1, hb0, hb1⟩ := hcut
    have HK2 := hid KW1
    have HB2 := hid hb0
    have HB3 := hid hb1
    have d6 : wc.cell? ⟨gs, 6, none⟩ = some (.slice an ln cn) := by simp [World.cell?, hb1]
    have f6 : wc.frozen? ⟨gs, 6, none⟩ = false := by simp [World.frozen?, hb1]
    clear KW1 hb0 hb1 c1 f1 HB0 HB1 HK1
    obtain ⟨W2, hW2⟩ : ∃ x, x = wc := ⟨_, rfl⟩
    subst wc
    go_upto_if 16 with fail
    go_cut [] from 5 (fun wx => Kept (fun _ => False) w wx ∧ wx.heap[gd]? = some (.cells #[.string dn, .slice ad l1 cd] 38) ∧ wx.heap[gs]? = some (.cells #[.string df, .string id, .string pa, .string pn, .int .i64 st, .string tx, .slice an l2 cn, .slice ag lg cg, .int .i64 ev] 42))
    case first =>
      by_cases h40 : (ln : Int) > 40
      · have hcap : (40 : Int) ≤ (cn : Int) := by omega
        have HLL : Hid (l2 = 40) := by show l2 = 40; have := HL.out.2; omega
        go_wp2_with fail
        go_meet
        case rel =>
          refine ⟨HK2.out.trans (Kept.setCell (S := fun j => j = gs) _ _ _ rfl) (fun i h => .inr (by have := HGG.out; omega)), set_other _ HGG.out.2.2 HB2.out, ?_⟩
          have h := set_heap (i := 6) (.slice an 40 cn) HB3.out
          rw [HLL.out]
          exact h
      · have HLL : Hid (l2 = ln) := by show l2 = ln; have := HL.out.2; omega
        go_wp2_with fail
        go_meet
        case rel => exact ⟨HK2.out, HB2.out, by rw [HLL.out]; exact HB3.out⟩
    case rest =>
      obtain ⟨KW1, hb0, hb1⟩ := hcut
      have HK4 := hid KW1
      have HB4 := hid hb0
      have HB5 := hid hb1
      clear KW1 hb0 hb1 d6 f6 HB2 HB3 HK2
      obtain ⟨W3, hW3⟩ : ∃ x, x = wc := ⟨_, rfl⟩
      subst wc
      go_upto_region 5 with fail
      refine wp_onlyN (law5 _ HB5.out HSI.out HST.out ?_)
      intro v21 v22 v23 v24 v25 v26 v27 v28 W4 hb1 K4
      have HK6 : Hid (Kept (fun _ => False) w W4) := HK4.out.trans K4 (fun i h => .inr (by have := HGG.out; omega))
      have HB6 : Hid (W4.heap[gd]? = some (.cells #[.string dn, .slice ad l1 cd] 38)) := (K4.block gd (block_lt HB4.out) HGG.out.2.2).trans HB4.out
      have HB7 := hid hb1
      clear hb1 K4 HB4 HB5 HK4
      have HC : Hid (∀ V, Kept (fun _ => False) W4 V → V.cell? ⟨gd, 0, none⟩ = some (.string dn) ∧ V.cell? ⟨gd, 1, none⟩ = some (.slice ad l1 cd) ∧ V.cell? ⟨gs, 0, none⟩ = some (.string df) ∧ V.cell? ⟨gs, 1, none⟩ = some (.string (mkB il)) ∧ V.cell? ⟨gs, 2, none⟩ = some (.string pa) ∧ V.cell? ⟨gs, 3, none⟩ = some (.string pn) ∧ V.cell? ⟨gs, 4, none⟩ = some (.int .i64 st) ∧ V.cell? ⟨gs, 5, none⟩ = some (.string (mkB tl)) ∧ V.cell? ⟨gs, 6, none⟩ = some (.slice an l2 cn) ∧ V.cell? ⟨gs, 7, none⟩ = some (.slice ag lg cg) ∧ V.cell? ⟨gs, 8, none⟩ = some (.int .i64 ev)) := fun V KV => by
        refine ⟨?_, ?_, ?_, ?_, ?_, ?_, ?_, ?_, ?_, ?_, ?_⟩
        all_goals refine cellKept3 KV ?_
        all_goals first | (simp [World.cell?, HB7.out]; done) | (simp [World.cell?, HB6.out]; done)
      have HNm : Hid (∀ V, Kept (fun _ => False) W4 V → NmsIn V ad l1 Nm) := fun V KV => by
        rcases HD.out.kept (HK6.out.and KV) with h0 | ⟨b, o, rfl, hc⟩
        · exact .inl (by have := HL.out.1; omega)
        · exact .inr ⟨b, o, rfl, fun i hi => hc i (by have := HL.out.1; omega)⟩
      have HNd : Hid (∀ V, Kept (fun _ => False) W4 V → NdsIn V an l2 St Tr Tx) := fun V KV => by
        rcases HR.out.kept (HK6.out.and KV) with h0 | ⟨b, o, rfl, hc⟩
        · exact .inl (by have := HL.out.2; omega)
        · exact .inr ⟨b, o, rfl, fun i hi => hc i (by have := HL.out.2; omega)⟩
      have HL4 : Hid (l1 ≤ 40 ∧ l2 ≤ 40 ∧ (mkB il).size ≤ 1048576 ∧ (mkB tl).size ≤ 1048576) := by
        show _ ∧ _ ∧ _ ∧ _
        rw [mkB_size, mkB_size]
        have := HL.out
        have := HIL.out
        omega
      go_upto_region 6 with fail
      refine wp_onlyN (law6 _ HC.out (h1 := fun V KV => state_any V dn ad l1 cd df (mkB il) pa pn st (mkB tl) an l2 cn ag lg cg ev Nm St Tr Tx HZ.out.1 HL4.out.2.2.1 HL4.out.2.2.2 HZ.out.2.1 HZ.out.2.2 (HNd.out V KV) HL4.out.2.1 (HNm.out V KV) HL4.out.1 (HT.out.kept (HK6.out.and KV)) (HP.out.kept (HK6.out.and KV))) (h2 := fun V KV => refState_any V dn ad l1 cd df (mkB il) pa pn st (mkB tl) an l2 cn ag lg cg ev Nm St Tr Tx HZ.out.1 HL4.out.2.2.1 HL4.out.2.2.2 HZ.out.2.1 HZ.out.2.2 (HNd.out V KV) HL4.out.2.1 (HNm.out V KV) HL4.out.1) (h3 := fun V KV => wakes_any V (HT.out.kept (HK6.out.and KV)) (HM.out.kept (HK6.out.and KV))) (h := ?_))
      intro v29 v30 v31 v32 v33 v34 v35 v36 v37 v38 w9 K9
      go_wp2
      go_ret
      exact ⟨rfl, (HK6.out.and K9).below (Nat.le_refl _) (fun i h => h.elim)⟩

end Go.Proofs.YtdbplemcjnlfiaaGreatDoor
