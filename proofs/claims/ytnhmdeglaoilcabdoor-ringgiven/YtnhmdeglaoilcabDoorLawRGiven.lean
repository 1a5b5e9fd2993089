/-
  RingGiven holds for all hosts, points and turns: the law's call returns true and leaves its arguments as they were. No condition; the listed tables are tied to the program's text.
-/
import Derived.Test.YtnhmdeglaoilcabDoorRCard
import Derived.Test.YtnhmdeglaoilcabDoorRHm
import Derived.Test.YtnhmdeglaoilcabDoorRShards
namespace Go.Proofs.YtnhmdeglaoilcabDoor
open Go.ChangeShapes Go.WideShapes Go.ChangeAt Go.RowKit

theorem Right.perm {l l' : List Int} (h : Right l) (hp : l'.Perm l) : Right l' :=
  ⟨fun z hz => h.1 z (hp.mem_iff.1 hz), hp.nodup_iff.2 h.2⟩

theorem allSpots_perm {l l' : List Int} (hp : l'.Perm l) (n : Nat) : (allSpots l' n).Perm (allSpots l n) := hp.flatMap_right _

theorem turned (l : List Int) (k : Nat) : (l.drop k ++ l.take k).Perm l := by
  have := List.perm_append_comm (l₁ := l.drop k) (l₂ := l.take k)
  rwa [List.take_append_drop] at this

theorem hostsL_len (l : List Sp) : (hostsL l).length ≤ l.length := by
  unfold hostsL
  refine Nat.le_trans (compact_le _) ?_
  rw [List.length_mergeSort, List.length_map]
  exact Nat.le_refl _

theorem IntsAt.drop {w : World} {b o m c : Nat} {zs : List Int} (B : IntsAt w (some ⟨b, o, none⟩) m c zs) {k : Nat} (hk : k ≤ m) : IntsAt w (some ⟨b, o + k, none⟩) (m - k) (c - k) (zs.drop k) :=
  ⟨by rw [List.length_drop, B.len], by have := B.cap; omega, fun h => (by cases h), fun ad e j hj => by
    cases e
    rw [List.getElem_drop, Addr.add_lit]
    have := B.cells _ rfl (k + j) (by rw [List.length_drop] at hj; omega)
    rw [Addr.add_lit] at this
    rw [← this]
    congr 2
    omega⟩

set_option maxRecDepth 100000 in
set_option maxHeartbeats 4000000 in
theorem ringGiven_walk (a : Option Addr) (m c : Nat) (zs : List Int) (points turn : Int) (w : World) (B : IntsAt w a m c zs) :
    Calls Tryd.prog 3 #[.slice a m c, .int .i64 points, .int .i64 turn] w fun e w' => e = .returned (.bool true) ∧ Below w.heap.size w w' := by
  have hW := fun V => wakes_any V
  have hH := hosts_any w a m c zs B
  obtain ⟨i0, hi, hz0, hz1, hz2⟩ := info_parts Tryd.info3
  have WP := fun V => within_nat V points 20 (by decide) (by decide)
  go_enter Tryd.func3, Tryd.ntmps3
  go_wp2_with (first
    | (go_at_call 6; refine hH.mono ?_; rintro e w1 ⟨a1, c1, l, rfl, ho, hR, hl12, K1⟩; have WT := within_nat w1 turn (l.length + 1) (by omega) (by omega); rw [show ((l.length + 1 : Nat) : Int) = (l.length : Int) + 1 by omega] at WT; clear hH)
    | (go_at_call 7; have _t := WP w; refine (WP _).mono ?_; rintro e w2 ⟨n', hn20, rfl, hw2⟩; subst w2; clear WP _t)
    | (go_at_call 7; refine WT.mono ?_; rintro e w2 ⟨k, hk, rfl, hw2⟩; subst w2; clear WT)
    | fail)
  have I1 := intsOfRow ho
  rcases ho.2 with ⟨e, h0⟩ | ⟨g, cap, cur, e, hbg, _⟩
  · simp only [Value.slice.injEq] at e
    obtain ⟨rfl, _, rfl⟩ := e
    obtain rfl : l = [] := List.eq_nil_of_length_eq_zero h0
    obtain rfl : k = 0 := by simp at hk; omega
    have KE : Kept (fun _ => False) w1 (w1.alloc (.cells #[] 3)).drew := (Kept.alloc (fun _ => False) w1 (.cells #[] 3)).and (Kept.drew _ _)
    have s0 : ∀ V, IntsAt V none 0 0 [] := fun V => ⟨rfl, Nat.le_refl _, fun _ => rfl, fun ad h => (by cases h)⟩
    have r0 := rowKept (ownsRow_empty w1 w1.heap.size 3 1 (Nat.le_refl _)) (Kept.drew (fun _ => False) _) (fun _ _ h => h)
    have HI : Hid (IntsAt w1 none ([] : List Int).length 0 []) := I1
    clear I1
    simp only [List.length_nil, Int.natCast_zero]
    go_region_law (first
      | (have _q := r0; refine step_append_sr _ (by rfl) _ _ _ (by rfl) w1.heap.size 3 i0 _ 1 8 Tryd.underlying22 hi hz0 hz1 hz2 rfl (by decide) (.slice (some ⟨w1.heap.size, 0, none⟩) 0 0) 0 [] (by rfl) r0 _ (by rfl) 0 _ (s0 _).src (ints_one _) (by unfold maxLen; omega) (by omega) (by simp) ?_; intro a3 c3 w3 ho3 hg3 _ hl3; simp only [Nat.zero_add, List.nil_append] at ho3; have K3 : Kept (fun j => w1.heap.size ≤ j) (w1.alloc (.cells #[] 3)).drew w3 := (Kept.grown hg3 (fun j e => by cases e; exact Nat.le_refl _)); have hs3 := K3.size; clear r0 _q)
      | (refine step_append_sr _ (by rfl) _ _ _ (by rfl) w1.heap.size 3 i0 _ 1 8 Tryd.underlying22 hi hz0 hz1 hz2 rfl (by decide) (.slice a3 0 c3) 0 _ (by rfl) ho3 _ (by rfl) 0 _ (s0 _).src (ints_one _) (by unfold maxLen; omega) (by omega) (by have h4 : w1.heap.size ≤ (w1.alloc (.cells #[] 3)).drew.heap.size := KE.size; omega) ?_; intro a4 c4 w4 ho4 hg4 _ hl4; simp only [Nat.zero_add, List.map_nil, List.nil_append] at ho4; have K4 : Kept (fun j => w1.heap.size ≤ j) w3 w4 := (Kept.grown hg4 (fun j e => (ho3.lt j e).1)); clear ho3)
      | fail)
    have IA : IntsAt w4 none 0 0 [] := s0 w4
    have IB : IntsAt w4 a4 0 c4 (([] : List Int).drop 0 ++ ([] : List Int).take 0) := intsOfRow (l := []) ho4
    have K14 : Kept (fun _ => False) w1 w4 := (KE.trans K3 (fun _ h => .inr h)).trans K4 (fun _ h => .inr h)
    have hRb := hR.perm (turned [] 0)
    have hp : (1 : Int) ≤ 1 + (n' : Int) ∧ 1 + (n' : Int) ≤ 64 := by omega
    have N1 := new_any _ _ _ _ _ IA (1 + (n' : Int))
    have HIB : Hid _ := IB
    clear IB IA
    go_wp2_with (first
      | (go_at_call 8; have _t := N1; refine N1.mono ?_; rintro e w5 ⟨K5, (⟨hw, _⟩ | ⟨_, ra, la, rfl, hpa, hsa, Ra⟩)⟩; (exact absurd ⟨hR, hp.1, hp.2⟩ hw); have N2 := new_any w5 _ _ _ _ (HIB.out.kept K5 (fun _ _ _ h => h)) (1 + (n' : Int)); clear N1 _t)
      | (go_at_call 8; refine N2.mono ?_; rintro e w6 ⟨K6, (⟨hw, _⟩ | ⟨_, rb, lb, rfl, hpb, hsb, Rb⟩)⟩; (exact absurd ⟨hRb, hp.1, hp.2⟩ hw); have hab := spots_eq hsa hsb (hpa.trans ((allSpots_perm (turned [] 0) _).symm.trans hpb.symm)); subst hab; have HRa := Ra.kept K6; have H1 := hostsM_any w6 ra la HRa; have HRA : Hid (RingAt w6 ra la) := HRa; have HRB : Hid (RingAt w6 rb la) := Rb; clear N2 hpa hpb Ra Rb HRa hsb)
      | (go_at_call 10; have _t := H1; refine H1.mono ?_; rintro e w7 ⟨a7, c7, rfl, ho7, K7⟩; have H2 := hostsM_any w7 rb la (HRB.out.kept K7); clear H1 _t)
      | (go_at_call 10; refine H2.mono ?_; rintro e w8 ⟨a8, c8, rfl, ho8, K8⟩; have IS := ints_same w8 a7 a8 _ c7 c8 (hostsL la) ((intsOfRow ho7).kept K8 (fun _ _ _ h => h)) (intsOfRow ho8) (by have h9 := hostsL_len la; have h10 := HRA.out.few; omega); clear H2)
      | (go_at_call 9; refine IS.mono ?_; rintro e w9 ⟨rfl, m9, hw9⟩; subst w9; clear IS)
      | fail)
    have K9 := ((K7.and K8).and (Kept.drewN (fun _ => False) w8 m9))
    clear ho7 ho8
    go_loopw [15] (fun i wr' => ∃ (s : Nat), s ≤ 16 ∧ i = .int .i64 s ∧ Kept (fun _ => False) w6 wr') (fun i _ => 16 - (intOf i).toNat)
    case atStart => exact ⟨0, by decide, rfl, K9⟩
    case round =>
      obtain ⟨s, hs16, rfl, K10⟩ := hrel
      by_cases hs : s < 16
      · have G1 := hostDet_any _ ra la (HRA.out.kept K10) hsa s (by omega)
        have G2 := fun V (K : Kept (fun _ => False) w6 V) => hostDet_any V rb la (HRB.out.kept K) hsa s (by omega)
        generalize (hostAt la (shardPt s)).getD 0 = hv at *
        generalize (hostAt la (shardPt s)).isSome = hb at *
        have e5 : (s : Int) < 16 := by omega
        have e6 : (hv != hv) = false := by simp
        have e7 : (hb != hb) = false := by simp
        go_wp2_with (first
          | (go_at_call 11; have _t := G1; refine G1.mono ?_; rintro e w11 ⟨rfl, K11⟩; clear G1 _t)
          | (go_at_call 11; refine (G2 _ (K10.and K11)).mono ?_; rintro e w12 ⟨rfl, K12⟩; clear G2)
          | fail)
        all_goals
          go_roundw
          case rel => exact ⟨s + 1, by omega, by go_num, (K10.and K11).and K12⟩
          case measure => simp [intOf]; omega
      · have e5 : ¬ (s : Int) < 16 := by omega
        go_wp2_with (first
          | (go_at_call 12; refine (hW _).mono ?_; rintro e w11 ⟨rfl, K11⟩)
          | fail)
        go_ret
        exact ⟨rfl, (((((K1.and K14).and K5).and K6).and K10).and K11).none⟩
  · simp only [Value.slice.injEq] at e
    obtain ⟨rfl, _, rfl⟩ := e
    have hgl : g < w1.heap.size := (ho.lt g rfl).2
    have hcap := I1.cap
    have KE : Kept (fun _ => False) w1 (w1.alloc (.cells #[] 3)).drew := (Kept.alloc (fun _ => False) w1 (.cells #[] 3)).and (Kept.drew _ _)
    have e1 : (k : Int) ≤ (l.length : Int) := by omega
    have e2 : (0 : Int) ≤ (k : Int) := by omega
    have e3 : (k : Int) ≤ (c1 : Int) := by omega
    have e4 : (l.length : Int) ≤ (c1 : Int) := by omega
    have IE := I1.kept KE (fun _ _ _ h => h)
    have s1 : IntsAt (w1.alloc (.cells #[] 3)).drew (if c1 = k then some ⟨g, 0, none⟩ else some ⟨g, k, none⟩) (l.length - k) (c1 - k) (l.drop k) := by
      have hd := IE.drop (k := k) (by omega)
      rw [Nat.zero_add] at hd
      split
      · have hlk : l.length - k = 0 := by omega
        refine ⟨hd.len, hd.cap, fun h => (by cases h), fun ad e j hj => ?_⟩
        rw [List.length_drop] at hj
        omega
      · exact hd
    have r0 := rowKept (ownsRow_empty w1 w1.heap.size 3 1 (Nat.le_refl _)) (Kept.drew (fun _ => False) _) (fun _ _ h => h)
    have HI : Hid (IntsAt w1 (some ⟨g, 0, none⟩) l.length c1 l) := I1
    have hL : (l.drop k).length = l.length - k := List.length_drop
    have hL2 : (l.take k).length = k := by rw [List.length_take]; omega
    clear I1 IE
    go_region_law (first
      | (refine step_append_sr _ (by rfl) _ _ _ (by rfl) w1.heap.size 3 i0 _ 1 8 Tryd.underlying22 hi hz0 hz1 hz2 rfl (by decide) (.slice (some ⟨w1.heap.size, 0, none⟩) 0 0) 0 [] (by rfl) r0 _ (by rfl) (l.length - k) _ s1.src (ints_one _) (by unfold maxLen; omega) (by omega) (by simp) ?_; intro a3 c3 w3 ho3 hg3 _ hl3; simp only [Nat.zero_add, List.nil_append] at ho3; have K3 : Kept (fun j => j = w1.heap.size) (w1.alloc (.cells #[] 3)).drew w3 := (Kept.grown hg3 (fun j e => by cases e; rfl)); have hs3 := K3.size; have s2 := ((HI.out.kept KE (fun _ _ _ h => h)).kept K3 (fun _ ad e h => (by cases e; exact absurd h (Nat.ne_of_lt hgl)))).take (h := k) (by omega); clear r0 s1)
      | (refine step_append_sr _ (by rfl) _ _ _ (by rfl) w1.heap.size 3 i0 _ 1 8 Tryd.underlying22 hi hz0 hz1 hz2 rfl (by decide) (.slice a3 (l.length - k) c3) (l.length - k) _ (by rfl) ho3 _ (by rfl) k _ s2.src (ints_one _) (by unfold maxLen; omega) (by omega) (by have h4 : w1.heap.size ≤ (w1.alloc (.cells #[] 3)).drew.heap.size := KE.size; omega) ?_; intro a4 c4 w4 ho4 hg4 _ hl4; have K4 : Kept (fun j => w1.heap.size ≤ j) w3 w4 := (Kept.grown hg4 (fun j e => (ho3.lt j e).1)); clear s2)
      | fail)
    generalize (if c1 = k then some (⟨g, 0, none⟩ : Addr) else some ⟨g, k, none⟩) = zz at *
    have IA : IntsAt w4 (some ⟨g, 0, none⟩) l.length c1 l := ((HI.out.kept KE (fun _ _ _ h => h)).kept K3 (fun _ ad e h => (by cases e; exact absurd h (Nat.ne_of_lt hgl)))).kept K4 (fun _ ad e h => (by cases e; exact absurd hgl (Nat.not_lt.2 h)))
    have IB : IntsAt w4 a4 (l.length - k + k) c4 (l.drop k ++ l.take k) := intsOfRow (by rw [List.map_append]; exact ho4)
    have K14 : Kept (fun _ => False) w1 w4 := (KE.trans K3 (fun j h => .inr (by have h' : j = w1.heap.size := h; omega))).trans K4 (fun _ h => .inr h)
    have hRb := hR.perm (turned l k)
    have hp : (1 : Int) ≤ 1 + (n' : Int) ∧ 1 + (n' : Int) ≤ 64 := by omega
    have N1 := new_any _ _ _ _ _ IA (1 + (n' : Int))
    have HIB : Hid _ := IB
    clear IB IA
    go_wp2_with (first
      | (go_at_call 8; have _t := N1; refine N1.mono ?_; rintro e w5 ⟨K5, (⟨hw, _⟩ | ⟨_, ra, la, rfl, hpa, hsa, Ra⟩)⟩; (exact absurd ⟨hR, hp.1, hp.2⟩ hw); have N2 := new_any w5 _ _ _ _ (HIB.out.kept K5 (fun _ _ _ h => h)) (1 + (n' : Int)); clear N1 _t)
      | (go_at_call 8; refine N2.mono ?_; rintro e w6 ⟨K6, (⟨hw, _⟩ | ⟨_, rb, lb, rfl, hpb, hsb, Rb⟩)⟩; (exact absurd ⟨hRb, hp.1, hp.2⟩ hw); have hab := spots_eq hsa hsb (hpa.trans ((allSpots_perm (turned l k) _).symm.trans hpb.symm)); subst hab; have HRa := Ra.kept K6; have H1 := hostsM_any w6 ra la HRa; have HRA : Hid (RingAt w6 ra la) := HRa; have HRB : Hid (RingAt w6 rb la) := Rb; clear N2 hpa hpb Ra Rb HRa hsb)
      | (go_at_call 10; have _t := H1; refine H1.mono ?_; rintro e w7 ⟨a7, c7, rfl, ho7, K7⟩; have H2 := hostsM_any w7 rb la (HRB.out.kept K7); clear H1 _t)
      | (go_at_call 10; refine H2.mono ?_; rintro e w8 ⟨a8, c8, rfl, ho8, K8⟩; have IS := ints_same w8 a7 a8 _ c7 c8 (hostsL la) ((intsOfRow ho7).kept K8 (fun _ _ _ h => h)) (intsOfRow ho8) (by have h9 := hostsL_len la; have h10 := HRA.out.few; omega); clear H2)
      | (go_at_call 9; refine IS.mono ?_; rintro e w9 ⟨rfl, m9, hw9⟩; subst w9; clear IS)
      | fail)
    have K9 := ((K7.and K8).and (Kept.drewN (fun _ => False) w8 m9))
    clear ho7 ho8
    go_loopw [15] (fun i wr' => ∃ (s : Nat), s ≤ 16 ∧ i = .int .i64 s ∧ Kept (fun _ => False) w6 wr') (fun i _ => 16 - (intOf i).toNat)
    case atStart => exact ⟨0, by decide, rfl, K9⟩
    case round =>
      obtain ⟨s, hs16, rfl, K10⟩ := hrel
      by_cases hs : s < 16
      · have G1 := hostDet_any _ ra la (HRA.out.kept K10) hsa s (by omega)
        have G2 := fun V (K : Kept (fun _ => False) w6 V) => hostDet_any V rb la (HRB.out.kept K) hsa s (by omega)
        generalize (hostAt la (shardPt s)).getD 0 = hv at *
        generalize (hostAt la (shardPt s)).isSome = hb at *
        have e5 : (s : Int) < 16 := by omega
        have e6 : (hv != hv) = false := by simp
        have e7 : (hb != hb) = false := by simp
        go_wp2_with (first
          | (go_at_call 11; have _t := G1; refine G1.mono ?_; rintro e w11 ⟨rfl, K11⟩; clear G1 _t)
          | (go_at_call 11; refine (G2 _ (K10.and K11)).mono ?_; rintro e w12 ⟨rfl, K12⟩; clear G2)
          | fail)
        all_goals
          go_roundw
          case rel => exact ⟨s + 1, by omega, by go_num, (K10.and K11).and K12⟩
          case measure => simp [intOf]; omega
      · have e5 : ¬ (s : Int) < 16 := by omega
        go_wp2_with (first
          | (go_at_call 12; refine (hW _).mono ?_; rintro e w11 ⟨rfl, K11⟩)
          | fail)
        go_ret
        exact ⟨rfl, (((((K1.and K14).and K5).and K6).and K10).and K11).none⟩

set_option maxRecDepth 100000 in
theorem ringGiven_lifted (os : Os) (started : os.Started) (H : Type) (enc : TypeId × Value → H) :
    ReturnsInHanded {} Tryd.checked os 3 .any (fun w args => (Rows.ringGivenSpec.pre enc Tryd.prog Tryd.f3 [] false w args ∧ laidMetH Tryd.prog laidL w) ∧ sizedMet enc Tryd.prog Tryd.f3 (OpenSpec.ofChange Rows.ringGivenSpec) false w args)
      (Rows.ringGivenSpec.post enc Tryd.prog Tryd.f3 false true false false) := by
  refine returnsInHanded_of_change_and (C := Tryd.checked) (X := fun w _ => laidMetH Tryd.prog laidL w) (fun _ _ _ hh h => h.of_heap hh) Tryd.own started (by kernel_rfl) Tryd.func3
    (ChangeSpec.witness_shaped (enc := enc) (C := Tryd.checked) (os := os) (X := fun w _ => laidMetH Tryd.prog laidL w) false (World.doorLaid Tryd.prog 24 os) #[.slice none 0 0, .int .i64 0, .int .i64 0] 8 rfl (World.shaped_of_RefB (by kernel_rfl) (by kernel_rfl)) (by kernel_rfl) (by kernel_rfl) (by kernel_rfl) (door_met os _)) ?_
  intro W base args ds gs before hval0 hW _ _ hL _
  have hval : ∀ (j : Nat) t v, Tryd.f3.params[j]? = some t → args[j]? = some v → Value.okWide Tryd.prog W .any base t v := hval0
  have hW' := hW
  obtain ⟨p, q, hA0, hV, rfl, _, _⟩ := hW
  have hA : DataW.TrodAll enc Tryd.prog W 0 (fun _ => true) true Tryd.f3.params.toList args.toList ds p := hA0
  rw [Tryd.params3] at hA hval
  obtain ⟨v0, vs0, d0, ds0, p0, q0, hargs, rfl, rfl, h0, r0⟩ := trodAll_cons hA
  obtain ⟨v1, vs1, d1, ds1, p1, q1, rfl, rfl, rfl, h1, r1⟩ := trodAll_cons r0
  obtain ⟨v2, vs2, d2, ds2, p2, q2, rfl, rfl, rfl, h2, r2⟩ := trodAll_cons r1
  obtain ⟨rfl, rfl, rfl⟩ := trodAll_nil r2
  obtain rfl : args = #[v0, v1, v2] := by cases args; simp_all
  obtain ⟨rfl, rfl⟩ := trodVars_none hV
  have k0 := h0
  have k1 := h1
  have k2 := h2
  have lt0 : ∀ x ∈ p0, x.block < W.heap.size := by obtain ⟨m, hm⟩ := k0; exact DataW.trod_lt m _ _ _ hm
  have lt1 : ∀ x ∈ p1, x.block < W.heap.size := by obtain ⟨m, hm⟩ := k1; exact DataW.trod_lt m _ _ _ hm
  have lt2 : ∀ x ∈ p2, x.block < W.heap.size := by obtain ⟨m, hm⟩ := k2; exact DataW.trod_lt m _ _ _ hm
  obtain ⟨a0', len0', cap0', rfl⟩ := okWide_slice Tryd.underlying22 (hval 0 22 v0 rfl rfl)
  obtain ⟨a0, len0, cap0, z0, e0, w0⟩ : ∃ a len cap zs, Value.slice a0' len0' cap0' = .slice a len cap ∧ IntsAt W a len cap zs := by
    obtain ⟨fuel, hf⟩ := h0
    exact ints_open Tryd.underlying22 Tryd.underlying3 (by kernel_rfl) hf
  simp only [Value.slice.injEq] at e0
  obtain ⟨rfl, rfl, rfl⟩ := e0
  obtain ⟨n1, rfl, _, _, x1⟩ := open_int Tryd.underlying3 (hval 1 3 v1 rfl rfl) h1
  obtain ⟨n2, rfl, _, _, x2⟩ := open_int Tryd.underlying3 (hval 2 3 v2 rfl rfl) h2
  clear hA0 hval0
  refine (ringGiven_walk _ _ _ _ _ _ W w0).mono fun e W' ⟨he, bel⟩ => ?_
  subst he
  exact ⟨_, rfl, _, _, _, [], _, [], hW', trodAll_mk1 (shut_bool Tryd.underlying4 _), (trodAll_cons_mk (Below.trod Tryd.laidOut (by kernel_rfl) (of_decide_eq_true (by kernel_rfl)) k0 bel lt0) (trodAll_cons_mk (Below.trod Tryd.laidOut (by kernel_rfl) (of_decide_eq_true (by kernel_rfl)) k1 bel lt1) (trodAll_cons_mk (Below.trod Tryd.laidOut (by kernel_rfl) (of_decide_eq_true (by kernel_rfl)) k2 bel lt2) trodAll_mk0))), rfl, bel.frame _, fun h => by cases h⟩

theorem ringGiven_row : Rows.RingGivenSaid :=
  OpenClaim.holds_of_wide 3 Tryd.f3 rfl rfl rfl rfl rfl rfl rfl ⟨rfl, rfl, rfl, rfl, rfl⟩ rfl rfl rfl rfl rfl (by kernel_rfl) Tryd.func3 (by kernel_rfl)
    (of_decide_eq_true (by kernel_rfl)) (by unfold Func.isWrapper; first | (rw [if_pos (by decide +kernel)]; kernel_rfl) | (rw [if_neg (by decide +kernel)]; exact ⟨rfl, rfl⟩))
    (fun os started H enc _ => ringGiven_lifted os started H enc)

theorem ringGiven_holds : Rows.RingGivenCardSaid :=
  Claim7.holds_tied_plain_at .later [] [.data, .data, .data] true Rows.ringGivenCard.stood.harness false
    ringGiven_row (fun _ h => by cases h) (by kernel_rfl) (fun _ h => by cases h) ringGiven_row_tie rfl ⟨rfl, rfl⟩ (by kernel_rfl) rfl
    (fun f fn hf hfn => by
      obtain rfl : f = 3 := Option.some.inj ((show Tryd.prog.funcNamed "tiller/tillerlaw06.RingGiven" = some 3 by kernel_rfl).symm.trans hf) |>.symm
      obtain rfl : fn = Tryd.f3 := (Option.some.inj (Tryd.func3.symm.trans hfn)).symm
      exact ⟨by kernel_rfl, fun j t ht => by
        rw [Tryd.params3] at ht
        have hm : t ∈ [22, 3] := by simpa using Array.mem_of_getElem? ht
        have hall : ([22, 3].all fun u => !Tryd.prog.wantsStandIn u) = true := by kernel_rfl
        exact (show Tryd.prog.wantsStandIn t = false by simpa using List.all_eq_true.1 hall t hm)⟩)
    (by kernel_rfl)

end Go.Proofs.YtnhmdeglaoilcabDoor
