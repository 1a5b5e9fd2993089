/-
  RingMoves holds for all hosts, one of them, and all points: the law's call returns true and leaves its arguments as they were. No condition; the listed tables are tied to the program's text.
-/
import Derived.Test.YtnhmdeglaoilcaaDoorRCard
import Derived.Test.YtnhmdeglaoilcaaDoorRHosts
namespace Go.Proofs.YtnhmdeglaoilcaaDoor
open Go.ChangeShapes Go.WideShapes Go.ChangeAt Go.RowKit

/-- All but one. -/
def butOne (g : Int) (l : List Int) : List Int := l.filter (fun z => z != g)

theorem butOne_next {l : List Int} {g : Int} {k : Nat} (hk : k < l.length) : butOne g (l.take (k + 1)) = butOne g (l.take k) ++ (if l[k] = g then [] else [l[k]]) := by
  have e : l.take (k + 1) = l.take k ++ [l[k]] := by rw [List.take_add_one, List.getElem?_eq_getElem hk]; rfl
  unfold butOne
  rw [e, List.filter_append]
  congr 1
  by_cases h : l[k] = g
  · rw [if_pos h]; simp [h]
  · rw [if_neg h]; simp [h]

theorem butOne_right {l : List Int} (h : Right l) (g : Int) : Right (butOne g l) :=
  ⟨fun z hz => h.1 z (List.mem_filter.1 hz).1, h.2.sublist List.filter_sublist⟩

theorem mem_butOne {l : List Int} {g z : Int} : z ∈ butOne g l ↔ z ∈ l ∧ z ≠ g := by
  unfold butOne
  rw [List.mem_filter]
  simp

theorem butOne_some {l : List Int} (h : Right l) (h2 : 2 ≤ l.length) (g : Int) : ∃ z, z ∈ butOne g l := by
  match l, h2, h with
  | x :: y :: r, _, h =>
    have hxy : x ≠ y := fun e => by
      have := (List.nodup_cons.1 h.2).1
      rw [e] at this
      exact this (List.mem_cons_self ..)
    by_cases hx : x = g
    · exact ⟨y, mem_butOne.2 ⟨by simp, fun e => hxy (by rw [hx, e])⟩⟩
    · exact ⟨x, mem_butOne.2 ⟨by simp, hx⟩⟩

/-- What moves: only what was the one's. -/
theorem moves_pure {l : List Int} {n : Nat} {g : Int} (h : Right l) {la lb : List Sp} (pa : la.Perm (allSpots l n)) (pb : lb.Perm (allSpots (butOne g l) n)) {p : Pt} {x y : Sp} (hx : IsNext la p x) (hy : IsNext lb p y) :
    y.2 ≠ g ∧ (x.2 ≠ g → x.2 = y.2) := by
  constructor
  · obtain ⟨z, hz, k, _, e⟩ := mem_allSpots.1 (pb.mem_iff.1 hy.1)
    obtain ⟨h1, h2⟩ := mem_butOne.1 hz
    have := h.1 z h1
    rw [e]
    simp only
    omega
  · intro hg
    obtain ⟨z, hz, k, hk, e⟩ := mem_allSpots.1 (pa.mem_iff.1 hx.1)
    have hzb := h.1 z hz
    have hx2 : x.2 = z := by rw [e]; simp only; omega
    have hm : x ∈ lb := pb.mem_iff.2 (mem_allSpots.2 ⟨z, mem_butOne.2 ⟨hz, by omega⟩, k, hk, e⟩)
    have hl := hx.less (l' := lb) (fun y hy => pa.mem_iff.2 (by
      obtain ⟨z, hz, k, hk, e⟩ := mem_allSpots.1 (pb.mem_iff.1 hy)
      exact mem_allSpots.2 ⟨z, (mem_butOne.1 hz).1, k, hk, e⟩)) hm
    rw [hl.unique hy]

theorem spots_some {l : List Int} {n : Nat} (hn : 1 ≤ n) {z : Int} (hz : z ∈ l) {la : List Sp} (pa : la.Perm (allSpots l n)) : la ≠ [] := fun e => by
  have : (hostPt z.toNat 0, (z.toNat : Int)) ∈ la := pa.mem_iff.2 (mem_allSpots.2 ⟨z, hz, 0, hn, rfl⟩)
  rw [e] at this
  cases this

set_option maxRecDepth 100000 in
set_option maxHeartbeats 4000000 in
theorem ringMoves_walk (a : Option Addr) (m c : Nat) (zs : List Int) (which points : Int) (w : World) (B : IntsAt w a m c zs) :
    Calls Tryd.prog 5 #[.slice a m c, .int .i64 which, .int .i64 points] w fun e w' => e = .returned (.bool true) ∧ Below w.heap.size w w' := by
  have hW := fun V => wakes_any V
  have hH := hosts_any w a m c zs B
  obtain ⟨i0, hi, hz0, hz1, hz2⟩ := info_parts Tryd.info3
  have WP := fun V => within_nat V points 64 (by decide) (by decide)
  go_enter Tryd.func5, Tryd.ntmps5
  go_wp2_with (first
    | (go_at_call 28; refine hH.mono ?_; rintro e w1 ⟨a1, c1, l, rfl, ho, hR, hl12, K1⟩; clear hH)
    | (go_at_call 16; refine (hW _).mono ?_; rintro e w2 ⟨rfl, K2⟩)
    | (go_at_call 27; have _t := WP w; refine (WP _).mono ?_; rintro e w2 ⟨n', hn64, rfl, hw2⟩; subst w2; clear WP _t)
    | (go_at_call 27; refine (within_nat _ which l.length (by omega) (by omega)).mono ?_; rintro e w2 ⟨r, hr, rfl, hw2⟩; subst w2; obtain ⟨b1, o1, rfl, hc1⟩ := (intsOfRow ho).at hr; have x1 := hc1 r hr; have e1 : (r : Int) < (l.length : Int) := (by omega); have e2 : (0 : Int) ≤ (r : Int) := (by omega); have HC : Hid (∀ j (h : j < l.length), w1.cell? ⟨b1, o1 + j, none⟩ = some (.int .i64 (l[j]'h))) := hc1; clear hc1)
    | fail)
  · go_ret
    exact ⟨rfl, (K1.and K2).none⟩
  · have I1 := intsOfRow ho
    have hb1 := World.block_lt_of_cell? w1 _ x1
    simp only at hb1
    obtain ⟨g, hg⟩ : ∃ g, l[r] = g := ⟨_, rfl⟩
    rw [hg] at *
    have HI : Hid (IntsAt w1 (some ⟨b1, o1, none⟩) l.length c1 l) := I1
    have h2l : 2 ≤ l.length := by omega
    clear hg x1 I1 e1 e2
    go_loopw [10, 11] (fun v i wr => ∃ (k : Nat) (a2 : Option Addr) (c2 : Nat), k ≤ l.length ∧ i = .int .i64 k ∧ v = .slice a2 (butOne g (l.take k)).length c2 ∧ wr.ownsRow w1.heap.size 3 1 (.slice a2 (butOne g (l.take k)).length c2) (butOne g (l.take k)).length ((butOne g (l.take k)).map (Value.int .i64)) ∧ Kept (fun k => w1.heap.size ≤ k) w1 wr) (fun _ i _ => l.length - (intOf i).toNat)
    case atStart => exact ⟨0, none, 0, Nat.zero_le _, rfl, rfl, World.ownsRow_nil _ _ _ _, Kept.refl _ _⟩
    case round =>
      obtain ⟨k, a2, c2, hk, rfl, rfl, ho2, K2⟩ := hrel
      have hs2 := K2.size
      by_cases hlt : k < l.length
      · have e1 : (k : Int) < (l.length : Int) := by omega
        have x1 : wr.cell? ⟨b1, o1 + k, none⟩ = some (.int .i64 (l[k]'hlt)) := (World.cell?_of_block (K2.block b1 hb1 (by simpa using hb1))).trans (HC.out k hlt)
        have hnx := butOne_next (g := g) hlt
        have hfl : (butOne g (l.take k)).length ≤ 12 := by
          have h3 : (butOne g (l.take k)).length ≤ (l.take k).length := List.length_filter_le _ _
          rw [List.length_take] at h3
          omega
        by_cases hg : l[k] = g
        · rw [if_pos hg, List.append_nil] at hnx
          rw [hg] at x1
          have HN : Hid (butOne g (l.take (k + 1)) = butOne g (l.take k)) := hnx
          have e3 : (g == g) = true := by simp
          have e4 : (g != g) = false := by simp
          clear hnx hg
          go_wp2
          go_roundw
          case rel => exact ⟨k + 1, a2, c2, by omega, by go_num, by rw [HN.out], by rw [HN.out]; exact ho2, K2⟩
          case measure => simp [intOf]; omega
        · rw [if_neg hg] at hnx
          have e4 : (l[k] != g) = true := by simpa using hg
          generalize l[k] = y at *
          have HN : Hid (butOne g (l.take (k + 1)) = butOne g (l.take k) ++ [y]) := hnx
          have HE : Hid ((butOne g (l.take k) ++ [y]).length = (butOne g (l.take k)).length + 1) := by show _ = _; simp
          have HM : Hid ((butOne g (l.take k) ++ [y]).map (Value.int .i64) = (butOne g (l.take k)).map (Value.int .i64) ++ [.int .i64 y]) := by show _ = _; simp
          clear hnx hg
          go_wp2_with (first
            | (at_builtin; refine wpList_append_src _ rfl _ _ 36 rfl w1.heap.size 3 i0 _ 1 8 Tryd.underlying36 hi hz0 hz1 hz2 rfl (by decide) (.slice a2 (butOne g (l.take k)).length c2) (butOne g (l.take k)).length _ rfl (ho2.alloc _) _ rfl 1 [.int .i64 y] (.inl ⟨_, 1, rfl, rfl, World.news_of_block (heap_alloc_new _ _)⟩) (by simp [Value.oneCell']) (by unfold maxLen; omega) (by omega) (by simp; omega) ?_; intro a3 cap3 w3 ho3 hg3 _ hl3)
            | fail)
          go_roundw
          case rel => exact ⟨k + 1, a3, cap3, by omega, by go_num, by rw [HN.out, HE.out], by rw [HN.out, HE.out, HM.out]; exact ho3, (K2.and (Kept.alloc _ _ _)).and (Kept.grown hg3 (fun k e => (ho2.lt k e).1))⟩
          case measure => simp [intOf]; omega
      · have e1 : ¬ (k : Int) < (l.length : Int) := by omega
        have hkl : l.take k = l := List.take_of_length_le (by omega)
        rw [hkl] at ho2 ⊢
        have K12 : Kept (fun _ => False) w1 wr := (Kept.refl (fun _ => False) w1).trans K2 (fun _ h => .inr h)
        have N1 := new_any wr _ _ _ _ (HI.out.kept K12 (fun _ _ _ h => h)) (1 + (n' : Int))
        have I2 := intsOfRow ho2
        have HI2 : Hid (IntsAt wr a2 (butOne g l).length c2 (butOne g l)) := I2
        have hR2 := butOne_right hR g
        have hp : (1 : Int) ≤ 1 + (n' : Int) ∧ 1 + (n' : Int) ≤ 64 := by omega
        have hpn : (1 + (n' : Int)).toNat = n' + 1 := by omega
        clear I2 hkl
        go_wp2_with (first
          | (go_at_call 17; have _t := N1; refine N1.mono ?_; rintro e w3 ⟨K3, (⟨hw, _⟩ | ⟨_, ra, la, rfl, hpa, hsa, Ra⟩)⟩; (exact absurd ⟨hR, hp.1, hp.2⟩ hw); have N2 := new_any w3 _ _ _ _ (HI2.out.kept K3 (fun _ _ _ h => h)) (1 + (n' : Int)); clear N1 _t)
          | (go_at_call 17; refine N2.mono ?_; rintro e w4 ⟨K4, (⟨hw, _⟩ | ⟨_, rb, lb, rfl, hpb, hsb, Rb⟩)⟩; (exact absurd ⟨hR2, hp.1, hp.2⟩ hw); clear N2)
          | fail)
        rw [hpn] at hpa hpb
        have HA : Hid (RingAt w4 ra la) := Ra.kept K4
        have HB : Hid (RingAt w4 rb lb) := Rb
        obtain ⟨zb, hzb⟩ := butOne_some hR h2l g
        have hna := spots_some (Nat.le_add_left 1 n') (mem_butOne.1 hzb).1 hpa
        have hnb := spots_some (Nat.le_add_left 1 n') hzb hpb
        clear Ra Rb hzb
        go_loopw [16] (fun i wr' => ∃ (s : Nat), s ≤ 16 ∧ i = .int .i64 s ∧ Kept (fun _ => False) w4 wr') (fun i _ => 16 - (intOf i).toNat)
        case atStart => exact ⟨0, by decide, rfl, Kept.refl _ _⟩
        case round =>
          obtain ⟨s, hs16, rfl, K5⟩ := hrel
          by_cases hs : s < 16
          · have H1 := hostSmall_any _ ra la (HA.out.kept K5) hsa s (by omega)
            have e5 : (s : Int) < 16 := by omega
            go_wp2_with (first
              | (go_at_call 22; have _t := H1; refine H1.mono ?_; rintro e w6 ⟨K6, (⟨hl, _⟩ | ⟨x, hx, rfl⟩)⟩; (exact absurd hl hna); have H2 := hostSmall_any _ rb lb (HB.out.kept (K5.and K6)) hsb s (by omega); clear H1 _t)
              | (go_at_call 22; refine H2.mono ?_; rintro e w7 ⟨K7, (⟨hl, _⟩ | ⟨y, hy, rfl⟩)⟩; (exact absurd hl hnb); obtain ⟨g1, g2⟩ := moves_pure hR hpa hpb hx hy; have q1 : (y.2 == g) = false := (by simpa using g1); have q2 : x.2 = g ∨ ¬ x.2 = g ∧ x.2 = y.2 := (by by_cases h : x.2 = g; exact .inl h; exact .inr ⟨h, g2 h⟩); rcases q2 with q2 | ⟨q2, q3⟩; clear H2 g1 g2)
              | fail)
            all_goals
              go_roundw
              case rel => exact ⟨s + 1, by omega, by go_num, (K5.and K6).and K7⟩
              case measure => simp [intOf]; omega
          · have e5 : ¬ (s : Int) < 16 := by omega
            go_wp2_with (first
              | (go_at_call 16; refine (hW _).mono ?_; rintro e w6 ⟨rfl, K6⟩)
              | fail)
            go_ret
            exact ⟨rfl, (((((K1.and K12).and K3).and K4).and K5).and K6).none⟩

set_option maxRecDepth 100000 in
theorem ringMoves_lifted (os : Os) (started : os.Started) (H : Type) (enc : TypeId × Value → H) :
    ReturnsInHanded {} Tryd.checked os 5 .any (fun w args => (Rows.ringMovesSpec.pre enc Tryd.prog Tryd.f5 [] false w args ∧ laidMetH Tryd.prog laidL w) ∧ sizedMet enc Tryd.prog Tryd.f5 (OpenSpec.ofChange Rows.ringMovesSpec) false w args)
      (Rows.ringMovesSpec.post enc Tryd.prog Tryd.f5 false true false false) := by
  refine returnsInHanded_of_change_and (C := Tryd.checked) (X := fun w _ => laidMetH Tryd.prog laidL w) (fun _ _ _ hh h => h.of_heap hh) Tryd.own started (by kernel_rfl) Tryd.func5
    (ChangeSpec.witness_shaped (enc := enc) (C := Tryd.checked) (os := os) (X := fun w _ => laidMetH Tryd.prog laidL w) false (World.doorLaid Tryd.prog 24 os) #[.slice none 0 0, .int .i64 0, .int .i64 0] 8 rfl (World.shaped_of_RefB (by kernel_rfl) (by kernel_rfl)) (by kernel_rfl) (by kernel_rfl) (by kernel_rfl) (door_met os _)) ?_
  intro W base args ds gs before hval0 hW _ _ hL _
  have hval : ∀ (j : Nat) t v, Tryd.f5.params[j]? = some t → args[j]? = some v → Value.okWide Tryd.prog W .any base t v := hval0
  have hW' := hW
  obtain ⟨p, q, hA0, hV, rfl, _, _⟩ := hW
  have hA : DataW.TrodAll enc Tryd.prog W 0 (fun _ => true) true Tryd.f5.params.toList args.toList ds p := hA0
  rw [Tryd.params5] at hA hval
  obtain ⟨v0, vs0, d0, ds0, p0, q0, hargs, rfl, rfl, h0, r0⟩ := trodAll_cons hA
  obtain ⟨v1, vs1, d1, ds1, p1, q1, rfl, rfl, rfl, h1, r1⟩ := trodAll_cons r0
  obtain ⟨v2, vs2, d2, ds2, p2, q2, rfl, rfl, rfl, h2, r2⟩ := trodAll_cons r1
  obtain ⟨rfl, rfl, rfl⟩ := trodAll_nil r2
  obtain rfl : args = #[v0, v1, v2] := by cases args; simp_all
  obtain ⟨rfl, rfl⟩ := trodVars_none hV
  have k0 := h0
  have k1 := h1
  have k2 := h2
  have lt0 : ∀ x ∈ p0, x.block < W.heap.size := by obtain ⟨m, hm⟩ := k0; exact DataW.trod_lt m _ _ _ hm
  have lt1 : ∀ x ∈ p1, x.block < W.heap.size := by obtain ⟨m, hm⟩ := k1; exact DataW.trod_lt m _ _ _ hm
  have lt2 : ∀ x ∈ p2, x.block < W.heap.size := by obtain ⟨m, hm⟩ := k2; exact DataW.trod_lt m _ _ _ hm
  obtain ⟨a0', len0', cap0', rfl⟩ := okWide_slice Tryd.underlying36 (hval 0 36 v0 rfl rfl)
  obtain ⟨a0, len0, cap0, z0, e0, w0⟩ : ∃ a len cap zs, Value.slice a0' len0' cap0' = .slice a len cap ∧ IntsAt W a len cap zs := by
    obtain ⟨fuel, hf⟩ := h0
    exact ints_open Tryd.underlying36 Tryd.underlying3 (by kernel_rfl) hf
  simp only [Value.slice.injEq] at e0
  obtain ⟨rfl, rfl, rfl⟩ := e0
  obtain ⟨n1, rfl, _, _, x1⟩ := open_int Tryd.underlying3 (hval 1 3 v1 rfl rfl) h1
  obtain ⟨n2, rfl, _, _, x2⟩ := open_int Tryd.underlying3 (hval 2 3 v2 rfl rfl) h2
  clear hA0 hval0
  refine (ringMoves_walk _ _ _ _ _ _ W w0).mono fun e W' ⟨he, bel⟩ => ?_
  subst he
  exact ⟨_, rfl, _, _, _, [], _, [], hW', trodAll_mk1 (shut_bool Tryd.underlying4 _), (trodAll_cons_mk (Below.trod Tryd.laidOut (by kernel_rfl) (of_decide_eq_true (by kernel_rfl)) k0 bel lt0) (trodAll_cons_mk (Below.trod Tryd.laidOut (by kernel_rfl) (of_decide_eq_true (by kernel_rfl)) k1 bel lt1) (trodAll_cons_mk (Below.trod Tryd.laidOut (by kernel_rfl) (of_decide_eq_true (by kernel_rfl)) k2 bel lt2) trodAll_mk0))), rfl, bel.frame _, fun h => by cases h⟩

theorem ringMoves_row : Rows.RingMovesSaid :=
  OpenClaim.holds_of_wide 5 Tryd.f5 rfl rfl rfl rfl rfl rfl rfl ⟨rfl, rfl, rfl, rfl, rfl⟩ rfl rfl rfl rfl rfl (by kernel_rfl) Tryd.func5 (by kernel_rfl)
    (of_decide_eq_true (by kernel_rfl)) (by unfold Func.isWrapper; first | (rw [if_pos (by decide +kernel)]; kernel_rfl) | (rw [if_neg (by decide +kernel)]; exact ⟨rfl, rfl⟩))
    (fun os started H enc _ => ringMoves_lifted os started H enc)

theorem ringMoves_holds : Rows.RingMovesCardSaid :=
  Claim7.holds_tied_plain_at .later [] [.data, .data, .data] true Rows.ringMovesCard.stood.harness false
    ringMoves_row (fun _ h => by cases h) (by kernel_rfl) (fun _ h => by cases h) ringMoves_row_tie rfl ⟨rfl, rfl⟩ (by kernel_rfl) rfl
    (fun f fn hf hfn => by
      obtain rfl : f = 5 := Option.some.inj ((show Tryd.prog.funcNamed "tiller/tillerlaw06.RingMoves" = some 5 by kernel_rfl).symm.trans hf) |>.symm
      obtain rfl : fn = Tryd.f5 := (Option.some.inj (Tryd.func5.symm.trans hfn)).symm
      exact ⟨by kernel_rfl, fun j t ht => by
        rw [Tryd.params5] at ht
        have hm : t ∈ [36, 3] := by simpa using Array.mem_of_getElem? ht
        have hall : ([36, 3].all fun u => !Tryd.prog.wantsStandIn u) = true := by kernel_rfl
        exact (show Tryd.prog.wantsStandIn t = false by simpa using List.all_eq_true.1 hall t hm)⟩)
    (by kernel_rfl)

end Go.Proofs.YtnhmdeglaoilcaaDoor
