/-
  FrontObject, walked: bodies are read, and their fields told, as the document does. For every list of texts and of names, and every stop.
-/
import Derived.Test.YtfogkbdbncfleaaGreatDoorFObJ
import Derived.Test.YtfogkbdbncfleaaGreatDoorFStrs
import Derived.BigQuiet
import Derived.Deep.QuietTactic
namespace Go.Proofs.YtfogkbdbncfleaaGreatDoor
open Go.ChangeShapes Go.WideShapes Go.ChangeAt Go.RowKit Go.Deep Go.Shelf Go.Sort
attribute [local go_sem] Oper.semAt_some

theorem cellKept {w w' : World} (K : Kept (fun _ => False) w w') {b o : Nat} {v : Value} (h : w.cell? ⟨b, o, none⟩ = some v) : w'.cell? ⟨b, o, none⟩ = some v :=
  (World.cell?_of_block (K.block b (World.block_lt_of_cell? w _ h) (fun h => h))).trans h

theorem run_equal_func {P : Program} (w : World) (t : TypeId) {x y z} (f : Fn) (a c : Array Value) (h : P.underlying t = some (.func x y z)) : (Op.equal t (.func f a c) .nilFunc).run P w = .ok false w := by
  show (Op.equalIn (9999 + 1) t _ _).run P w = _
  unfold Op.equalIn
  simp [Sem.run_bind, run_underlying, h, Result.andThen, go_sem]

theorem eql_func (W : World) (p : Value) : (binOp BinOp.eql 34 (.func (.func 38) #[] #[p]) .nilFunc).run Tryz.prog W = .ok (.bool false) W := by
  have h := run_equal_func W 34 (.func 38) #[] #[p] Tryz.underlying34
  simp [binOp, go_sem, h, Result.andThen]

theorem names_all (ps : List Pr) (kl : List UInt8) (a3 a4 : Option Addr) (c3 c4 : Nat) (hm : ps.length ≤ 1000000) (hV : ∀ p ∈ ps, ValT p.2) (hl : ∀ v, fieldP ps kl = some v → v.length ≤ 1000000000) :
    ∃ (fv : ByteArray) (fb : Bool) (iv : Int) (ib : Bool) (tv : ByteArray) (tb : Bool),
    (∀ V, PairsAt V a3 ps → Calls Tryz.prog 11 #[.slice a3 ps.length c3, .string (mkB kl)] V fun e w' => e = .returned (.tuple #[.string fv, .bool fb]) ∧ Kept (fun _ => False) V w') ∧
    (∀ V, PairsAt V a4 ps → Calls Tryz.prog 12 #[.slice a4 ps.length c4, .string (mkB kl)] V fun e w' => e = .returned (.tuple #[.string fv, .bool fb]) ∧ w' = V) ∧
    (∀ V, PairsAt V a3 ps → ErrAt V → Calls Tryz.prog 13 #[.slice a3 ps.length c3, .string (mkB kl)] V fun e w' => e = .returned (.tuple #[.int .i64 iv, .bool ib]) ∧ Kept (fun _ => False) V w') ∧
    (∀ V, PairsAt V a4 ps → Calls Tryz.prog 14 #[.slice a4 ps.length c4, .string (mkB kl)] V fun e w' => e = .returned (.tuple #[.int .i64 iv, .bool ib]) ∧ w' = V) ∧
    (∀ V, PairsAt V a3 ps → Calls Tryz.prog 15 #[.slice a3 ps.length c3, .string (mkB kl)] V fun e w' => e = .returned (.tuple #[.string tv, .bool tb]) ∧ Kept (fun _ => False) V w') ∧
    (∀ V, PairsAt V a4 ps → Calls Tryz.prog 16 #[.slice a4 ps.length c4, .string (mkB kl)] V fun e w' => e = .returned (.tuple #[.string tv, .bool tb]) ∧ w' = V) :=
  ⟨_, _, _, _, _, _, fun V P => field_any V a3 c3 ps kl P hm, fun V P => rfield_any V a4 c4 ps kl P hm, fun V P E => int_any V a3 c3 ps kl P hm hV hl E, fun V P => rint_of V a4 c4 ps kl P hm hV, fun V P => text_any V a3 c3 ps kl P hm, fun V P => rtext_of V a4 c4 ps kl P hm hV hl⟩

set_option maxRecDepth 100000 in
set_option maxHeartbeats 16000000 in
theorem frontObject_walk (w : World) (a : Option Addr) (len cap : Nat) (S : Nat → ByteArray) (a2 : Option Addr) (len2 cap2 : Nat) (S2 : Nat → ByteArray) (stop : Int) (hS : StrsAt w a len S) (hS2 : StrsAt w a2 len2 S2) (T : Utf8At w) (M : MaxAt w) (E : ErrAt w) :
    Calls Tryz.prog 3 #[.slice a len cap, .slice a2 len2 cap2, .int .i64 stop] w fun e w' => e = .returned (.bool true) ∧ Below w.heap.size w w' := by
  refine (callsIn_wide (n := 9)).1 ?_
  refine callsIn_of_wp_marks Tryz.func3 rfl trivial ?_ rfl
  simp only [Tryz.ntmps3, List.size_toArray, List.length_cons, List.length_nil, Nat.reduceAdd, Nat.reduceSub, Array.replicate_succ, Array.replicate_zero, List.push_toArray, List.append_toArray, List.nil_append, List.cons_append]
  refine wpIn_wide.2 ?_
  have HT := hid T
  have HM := hid M
  have HE := hid E
  have HS := hid hS
  have HS2 := hid hS2
  clear T M E hS hS2
  go_wp2
  obtain ⟨n0, n1, hXs, KX⟩ := two_new w (.cells #[.int .i64 stop] 3) (.cells #[.bool false] 4) rfl
  generalize hX : ((w.alloc (.cells #[.int .i64 stop] 3)).alloc (.cells #[.bool false] 4)) = X at *
  clear hX
  have HB0 : Hid (FoB w X stop false) := (⟨n0, n1, KX.mono (fun _ h => h.elim)⟩ : FoB w X stop false)
  clear n0 n1 hXs KX
  refine wp_loop (foI w a len cap a2 len2 cap2 stop) (fun a' _ => len - (intOf (a'.tmps.getD 7 undef)).toNat) ?_ ?_
  · exact foI_of (k := 0) (ms := []) rfl (Nat.zero_le _) HB0.out ⟨List.nodup_nil, (fun m hm => by cases hm), (fun m hm => by cases hm)⟩
  · clear HB0
    rintro a' v0 ⟨k, u, ms, rfl, hk, B, MK⟩
    unfold foA
    have HB := hid B
    have HMK := hid MK
    have KW := B.base
    clear B MK
    by_cases hlt : k < len ∧ k < 12
    · obtain ⟨h1, h2⟩ := hlt
      have e1 : (k : Int) < (len : Int) := by omega
      have e2 : (k : Int) < 12 := by omega
      rcases HS.out.kept KW with h0 | ⟨b, o, rfl, hcell⟩
      · omega
      obtain ⟨c0, hsz⟩ := hcell k h1
      obtain ⟨l, hl, hSh⟩ := short_any v0 (S k) hsz
      have hO := obj_pairs v0 (mkB l) (by rw [mkB_size]; omega) (HT.out.kept KW)
      have HRO := hid (fun V => robj_pairs V (mkB l) (by rw [mkB_size]; omega))
      have HVT := hid (objP_valT (mkB l)).1
      have hpl := (objP_valT (mkB l)).2
      have HFL : Hid (∀ kk v, fieldP (objP (mkB l)).1 kk = some v → v.length ≤ 1000000000) := fun kk v h => by
        have := field_len h
        rw [mkB_size] at this
        omega
      have hsb : (mkB l).size ≤ 1000000000000 := by rw [mkB_size]; omega
      obtain ⟨ps, hps⟩ : ∃ ps, (objP (mkB l)).1 = ps := ⟨_, rfl⟩
      have HPS := hid hps
      rw [hps] at hO HRO HVT hpl HFL
      generalize (((objP (mkB l)).2.1 : Nat) : Int) = pl at *
      generalize (objP (mkB l)).2.2 = er at *
      clear hps hcell hsz hl
      generalize mkB l = sb at *
      generalize S k = sk at *
      have z5 : (pl != pl) = false := by simp
      have z6 : (er != er) = false := by simp
      go_wp2_with (first
        | (go_at_call 7; refine hSh.mono ?_; rintro e w1 ⟨rfl, hw1⟩; subst w1; clear hSh)
        | (go_at_call 8; refine hO.mono ?_; rintro e w2 ⟨a3, c3, rfl, P3, K3⟩; clear hO; have HP3 := hid P3; have HK3 := hid K3; clear P3 K3)
        | (go_at_call 9; refine (HRO.out _).mono ?_; rintro e w3 ⟨a4, c4, rfl, P4, K4⟩; have KA := Kept.alloc (fun _ => False) w3 (.cells #[.slice a4 ps.length c4] 24); have hPs := pairs_same (w3.alloc (.cells #[.slice a4 ps.length c4] 24)) a3 a4 c3 c4 ps (HP3.out.kept (K4.and KA)) (P4.kept KA) (by omega); have HP4 := hid P4; have HK4 := hid K4; have HKA := hid KA; clear P4 K4 KA)
        | (go_at_call 10; refine hPs.mono ?_; rintro e w5 ⟨rfl, K5⟩; clear hPs)
        | fail)
      have HK := hid (((HK3.out.and HK4.out).and HKA.out).and K5)
      have HP3 := hid (HP3.out.kept ((HK4.out.and HKA.out).and K5))
      have HP4 := hid (HP4.out.kept (HKA.out.and K5))
      have Hbb : Hid (w5.cell? ⟨w3.heap.size, 0, none⟩ = some (.slice a4 ps.length c4)) := cellKept K5 (by unfold World.cell?; rw [heap_alloc_new]; rfl)
      clear HK3 HK4 HKA K5 HRO c0
      generalize w3.heap.size = bb at *
      go_loopw [15] (fun i W => ∃ (q : Nat), q ≤ len2 ∧ i = .int .i64 (q : Int) ∧ Kept (fun _ => False) w5 W) (fun i _ => len2 - (intOf i).toNat)
      case atStart => exact ⟨0, Nat.zero_le _, rfl, Kept.refl _ _⟩
      case round =>
        obtain ⟨q, hq, rfl, KV⟩ := hrel
        have HKV := hid KV
        clear KV
        by_cases hlt2 : q < len2 ∧ q < 8
        · obtain ⟨g1, g2⟩ := hlt2
          have e3 : (q : Int) < (len2 : Int) := by omega
          have e4 : (q : Int) < 8 := by omega
          rcases HS2.out.kept ((KW.and HK.out).and HKV.out) with h0 | ⟨b2, o2, rfl, hcell2⟩
          · omega
          obtain ⟨d0, _⟩ := hcell2 q g1
          obtain ⟨kl, hkl⟩ : ∃ kl, S2 q = mkB kl := ⟨(S2 q).data.toList, rfl⟩
          rw [hkl] at d0
          have HC : Hid (∀ V, Kept (fun _ => False) wr V → V.cell? ⟨b2, o2 + q, none⟩ = some (.string (mkB kl)) ∧ V.cell? ⟨bb, 0, none⟩ = some (.slice a4 ps.length c4)) := fun V K => ⟨cellKept K d0, cellKept (HKV.out.and K) Hbb.out⟩
          obtain ⟨fv, fb, iv, ib, tv, tb, hF, hRF, hI, hRI, hTx, hRT⟩ := names_all ps kl a3 a4 c3 c4 (by omega) HVT.out (HFL.out kl)
          have HI := hid (fun V (K : Kept (fun _ => False) wr V) => hI V (HP3.out.kept (HKV.out.and K)) (HE.out.kept (((KW.and HK.out).and HKV.out).and K)))
          have HTx := hid (fun V (K : Kept (fun _ => False) wr V) => hTx V (HP3.out.kept (HKV.out.and K)))
          have HRF := hid (fun V (K : Kept (fun _ => False) wr V) (m : Nat) => hRF (V.drewN m) (HP4.out.kept (HKV.out.and (K.and (Kept.drewN _ _ _)))))
          have HRI := hid (fun V (K : Kept (fun _ => False) wr V) (m : Nat) => hRI (V.drewN m) (HP4.out.kept (HKV.out.and (K.and (Kept.drewN _ _ _)))))
          have HRT := hid (fun V (K : Kept (fun _ => False) wr V) (m : Nat) => hRT (V.drewN m) (HP4.out.kept (HKV.out.and (K.and (Kept.drewN _ _ _)))))
          have hF0 := hF wr (HP3.out.kept HKV.out)
          clear hcell2 hkl hF hRF hI hRI hTx hRT
          generalize mkB kl = kn at *
          have z1 : (fv.toList == fv.toList) = true := by simp
          have z2 : (tv.toList == tv.toList) = true := by simp
          have z3 : (fb != fb) = false := by simp
          have z4 : (iv != iv) = false := by simp
          have z7 : (ib != ib) = false := by simp
          have z8 : (tb != tb) = false := by simp
          go_wp2_with (first
            | (go_at_call 11; refine hF0.mono ?_; rintro e w7 ⟨rfl, K7⟩; clear hF0; have HK7 := hid K7; clear K7; have d1 := HC.out _ HK7.out; obtain ⟨d2, d3⟩ := d1)
            | fail)
          have hR7 := HRF.out _ HK7.out
          go_quiet ((go_at_call 12; exact Calls.quiet_of_same (hR7 _)))
          clear hR7 d2 d3 d0
          have HK8 := hid (HK7.out.and (Kept.drewN (fun _ => False) w7 nq))
          generalize w7.drewN nq = w8 at *
          have hI8 := HI.out _ HK8.out
          obtain ⟨d4, d5⟩ := HC.out _ HK8.out
          go_wp2_with (first
            | (go_at_call 13; refine hI8.mono ?_; rintro e w9 ⟨rfl, K9⟩; clear hI8; have HK9 := hid (HK8.out.and K9); clear K9 d4 d5; have d1 := HC.out _ HK9.out; obtain ⟨d2, d3⟩ := d1)
            | fail)
          have hR9 := HRI.out _ HK9.out
          go_quiet ((go_at_call 14; exact Calls.quiet_of_same (hR9 _)))
          clear hR9 d2 d3
          have HK10 := hid (HK9.out.and (Kept.drewN (fun _ => False) w9 nq))
          generalize w9.drewN nq = w10 at *
          have hT10 := HTx.out _ HK10.out
          obtain ⟨d4, d5⟩ := HC.out _ HK10.out
          go_wp2_with (first
            | (go_at_call 15; refine hT10.mono ?_; rintro e w11 ⟨rfl, K11⟩; clear hT10; have HK11 := hid (HK10.out.and K11); clear K11 d4 d5; have d1 := HC.out _ HK11.out; obtain ⟨d2, d3⟩ := d1)
            | fail)
          have hR11 := HRT.out _ HK11.out
          go_quiet ((go_at_call 16; exact Calls.quiet_of_same (hR11 _)))
          clear hR11 d2 d3
          have HK12 := hid (HK11.out.and (Kept.drewN (fun _ => False) w11 nq))
          generalize w11.drewN nq = w12 at *
          go_wp2
          go_roundw
          case rel => exact ⟨q + 1, by omega, by go_num, HKV.out.and HK12.out⟩
          case measure => simp [intOf]; omega
        · have e3 : (q : Int) < (len2 : Int) ∨ ¬ (q : Int) < (len2 : Int) := by omega
          rcases e3 with e3 | e3
          · have e4 : ¬ (q : Int) < 8 := by omega
            clear hlt2
            obtain ⟨sv, hsv⟩ : ∃ sv, stop % 16 = sv := ⟨_, rfl⟩
            have hs0 : 0 ≤ sv := by rw [← hsv]; exact Int.emod_nonneg stop (show (16 : Int) ≠ 0 by decide)
            have hs1 : sv < 16 := by rw [← hsv]; exact Int.emod_lt_of_pos stop (show (0 : Int) < 16 by decide)
            have HWi : Hid (∀ W, Calls Tryz.prog 18 #[.int .i64 stop, .int .i64 16] W fun e w' => e = .returned (.int .i64 sv) ∧ w' = W) := fun W => by
              have h := within_any W stop 16 (by decide) (by decide)
              rw [hsv] at h
              exact h
            clear hsv
            have HBV := hid (HB.out.kept (HK.out.and HKV.out))
            have HMV := hid (HMK.out.kept (HK.out.and HKV.out))
            have HP4V := hid (HP4.out.kept HKV.out)
            have HbbV := hid (cellKept HKV.out Hbb.out)
            have HTV := hid (HT.out.kept HBV.out.base)
            have HWW := hid HBV.out.base.size
            clear HKV
            have hef := eql_func
            go_wp2_with (first
              | (go_at_call 17; refine (fields_any _ sb).mono ?_; rintro e w21 ⟨rfl, hw21⟩; subst w21)
              | fail)
            obtain ⟨n0, n1, hXs, KX⟩ := two_new wr (.cells #[.int .i64 0] 3) (.cells #[.string sb] 9) rfl
            generalize hX : (wr.alloc (.cells #[.int .i64 0] 3)).alloc (.cells #[.string sb] 9) = X2 at *
            clear hX
            refine (wpIn_wide (n := 9)).1 ?_
            refine range_of rfl (by omega) (gf := 38) (lb := #[.pointer (some ⟨wr.heap.size + 1, 0, none⟩)]) (by rfl) trivial (enters_of Tryz.func38 (by kernel_rfl) rfl) ?_
            intro r hfn hst0 hpend htm hpa has hbo
            have hreq : ({ r with state := .ready, pending := none } : Loop) = r := by
              cases r
              simp only [] at hst0 hpend
              subst hst0 hpend
              rfl
            have K0 : Kept (fun _ => False) X2 ((X2.alloc (.deferred (some []))).alloc (.loop r)) := (Kept.alloc _ _ _).and (Kept.alloc _ _ _)
            have hlt0 : ∀ k o, X2.heap[k]? = some o → ((X2.alloc (.deferred (some []))).alloc (.loop r)).heap[k]? = some o := fun k o h => (K0.block k (Array.getElem?_eq_some_iff.1 h).1 (fun h => h)).trans h
            have J0 : FoJ wr ((X2.alloc (.deferred (some []))).alloc (.loop r)) r 0 := by
              refine ⟨hlt0 _ _ n0, ?_, ?_, KX.and K0⟩
              · rw [Below.heap_alloc _ _ _ (by simp; omega), ← hXs, heap_alloc_new]
              · have h := heap_alloc_new (X2.alloc (.deferred (some []))) (.loop r)
                rw [World.size_alloc, hXs] at h
                exact h
            have hkb : ((X2.alloc (.deferred (some []))).alloc (.loop r)).cell? ⟨wr.heap.size + 1, 0, none⟩ = some (.string sb) := by unfold World.cell?; rw [hlt0 _ _ n1]; rfl
            have hsz4 : ((X2.alloc (.deferred (some []))).alloc (.loop r)).heap.size = wr.heap.size + 4 := by rw [World.size_alloc, World.size_alloc, hXs]
            rw [hXs]
            refine (fields_in 8 (wr.heap.size + 2 + 1) (wr.heap.size + 1) sb ps HPS.out (fun k W => FoJ wr W r k) (fun W => FoJ wr W { r with state := .done, pending := some (.exit 4) } (sv + 1).toNat ∧ (sv + 1).toNat ≤ ps.length) _ (fun k A B h K => FoJ.keep h K) ?_ hkb hsb (HTV.out.kept (KX.and K0)) J0).mono ?_
            · rw [hsz4]
              intro q x W1 J hx
              have hqL : q < ps.length := (List.getElem?_eq_some_iff.1 hx).1
              have hxe : ps[q] = x := (List.getElem?_eq_some_iff.1 hx).2
              refine yield_brk (id := 4) (W2 := W1) (a1 := ?a1L) J.lp hst0 htm hpa has hbo rfl hfn J.lp ?hA ?hB
              case hA =>
                intro K hK
                gi_wp2
                exact hK
              case hB =>
                have J1 := FoJ.put J { r with state := .busy }
                have HKR : Hid (Kept (fun j => j < wr.heap.size + 4) W1 (W1.putObj (wr.heap.size + 2 + 1) (.loop { r with state := .busy }))) := Kept.putObj _ _ _ (show wr.heap.size + 2 + 1 < wr.heap.size + 4 by omega)
                have HREQ := hid hreq
                change FoJ wr (W1.putObj (wr.heap.size + 2 + 1) (.loop { r with state := .busy })) _ _ at J1
                clear htm hpa has hbo hst0 hpend hreq J J0 hsz4 hkb hlt0 K0 KX n0 n1
                generalize W1.putObj (wr.heap.size + 2 + 1) (.loop { r with state := .busy }) = W2 at *
                have HJ1 := hid J1
                have xb := cellKept J1.K HbbV.out
                have xn := J1.cells.1
                have xf := J1.cells.2
                rcases HP4V.out.kept J1.K with h9 | ⟨b4, o4, rfl, hcells⟩
                · rw [h9] at hqL; simp at hqL
                obtain ⟨x0, x1⟩ := hcells q hqL
                rw [hxe] at x0 x1
                have ge1 : ¬ ((q : Int) ≥ (ps.length : Int)) := by omega
                have ge2 : (q : Int) < (ps.length : Int) := by omega
                have hw1 : IntKind.i64.wrap ((q : Int) + 1) = (q : Int) + 1 := by rw [IntKind.wrap_i64]; omega
                clear hcells J1 hxe hx
                generalize mkB x.1 = y1 at *
                generalize mkB x.2 = y2 at *
                have z1 : (y1.toList == y1.toList) = true := by simp
                have z2 : (y2.toList == y2.toList) = true := by simp
                gi_wp2_with fail
                have J2 : FoJ wr (W2.setCell ⟨wr.heap.size, 0, none⟩ (.int .i64 ((q : Int) + 1))) { r with state := .busy } (q + 1) := by
                  have h := HJ1.out.set (q + 1)
                  push_cast at h
                  exact h
                have HKV2 : Hid (Kept (fun j => j < wr.heap.size + 4) W1 (W2.setCell ⟨wr.heap.size, 0, none⟩ (.int .i64 ((q : Int) + 1)))) := HKR.out.and (Kept.setCell _ _ _ (show wr.heap.size < wr.heap.size + 4 by omega))
                clear xn xf xb x0 x1 HJ1 HKR
                generalize W2.setCell ⟨wr.heap.size, 0, none⟩ (.int .i64 ((q : Int) + 1)) = V at *
                have y16 : V.cell? ⟨wr.heap.size, 0, none⟩ = some (.int .i64 ((q : Int) + 1)) := by have h := J2.cells.1; push_cast at h; exact h
                obtain ⟨_, _, ts⟩ := (HBV.out.kept J2.K).cells
                have hWi := HWi.out
                have HJ2 := hid J2
                clear J2
                have hw : IntKind.i64.wrap (1 + sv) = 1 + sv := by rw [IntKind.wrap_i64]; omega
                by_cases hend : (q : Int) = sv
                · have e8 : ((q : Int) + 1 == 1 + sv) = true := by simp; omega
                  have hqn : (sv + 1).toNat = q + 1 := by omega
                  refine region_round rfl (by kernel_rfl) (by kernel_rfl) (by kernel_rfl) ?_
                  iterate 2 (gi_big_quiet_step (fail))
                  refine BigFrame.wpQuietIn_want (fun _ _ _ _ => trivial) rfl (fun K hK => ?_)
                  gi_big_quiet_op
                  apply Exists.intro
                  refine ⟨fun _ => ?_, ?_⟩
                  · exact callsIn_wide.2 (Calls.quiet_of_same (hWi _))
                  refine hK _ ?_
                  clear hK K
                  repeat (gi_big_quiet_step (fail))
                  refine wpQuietIn_nil ?_
                  rintro _ ⟨nr, rfl⟩
                  gi_wp2
                  have J3 := HJ2.out.keep (Kept.drewN (fun _ => False) V nr)
                  exact ⟨J3.lp, J3.put _, by omega⟩
                · have e8 : ((q : Int) + 1 == 1 + sv) = false := by simp; omega
                  refine region_round rfl (by kernel_rfl) (by kernel_rfl) (by kernel_rfl) ?_
                  iterate 2 (gi_big_quiet_step (fail))
                  refine BigFrame.wpQuietIn_want (fun _ _ _ _ => trivial) rfl (fun K hK => ?_)
                  gi_big_quiet_op
                  apply Exists.intro
                  refine ⟨fun _ => ?_, ?_⟩
                  · exact callsIn_wide.2 (Calls.quiet_of_same (hWi _))
                  refine hK _ ?_
                  clear hK K
                  repeat (gi_big_quiet_step (fail))
                  refine wpQuietIn_nil ?_
                  rintro _ ⟨nr, rfl⟩
                  gi_wp2
                  have J3 := HJ2.out.keep (Kept.drewN (fun _ => False) V nr)
                  rw [HREQ.out]
                  have KR := (HKV2.out.and ((Kept.drewN (fun _ => False) V nr).mono (fun _ h => h.elim))).and (Kept.putObj (S := fun j => j < wr.heap.size + 4) (V.drewN nr) (wr.heap.size + 2 + 1) (.loop r) (show wr.heap.size + 2 + 1 < wr.heap.size + 4 by omega))
                  exact ⟨J3.lp, J3.put r, (by first | exact KR.size | exact HKV2.out.size | simpa [World.putObj] using KR.size), fun g h1 h2 => KR.block g h2 (by omega)⟩
            · rintro e W ⟨⟨v1, rfl⟩, J | ⟨X, hqx⟩⟩
              · refine ⟨⟨_, rfl⟩, r, J.lp, by rw [hst0]; decide, .inl ⟨hpend, ?_⟩⟩
                have JE := FoJ.put J { r with state := .exhausted }
                change FoJ wr (W.putObj (wr.heap.size + 2 + 1) (.loop { r with state := .exhausted })) _ _ at JE
                generalize W.putObj (wr.heap.size + 2 + 1) (.loop { r with state := .exhausted }) = W2 at *
                have xb := cellKept JE.K HbbV.out
                have xn := JE.cells.1
                have z3 : ((ps.length : Int) != (ps.length : Int)) = false := by simp
                clear J J0 K0 htm hpa has hbo hst0 hpend hreq hlt0 hkb hsz4 KX n0 n1 hfn
                go_wp2
                go_quiet (fail)
                have JE := JE.keep (Kept.drewN (fun _ => False) W2 nq)
                have KE := JE.K
                go_wp2
                have hk1 : (k : Int) + 1 = ((k + 1 : Nat) : Int) := by omega
                rw [hk1]
                refine ⟨foI_of (k := k + 1) (ms := (wr.heap.size + 2) :: ms) rfl (by omega) (HBV.out.kept KE) (MarksAt.more HMV.out JE HWW.out), ?_⟩
                simp [intOf]
                omega
              · refine ⟨⟨_, rfl⟩, _, X.lp, by simp, .inr ⟨.exit 4, rfl, ?_⟩⟩
                have JE := FoJ.put X { r with state := .exhausted, pending := some (.exit 4) }
                change FoJ wr (W.putObj (wr.heap.size + 2 + 1) (.loop { r with state := .exhausted, pending := some (.exit 4) })) _ _ at JE
                generalize W.putObj (wr.heap.size + 2 + 1) (.loop { r with state := .exhausted, pending := some (.exit 4) }) = W2 at *
                have xb := cellKept JE.K HbbV.out
                have xn := JE.cells.1
                obtain ⟨_, _, ts⟩ := (HBV.out.kept JE.K).cells
                have hWi := HWi.out
                clear X J0 K0 htm hpa has hbo hst0 hpend hreq hlt0 hkb hsz4 KX n0 n1 hfn
                have hc1 : ((sv + 1).toNat : Int) = sv + 1 := by omega
                have hw : IntKind.i64.wrap (1 + sv) = sv + 1 := by rw [IntKind.wrap_i64]; omega
                rw [hc1] at xn
                by_cases hqe : sv + 1 = (ps.length : Int)
                · have z3 : (sv + 1 != (ps.length : Int)) = false := by rw [hqe]; simp
                  clear hqe
                  gi_wp2
                  go_wp2
                  go_quiet (fail)
                  have JE := JE.keep (Kept.drewN (fun _ => False) W2 nq)
                  have KE := JE.K
                  go_wp2
                  have hk1 : (k : Int) + 1 = ((k + 1 : Nat) : Int) := by omega
                  rw [hk1]
                  refine ⟨foI_of (k := k + 1) (ms := (wr.heap.size + 2) :: ms) rfl (by omega) (HBV.out.kept KE) (MarksAt.more HMV.out JE HWW.out), ?_⟩
                  simp [intOf]
                  omega
                · have z3 : (sv + 1 != (ps.length : Int)) = true := bne_iff_ne.2 hqe
                  have z4 : (sv + 1 != sv + 1) = false := by simp
                  clear hqe
                  gi_wp2
                  go_wp2
                  go_quiet ((go_at_call 18; exact Calls.quiet_of_same (hWi _)))
                  have JE := JE.keep (Kept.drewN (fun _ => False) W2 nq)
                  have KE := JE.K
                  go_wp2
                  have hk1 : (k : Int) + 1 = ((k + 1 : Nat) : Int) := by omega
                  rw [hk1]
                  refine ⟨foI_of (k := k + 1) (ms := (wr.heap.size + 2) :: ms) rfl (by omega) (HBV.out.kept KE) (MarksAt.more HMV.out JE HWW.out), ?_⟩
                  simp [intOf]
                  omega
          · clear hlt2
            obtain ⟨sv, hsv⟩ : ∃ sv, stop % 16 = sv := ⟨_, rfl⟩
            have hs0 : 0 ≤ sv := by rw [← hsv]; exact Int.emod_nonneg stop (show (16 : Int) ≠ 0 by decide)
            have hs1 : sv < 16 := by rw [← hsv]; exact Int.emod_lt_of_pos stop (show (0 : Int) < 16 by decide)
            have HWi : Hid (∀ W, Calls Tryz.prog 18 #[.int .i64 stop, .int .i64 16] W fun e w' => e = .returned (.int .i64 sv) ∧ w' = W) := fun W => by
              have h := within_any W stop 16 (by decide) (by decide)
              rw [hsv] at h
              exact h
            clear hsv
            have HBV := hid (HB.out.kept (HK.out.and HKV.out))
            have HMV := hid (HMK.out.kept (HK.out.and HKV.out))
            have HP4V := hid (HP4.out.kept HKV.out)
            have HbbV := hid (cellKept HKV.out Hbb.out)
            have HTV := hid (HT.out.kept HBV.out.base)
            have HWW := hid HBV.out.base.size
            clear HKV
            have hef := eql_func
            go_wp2_with (first
              | (go_at_call 17; refine (fields_any _ sb).mono ?_; rintro e w21 ⟨rfl, hw21⟩; subst w21)
              | fail)
            obtain ⟨n0, n1, hXs, KX⟩ := two_new wr (.cells #[.int .i64 0] 3) (.cells #[.string sb] 9) rfl
            generalize hX : (wr.alloc (.cells #[.int .i64 0] 3)).alloc (.cells #[.string sb] 9) = X2 at *
            clear hX
            refine (wpIn_wide (n := 9)).1 ?_
            refine range_of rfl (by omega) (gf := 38) (lb := #[.pointer (some ⟨wr.heap.size + 1, 0, none⟩)]) (by rfl) trivial (enters_of Tryz.func38 (by kernel_rfl) rfl) ?_
            intro r hfn hst0 hpend htm hpa has hbo
            have hreq : ({ r with state := .ready, pending := none } : Loop) = r := by
              cases r
              simp only [] at hst0 hpend
              subst hst0 hpend
              rfl
            have K0 : Kept (fun _ => False) X2 ((X2.alloc (.deferred (some []))).alloc (.loop r)) := (Kept.alloc _ _ _).and (Kept.alloc _ _ _)
            have hlt0 : ∀ k o, X2.heap[k]? = some o → ((X2.alloc (.deferred (some []))).alloc (.loop r)).heap[k]? = some o := fun k o h => (K0.block k (Array.getElem?_eq_some_iff.1 h).1 (fun h => h)).trans h
            have J0 : FoJ wr ((X2.alloc (.deferred (some []))).alloc (.loop r)) r 0 := by
              refine ⟨hlt0 _ _ n0, ?_, ?_, KX.and K0⟩
              · rw [Below.heap_alloc _ _ _ (by simp; omega), ← hXs, heap_alloc_new]
              · have h := heap_alloc_new (X2.alloc (.deferred (some []))) (.loop r)
                rw [World.size_alloc, hXs] at h
                exact h
            have hkb : ((X2.alloc (.deferred (some []))).alloc (.loop r)).cell? ⟨wr.heap.size + 1, 0, none⟩ = some (.string sb) := by unfold World.cell?; rw [hlt0 _ _ n1]; rfl
            have hsz4 : ((X2.alloc (.deferred (some []))).alloc (.loop r)).heap.size = wr.heap.size + 4 := by rw [World.size_alloc, World.size_alloc, hXs]
            rw [hXs]
            refine (fields_in 8 (wr.heap.size + 2 + 1) (wr.heap.size + 1) sb ps HPS.out (fun k W => FoJ wr W r k) (fun W => FoJ wr W { r with state := .done, pending := some (.exit 4) } (sv + 1).toNat ∧ (sv + 1).toNat ≤ ps.length) _ (fun k A B h K => FoJ.keep h K) ?_ hkb hsb (HTV.out.kept (KX.and K0)) J0).mono ?_
            · rw [hsz4]
              intro q x W1 J hx
              have hqL : q < ps.length := (List.getElem?_eq_some_iff.1 hx).1
              have hxe : ps[q] = x := (List.getElem?_eq_some_iff.1 hx).2
              refine yield_brk (id := 4) (W2 := W1) (a1 := ?a2L) J.lp hst0 htm hpa has hbo rfl hfn J.lp ?hA ?hB
              case hA =>
                intro K hK
                gi_wp2
                exact hK
              case hB =>
                have J1 := FoJ.put J { r with state := .busy }
                have HKR : Hid (Kept (fun j => j < wr.heap.size + 4) W1 (W1.putObj (wr.heap.size + 2 + 1) (.loop { r with state := .busy }))) := Kept.putObj _ _ _ (show wr.heap.size + 2 + 1 < wr.heap.size + 4 by omega)
                have HREQ := hid hreq
                change FoJ wr (W1.putObj (wr.heap.size + 2 + 1) (.loop { r with state := .busy })) _ _ at J1
                clear htm hpa has hbo hst0 hpend hreq J J0 hsz4 hkb hlt0 K0 KX n0 n1
                generalize W1.putObj (wr.heap.size + 2 + 1) (.loop { r with state := .busy }) = W2 at *
                have HJ1 := hid J1
                have xb := cellKept J1.K HbbV.out
                have xn := J1.cells.1
                have xf := J1.cells.2
                rcases HP4V.out.kept J1.K with h9 | ⟨b4, o4, rfl, hcells⟩
                · rw [h9] at hqL; simp at hqL
                obtain ⟨x0, x1⟩ := hcells q hqL
                rw [hxe] at x0 x1
                have ge1 : ¬ ((q : Int) ≥ (ps.length : Int)) := by omega
                have ge2 : (q : Int) < (ps.length : Int) := by omega
                have hw1 : IntKind.i64.wrap ((q : Int) + 1) = (q : Int) + 1 := by rw [IntKind.wrap_i64]; omega
                clear hcells J1 hxe hx
                generalize mkB x.1 = y1 at *
                generalize mkB x.2 = y2 at *
                have z1 : (y1.toList == y1.toList) = true := by simp
                have z2 : (y2.toList == y2.toList) = true := by simp
                gi_wp2_with fail
                have J2 : FoJ wr (W2.setCell ⟨wr.heap.size, 0, none⟩ (.int .i64 ((q : Int) + 1))) { r with state := .busy } (q + 1) := by
                  have h := HJ1.out.set (q + 1)
                  push_cast at h
                  exact h
                have HKV2 : Hid (Kept (fun j => j < wr.heap.size + 4) W1 (W2.setCell ⟨wr.heap.size, 0, none⟩ (.int .i64 ((q : Int) + 1)))) := HKR.out.and (Kept.setCell _ _ _ (show wr.heap.size < wr.heap.size + 4 by omega))
                clear xn xf xb x0 x1 HJ1 HKR
                generalize W2.setCell ⟨wr.heap.size, 0, none⟩ (.int .i64 ((q : Int) + 1)) = V at *
                have y16 : V.cell? ⟨wr.heap.size, 0, none⟩ = some (.int .i64 ((q : Int) + 1)) := by have h := J2.cells.1; push_cast at h; exact h
                obtain ⟨_, _, ts⟩ := (HBV.out.kept J2.K).cells
                have hWi := HWi.out
                have HJ2 := hid J2
                clear J2
                have hw : IntKind.i64.wrap (1 + sv) = 1 + sv := by rw [IntKind.wrap_i64]; omega
                by_cases hend : (q : Int) = sv
                · have e8 : ((q : Int) + 1 == 1 + sv) = true := by simp; omega
                  have hqn : (sv + 1).toNat = q + 1 := by omega
                  refine region_round rfl (by kernel_rfl) (by kernel_rfl) (by kernel_rfl) ?_
                  iterate 2 (gi_big_quiet_step (fail))
                  refine BigFrame.wpQuietIn_want (fun _ _ _ _ => trivial) rfl (fun K hK => ?_)
                  gi_big_quiet_op
                  apply Exists.intro
                  refine ⟨fun _ => ?_, ?_⟩
                  · exact callsIn_wide.2 (Calls.quiet_of_same (hWi _))
                  refine hK _ ?_
                  clear hK K
                  repeat (gi_big_quiet_step (fail))
                  refine wpQuietIn_nil ?_
                  rintro _ ⟨nr, rfl⟩
                  gi_wp2
                  have J3 := HJ2.out.keep (Kept.drewN (fun _ => False) V nr)
                  exact ⟨J3.lp, J3.put _, by omega⟩
                · have e8 : ((q : Int) + 1 == 1 + sv) = false := by simp; omega
                  refine region_round rfl (by kernel_rfl) (by kernel_rfl) (by kernel_rfl) ?_
                  iterate 2 (gi_big_quiet_step (fail))
                  refine BigFrame.wpQuietIn_want (fun _ _ _ _ => trivial) rfl (fun K hK => ?_)
                  gi_big_quiet_op
                  apply Exists.intro
                  refine ⟨fun _ => ?_, ?_⟩
                  · exact callsIn_wide.2 (Calls.quiet_of_same (hWi _))
                  refine hK _ ?_
                  clear hK K
                  repeat (gi_big_quiet_step (fail))
                  refine wpQuietIn_nil ?_
                  rintro _ ⟨nr, rfl⟩
                  gi_wp2
                  have J3 := HJ2.out.keep (Kept.drewN (fun _ => False) V nr)
                  rw [HREQ.out]
                  have KR := (HKV2.out.and ((Kept.drewN (fun _ => False) V nr).mono (fun _ h => h.elim))).and (Kept.putObj (S := fun j => j < wr.heap.size + 4) (V.drewN nr) (wr.heap.size + 2 + 1) (.loop r) (show wr.heap.size + 2 + 1 < wr.heap.size + 4 by omega))
                  exact ⟨J3.lp, J3.put r, (by first | exact KR.size | exact HKV2.out.size | simpa [World.putObj] using KR.size), fun g h1 h2 => KR.block g h2 (by omega)⟩
            · rintro e W ⟨⟨v1, rfl⟩, J | ⟨X, hqx⟩⟩
              · refine ⟨⟨_, rfl⟩, r, J.lp, by rw [hst0]; decide, .inl ⟨hpend, ?_⟩⟩
                have JE := FoJ.put J { r with state := .exhausted }
                change FoJ wr (W.putObj (wr.heap.size + 2 + 1) (.loop { r with state := .exhausted })) _ _ at JE
                generalize W.putObj (wr.heap.size + 2 + 1) (.loop { r with state := .exhausted }) = W2 at *
                have xb := cellKept JE.K HbbV.out
                have xn := JE.cells.1
                have z3 : ((ps.length : Int) != (ps.length : Int)) = false := by simp
                clear J J0 K0 htm hpa has hbo hst0 hpend hreq hlt0 hkb hsz4 KX n0 n1 hfn
                go_wp2
                go_quiet (fail)
                have JE := JE.keep (Kept.drewN (fun _ => False) W2 nq)
                have KE := JE.K
                go_wp2
                have hk1 : (k : Int) + 1 = ((k + 1 : Nat) : Int) := by omega
                rw [hk1]
                refine ⟨foI_of (k := k + 1) (ms := (wr.heap.size + 2) :: ms) rfl (by omega) (HBV.out.kept KE) (MarksAt.more HMV.out JE HWW.out), ?_⟩
                simp [intOf]
                omega
              · refine ⟨⟨_, rfl⟩, _, X.lp, by simp, .inr ⟨.exit 4, rfl, ?_⟩⟩
                have JE := FoJ.put X { r with state := .exhausted, pending := some (.exit 4) }
                change FoJ wr (W.putObj (wr.heap.size + 2 + 1) (.loop { r with state := .exhausted, pending := some (.exit 4) })) _ _ at JE
                generalize W.putObj (wr.heap.size + 2 + 1) (.loop { r with state := .exhausted, pending := some (.exit 4) }) = W2 at *
                have xb := cellKept JE.K HbbV.out
                have xn := JE.cells.1
                obtain ⟨_, _, ts⟩ := (HBV.out.kept JE.K).cells
                have hWi := HWi.out
                clear X J0 K0 htm hpa has hbo hst0 hpend hreq hlt0 hkb hsz4 KX n0 n1 hfn
                have hc1 : ((sv + 1).toNat : Int) = sv + 1 := by omega
                have hw : IntKind.i64.wrap (1 + sv) = sv + 1 := by rw [IntKind.wrap_i64]; omega
                rw [hc1] at xn
                by_cases hqe : sv + 1 = (ps.length : Int)
                · have z3 : (sv + 1 != (ps.length : Int)) = false := by rw [hqe]; simp
                  clear hqe
                  gi_wp2
                  go_wp2
                  go_quiet (fail)
                  have JE := JE.keep (Kept.drewN (fun _ => False) W2 nq)
                  have KE := JE.K
                  go_wp2
                  have hk1 : (k : Int) + 1 = ((k + 1 : Nat) : Int) := by omega
                  rw [hk1]
                  refine ⟨foI_of (k := k + 1) (ms := (wr.heap.size + 2) :: ms) rfl (by omega) (HBV.out.kept KE) (MarksAt.more HMV.out JE HWW.out), ?_⟩
                  simp [intOf]
                  omega
                · have z3 : (sv + 1 != (ps.length : Int)) = true := bne_iff_ne.2 hqe
                  have z4 : (sv + 1 != sv + 1) = false := by simp
                  clear hqe
                  gi_wp2
                  go_wp2
                  go_quiet ((go_at_call 18; exact Calls.quiet_of_same (hWi _)))
                  have JE := JE.keep (Kept.drewN (fun _ => False) W2 nq)
                  have KE := JE.K
                  go_wp2
                  have hk1 : (k : Int) + 1 = ((k + 1 : Nat) : Int) := by omega
                  rw [hk1]
                  refine ⟨foI_of (k := k + 1) (ms := (wr.heap.size + 2) :: ms) rfl (by omega) (HBV.out.kept KE) (MarksAt.more HMV.out JE HWW.out), ?_⟩
                  simp [intOf]
                  omega
    · have e1 : (k : Int) < (len : Int) ∨ ¬ (k : Int) < (len : Int) := by omega
      have hWk := wakes_any v0 (HT.out.kept KW) (HM.out.kept KW)
      rcases e1 with e1 | e1
      · have e2 : ¬ (k : Int) < 12 := by omega
        go_wp2_with (first
          | (go_at_call 19; refine hWk.mono ?_; rintro e w5 ⟨rfl, K5⟩; clear hWk; have hb5 := (HB.out.kept K5).cells; obtain ⟨r5, f5, _⟩ := hb5)
          | fail)
        exact fo_leaves ((HB.out.kept K5).set true) ((HMK.out.kept K5).set (HB.out.kept K5) true) (fun W' h => by simp [results, Tryz.f3, go_sem, h])
      · go_wp2_with (first
          | (go_at_call 19; refine hWk.mono ?_; rintro e w5 ⟨rfl, K5⟩; clear hWk; have hb5 := (HB.out.kept K5).cells; obtain ⟨r5, f5, _⟩ := hb5)
          | fail)
        exact fo_leaves ((HB.out.kept K5).set true) ((HMK.out.kept K5).set (HB.out.kept K5) true) (fun W' h => by simp [results, Tryz.f3, go_sem, h])

end Go.Proofs.YtfogkbdbncfleaaGreatDoor
