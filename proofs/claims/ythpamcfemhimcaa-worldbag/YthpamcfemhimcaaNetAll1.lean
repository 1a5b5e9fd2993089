/-
  What the program's net hands back, ranged over by rounds that are told the parcels.
-/
import Derived.Test.YthpamcfemhimcaaNetAll
namespace Go.Proofs.Ythpamcfemhimcaa
open Go.RowKit Go.Shelf
attribute [local go_sem] Oper.semAt_some

theorem heap_putObj_same {W : World} {l : Nat} (o : Obj) (h : l < W.heap.size) : (W.putObj l o).heap[l]? = some o := by
  simp [World.putObj, h]

set_option maxRecDepth 100000 in
set_option maxHeartbeats 2000000 in
theorem nAll_in (n : Nat) (hn4 : 4 ≤ n) (l kb d : Nat) (most : Int) (S M : Nat → Prop) (v : Value) (ps : List PV) (J : Nat → World → Prop) (Jx : World → Prop) (W : World) (N : NetW most W S d v ps) (hM : ∀ b, M b → b < W.heap.size ∧ ¬ S b)
    (hJ : ∀ k A B, J k A → Kept (fun b => W.heap.size ≤ b) A B → J k B) (hJx : ∀ A B, Jx A → Kept (fun b => W.heap.size ≤ b) A B → Jx B)
    (hY : ∀ (k : Nat) (p : PV) (a : Option Addr) (c : Nat) (W1 : World), J k W1 → ps[k]? = some p → W1.ownsRow W.heap.size 5 1 (.slice a p.bs.length c) p.bs.length (p.bs.map (Value.int .u8)) → YieldAt Fence.wide n Try.prog l #[.int .i64 (k : Int), .agg #[.int .i64 p.fr, .int .i64 p.to, .slice a p.bs.length c]] W1 fun e W' => ((e = .returned (.bool true) ∧ J (k + 1) W') ∨ (e = .returned (.bool false) ∧ Jx W')) ∧ Kept M W1 W')
    (hk : W.cell? ⟨kb, 0, none⟩ = some (.pointer (some ⟨d, 0, none⟩))) (h0 : J 0 W) :
    CallsIn Fence.wide n Try.prog 31 #[.func (.yield l) #[] #[], .pointer (some ⟨kb, 0, none⟩)] W fun e W' => (∃ v, e = .returned v) ∧ (J ps.length W' ∨ Jx W') := by
  have hn : 1 ≤ n := by omega
  have hn1 : 1 ≤ n - 1 := by omega
  have hn2 : 1 ≤ n - 1 - 1 := by omega
  have KB : Kept (fun _ => False) W (W.alloc (.cells #[.func (.yield l) #[] #[]] 56)) := Kept.alloc _ _ _
  have N0 := N.keptN KB
  obtain ⟨x0, _⟩ := N0.w0
  obtain ⟨aV, cV, rfl, _⟩ := N.shape
  have hkl := World.block_lt_of_cell? W _ hk
  have hk0 : (W.alloc (.cells #[.func (.yield l) #[] #[]] 56)).cell? ⟨kb, 0, none⟩ = some (.pointer (some ⟨d, 0, none⟩)) := (World.cell?_of_block (KB.block kb hkl (fun h => h))).trans hk
  have hC := cloneRow_any _ _ ps N0.row (netCells_one N.ok) N.few
  refine callsIn_of_wp_marks Try.func31 rfl trivial ?_ rfl
  simp only [Try.ntmps31, List.size_toArray, List.length_cons, List.length_nil, Nat.reduceAdd, Nat.reduceSub, Array.replicate_succ, Array.replicate_zero, List.push_toArray, List.append_toArray, List.nil_append, List.cons_append]
  gi_wp2_with (first
    | (refine ⟨trivial, ?_⟩; gi_at_call 33; refine (callsIn_wide.2 hC).mono ?_; rintro e w1 ⟨a1, c1, rfl, ho1, K1⟩; clear hC)
    | (refine ⟨trivial, ?_⟩; gi_at_call 32; refine (callsIn_wide.2 (slAll_any _ _ _ _)).mono ?_; rintro e w2 ⟨rfl, hw2⟩)
    | fail)
  subst hw2
  have hz0 : (W.alloc (.cells #[.func (.yield l) #[] #[]] 56)).heap.size = W.heap.size + 1 := by simp
  rw [hz0] at ho1
  have K1z := K1.size
  rw [hz0] at K1z
  -- the world where the loop begins
  have K2 : Kept (fun _ => False) W (w1.alloc (.cells #[.slice a1 ps.length c1] 39)) := (KB.and K1).and (Kept.alloc _ _ _)
  have hB2 : (w1.alloc (.cells #[.slice a1 ps.length c1] 39)).heap[W.heap.size]? = some (.cells #[.func (.yield l) #[] #[]] 56 (0, 0)) :=
    ((K1.and (Kept.alloc _ _ _)).block _ (by omega) (fun h => h)).trans (heap_alloc_new W _)
  have hkb2 : (w1.alloc (.cells #[.slice a1 ps.length c1] 39)).heap[w1.heap.size]? = some (.cells #[.slice a1 ps.length c1] 39 (0, 0)) := heap_alloc_new w1 _
  have hrow2 := ho1.alloc (.cells #[.slice a1 ps.length c1] 39)
  have hw2z : (w1.alloc (.cells #[.slice a1 ps.length c1] 39)).heap.size = w1.heap.size + 1 := by simp
  generalize hw2 : w1.alloc (.cells #[.slice a1 ps.length c1] 39) = w2 at *
  clear hw2 K1 hk0 x0 N0 KB
  refine range_of rfl hn (gf := 42) (lb := #[.pointer (some ⟨w1.heap.size, 0, none⟩)]) rfl trivial (enters_of Try.func42 (by kernel_rfl) rfl) ?_
  intro r hfn hst hpend htm hpa has hbo
  have hreq : ({ r with state := .ready, pending := none } : Loop) = r := by
    cases r
    simp only [] at hst hpend
    subst hst hpend
    rfl
  have K3 : Kept (fun _ => False) w2 ((w2.alloc (.deferred (some []))).alloc (.loop r)) := (Kept.alloc _ _ _).and (Kept.alloc _ _ _)
  have hL3 : ((w2.alloc (.deferred (some []))).alloc (.loop r)).heap[w2.heap.size + 1]? = some (.loop r) := (heap_two w2 _ _).2
  have hD3 : ((w2.alloc (.deferred (some []))).alloc (.loop r)).heap[w2.heap.size]? = some (.deferred (some [])) := (heap_two w2 _ _).1
  have hz3 : ((w2.alloc (.deferred (some []))).alloc (.loop r)).heap.size = w2.heap.size + 2 := by simp
  generalize hW3 : (w2.alloc (.deferred (some []))).alloc (.loop r) = W3 at *
  have K03 : Kept (fun b => W.heap.size ≤ b) W W3 := (K2.and K3).mono (fun _ h => h.elim)
  have nM : ∀ b, W.heap.size ≤ b → ¬ M b := fun b hb h => by have := (hM b h).1; omega
  refine (slAll_in (n - 1) (w2.heap.size + 1) w1.heap.size a1 c1 (W.heap.size + 1) ps (fun k V => J k V ∧ Kept M W3 V) (fun V => Jx V ∧ Kept (fun b => M b ∨ b = w2.heap.size + 1) W3 V ∧ V.heap[w2.heap.size + 1]? = some (.loop { r with state := .done, pending := some .ret })) W3 (fun k A B h K => ⟨hJ k A B h.1 (K.mono (fun _ h => h.elim)), h.2.and (K.mono (fun _ h => h.elim))⟩) ?_ ?_ ?_ ?_ N.few ⟨hJ 0 W W3 h0 K03, Kept.refl _ _⟩).mono ?_
  · rintro k p V ⟨hJk, KV⟩ hp
    have hVl : V.heap[w2.heap.size + 1]? = some (.loop r) := (KV.block _ (by omega) (nM _ (by omega))).trans hL3
    have hpm := List.mem_of_getElem? hp
    have okp := (N.ok p hpm).kept K03 (fun b hb => by have := N.bnd b (N.sp p hpm b hb); omega)
    have okV := okp.kept KV (fun b hb h => (hM b h).2 (N.sp p hpm b hb))
    obtain ⟨av, cv, ev⟩ := ownsRow_shape okV.row
    have hrv := okV.row
    have hyo := hY k p
    rw [ev] at hrv ⊢
    have hVz := KV.size
    have hVlt := (Array.getElem?_eq_some_iff.1 hVl).1
    refine yield_gen (a1 := ?a1L) (W2 := V.alloc (.cells #[.int .i64 p.fr, .int .i64 p.to, .slice av p.bs.length cv] 29)) hVl hst htm hpa has hbo rfl hfn ((Below.heap_alloc _ _ _ hVlt).trans hVl) ?hA ?hB
    case hA =>
      intro K hK
      gi_wp2
      exact hK
    case hB =>
      have HREQ : Hid _ := hreq
      clear htm hpa has hbo hst hpend hreq
      have hyt : ∀ (a2 : Option Addr) (c2 : Nat) (V2 : World), J k V2 → V2.ownsRow W.heap.size 5 1 (.slice a2 p.bs.length c2) p.bs.length (p.bs.map (Value.int .u8)) → YieldAt Fence.wide (n - 1 - 1) Try.prog l #[.int .i64 (k : Int), .agg #[.int .i64 p.fr, .int .i64 p.to, .slice a2 p.bs.length c2]] V2 fun e W' => ∃ t, e = .returned (.bool t) ∧ Hid ((t = true → J (k + 1) W') ∧ (t = false → Jx W') ∧ Kept M V2 W') := by
        intro a2 c2 V2 hJ2 ho2
        refine (YieldAt.wide (hyo a2 c2 V2 hJ2 hp ho2)).mono ?_
        rintro e W' ⟨⟨rfl, h⟩ | ⟨rfl, h⟩, K⟩
        · exact ⟨true, rfl, fun _ => h, fun e => (by cases e), K⟩
        · exact ⟨false, rfl, fun e => (by cases e), fun _ => h, K⟩
      have KA : Kept (fun _ => False) V (V.alloc (.cells #[.int .i64 p.fr, .int .i64 p.to, .slice av p.bs.length cv] 29)) := Kept.alloc _ _ _
      have hzA : (V.alloc (.cells #[.int .i64 p.fr, .int .i64 p.to, .slice av p.bs.length cv] 29)).heap.size = V.heap.size + 1 := by simp
      have KP : Kept (fun b => b = w2.heap.size + 1) (V.alloc (.cells #[.int .i64 p.fr, .int .i64 p.to, .slice av p.bs.length cv] 29)) ((V.alloc (.cells #[.int .i64 p.fr, .int .i64 p.to, .slice av p.bs.length cv] 29)).putObj (w2.heap.size + 1) (.loop { r with state := .busy })) := Kept.putObj _ _ _ rfl
      have K1V : Kept (fun b => b = w2.heap.size + 1) V ((V.alloc (.cells #[.int .i64 p.fr, .int .i64 p.to, .slice av p.bs.length cv] 29)).putObj (w2.heap.size + 1) (.loop { r with state := .busy })) := (KA.mono (fun _ h => h.elim)).and KP
      have hl1 := heap_putObj_same (W := V.alloc (.cells #[.int .i64 p.fr, .int .i64 p.to, .slice av p.bs.length cv] 29)) (l := w2.heap.size + 1) (.loop { r with state := .busy }) (by rw [hzA]; omega)
      have hb1 := (KP.block V.heap.size (by rw [hzA]; omega) (fun e => by have e' : V.heap.size = w2.heap.size + 1 := e; omega)).trans (heap_alloc_new V _)
      have hBV : V.heap[W.heap.size]? = some (.cells #[.func (.yield l) #[] #[]] 56 (0, 0)) := (KV.block _ (by omega) (nM _ (Nat.le_refl _))).trans ((K3.block _ (by omega) (fun h => h)).trans hB2)
      have hB1 := (K1V.block W.heap.size (by omega) (fun e => by have e' : W.heap.size = w2.heap.size + 1 := e; omega)).trans hBV
      have ok1 : PvOk ((V.alloc (.cells #[.int .i64 p.fr, .int .i64 p.to, .slice av p.bs.length cv] 29)).putObj (w2.heap.size + 1) (.loop { r with state := .busy })) p := okV.kept K1V (fun b hb e => by
        have := N.bnd b (N.sp p hpm b hb)
        have e' : b = w2.heap.size + 1 := e
        have := K2.size
        omega)
      generalize hV1 : (V.alloc (.cells #[.int .i64 p.fr, .int .i64 p.to, .slice av p.bs.length cv] 29)).putObj (w2.heap.size + 1) (.loop { r with state := .busy }) = V1 at *
      obtain ⟨y0, y1, y2, _⟩ := three hb1
      have yB : V1.cell? ⟨W.heap.size, 0, none⟩ = some (.func (.yield l) #[] #[]) := by simp [World.cell?, hB1]
      have hr1 := ok1.row
      rw [ev] at hr1
      have KD := Kept.drew (fun _ => False) V1
      have hC := copiedW_any V1.drew p.fr p.to av _ cv p.bs ((BytesAt.ofRow hr1 okV.byte).kept KD (fun _ _ _ h => h)) (by have := okV.short; omega)
      have hV1z := K1V.size
      have hJ1 : J k V1.drew := hJ k V _ hJk ((K1V.mono (fun b e => by have e' : b = w2.heap.size + 1 := e; have := K2.size; omega)).and (Kept.drew _ _))
      have hC2 := fun (V2 : World) (a2 : Option Addr) (c2 : Nat) (K2 : Kept (fun _ => False) V1.drew V2) (ho2 : V2.ownsRow V1.drew.heap.size 5 1 (.slice a2 p.bs.length c2) p.bs.length (p.bs.map (Value.int .u8))) => hyt a2 c2 V2 (hJ k _ _ hJ1 (K2.mono (fun _ h => h.elim))) (ownsRow_low ho2 (by have := K03.size; simp; omega))
      have hcB := fun (V2 : World) (K2 : Kept (fun _ => False) V1.drew V2) => (show V2.cell? ⟨W.heap.size, 0, none⟩ = some (.func (.yield l) #[] #[]) from (World.cell?_of_block (K2.block _ (by simp; omega) (fun h => h))).trans yB)
      have fin : ∀ (V2 V3 : World) (t : Bool), Kept (fun _ => False) V1.drew V2 → Hid ((t = true → J (k + 1) V3) ∧ (t = false → Jx V3) ∧ Kept M V2 V3) →
          V3.heap[w2.heap.size + 1]? = some (.loop { r with state := .busy }) ∧
          (t = true → (J (k + 1) (V3.putObj (w2.heap.size + 1) (.loop r)) ∧ Kept M W3 (V3.putObj (w2.heap.size + 1) (.loop r))) ∧ V.heap.size ≤ (V3.putObj (w2.heap.size + 1) (.loop r)).heap.size ∧ ∀ b, (Value.slice a1 ps.length c1).ownBlock = some b → (V3.putObj (w2.heap.size + 1) (.loop r)).heap[b]? = V.heap[b]?) ∧
          (t = false → Jx (V3.putObj (w2.heap.size + 1) (.loop { r with state := .done, pending := some .ret })) ∧ Kept (fun b => M b ∨ b = w2.heap.size + 1) W3 (V3.putObj (w2.heap.size + 1) (.loop { r with state := .done, pending := some .ret })) ∧ (V3.putObj (w2.heap.size + 1) (.loop { r with state := .done, pending := some .ret })).heap[w2.heap.size + 1]? = some (.loop { r with state := .done, pending := some .ret })) := by
        intro V2 V3 t K4 hT
        obtain ⟨hT1, hT2, KC⟩ := hT.out
        have K13 : Kept M V1 V3 := ((KD.and K4).mono (fun _ h => h.elim)).and KC
        have hl2M : ¬ M (w2.heap.size + 1) := nM _ (by have := K2.size; omega)
        have hl1z := (Array.getElem?_eq_some_iff.1 hl1).1
        have hl3 := (K13.block _ hl1z hl2M).trans hl1
        have hl3z := (Array.getElem?_eq_some_iff.1 hl3).1
        have KV3 : Kept (fun b => M b ∨ b = w2.heap.size + 1) V V3 := (K1V.mono (fun _ h => .inr h)).and (K13.mono (fun _ h => .inl h))
        have KL : ∀ o, Kept (fun b => M b ∨ b = w2.heap.size + 1) V (V3.putObj (w2.heap.size + 1) o) := fun o => KV3.and (Kept.putObj _ _ _ (.inr rfl))
        have KW : ∀ o, Kept (fun b => M b ∨ b = w2.heap.size + 1) W3 (V3.putObj (w2.heap.size + 1) o) := fun o => (KV.mono (fun _ h => .inl h)).and (KL o)
        have hst : ∀ o, Kept (fun b => W.heap.size ≤ b) V3 (V3.putObj (w2.heap.size + 1) o) := fun o => Kept.putObj _ _ _ (by have := K2.size; omega)
        refine ⟨hl3, fun e => ⟨⟨hJ _ _ _ (hT1 e) (hst _), ?_⟩, (KL _).size, fun b hb => ?_⟩, fun e => ⟨hJx _ _ (hT2 e) (hst _), KW _, heap_putObj_same _ hl3z⟩⟩
        · have K := KW (.loop r)
          refine ⟨K.os, K.tape, K.output, K.size, fun b hb hn => ?_⟩
          by_cases hbl : b = w2.heap.size + 1
          · rw [hbl, heap_putObj_same _ hl3z, hL3]
          · exact K.block b hb (fun h => h.elim hn hbl)
        · have hlt := hrow2.lt b hb
          refine (KL _).block b (by omega) (fun h => ?_)
          rcases h with h | h
          · exact nM b (by omega) h
          · omega
      have HFin : Hid _ := fin
      have HC2 : Hid _ := hC2
      have HCB : Hid _ := hcB
      have hmix : Try.prog.follows .mixedOrders = true := by kernel_rfl
      have HZ : Hid (w2.heap.size = w1.heap.size + 1) := hw2z
      have HZ3 : Hid (W3.heap.size = w2.heap.size + 2) := hz3
      clear fin hC2 hcB hyt hyo ok1 okV okp hr1 hrv hb1 hBV KA KP hzA hB1 hJ1 hY hw2z hz3
      gi_wp2_with fail
      gi_region_with_o (first
        | (refine ⟨trivial, ?_⟩; gi_at_call 27; refine (CallsIn.inRound (w2.heap.size + 1) (callsIn_wide.2 hC)).mono ?_; rintro e V2 ⟨a2, c2, rfl, ho2, K4⟩; have yB2 := HCB.out V2 K4; obtain ⟨fn, tmps, assign, body, hy, hR⟩ := HC2.out V2 a2 c2 K4 ho2; clear hC)
        | (refine RoundIn.mono (F := Fence.wide.inRound (w2.heap.size + 1)) hR ?_; rintro e V3 ⟨t, rfl, hT⟩)
        | fail)
      all_goals
        obtain ⟨hl3, hft, hff⟩ := HFin.out V2 V3 t K4 hT
        clear hT HFin HC2 HCB hy hR
        have HL : Hid _ := hl3
        clear hl3
        cases t with
        | true =>
          have HQ : Hid _ := hft rfl
          clear hff hft
          gi_wp2
          obtain ⟨⟨q1, q2⟩, q3, q4⟩ := HQ.out
          rw [HREQ.out]
          exact ⟨HL.out, ⟨q1, q2⟩, by simpa using q3, q4⟩
        | false =>
          have HQ : Hid _ := hff rfl
          clear hft hff
          gi_wp2
          exact ⟨HL.out, HQ.out⟩
  · have h := (K3.block w1.heap.size (by omega) (fun h => h)).trans hkb2
    simp [World.cell?, h]
  · exact ownsRow_blk hrow2 (fun b hb => K3.block b (hrow2.lt b hb).2 (fun h => h))
  · intro p hp
    obtain ⟨a, c, e⟩ := ownsRow_shape (N.ok p hp).row
    exact ⟨a, _, c, e⟩
  · rintro e V ⟨⟨v1, rfl⟩, ⟨hJl, KV⟩ | ⟨hx, KV, hl⟩⟩
    · have hVl : V.heap[w2.heap.size + 1]? = some (.loop r) := (KV.block _ (by omega) (nM _ (by omega))).trans hL3
      have hVd : V.heap[w2.heap.size]? = some (.deferred (some [])) := (KV.block _ (by omega) (nM _ (by omega))).trans hD3
      refine ⟨⟨_, rfl⟩, r, hVl, by rw [hst]; decide, .inl ⟨hpend, ?_⟩⟩
      have hVd2 : (V.putObj (w2.heap.size + 1) (.loop { r with state := .exhausted })).heap[w2.heap.size]? = some (.deferred (some [])) := (World.putObj_heap_other (by omega)).trans hVd
      have hJ2 : J ps.length ((V.putObj (w2.heap.size + 1) (.loop { r with state := .exhausted })).putObj w2.heap.size (.deferred none)) := hJ _ _ _ hJl ((Kept.putObj _ _ _ (by have := K2.size; omega)).and (Kept.putObj _ _ _ (by have := K2.size; omega)))
      have HJ2 : Hid _ := hJ2
      generalize V.putObj (w2.heap.size + 1) (.loop { r with state := .exhausted }) = V2 at *
      clear hVl hVd hJ2 hJl KV htm hpa has hbo hst hpend hreq hY hJ hJx
      gi_wp2
      refine ⟨by simp, .inl ⟨_, _, rfl, run_takeDeferred hVd2, ?_⟩⟩
      exact ⟨_, results_none rfl _ _ _, ⟨_, rfl⟩, .inl HJ2.out⟩
    · have hVd : V.heap[w2.heap.size]? = some (.deferred (some [])) := (KV.block _ (by omega) (fun h => h.elim (nM _ (by omega)) (by omega))).trans hD3
      refine ⟨⟨_, rfl⟩, _, hl, by simp, .inr ⟨.ret, rfl, ?_⟩⟩
      have hVd2 : (V.putObj (w2.heap.size + 1) (.loop { r with state := .exhausted, pending := some .ret })).heap[w2.heap.size]? = some (.deferred (some [])) := (World.putObj_heap_other (by omega)).trans hVd
      have hJ2 : Jx ((V.putObj (w2.heap.size + 1) (.loop { r with state := .exhausted, pending := some .ret })).putObj w2.heap.size (.deferred none)) := hJx _ _ hx ((Kept.putObj _ _ _ (by have := K2.size; omega)).and (Kept.putObj _ _ _ (by have := K2.size; omega)))
      have HJ2 : Hid _ := hJ2
      generalize V.putObj (w2.heap.size + 1) (.loop { r with state := .exhausted, pending := some .ret }) = V2 at *
      clear hVd hJ2 hx KV hl htm hpa has hbo hst hpend hreq hY hJ hJx
      gi_wp2
      refine ⟨by simp, .inl ⟨_, _, rfl, run_takeDeferred hVd2, ?_⟩⟩
      exact ⟨_, results_none rfl _ _ _, ⟨_, rfl⟩, .inr HJ2.out⟩

end Go.Proofs.Ythpamcfemhimcaa
