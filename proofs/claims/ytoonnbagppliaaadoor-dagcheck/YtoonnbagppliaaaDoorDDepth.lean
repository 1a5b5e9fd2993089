/-
  Depth: how many nodes the longest row has.
-/
import Derived.Test.YtoonnbagppliaaaDoorDDepK
import Derived.Test.YtoonnbagppliaaaDoorDDep13
import Derived.Test.YtoonnbagppliaaaDoorDDep10
namespace Go.Proofs.YtoonnbagppliaaaDoor
open Go.RowKit Go.Shelf
attribute [local go_sem] Oper.semAt_some

theorem ordK_lt {ns : List Nd} : ∀ (k : Nat) (T : List Nat), (∀ i ∈ T, i < ns.length) → ∀ i ∈ ordK ns k T, i < ns.length
  | 0, T, h => h
  | k + 1, T, h => by
    unfold ordK
    cases hn : nextP ns T with
    | none => exact h
    | some j =>
      refine ordK_lt k (T ++ [j]) (fun i hi => ?_)
      rcases List.mem_append.1 hi with hi | hi
      · exact h i hi
      · simp at hi; subst hi; exact mayB_lt (nextP_is hn).1
theorem ordP_lt (ns : List Nd) : ∀ i ∈ ordP ns, i < ns.length := ordK_lt _ _ (fun i h => by simp at h)

theorem ordK_len {ns : List Nd} : ∀ (k : Nat) (T : List Nat), (ordK ns k T).length ≤ T.length + k
  | 0, T => Nat.le_refl _
  | k + 1, T => by
    unfold ordK
    cases nextP ns T with
    | none => simp only []; omega
    | some j => have := ordK_len (ns := ns) k (T ++ [j]); simp at this ⊢; omega
theorem ordP_len (ns : List Nd) : (ordP ns).length ≤ ns.length := by have := ordK_len (ns := ns) ns.length []; simpa [ordP] using this

set_option maxRecDepth 100000 in
set_option maxHeartbeats 2000000 in
theorem depth_any (w : World) (name : ByteArray) (a : Option Addr) (n c : Nat) (ns : List Nd) (hN : NodesAt w a ns) (hl : ns.length = n) (hn : n ≤ 1000000) :
    Calls Tryd.prog 18 #[.agg #[.string name, .slice a n c]] w fun e w' => e = .returned (.int .i64 (depP ns : Nat)) ∧ Kept (fun _ => False) w w' := by
  subst hl
  have hF := firsts_any (w.alloc (.cells #[.string name, .slice a ns.length c] 25)) name a ns.length c ns (keptNew (Kept.alloc _ _ _) hN) rfl (by omega)
  rw [World.size_alloc] at hF
  have hm1 := fun W => run_make_row' (P := Tryd.prog) 37 3 (.int .i64 0) 8 Tryd.underlying37 Tryd.info3 rfl .i64 .i64 ns.length (by omega) (by omega) W
  have hWk := fun W (h : Kept (fun _ => False) w W) => walk_any W name a ns.length c ns (keptNew h hN) rfl hn
  have HFi : Hid (∀ n ∈ ns, NdOk n ∧ ∀ s ∈ n.after, s.size ≤ maxLen) := hN.fine
  clear hN
  refine (callsIn_wide (n := 9)).1 ?_
  refine callsIn_of_wp_marks Tryd.func18 rfl trivial ?_ rfl
  simp only [Tryd.ntmps18, List.size_toArray, List.length_cons, List.length_nil, Nat.reduceAdd, Nat.reduceSub, Array.replicate_succ, Array.replicate_zero, List.push_toArray, List.append_toArray, List.nil_append, List.cons_append]
  refine wpIn_wide.2 ?_
  go_wp2_with (first
    | (go_at_call 28; refine hF.mono ?_; rintro e w1 ⟨rfl, F1, K1⟩; clear hF; have hd := boxD K1; obtain ⟨d0, d1⟩ := hd; have HF1 : Hid (FirstAt w1 (w.heap.size + 1 + 1) ns) := F1; have hmb : w.heap.size + 1 + 1 < w1.heap.size := (by obtain ⟨_, t⟩ := F1; exact t.lt); clear F1;
        have d1a : (w1.alloc (.cells #[.map (some (w.heap.size + 1 + 1))] 57)).cell? ⟨w.heap.size, 1, none⟩ = some (.slice a ns.length c) := keepC (Kept.alloc (fun _ => False) _ _) d1 (fun _ _ h => h);
        have K4 : Kept (fun _ => False) w1 ((((w1.alloc (.cells #[.map (some (w.heap.size + 1 + 1))] 57)).alloc (.cells (madeCells #[.int .i64 0] ns.length) 3)).alloc (.cells #[.slice (some ⟨w1.heap.size + 1, 0, none⟩) ns.length ns.length] 37)).alloc (.cells #[.int .i64 0] 3)) := (((Kept.alloc _ _ _).and (Kept.alloc _ _ _)).and (Kept.alloc _ _ _)).and (Kept.alloc _ _ _);
        have e0 := keepC K4 d0 (fun _ _ h => h); have e1 := keepC K4 d1 (fun _ _ h => h); have K0 : Hid (Kept (fun _ => False) w w1) := (Kept.alloc (fun _ => False) _ _).and K1; have hW4 := hWk _ (K0.out.and K4))
    | (go_at_call 29; refine hW4.mono ?_; rintro e w2 ⟨pb, qb, rfl, T2, K2⟩; clear hW4)
    | fail)
  have q0 : ((((w1.alloc (.cells #[.map (some (w.heap.size + 1 + 1))] 57)).alloc (.cells (madeCells #[.int .i64 0] ns.length) 3)).alloc (.cells #[.slice (some ⟨w1.heap.size + 1, 0, none⟩) ns.length ns.length] 37)).alloc (.cells #[.int .i64 0] 3)).heap.size = w1.heap.size + 4 := by simp
  have h3 : _ := heap_alloc_new (((w1.alloc (.cells #[.map (some (w.heap.size + 1 + 1))] 57)).alloc (.cells (madeCells #[.int .i64 0] ns.length) 3)).alloc (.cells #[.slice (some ⟨w1.heap.size + 1, 0, none⟩) ns.length ns.length] 37)) (.cells #[.int .i64 0] 3)
  have h2 : _ := heap_alloc_new ((w1.alloc (.cells #[.map (some (w.heap.size + 1 + 1))] 57)).alloc (.cells (madeCells #[.int .i64 0] ns.length) 3)) (.cells #[.slice (some ⟨w1.heap.size + 1, 0, none⟩) ns.length ns.length] 37)
  have h1 : _ := World.rowIs_made (w1.alloc (.cells #[.map (some (w.heap.size + 1 + 1))] 57)) (.int .i64 0) ns.length 3
  have h0 : _ := heap_alloc_new w1 (.cells #[.map (some (w.heap.size + 1 + 1))] 57)
  simp only [World.size_alloc] at h1 h2 h3
  have r1 := (h1.alloc (.cells #[.slice (some ⟨w1.heap.size + 1, 0, none⟩) ns.length ns.length] 37)).alloc (.cells #[.int .i64 0] 3)
  have r0 := (((Kept.alloc (fun _ => False) _ (.cells (madeCells #[.int .i64 0] ns.length) 3)).and (Kept.alloc _ _ (.cells #[.slice (some ⟨w1.heap.size + 1, 0, none⟩) ns.length ns.length] 37))).and (Kept.alloc _ _ (.cells #[.int .i64 0] 3))).block w1.heap.size (by simp) (fun h => h) |>.trans h0
  have r2 := (Kept.alloc (fun _ => False) _ (.cells #[.int .i64 0] 3)).block (w1.heap.size + 1 + 1) (by simp) (fun h => h) |>.trans h2
  clear h0 h1 h2 hm1 d0 d1 d1a e0 e1 hWk
  generalize ((((w1.alloc (.cells #[.map (some (w.heap.size + 1 + 1))] 57)).alloc (.cells (madeCells #[.int .i64 0] ns.length) 3)).alloc (.cells #[.slice (some ⟨w1.heap.size + 1, 0, none⟩) ns.length ns.length] 37)).alloc (.cells #[.int .i64 0] 3)) = w4 at *
  refine (wpIn_wide (n := 9)).1 (range_of rfl (by decide) (gf := 40) (lb := #[.pointer (some ⟨pb, 0, none⟩), .pointer (some ⟨qb, 0, none⟩)]) rfl trivial (enters_of Tryd.func40 (by kernel_rfl) rfl) ?_)
  intro r hfn hst0 hpend htm hpa has hbo
  have hreq : ({ r with state := .ready, pending := none } : Loop) = r := by
    cases r
    simp only [] at hst0 hpend
    subst hst0 hpend
    rfl
  have K00 : Kept (fun _ => False) w2 ((w2.alloc (.deferred (some []))).alloc (.loop r)) := (Kept.alloc _ _ _).and (Kept.alloc _ _ _)
  have KK := K2.and K00
  have hz2 := K2.size
  have hlt0 : ∀ k o, w4.heap[k]? = some o → ((w2.alloc (.deferred (some []))).alloc (.loop r)).heap[k]? = some o := fun k o h => (KK.block k (Array.getElem?_eq_some_iff.1 h).1 (fun h => h)).trans h
  have J0 : DJ w1 w2 ns (w.heap.size + 1 + 1) r ((w2.alloc (.deferred (some []))).alloc (.loop r)) (depK ns ((ordP ns).take 0)).1 (depK ns ((ordP ns).take 0)).2 := by
    refine ⟨hlt0 _ _ r0, (r1.of_block (KK.block _ r1.lt (fun h => h))).congr (fun _ _ => rfl), hlt0 _ _ r2, hlt0 _ _ h3, ?_, ?_, (K4.and KK).mono (fun _ h => h.elim), fun g h1 h2 => K00.block g h2 (fun h => h), by omega, by simp⟩
    · rw [Below.heap_alloc _ _ _ (by simp), heap_alloc_new]
    · have h := heap_alloc_new (w2.alloc (.deferred (some []))) (.loop r)
      rw [World.size_alloc] at h
      exact h
  have T3 : WalkAt w4.heap.size ((w2.alloc (.deferred (some []))).alloc (.loop r)) pb qb (ordP ns) ns := T2.keep (fun g _ hg => K00.block g hg (fun h => h))
  have hszW : ((w2.alloc (.deferred (some []))).alloc (.loop r)).heap.size = w2.heap.size + 2 := by simp
  have hol := ordP_len ns
  refine (walk_in 8 (w2.heap.size + 1) pb qb w4.heap.size (ordP ns) ns (fun k W => DJ w1 w2 ns (w.heap.size + 1 + 1) r W (depK ns ((ordP ns).take k)).1 (depK ns ((ordP ns).take k)).2) (fun _ => False) _ T3 (ordP_lt ns) HFi.out (by omega) (fun k A B h K => h.keep K) ?_ J0).mono ?_
  · intro k i nd W1 a' c' J hk hi hTx
    have hkl : k < (ordP ns).length := (List.getElem?_eq_some_iff.1 hk).1
    have hil : i < ns.length := (List.getElem?_eq_some_iff.1 hi).1
    have hKx : depK ns ((ordP ns).take (k + 1)) = depStep ns (depK ns ((ordP ns).take k)) i := by
      rw [List.take_add_one, hk, Option.toList_some, depK_snoc]
    have hSt : depStep ns (depK ns ((ordP ns).take k)) i = (fun x => if x = i then curP ns (depK ns ((ordP ns).take k)).1 i ((depK ns ((ordP ns).take k)).1 i) nd.after + 1 else (depK ns ((ordP ns).take k)).1 x, max (depK ns ((ordP ns).take k)).2 (curP ns (depK ns ((ordP ns).take k)).1 i ((depK ns ((ordP ns).take k)).1 i) nd.after + 1)) := by
      unfold depStep; rw [hi]
    obtain ⟨hb1, hb2⟩ := depK_le ns (ordP ns) k
    rw [hKx, hSt]
    generalize hrow : (depK ns ((ordP ns).take k)).1 = row at *
    generalize hlng : (depK ns ((ordP ns).take k)).2 = lng at *
    clear hKx hSt hrow hlng hk J0 T3 T2
    have hfew := (HFi.out nd (List.mem_of_getElem? hi)).1.few
    have JA := J.keep (Kept.alloc (fun _ => False) W1 (.cells #[.string nd.name, .int .i64 nd.kind, .string nd.arg, .string nd.to, .int .i64 nd.delay, .int .i64 nd.tries, .slice a' nd.after.length c'] 34))
    refine yield_gen (W2 := W1.alloc (.cells #[.string nd.name, .int .i64 nd.kind, .string nd.arg, .string nd.to, .int .i64 nd.delay, .int .i64 nd.tries, .slice a' nd.after.length c'] 34)) (a1 := ?a1L) J.lp hst0 htm hpa has hbo rfl hfn JA.lp ?hA ?hB
    case hA =>
      intro K hK
      gi_wp2
      exact hK
    case hB =>
      have J1 := JA.put { r with state := .busy }
      have HREQ : Hid _ := hreq
      have hbig := J.big
      have hsz := J.sz
      have hnb : ((W1.alloc (.cells #[.string nd.name, .int .i64 nd.kind, .string nd.arg, .string nd.to, .int .i64 nd.delay, .int .i64 nd.tries, .slice a' nd.after.length c'] 34)).putObj (w2.heap.size + 1) (.loop { r with state := .busy })).heap[W1.heap.size]? = some (.cells #[.string nd.name, .int .i64 nd.kind, .string nd.arg, .string nd.to, .int .i64 nd.delay, .int .i64 nd.tries, .slice a' nd.after.length c'] 34) := by
        rw [World.putObj_heap_other (by omega)]
        exact heap_alloc_new _ _
      have hWs : ((W1.alloc (.cells #[.string nd.name, .int .i64 nd.kind, .string nd.arg, .string nd.to, .int .i64 nd.delay, .int .i64 nd.tries, .slice a' nd.after.length c'] 34)).putObj (w2.heap.size + 1) (.loop { r with state := .busy })).heap.size = W1.heap.size + 1 := by simp [World.putObj]
      have hsame0 : ∀ g, g < W1.heap.size → g ≠ w2.heap.size + 1 → ((W1.alloc (.cells #[.string nd.name, .int .i64 nd.kind, .string nd.arg, .string nd.to, .int .i64 nd.delay, .int .i64 nd.tries, .slice a' nd.after.length c'] 34)).putObj (w2.heap.size + 1) (.loop { r with state := .busy })).heap[g]? = W1.heap[g]? := fun g hg hne => by
        rw [World.putObj_heap_other (fun h => hne h)]
        exact Below.heap_alloc _ _ _ hg
      have HJ : Hid (DJ w1 w2 ns (w.heap.size + 1 + 1) r W1 row lng) := J
      have HTx : Hid (TextsAt W1 (.slice a' nd.after.length c') nd.after) := hTx
      clear htm hpa has hbo hst0 hpend hreq J JA hTx
      generalize hW2 : (W1.alloc (.cells #[.string nd.name, .int .i64 nd.kind, .string nd.arg, .string nd.to, .int .i64 nd.delay, .int .i64 nd.tries, .slice a' nd.after.length c'] 34)).putObj (w2.heap.size + 1) (.loop { r with state := .busy }) = W2 at *
      clear hW2
      obtain ⟨⟨n0, n1, n2, n3, n4, n5, n6⟩, _⟩ := seven hnb
      clear n0 n1 n2 n3 n4 n5
      have HJ1 : Hid (DJ w1 w2 ns (w.heap.size + 1 + 1) { r with state := .busy } W2 row lng) := J1
      clear J1
      gi_wp2
      gi_loopw [23] (fun q wq => ∃ (p : Nat), q = .int .i64 (p : Nat) ∧ p ≤ nd.after.length ∧ DJ w1 w2 ns (w.heap.size + 1 + 1) { r with state := .busy } wq (fun x => if x = i then curP ns row i (row i) (nd.after.take p) else row x) lng ∧ W2.heap.size ≤ wq.heap.size ∧ ∀ g, g < W2.heap.size → g ≠ w1.heap.size + 1 → g ≠ w1.heap.size + 3 → g ≠ w2.heap.size + 1 → wq.heap[g]? = W2.heap[g]?) (fun q _ => nd.after.length - (Go.RowKit.intOf q).toNat)
      case atStart => exact ⟨0, rfl, Nat.zero_le _, HJ1.out.is (fun x => by by_cases e : x = i; (subst e; simp [curP]); simp [e]) rfl, Nat.le_refl _, fun _ _ _ _ _ => rfl⟩
      case round =>
        obtain ⟨p, rfl, hp, Jp, hzq, hsq⟩ := hrel
        by_cases hpl : p < nd.after.length
        · have htx := texts_stay HJ.out HTx.out (V := wr) (fun g hg h1 h2 h3 => (hsq g (by omega) h1 h2 h3).trans (hsame0 g hg h3))
          obtain ⟨a2, c2, hsl, hc2, hne⟩ := htx.at
          obtain ⟨rfl, rfl⟩ : a' = a2 ∧ c' = c2 := by simpa using hsl
          obtain ⟨xb, xo, rfl, hcell⟩ := hne (fun e => by rw [e] at hpl; simp at hpl)
          have hck := hcell p hpl
          have hsm : (nd.after[p]).size ≤ maxLen := by
            obtain ⟨_, _, _, _, _, _, h5⟩ := htx
            exact h5 _ (List.getElem_mem hpl)
          have hsn := curP_snoc ns row i (row i) (nd.after.take p) nd.after[p]
          rw [← take_snoc hpl] at hsn
          have hcl := curP_le (ns := ns) (i := i) hb1 (nd.after.take p) (row i) (hb1 i)
          have hcl2 := curP_le (ns := ns) (i := i) hb1 (nd.after.take (p + 1)) (row i) (hb1 i)
          have g1 : (p : Int) < (nd.after.length : Int) := by omega
          have KD : Kept (fun _ => False) wr wr.drew := Kept.drew _ wr
          have JD := Jp.keep KD
          have hfjl : fj ns nd.after[p] < ns.length := by
            unfold fj
            cases hf : findP ns nd.after[p] with
            | none => simp; omega
            | some j => simpa using findP_lt hf
          have FM : FirstAt wr.drew (w.heap.size + 1 + 1) ns := HF1.out.kept JD.kp (by omega)
          obtain ⟨mm, TM⟩ := FM
          have hfm : (firstM ns nd.after[p]).getD (.int .i64 0) = .int .i64 ((fj ns nd.after[p] : Nat) : Int) := by unfold firstM fj; cases findP ns nd.after[p] <;> rfl
          have hlk : ∀ Z V, V = wr.drew ∨ V = wr.drew.setCell ⟨w1.heap.size + 1, i, none⟩ Z → V.cell? ⟨w1.heap.size + 2, 0, none⟩ = some (.slice (some ⟨w1.heap.size + 1, 0, none⟩) ns.length ns.length) ∧ V.cell? ⟨w1.heap.size, 0, none⟩ = some (.map (some (w.heap.size + 1 + 1))) ∧ (Instr.lookup 57 (.map (some (w.heap.size + 1 + 1))) (.string nd.after[p]) false).run Tryd.prog V = .ok (.int .i64 ((fj ns nd.after[p] : Nat) : Int)) V := fun Z V hV => by
            have hb : ∀ g, g ≠ w1.heap.size + 1 → V.heap[g]? = wr.drew.heap[g]? := fun g hg => by
              rcases hV with rfl | rfl
              · rfl
              · exact Below.heap_setCell _ _ _ _ (fun e => hg e)
            refine ⟨(oneC ((hb _ (by omega)).trans JD.rc)).1, (oneC ((hb _ (by omega)).trans JD.fb)).1, ?_⟩
            have h := (TM.block (hb _ (by omega))).look Tryd.underlying9 Tryd.underlying57 (z := .int .i64 0) (by rfl) hsm
            rw [hfm] at h
            exact h
          have rI := JD.row.cell hil
          have rZ := JD.row.frozen i
          have rJ := JD.row.cell hfjl
          simp only [if_true] at rI
          have hJv : (if fj ns nd.after[p] = i then curP ns row i (row i) (nd.after.take p) else row (fj ns nd.after[p])) ≤ k := by
            split
            · exact hcl
            · exact hb1 _
          have HJD : Hid _ := JD
          have HSN : Hid (curP ns row i (row i) (nd.after.take (p + 1)) = max (curP ns row i (row i) (nd.after.take p)) (if fj ns nd.after[p] = i then curP ns row i (row i) (nd.after.take p) else row (fj ns nd.after[p]))) := hsn
          have HSQ : Hid _ := hsq
          have HLK : Hid _ := hlk
          clear hsl hcell hne htx TM hfm JD Jp hsn hsq hlk
          generalize hcur : curP ns row i (row i) (nd.after.take p) = cur at *
          generalize (if fj ns nd.after[p] = i then cur else row (fj ns nd.after[p])) = yv at *
          generalize fj ns nd.after[p] = jj at *
          generalize nd.after[p] = s at *
          gi_wp2
          refine wpIn_nrm (dep10 (n := ns.length) (rb := w1.heap.size + 1) (mb := w.heap.size + 1 + 1) (i := i) (j := jj) (x := cur) (y := yv) _ (HLK.out _) rI rJ rZ (by omega) (by omega) ?_)
          intro v27 v28 v29 v30 v31 v32 v33 v34 v35 v36 v37 v38 v39 v40
          have JS : DJ w1 w2 ns (w.heap.size + 1 + 1) { r with state := .busy } (wr.drew.setCell ⟨w1.heap.size + 1, i, none⟩ (.int .i64 (max (cur : Int) (yv : Int)))) (fun x => if x = i then curP ns row i (row i) (nd.after.take (p + 1)) else row x) lng :=
            (HJD.out.setRow i (max cur yv) (by omega)).is (fun x => by by_cases e : x = i; (subst e; simp only [if_true]; exact HSN.out.symm); simp only [e, if_false]) rfl
          have HJS : Hid _ := JS
          have HSS : Hid (∀ g, g < W2.heap.size → g ≠ w1.heap.size + 1 → g ≠ w1.heap.size + 3 → g ≠ w2.heap.size + 1 → (wr.drew.setCell ⟨w1.heap.size + 1, i, none⟩ (.int .i64 (max (cur : Int) (yv : Int)))).heap[g]? = W2.heap[g]?) := fun g h1 h2 h3 h4 => (Below.heap_setCell _ _ _ _ (fun e => h2 e)).trans (HSQ.out g h1 h2 h3 h4)
          have hz9 : W2.heap.size ≤ (wr.drew.setCell ⟨w1.heap.size + 1, i, none⟩ (.int .i64 (max (cur : Int) (yv : Int)))).heap.size := by simpa [World.setCell] using hzq
          clear JS HJD HSN HSQ HLK rI rJ rZ hck
          generalize wr.drew.setCell ⟨w1.heap.size + 1, i, none⟩ (.int .i64 (max (cur : Int) (yv : Int))) = V at *
          gi_wp2
          go_roundw
          case rel => exact ⟨p + 1, by simp, by omega, HJS.out, hz9, HSS.out⟩
          case measure => simp [Go.RowKit.intOf]; omega
        · obtain rfl : p = nd.after.length := by omega
          rw [List.take_length] at Jp
          have hcl := curP_le (ns := ns) (i := i) hb1 nd.after (row i) (hb1 i)
          have rI := Jp.row.cell hil
          have rZ := Jp.row.frozen i
          have cC := (oneC Jp.rc).1
          simp only [if_true] at rI
          have HJp : Hid _ := Jp
          have HSQ : Hid _ := hsq
          clear Jp hsq
          generalize hcur : curP ns row i (row i) nd.after = cur at *
          have JS : DJ w1 w2 ns (w.heap.size + 1 + 1) { r with state := .busy } (wr.setCell ⟨w1.heap.size + 1, i, none⟩ (.int .i64 ((cur : Int) + 1))) (fun x => if x = i then cur + 1 else row x) lng :=
            (HJp.out.setRow i (cur + 1) (by omega)).is (fun x => by by_cases e : x = i; (subst e; simp only [if_true]); simp only [e, if_false]) rfl
          have JSD := JS.keep (Kept.drew (fun _ => False) _)
          have xL := (oneC JSD.lb)
          have xR := JSD.row.cell hil
          have xC := (oneC JSD.rc).1
          simp only [if_true] at xR
          have HJSD : Hid _ := JSD
          have HJS : Hid _ := JS
          clear JS JSD
          gi_wp2
          refine wpIn_nrm (dep13 (n := ns.length) (rb := w1.heap.size + 1) (i := i) (x := lng) (y := cur + 1) _ xC xL.1 xR xL.2 (by omega) ?_)
          intro v48 v49 v50 v51 v52 v53
          have JE : DJ w1 w2 ns (w.heap.size + 1 + 1) { r with state := .busy } (((wr.setCell ⟨w1.heap.size + 1, i, none⟩ (.int .i64 ((cur : Int) + 1))).setCell ⟨w1.heap.size + 3, 0, none⟩ (.int .i64 (max (lng : Int) ((cur : Int) + 1)))).drew) (fun x => if x = i then cur + 1 else row x) (max lng (cur + 1)) := HJSD.out.setLng (max lng (cur + 1)) (zi := max (lng : Int) ((cur : Int) + 1)) (by omega)
          have HJE : Hid _ := JE
          clear JE
          gi_wp2
          have JR := HJE.out.put r
          refine ⟨HJE.out.lp, ?_, by omega, fun g h1 h2 => ?_⟩
          · rw [HREQ.out]; exact JR
          · rw [HREQ.out]
            by_cases e1 : g = w2.heap.size + 1
            · subst e1; exact JR.lp.trans HJ.out.lp.symm
            · by_cases e2 : g = w2.heap.size
              · subst e2; exact JR.dm.trans HJ.out.dm.symm
              · exact (JR.mid g (by omega) (by omega)).trans (HJ.out.mid g (by omega) (by omega)).symm
  · rintro e W ⟨⟨v1, rfl⟩, J | hFx⟩
    · refine ⟨⟨_, rfl⟩, r, J.lp, by rw [hst0]; decide, .inl ⟨hpend, ?_⟩⟩
      have J1 := J.put { r with state := .exhausted }
      rw [List.take_length] at J1
      have hx : (depK ns (ordP ns)).2 = depP ns := rfl
      rw [hx] at J1
      have HK : Hid (Kept (fun _ => False) w (W.putObj (w2.heap.size + 1) (.loop { r with state := .exhausted }))) := K0.out.trans J1.kp (fun g h => .inr (by have := K0.out.size; omega))
      have HJ1 : Hid _ := J1
      have xL := (oneC J1.lb).1
      have hdm := J1.dm
      clear J1 J
      generalize W.putObj (w2.heap.size + 1) (.loop { r with state := .exhausted }) = W9 at *
      have HK9 : Hid (Kept (fun _ => False) w (W9.putObj w2.heap.size (.deferred none))) := HK.out.trans (S' := fun j => j = w2.heap.size) (Kept.putObj _ _ _ rfl) (fun i h => .inr (by have h' : i = w2.heap.size := h; have := K0.out.size; omega))
      go_wp2
      refine ⟨by simp, .inl ⟨_, _, rfl, run_takeDeferred hdm, ?_⟩⟩
      refine ⟨.int .i64 (depP ns : Nat), ?_, rfl, HK9.out⟩
      simp [results, Tryd.f18, go_sem]
    · exact hFx.elim

end Go.Proofs.YtoonnbagppliaaaDoor
