/-
  tell: an event happens to a run, with the tasks that it brings.
-/
import Derived.Test.YtdecceekodpjiaaDoorHRun
import Derived.Deep.Cut
namespace Go.Proofs.YtdecceekodpjiaaDoor
open Go.RowKit

theorem thirteen {w : World} {b : Nat} {T : TypeId} {u0 u1 u2 u3 u4 u5 u6 u7 u8 u9 u10 u11 u12 : Value} (h : w.heap[b]? = some (.cells #[u0, u1, u2, u3, u4, u5, u6, u7, u8, u9, u10, u11, u12] T (0, 0))) : w.cell? ⟨b, 0, none⟩ = some u0 ∧ w.cell? ⟨b, 1, none⟩ = some u1 ∧ w.cell? ⟨b, 2, none⟩ = some u2 ∧ w.cell? ⟨b, 3, none⟩ = some u3 ∧ w.cell? ⟨b, 4, none⟩ = some u4 ∧ w.cell? ⟨b, 5, none⟩ = some u5 ∧ w.cell? ⟨b, 6, none⟩ = some u6 ∧ w.cell? ⟨b, 7, none⟩ = some u7 ∧ w.cell? ⟨b, 8, none⟩ = some u8 ∧ w.cell? ⟨b, 9, none⟩ = some u9 ∧ w.cell? ⟨b, 10, none⟩ = some u10 ∧ w.cell? ⟨b, 11, none⟩ = some u11 ∧ w.cell? ⟨b, 12, none⟩ = some u12 := by
  simp [World.cell?, h]

set_option maxRecDepth 100000 in
set_option maxHeartbeats 8000000 in
theorem tell_any (w : World) (H : Nat → Prop) (rb : Nat) (nm : ByteArray) (a : Option Addr) (c : Nat) (ns : List Nd) (r : Rn) (R : RAt w H rb nm a ns.length c r) (h6 : r.st.nodes.length ≤ 1000000) (h7 : r.st.sigs.length ≤ 1000000) (he0 : 0 ≤ r.st.events) (he1 : r.st.events ≤ 1000000000000) (h12 : r.evs.length ≤ 1000000) (h13 : r.tks.length ≤ 1000000)
    (hN : NodesAt w a ns) (hn : ns.length ≤ 1000000) (hNH : ∀ b o, a = some ⟨b, o, none⟩ → ¬ H b) (M : MovesAt w) (ev : Ev) (ts : List Tk) (ta : Option Addr) (tc : Nat) (hT : FlatAt w 13 (.slice ta ts.length tc) ts.length (tkF ts)) (hts : ts.length ≤ 1000000) (htH : ∀ g, slBlk (.slice ta ts.length tc) = some g → ¬ H g) :
    Calls Tryd.prog 34 #[.pointer (some ⟨rb, 0, none⟩), .agg #[.int .i64 ev.kind, .string ev.node, .string ev.text, .int .i64 ev.num], .slice ta ts.length tc] w fun e w' => e = .returned (.tuple #[]) ∧ RGoes w H rb nm a ns.length c (tellP nm ns r ev ts) w' := by
  obtain ⟨ek, en, et, ez⟩ := ev
  simp only []
  have HR := hid R
  obtain ⟨F, G, v6, v7, v12, v13, RN, hFG, htop⟩ := R
  have K0 : Kept (fun _ => False) w (w.alloc (.cells #[.int .i64 ek, .string en, .string et, .int .i64 ez] 59)) := Kept.alloc _ _ _
  have R0 := RN.new K0
  have hE := heap_alloc_new w (.cells #[.int .i64 ek, .string en, .string et, .int .i64 ez] 59)
  have hC := change_any (w.alloc (.cells #[.int .i64 ek, .string en, .string et, .int .i64 ez] 59)).drew F rb 2 73 [.string nm, .slice a ns.length c] [.int .i64 r.now, v12, v13] r.st v6 v7 (R0.st.new (Kept.drew _ _)) h6 h7 he0 he1 nm a c ns (keptNew (K0.and (Kept.drew _ _)) hN) hn (fun b o h hf => hNH b o h (hFG b (.inl hf))) (M.kept (K0.and (Kept.drew _ _)) (fun h => h)) ⟨ek, en, et, ez⟩
  obtain ⟨⟨p0, p1, _, _, _, _⟩, _, _⟩ := tail_at R0.st.blk
  obtain ⟨⟨t0, t1, t2, t3⟩, _⟩ := four hE
  have HK0 := hid K0
  have HR0 := hid R0
  have HT := hid hT
  have HE := hid hE
  unfold tellP
  clear K0 R0 RN hE hN M hT
  cases hp : changeP nm ns r.st ⟨ek, en, et, ez⟩ with
  | none =>
    rw [hp] at hC
    simp only []
    clear hp
    go_enter Tryd.func34, Tryd.ntmps34
    go_upto_region 1 with fail
    refine wp_onlyN (tl1 (R := fun V => Kept (fun _ => False) (w.alloc (.cells #[.int .i64 ek, .string en, .string et, .int .i64 ez] 59)).drew V) (r := false) _ p0 p1 t0 t1 t2 t3 hC (fun V KV => ⟨keepC KV p0 (fun _ _ h => h), keepC KV p1 (fun _ _ h => h), keepC KV t0 (fun _ _ h => h), keepC KV t1 (fun _ _ h => h), keepC KV t2 (fun _ _ h => h), keepC KV t3 (fun _ _ h => h)⟩) ?_)
    intro _ _ _ _ _ _ _ _ _ w5 K5
    clear p0 p1 t0 t1 t2 t3 hC
    go_wp2_with fail
    (try simp only [Exit.inBlock, Exit.then]); refine bodyPost_ret (results_none rfl _ _ _) rfl ?_
    exact ⟨rfl, RGoes.keep HR.out ((HK0.out.and (Kept.drew _ _)).and K5)⟩
  | some s =>
    rw [hp] at hC
    simp only []
    clear hp
    have hwF : ¬ F w.heap.size := fun h => absurd (htop _ (hFG _ (.inl h))) (Nat.lt_irrefl _)
    have hEk : ∀ V, Kept F (w.alloc (.cells #[.int .i64 ek, .string en, .string et, .int .i64 ez] 59)).drew V → V.heap[w.heap.size]? = some (.cells #[.int .i64 ek, .string en, .string et, .int .i64 ez] 59 (0, 0)) := fun V KV => (KV.block _ (Array.getElem?_eq_some_iff.1 HE.out).1 hwF).trans HE.out
    have HEk := hid hEk
    clear hEk
    go_enter Tryd.func34, Tryd.ntmps34
    go_upto_region 1 with fail
    refine wp_onlyN (tl1 (R := fun V => Goes (w.alloc (.cells #[.int .i64 ek, .string en, .string et, .int .i64 ez] 59)).drew F rb 2 73 [.string nm, .slice a ns.length c] [.int .i64 r.now, v12, v13] s V) (r := true) _ p0 p1 t0 t1 t2 t3 hC (fun V X => by
      obtain ⟨⟨F', u6, u7, S', _⟩, KV⟩ := X
      obtain ⟨⟨y0, y1, _, _, _, _⟩, _, _⟩ := tail_at S'.blk
      obtain ⟨⟨z0, z1, z2, z3⟩, _⟩ := four (HEk.out V KV)
      exact ⟨y0, y1, z0, z1, z2, z3⟩) ?_)
    intro _ _ _ _ _ _ _ _ _ w5 G5
    clear p0 p1 t0 t1 t2 t3 hC
    obtain ⟨F5, u6, u7, R5, hF5⟩ := (HR0.out.new (Kept.drew _ _)).changed G5
    have K5 : Kept F (w.alloc (.cells #[.int .i64 ek, .string en, .string et, .int .i64 ez] 59)).drew w5 := G5.2
    obtain ⟨⟨_, _, _, p12, _, _⟩, f12, _⟩ := tail_at R5.st.blk
    obtain ⟨⟨t0, t1, t2, t3⟩, _⟩ := four (HEk.out w5 K5)
    obtain ⟨a12, c12, rfl⟩ := ownsRow_shape R5.evs
    have hF5w : ∀ g, F5 g → H g ∨ w.heap.size ≤ g := fun g h => (hF5 g h).imp (fun h => hFG g (.inl h)) (fun h => Nat.le_trans HK0.out.size h)
    have Kw5 : Kept H w w5 := ((HK0.out.and (Kept.drew _ _)).mono (fun _ h => h.elim)).and (K5.mono (fun g h => hFG g (.inl h)))
    have HR5 := hid R5
    have HX5 : Hid ((∀ g, F5 g → H g ∨ w.heap.size ≤ g) ∧ Kept H w w5) := ⟨hF5w, Kw5⟩
    have hne : ∀ g, (Value.slice a12 r.evs.length c12).ownBlock = some g → g ≠ rb := fun g hg h => R5.out g (R5.in12 g hg) (h ▸ R5.st.inS)
    clear G5 R5 hF5 K5 hF5w Kw5 HR0 HEk HE
    go_upto_region 2 with fail
    refine wp_onlyN (tl2 _ p12 f12 t0 t1 t2 t3 hne (by show r.evs.length ≤ _; omega) HR5.out.evs ?_)
    intro _ _ _ _ _ _ _ _ _ _ a4 c4 w4 o4 hw4 K4
    obtain ⟨R6, K6⟩ := HR5.out.pushE ⟨ek, en, et, ez⟩ o4 hw4 K4
    have hz4 : w5.heap.size ≤ w4.heap.size := K4.size
    have hG6 : RGoes w H rb nm a ns.length c { r with st := s, evs := r.evs ++ [⟨ek, en, et, ez⟩] } (w4.setCell ⟨rb, 12, none⟩ (.slice a4 (r.evs.length + 1) c4)) := by
      refine ⟨⟨fun g => F5 g ∨ (G g ∨ (w5.heap.size ≤ g ∧ g < w4.heap.size)), ⟨F5, _, u6, u7, _, v13, R6, fun g h => h, fun g h => h.elim (R6.st.top g) (R6.topG g)⟩, fun g h => ?_⟩, HX5.out.2.trans K6 (fun g h => h.elim (HX5.out.1 g) (fun h => .inl (hFG g (.inr h))))⟩
      rcases h with h | h | h
      · exact HX5.out.1 g h
      · exact .inl (hFG g (.inr h))
      · exact .inr (Nat.le_trans HX5.out.2.size h.1)
    clear p12 f12 t0 t1 t2 t3 hne o4 hw4 K4 R6 K6 hz4
    generalize w4.setCell ⟨rb, 12, none⟩ (.slice a4 (r.evs.length + 1) c4) = w6 at *
    clear HR5 HX5 hwF hFG htop
    go_wp2_with fail
    go_loopw [30] (fun i wr => ∃ (k : Nat), k ≤ ts.length ∧ i = .int .i64 k ∧ RGoes w H rb nm a ns.length c { r with st := s, evs := r.evs ++ [⟨ek, en, et, ez⟩], tks := r.tks ++ (ts.take k).map (flowT s.id) } wr) (fun i _ => ts.length - (intOf i).toNat)
    case atStart => exact ⟨0, Nat.zero_le _, rfl, by simpa using hG6⟩
    case round =>
      obtain ⟨k, hk, rfl, X⟩ := hrel
      by_cases hlt : k < ts.length
      · obtain ⟨⟨H', ⟨F', G', u6, u7, u12, u13, RK, hFG', htop'⟩, hH'⟩, KX⟩ := X
        obtain ⟨b, o, rfl, c0, c1, c2, c3, c4, c5, c6, c7, c8, c9, c10, c11, c12⟩ := tk_at (HT.out.kept KX (fun g hg _ => htH g hg)) hlt rfl
        have e0 : (k : Int) < (ts.length : Int) := by omega
        obtain ⟨⟨_, _, _, _, _, pid⟩, _, _⟩ := tail_at RK.st.blk
        have pid2 := fun o => keepC (Kept.alloc (fun _ => False) wr o) pid (fun _ _ h => h)
        have HRK := hid RK
        have HX : Hid ((∀ g, F' g ∨ G' g → H' g) ∧ (∀ g, H' g → g < wr.heap.size) ∧ (∀ g, H' g → H g ∨ w.heap.size ≤ g) ∧ Kept H w wr) := ⟨hFG', htop', hH', KX⟩
        clear RK hFG' htop' hH' KX
        have hst := fun (W : World) (a : Addr) (x y : Nat) (m : Mode) => run_store Tryd.prog W a (.complex .f64 x y) m rfl
        go_upto_region 7 with fail
        clear pid pid2 c0 c1 c2 c3 c4 c5 c6 c7 c8 c9 c10 c11 c12 hst
        have K7 : Kept (fun _ => False) wr (wr.alloc (.cells #[.int .i64 (ts[k]).kind, .complex .f64 0 0, .string s.id, .string (ts[k]).node, .int .i64 (ts[k]).tr, .int .i64 (ts[k]).tm, .int .i64 (ts[k]).mail.kind, .string (ts[k]).mail.dst, .string (ts[k]).mail.src, .string (ts[k]).mail.node, .string (ts[k]).mail.name, .string (ts[k]).mail.text, .int .i64 (ts[k]).mail.status] 50)) := Kept.alloc _ _ _
        have R7 := HRK.out.new K7
        obtain ⟨a13, c13, rfl⟩ := ownsRow_shape R7.tks
        obtain ⟨⟨_, _, _, _, p13, _⟩, _, f13⟩ := tail_at R7.st.blk
        obtain ⟨d0, d1, d2, d3, d4, d5, d6, d7, d8, d9, d10, d11, d12⟩ := thirteen (heap_alloc_new wr (.cells #[.int .i64 (ts[k]).kind, .complex .f64 0 0, .string s.id, .string (ts[k]).node, .int .i64 (ts[k]).tr, .int .i64 (ts[k]).tm, .int .i64 (ts[k]).mail.kind, .string (ts[k]).mail.dst, .string (ts[k]).mail.src, .string (ts[k]).mail.node, .string (ts[k]).mail.name, .string (ts[k]).mail.text, .int .i64 (ts[k]).mail.status] 50))
        have HR7 := hid R7
        have hne7 : ∀ g, (Value.slice a13 (r.tks ++ (ts.take k).map (flowT s.id)).length c13).ownBlock = some g → g ≠ rb := fun g hg h => R7.out g (R7.in13 g hg) (h ▸ R7.st.inS)
        have hl7 : (r.tks ++ (ts.take k).map (flowT s.id)).length ≤ 1000000000 := by
          rw [List.length_append, List.length_map, List.length_take]
          omega
        have HK7 := hid K7
        clear R7 K7
        refine wp_onlyN (tl7 _ p13 f13 d0 d1 d2 d3 d4 d5 d6 d7 d8 d9 d10 d11 d12 hne7 hl7 HR7.out.tks ?_)
        intro _ _ _ _ _ _ _ _ _ _ a4 c4 w4 o4 hw4 K4
        clear p13 f13 d0 d1 d2 d3 d4 d5 d6 d7 d8 d9 d10 d11 d12
        obtain ⟨R8, K8⟩ := HR7.out.pushT (flowT s.id ts[k]) o4 hw4 K4
        have hnx : (r.tks ++ (ts.take k).map (flowT s.id)) ++ [flowT s.id ts[k]] = r.tks ++ (ts.take (k + 1)).map (flowT s.id) := by
          rw [List.take_succ_eq_append_getElem hlt, List.map_append, List.append_assoc]
          rfl
        have hzw : w.heap.size ≤ (wr.alloc (.cells #[.int .i64 (ts[k]).kind, .complex .f64 0 0, .string s.id, .string (ts[k]).node, .int .i64 (ts[k]).tr, .int .i64 (ts[k]).tm, .int .i64 (ts[k]).mail.kind, .string (ts[k]).mail.dst, .string (ts[k]).mail.src, .string (ts[k]).mail.node, .string (ts[k]).mail.name, .string (ts[k]).mail.text, .int .i64 (ts[k]).mail.status] 50)).heap.size := Nat.le_trans HX.out.2.2.2.size HK7.out.size
        have X8 : RGoes w H rb nm a ns.length c { r with st := s, evs := r.evs ++ [⟨ek, en, et, ez⟩], tks := r.tks ++ (ts.take (k + 1)).map (flowT s.id) } (w4.setCell ⟨rb, 13, none⟩ (.slice a4 ((r.tks ++ (ts.take k).map (flowT s.id)).length + 1) c4)) := by
          rw [← hnx]
          refine ⟨⟨_, ⟨F', _, u6, u7, u12, _, R8, fun g h => h, fun g h => h.elim (R8.st.top g) (R8.topG g)⟩, fun g h => ?_⟩, (HX.out.2.2.2.and (HK7.out.mono (fun _ h => h.elim))).trans K8 (fun g h => HX.out.2.2.1 g (HX.out.1 g h))⟩
          rcases h with h | h | h
          · exact HX.out.2.2.1 g (HX.out.1 g (.inl h))
          · exact HX.out.2.2.1 g (HX.out.1 g (.inr h))
          · exact .inr (Nat.le_trans hzw h.1)
        clear o4 hw4 K4 R8 K8 hnx hzw HX HK7 HR7 HRK hne7 hl7
        generalize w4.setCell ⟨rb, 13, none⟩ (.slice a4 ((r.tks ++ (ts.take k).map (flowT s.id)).length + 1) c4) = w9 at *
        go_wp2_with fail
        go_roundw
        case rel => exact ⟨k + 1, by omega, by go_num, X8⟩
        case measure => simp [intOf]; omega
      · obtain rfl : k = ts.length := by omega
        rw [List.take_length] at X
        have e0 : ¬ ((ts.length : Int) < (ts.length : Int)) := by omega
        go_wp2_with fail
        go_end0
        exact ⟨rfl, X⟩

end Go.Proofs.YtdecceekodpjiaaDoor
