/-
  The document's net: Drop, Take, Double.
-/
import Derived.Test.YthpamcfemhimcaaNetRef
namespace Go.Proofs.Ythpamcfemhimcaa
open Go.RowKit

section
variable {w : World} {S : Nat → Prop} {d : Nat} {v : Value} {ps : List PV} {most : Int}

/-- Another row is laid, in a block of its own. -/
theorem NetIn.relay {T : TypeId} {hd : Value → Array Value} (N : NetIn T hd w S d v ps) {w1 w2 : World} {v' : Value} {ps' : List PV} (hT8 : T ≠ 5) (sub : ∀ p ∈ ps', p ∈ ps) (few : ps'.length ≤ 1000) (K : Kept (fun _ => False) w w1)
    (row : w1.ownsRow w.heap.size 29 3 v' ps'.length (netCells ps')) (K2 : Kept (fun k => k = d) w1 w2) (head : w2.heap[d]? = some (.cells (hd v') T (0, 0))) :
    NetTo T hd w S d (ps'.map PV.pure) w2 := by
  have hdz := N.bnd d N.sd
  refine ⟨fun k => S k ∨ (w.heap.size ≤ k ∧ k < w2.heap.size), v', ps', ⟨head, ?_, ?_, .inl N.sd, fun k hk => .inr ⟨(row.lt k hk).1, Nat.lt_of_lt_of_le (row.lt k hk).2 K2.size⟩, fun p hp k hk => .inl (N.sp p (sub p hp) k hk), ?_, few⟩, rfl, ?_, fun k hk => hk.imp id And.left⟩
  · exact ownsRow_low (ownsRow_blk row (fun k hk => K2.block k (row.lt k hk).2 (fun e => by have := (row.lt k hk).1; have e' : k = d := e; omega))) (Nat.zero_le _)
  · intro p hp
    exact ((N.ok p (sub p hp)).kept K (fun _ _ h => h)).kept K2 (fun k hk => N.neP hT8 (sub p hp) hk)
  · intro k hk
    rcases hk with h | h
    · exact Nat.lt_of_lt_of_le (N.bnd k h) (Nat.le_trans K.size K2.size)
    · exact h.2
  · exact (K.mono (fun _ h => h.elim)).and (K2.mono (fun k hk => hk ▸ N.sd))

theorem NetTo.same {T : TypeId} {hd : Value → Array Value} {w' : World} (N : NetIn T hd w S d v ps) (K : Kept (fun _ => False) w w') : NetTo T hd w S d (ps.map PV.pure) w' :=
  ⟨S, v, ps, N.keptN K, rfl, K.mono (fun _ h => h.elim), fun _ => .inl⟩

/-- A part of the row, as a source. -/
theorem NetIn.srcTake {T : TypeId} {hd : Value → Array Value} {g cap : Nat} (N : NetIn T hd w S d (.slice (some ⟨g, 0, none⟩) ps.length cap) ps) {k : Nat} (hk : k ≤ ps.length) (c : Nat) : Src w 3 (.slice (some ⟨g, 0, none⟩) k c) k (netCells (ps.take k)) := by
  refine .inl ⟨_, _, rfl, by rw [netCells_length, List.length_take]; congr 1; omega, fun j u hu => ?_⟩
  rw [← netCells_take, List.getElem?_take] at hu
  split at hu
  · exact N.row.cells rfl j u hu
  · cases hu

theorem NetIn.srcDrop {T : TypeId} {hd : Value → Array Value} {g cap : Nat} (N : NetIn T hd w S d (.slice (some ⟨g, 0, none⟩) ps.length cap) ps) {k : Nat} (c : Nat) (A : Addr) (hA : A = ⟨g, k * 3, none⟩ ∨ k = ps.length) : Src w 3 (.slice (some A) (ps.length - k) c) (ps.length - k) (netCells (ps.drop k)) := by
  refine .inl ⟨_, _, rfl, by rw [netCells_length, List.length_drop], fun j u hu => ?_⟩
  rcases hA with rfl | hA
  · rw [← netCells_drop, List.getElem?_drop] at hu
    have := N.row.cells rfl _ u hu
    rw [Addr.add_lit] at this ⊢
    rw [Nat.zero_add] at this
    exact this
  · rw [List.drop_eq_nil_of_le (by omega)] at hu
    simp [netCells] at hu

set_option maxRecDepth 100000 in
set_option maxHeartbeats 1000000 in
theorem refDrop_any (N : NetR most w S d v ps) (i : Int) :
    Calls Try.prog 18 #[.pointer (some ⟨d, 0, none⟩), .int .i64 i] w fun e w' =>
      e = .returned (.bool (inB ps.length i)) ∧ NetTo 44 (hdR most) w S d (dropX (ps.map PV.pure) i) w' := by
  obtain ⟨i0, hi, hz0, hz1, hz2⟩ := info_parts Try.info29w
  obtain ⟨_, h1, _, _⟩ := N.r0
  cases hb : inB ps.length i with
  | false =>
    have e1 : dropX (ps.map PV.pure) i = ps.map PV.pure := by simp [dropX, hb]
    rw [e1]
    obtain ⟨a, c, rfl, _⟩ := N.shape
    have hno := inB_no hb
    have HN : Hid (NetR most w S d (.slice a ps.length c) ps) := N
    by_cases hi : i < 0
    · have hd : decide (i < 0) = true := by simpa using hi
      clear hb e1 hno N
      go_enter Try.func18, Try.ntmps18
      go_wp2
      go_ret
      exact ⟨rfl, NetTo.same HN.out (Kept.refl _ _)⟩
    · have hi2 : (ps.length : Int) ≤ i := by omega
      have hd : decide (i < 0) = false := by simpa using hi
      clear hb e1 hno N
      go_enter Try.func18, Try.ntmps18
      go_wp2
      go_ret
      exact ⟨rfl, NetTo.same HN.out (Kept.refl _ _)⟩
  | true =>
    obtain ⟨k, rfl, hk⟩ := inB_yes hb
    rw [← eraseX ps k hk, List.eraseIdx_eq_take_drop_succ]
    obtain ⟨g, cap, rfl, hcap, q0, q1, q2⟩ := N.at (List.getElem?_eq_getElem hk)
    have hfew := N.few
    have hgz := (N.row.lt g rfl).2
    have hdz := N.bnd d N.sd
    have KE : Kept (fun _ => False) w (w.alloc (.cells #[] 29)) := Kept.alloc _ _ _
    have KE2 := KE.and (Kept.drew _ _)
    have hem : ((w.alloc (.cells #[] 29)).drew).ownsRow w.heap.size 29 3 (.slice (some ⟨w.heap.size, 0, none⟩) 0 0) 0 [] := World.ownsRow.drew (ownsRow_empty w w.heap.size 29 3 (Nat.le_refl _))
    have src1 := (N.keptN KE2).srcTake (k := k) (by omega) cap
    have hS := fun (V : World) (K : Kept (fun _ => False) w V) => (N.keptN K).r0
    have src2 : ∀ V, Kept (fun _ => False) w V → ∀ c, Src V 3 (.slice (if cap = k + 1 then some ⟨g, 0, none⟩ else some ⟨g, (k + 1) * 3, none⟩) (ps.length - (k + 1)) c) (ps.length - (k + 1)) (netCells (ps.drop (k + 1))) := fun V K c => by
      split
      · exact (N.keptN K).srcDrop (k := k + 1) c _ (.inr (by omega))
      · exact (N.keptN K).srcDrop (k := k + 1) c _ (.inl rfl)
    have one1 := netCells_one (ps := ps.take k) (fun p hp => N.ok p (List.mem_of_mem_take hp))
    have one2 := netCells_one (ps := ps.drop (k + 1)) (fun p hp => N.ok p (List.mem_of_mem_drop hp))
    have k3 : ∀ w3, ((w.alloc (.cells #[] 29)).drew).grownBy w3 (Value.slice (some ⟨w.heap.size, 0, none⟩) 0 0).ownBlock → Kept (fun _ => False) w w3 := fun w3 hg =>
      KE2.trans (Kept.grown (S := fun k => w.heap.size ≤ k) hg (fun _ e => Nat.le_of_eq (Option.some.inj e))) (fun _ h => .inr h)
    have k4 : ∀ (w3 w4 : World) (v3 : Value) (n3 : Nat) (xs3 : List Value), Kept (fun _ => False) w w3 → w3.ownsRow w.heap.size 29 3 v3 n3 xs3 → w3.grownBy w4 v3.ownBlock → Kept (fun _ => False) w w4 := fun w3 w4 v3 n3 xs3 K3 ho hg =>
      K3.trans (Kept.grown (S := fun k => w.heap.size ≤ k) hg (fun k e => (ho.lt k e).1)) (fun _ h => .inr h)
    have hlen : (ps.take k ++ ps.drop (k + 1)).length = k + (ps.length - (k + 1)) := by simp; omega
    have fin : ∀ (w4 : World) (v4 : Value), Kept (fun _ => False) w w4 → w4.ownsRow w.heap.size 29 3 v4 (k + (ps.length - (k + 1))) (netCells (ps.take k) ++ netCells (ps.drop (k + 1))) → NetTo 44 (hdR most) w S d ((ps.take k ++ ps.drop (k + 1)).map PV.pure) (w4.setCell ⟨d, 1, none⟩ v4) := fun w4 v4 K4 ho => by
      have hd4 := (K4.block d hdz (fun h => h)).trans N.head
      refine N.relay (by decide) (fun p hp => ?_) (by rw [hlen]; omega) K4 (by rw [hlen, netCells_append]; exact ho) (Kept.setCell _ _ _ rfl) (by simp [World.setCell, Array.getElem?_modify, hd4])
      rcases List.mem_append.1 hp with h | h
      · exact List.mem_of_mem_take h
      · exact List.mem_of_mem_drop h
    obtain ⟨_, y1, _, y2⟩ := hS _ KE
    have c1 : (k : Int) < (ps.length : Int) := by omega
    have c2 : (k : Int) ≤ (cap : Int) := by omega
    have c3 : k ≤ cap := by omega
    have c4 : IntKind.i64.wrap ((k : Int) + 1) = (k : Int) + 1 := by rw [IntKind.wrap_i64]; omega
    have c5 : k + 1 ≤ ps.length := by omega
    have c6 : (k : Int) + 1 ≤ (ps.length : Int) := by omega
    have c7 : (0 : Int) ≤ (k : Int) + 1 := by omega
    have c8 : (ps.length : Int) ≤ (cap : Int) := by omega
    have c9 : ¬ (ps.length : Int) ≤ (k : Int) := by omega
    have hd : decide ((k : Int) < 0) = false := by simp
    generalize hL : List.map PV.pure (ps.take k ++ ps.drop (k + 1)) = L' at fin ⊢
    clear hL
    have HS : Hid _ := hS
    have HF : Hid _ := fin
    have HK3 : Hid _ := k3
    have HK4 : Hid _ := k4
    have HS2 : Hid _ := src2
    clear hS fin k3 k4 src2 N KE KE2 hb hlen
    go_enter Try.func18, Try.ntmps18
    go_wp2_with fail
    go_region_law
      (first
        | (refine step_append_sr _ (by rfl) _ _ _ (by rfl) w.heap.size 29 i0 _ 3 40 Try.underlying39 hi hz0 hz1 hz2 rfl (by decide) (.slice a3 k c3') k _ (by rfl) ho3 _ (by rfl) (ps.length - (k + 1)) _ (HS2.out w3 K3 _) one2 (by unfold maxLen; omega) (by omega) K3.size ?_; intro a4 c4' w4 ho4 hg4 _ _; have K4 := HK4.out w3 w4 _ _ _ K3 ho3 hg4; obtain ⟨_, x7, _, x8⟩ := HS.out w4 K4)
        | (refine step_append_sr _ (by rfl) _ _ _ (by rfl) w.heap.size 29 i0 _ 3 40 Try.underlying39 hi hz0 hz1 hz2 rfl (by decide) (.slice (some ⟨w.heap.size, 0, none⟩) 0 0) 0 [] (by rfl) hem _ (by rfl) k _ src1 one1 (by unfold maxLen; omega) (by omega) (by simp) ?_; intro a3 c3' w3 ho3 hg3 _ _; simp only [Nat.zero_add, List.nil_append] at ho3 ⊢; have K3 := HK3.out w3 hg3; obtain ⟨_, x5, _, x6⟩ := HS.out w3 K3; clear hem)
        | fail)
    all_goals go_wp2
    all_goals go_ret
    all_goals exact ⟨rfl, HF.out w4 _ K4 ho4⟩

set_option maxRecDepth 100000 in
set_option maxHeartbeats 1000000 in
theorem refTake_any (N : NetR most w S d v ps) (i : Int) :
    Calls Try.prog 14 #[.pointer (some ⟨d, 0, none⟩), .int .i64 i] w fun e w' =>
      CopyOf w.heap.size (atX (ps.map PV.pure) i) e w' ∧ NetTo 44 (hdR most) w S d (dropX (ps.map PV.pure) i) w' := by
  have K0 : Kept (fun _ => False) w (w.alloc (.cells #[.int .i64 0, .int .i64 0, .slice none 0 0] 29)) := Kept.alloc _ _ _
  have N0 := N.keptN K0
  have hL := refLook_any N0 i
  have hsz : ((w.alloc (.cells #[.int .i64 0, .int .i64 0, .slice none 0 0] 29))).heap.size = w.heap.size + 1 := by simp
  have hbnd := N.bnd
  generalize hx : atX (ps.map PV.pure) i = o at *
  generalize hl : dropX (ps.map PV.pure) i = l' at *
  obtain ⟨fr, to, bs, hpx⟩ : ∃ fr to bs, o.getD px0 = (fr, to, bs) := ⟨_, _, _, rfl⟩
  unfold Given CopyOf at hL
  unfold CopyOf
  rw [hpx, hsz] at hL
  rw [hpx]
  simp only at hL ⊢
  have k1 := fun (w1 : World) (a1 : Option Addr) (c1 : Nat) (K1 : Kept (fun _ => False) (w.alloc (.cells #[.int .i64 0, .int .i64 0, .slice none 0 0] 29)) w1) => (N0.keptN K1).keptN (Kept.alloc (fun _ => False) w1 (.cells #[.int .i64 fr, .int .i64 to, .slice a1 bs.length c1] 29))
  have hD := fun w1 a1 c1 K1 => refDrop_any (k1 w1 a1 c1 K1) i
  rw [hl] at hD
  have low : ∀ k, w.heap.size ≤ k → ¬ S k := fun k hk hs => by have := hbnd k hs; omega
  have k2 := fun (w1 w2 : World) (a1 : Option Addr) (c1 : Nat) (K1 : Kept (fun _ => False) (w.alloc (.cells #[.int .i64 0, .int .i64 0, .slice none 0 0] 29)) w1) (T : NetTo 44 (hdR most) (w1.alloc (.cells #[.int .i64 fr, .int .i64 to, .slice a1 bs.length c1] 29)) S d l' w2) => show _ ∧ _ by
    obtain ⟨_, _, _, _, _, K2, _⟩ := T
    exact ⟨three ((K2.block w.heap.size (by have := K1.size; simp at this ⊢; omega) (low _ (Nat.le_refl _))).trans ((Below.heap_alloc w1 _ _ (by have := K1.size; simp at this; omega)).trans ((K1.block _ (by rw [hsz]; omega) (fun h => h)).trans (heap_alloc_new w _)))),
     three ((K2.block w1.heap.size (by simp) (low _ (by have := K1.size; simp at this; omega))).trans (heap_alloc_new w1 _))⟩
  have HD : Hid _ := hD
  have HK2 : Hid _ := k2
  clear hD k2 k1 N N0
  go_enter Try.func14, Try.ntmps14
  go_wp2_with (first
    | (go_at_call 22; refine hL.mono ?_; rintro e w1 ⟨⟨a1, c1, rfl, ho1, hby, hsh⟩, K1⟩; clear hL; have hD := HD.out w1 a1 c1 K1; have k2 := fun w2 => HK2.out w1 w2 a1 c1 K1; clear HD HK2)
    | (go_at_call 18; refine hD.mono ?_; rintro e w2 ⟨rfl, T2⟩; clear hD; obtain ⟨⟨p0, p1, p2, f0, f1, f2⟩, r0, r1, r2, _, _, _⟩ := k2 w2 T2; clear k2)
    | fail)
  refine bodyPost_ret (v := .tuple #[.agg #[.int .i64 fr, .int .i64 to, .slice a1 bs.length c1], .bool o.isSome]) (by simp [results, Try.results14, go_sem, p0, p1, p2]) rfl ?_
  obtain ⟨S2, v2, ps2, N2, hp2, K2, hS2⟩ := T2
  have K3 := Kept.set3 w2 w.heap.size (.int .i64 fr) (.int .i64 to) (.slice a1 bs.length c1)
  have hz1 := K1.size
  rw [hsz] at hz1
  have low2 : ¬ S2 w.heap.size := fun h => by
    rcases hS2 _ h with h | h
    · exact low _ (Nat.le_refl _) h
    · simp at h; omega
  refine ⟨⟨a1, c1, rfl, ?_, hby, hsh⟩, S2, v2, ps2, N2.kept K3 (fun k hk e => low2 (by have e' : k = w.heap.size := e; exact e' ▸ hk)), hp2, ?_, ?_⟩
  · have hlt := fun k hk => (ho1.lt k hk)
    refine ownsRow_low (base := w.heap.size + 1) ?_ (Nat.le_succ _)
    refine ownsRow_blk ho1 (fun k hk => ?_)
    have := hlt k hk
    refine (K3.block k (Nat.lt_of_lt_of_le (by simp; omega) K2.size) (fun e => by have e' : k = w.heap.size := e; omega)).trans ?_
    exact (K2.block k (by simp; omega) (low k (by omega))).trans (Below.heap_alloc _ _ _ this.2)
  · refine Kept.trans ?_ K3 (fun k e => .inr (Nat.le_of_eq e.symm))
    exact (((K0.and K1).and (Kept.alloc _ _ _)).mono (fun _ h => h.elim)).and K2
  · intro k hk
    rcases hS2 k hk with h | h
    · exact .inl h
    · simp at h; exact .inr (by omega)

set_option maxRecDepth 100000 in
set_option maxHeartbeats 1000000 in
theorem refDouble_any (N : NetR most w S d v ps) (hl : ps.length < 1000) (i : Int) :
    Calls Try.prog 20 #[.pointer (some ⟨d, 0, none⟩), .int .i64 i] w fun e w' =>
      e = .returned (.bool (inB ps.length i && !decide (most ≤ (ps.length : Int)))) ∧ NetTo 44 (hdR most) w S d (doubleX most (ps.map PV.pure) i) w' := by
  have hL := refLook_any N i
  cases hb : inB ps.length i with
  | false =>
    have e1 : doubleX most (ps.map PV.pure) i = ps.map PV.pure := by simp [doubleX, atX, hb]
    have e2 : atX (ps.map PV.pure) i = none := by simp [atX, hb]
    rw [e1]
    rw [e2] at hL
    simp only [Bool.false_and]
    have HN : Hid (NetR most w S d v ps) := N
    unfold Given CopyOf at hL
    simp only [Option.getD_none, Option.isSome_none, px0] at hL
    clear hb e1 N e2
    go_enter Try.func20, Try.ntmps20
    go_wp2_with (first
      | (go_at_call 22; refine hL.mono ?_; rintro e w1 ⟨⟨a1, c1, rfl, ho1, hby, hsh⟩, K1⟩; clear hL)
      | fail)
    go_ret
    exact ⟨rfl, NetTo.same HN.out (K1.and (Kept.alloc _ _ _))⟩
  | true =>
    obtain ⟨k, rfl, hk⟩ := inB_yes hb
    have hat : atX (ps.map PV.pure) (k : Int) = some ps[k].pure := by simp [atX, hb, hk]
    have e1 : doubleX most (ps.map PV.pure) (k : Int) = sendX most (ps.map PV.pure) ps[k].pure := by simp [doubleX, hat]
    rw [e1]
    rw [hat] at hL
    simp only [Bool.true_and]
    unfold Given CopyOf at hL
    simp only [Option.getD_some, Option.isSome_some, PV.pure] at hL
    have hSn := fun (w1 : World) (a1 : Option Addr) (c1 : Nat) (K1 : Kept (fun _ => False) w w1) (ho1 : w1.ownsRow w.heap.size 5 1 (.slice a1 ps[k].bs.length c1) ps[k].bs.length (ps[k].bs.map (Value.int .u8))) (hby : ∀ y ∈ ps[k].bs, 0 ≤ y ∧ y ≤ 255) (hsh : ps[k].bs.length ≤ 200) =>
      refSend_any (N.keptN (K1.and (Kept.alloc (fun _ => False) w1 (.cells #[.int .i64 ps[k].fr, .int .i64 ps[k].to, .slice a1 ps[k].bs.length c1] 29)))) hl ps[k].fr ps[k].to a1 _ c1 ps[k].bs ((BytesAt.ofRow ho1 hby).kept (Kept.alloc (fun _ => False) _ _) (fun _ _ _ h => h)) hsh
    have HSn : Hid _ := hSn
    have hp : ps[k].pure = (ps[k].fr, ps[k].to, ps[k].bs) := rfl
    rw [hp]
    clear hSn hb e1 hat N hp
    generalize ps[k].fr = fr at *
    generalize ps[k].to = to at *
    generalize ps[k].bs = bs at *
    generalize sendX most (ps.map PV.pure) (fr, to, bs) = L' at *
    go_enter Try.func20, Try.ntmps20
    go_wp2_with (first
      | (go_at_call 22; refine hL.mono ?_; rintro e w1 ⟨⟨a1, c1, rfl, ho1, hby, hsh⟩, K1⟩; clear hL; have hSn := HSn.out w1 a1 c1 K1 ho1 hby hsh; clear HSn)
      | (go_at_call 12; refine hSn.mono ?_; rintro e w2 ⟨rfl, T2⟩; clear hSn)
      | fail)
    go_ret
    obtain ⟨S2, v2, ps2, N2, hp2, K2, hS2⟩ := T2
    refine ⟨rfl, S2, v2, ps2, N2, hp2, ((K1.and (Kept.alloc _ _ _)).mono (fun _ h => h.elim)).and K2, fun k hk => (hS2 k hk).imp id (fun h => Nat.le_trans (K1.and (Kept.alloc _ _ _)).size h)⟩

end

end Go.Proofs.Ythpamcfemhimcaa
