/-
  'does': the calls beside Append.
-/
import Derived.Test.YtdbmefjagggnoaaDoes
namespace Go.Proofs.Ytdbmefjagggnoaa
open Go.RowKit Go.Maps Go.ChangeMaps Go.MapKept

theorem intInfoW : (Try.prog.info? 3).map (fun i => (i.zero, i.size, i.bytes)) = some (some (.int .i64 0), 1, 8) := by kernel_rfl

theorem i64_hi {x : Int} (h : isI64 x) : x ≤ 9223372036854775807 := (isI64_bd h).2

theorem oneCellsI (l : List Int) : ∀ u ∈ l.map (Value.int .i64), u.oneCell' = true := by
  intro u hu
  obtain ⟨x, _, rfl⟩ := List.mem_map.1 hu
  rfl

theorem IntsAt.src {w : World} {S : Nat → Prop} {v : Value} {l : List Int} (h : IntsAt w S v l) : Src w 1 v l.length (l.map (Value.int .i64)) := by
  obtain ⟨a, c, rfl, hc⟩ := h
  cases l with
  | nil =>
    cases a with
    | none => exact .inr ⟨c, rfl, rfl, rfl⟩
    | some ad => exact .inl ⟨ad, _, rfl, rfl, fun j u hu => by simp at hu⟩
  | cons x t =>
    obtain ⟨b, off, rfl, hl, _, hcell⟩ := hc (by simp)
    refine .inl ⟨⟨b, off, none⟩, c, rfl, by simp, fun j u hu => ?_⟩
    rw [List.getElem?_map] at hu
    cases hj : (x :: t)[j]? with
    | none => rw [hj] at hu; cases hu
    | some y =>
      rw [hj] at hu
      cases hu
      have := hcell j y hj
      rw [Addr.add_lit]
      exact this

theorem both_same {w : World} {lo d r j : Nat} (Bo : Both w lo d r j) (hj : j ≤ 1000) : Calls Try.prog 12 #[.pointer (some ⟨d, 0, none⟩), .pointer (some ⟨r, 0, none⟩)] w fun e w' => e = .returned (.bool true) ∧ Kept (fun _ => False) w w' := by
  obtain ⟨n, L, st, rs, S1, bf, bq, G, C, S2, vL, vF, M, D, R, hd, hlo, hw, hs, hb, hn⟩ := Bo
  have bn := hn.n
  have bl := hn.L
  have bf1 := hn.files
  exact same_any D R hs (by omega) (by omega) (by rw [R.len]; omega)

section
variable {w : World} {lo d r j : Nat} {x0 x1 x2 x3 : Int} {a : Option Addr} {m c : Nat} {vc : Value} {cs : List Int} {av : Option Addr} {cv : Nat}

set_option maxRecDepth 100000 in
set_option maxHeartbeats 4000000 in
theorem does_sync (Bo : Both w lo d r j) (hj : j ≤ 200) (ht : x0 % 7 = 2) (h1 : isI64 x1) :
    Calls Try.prog 9 #[.pointer (some ⟨d, 0, none⟩), .pointer (some ⟨r, 0, none⟩), .agg #[.int .i64 x0, .int .i64 x1, .int .i64 x2, .int .i64 x3, .slice a m c, vc]] w fun e w' => e = .returned (.bool true) ∧ Both w' lo d r (j + 1) ∧ Below lo w w' := by
  obtain ⟨n, L, st, rs, S1, bf, bq, G, C, S2, vL, vF, M, D, R, hd, hlo, hw, hs, hb, hn⟩ := Bo
  have bn := hn.n
  have bl := hn.L
  have bf1 := hn.files
  have bq1 := hn.faults
  have bc := hn.count
  have ho := hs.ops
  have hML := R.len
  have hc : rs.count < 4611686018427387904 := by omega
  have hWi : ∀ W, _ := fun W => within_any W x0 7 (by decide) (by decide)
  rw [ht] at hWi
  have KA : Kept (fun _ => False) w (w.alloc (.cells #[.int .i64 x0, .int .i64 x1, .int .i64 x2, .int .i64 x3, .slice a m c, vc] 31)) := Kept.alloc _ _ _
  have hsz : (w.alloc (.cells #[.int .i64 x0, .int .i64 x1, .int .i64 x2, .int .i64 x3, .slice a m c, vc] 31)).heap.size = w.heap.size + 1 := by simp
  have hb1 : ¬ S1 w.heap.size := fun h => by have := D.bnd _ h; omega
  have hb2 : ¬ S2 w.heap.size := fun h => by have := R.bnd _ h; omega
  have D0 := D.kept KA (fun _ _ h => h)
  have R0 := R.kept KA (fun _ _ h => h)
  have hw0 : lo ≤ (w.alloc (.cells #[.int .i64 x0, .int .i64 x1, .int .i64 x2, .int .i64 x3, .slice a m c, vc] 31)).heap.size := by omega
  have b0 : Below lo w (w.alloc (.cells #[.int .i64 x0, .int .i64 x1, .int .i64 x2, .int .i64 x3, .slice a m c, vc] 31)) := KA.below hw (fun _ h => h.elim)
  have HD : Hid _ := D0
  have HR : Hid _ := R0
  have c1 : (w.alloc (.cells #[.int .i64 x0, .int .i64 x1, .int .i64 x2, .int .i64 x3, .slice a m c, vc] 31)).cell? ⟨w.heap.size, 1, none⟩ = some (.int .i64 x1) := by simp
  have HC1 : Hid _ := c1
  clear D R D0 R0 c1
  go_enter Try.func9, Try.ntmps9
  go_wp2_with (first
    | (go_at_call 20; refine (hWi _).mono ?_; rintro e w0 ⟨rfl, hw0'⟩; subst w0; clear hWi)
    | fail)
  refine wp_onlyN (does14 _ HD.out HR.out hd hlo hw0 hs hb hn hj h1 HC1.out hb1 hb2 ?_)
  intro v63 v64 v65 v66 v67 v68 v69 v70 w9 J
  have HJ : Hid _ := J
  clear J
  go_wp2
  go_ret
  exact ⟨rfl, HJ.out.1, b0.trans (((Kept.drew (fun _ => False) _).below hw0 (fun _ h => h.elim)).trans HJ.out.2)⟩

set_option maxRecDepth 100000 in
set_option maxHeartbeats 4000000 in
theorem does_delete (Bo : Both w lo d r j) (hj : j ≤ 200) (ht : x0 % 7 = 3) (h1 : isI64 x1) :
    Calls Try.prog 9 #[.pointer (some ⟨d, 0, none⟩), .pointer (some ⟨r, 0, none⟩), .agg #[.int .i64 x0, .int .i64 x1, .int .i64 x2, .int .i64 x3, .slice a m c, vc]] w fun e w' => e = .returned (.bool true) ∧ Both w' lo d r (j + 1) ∧ Below lo w w' := by
  obtain ⟨n, L, st, rs, S1, bf, bq, G, C, S2, vL, vF, M, D, R, hd, hlo, hw, hs, hb, hn⟩ := Bo
  have bn := hn.n
  have bl := hn.L
  have bf1 := hn.files
  have bq1 := hn.faults
  have bc := hn.count
  have ho := hs.ops
  have hML := R.len
  have hc : rs.count < 4611686018427387904 := by omega
  have hWi : ∀ W, _ := fun W => within_any W x0 7 (by decide) (by decide)
  rw [ht] at hWi
  have KA : Kept (fun _ => False) w (w.alloc (.cells #[.int .i64 x0, .int .i64 x1, .int .i64 x2, .int .i64 x3, .slice a m c, vc] 31)) := Kept.alloc _ _ _
  have hsz : (w.alloc (.cells #[.int .i64 x0, .int .i64 x1, .int .i64 x2, .int .i64 x3, .slice a m c, vc] 31)).heap.size = w.heap.size + 1 := by simp
  have hb1 : ¬ S1 w.heap.size := fun h => by have := D.bnd _ h; omega
  have hb2 : ¬ S2 w.heap.size := fun h => by have := R.bnd _ h; omega
  have D0 := D.kept KA (fun _ _ h => h)
  have R0 := R.kept KA (fun _ _ h => h)
  have hw0 : lo ≤ (w.alloc (.cells #[.int .i64 x0, .int .i64 x1, .int .i64 x2, .int .i64 x3, .slice a m c, vc] 31)).heap.size := by omega
  have b0 : Below lo w (w.alloc (.cells #[.int .i64 x0, .int .i64 x1, .int .i64 x2, .int .i64 x3, .slice a m c, vc] 31)) := KA.below hw (fun _ h => h.elim)
  have HD : Hid _ := D0
  have HR : Hid _ := R0
  have c1 : (w.alloc (.cells #[.int .i64 x0, .int .i64 x1, .int .i64 x2, .int .i64 x3, .slice a m c, vc] 31)).cell? ⟨w.heap.size, 1, none⟩ = some (.int .i64 x1) := by simp
  have HC1 : Hid _ := c1
  clear D R D0 R0 c1
  go_enter Try.func9, Try.ntmps9
  go_wp2_with (first
    | (go_at_call 20; refine (hWi _).mono ?_; rintro e w0 ⟨rfl, hw0'⟩; subst w0; clear hWi)
    | fail)
  refine wp_onlyN (does16 _ HD.out HR.out hd hlo hw0 hs hb hn hj h1 HC1.out hb1 hb2 ?_)
  intro v74 v75 v76 v77 v78 v79 v80 v81 w9 J
  have HJ : Hid _ := J
  clear J
  go_wp2
  go_ret
  exact ⟨rfl, HJ.out.1, b0.trans (((Kept.drew (fun _ => False) _).below hw0 (fun _ h => h.elim)).trans HJ.out.2)⟩

set_option maxRecDepth 100000 in
set_option maxHeartbeats 4000000 in
theorem does_fail (Bo : Both w lo d r j) (hj : j ≤ 200) (ht : x0 % 7 = 4) (h2 : isI64 x2) (h3 : isI64 x3) :
    Calls Try.prog 9 #[.pointer (some ⟨d, 0, none⟩), .pointer (some ⟨r, 0, none⟩), .agg #[.int .i64 x0, .int .i64 x1, .int .i64 x2, .int .i64 x3, .slice a m c, vc]] w fun e w' => e = .returned (.bool true) ∧ Both w' lo d r (j + 1) ∧ Below lo w w' := by
  obtain ⟨n, L, st, rs, S1, bf, bq, G, C, S2, vL, vF, M, D, R, hd, hlo, hw, hs, hb, hn⟩ := Bo
  have bn := hn.n
  have bl := hn.L
  have bf1 := hn.files
  have bq1 := hn.faults
  have bc := hn.count
  have ho := hs.ops
  have hML := R.len
  have hc : rs.count < 4611686018427387904 := by omega
  have hWi : ∀ W, _ := fun W => within_any W x0 7 (by decide) (by decide)
  rw [ht] at hWi
  have KA : Kept (fun _ => False) w (w.alloc (.cells #[.int .i64 x0, .int .i64 x1, .int .i64 x2, .int .i64 x3, .slice a m c, vc] 31)) := Kept.alloc _ _ _
  have hsz : (w.alloc (.cells #[.int .i64 x0, .int .i64 x1, .int .i64 x2, .int .i64 x3, .slice a m c, vc] 31)).heap.size = w.heap.size + 1 := by simp
  have hb1 : ¬ S1 w.heap.size := fun h => by have := D.bnd _ h; omega
  have hb2 : ¬ S2 w.heap.size := fun h => by have := R.bnd _ h; omega
  have D0 := D.kept KA (fun _ _ h => h)
  have R0 := R.kept KA (fun _ _ h => h)
  have hw0 : lo ≤ (w.alloc (.cells #[.int .i64 x0, .int .i64 x1, .int .i64 x2, .int .i64 x3, .slice a m c, vc] 31)).heap.size := by omega
  have b0 : Below lo w (w.alloc (.cells #[.int .i64 x0, .int .i64 x1, .int .i64 x2, .int .i64 x3, .slice a m c, vc] 31)) := KA.below hw (fun _ h => h.elim)
  have hF := fail_any D0 x2 x3 (by omega) h2 h3 (by omega)
  have HG : Hid (∀ w1, Kept S1 (w.alloc (.cells #[.int .i64 x0, .int .i64 x1, .int .i64 x2, .int .i64 x3, .slice a m c, vc] 31)) w1 → Calls Try.prog 44 #[.pointer (some ⟨r, 0, none⟩), .int .i64 x2, .int .i64 x3] w1 fun e w' => e = .returned (.tuple #[]) ∧ RefTo w1 S2 r (rs.fail x2 x3) w') := fun w1 K => refFail_any (R0.kept K (fun k h2 h1 => hd k h1 h2)) x2 x3 (by omega)
  have HJ : Hid (∀ w1 w2, DiskIn w1 S1 d (n + 1) L (st.failed x2 x3) bf bq G C → Kept S1 (w.alloc (.cells #[.int .i64 x0, .int .i64 x1, .int .i64 x2, .int .i64 x3, .slice a m c, vc] 31)) w1 → RefTo w1 S2 r (rs.fail x2 x3) w2 → Both w2 lo d r (j + 1) ∧ Below lo (w.alloc (.cells #[.int .i64 x0, .int .i64 x1, .int .i64 x2, .int .i64 x3, .slice a m c, vc] 31)) w2) := fun w1 w2 D1 K1 T => Both.join R0 hd hlo hw0 D1 K1 (fun _ h => .inl h) T (hs.fail hc x2 x3) (hb.fail x2 x3 (i64_hi h2)) (hn.fail x2 x3)
  clear D R D0 R0 hd hlo hs hb hn
  go_enter Try.func9, Try.ntmps9
  go_wp2_with (first
    | (go_at_call 20; refine (hWi _).mono ?_; rintro e w0 ⟨rfl, hw0'⟩; subst w0; clear hWi)
    | (go_at_call 43; refine hF.mono ?_; rintro e w1 ⟨rfl, D1, K1⟩; have hG := HG.out w1 K1; have y2 : w1.cell? ⟨w.heap.size, 2, none⟩ = some (.int .i64 x2) := cell_kp K1 (by simp) hb1; have y3 : w1.cell? ⟨w.heap.size, 3, none⟩ = some (.int .i64 x3) := cell_kp K1 (by simp) hb1; have HD1 : Hid _ := D1; clear hF D1)
    | (go_at_call 44; refine hG.mono ?_; rintro e w2 ⟨rfl, T⟩; have HT : Hid _ := T; clear hG T)
    | fail)
  go_ret
  obtain ⟨J1, J2⟩ := HJ.out w1 w2 HD1.out K1 HT.out
  exact ⟨rfl, J1, b0.trans J2⟩

set_option maxRecDepth 100000 in
set_option maxHeartbeats 4000000 in
theorem does_stop (Bo : Both w lo d r j) (hj : j ≤ 200) (ht : x0 % 7 = 5) (h2 : isI64 x2) :
    Calls Try.prog 9 #[.pointer (some ⟨d, 0, none⟩), .pointer (some ⟨r, 0, none⟩), .agg #[.int .i64 x0, .int .i64 x1, .int .i64 x2, .int .i64 x3, .slice a m c, vc]] w fun e w' => e = .returned (.bool true) ∧ Both w' lo d r (j + 1) ∧ Below lo w w' := by
  obtain ⟨n, L, st, rs, S1, bf, bq, G, C, S2, vL, vF, M, D, R, hd, hlo, hw, hs, hb, hn⟩ := Bo
  have bn := hn.n
  have bl := hn.L
  have bf1 := hn.files
  have bq1 := hn.faults
  have bc := hn.count
  have ho := hs.ops
  have hML := R.len
  have hc : rs.count < 4611686018427387904 := by omega
  have hWi : ∀ W, _ := fun W => within_any W x0 7 (by decide) (by decide)
  rw [ht] at hWi
  have KA : Kept (fun _ => False) w (w.alloc (.cells #[.int .i64 x0, .int .i64 x1, .int .i64 x2, .int .i64 x3, .slice a m c, vc] 31)) := Kept.alloc _ _ _
  have hsz : (w.alloc (.cells #[.int .i64 x0, .int .i64 x1, .int .i64 x2, .int .i64 x3, .slice a m c, vc] 31)).heap.size = w.heap.size + 1 := by simp
  have hb1 : ¬ S1 w.heap.size := fun h => by have := D.bnd _ h; omega
  have hb2 : ¬ S2 w.heap.size := fun h => by have := R.bnd _ h; omega
  have D0 := D.kept KA (fun _ _ h => h)
  have R0 := R.kept KA (fun _ _ h => h)
  have hw0 : lo ≤ (w.alloc (.cells #[.int .i64 x0, .int .i64 x1, .int .i64 x2, .int .i64 x3, .slice a m c, vc] 31)).heap.size := by omega
  have b0 : Below lo w (w.alloc (.cells #[.int .i64 x0, .int .i64 x1, .int .i64 x2, .int .i64 x3, .slice a m c, vc] 31)) := KA.below hw (fun _ h => h.elim)
  have hF := stop_any D0 x2 (by omega) h2
  have HG : Hid (∀ w1, Kept S1 (w.alloc (.cells #[.int .i64 x0, .int .i64 x1, .int .i64 x2, .int .i64 x3, .slice a m c, vc] 31)) w1 → Calls Try.prog 46 #[.pointer (some ⟨r, 0, none⟩), .int .i64 x2] w1 fun e w' => e = .returned (.tuple #[]) ∧ RefIn w' S2 r (rs.stopIn x2) vL vF M ∧ Kept S2 w1 w') := fun w1 K => refStop_any (R0.kept K (fun k h2 h1 => hd k h1 h2)) x2
  have HJ : Hid (∀ w1 w2, DiskIn w1 S1 d n L (st.stopped x2) bf bq G C → Kept S1 (w.alloc (.cells #[.int .i64 x0, .int .i64 x1, .int .i64 x2, .int .i64 x3, .slice a m c, vc] 31)) w1 → RefTo w1 S2 r (rs.stopIn x2) w2 → Both w2 lo d r (j + 1) ∧ Below lo (w.alloc (.cells #[.int .i64 x0, .int .i64 x1, .int .i64 x2, .int .i64 x3, .slice a m c, vc] 31)) w2) := fun w1 w2 D1 K1 T => Both.join R0 hd hlo hw0 D1 K1 (fun _ h => .inl h) T (hs.stopped x2) (hb.stopIn x2 (i64_hi h2)) (hn.stopIn x2)
  clear D R D0 R0 hd hlo hs hb hn
  go_enter Try.func9, Try.ntmps9
  go_wp2_with (first
    | (go_at_call 20; refine (hWi _).mono ?_; rintro e w0 ⟨rfl, hw0'⟩; subst w0; clear hWi)
    | (go_at_call 45; refine hF.mono ?_; rintro e w1 ⟨rfl, D1, K1⟩; have hG := HG.out w1 K1; have y2 : w1.cell? ⟨w.heap.size, 2, none⟩ = some (.int .i64 x2) := cell_kp K1 (by simp) hb1; have HD1 : Hid _ := D1; clear hF D1)
    | (go_at_call 46; refine hG.mono ?_; rintro e w2 ⟨rfl, R2, K2⟩; have HT : Hid _ := refTo_of R2 K2; clear hG R2)
    | fail)
  go_ret
  obtain ⟨J1, J2⟩ := HJ.out w1 w2 HD1.out K1 HT.out
  exact ⟨rfl, J1, b0.trans J2⟩

set_option maxRecDepth 100000 in
set_option maxHeartbeats 4000000 in
theorem does_crash (Bo : Both w lo d r j) (hj : j ≤ 200) (ht : x0 % 7 = 6) (hI : IntsAt w (fun k => lo ≤ k) (.slice av cs.length cv) cs) (hcl : cs.length ≤ 4398046511104) :
    Calls Try.prog 9 #[.pointer (some ⟨d, 0, none⟩), .pointer (some ⟨r, 0, none⟩), .agg #[.int .i64 x0, .int .i64 x1, .int .i64 x2, .int .i64 x3, .slice a m c, .slice av cs.length cv]] w fun e w' => e = .returned (.bool true) ∧ Both w' lo d r (j + 1) ∧ Below lo w w' := by
  obtain ⟨n, L, st, rs, S1, bf, bq, G, C, S2, vL, vF, M, D, R, hd, hlo, hw, hs, hb, hn⟩ := Bo
  have bn := hn.n
  have bl := hn.L
  have bf1 := hn.files
  have bq1 := hn.faults
  have bc := hn.count
  have ho := hs.ops
  have hML := R.len
  have hc : rs.count < 4611686018427387904 := by omega
  have hWi : ∀ W, _ := fun W => within_any W x0 7 (by decide) (by decide)
  rw [ht] at hWi
  have KA : Kept (fun _ => False) w (w.alloc (.cells #[.int .i64 x0, .int .i64 x1, .int .i64 x2, .int .i64 x3, .slice a m c, .slice av cs.length cv] 31)) := Kept.alloc _ _ _
  have hsz : (w.alloc (.cells #[.int .i64 x0, .int .i64 x1, .int .i64 x2, .int .i64 x3, .slice a m c, .slice av cs.length cv] 31)).heap.size = w.heap.size + 1 := by simp
  have hb1 : ¬ S1 w.heap.size := fun h => by have := D.bnd _ h; omega
  have hb2 : ¬ S2 w.heap.size := fun h => by have := R.bnd _ h; omega
  have D0 := D.kept KA (fun _ _ h => h)
  have R0 := R.kept KA (fun _ _ h => h)
  have hw0 : lo ≤ (w.alloc (.cells #[.int .i64 x0, .int .i64 x1, .int .i64 x2, .int .i64 x3, .slice a m c, .slice av cs.length cv] 31)).heap.size := by omega
  have b0 : Below lo w (w.alloc (.cells #[.int .i64 x0, .int .i64 x1, .int .i64 x2, .int .i64 x3, .slice a m c, .slice av cs.length cv] 31)) := KA.below hw (fun _ h => h.elim)
  obtain ⟨i1, hi1, hy0, hy1, hy2⟩ := info_parts intInfoW
  have IK : ∀ (W : World), Below lo w W → IntsAt W (fun k => lo ≤ k) (.slice av cs.length cv) cs := fun W K => hI.below K
  have IF : ∀ (W : World), Below lo w W → IntsAt W (fun _ => False) (.slice av cs.length cv) cs := fun W K => by
    obtain ⟨av', cv', e, hh⟩ := IK W K
    exact ⟨av', cv', e, fun hne => by obtain ⟨bb, off, q1, q2, q3, q4⟩ := hh hne; exact ⟨bb, off, q1, q2, fun h => h, q4⟩⟩
  have hz1 : ((w.alloc (.cells #[.int .i64 x0, .int .i64 x1, .int .i64 x2, .int .i64 x3, .slice a m c, .slice av cs.length cv] 31)).alloc (.cells #[] 3)).heap.size = w.heap.size + 2 := by simp
  have src : Src ((w.alloc (.cells #[.int .i64 x0, .int .i64 x1, .int .i64 x2, .int .i64 x3, .slice a m c, .slice av cs.length cv] 31)).alloc (.cells #[] 3)) 1 (.slice av cs.length cv) cs.length (cs.map (Value.int .i64)) := (IF _ (b0.trans ((Kept.alloc (fun _ => False) _ _).below hw0 (fun _ h => h.elim)))).src
  have hown : ((w.alloc (.cells #[.int .i64 x0, .int .i64 x1, .int .i64 x2, .int .i64 x3, .slice a m c, .slice av cs.length cv] 31)).alloc (.cells #[] 3)).ownsRow (w.heap.size + 1) 3 1 (.slice (some ⟨w.heap.size + 1, 0, none⟩) 0 0) 0 [] := by
    have := ownsRow_empty (w.alloc (.cells #[.int .i64 x0, .int .i64 x1, .int .i64 x2, .int .i64 x3, .slice a m c, .slice av cs.length cv] 31)) (w.heap.size + 1) 3 1 (by omega)
    rw [hsz] at this
    exact this
  have hIb : ∀ (W : World), Below lo w W → IntsAt W (fun _ => False) (.slice av cs.length cv) cs := IF
  have HIF : Hid _ := hIb
  have HB0 : Hid (Below lo w (w.alloc (.cells #[.int .i64 x0, .int .i64 x1, .int .i64 x2, .int .i64 x3, .slice a m c, .slice av cs.length cv] 31))) := b0
  have hbl : ∀ f ∈ rs.L, f.bytes.length ≤ 1099511627776 := fun f hf => Nat.le_trans (sim_len D hs f hf) (by omega)
  have HC : Hid (∀ W v, Kept (fun _ => False) (w.alloc (.cells #[.int .i64 x0, .int .i64 x1, .int .i64 x2, .int .i64 x3, .slice a m c, .slice av cs.length cv] 31)) W → W.ownsRow (w.heap.size + 1) 3 1 v cs.length (cs.map (Value.int .i64)) → Calls Try.prog 14 #[.pointer (some ⟨d, 0, none⟩), v] W fun e w' => e = .returned (.tuple #[]) ∧ ∃ S' G' C', DiskIn w' S' d (n + rs.L.length) L (st.crash (rs.L.map (·.n)) cs) bf bq G' C' ∧ IsKeys st (rs.L.map (·.n)) ∧ Kept S1 W w' ∧ ∀ k, S' k → S1 k ∨ W.heap.size ≤ k) := fun W v K ho => (crash_any (D0.kept K (fun _ _ h => h)) (by omega) (by omega) v cs (IntsAt.ofRow ho rfl (fun k h => by have := D.bnd k h; omega))).mono fun e w' ⟨he, S', G', C', l, ⟨hk, _⟩, D', K', hS'⟩ => by
    obtain rfl := hs.keys hk
    rw [List.length_map] at D'
    exact ⟨he, S', G', C', D', hk, K', hS'⟩
  have HG : Hid (∀ W w1, Kept (fun _ => False) (w.alloc (.cells #[.int .i64 x0, .int .i64 x1, .int .i64 x2, .int .i64 x3, .slice a m c, .slice av cs.length cv] 31)) W → Kept S1 W w1 → Calls Try.prog 47 #[.pointer (some ⟨r, 0, none⟩), .slice av cs.length cv] w1 fun e w' => e = .returned (.tuple #[]) ∧ RefTo w1 S2 r (rs.crash cs) w') := fun W w1 K K1 => refCrash_any ((R0.kept K (fun _ _ h => h)).kept K1 (fun k h2 h1 => hd k h1 h2)) (by omega) hbl _ cs (IF w1 ((b0.trans (K.below hw0 (fun _ h => h.elim))).trans (K1.below (Nat.le_trans hw0 K.size) (fun k h => hlo k (.inl h))))) (by omega)
  have HJ : Hid (∀ W w1 w2 S' G' C', Kept (fun _ => False) (w.alloc (.cells #[.int .i64 x0, .int .i64 x1, .int .i64 x2, .int .i64 x3, .slice a m c, .slice av cs.length cv] 31)) W → DiskIn w1 S' d (n + rs.L.length) L (st.crash (rs.L.map (·.n)) cs) bf bq G' C' → IsKeys st (rs.L.map (·.n)) → Kept S1 W w1 → (∀ k, S' k → S1 k ∨ W.heap.size ≤ k) → RefTo w1 S2 r (rs.crash cs) w2 → Both w2 lo d r (j + 1) ∧ Below lo W w2) := fun W w1 w2 S' G' C' K D1 hk K1 hS1 T => Both.join (R0.kept K (fun _ _ h => h)) hd hlo (Nat.le_trans hw0 K.size) D1 K1 hS1 T (hs.crash hk cs) (hb.crash cs) (hn.crash hj cs _ rfl)
  have HK : Hid (∀ (W w1 w2 : World) k, Kept S1 W w1 → RefTo w1 S2 r (rs.crash cs) w2 → k < W.heap.size → ¬ S1 k → ¬ S2 k → w2.heap[k]? = W.heap[k]?) := fun W w1 w2 k K1 T hk h1 h2 => by
    obtain ⟨_, _, _, _, _, K2, _⟩ := T
    exact (K2.block k (Nat.lt_of_lt_of_le hk K1.size) h2).trans (K1.block k hk h1)
  have HBX : Hid (∀ k, S1 k ∨ S2 k → k < w.heap.size) := fun k h => h.elim (D.bnd k) (R.bnd k)
  clear D R D0 R0 hd hlo hs hb hn IK IF hIb hbl hI
  go_enter Try.func9, Try.ntmps9
  go_wp2_with (first
    | (go_at_call 20; refine (hWi _).mono ?_; rintro e w0 ⟨rfl, hw0'⟩; subst w0; clear hWi)
    | (at_builtin; refine wpList_append_src _ rfl _ _ 29 rfl (w.heap.size + 1) 3 i1 (.int .i64 0) 1 8 Try.underlying29 hi1 hy0 hy1 hy2 rfl (by decide) (.slice (some ⟨w.heap.size + 1, 0, none⟩) 0 0) 0 [] rfl hown _ rfl cs.length _ src (oneCellsI _) (by unfold maxLen; omega) (by omega) (by omega) ?_; intro a2 c2 w2 ho2 hg2 _ _; simp only [Nat.zero_add, List.nil_append] at ho2 ⊢; have KW : Kept (fun _ => False) (w.alloc (.cells #[.int .i64 x0, .int .i64 x1, .int .i64 x2, .int .i64 x3, .slice a m c, .slice av cs.length cv] 31)) w2 := (Kept.alloc _ _ _).trans (Kept.grown (S := fun k => w.heap.size + 1 ≤ k) hg2 (fun k e => by cases e; exact Nat.le_refl _)) (fun k h => .inr (by omega)); have HO2 : Hid (w2.ownsRow (w.heap.size + 1) 3 1 (.slice a2 cs.length c2) cs.length (cs.map (Value.int .i64))) := ho2; have hC := HC.out w2 _ KW ho2; have y5 : w2.cell? ⟨w.heap.size, 5, none⟩ = some (.slice av cs.length cv) := cell_kp KW (by simp) (fun h => h); clear hown src ho2 hg2)
    | (go_at_call 14; refine hC.mono ?_; rintro e w3 ⟨rfl, S3, G3, C3, D3, hk3, K3, hS3⟩; have hG := HG.out w2 w3 KW K3; have y6 := cell_kp K3 y5 hb1; have HD3 : Hid _ := D3; have HK3 : Hid _ := hk3; have HS3 : Hid _ := hS3; clear hC D3 hk3 hS3)
    | (go_at_call 47; refine hG.mono ?_; rintro e w4 ⟨rfl, T⟩; obtain ⟨J1, J2⟩ := HJ.out w2 w3 w4 S3 G3 C3 KW HD3.out HK3.out K3 HS3.out T; have bl4 : Below lo w w4 := (HB0.out.trans (KW.below hw0 (fun _ h => h.elim))).trans J2; have hs2 := KW.size; have y7 : w4.cell? ⟨w.heap.size, 5, none⟩ = some (.slice av cs.length cv) := (by rw [World.cell?_of_block (w := w2) (HK.out w2 w3 w4 w.heap.size K3 T (by omega) hb1 hb2)]; exact y5); have hI4 := ints_same w4 (.slice a2 cs.length c2) (.slice av cs.length cv) cs (IntsAt.ofRow (S := fun _ => False) (ownsRow_block HO2.out (fun k hk => HK.out w2 w3 w4 k K3 T (HO2.out.lt k hk).2 (fun h => by have := HBX.out k (.inl h); have := (HO2.out.lt k hk).1; omega) (fun h => by have := HBX.out k (.inr h); have := (HO2.out.lt k hk).1; omega))) rfl (fun _ h => h.elim)) (HIF.out w4 bl4) (by omega); have HJ1 : Hid (Both w4 lo d r (j + 1)) := J1; have HBL : Hid (Below lo w w4) := bl4; clear hG T J1 J2 bl4)
    | (go_at_call 16; refine hI4.mono ?_; rintro e w5 ⟨rfl, nn, hw5⟩; subst w5; have KI : Kept (fun _ => False) w4 (w4.drewN nn) := Kept.drewN _ _ _; have BI : Both (w4.drewN nn) lo d r (j + 1) := Both.kept HJ1.out KI; have hSm := both_same BI (by omega); clear hI4)
    | (go_at_call 12; refine hSm.mono ?_; rintro e w6 ⟨rfl, K6⟩; clear hSm)
    | fail)
  go_ret
  have hlo4 : lo ≤ w4.heap.size := by have := HBL.out.size; omega
  exact ⟨rfl, Both.kept BI K6, (HBL.out.trans (KI.below hlo4 (fun _ h => h.elim))).trans (K6.below (Nat.le_trans hlo4 KI.size) (fun _ h => h.elim))⟩

end

end Go.Proofs.Ytdbmefjagggnoaa
