/-
  'does': one call on both disks.
-/
import Derived.Test.YtdbmefjagggnoaaDoes14
import Derived.Test.YtdbmefjagggnoaaDoes16
import Derived.Test.YtdbmefjagggnoaaSame
namespace Go.Proofs.Ytdbmefjagggnoaa
open Go.RowKit Go.Maps Go.ChangeMaps Go.MapKept

/-- A call, as the law has it: what it does, its file, its numbers, its bytes, its cuts. -/
def opV (x0 x1 x2 x3 : Int) (a : Option Addr) (m c : Nat) (vc : Value) : Value := .agg #[.int .i64 x0, .int .i64 x1, .int .i64 x2, .int .i64 x3, .slice a m c, vc]

theorem lent_bytes {w : World} {base g m cap : Nat} {b : List Int} (ho : w.ownsRow base 5 1 (.slice (some ⟨g, 0, none⟩) (m + 4) cap) (m + 4) (lentOf b)) (hm : b.length = m) (hb : ∀ y ∈ b, 0 ≤ y ∧ y ≤ 255) : BytesAt w (some ⟨g, 0, none⟩) m cap b := by
  have hl : (b ++ [201, 202, 203, 204]).length = m + 4 := by rw [List.length_append, hm]; rfl
  have e : lentOf b = (b ++ [201, 202, 203, 204]).map (Value.int .u8) := by simp [lentOf]
  rw [e, ← hl] at ho
  have B := BytesAt.ofRow ho (fun y hy => by
    rcases List.mem_append.1 hy with h | h
    · exact hb y h
    · simp at h; omega)
  have B2 := B.take (h := m) (by omega)
  rwa [List.take_left' hm] at B2

section
variable {w : World} {lo d r j : Nat} {x0 x1 x2 x3 : Int} {a : Option Addr} {m c : Nat} {b : List Int} {vc : Value} {cs : List Int}

set_option maxRecDepth 100000 in
set_option maxHeartbeats 4000000 in
theorem does_append (Bo : Both w lo d r j) (hj : j ≤ 200) (ht : x0 % 7 = 0 ∨ x0 % 7 = 1) (h1 : isI64 x1) (B : BytesAt w a m c b) (hB : b ≠ [] → ∀ ad, a = some ad → ad.block < lo) :
    Calls Try.prog 9 #[.pointer (some ⟨d, 0, none⟩), .pointer (some ⟨r, 0, none⟩), .agg #[.int .i64 x0, .int .i64 x1, .int .i64 x2, .int .i64 x3, .slice a m c, vc]] w fun e w' => e = .returned (.bool true) ∧ Both w' lo d r (j + 1) ∧ Below lo w w' := by
  obtain ⟨n, L, st, rs, S1, bf, bq, G, C, S2, vL, vF, M, D, R, hd, hlo, hw, hs, hb, hn⟩ := Bo
  have bn := hn.n
  have bl := hn.L
  have bf1 := hn.files
  have bq1 := hn.faults
  have bc := hn.count
  have ho := hs.ops
  have hML := R.len
  have hc : rs.count < 4611686018427387904 := by omega
  have he := hs.err hc x1
  have hWi : ∀ W, _ := fun W => within_any W x0 7 (by decide) (by decide)
  have KA : Kept (fun _ => False) w (w.alloc (.cells #[.int .i64 x0, .int .i64 x1, .int .i64 x2, .int .i64 x3, .slice a m c, vc] 31)) := Kept.alloc _ _ _
  have hbx : ∀ k, S1 k ∨ S2 k → k < w.heap.size := fun k h => h.elim (D.bnd k) (R.bnd k)
  have hclip := clip_any (w.alloc (.cells #[.int .i64 x0, .int .i64 x1, .int .i64 x2, .int .i64 x3, .slice a m c, vc] 31)) a m c B.cap
  have BC : BytesAt w a (min m 200) c (b.take 200) := by
    have h := B.take (h := min m 200) (by omega)
    have hl := B.len
    have e : b.take (min m 200) = b.take 200 := by rw [List.take_eq_take_iff]; omega
    rwa [e] at h
  have hBC : b.take 200 ≠ [] → ∀ ad, a = some ad → ad.block < lo := fun hne => hB (fun e => hne (by rw [e]; rfl))
  have hmm : min m 200 ≤ 200 := Nat.min_le_right _ _
  generalize b.take 200 = p at *
  generalize min m 200 = q at *
  have hLe := lend_any _ a q c p (BC.kept KA (fun _ _ _ h => h)) (by omega)
  have hpl := BC.len
  have hpb := BC.byte
  have HBC : Hid _ := BC
  have hsv : x0 % 7 = 0 ∨ x0 % 7 = 1 := ht
  have hAp : ∀ W g cap, Kept (fun _ => False) w W → W.ownsRow (w.heap.size + 1) 5 1 (.slice (some ⟨g, 0, none⟩) (q + 4) cap) (q + 4) (lentOf p) → ¬ S1 g → _ := fun W g cap K ho2 hg => append_any (D.kept K (fun _ _ h => h)) x1 h1 (lent_bytes ho2 hpl hpb) (fun _ ad e => by cases e; exact hg) (by omega) (by omega) (by omega)
  have hRp : ∀ W W1, Kept (fun _ => False) w W → Kept S1 W W1 → Calls Try.prog 38 #[.pointer (some ⟨r, 0, none⟩), .int .i64 x1, .slice a q c] W1 fun e w' => e = .returned (.int .i64 (rs.err x1)) ∧ RefTo W1 S2 r (rs.append x1 p) w' := fun W W1 K K1 => by
    refine refAppend_any ((R.kept K (fun _ _ h => h)).kept K1 (fun k h2 h1 => hd k h1 h2)) hb hs.rising x1 (by omega) (by omega) hc ((HBC.out.kept K (fun _ _ _ h => h)).kept K1 (fun hne ad e h => ?_)) (fun hne ad e h => ?_) ?_
    · have := hBC hne ad e; have := hlo _ (.inl h); omega
    · have := hBC hne ad e; have := hlo _ (.inr h); omega
    · have := sim_bytes_len D hs x1; omega
  have HAp : Hid _ := hAp
  have HRp : Hid _ := hRp
  have HJ : Hid (∀ (W w1 w2 w3 : World) (S1x : Nat → Prop) (Gx Cx : Int → Nat) (g : Nat), Kept (fun _ => False) w W → DiskIn w1 S1x d (n + 1) (L + q) (st.append x1 p) bf bq Gx Cx → Kept S1 W w1 → (∀ k, S1x k → S1 k ∨ W.heap.size ≤ k) → RefTo w1 S2 r (rs.append x1 p) w2 → ¬ S1 g → ¬ S2 g → g < W.heap.size → lo ≤ g → Kept (fun k => k = g) w2 w3 → Both w3 lo d r (j + 1) ∧ Below lo W w3) := fun W w1 w2 w3 S1x Gx Cx g K D1 K1 hS1 T hg1 hg2 hgw hgl K3 => by
    have hq := hn.append x1 p (by omega)
    rw [hpl] at hq
    exact Both.join3 (R.kept K (fun _ _ h => h)) hd hlo (Nat.le_trans hw K.size) D1 K1 hS1 T (hs.append hc x1 p) (hb.append x1 p) hq hg1 hg2 hgw hgl K3
  have HBX : Hid _ := hbx
  have HLO : Hid (lo ≤ w.heap.size) := hw
  have HE : Hid _ := he
  have HBCd : Hid (∀ W W1 w2, Kept (fun _ => False) w W → Kept S1 W W1 → RefTo W1 S2 r (rs.append x1 p) w2 → BytesAt w2 a q c p) := fun W W1 w2 K K1 T => by
    obtain ⟨_, _, _, _, _, K2, _⟩ := T
    refine ((HBC.out.kept K (fun _ _ _ h => h)).kept K1 (fun hne ad e h => ?_)).kept K2 (fun hne ad e h => ?_)
    · have := hBC hne ad e; have := hlo _ (.inl h); omega
    · have := hBC hne ad e; have := hlo _ (.inr h); omega
  clear D R hd hlo hs hb hn hAp hRp B BC hB hBC hbx he ho ht
  generalize x0 % 7 = sv at *
  generalize rs.err x1 = er at *
  rcases hsv with rfl | rfl
  all_goals
    go_enter Try.func9, Try.ntmps9
    go_wp2_with (first
      | (go_at_call 20; refine (hWi _).mono ?_; rintro e w0 ⟨rfl, hw0⟩; subst w0; clear hWi)
      | (go_at_call 19; refine hclip.mono ?_; rintro e w0 ⟨rfl, hw0⟩; subst w0; clear hclip)
      | (go_at_call 21; refine hLe.mono ?_; rintro e w2 ⟨g, cap, rfl, ho2, K2⟩; have hsz : (w.alloc (.cells #[.int .i64 x0, .int .i64 x1, .int .i64 x2, .int .i64 x3, .slice a m c, vc] 31)).heap.size = w.heap.size + 1 := (by simp); rw [hsz] at ho2; have KW := KA.and K2; have hgl := ho2.lt g rfl; have hg1 : ¬ S1 g := (fun h => by have := HBX.out g (.inl h); omega); have hg2 : ¬ S2 g := (fun h => by have := HBX.out g (.inr h); omega); have hb1 : ¬ S1 w.heap.size := (fun h => by have := HBX.out _ (.inl h); omega); have hb2 : ¬ S2 w.heap.size := (fun h => by have := HBX.out _ (.inr h); omega); have hA := HAp.out w2 g cap KW ho2 hg1; rw [HE.out] at hA; have HO2 : Hid (w2.ownsRow (w.heap.size + 1) 5 1 (.slice (some ⟨g, 0, none⟩) (q + 4) cap) (q + 4) (lentOf p)) := ho2; have y1 : w2.cell? ⟨w.heap.size, 1, none⟩ = some (.int .i64 x1) := cell_kp K2 (by simp) (fun h => h); clear hLe ho2)
      | (go_at_call 37; refine hA.mono ?_; rintro e w3 ⟨rfl, S3, G3, C3, D3, K3, hS3⟩; have hR := HRp.out w2 w3 KW K3; have y2 := cell_kp K3 y1 hb1; have HD3 : Hid _ := D3; have HS3 : Hid _ := hS3; clear hA D3 hS3)
      | (go_at_call 38; refine hR.mono ?_; rintro e w4 ⟨rfl, T⟩; have HT : Hid _ := T; have hI := intact_any w4 (w.heap.size + 1) g q cap a c p (HBCd.out w2 w3 w4 KW K3 T) (by obtain ⟨_, _, _, _, _, K4, _⟩ := T; exact ownsRow_block (ownsRow_block HO2.out (fun k hk => K3.block k (HO2.out.lt k hk).2 (by cases hk; exact hg1))) (fun k hk => K4.block k (by have := (HO2.out.lt k hk).2; have := K3.size; omega) (by cases hk; exact hg2))) (by omega); clear hR T)
      | (go_at_call 23; refine hI.mono ?_; rintro e w5 ⟨rfl, K5⟩; clear hI)
      | fail)
    go_ret
    obtain ⟨J1, J2⟩ := HJ.out w2 w3 w4 w5 S3 G3 C3 g KW HD3.out K3 HS3.out HT.out hg1 hg2 hgl.2 (by omega) K5
    exact ⟨rfl, J1, (KW.below HLO.out (fun _ h => h.elim)).trans J2⟩
end

end Go.Proofs.Ytdbmefjagggnoaa
