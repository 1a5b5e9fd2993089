/-
  The walk of CodecOps.
-/
import Derived.Test.YtceocmhgbcimoaaCXRdOps2
import Derived.Test.YtceocmhgbcimoaaCKeepOps
import Derived.Test.YtceocmhgbcimoaaCLawKit
namespace Go.Proofs.Ytceocmhgbcimoaa
open Go.ChangeShapes Go.WideShapes Go.ChangeAt Go.RowKit

theorem OpsAt.kept {S : Nat → Prop} {w w' : World} {a : Option Addr} {n c : Nat} {ops : List OpD} (O : OpsAt w a n c ops) (K : Kept S w w') (hS : 0 < n → ∀ ad, a = some ad → ¬ S ad.block) : OpsAt w' a n c ops := by
  refine ⟨O.len, O.cap, fun ad e hn => ?_, O.nil⟩
  obtain ⟨h1, h2⟩ := O.cells ad e hn
  refine ⟨h1, fun i o ho => ?_⟩
  obtain ⟨c0, c1, c2⟩ := h2 i o ho
  exact ⟨(cell_keep K c0 (hS hn ad e)).1, (cell_keep K c1 (hS hn ad e)).1, (cell_keep K c2 (hS hn ad e)).1⟩

theorem opsAt_nil (w : World) : OpsAt w none 0 0 [] := ⟨rfl, Nat.le_refl _, fun _ e _ => (by cases e), fun _ => rfl⟩

theorem opsAt_lt {w : World} {a : Option Addr} {n c : Nat} {ops : List OpD} (O : OpsAt w a n c ops) (h : 0 < n) (ad : Addr) (e : a = some ad) : ad.block < w.heap.size := by
  obtain ⟨h1, h2⟩ := O.cells ad e h
  have hl : 0 < ops.length := by have := O.len; omega
  have := (h2 0 ops[0] (List.getElem?_eq_getElem hl)).1
  exact World.block_lt_of_cell? w ⟨ad.block, ad.off + 0 * 3, none⟩ this

set_option maxRecDepth 100000 in
set_option maxHeartbeats 4000000 in
theorem ops_walk (ax : Option Addr) (nx cx : Nat) (ops : List OpD) (a : Option Addr) (len cap : Nat) (zs : List Int) (w : World) (O : OpsAt w ax nx cx ops) (hnx : nx ≤ 400000) (hB : opsB ops ≤ 100000000) (hsz : ∀ o ∈ ops, o.1.size ≤ 1048576 ∧ o.2.1.size ≤ 1048576) (hr : IsRow .u8 w a len cap zs) :
    Calls Try.prog 8 #[.slice ax nx cx, .slice a len cap] w fun e w' => e = .returned (.bool true) ∧ Below w.heap.size w w' := by
  have B := (hr.bytes).take (h := min len 3000) (by omega)
  have hcap := hr.bytes.cap
  have hm : min len 3000 ≤ 3000 := Nat.min_le_right _ _
  generalize (zs.take len).take (min len 3000) = raw at *
  have hclip := clip_any w a len cap hcap
  generalize min len 3000 = m at *
  clear hr
  have HB : Hid (∀ w', Kept (fun _ => False) w w' → BytesAt w' a m cap raw) := fun w' K => B.kept K (fun _ _ _ h => h)
  have hOX : Hid (∀ w', Kept (fun _ => False) w w' → OpsAt w' ax nx cx ops) := fun w' K => O.kept K (fun _ _ _ h => h)
  have hlow : Hid (∀ w', Kept (fun _ => False) w w' → 0 < nx → ∀ ad, ax = some ad → ad.block < w'.heap.size) := fun w' K h ad e => Nat.lt_of_lt_of_le (opsAt_lt O h ad e) K.size
  have hBs : Bs raw := B.byte
  have hlB := B.len
  have holen := O.len
  have hL : ∀ W, Kept (fun _ => False) w W → _ := fun W K => ops_any W ax nx cx ops (hOX.out W K) (hlow.out W K) hB
  have hF : ∀ W, Kept (fun _ => False) w W → _ := fun W K => refOps_any W ax nx cx ops (hOX.out W K) (hlow.out W K) hnx hsz
  have HF : Hid (∀ w', Kept (fun _ => False) w w' → Below w.heap.size w w') := fun w' K => K.none
  clear B O
  cases hst : wrOps (wrNum 0 4503599627370496 nx) ops with
  | none =>
    rw [hst] at hL hF
    cases hres : rdWhole rdOps raw with
    | error pl =>
      have tok1 : Hid True := trivial
      go_enter Try.func8, Try.ntmps8
      go_wp2_with (first
        | (go_at_call 39; refine hclip.mono ?_; rintro e wc ⟨rfl, hwc⟩; subst wc)
        | (go_at_call 46; have _t := tok1; refine (hL w (Kept.refl _ _)).mono ?_; rintro e w1 ⟨a1, l1, c1, er1, rfl, A1, K1⟩; obtain rfl : er1 = 2 := A1.err; obtain rfl : 0 = l1 := A1.len; clear tok1 _t)
        | (go_at_call 47; refine (hF w1 K1).mono ?_; rintro e w2 ⟨a2, l2, c2, er2, rfl, A2, K2⟩; obtain rfl : er2 = 2 := A2.err; obtain rfl : 0 = l2 := A2.len; have s1 := (A1.kept K2 (fun _ h => h.elim)).bytes.str; have s2 := A2.bytes.str; have KK6 := K1.and K2; have hw6 := KK6.size; simp only [Option.getD_none] at s1 s2; clear hF hL A1 A2 K1 K2)
        | (go_at_call 23; refine (lend_any _ a m cap raw (HB.out _ KK6) (by omega)).mono ?_; rintro e w7 ⟨gl, cl, rfl, ho7, K7⟩; have KK7 := KK6.and K7; have BL := lent_bytes ho7 hlB hBs; have hg7 := lent_block ho7; have HO7 : Hid _ := ho7; have hR8 := readOps_any w7 _ m cl raw BL (by omega); rw [hres] at hR8; clear ho7 K7 BL KK6)
        | (go_at_call 48; have _t := hR8; refine hR8.mono ?_; rintro e w8 ⟨rfl, K8⟩; have KK8 := KK7.and K8; have hR9 := xreadOps_any w8 a m cap raw (HB.out _ KK8) (by omega); rw [hres] at hR9; have HK8 : Hid _ := K8; clear _t hR8 K8 KK7)
        | (go_at_call 50; refine hR9.mono ?_; rintro e w9 ⟨rfl, K9⟩; have HK9 : Hid _ := HK8.out.and K9; have KK9 := KK8.and K9; have hI := intact_any w9 w2.heap.size gl m cl a cap raw (HB.out _ KK9) (rowKept HO7.out HK9.out) (by omega); clear hR9 K9 KK8)
        | (go_at_call 25; refine hI.mono ?_; rintro e w10 ⟨rfl, K10⟩; have KK10 := KK9.trans K10 (fun k h => .inr (Nat.le_trans hw6 (by have h7 := hg7.1; have h8 : k = gl := h; omega))); have hP11 := keepOps_any w10 none none 0 0 0 [] (opsAt_nil _) (opsAt_nil _) (by omega); clear hI K10 KK9)
        | (go_at_call 49; refine hP11.mono ?_; rintro e w11 ⟨rfl, K11⟩; have KK11 := KK10.and K11; clear hP11 K11 KK10)
        | (go_at_call 45; refine (wakes_any _).mono ?_; rintro e w12 ⟨rfl, K12⟩; have KKe := KK11.and K12)
        | fail)
      go_ret
      exact ⟨rfl, HF.out _ KKe⟩
    | ok y =>
      obtain ⟨n', xs⟩ := y
      obtain ⟨rfl, hagain, hsize⟩ := ops_back hBs hres
      have hxl : xs.length * 24 ≤ 36000 := by have h1 := opsB_len (xs.map unRd); rw [List.length_map] at h1; omega
      have tok1 : Hid True := trivial
      go_enter Try.func8, Try.ntmps8
      go_wp2_with (first
        | (go_at_call 39; refine hclip.mono ?_; rintro e wc ⟨rfl, hwc⟩; subst wc)
        | (go_at_call 46; have _t := tok1; refine (hL w (Kept.refl _ _)).mono ?_; rintro e w1 ⟨a1, l1, c1, er1, rfl, A1, K1⟩; obtain rfl : er1 = 2 := A1.err; obtain rfl : 0 = l1 := A1.len; clear tok1 _t)
        | (go_at_call 47; refine (hF w1 K1).mono ?_; rintro e w2 ⟨a2, l2, c2, er2, rfl, A2, K2⟩; obtain rfl : er2 = 2 := A2.err; obtain rfl : 0 = l2 := A2.len; have s1 := (A1.kept K2 (fun _ h => h.elim)).bytes.str; have s2 := A2.bytes.str; have KK6 := K1.and K2; have hw6 := KK6.size; simp only [Option.getD_none] at s1 s2; clear hF hL A1 A2 K1 K2)
        | (go_at_call 23; refine (lend_any _ a m cap raw (HB.out _ KK6) (by omega)).mono ?_; rintro e w7 ⟨gl, cl, rfl, ho7, K7⟩; have KK7 := KK6.and K7; have BL := lent_bytes ho7 hlB hBs; have hg7 := lent_block ho7; have HO7 : Hid _ := ho7; have hR8 := readOps_any w7 _ m cl raw BL (by omega); rw [hres] at hR8; clear ho7 K7 BL KK6)
        | (go_at_call 48; have _t := hR8; refine hR8.mono ?_; rintro e w8 ⟨⟨v8, rfl, ho8⟩, K8⟩; obtain ⟨a8, c8, rfl, O8, hb8⟩ := OpsAt.ofRow ho8 rfl; have KK8 := KK7.and K8; have hR9 := xreadOps_any w8 a m cap raw (HB.out _ KK8) (by omega); rw [hres] at hR9; have HK8 : Hid _ := K8; have HO8 : Hid _ := O8; have h8 := K8.size; have Hb8 : Hid _ := hb8; clear _t hR8 K8 KK7 ho8 O8 hb8)
        | (go_at_call 50; refine hR9.mono ?_; rintro e w9 ⟨⟨v9, rfl, ho9⟩, K9⟩; obtain ⟨a9, c9, rfl, O9, hb9⟩ := OpsAt.ofRow ho9 rfl; have HK9 : Hid _ := HK8.out.and K9; have KK9 := KK8.and K9; have hI := intact_any w9 w2.heap.size gl m cl a cap raw (HB.out _ KK9) (rowKept HO7.out HK9.out) (by omega); have O8' := HO8.out.kept K9 (fun _ _ _ h => h); have HO8' : Hid _ := O8'; have HO9 : Hid _ := O9; have Hb9 : Hid _ := hb9; have h9 := K9.size; clear hR9 K9 KK8 ho9 O9 O8' hb9)
        | (go_at_call 25; refine hI.mono ?_; rintro e w10 ⟨rfl, K10⟩; have KK10 := KK9.trans K10 (fun k h => .inr (Nat.le_trans hw6 (by have h7 := hg7.1; have h8 : k = gl := h; omega))); have OA := HO8'.out.kept K10 (fun hn ad e h => by have q := (Hb8.out ad e hn).1; have h' : ad.block = gl := h; omega); have OB := HO9.out.kept K10 (fun hn ad e h => by have q := (Hb9.out ad e hn).1; have h' : ad.block = gl := h; omega); have hP11 := keepOps_any w10 a8 a9 xs.length c8 c9 _ OA OB (by omega); have HOA : Hid _ := OA; clear hI K10 KK9 OA OB)
        | (go_at_call 49; have _t := hP11; refine hP11.mono ?_; rintro e w11 ⟨rfl, K11⟩; have KK11 := KK10.and K11; have OC := HOA.out.kept K11 (fun _ _ _ h => h); have hL4 := ops_any w11 a8 xs.length c8 _ OC (opsAt_lt OC) (by omega); rw [hagain] at hL4; clear hP11 _t K11 KK10 OC)
        | (go_at_call 46; have _t := hL4; refine hL4.mono ?_; rintro e w13 ⟨a4, l4, c4, er4, rfl, A4, K13⟩; obtain rfl : er4 = 0 := A4.err; obtain rfl : raw.length = l4 := A4.len; have KK13 := KK11.and K13; have t1 := A4.bytes.str; have t2 := (HB.out w13 KK13).str; simp only [Option.getD_some] at t1; rw [hlB] at t1; clear hL4 _t A4 K13 KK11)
        | (go_at_call 45; refine (wakes_any _).mono ?_; rintro e w12 ⟨rfl, K12⟩; have KKe := KK13.and K12)
        | fail)
      go_ret
      exact ⟨rfl, HF.out _ KKe⟩
  | some enc =>
    have hback := ops_fore holen hst
    have henc : enc.length ≤ 1000000000 := by
      obtain ⟨p, hp, hq⟩ := ops_len hst
      have : p.length ≤ 8 := by
        unfold wrNum at hp
        split at hp
        · cases hp
          have := sz_le (Int.toNat (nx : Int))
          rw [numB_length]; omega
        · cases hp
      omega
    rw [hst] at hL hF
    cases hres : rdWhole rdOps raw with
    | error pl =>
      have tok1 : Hid True := trivial
      have tok2 : Hid True := trivial
      go_enter Try.func8, Try.ntmps8
      go_wp2_with (first
        | (go_at_call 39; refine hclip.mono ?_; rintro e wc ⟨rfl, hwc⟩; subst wc)
        | (go_at_call 46; have _t := tok1; refine (hL w (Kept.refl _ _)).mono ?_; rintro e w1 ⟨a1, l1, c1, er1, rfl, A1, K1⟩; obtain rfl : er1 = 0 := A1.err; obtain rfl : enc.length = l1 := A1.len; clear tok1 _t)
        | (go_at_call 47; refine (hF w1 K1).mono ?_; rintro e w2 ⟨a2, l2, c2, er2, rfl, A2, K2⟩; obtain rfl : er2 = 0 := A2.err; obtain rfl : enc.length = l2 := A2.len; have A1' := A1.kept K2 (fun _ h => h.elim); have s1 := A1'.bytes.str; have s2 := A2.bytes.str; have KK2 := K1.and K2; have hR3 := readOps_any w2 _ _ _ _ A1'.bytes henc; simp only [Option.getD_some] at s1 s2 hR3; rw [hback] at hR3; have HA1 : Hid _ := A1; have HA1' : Hid _ := A1'; have HA2 : Hid _ := A2; clear hF A1 A1' A2 K1 K2)
        | (go_at_call 48; have _t := hR3; refine hR3.mono ?_; rintro e w3 ⟨⟨v3, rfl, ho3⟩, K3⟩; rw [List.length_map, holen] at ho3; obtain ⟨a3, c3, rfl, O3, _⟩ := OpsAt.ofRow ho3 (by rw [List.length_map]; exact holen); rw [un_to] at O3; have KK3 := KK2.and K3; have hP4 := keepOps_any w3 a3 ax nx c3 cx ops O3 (hOX.out w3 KK3) (by omega); have HK3 : Hid _ := K3; clear hR3 _t K3 KK2 ho3 O3)
        | (go_at_call 49; have _t := hP4; refine hP4.mono ?_; rintro e w4 ⟨rfl, K4⟩; have KK4 := KK3.and K4; have HK4 : Hid _ := HK3.out.and K4; have A14 := HA1'.out.kept HK4.out (fun _ h => h.elim); have A24 := HA2.out.kept HK4.out (fun _ h => h.elim); have hS5 := spoil_any w4 _ _ _ _ A14.row (by omega) KK4.size; have HA24 : Hid _ := A24; have HA14 : Hid _ := A14; clear hP4 _t K4 KK3 A14 A24 s1 s2)
        | (go_at_call 30; refine hS5.mono ?_; rintro e w5 ⟨rfl, K5⟩; have KK5 := KK4.trans K5 (fun k h => .inr (HA14.out.row.lt k h).1); have A25 := HA24.out.kept2 K5 (fun k h1 h2 => by have q1 := (HA1.out.row.lt k h1).2; have q2 := (HA24.out.row.lt k h2).1; omega); have HA25 : Hid _ := A25; clear hS5 K5 KK4 A25)
        | (go_at_call 46; have _t := tok2; refine (hL w5 KK5).mono ?_; rintro e w6 ⟨a6, l6, c6, er6, rfl, A6, K6⟩; obtain rfl : er6 = 0 := A6.err; obtain rfl : enc.length = l6 := A6.len; have s1 := A6.bytes.str; have s2 := (HA25.out.kept K6 (fun _ h => h.elim)).bytes.str; have KK6 := KK5.and K6; have hw6 := KK6.size; simp only [Option.getD_some] at s1 s2; clear hL tok2 _t A6 K6 KK5)
        | (go_at_call 23; refine (lend_any _ a m cap raw (HB.out _ KK6) (by omega)).mono ?_; rintro e w7 ⟨gl, cl, rfl, ho7, K7⟩; have KK7 := KK6.and K7; have BL := lent_bytes ho7 hlB hBs; have hg7 := lent_block ho7; have HO7 : Hid _ := ho7; have hR8 := readOps_any w7 _ m cl raw BL (by omega); rw [hres] at hR8; clear ho7 K7 BL KK6)
        | (go_at_call 48; have _t := hR8; refine hR8.mono ?_; rintro e w8 ⟨rfl, K8⟩; have KK8 := KK7.and K8; have hR9 := xreadOps_any w8 a m cap raw (HB.out _ KK8) (by omega); rw [hres] at hR9; have HK8 : Hid _ := K8; clear _t hR8 K8 KK7)
        | (go_at_call 50; refine hR9.mono ?_; rintro e w9 ⟨rfl, K9⟩; have HK9 : Hid _ := HK8.out.and K9; have KK9 := KK8.and K9; have hI := intact_any w9 w6.heap.size gl m cl a cap raw (HB.out _ KK9) (rowKept HO7.out HK9.out) (by omega); clear hR9 K9 KK8)
        | (go_at_call 25; refine hI.mono ?_; rintro e w10 ⟨rfl, K10⟩; have KK10 := KK9.trans K10 (fun k h => .inr (Nat.le_trans hw6 (by have h7 := hg7.1; have h8 : k = gl := h; omega))); have hP11 := keepOps_any w10 none none 0 0 0 [] (opsAt_nil _) (opsAt_nil _) (by omega); clear hI K10 KK9)
        | (go_at_call 49; refine hP11.mono ?_; rintro e w11 ⟨rfl, K11⟩; have KK11 := KK10.and K11; clear hP11 K11 KK10)
        | (go_at_call 45; refine (wakes_any _).mono ?_; rintro e w12 ⟨rfl, K12⟩; have KKe := KK11.and K12)
        | fail)
      go_ret
      exact ⟨rfl, HF.out _ KKe⟩
    | ok y =>
      obtain ⟨n', xs⟩ := y
      obtain ⟨rfl, hagain, hsize⟩ := ops_back hBs hres
      have hxl : xs.length * 24 ≤ 36000 := by have h1 := opsB_len (xs.map unRd); rw [List.length_map] at h1; omega
      have tok1 : Hid True := trivial
      have tok2 : Hid True := trivial
      go_enter Try.func8, Try.ntmps8
      go_wp2_with (first
        | (go_at_call 39; refine hclip.mono ?_; rintro e wc ⟨rfl, hwc⟩; subst wc)
        | (go_at_call 46; have _t := tok1; refine (hL w (Kept.refl _ _)).mono ?_; rintro e w1 ⟨a1, l1, c1, er1, rfl, A1, K1⟩; obtain rfl : er1 = 0 := A1.err; obtain rfl : enc.length = l1 := A1.len; clear tok1 _t)
        | (go_at_call 47; refine (hF w1 K1).mono ?_; rintro e w2 ⟨a2, l2, c2, er2, rfl, A2, K2⟩; obtain rfl : er2 = 0 := A2.err; obtain rfl : enc.length = l2 := A2.len; have A1' := A1.kept K2 (fun _ h => h.elim); have s1 := A1'.bytes.str; have s2 := A2.bytes.str; have KK2 := K1.and K2; have hR3 := readOps_any w2 _ _ _ _ A1'.bytes henc; simp only [Option.getD_some] at s1 s2 hR3; rw [hback] at hR3; have HA1 : Hid _ := A1; have HA1' : Hid _ := A1'; have HA2 : Hid _ := A2; clear hF A1 A1' A2 K1 K2)
        | (go_at_call 48; have _t := hR3; refine hR3.mono ?_; rintro e w3 ⟨⟨v3, rfl, ho3⟩, K3⟩; rw [List.length_map, holen] at ho3; obtain ⟨a3, c3, rfl, O3, _⟩ := OpsAt.ofRow ho3 (by rw [List.length_map]; exact holen); rw [un_to] at O3; have KK3 := KK2.and K3; have hP4 := keepOps_any w3 a3 ax nx c3 cx ops O3 (hOX.out w3 KK3) (by omega); have HK3 : Hid _ := K3; clear hR3 _t K3 KK2 ho3 O3)
        | (go_at_call 49; have _t := hP4; refine hP4.mono ?_; rintro e w4 ⟨rfl, K4⟩; have KK4 := KK3.and K4; have HK4 : Hid _ := HK3.out.and K4; have A14 := HA1'.out.kept HK4.out (fun _ h => h.elim); have A24 := HA2.out.kept HK4.out (fun _ h => h.elim); have hS5 := spoil_any w4 _ _ _ _ A14.row (by omega) KK4.size; have HA24 : Hid _ := A24; have HA14 : Hid _ := A14; clear hP4 _t K4 KK3 A14 A24 s1 s2)
        | (go_at_call 30; refine hS5.mono ?_; rintro e w5 ⟨rfl, K5⟩; have KK5 := KK4.trans K5 (fun k h => .inr (HA14.out.row.lt k h).1); have A25 := HA24.out.kept2 K5 (fun k h1 h2 => by have q1 := (HA1.out.row.lt k h1).2; have q2 := (HA24.out.row.lt k h2).1; omega); have HA25 : Hid _ := A25; clear hS5 K5 KK4 A25)
        | (go_at_call 46; have _t := tok2; refine (hL w5 KK5).mono ?_; rintro e w6 ⟨a6, l6, c6, er6, rfl, A6, K6⟩; obtain rfl : er6 = 0 := A6.err; obtain rfl : enc.length = l6 := A6.len; have s1 := A6.bytes.str; have s2 := (HA25.out.kept K6 (fun _ h => h.elim)).bytes.str; have KK6 := KK5.and K6; have hw6 := KK6.size; simp only [Option.getD_some] at s1 s2; clear hL tok2 _t A6 K6 KK5)
        | (go_at_call 23; refine (lend_any _ a m cap raw (HB.out _ KK6) (by omega)).mono ?_; rintro e w7 ⟨gl, cl, rfl, ho7, K7⟩; have KK7 := KK6.and K7; have BL := lent_bytes ho7 hlB hBs; have hg7 := lent_block ho7; have HO7 : Hid _ := ho7; have hR8 := readOps_any w7 _ m cl raw BL (by omega); rw [hres] at hR8; clear ho7 K7 BL KK6)
        | (go_at_call 48; have _t := hR8; refine hR8.mono ?_; rintro e w8 ⟨⟨v8, rfl, ho8⟩, K8⟩; obtain ⟨a8, c8, rfl, O8, hb8⟩ := OpsAt.ofRow ho8 rfl; have KK8 := KK7.and K8; have hR9 := xreadOps_any w8 a m cap raw (HB.out _ KK8) (by omega); rw [hres] at hR9; have HK8 : Hid _ := K8; have HO8 : Hid _ := O8; have h8 := K8.size; have Hb8 : Hid _ := hb8; clear _t hR8 K8 KK7 ho8 O8 hb8)
        | (go_at_call 50; refine hR9.mono ?_; rintro e w9 ⟨⟨v9, rfl, ho9⟩, K9⟩; obtain ⟨a9, c9, rfl, O9, hb9⟩ := OpsAt.ofRow ho9 rfl; have HK9 : Hid _ := HK8.out.and K9; have KK9 := KK8.and K9; have hI := intact_any w9 w6.heap.size gl m cl a cap raw (HB.out _ KK9) (rowKept HO7.out HK9.out) (by omega); have O8' := HO8.out.kept K9 (fun _ _ _ h => h); have HO8' : Hid _ := O8'; have HO9 : Hid _ := O9; have Hb9 : Hid _ := hb9; have h9 := K9.size; clear hR9 K9 KK8 ho9 O9 O8' hb9)
        | (go_at_call 25; refine hI.mono ?_; rintro e w10 ⟨rfl, K10⟩; have KK10 := KK9.trans K10 (fun k h => .inr (Nat.le_trans hw6 (by have h7 := hg7.1; have h8 : k = gl := h; omega))); have OA := HO8'.out.kept K10 (fun hn ad e h => by have q := (Hb8.out ad e hn).1; have h' : ad.block = gl := h; omega); have OB := HO9.out.kept K10 (fun hn ad e h => by have q := (Hb9.out ad e hn).1; have h' : ad.block = gl := h; omega); have hP11 := keepOps_any w10 a8 a9 xs.length c8 c9 _ OA OB (by omega); have HOA : Hid _ := OA; clear hI K10 KK9 OA OB)
        | (go_at_call 49; have _t := hP11; refine hP11.mono ?_; rintro e w11 ⟨rfl, K11⟩; have KK11 := KK10.and K11; have OC := HOA.out.kept K11 (fun _ _ _ h => h); have hL4 := ops_any w11 a8 xs.length c8 _ OC (opsAt_lt OC) (by omega); rw [hagain] at hL4; clear hP11 _t K11 KK10 OC)
        | (go_at_call 46; have _t := hL4; refine hL4.mono ?_; rintro e w13 ⟨a4, l4, c4, er4, rfl, A4, K13⟩; obtain rfl : er4 = 0 := A4.err; obtain rfl : raw.length = l4 := A4.len; have KK13 := KK11.and K13; have t1 := A4.bytes.str; have t2 := (HB.out w13 KK13).str; simp only [Option.getD_some] at t1; rw [hlB] at t1; clear hL4 _t A4 K13 KK11)
        | (go_at_call 45; refine (wakes_any _).mono ?_; rintro e w12 ⟨rfl, K12⟩; have KKe := KK13.and K12)
        | fail)
      go_ret
      exact ⟨rfl, HF.out _ KKe⟩

end Go.Proofs.Ytceocmhgbcimoaa
