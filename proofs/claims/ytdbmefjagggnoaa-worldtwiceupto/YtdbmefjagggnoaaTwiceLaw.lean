/-
  The walk of WorldTwice.
-/
import Derived.Test.YtdbmefjagggnoaaTwice23
import Derived.Test.YtdbmefjagggnoaaSame
namespace Go.Proofs.Ytdbmefjagggnoaa
open Go.RowKit Go.Maps Go.ChangeMaps Go.MapKept

/-- What lies behind the calls: a disk, and what the document says of it. -/
structure Lone (w : World) (lo d n L : Nat) (S : Nat → Prop) (st : DSt) (rs : RSt) : Prop where
  disk : ∃ bf bq G C, DiskIn w S d n L st bf bq G C
  lo_ : ∀ k, S k → lo ≤ k
  sz : lo ≤ w.heap.size
  sim : Sim st rs
  kept : ∀ f ∈ rs.L, f.kept ≤ f.bytes.length
  L_ : L ≤ 50000
  ln : rs.L.length ≤ 300

theorem Both.lone {w : World} {lo d r j : Nat} (B : Both w lo d r j) (hj : j ≤ 200) : ∃ n L S st rs, n ≤ 50000 ∧ Lone w lo d n L S st rs := by
  obtain ⟨n, L, st, rs, S1, bf, bq, G, C, S2, vL, vF, M, D, R, hd, hlo, hw, hs, hb, hn⟩ := B
  have bn := hn.n
  have bl := hn.L
  have bf1 := hn.files
  refine ⟨n, L, S1, st, rs, by omega, ⟨bf, bq, G, C, D⟩, fun k h => hlo k (.inl h), hw, hs, fun f hf => ?_, by omega, by omega⟩
  rw [R.ghost] at hf
  obtain ⟨p, hp, rfl⟩ := List.mem_map.1 hf
  exact (R.bytes p hp).kept

theorem Lone.crash {w : World} {lo d n L : Nat} {S : Nat → Prop} {st : DSt} {rs : RSt} (A : Lone w lo d n L S st rs) (hn : n ≤ 1000000) (v : Value) (cs : List Int) (hc : IntsAt w (fun k => lo ≤ k) v cs) :
    Calls Try.prog 14 #[.pointer (some ⟨d, 0, none⟩), v] w fun e w' => e = .returned (.tuple #[]) ∧ ∃ S' st', Lone w' lo d (n + rs.L.length) L S' st' (rs.crash cs) ∧ Kept S w w' ∧ (∀ k, S' k → S k ∨ w.heap.size ≤ k) ∧ Below lo w w' := by
  obtain ⟨bf, bq, G, C, D⟩ := A.disk
  have h2 := A.L_
  have h3 := A.ln
  have hc' : IntsAt w S v cs := by
    obtain ⟨a, c, hv, h⟩ := hc
    refine ⟨a, c, hv, fun hne => ?_⟩
    obtain ⟨b, off, q1, q2, q3, q4⟩ := h hne
    exact ⟨b, off, q1, q2, fun hs => q3 (A.lo_ b hs), q4⟩
  refine (crash_any D (by omega) (by omega) v cs hc').mono ?_
  rintro e w' ⟨rfl, S', G', C', l, ⟨hk, _⟩, D', K', hS'⟩
  have hl := A.sim.keys hk
  have hln : l.length = rs.L.length := by rw [hl, List.length_map]
  rw [hln] at D'
  have hcr := crashL_length rs.L cs
  refine ⟨rfl, S', _, ⟨⟨bf, bq, G', C', D'⟩, fun k h => (hS' k h).elim (A.lo_ k) (fun h => Nat.le_trans A.sz h), Nat.le_trans A.sz K'.size, A.sim.crash hk cs, fun f hf => Nat.le_of_eq (crashL_full rs.L cs A.kept f hf).1, h2, ?_⟩, K', hS', K'.below A.sz A.lo_⟩
  show (crashL rs.L cs).length ≤ 300
  omega

section
variable {w : World} {lo d n L : Nat} {S : Nat → Prop} {st : DSt} {rs : RSt}

theorem Lone.keep {w' : World} (A : Lone w lo d n L S st rs) (K : Kept (fun _ => False) w w') : Lone w' lo d n L S st rs := by
  obtain ⟨bf, bq, G, C, D⟩ := A.disk
  exact ⟨⟨bf, bq, G, C, D.kept K (fun _ _ h => h)⟩, A.lo_, Nat.le_trans A.sz K.size, A.sim, A.kept, A.L_, A.ln⟩

theorem Lone.bnd (A : Lone w lo d n L S st rs) : ∀ k, S k → k < w.heap.size := by
  obtain ⟨bf, bq, G, C, D⟩ := A.disk
  exact D.bnd

theorem Lone.files (A : Lone w lo d n L S st rs) (hn : n ≤ 1000000) : Calls Try.prog 15 #[.pointer (some ⟨d, 0, none⟩)] w fun e w' => ∃ v : Value, e = .returned v ∧ w'.ownsRow w.heap.size 3 1 v rs.L.length ((rs.L.map (·.n)).map (Value.int .i64)) ∧ Kept (fun _ => False) w w' := by
  obtain ⟨bf, bq, G, C, D⟩ := A.disk
  refine (files_any D (by omega)).mono ?_
  rintro e w' ⟨v, l, he, hk, _, ho, K'⟩
  obtain rfl := A.sim.keys hk
  rw [List.length_map] at ho
  exact ⟨v, he, ho, K'⟩

theorem Lone.read (A : Lone w lo d n L S st rs) (x : Int) (hx : isI64 x) : Calls Try.prog 10 #[.pointer (some ⟨d, 0, none⟩), .int .i64 x] w fun e w' => ∃ a c, e = .returned (.slice a (rs.bytesOf x).length c) ∧ w'.ownsRow w.heap.size 5 1 (.slice a (rs.bytesOf x).length c) (rs.bytesOf x).length ((rs.bytesOf x).map (Value.int .u8)) ∧ Kept (fun _ => False) w w' := by
  obtain ⟨bf, bq, G, C, D⟩ := A.disk
  have h2 := A.L_
  have h := read_any D (by omega) x hx
  rw [(A.sim.bytes x).1] at h
  exact h

theorem Lone.i64 (A : Lone w lo d n L S st rs) : ∀ x ∈ rs.L.map (·.n), isI64 x := by
  obtain ⟨bf, bq, G, C, D⟩ := A.disk
  exact keys_i64 D A.sim

theorem Lone.bs (A : Lone w lo d n L S st rs) (x : Int) : ∀ y ∈ rs.bytesOf x, 0 ≤ y ∧ y ≤ 255 := by
  obtain ⟨bf, bq, G, C, D⟩ := A.disk
  rw [← (A.sim.bytes x).1]
  exact bytesOf_bs D x

theorem Lone.len (A : Lone w lo d n L S st rs) (x : Int) : (rs.bytesOf x).length ≤ 50000 := by
  obtain ⟨bf, bq, G, C, D⟩ := A.disk
  exact Nat.le_trans (sim_bytes_len D A.sim x) A.L_

/-- A crash behind a crash leaves the document's disk as it was. -/
theorem crash_again (hk : ∀ f ∈ rs.L, f.kept ≤ f.bytes.length) (ca cb : List Int) : (rs.crash ca).crash cb = rs.crash ca := by
  unfold RSt.crash
  simp only [RSt.mk.injEq, and_true]
  exact crashL_same _ _ (crashL_full rs.L ca hk)
end

set_option maxRecDepth 100000 in
set_option maxHeartbeats 8000000 in
theorem twice_walk (a : Option Addr) (n c : Nat) (xs : List OX) (a1 : Option Addr) (c1 : Nat) (ca : List Int) (a2 : Option Addr) (c2 : Nat) (cb : List Int) (w : World) (O : OpsAt w a n c xs) (IA : IntsAt w (fun k => w.heap.size ≤ k) (.slice a1 ca.length c1) ca) (IB : IntsAt w (fun k => w.heap.size ≤ k) (.slice a2 cb.length c2) cb) :
    Calls Try.prog 4 #[.slice a n c, .slice a1 ca.length c1, .slice a2 cb.length c2] w fun e w' => e = .returned (.bool true) ∧ Below w.heap.size w w' := by
  obtain ⟨i2, hi2, hx0, hx1, hx2⟩ := info_parts infoSlW
  have hlen := O.len
  have HO : Hid (OpsAt w a n c xs) := O
  have HIA : Hid (IntsAt w (fun k => w.heap.size ≤ k) (.slice a1 ca.length c1) ca) := IA
  have HIB : Hid (IntsAt w (fun k => w.heap.size ≤ k) (.slice a2 cb.length c2) cb) := IB
  clear O IA IB
  go_enter Try.func4, Try.ntmps4
  go_wp2_with (first
    | (go_at_call 7; refine (newDisk_any w).mono ?_; rintro e w1 ⟨rfl, D1, K1, hz1⟩; have HD1 : Hid _ := D1; have HZ1 : Hid (w1.heap.size = w.heap.size + 3) := hz1; clear D1 hz1)
    | (go_at_call 8; refine (refNew_any w1).mono ?_; rintro e w2 ⟨rfl, R2, K2⟩; have HB : Hid (Both w2 w.heap.size (w.heap.size + 2) w1.heap.size 0) := Both.new HD1.out HZ1.out R2 K2; have bl : Below w.heap.size w w2 := (K1.and K2).none; clear R2)
    | fail)
  generalize w1.heap.size = r at *
  generalize w.heap.size + 2 = d at *
  go_loopw [9] (fun i wr => ∃ k : Nat, k ≤ n ∧ k ≤ 200 ∧ i = .int .i64 k ∧ Both wr w.heap.size d r k ∧ Below w.heap.size w wr) (fun i _ => n - (Go.RowKit.intOf i).toNat)
  case atStart => exact ⟨0, Nat.zero_le _, Nat.zero_le _, rfl, HB.out, bl⟩
  case round =>
    obtain ⟨k, hk, hk2, rfl, Bo, Bl⟩ := hrel
    have HBo : Hid (Both wr w.heap.size d r k) := Bo
    have hz : w.heap.size ≤ wr.heap.size := Bl.size
    clear Bo
    by_cases hgo : k < n ∧ k < 200
    · obtain ⟨hkn, hk3⟩ := hgo
      have hc1 : (k : Int) < (n : Int) := by omega
      have hc2 : (k : Int) < 200 := by omega
      obtain ⟨x, hx⟩ : ∃ x, xs[k]? = some x := ⟨xs[k], List.getElem?_eq_getElem (by omega)⟩
      have hok := (HO.out.ok x (List.mem_of_getElem? hx)).below Bl
      obtain ⟨b, off, rfl⟩ : ∃ b off, a = some ⟨b, off, none⟩ := by
        cases a with
        | none => have := HO.out.nil rfl; omega
        | some ad =>
          obtain ⟨hsp, _⟩ := HO.out.cells ad rfl (by omega)
          obtain ⟨b, off, sp⟩ := ad
          obtain rfl : sp = none := hsp
          exact ⟨b, off, rfl⟩
      have hce := (HO.out.cells _ rfl (by omega)).2 k x hx
      have hbl : b < w.heap.size := World.block_lt_of_cell? w _ hce.c0
      obtain ⟨e0, e1, e2, e3, e4, e5⟩ := hce.below hbl Bl
      have hDo := does_any (x0 := x.x0) HBo.out (by omega) hok.i1 hok.i2 hok.i3 hok.by_ hok.lo_ hok.cu hok.cl
      obtain ⟨x0, x1, x2, x3, ba, bm, bc, bs, av, cv, cs⟩ := x
      simp only [] at hDo e0 e1 e2 e3 e4 e5
      clear hok hce hx
      go_wp2_with (first
        | (go_at_call 9; refine hDo.mono ?_; rintro e w9 ⟨rfl, Bo9, Bl9⟩; have HB9 : Hid (Both w9 w.heap.size d r (k + 1)) := Bo9; have HL9 : Hid (Below w.heap.size wr w9) := Bl9; clear hDo Bo9 Bl9)
        | fail)
      go_roundw
      case rel => exact ⟨k + 1, by omega, by omega, by go_num, HB9.out, Bl.trans HL9.out⟩
      case measure => simp [Go.RowKit.intOf]; omega
    · obtain ⟨nn, L, S, st, rs, hnn, A⟩ := HBo.out.lone hk2
      have hCa := A.crash (by omega) _ ca (IntsAt.below HIA.out Bl)
      have HA : Hid (Lone wr w.heap.size d nn L S st rs) := A
      have hlnr := A.ln
      clear A
      by_cases hkn : k < n
      · have hc1' : (k : Int) < (n : Int) := by omega
        have hc2' : ¬ (k : Int) < 200 := by omega
        go_wp2_with (first
          | (go_at_call 14; have _t := hCa; refine hCa.mono ?_; rintro e w3 ⟨rfl, S3, st3, A3, K3, hS3, Bl3⟩; have HA3 : Hid (Lone w3 w.heap.size d (nn + rs.L.length) L S3 st3 (rs.crash ca)) := A3; have HB3 : Hid (Below w.heap.size w w3) := Bl.trans Bl3; have hF := A3.files (by omega); have hln3 := A3.ln; clear hCa _t A3 K3 hS3 Bl3)
          | (go_at_call 15; refine hF.mono ?_; rintro e w4 ⟨v5, rfl, ho5, K4⟩; have HO5 : Hid (w4.ownsRow w3.heap.size 3 1 v5 (rs.crash ca).L.length (((rs.crash ca).L.map (·.n)).map (Value.int .i64))) := ho5; clear hF ho5)
          | fail)
        have HCA : Hid ((rs.crash ca).crash cb = rs.crash ca) := crash_again HA.out.kept ca cb
        generalize rs.crash ca = rs1 at *
        have HX : Hid (∀ x ∈ rs1.L.map (·.n), isI64 x) := HA3.out.i64
        have HBS : Hid (∀ x, ∀ y ∈ rs1.bytesOf x, 0 ≤ y ∧ y ≤ 255) := HA3.out.bs
        have HLN : Hid (∀ x, (rs1.bytesOf x).length ≤ 50000) := HA3.out.len
        have hml : (rs1.L.map (·.n)).length = rs1.L.length := List.length_map ..
        generalize hl : rs1.L.map (·.n) = l at *
        have HL : Hid _ := hl
        clear hl
        generalize hm : rs1.L.length = m at *
        have HM : Hid _ := hm
        clear hm
        obtain ⟨a5, c5, e5⟩ := ownsRow_shape HO5.out
        subst e5
        have W0 := WasSt.new w4 (l.map (fun x => rs1.bytesOf x))
        go_loopw [11, 12] (fun p i wr => ∃ (k2 : Nat) (a11 : Option Addr) (c11 : Nat) (vs : List Value), p = .slice a11 k2 c11 ∧ i = .int .i64 k2 ∧ k2 ≤ m ∧ WasSt w4 wr (l.map (fun x => rs1.bytesOf x)) vs a11 c11 k2) (fun _ i _ => m - (Go.RowKit.intOf i).toNat)
        case atStart => exact ⟨0, none, 0, [], rfl, rfl, Nat.zero_le _, W0⟩
        case round =>
          clear W0
          obtain ⟨k2, a11, c11, vs, rfl, rfl, hk22, Ws⟩ := hrel
          have HW : Hid (WasSt w4 wr (l.map (fun x => rs1.bytesOf x)) vs a11 c11 k2) := Ws
          have KW : Kept (fun _ => False) w4 wr := Ws.kept
          have A4 := (HA3.out.keep K4).keep KW
          have bl4 : Below w.heap.size w wr := (HB3.out.trans (K4.below HA3.out.sz (fun _ h => h.elim))).trans (KW.below (Nat.le_trans HA3.out.sz K4.size) (fun _ h => h.elim))
          by_cases hlt : k2 < m
          · have e1 : (k2 : Int) < (m : Int) := by omega
            have g2 : (0 : Int) ≤ (k2 : Int) := by omega
            have ro := ownsRow_block HO5.out (fun b hb => KW.block b (HO5.out.lt b hb).2 (fun h => h))
            have hkl : k2 < l.length := by omega
            have hlk : l[k2]? = some l[k2] := List.getElem?_eq_getElem hkl
            have hxi := HX.out l[k2] (List.getElem_mem hkl)
            have hbk : (l.map (fun x => rs1.bytesOf x))[k2]? = some (rs1.bytesOf l[k2]) := by rw [List.getElem?_map, hlk]; rfl
            obtain ⟨g, cap, e, hbg, hgl⟩ := ro.form (by omega)
            simp only [Value.slice.injEq] at e
            obtain ⟨rfl, _, rfl⟩ := e
            have hx5 := (ownsRow_get ro (k := k2) (u := .int .i64 l[k2]) (by rw [List.getElem?_map, hlk]; rfl)).1
            generalize l[k2] = x at *
            have hRd := A4.read x hxi
            have hb1 := HLN.out x
            have HBK : Hid _ := hbk
            generalize rs1.bytesOf x = bx at *
            clear ro hlk Ws A4 hbk
            go_wp2_with (first
              | (go_at_call 10; refine hRd.mono ?_; rintro e w5 ⟨a7, c7, rfl, ho7, K5⟩; have HO7 : Hid (w5.ownsRow wr.heap.size 5 1 (.slice a7 bx.length c7) bx.length (bx.map (Value.int .u8))) := ho7; have rA := (ownsRow_block HW.out.rows (fun q hq => K5.block q (HW.out.rows.lt q hq).2 (fun h => h))).alloc (.cells #[.slice a7 bx.length c7] 28); have hbA : w4.heap.size ≤ (w5.alloc (.cells #[.slice a7 bx.length c7] 28)).heap.size := (by have := KW.size; have := K5.size; simp; omega); clear hRd ho7)
              | (at_builtin; refine wpList_append_src _ rfl _ _ 38 rfl w4.heap.size 28 i2 (.slice none 0 0) 1 24 Try.underlying38 hi2 hx0 hx1 hx2 rfl (by decide) (.slice a11 k2 c11) k2 _ rfl rA _ rfl 1 [.slice a7 bx.length c7] (.inl ⟨_, 1, rfl, rfl, World.news_of_block (heap_alloc_new w5 _)⟩) (by simp [Value.oneCell']) (by unfold maxLen; omega) (by omega) hbA ?_; intro b5 d5 w6 ho6 hg6 _ _; have HW6 : Hid (WasSt w4 w6 (l.map (fun x => rs1.bytesOf x)) (vs ++ [.slice a7 bx.length c7]) b5 d5 (k2 + 1)) := HW.out.next K5 HBK.out HO7.out ho6 hg6; clear rA ho6 hg6)
              | fail)
            go_roundw
            case rel => exact ⟨k2 + 1, b5, d5, _, rfl, by go_num, by omega, HW6.out⟩
            case measure => simp [Go.RowKit.intOf]; omega
          · obtain rfl : k2 = m := by omega
            have e1 : ¬ (k2 : Int) < (k2 : Int) := by omega
            have hCb := A4.crash (by omega) _ cb (IntsAt.below HIB.out bl4)
            rw [HCA.out] at hCb
            clear Ws A4
            go_wp2_with (first
              | (go_at_call 14; refine hCb.mono ?_; rintro e w5 ⟨rfl, S5, st5, A5, K5, hS5, Bl5⟩; have HA5 : Hid (Lone w5 w.heap.size d (nn + rs.L.length + rs1.L.length) L S5 st5 rs1) := A5; have HB5 : Hid (Below w.heap.size w w5) := bl4.trans Bl5; have HK5 : Hid (Kept S3 wr w5) := K5; have hF := A5.files (by have := HM.out; omega); rw [HM.out, HL.out] at hF; clear hCb A5 K5 hS5 Bl5)
              | (go_at_call 15; refine hF.mono ?_; rintro e w6 ⟨v8, rfl, ho8, K6⟩; have hkeep : ∀ b, w3.heap.size ≤ b → b < wr.heap.size → w6.heap[b]? = wr.heap[b]? := (fun b h1 h2 => (K6.block b (Nat.lt_of_lt_of_le h2 HK5.out.size) (fun h => h)).trans (HK5.out.block b h2 (fun h => by have := HA3.out.bnd b h; omega))); have HKP : Hid _ := hkeep; have I8 := IntsAt.ofRow (S := fun _ => False) ho8 hml.symm (fun _ h => h.elim); have row5 : w6.ownsRow w3.heap.size 3 1 (.slice a5 k2 c5) k2 (l.map (Value.int .i64)) := ownsRow_block HO5.out (fun b hb => (hkeep b (HO5.out.lt b hb).1 (Nat.lt_of_lt_of_le (HO5.out.lt b hb).2 KW.size)).trans (KW.block b (HO5.out.lt b hb).2 (fun h => h))); have HR5 : Hid (w6.ownsRow w3.heap.size 3 1 (.slice a5 k2 c5) k2 (l.map (Value.int .i64))) := row5; have hI := ints_same w6 v8 (.slice a5 k2 c5) l I8 (IntsAt.ofRow (S := fun _ => False) row5 hml.symm (fun _ h => h.elim)) (by omega); clear hF ho8 hkeep I8 row5)
              | (go_at_call 16; refine hI.mono ?_; rintro e w7 ⟨rfl, n7, hw7⟩; subst w7; clear hI)
              | fail)
            have K7 : Kept (fun _ => False) w6 (w6.drewN n7) := Kept.drewN _ _ _
            generalize w6.drewN n7 = w7 at *
            have A7 := (HA5.out.keep K6).keep K7
            have HA7 : Hid (Lone w7 w.heap.size d (nn + rs.L.length + rs1.L.length) L S5 st5 rs1) := A7
            clear A7
            go_loopw [13] (fun i wr => ∃ k3 : Nat, k3 ≤ k2 ∧ i = .int .i64 k3 ∧ Kept (fun _ => False) w7 wr) (fun i _ => k2 - (Go.RowKit.intOf i).toNat)
            case atStart => exact ⟨0, Nat.zero_le _, rfl, Kept.refl _ _⟩
            case round =>
              obtain ⟨k3, hk3, rfl, K8⟩ := hrel
              have bl7 : Below w.heap.size w wr := ((HB5.out.trans (K6.below HA5.out.sz (fun _ h => h.elim))).trans (K7.below (Nat.le_trans HA5.out.sz K6.size) (fun _ h => h.elim))).trans (K8.below HA7.out.sz (fun _ h => h.elim))
              by_cases hlt3 : k3 < k2
              · have e3 : (k3 : Int) < (k2 : Int) := by omega
                have hkl : k3 < l.length := by omega
                have hlk : l[k3]? = some l[k3] := List.getElem?_eq_getElem hkl
                have hxi := HX.out l[k3] (List.getElem_mem hkl)
                have K78 : Kept (fun _ => False) w6 wr := K7.and K8
                have ro := ownsRow_block HR5.out (fun b hb => K78.block b (HR5.out.lt b hb).2 (fun h => h))
                obtain ⟨g, cap, e, hbg, hgl⟩ := ro.form (by omega)
                simp only [Value.slice.injEq] at e
                obtain ⟨rfl, _, rfl⟩ := e
                have hx5 := (ownsRow_get ro (k := k3) (u := .int .i64 l[k3]) (by rw [List.getElem?_map, hlk]; rfl)).1
                obtain ⟨a9, c9, hv9, ho9⟩ := HW.out.each k3 (rs1.bytesOf l[k3]) hlt3 (by rw [List.getElem?_map, hlk]; rfl)
                have sz4 := K4.size
                have rW := ownsRow_block (w' := wr) HW.out.rows (fun b hb => (K78.block b (Nat.lt_of_lt_of_le (HW.out.rows.lt b hb).2 (Nat.le_trans HK5.out.size K6.size)) (fun h => h)).trans (HKP.out b (Nat.le_trans sz4 (HW.out.rows.lt b hb).1) (HW.out.rows.lt b hb).2))
                have r9 := ownsRow_block (w' := wr) ho9 (fun b hb => (K78.block b (Nat.lt_of_lt_of_le (ho9.lt b hb).2 (Nat.le_trans HK5.out.size K6.size)) (fun h => h)).trans (HKP.out b (Nat.le_trans sz4 (ho9.lt b hb).1) (ho9.lt b hb).2))
                obtain ⟨h0, capw, ew, _, _⟩ := rW.form (by omega)
                simp only [Value.slice.injEq] at ew
                obtain ⟨rfl, _, rfl⟩ := ew
                have hx6 := (ownsRow_get rW (k := k3) hv9).1
                have A8 := HA7.out.keep K8
                have BW := BytesAt.ofRow r9 (HBS.out l[k3])
                have hbx : st5.bytesOf l[k3] = rs1.bytesOf l[k3] := (A8.sim.bytes l[k3]).1
                obtain ⟨bf, bq, G, C, D8⟩ := A8.disk
                have hL8 := A8.L_
                have HX5 : Hid _ := hx5
                have HX6 : Hid _ := hx6
                have HBW : Hid _ := BW
                have HD8 : Hid _ := D8
                clear ro rW r9 A8 BW D8 hlk hx5 hx6 ho9
                generalize l[k3] = x at *
                go_wp2_with fail
                refine wp_onlyN (twice23 _ HD8.out (by omega) hxi HX5.out HX6.out HBW.out hbx hlt3 ?_)
                intro v70 v71 v72 v73 v74 v75 v76 v77 v78 v79 v80 v81 w9 K9
                go_wp2
                go_roundw
                case rel => exact ⟨k3 + 1, by omega, by go_num, K8.and ((Kept.drew _ wr).and K9)⟩
                case measure => simp [Go.RowKit.intOf]; omega
              · have e3 : ¬ (k3 : Int) < (k2 : Int) := by omega
                go_wp2_with (first
                  | (go_at_call 13; refine (wakes_any _).mono ?_; rintro e w10 ⟨rfl, K10⟩)
                  | fail)
                go_ret
                exact ⟨rfl, bl7.trans (K10.below bl7.size (fun _ h => h.elim))⟩
      · have hc1' : ¬ (k : Int) < (n : Int) := by omega
        go_wp2_with (first
          | (go_at_call 14; have _t := hCa; refine hCa.mono ?_; rintro e w3 ⟨rfl, S3, st3, A3, K3, hS3, Bl3⟩; have HA3 : Hid (Lone w3 w.heap.size d (nn + rs.L.length) L S3 st3 (rs.crash ca)) := A3; have HB3 : Hid (Below w.heap.size w w3) := Bl.trans Bl3; have hF := A3.files (by omega); have hln3 := A3.ln; clear hCa _t A3 K3 hS3 Bl3)
          | (go_at_call 15; refine hF.mono ?_; rintro e w4 ⟨v5, rfl, ho5, K4⟩; have HO5 : Hid (w4.ownsRow w3.heap.size 3 1 v5 (rs.crash ca).L.length (((rs.crash ca).L.map (·.n)).map (Value.int .i64))) := ho5; clear hF ho5)
          | fail)
        have HCA : Hid ((rs.crash ca).crash cb = rs.crash ca) := crash_again HA.out.kept ca cb
        generalize rs.crash ca = rs1 at *
        have HX : Hid (∀ x ∈ rs1.L.map (·.n), isI64 x) := HA3.out.i64
        have HBS : Hid (∀ x, ∀ y ∈ rs1.bytesOf x, 0 ≤ y ∧ y ≤ 255) := HA3.out.bs
        have HLN : Hid (∀ x, (rs1.bytesOf x).length ≤ 50000) := HA3.out.len
        have hml : (rs1.L.map (·.n)).length = rs1.L.length := List.length_map ..
        generalize hl : rs1.L.map (·.n) = l at *
        have HL : Hid _ := hl
        clear hl
        generalize hm : rs1.L.length = m at *
        have HM : Hid _ := hm
        clear hm
        obtain ⟨a5, c5, e5⟩ := ownsRow_shape HO5.out
        subst e5
        have W0 := WasSt.new w4 (l.map (fun x => rs1.bytesOf x))
        go_loopw [11, 12] (fun p i wr => ∃ (k2 : Nat) (a11 : Option Addr) (c11 : Nat) (vs : List Value), p = .slice a11 k2 c11 ∧ i = .int .i64 k2 ∧ k2 ≤ m ∧ WasSt w4 wr (l.map (fun x => rs1.bytesOf x)) vs a11 c11 k2) (fun _ i _ => m - (Go.RowKit.intOf i).toNat)
        case atStart => exact ⟨0, none, 0, [], rfl, rfl, Nat.zero_le _, W0⟩
        case round =>
          clear W0
          obtain ⟨k2, a11, c11, vs, rfl, rfl, hk22, Ws⟩ := hrel
          have HW : Hid (WasSt w4 wr (l.map (fun x => rs1.bytesOf x)) vs a11 c11 k2) := Ws
          have KW : Kept (fun _ => False) w4 wr := Ws.kept
          have A4 := (HA3.out.keep K4).keep KW
          have bl4 : Below w.heap.size w wr := (HB3.out.trans (K4.below HA3.out.sz (fun _ h => h.elim))).trans (KW.below (Nat.le_trans HA3.out.sz K4.size) (fun _ h => h.elim))
          by_cases hlt : k2 < m
          · have e1 : (k2 : Int) < (m : Int) := by omega
            have g2 : (0 : Int) ≤ (k2 : Int) := by omega
            have ro := ownsRow_block HO5.out (fun b hb => KW.block b (HO5.out.lt b hb).2 (fun h => h))
            have hkl : k2 < l.length := by omega
            have hlk : l[k2]? = some l[k2] := List.getElem?_eq_getElem hkl
            have hxi := HX.out l[k2] (List.getElem_mem hkl)
            have hbk : (l.map (fun x => rs1.bytesOf x))[k2]? = some (rs1.bytesOf l[k2]) := by rw [List.getElem?_map, hlk]; rfl
            obtain ⟨g, cap, e, hbg, hgl⟩ := ro.form (by omega)
            simp only [Value.slice.injEq] at e
            obtain ⟨rfl, _, rfl⟩ := e
            have hx5 := (ownsRow_get ro (k := k2) (u := .int .i64 l[k2]) (by rw [List.getElem?_map, hlk]; rfl)).1
            generalize l[k2] = x at *
            have hRd := A4.read x hxi
            have hb1 := HLN.out x
            have HBK : Hid _ := hbk
            generalize rs1.bytesOf x = bx at *
            clear ro hlk Ws A4 hbk
            go_wp2_with (first
              | (go_at_call 10; refine hRd.mono ?_; rintro e w5 ⟨a7, c7, rfl, ho7, K5⟩; have HO7 : Hid (w5.ownsRow wr.heap.size 5 1 (.slice a7 bx.length c7) bx.length (bx.map (Value.int .u8))) := ho7; have rA := (ownsRow_block HW.out.rows (fun q hq => K5.block q (HW.out.rows.lt q hq).2 (fun h => h))).alloc (.cells #[.slice a7 bx.length c7] 28); have hbA : w4.heap.size ≤ (w5.alloc (.cells #[.slice a7 bx.length c7] 28)).heap.size := (by have := KW.size; have := K5.size; simp; omega); clear hRd ho7)
              | (at_builtin; refine wpList_append_src _ rfl _ _ 38 rfl w4.heap.size 28 i2 (.slice none 0 0) 1 24 Try.underlying38 hi2 hx0 hx1 hx2 rfl (by decide) (.slice a11 k2 c11) k2 _ rfl rA _ rfl 1 [.slice a7 bx.length c7] (.inl ⟨_, 1, rfl, rfl, World.news_of_block (heap_alloc_new w5 _)⟩) (by simp [Value.oneCell']) (by unfold maxLen; omega) (by omega) hbA ?_; intro b5 d5 w6 ho6 hg6 _ _; have HW6 : Hid (WasSt w4 w6 (l.map (fun x => rs1.bytesOf x)) (vs ++ [.slice a7 bx.length c7]) b5 d5 (k2 + 1)) := HW.out.next K5 HBK.out HO7.out ho6 hg6; clear rA ho6 hg6)
              | fail)
            go_roundw
            case rel => exact ⟨k2 + 1, b5, d5, _, rfl, by go_num, by omega, HW6.out⟩
            case measure => simp [Go.RowKit.intOf]; omega
          · obtain rfl : k2 = m := by omega
            have e1 : ¬ (k2 : Int) < (k2 : Int) := by omega
            have hCb := A4.crash (by omega) _ cb (IntsAt.below HIB.out bl4)
            rw [HCA.out] at hCb
            clear Ws A4
            go_wp2_with (first
              | (go_at_call 14; refine hCb.mono ?_; rintro e w5 ⟨rfl, S5, st5, A5, K5, hS5, Bl5⟩; have HA5 : Hid (Lone w5 w.heap.size d (nn + rs.L.length + rs1.L.length) L S5 st5 rs1) := A5; have HB5 : Hid (Below w.heap.size w w5) := bl4.trans Bl5; have HK5 : Hid (Kept S3 wr w5) := K5; have hF := A5.files (by have := HM.out; omega); rw [HM.out, HL.out] at hF; clear hCb A5 K5 hS5 Bl5)
              | (go_at_call 15; refine hF.mono ?_; rintro e w6 ⟨v8, rfl, ho8, K6⟩; have hkeep : ∀ b, w3.heap.size ≤ b → b < wr.heap.size → w6.heap[b]? = wr.heap[b]? := (fun b h1 h2 => (K6.block b (Nat.lt_of_lt_of_le h2 HK5.out.size) (fun h => h)).trans (HK5.out.block b h2 (fun h => by have := HA3.out.bnd b h; omega))); have HKP : Hid _ := hkeep; have I8 := IntsAt.ofRow (S := fun _ => False) ho8 hml.symm (fun _ h => h.elim); have row5 : w6.ownsRow w3.heap.size 3 1 (.slice a5 k2 c5) k2 (l.map (Value.int .i64)) := ownsRow_block HO5.out (fun b hb => (hkeep b (HO5.out.lt b hb).1 (Nat.lt_of_lt_of_le (HO5.out.lt b hb).2 KW.size)).trans (KW.block b (HO5.out.lt b hb).2 (fun h => h))); have HR5 : Hid (w6.ownsRow w3.heap.size 3 1 (.slice a5 k2 c5) k2 (l.map (Value.int .i64))) := row5; have hI := ints_same w6 v8 (.slice a5 k2 c5) l I8 (IntsAt.ofRow (S := fun _ => False) row5 hml.symm (fun _ h => h.elim)) (by omega); clear hF ho8 hkeep I8 row5)
              | (go_at_call 16; refine hI.mono ?_; rintro e w7 ⟨rfl, n7, hw7⟩; subst w7; clear hI)
              | fail)
            have K7 : Kept (fun _ => False) w6 (w6.drewN n7) := Kept.drewN _ _ _
            generalize w6.drewN n7 = w7 at *
            have A7 := (HA5.out.keep K6).keep K7
            have HA7 : Hid (Lone w7 w.heap.size d (nn + rs.L.length + rs1.L.length) L S5 st5 rs1) := A7
            clear A7
            go_loopw [13] (fun i wr => ∃ k3 : Nat, k3 ≤ k2 ∧ i = .int .i64 k3 ∧ Kept (fun _ => False) w7 wr) (fun i _ => k2 - (Go.RowKit.intOf i).toNat)
            case atStart => exact ⟨0, Nat.zero_le _, rfl, Kept.refl _ _⟩
            case round =>
              obtain ⟨k3, hk3, rfl, K8⟩ := hrel
              have bl7 : Below w.heap.size w wr := ((HB5.out.trans (K6.below HA5.out.sz (fun _ h => h.elim))).trans (K7.below (Nat.le_trans HA5.out.sz K6.size) (fun _ h => h.elim))).trans (K8.below HA7.out.sz (fun _ h => h.elim))
              by_cases hlt3 : k3 < k2
              · have e3 : (k3 : Int) < (k2 : Int) := by omega
                have hkl : k3 < l.length := by omega
                have hlk : l[k3]? = some l[k3] := List.getElem?_eq_getElem hkl
                have hxi := HX.out l[k3] (List.getElem_mem hkl)
                have K78 : Kept (fun _ => False) w6 wr := K7.and K8
                have ro := ownsRow_block HR5.out (fun b hb => K78.block b (HR5.out.lt b hb).2 (fun h => h))
                obtain ⟨g, cap, e, hbg, hgl⟩ := ro.form (by omega)
                simp only [Value.slice.injEq] at e
                obtain ⟨rfl, _, rfl⟩ := e
                have hx5 := (ownsRow_get ro (k := k3) (u := .int .i64 l[k3]) (by rw [List.getElem?_map, hlk]; rfl)).1
                obtain ⟨a9, c9, hv9, ho9⟩ := HW.out.each k3 (rs1.bytesOf l[k3]) hlt3 (by rw [List.getElem?_map, hlk]; rfl)
                have sz4 := K4.size
                have rW := ownsRow_block (w' := wr) HW.out.rows (fun b hb => (K78.block b (Nat.lt_of_lt_of_le (HW.out.rows.lt b hb).2 (Nat.le_trans HK5.out.size K6.size)) (fun h => h)).trans (HKP.out b (Nat.le_trans sz4 (HW.out.rows.lt b hb).1) (HW.out.rows.lt b hb).2))
                have r9 := ownsRow_block (w' := wr) ho9 (fun b hb => (K78.block b (Nat.lt_of_lt_of_le (ho9.lt b hb).2 (Nat.le_trans HK5.out.size K6.size)) (fun h => h)).trans (HKP.out b (Nat.le_trans sz4 (ho9.lt b hb).1) (ho9.lt b hb).2))
                obtain ⟨h0, capw, ew, _, _⟩ := rW.form (by omega)
                simp only [Value.slice.injEq] at ew
                obtain ⟨rfl, _, rfl⟩ := ew
                have hx6 := (ownsRow_get rW (k := k3) hv9).1
                have A8 := HA7.out.keep K8
                have BW := BytesAt.ofRow r9 (HBS.out l[k3])
                have hbx : st5.bytesOf l[k3] = rs1.bytesOf l[k3] := (A8.sim.bytes l[k3]).1
                obtain ⟨bf, bq, G, C, D8⟩ := A8.disk
                have hL8 := A8.L_
                have HX5 : Hid _ := hx5
                have HX6 : Hid _ := hx6
                have HBW : Hid _ := BW
                have HD8 : Hid _ := D8
                clear ro rW r9 A8 BW D8 hlk hx5 hx6 ho9
                generalize l[k3] = x at *
                go_wp2_with fail
                refine wp_onlyN (twice23 _ HD8.out (by omega) hxi HX5.out HX6.out HBW.out hbx hlt3 ?_)
                intro v70 v71 v72 v73 v74 v75 v76 v77 v78 v79 v80 v81 w9 K9
                go_wp2
                go_roundw
                case rel => exact ⟨k3 + 1, by omega, by go_num, K8.and ((Kept.drew _ wr).and K9)⟩
                case measure => simp [Go.RowKit.intOf]; omega
              · have e3 : ¬ (k3 : Int) < (k2 : Int) := by omega
                go_wp2_with (first
                  | (go_at_call 13; refine (wakes_any _).mono ?_; rintro e w10 ⟨rfl, K10⟩)
                  | fail)
                go_ret
                exact ⟨rfl, bl7.trans (K10.below bl7.size (fun _ h => h.elim))⟩

end Go.Proofs.Ytdbmefjagggnoaa
