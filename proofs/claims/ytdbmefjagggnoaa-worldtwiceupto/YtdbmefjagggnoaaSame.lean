/-
  'same': both disks tell the same.
-/
import Derived.Test.YtdbmefjagggnoaaSame2
import Derived.Test.YtdbmefjagggnoaaSame10
import Derived.Test.YtdbmefjagggnoaaSame13
namespace Go.Proofs.Ytdbmefjagggnoaa
open Go.RowKit Go.Maps Go.ChangeMaps Go.MapKept

section
variable {w : World} {S1 S2 : Nat → Prop} {d r n L bf bq : Nat} {st : DSt} {rs : RSt} {G C : Int → Nat} {vL vF : Value} {M : List RM}

theorem keys_i64 (D : DiskIn w S1 d n L st bf bq G C) (hs : Sim st rs) : ∀ x ∈ rs.L.map (·.n), isI64 x := by
  intro x hx
  have h : (st.files x).isSome = true := by rw [hs.files x, Option.isSome_map]; exact (getL_mem rs.L x).2 hx
  exact D.tf.wf x (by simpa using h)

set_option maxRecDepth 100000 in
set_option maxHeartbeats 8000000 in
theorem same_any (D : DiskIn w S1 d n L st bf bq G C) (R : RefIn w S2 r rs vL vF M) (hs : Sim st rs) (hn : n ≤ 1099511627776) (hL : L ≤ 1099511627776) (hM : M.length ≤ 1099511627776) :
    Calls Try.prog 12 #[.pointer (some ⟨d, 0, none⟩), .pointer (some ⟨r, 0, none⟩)] w fun e w' => e = .returned (.bool true) ∧ Kept (fun _ => False) w w' := by
  have HD : Hid (∀ V, Kept (fun _ => False) w V → DiskIn V S1 d n L st bf bq G C) := fun V K => D.kept K (fun _ _ h => h)
  have HR : Hid (∀ V, Kept (fun _ => False) w V → RefIn V S2 r rs vL vF M) := fun V K => R.kept K (fun _ _ h => h)
  have HX : Hid (∀ x ∈ rs.L.map (·.n), isI64 x) := keys_i64 D hs
  have HBS : Hid (∀ x, ∀ y ∈ st.bytesOf x, 0 ≤ y ∧ y ≤ 255) := bytesOf_bs D
  have HBL : Hid (∀ x, (st.bytesOf x).length ≤ L) := fun x => by rw [(hs.bytes x).1]; exact sim_bytes_len D hs x
  have hml : (rs.L.map (·.n)).length = M.length := by rw [List.length_map, R.len]
  have hF : ∀ V, Kept (fun _ => False) w V → Calls Try.prog 15 #[.pointer (some ⟨d, 0, none⟩)] V fun e w' => ∃ v : Value, e = .returned v ∧ w'.ownsRow V.heap.size 3 1 v M.length ((rs.L.map (·.n)).map (Value.int .i64)) ∧ Kept (fun _ => False) V w' := fun V K => (files_any (HD.out V K) hn).mono fun e w' ⟨v, l, he, hk, _, ho, K'⟩ => by
    obtain rfl := hs.keys hk
    rw [hml] at ho
    exact ⟨v, he, ho, K'⟩
  have HF : Hid _ := hF
  have hG : ∀ V, Kept (fun _ => False) w V → _ := fun V K => refFiles_any (HR.out V K) hM
  have HG : Hid _ := hG
  have hF0 := hF w (Kept.refl _ _)
  have hc0 := hs
  clear D R hF hG
  generalize hl : rs.L.map (·.n) = l at *
  have HL : Hid _ := hl
  clear hl
  go_enter Try.func12, Try.ntmps12
  go_wp2_with (first
    | (go_at_call 15; refine hF0.mono ?_; rintro e w1 ⟨v1, rfl, ho1, K1⟩; clear hF0)
    | fail)
  refine wp_onlyN (same2 _ (HD.out w1 K1) (HR.out w1 K1) hs hM (by rw [HL.out]; exact IntsAt.ofRow ho1 hml.symm (fun _ h => h.elim)) ?_)
  intro v10 v11 v12 v13 v14 v15 v16 v17 v18 v19 v20 v21 v22 w2 K2d
  have K2 : Kept (fun _ => False) w1 w2 := (Kept.drew _ w1).and K2d
  have hSp := spoilInts_any w2 w.heap.size v1 M.length l (ownsRow_block ho1 (fun k hk => K2.block k (ho1.lt k hk).2 (fun h => h))) hM (Nat.le_trans K1.size K2.size)
  clear K2d ho1
  go_wp2_with (first
    | (go_at_call 52; refine hSp.mono ?_; rintro e w3 ⟨rfl, K3⟩; have K03 : Kept (fun _ => False) w w3 := (K1.and K2).trans K3 (fun _ h => .inr h); have hG3 := HG.out w3 K03; clear hSp K1 K2 K3)
    | (go_at_call 50; refine hG3.mono ?_; rintro e w4 ⟨v5, rfl, ho5, K4⟩; have K04 := K03.and K4; clear hG3)
    | fail)
  have HO5 : Hid (w4.ownsRow w3.heap.size 3 1 v5 M.length (l.map (Value.int .i64))) := ho5
  clear ho5
  obtain ⟨a5, c5, e5⟩ := ownsRow_shape HO5.out
  subst e5
  go_loopw [6] (fun i wr => ∃ k : Nat, k ≤ M.length ∧ i = .int .i64 k ∧ Kept (fun _ => False) w4 wr) (fun i _ => M.length - (intOf i).toNat)
  case atStart => exact ⟨0, Nat.zero_le _, rfl, Kept.refl _ _⟩
  case round =>
    obtain ⟨k, hk, rfl, KW⟩ := hrel
    have K0W := K04.and KW
    by_cases hlt : k < M.length
    · have e1 : (k : Int) < (M.length : Int) := by omega
      have ro := ownsRow_block HO5.out (fun b hb => KW.block b (HO5.out.lt b hb).2 (fun h => h))
      have hkl : k < l.length := by omega
      have hlk : l[k]? = some l[k] := List.getElem?_eq_getElem hkl
      have hxi := HX.out l[k] (List.getElem_mem hkl)
      obtain ⟨g, cap, e, hbg, hgl⟩ := ro.form (by omega)
      simp only [Value.slice.injEq] at e
      obtain ⟨rfl, _, rfl⟩ := e
      have hcap := lend_cap ro
      have hx5 := (ownsRow_get ro (k := k) (u := .int .i64 l[k]) (by rw [List.getElem?_map, hlk]; rfl)).1
      generalize l[k] = x at *
      have hRd := read_any (HD.out wr K0W) (by omega) x hxi
      have hb1 := HBL.out x
      have g2 : (0 : Int) ≤ (k : Int) := by omega
      clear ro hlk
      go_wp2_with (first
        | (go_at_call 10; refine hRd.mono ?_; rintro e w5 ⟨a7, c7, rfl, ho7, K5⟩; clear hRd)
        | fail)
      have K05 := K0W.and K5
      have B7 := BytesAt.ofRow ho7 (HBS.out x)
      refine wp_onlyN (same10 _ (HD.out w5 K05) (HR.out w5 K05) hs hL hM hxi (cell_kp K5 hx5 (fun h => h)) hlt (by omega) B7 ?_)
      intro v40 v41 v42 v43 v44 v45 v46 v47 v48 v49 v50 v51 v52 v53 v54 v55 v56 v57 v58 v59 v60 v61 v62 v63 w6 K6d
      have K6 : Kept (fun _ => False) w5 w6 := (Kept.drew _ w5).and K6d
      have hSb := spoilBytes_any w6 wr.heap.size (.slice a7 (st.bytesOf x).length c7) (st.bytesOf x).length (st.bytesOf x) (ownsRow_block ho7 (fun k hk => K6.block k (ho7.lt k hk).2 (fun h => h))) (by omega) (Nat.le_trans K5.size K6.size)
      clear K6d ho7 B7
      go_wp2_with (first
        | (go_at_call 28; refine hSb.mono ?_; rintro e w7 ⟨rfl, K7⟩; have KR7 : Kept (fun _ => False) wr w7 := (K5.and K6).trans K7 (fun _ h => .inr h); clear hSb K5 K6 K7)
        | fail)
      have K07 := K0W.and KR7
      refine wp_onlyN (same13 _ (HD.out w7 K07) (HR.out w7 K07) hs hL hM hxi (cell_kp KR7 hx5 (fun h => h)) hlt (by omega) ?_)
      intro v67 v68 v69 v70 v71 v72 v73 v74 v75 v76 v77 v78 v79 v80 w8 K8d
      go_wp2
      go_roundw
      case rel => exact ⟨k + 1, by omega, by go_num, (KW.and KR7).and ((Kept.drew _ w7).and K8d)⟩
      case measure => simp [intOf]; omega
    · have e1 : ¬ (k : Int) < (M.length : Int) := by omega
      have hF5 := HF.out wr K0W
      have I5 : IntsAt wr (fun _ => False) (.slice a5 M.length c5) l := IntsAt.ofRow (ownsRow_block HO5.out (fun b hb => KW.block b (HO5.out.lt b hb).2 (fun h => h))) hml.symm (fun _ h => h.elim)
      go_wp2_with (first
        | (go_at_call 15; refine hF5.mono ?_; rintro e w5 ⟨v8, rfl, ho8, K5⟩; have hI := ints_same w5 v8 (.slice a5 M.length c5) l (IntsAt.ofRow ho8 hml.symm (fun _ h => h.elim)) (IntsAt.kept (S' := fun _ => False) I5 K5 (fun _ h => h.elim)) (by omega); clear hF5 ho8)
        | (go_at_call 16; refine hI.mono ?_; rintro e w6 ⟨rfl, nn, hw6⟩; subst w6; clear hI)
        | fail)
      go_ret
      exact ⟨rfl, (K0W.and K5).and (Kept.drewN _ _ _)⟩
end

end Go.Proofs.Ytdbmefjagggnoaa
