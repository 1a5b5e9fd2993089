/-
  The document's signal, in memory.
-/
import Derived.Test.YtfjekjbkifmpfabDoorG48
import Derived.Test.YtfjekjbkifmpfabDoorG14
import Derived.Test.YtfjekjbkifmpfabDoorG26
namespace Go.Proofs.YtfjekjbkifmpfabDoor.Rf
open Go.RowKit

set_option maxRecDepth 100000 in
set_option maxHeartbeats 8000000 in
theorem signal_any {w0 w : World} {H : Nat → Prop} {rb : Nat} {nm : ByteArray} {a : Option Addr} {c : Nat} {ns : List Nd} {r : Rn} {m : Nat} (E : Env w0 w H a ns) (R : RAt w H rb nm a ns.length c r) (F : Fit r m) (hm : m ≤ 400000) (hn : ns.length ≤ 64) (hpos : 0 < ns.length) (S : Sound ns) (FN : Fine ns r.st) (hs : r.st.status = 1) (q : Inp) (hq : q.name.size ≤ maxLen) :
    Calls Tryd.prog 43 #[.pointer (some ⟨rb, 0, none⟩), inpV q] w fun e w' => e = .returned (.int .i64 (signalR nm ns r q).2) ∧ RGoes w H rb nm a ns.length c (signalR nm ns r q).1 w' := by
  have K0 : Kept (fun _ => False) w (w.alloc (.cells #[.int .i64 q.kind, .string q.node, .string q.name, .string q.text, .int .i64 q.tr, .int .i64 q.status, .int .i64 q.now, .string q.par, .string q.pnode] 38)) := Kept.alloc _ _ _
  have hI := heap_alloc_new w (.cells #[.int .i64 q.kind, .string q.node, .string q.name, .string q.text, .int .i64 q.tr, .int .i64 q.status, .int .i64 q.now, .string q.par, .string q.pnode] 38)
  have htop : ∀ g, H g → g < w.heap.size := by
    obtain ⟨_, _, _, _, _, _, _, _, _, htop⟩ := R.opened
    exact htop
  obtain ⟨res, hres⟩ : ∃ res, res = signalR nm ns r q := ⟨_, rfl⟩
  rw [← hres]
  have HRes := hid hres
  obtain ⟨⟨i0, i1, i2, i3, i4, i5, i6, i7, i8⟩, _⟩ := nine hI
  have hnode := fun kd => node_any (E.new K0) (R.new K0) q.node kd
  have HI := hid hI
  have HT := hid htop
  have HE1 := hid (E.new K0)
  have HR1 := hid (R.new K0)
  have HR0 := hid R
  have HE0 := hid E
  have HK0 := hid K0
  have HF := hid F
  have HFN := hid FN
  have HS := hid S
  unfold inpV
  clear K0 hI htop hres E R F FN S
  have hname := fun V => refName_any V q.name hq
  have Hn1' : Hid (nameP q.name = nameP q.name) := rfl
  cases hnm : nameP q.name with
  | false =>
    rw [hnm] at hname
    have HQ : Hid (signalR nm ns r q = (r, 17)) := by
      show _ = _
      unfold signalR
      rw [if_pos hnm]
    clear hnm Hn1' hs
    go_enter Tryd.func43, Tryd.ntmps43
    go_wp2_with (first
      | (go_at_call 20; refine (hname _).mono ?_; rintro e wn ⟨rfl, hw⟩; subst wn; clear hname)
      | fail)
    go_ret
    obtain rfl := HRes.out.trans HQ.out
    refine ⟨rfl, ?_⟩
    exact RGoes.first HK0.out (RGoes.keep HR1.out (Kept.refl _ _))
  | true =>
    rw [hnm] at hname
    have Hn1 := hid hnm
    clear hnm Hn1'
    by_cases ht : 256 < q.text.size
    · have e6 : (256 : Int) < (q.text.size : Int) := by omega
      have HQ : Hid (signalR nm ns r q = (r, 9)) := by
        show _ = _
        unfold signalR
        rw [if_neg (by rw [Hn1.out]; simp), if_pos ht]
      clear ht hs
      go_enter Tryd.func43, Tryd.ntmps43
      go_wp2_with (first
        | (go_at_call 20; refine (hname _).mono ?_; rintro e wn ⟨rfl, hw⟩; subst wn; clear hname)
        | fail)
      go_ret
      obtain rfl := HRes.out.trans HQ.out
      refine ⟨rfl, ?_⟩
      exact RGoes.first HK0.out (RGoes.keep HR1.out (Kept.refl _ _))
    · have e6 : ¬ ((256 : Int) < (q.text.size : Int)) := by omega
      have Ht1 := hid ht
      have hlen := HFN.out.len
      have HL := hid hlen
      have HS2h := hid hs
      obtain ⟨v6, v7, v12, v13, hb, hn6, hn7, hHr, _, _⟩ := HR1.out.opened
      obtain ⟨a6, c6, rfl⟩ := ownsRow_shape hn6
      obtain ⟨a7, c7, rfl⟩ := ownsRow_shape hn7
      have HBk := hid hb
      have HN6 := hid hn6
      have HN := hid HE1.out.here.1
      have hrb : rb < (w.alloc (.cells #[.int .i64 q.kind, .string q.node, .string q.name, .string q.text, .int .i64 q.tr, .int .i64 q.status, .int .i64 q.now, .string q.par, .string q.pnode] 38)).heap.size := (Array.getElem?_eq_some_iff.1 hb).1
      clear hb hn6 hn7 hHr ht hlen hs
      go_enter Tryd.func43, Tryd.ntmps43
      go_upto_region 5 with (first
        | (go_at_call 20; refine (hname _).mono ?_; rintro e wn ⟨rfl, hw⟩; subst wn; clear hname)
        | fail)
      clear i0 i1 i2 i3 i4 i5 i6 i7 i8
      go_wp2_with fail
      go_loopw [5] (fun i wr => ∃ (k : Nat), k ≤ ns.length ∧ i = .int .i64 k ∧ Kept (fun _ => False) (w.alloc (.cells #[.int .i64 q.kind, .string q.node, .string q.name, .string q.text, .int .i64 q.tr, .int .i64 q.status, .int .i64 q.now, .string q.par, .string q.pnode] 38)) wr ∧ ∀ j, j < k → waitB ns r.st q.name j = false) (fun i _ => ns.length - (intOf i).toNat)
      case atStart => exact ⟨0, Nat.zero_le _, rfl, Kept.refl _ _, fun j h => absurd h (Nat.not_lt_zero _)⟩
      case round =>
        obtain ⟨k, hk, rfl, K, hno⟩ := hrel
        have HNo := hid hno
        clear hno
        obtain ⟨x0, x1, _, x3, _, _, _, _, x8, x9, _⟩ := runCells ((K.block rb hrb (fun h => h)).trans HBk.out)
        obtain ⟨⟨i0, i1, i2, i3, i4, i5, i6, i7, i8⟩, _⟩ := nine ((K.block _ (Array.getElem?_eq_some_iff.1 HI.out).1 (fun h => h)).trans HI.out)
        by_cases hlt : k < ns.length
        · have hl2 : k < r.st.nodes.length := by rw [HL.out]; exact hlt
          have e1 : (k : Int) < (ns.length : Int) := by omega
          have e2 : (k : Int) < (r.st.nodes.length : Int) := by omega
          obtain ⟨b, o, av, cv, hae, hT, c0, c1, c2, c3, c4, c5, c6'⟩ := (keptNew K HN.out).at hlt
          subst hae
          have hn7 := ownsRow_keep HN6.out (fun g hg => K.block g (ownsRow_blk HN6.out hg) (fun h => h))
          obtain ⟨g6, cg, hv, _, _, hrow⟩ := row_at hn7 (by omega)
          obtain ⟨rfl, rfl⟩ : a6 = some ⟨g6, 0, none⟩ ∧ c6 = cg := by simpa using hv
          have q0 := (hrow _ _ (nsF_get hl2).1).1
          have KA : Kept (fun _ => False) wr (wr.alloc (.cells #[.string (ns[k]).name, .int .i64 (ns[k]).kind, .string (ns[k]).arg, .string (ns[k]).«to», .int .i64 (ns[k]).delay, .int .i64 (ns[k]).tries, .slice av (ns[k]).after.length cv] 43)) := Kept.alloc _ _ _
          have q0' := keepC KA q0 (fun _ _ h => h)
          have x8' := keepC KA x8 (fun _ _ h => h)
          have i2' := keepC KA i2 (fun _ _ h => h)
          have i3' := keepC KA i3 (fun _ _ h => h)
          obtain ⟨⟨m0, m1, m2, m3, m4, m5, m6⟩, _⟩ := cells7F (heap_alloc_new wr (.cells #[.string (ns[k]).name, .int .i64 (ns[k]).kind, .string (ns[k]).arg, .string (ns[k]).«to», .int .i64 (ns[k]).delay, .int .i64 (ns[k]).tries, .slice av (ns[k]).after.length cv] 43))
          have hwb : waitB ns r.st q.name k = (((ns[k]).kind == 4) && (decide ((ns[k]).arg = q.name) && ((r.st.nodes[k]).status == 2))) := by unfold waitB; rw [List.getElem?_eq_getElem hlt, List.getElem?_eq_getElem hl2]
          have HW := hid hwb
          have Hnx : Hid (waitB ns r.st q.name k = false → ∀ j, j < k + 1 → waitB ns r.st q.name j = false) := fun h j hj => by
            rcases Nat.lt_succ_iff_lt_or_eq.1 hj with h' | h'
            · exact HNo.out j h'
            · subst h'; exact h
          have Hyes : Hid (waitB ns r.st q.name k = true → busyWaitP ns r.st q.name = some k) := fun h => range_find_some (by rw [HL.out]; omega) HNo.out h
          have hnmk : nmAt ns k = (ns[k]).name := by unfold nmAt; rw [List.getElem?_eq_getElem hlt]
          have hse := str_eq (ns[k]).arg q.name
          have hE := fun V (KV : Kept (fun _ => False) wr V) => eventE ((HE1.out.new K).new KV) ((HR1.out.new K).new KV) HF.out (by omega) ⟨12, (ns[k]).name, q.text, 0⟩
          simp only [] at hE
          have Hnmk := hid hnmk
          clear hnmk
          have HF2 := hid (evR_fit (nm := nm) (ns := ns) HF.out (by omega) ⟨12, (ns[k]).name, q.text, 0⟩)
          have HFN2 := hid (evR_fine (nm := nm) (e := ⟨12, (ns[k]).name, q.text, 0⟩) HFN.out)
          have HS2 : Hid ((evR nm ns r ⟨12, (ns[k]).name, q.text, 0⟩).st.status = 1) := (evR_status (by simp) (by simp)).trans HS2h.out
          have HK := hid K
          have HKA := hid KA
          clear hT hn7 hrow q0 hwb K KA HNo hv
          generalize hza : (ns[k]).arg = za at *
          generalize (r.st.nodes[k]).status = zs at *
          cases b1 : ((ns[k]).kind == 4) with
          | false =>
            have HFa := hid (Hnx.out (by rw [HW.out, b1]; rfl))
            clear Hnx Hyes HW hse hE
            go_wp2_with fail
            go_roundw
            case rel => exact ⟨k + 1, by omega, by go_num, HK.out.and HKA.out, HFa.out⟩
            case measure => simp [intOf]; omega
          | true =>
            cases b2 : (za.toList == q.name.toList) with
            | false =>
              have HFa := hid (Hnx.out (by rw [HW.out, b1, ← hse, b2]; rfl))
              clear Hnx Hyes HW hse hE
              go_wp2_with fail
              go_roundw
              case rel => exact ⟨k + 1, by omega, by go_num, HK.out.and HKA.out, HFa.out⟩
              case measure => simp [intOf]; omega
            | true =>
              cases b3 : (zs == 2) with
              | false =>
                have HFa := hid (Hnx.out (by rw [HW.out, b1, ← hse, b2, b3]; rfl))
                clear Hnx Hyes HW hse hE
                go_wp2_with fail
                go_roundw
                case rel => exact ⟨k + 1, by omega, by go_num, HK.out.and HKA.out, HFa.out⟩
                case measure => simp [intOf]; omega
              | true =>
                have HB := Hyes.out (by rw [HW.out, b1, ← hse, b2, b3]; rfl)
                have HQ : Hid (signalR nm ns r q = (goOnP nm ns (evR nm ns r ⟨12, (ns[k]).name, q.text, 0⟩), 0)) := by
                  show _ = _
                  unfold signalR
                  rw [if_neg (by rw [Hn1.out]; simp), if_neg Ht1.out, HB]
                  dsimp only
                  rw [Hnmk.out]
                clear Hnx Hyes HW hse HB
                go_upto_region 10 with fail
                go_upto_region 11 with (first
                  | (go_at_call 41; refine (hE _ (HKA.out)).mono ?_; rintro e w2 ⟨rfl, X2⟩; clear hE)
                  | fail)
                obtain ⟨H2, E2, R2, hH2, K2⟩ := env_goes (HE1.out.new (HK.out.and HKA.out)) X2
                have hT := on_any E2 R2 HF2.out (by omega) hn hpos HS.out HFN2.out HS2.out
                have HH2 := hid hH2
                have HK2 := hid K2
                clear hH2 K2 X2 R2 E2
                go_wp2_with (first
                  | (go_at_call 42; refine hT.mono ?_; rintro e w3 ⟨rfl, X3⟩; clear hT)
                  | fail)
                go_ret
                obtain rfl := HRes.out.trans HQ.out
                refine ⟨rfl, ?_⟩
                exact RGoes.first ((HK0.out.and HK.out).and HKA.out) (RGoes.trans HH2.out HK2.out X3)
        · obtain rfl : k = ns.length := by omega
          have e1 : ¬ ((ns.length : Int) < (ns.length : Int)) := by omega
          have e2 : ¬ ((ns.length : Int) < (r.st.nodes.length : Int)) := by rw [HL.out]; omega
          have HB : Hid (busyWaitP ns r.st q.name = none) := range_find_none (fun j hj => HNo.out j (by rw [HL.out] at hj; omega))
          have HK := hid K
          by_cases hf : 32 ≤ r.st.sigs.length
          · have e7 : (32 : Int) ≤ (r.st.sigs.length : Int) := by omega
            have HQ : Hid (signalR nm ns r q = (r, 8)) := by
              show _ = _
              unfold signalR
              rw [if_neg (by rw [Hn1.out]; simp), if_neg Ht1.out, HB.out]
              dsimp only
              rw [if_pos hf]
            clear K
            go_wp2_with fail
            go_ret
            obtain rfl := HRes.out.trans HQ.out
            refine ⟨rfl, ?_⟩
            exact RGoes.keep HR0.out (HK0.out.and HK.out)
          · have e7 : ¬ ((32 : Int) ≤ (r.st.sigs.length : Int)) := by omega
            have HQ : Hid (signalR nm ns r q = (evR nm ns r ⟨13, q.name, q.text, 0⟩, 0)) := by
              show _ = _
              unfold signalR
              rw [if_neg (by rw [Hn1.out]; simp), if_neg Ht1.out, HB.out]
              dsimp only
              rw [if_neg hf]
            have hE := eventE (HE1.out.new K) (HR1.out.new K) HF.out (by omega) ⟨13, q.name, q.text, 0⟩
            simp only [] at hE
            clear K
            go_upto_region 15 with fail
            go_wp2_with (first
              | (go_at_call 41; refine hE.mono ?_; rintro e w2 ⟨rfl, X2⟩; clear hE)
              | fail)
            go_ret
            obtain rfl := HRes.out.trans HQ.out
            refine ⟨rfl, ?_⟩
            exact RGoes.first (HK0.out.and HK.out) X2

end Go.Proofs.YtfjekjbkifmpfabDoor.Rf
