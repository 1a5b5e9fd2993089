/-
  busyWait: the first node that waits for a signal.
-/
import Derived.Test.YtfjekjbkifmpfaaDoorG28
import Derived.Test.YtfjekjbkifmpfaaDoorG25
import Derived.Deep.CutRange
import Derived.BigQuiet
namespace Go.Proofs.YtfjekjbkifmpfaaDoor
open Go.RowKit

theorem range_find_some {n k : Nat} {p : Nat → Bool} (hk : k < n) (hno : ∀ j, j < k → p j = false) (h : p k = true) : (List.range n).find? p = some k := by
  rw [List.find?_range_eq_some]
  exact ⟨h, List.mem_range.2 hk, fun j hj => by simp [hno j hj]⟩

theorem range_find_none {n : Nat} {p : Nat → Bool} (hno : ∀ j, j < n → p j = false) : (List.range n).find? p = none := by
  rw [List.find?_eq_none]
  intro j hj
  simp [hno j (List.mem_range.1 hj)]

/-- Its name. -/
def waitNm (ns : List Nd) (s : St) (x : ByteArray) : ByteArray := match busyWaitP ns s x with | some i => nmAt ns i | none => ⟨#[]⟩

set_option maxRecDepth 100000 in
set_option maxHeartbeats 8000000 in
theorem busyWait_any {w0 w : World} {H : Nat → Prop} {rb : Nat} {nm : ByteArray} {a : Option Addr} {c : Nat} {ns : List Nd} {r : Rn} (E : Env w0 w H a ns) (R : RAt w H rb nm a ns.length c r) (x : ByteArray) :
    Calls Tryd.prog 76 #[.pointer (some ⟨rb, 0, none⟩), .string x] w fun e w' => e = .returned (.tuple #[.string (waitNm ns r.st x), .bool (busyWaitP ns r.st x).isSome]) ∧ Kept (fun _ => False) w w' := by
  obtain ⟨v6, v7, v12, v13, hb, hn6, _, _, _, htop⟩ := R.opened
  obtain ⟨a6, c6, rfl⟩ := ownsRow_shape hn6
  obtain ⟨x0, x1, x2, x3, x4, x5, x6, x7, x8, x9, x10, _⟩ := runCells hb
  have hNb := E.here.1
  have hfew := E.few
  have HB := hid hb
  have HN6 := hid hn6
  have HN := hid hNb
  have hC := both_any w.drew nm a ns.length c r.st a6 r.st.nodes.length c6 v7
  clear hb hn6 E R hNb htop
  go_enter Tryd.func76, Tryd.ntmps76
  go_upto_region 1 with fail
  refine wp_onlyN (bwt1 _ x0 x1 x2 x3 x4 x5 x6 x7 x8 x9 x10 hC ?_)
  intro _ _ _ _ _ _ _ _ w5 K5
  clear x0 x1 x2 x3 x4 x5 x6 x7 x8 x9 x10 hC
  go_wp2_with fail
  go_loopw [17] (fun i wr => ∃ (k : Nat), k ≤ min ns.length r.st.nodes.length ∧ i = .int .i64 k ∧ Kept (fun _ => False) w wr ∧ ∀ j, j < k → waitB ns r.st x j = false) (fun i _ => min ns.length r.st.nodes.length - (intOf i).toNat)
  case atStart => exact ⟨0, Nat.zero_le _, rfl, K5, fun j h => absurd h (Nat.not_lt_zero _)⟩
  case round =>
    obtain ⟨k, hk, rfl, K, hno⟩ := hrel
    have HNo := hid hno
    clear hno
    by_cases hlt : k < min ns.length r.st.nodes.length
    · have hl1 : k < ns.length := by omega
      have hl2 : k < r.st.nodes.length := by omega
      have e0 : (k : Int) < ((min ns.length r.st.nodes.length : Nat) : Int) := by omega
      have e1 : (k : Int) < (ns.length : Int) := by omega
      have e2 : (k : Int) < (r.st.nodes.length : Int) := by omega
      obtain ⟨_, x1, _, _, _, _, _, _, x8, _⟩ := runCells ((K.block rb (Array.getElem?_eq_some_iff.1 HB.out).1 (fun h => h)).trans HB.out)
      obtain ⟨b, o, av, cv, hae, hT, c0, c1, c2, c3, c4, c5, c6'⟩ := (keptNew K HN.out).at hl1
      subst hae
      have hn7 := ownsRow_keep HN6.out (fun g hg => K.block g (ownsRow_blk HN6.out hg) (fun h => h))
      obtain ⟨g6, cg, hv, _, _, hrow⟩ := row_at hn7 (by omega)
      obtain ⟨rfl, rfl⟩ : a6 = some ⟨g6, 0, none⟩ ∧ c6 = cg := by simpa using hv
      have q0 := (hrow _ _ (nsF_get hl2).1).1
      have KA : Kept (fun _ => False) wr (wr.alloc (.cells #[.string (ns[k]).name, .int .i64 (ns[k]).kind, .string (ns[k]).arg, .string (ns[k]).«to», .int .i64 (ns[k]).delay, .int .i64 (ns[k]).tries, .slice av (ns[k]).after.length cv] 64)) := Kept.alloc _ _ _
      have q0' := keepC KA q0 (fun _ _ h => h)
      have x8' := keepC KA x8 (fun _ _ h => h)
      have hwb : waitB ns r.st x k = (((ns[k]).kind == 4) && (decide ((ns[k]).arg = x) && ((r.st.nodes[k]).status == 2))) := by unfold waitB; rw [List.getElem?_eq_getElem hl1, List.getElem?_eq_getElem hl2]
      have HW := hid hwb
      have Hnx : Hid (waitB ns r.st x k = false → ∀ j, j < k + 1 → waitB ns r.st x j = false) := fun h j hj => by
        rcases Nat.lt_succ_iff_lt_or_eq.1 hj with h' | h'
        · exact HNo.out j h'
        · subst h'; exact h
      have Hyes : Hid (waitB ns r.st x k = true → busyWaitP ns r.st x = some k) := fun h => range_find_some hlt HNo.out h
      have HNm : Hid (nmAt ns k = (ns[k]).name) := by show _ = _; unfold nmAt; rw [List.getElem?_eq_getElem hl1]
      have hse := str_eq (ns[k]).arg x
      have HK := hid K
      have HKA := hid KA
      clear hT hn7 hrow q0 hwb K KA HNo
      generalize (ns[k]).kind = zk at *
      generalize (ns[k]).arg = za at *
      generalize (r.st.nodes[k]).status = zs at *
      cases b1 : (zk == 4) with
      | false =>
        have HF := hid (Hnx.out (by rw [HW.out, b1]; rfl))
        clear Hnx Hyes HW hse
        go_wp2_with (first | go_quiet (fail) | fail)
        go_roundw
        case rel => exact ⟨k + 1, by omega, by go_num, HK.out.and HKA.out, HF.out⟩
        case measure => simp [intOf]; omega
      | true =>
        cases b2 : (za.toList == x.toList) with
        | false =>
          have HF := hid (Hnx.out (by rw [HW.out, b1, ← hse, b2]; rfl))
          clear Hnx Hyes HW hse
          go_wp2_with (first | go_quiet (fail) | fail)
          go_roundw
          case rel => exact ⟨k + 1, by omega, by go_num, HK.out.and HKA.out, HF.out⟩
          case measure => simp [intOf]; omega
        | true =>
          cases b3 : (zs == 2) with
          | false =>
            have HF := hid (Hnx.out (by rw [HW.out, b1, ← hse, b2, b3]; rfl))
            clear Hnx Hyes HW hse
            go_wp2_with (first | go_quiet (fail) | fail)
            go_roundw
            case rel => exact ⟨k + 1, by omega, by go_num, HK.out.and HKA.out, HF.out⟩
            case measure => simp [intOf]; omega
          | true =>
            have HF := hid (Hyes.out (by rw [HW.out, b1, ← hse, b2, b3]; rfl))
            clear Hnx Hyes HW hse
            go_wp2_with (first | go_quiet (fail) | fail)
            go_ret2
            refine ⟨?_, HK.out.and HKA.out⟩
            have hw : waitNm ns r.st x = (ns[k]).name := by unfold waitNm; rw [HF.out]; exact HNm.out
            rw [HF.out, hw]
            rfl
    · obtain rfl : k = min ns.length r.st.nodes.length := by omega
      have e0 : ¬ (((min ns.length r.st.nodes.length : Nat) : Int) < ((min ns.length r.st.nodes.length : Nat) : Int)) := by omega
      have HF : Hid (busyWaitP ns r.st x = none) := range_find_none HNo.out
      have HK := hid K
      clear K HNo
      go_wp2_with fail
      go_ret2
      have hw : waitNm ns r.st x = ⟨#[]⟩ := by unfold waitNm; rw [HF.out]
      exact ⟨by rw [HF.out, hw]; rfl, HK.out⟩

end Go.Proofs.YtfjekjbkifmpfaaDoor

/-
  take, complete, fail, fire, child, cancel.
-/
namespace Go.Proofs.YtfjekjbkifmpfaaDoor
open Go.RowKit

theorem restC_len (l : List Ns) : restC l ≤ l.length := List.countP_le_length

/-- goOn, where the definition and the state are small. -/
theorem goOnE {w0 w : World} {H : Nat → Prop} {rb : Nat} {nm : ByteArray} {a : Option Addr} {c : Nat} {ns : List Nd} {r : Rn} {m : Nat} (E : Env w0 w H a ns) (R : RAt w H rb nm a ns.length c r) (F : Fit r m) (hn : ns.length ≤ 64) (h6 : r.st.nodes.length ≤ 64) (hm : m ≤ 500000) :
    Calls Tryd.prog 74 #[.pointer (some ⟨rb, 0, none⟩)] w fun e w' => e = .returned (.tuple #[]) ∧ RGoes w H rb nm a ns.length c (goOnP nm ns r) w' := by
  have hb : (restC r.st.nodes + 1) * (ns.length * (ns.length + 3)) ≤ 65 * (64 * 67) := Nat.mul_le_mul (by have := restC_len r.st.nodes; omega) (Nat.mul_le_mul hn (by omega))
  exact goOn_any E R F (by omega) (restC r.st.nodes + 1) (by omega) (by omega)

/-- tell with no task, then goOn. -/
theorem tellP_len {nm : ByteArray} {ns : List Nd} {r : Rn} {e : Ev} {ts : List Tk} (hn : ns.length ≤ 64) (h6 : r.st.nodes.length ≤ 64) : (tellP nm ns r e ts).st.nodes.length ≤ 64 := by
  unfold tellP
  split
  · exact h6
  · rename_i s hs
    show s.nodes.length ≤ 64
    by_cases he : e.kind = 1
    · unfold changeP at hs
      rw [if_pos he, if_pos he] at hs
      split at hs
      · cases hs
      · cases hs
        simpa using hn
    · rw [(changeP_grow hs he).len]
      exact h6

theorem nineQ {w : World} {b : Nat} {T : TypeId} {u0 u1 u2 u3 u4 u5 u6 u7 u8 : Value} (h : w.heap[b]? = some (.cells #[u0, u1, u2, u3, u4, u5, u6, u7, u8] T (0, 0))) :
    w.cell? ⟨b, 0, none⟩ = some u0 ∧ w.cell? ⟨b, 1, none⟩ = some u1 ∧ w.cell? ⟨b, 2, none⟩ = some u2 ∧ w.cell? ⟨b, 3, none⟩ = some u3 ∧ w.cell? ⟨b, 4, none⟩ = some u4 ∧ w.cell? ⟨b, 5, none⟩ = some u5 ∧ w.cell? ⟨b, 6, none⟩ = some u6 ∧ w.cell? ⟨b, 7, none⟩ = some u7 ∧ w.cell? ⟨b, 8, none⟩ = some u8 := (nine h).1

/-- What a call of do's leaves, with its answer. -/
def DoPost (w : World) (H : Nat → Prop) (rb : Nat) (nm : ByteArray) (a : Option Addr) (n c : Nat) (p : Rn × Int) (e : Ending) (w' : World) : Prop := e = .returned (.int .i64 p.2) ∧ RGoes w H rb nm a n c p.1 w'

/-- Kinds in a new row. -/
theorem cells1_new (w : World) (x : Int) (T : TypeId) : CellsAt (w.alloc (.cells #[.int .i64 x] T)) (some ⟨w.heap.size, 0, none⟩) ([x].map (Value.int .i64)) :=
  .inr ⟨_, 0, rfl, fun j u hu => by
    have h := heap_alloc_new w (.cells #[.int .i64 x] T)
    unfold World.cell?
    rw [h, Nat.zero_add]
    simpa using hu⟩

theorem cells2_new (w : World) (x y : Int) (T : TypeId) : CellsAt (w.alloc (.cells #[.int .i64 x, .int .i64 y] T)) (some ⟨w.heap.size, 0, none⟩) ([x, y].map (Value.int .i64)) :=
  .inr ⟨_, 0, rfl, fun j u hu => by
    have h := heap_alloc_new w (.cells #[.int .i64 x, .int .i64 y] T)
    unfold World.cell?
    rw [h, Nat.zero_add]
    simpa using hu⟩

section
variable {w0 w : World} {H : Nat → Prop} {rb : Nat} {nm : ByteArray} {a : Option Addr} {c : Nat} {ns : List Nd} {r : Rn} {m : Nat}

set_option maxRecDepth 100000 in
set_option maxHeartbeats 4000000 in
theorem cancel_any (E : Env w0 w H a ns) (R : RAt w H rb nm a ns.length c r) (F : Fit r m) (hn : ns.length ≤ 64) (hm : m ≤ 100000) (q : Inp) (hq : q.text.size ≤ maxLen) :
    Calls Tryd.prog 59 #[.pointer (some ⟨rb, 0, none⟩), inpV q] w (DoPost w H rb nm a ns.length c (cancelP nm ns r q)) := by
  unfold inpV
  have KA := Kept.alloc (fun _ => False) w (.cells #[.int .i64 q.kind, .string q.node, .string q.name, .string q.text, .int .i64 q.tr, .int .i64 q.status, .int .i64 q.now, .string q.par, .string q.pnode] 39)
  obtain ⟨_, _, _, q3, _⟩ := nineQ (heap_alloc_new w (.cells #[.int .i64 q.kind, .string q.node, .string q.name, .string q.text, .int .i64 q.tr, .int .i64 q.status, .int .i64 q.now, .string q.par, .string q.pnode] 39))
  have hD := end_any (E.new KA) (R.new KA) F (by omega) (by omega) 4 q.text
  have HKA := hid KA
  have HR := hid R
  unfold maxLen at hq
  clear E R F KA
  by_cases hb : 256 < q.text.size
  · have e0 : (256 : Int) < (q.text.size : Int) := by omega
    have HW := hid (show cancelP nm ns r q = (r, 9) by unfold cancelP; rw [if_pos hb])
    clear hb hD
    go_enter Tryd.func59, Tryd.ntmps59
    go_wp2_with fail
    go_ret
    refine ⟨by rw [HW.out]; rfl, ?_⟩
    rw [HW.out]
    exact RGoes.keep HR.out HKA.out
  · have e0 : ¬ (256 : Int) < (q.text.size : Int) := by omega
    have HW := hid (show cancelP nm ns r q = (endP nm ns r 4 q.text, 0) by unfold cancelP; rw [if_neg hb])
    clear hb
    go_enter Tryd.func59, Tryd.ntmps59
    go_wp2_with (first
      | (go_at_call 81; refine hD.mono ?_; rintro e w9 ⟨rfl, X9⟩; clear hD)
      | fail)
    go_ret
    refine ⟨by rw [HW.out]; rfl, ?_⟩
    rw [HW.out]
    exact X9.first HKA.out

end

end Go.Proofs.YtfjekjbkifmpfaaDoor

/-
  The document's Apply: an event that is refused at once.
-/
namespace Go.Proofs.YtfjekjbkifmpfaaDoor.Rf
open Go.RowKit

set_option maxRecDepth 100000 in
set_option maxHeartbeats 16000000 in
theorem apply_there (w : World) (nm : ByteArray) (a : Option Addr) (c : Nat) (ns : List Nd) (hN : NodesAt w a ns) (hn : ns.length ≤ 1000000) (s : St) (v6 v7 : Value) (R : StRd w s v6 v7) (he0 : 0 ≤ s.events) (he1 : s.events ≤ 1000000000000) (ev : Ev) (h1 : ev.kind = 1) (hs : s.status ≠ 0) :
    Calls Tryd.prog 19 #[.agg #[.string nm, .slice a ns.length c], .agg (stA s v6 v7), .agg #[.int .i64 ev.kind, .string ev.node, .string ev.text, .int .i64 ev.num]] w (ApPost w s v6 v7 (applyR nm ns s ev)) := by
  have _ := hn
  obtain ⟨ek, en, et, ez⟩ := ev
  obtain ⟨x0, x1, x2, x3, x4, x5, ln, ls, x8⟩ := s
  simp only [] at he0 he1 h1 hs ⊢
  obtain ⟨va6, vc6, rfl⟩ := R.nodes.shape
  obtain ⟨va7, vc7, rfl⟩ := R.sigs.shape
  simp only [] at R ⊢
  subst h1
  have HS := hid hs
  clear hs
  obtain ⟨d0, d1, d2, d3, dz, KW⟩ := ap_boxes w nm a ns.length c ⟨x0, x1, x2, x3, x4, x5, ln, ls, x8⟩ (Value.slice va6 ln.length vc6) (Value.slice va7 ls.length vc7) ⟨1, en, et, ez⟩
  have hC := refCopied_any _ _ (Value.slice va6 ln.length vc6) (Value.slice va7 ls.length vc7) (R.new KW)
  have HR := hid R
  have HF7 : Hid (ls.length ≤ 1000000) := R.few7
  have HN := hid hN
  unfold stA at hC ⊢
  unfold apD apS apE apZ stA zero9 at d0 d1 d2 d3 dz KW hC
  simp only [] at d0 d1 d2 d3 dz KW hC ⊢
  obtain ⟨⟨p0, p1, p2, p3, p4, p5, p6, p7, p8⟩, _⟩ := nine d1
  have HD0 := hid d0
  have HD1 := hid d1
  have HD2 := hid d2
  have HD3 := hid d3
  have HDZ := hid dz
  have HKW := hid KW
  clear d0 d1 d2 d3 dz KW R hN
  go_enter Tryd.func19, Tryd.ntmps19
  go_upto_region 3 with (first
    | (go_at_call 41; refine hC.mono ?_; rintro e w1 ⟨w6, w7, rfl, O1, K1⟩; obtain ⟨ua6, uc6, rfl⟩ := ownsRow_shape O1.nodes; obtain ⟨ua7, uc7, rfl⟩ := ownsRow_shape O1.sigs; simp only [] at O1; clear hC p0 p1 p2 p3 p4 p5 p6 p7 p8; unfold stA;
        have HO1 := hid O1; have HK1 := hid K1; clear O1 K1)
    | fail)
  have KX : Kept (fun g => g = w1.heap.size) w1 (w1.alloc (.cells #[.string x0, .string x1, .string x2, .string x3, .int .i64 x4, .string x5, (Value.slice ua6 ln.length uc6), (Value.slice ua7 ls.length uc7), .int .i64 (x8 + 1)] 33)) := Kept.alloc _ _ _
  have hx4 : w.heap.size + 4 ≤ w1.heap.size := by rw [← HDZ.out]; exact HK1.out.size
  have hbx : (w1.alloc (.cells #[.string x0, .string x1, .string x2, .string x3, .int .i64 x4, .string x5, (Value.slice ua6 ln.length uc6), (Value.slice ua7 ls.length uc7), .int .i64 (x8 + 1)] 33)).heap[w1.heap.size]? = some (.cells (stA (⟨x0, x1, x2, x3, x4, x5, ln, ls, x8 + 1⟩ : St) (Value.slice ua6 ln.length uc6) (Value.slice ua7 ls.length uc7)) 33 (0, 0)) := heap_alloc_new w1 _
  have hzx : w1.heap.size < (w1.alloc (.cells #[.string x0, .string x1, .string x2, .string x3, .int .i64 x4, .string x5, (Value.slice ua6 ln.length uc6), (Value.slice ua7 ls.length uc7), .int .i64 (x8 + 1)] 33)).heap.size := (Array.getElem?_eq_some_iff.1 hbx).1
  have AP : ApIn w (w1.alloc (.cells #[.string x0, .string x1, .string x2, .string x3, .int .i64 x4, .string x5, (Value.slice ua6 ln.length uc6), (Value.slice ua7 ls.length uc7), .int .i64 (x8 + 1)] 33)) nm a ns.length c ⟨x0, x1, x2, x3, x4, x5, ln, ls, x8⟩ (Value.slice va6 ln.length vc6) (Value.slice va7 ls.length vc7) ⟨1, en, et, ez⟩ w1.heap.size (⟨x0, x1, x2, x3, x4, x5, ln, ls, x8 + 1⟩ : St) (Value.slice ua6 ln.length uc6) (Value.slice ua7 ls.length uc7) := by
    have key : ∀ {k : Nat} {o : Obj}, k < w.heap.size + 4 → ((((w.alloc (.cells #[.string nm, .slice a ns.length c] 24)).alloc (.cells #[.string x0, .string x1, .string x2, .string x3, .int .i64 x4, .string x5, (Value.slice va6 ln.length vc6), (Value.slice va7 ls.length vc7), .int .i64 x8] 33)).alloc (.cells #[.int .i64 1, .string en, .string et, .int .i64 ez] 51)).alloc (.cells #[.string ⟨#[]⟩, .string ⟨#[]⟩, .string ⟨#[]⟩, .string ⟨#[]⟩, .int .i64 0, .string ⟨#[]⟩, .slice none 0 0, .slice none 0 0, .int .i64 0] 33)).heap[k]? = some o → (w1.alloc (.cells #[.string x0, .string x1, .string x2, .string x3, .int .i64 x4, .string x5, (Value.slice ua6 ln.length uc6), (Value.slice ua7 ls.length uc7), .int .i64 (x8 + 1)] 33)).heap[k]? = some o := fun {k o} hk h => (KX.block k (Nat.lt_of_lt_of_le (by rw [HDZ.out]; exact hk) HK1.out.size) (by omega)).trans ((HK1.out.block k (by rw [HDZ.out]; exact hk) (fun h => h)).trans h)
    have o6 := HO1.out.nodes
    have o7 := HO1.out.sigs
    have b6 : ∀ g, (Value.slice ua6 ln.length uc6).ownBlock = some g → w.heap.size + 4 ≤ g ∧ g < w1.heap.size := fun g hg => ⟨by rw [← HDZ.out]; exact (o6.lt g hg).1, (o6.lt g hg).2⟩
    have b7 : ∀ g, (Value.slice ua7 ls.length uc7).ownBlock = some g → w.heap.size + 4 ≤ g ∧ g < w1.heap.size := fun g hg => ⟨by rw [← HDZ.out]; exact (o7.lt g hg).1, (o7.lt g hg).2⟩
    exact ⟨key (by omega) HD0.out, key (by omega) HD1.out, key (by omega) HD2.out, key (by omega) HD3.out,
      ⟨hbx, rfl, ownsRow_low (ownsRow_keep o6 (fun g hg => KX.block g (b6 g hg).2 (by have := (b6 g hg).2; omega))) (Nat.zero_le _), ownsRow_low (ownsRow_keep o7 (fun g hg => KX.block g (b7 g hg).2 (by have := (b7 g hg).2; omega))) (Nat.zero_le _), ⟨hx4, hzx⟩, fun g hg => ⟨⟨(b6 g hg).1, by have := (b6 g hg).2; omega⟩, by have := (b6 g hg).2; omega⟩, fun g hg => ⟨⟨(b7 g hg).1, by have := (b7 g hg).2; omega⟩, by have := (b7 g hg).2; omega⟩, fun g h => h.2⟩,
      (HKW.out.and HK1.out).trans KX (fun i hi => .inr (by subst hi; omega))⟩
  clear HO1 HK1 KX hbx hzx HD0 HD1 HD2 HD3
  generalize w1.alloc (.cells #[.string x0, .string x1, .string x2, .string x3, .int .i64 x4, .string x5, (Value.slice ua6 ln.length uc6), (Value.slice ua7 ls.length uc7), .int .i64 (x8 + 1)] 33) = V at *
  clear HDZ HKW
  generalize w1.heap.size = bx at *
  have c1 : (x4 != 0) = true := by rw [bne_iff_ne]; exact HS.out
  have HG : Hid (applyR nm ns (⟨x0, x1, x2, x3, x4, x5, ln, ls, x8⟩ : St) ⟨1, en, et, ez⟩ = none) := by
    show _ = _
    unfold applyR
    rw [if_pos rfl, if_pos HS.out]
  obtain ⟨⟨e0, e1, e2, e3⟩, _⟩ := four AP.ev
  obtain ⟨⟨s0, s1, s2, s3, s4, s5, s6, s7, s8⟩, _⟩ := nine AP.st
  obtain ⟨⟨z0, z1, z2, z3, z4, z5, z6, z7, z8⟩, q0, q1, q2, q3, q4, q5, q6, q7, q8⟩ := nine AP.re
  have E1 := put9 AP.re (.string x0) (.string x1) (.string x2) (.string x3) (.int .i64 x4) (.string x5) (Value.slice va6 ln.length vc6) (Value.slice va7 ls.length vc7) (.int .i64 x8)
  have KK := kept9 (S := fun j => j = w.heap.size + 1 + 1 + 1) V rfl (.string x0) (.string x1) (.string x2) (.string x3) (.int .i64 x4) (.string x5) (Value.slice va6 ln.length vc6) (Value.slice va7 ls.length vc7) (.int .i64 x8)
  obtain ⟨⟨k0, k1, k2, k3, k4, k5, k6, k7, k8⟩, _⟩ := nine E1
  have HKK := hid (AP.keep.trans KK (fun i hi => .inr (by subst hi; omega)))
  clear E1 KK
  go_wp2_with fail
  refine bodyPost_ret (v := .tuple #[.agg #[.string x0, .string x1, .string x2, .string x3, .int .i64 x4, .string x5, (Value.slice va6 ln.length vc6), (Value.slice va7 ls.length vc7), .int .i64 x8], .int .i64 12]) (by simp [results, Tryd.results19, go_sem, k0, k1, k2, k3, k4, k5, k6, k7, k8]; try rfl) rfl ?_
  show ApPost _ _ _ _ _ _ _
  rw [HG.out]
  exact ⟨rfl, HKK.out⟩

set_option maxRecDepth 100000 in
set_option maxHeartbeats 16000000 in
theorem apply_idle (w : World) (nm : ByteArray) (a : Option Addr) (c : Nat) (ns : List Nd) (hN : NodesAt w a ns) (hn : ns.length ≤ 1000000) (s : St) (v6 v7 : Value) (R : StRd w s v6 v7) (he0 : 0 ≤ s.events) (he1 : s.events ≤ 1000000000000) (ev : Ev) (h1 : ev.kind ≠ 1) (hs : s.status ≠ 1) :
    Calls Tryd.prog 19 #[.agg #[.string nm, .slice a ns.length c], .agg (stA s v6 v7), .agg #[.int .i64 ev.kind, .string ev.node, .string ev.text, .int .i64 ev.num]] w (ApPost w s v6 v7 (applyR nm ns s ev)) := by
  have _ := hn
  obtain ⟨ek, en, et, ez⟩ := ev
  obtain ⟨x0, x1, x2, x3, x4, x5, ln, ls, x8⟩ := s
  simp only [] at he0 he1 h1 hs ⊢
  obtain ⟨va6, vc6, rfl⟩ := R.nodes.shape
  obtain ⟨va7, vc7, rfl⟩ := R.sigs.shape
  simp only [] at R ⊢
  have H1 := hid h1
  have HS := hid hs
  clear h1 hs
  obtain ⟨d0, d1, d2, d3, dz, KW⟩ := ap_boxes w nm a ns.length c ⟨x0, x1, x2, x3, x4, x5, ln, ls, x8⟩ (Value.slice va6 ln.length vc6) (Value.slice va7 ls.length vc7) ⟨ek, en, et, ez⟩
  have hC := refCopied_any _ _ (Value.slice va6 ln.length vc6) (Value.slice va7 ls.length vc7) (R.new KW)
  have HR := hid R
  have HF7 : Hid (ls.length ≤ 1000000) := R.few7
  have HN := hid hN
  unfold stA at hC ⊢
  unfold apD apS apE apZ stA zero9 at d0 d1 d2 d3 dz KW hC
  simp only [] at d0 d1 d2 d3 dz KW hC ⊢
  obtain ⟨⟨p0, p1, p2, p3, p4, p5, p6, p7, p8⟩, _⟩ := nine d1
  have HD0 := hid d0
  have HD1 := hid d1
  have HD2 := hid d2
  have HD3 := hid d3
  have HDZ := hid dz
  have HKW := hid KW
  clear d0 d1 d2 d3 dz KW R hN
  go_enter Tryd.func19, Tryd.ntmps19
  go_upto_region 3 with (first
    | (go_at_call 41; refine hC.mono ?_; rintro e w1 ⟨w6, w7, rfl, O1, K1⟩; obtain ⟨ua6, uc6, rfl⟩ := ownsRow_shape O1.nodes; obtain ⟨ua7, uc7, rfl⟩ := ownsRow_shape O1.sigs; simp only [] at O1; clear hC p0 p1 p2 p3 p4 p5 p6 p7 p8; unfold stA;
        have HO1 := hid O1; have HK1 := hid K1; clear O1 K1)
    | fail)
  have KX : Kept (fun g => g = w1.heap.size) w1 (w1.alloc (.cells #[.string x0, .string x1, .string x2, .string x3, .int .i64 x4, .string x5, (Value.slice ua6 ln.length uc6), (Value.slice ua7 ls.length uc7), .int .i64 (x8 + 1)] 33)) := Kept.alloc _ _ _
  have hx4 : w.heap.size + 4 ≤ w1.heap.size := by rw [← HDZ.out]; exact HK1.out.size
  have hbx : (w1.alloc (.cells #[.string x0, .string x1, .string x2, .string x3, .int .i64 x4, .string x5, (Value.slice ua6 ln.length uc6), (Value.slice ua7 ls.length uc7), .int .i64 (x8 + 1)] 33)).heap[w1.heap.size]? = some (.cells (stA (⟨x0, x1, x2, x3, x4, x5, ln, ls, x8 + 1⟩ : St) (Value.slice ua6 ln.length uc6) (Value.slice ua7 ls.length uc7)) 33 (0, 0)) := heap_alloc_new w1 _
  have hzx : w1.heap.size < (w1.alloc (.cells #[.string x0, .string x1, .string x2, .string x3, .int .i64 x4, .string x5, (Value.slice ua6 ln.length uc6), (Value.slice ua7 ls.length uc7), .int .i64 (x8 + 1)] 33)).heap.size := (Array.getElem?_eq_some_iff.1 hbx).1
  have AP : ApIn w (w1.alloc (.cells #[.string x0, .string x1, .string x2, .string x3, .int .i64 x4, .string x5, (Value.slice ua6 ln.length uc6), (Value.slice ua7 ls.length uc7), .int .i64 (x8 + 1)] 33)) nm a ns.length c ⟨x0, x1, x2, x3, x4, x5, ln, ls, x8⟩ (Value.slice va6 ln.length vc6) (Value.slice va7 ls.length vc7) ⟨ek, en, et, ez⟩ w1.heap.size (⟨x0, x1, x2, x3, x4, x5, ln, ls, x8 + 1⟩ : St) (Value.slice ua6 ln.length uc6) (Value.slice ua7 ls.length uc7) := by
    have key : ∀ {k : Nat} {o : Obj}, k < w.heap.size + 4 → ((((w.alloc (.cells #[.string nm, .slice a ns.length c] 24)).alloc (.cells #[.string x0, .string x1, .string x2, .string x3, .int .i64 x4, .string x5, (Value.slice va6 ln.length vc6), (Value.slice va7 ls.length vc7), .int .i64 x8] 33)).alloc (.cells #[.int .i64 ek, .string en, .string et, .int .i64 ez] 51)).alloc (.cells #[.string ⟨#[]⟩, .string ⟨#[]⟩, .string ⟨#[]⟩, .string ⟨#[]⟩, .int .i64 0, .string ⟨#[]⟩, .slice none 0 0, .slice none 0 0, .int .i64 0] 33)).heap[k]? = some o → (w1.alloc (.cells #[.string x0, .string x1, .string x2, .string x3, .int .i64 x4, .string x5, (Value.slice ua6 ln.length uc6), (Value.slice ua7 ls.length uc7), .int .i64 (x8 + 1)] 33)).heap[k]? = some o := fun {k o} hk h => (KX.block k (Nat.lt_of_lt_of_le (by rw [HDZ.out]; exact hk) HK1.out.size) (by omega)).trans ((HK1.out.block k (by rw [HDZ.out]; exact hk) (fun h => h)).trans h)
    have o6 := HO1.out.nodes
    have o7 := HO1.out.sigs
    have b6 : ∀ g, (Value.slice ua6 ln.length uc6).ownBlock = some g → w.heap.size + 4 ≤ g ∧ g < w1.heap.size := fun g hg => ⟨by rw [← HDZ.out]; exact (o6.lt g hg).1, (o6.lt g hg).2⟩
    have b7 : ∀ g, (Value.slice ua7 ls.length uc7).ownBlock = some g → w.heap.size + 4 ≤ g ∧ g < w1.heap.size := fun g hg => ⟨by rw [← HDZ.out]; exact (o7.lt g hg).1, (o7.lt g hg).2⟩
    exact ⟨key (by omega) HD0.out, key (by omega) HD1.out, key (by omega) HD2.out, key (by omega) HD3.out,
      ⟨hbx, rfl, ownsRow_low (ownsRow_keep o6 (fun g hg => KX.block g (b6 g hg).2 (by have := (b6 g hg).2; omega))) (Nat.zero_le _), ownsRow_low (ownsRow_keep o7 (fun g hg => KX.block g (b7 g hg).2 (by have := (b7 g hg).2; omega))) (Nat.zero_le _), ⟨hx4, hzx⟩, fun g hg => ⟨⟨(b6 g hg).1, by have := (b6 g hg).2; omega⟩, by have := (b6 g hg).2; omega⟩, fun g hg => ⟨⟨(b7 g hg).1, by have := (b7 g hg).2; omega⟩, by have := (b7 g hg).2; omega⟩, fun g h => h.2⟩,
      (HKW.out.and HK1.out).trans KX (fun i hi => .inr (by subst hi; omega))⟩
  clear HO1 HK1 KX hbx hzx HD0 HD1 HD2 HD3
  generalize w1.alloc (.cells #[.string x0, .string x1, .string x2, .string x3, .int .i64 x4, .string x5, (Value.slice ua6 ln.length uc6), (Value.slice ua7 ls.length uc7), .int .i64 (x8 + 1)] 33) = V at *
  clear HDZ HKW
  generalize w1.heap.size = bx at *
  have c0 : (ek == 1) = false := by rw [beq_eq_false_iff_ne]; exact H1.out
  have c1 : (x4 != 1) = true := by rw [bne_iff_ne]; exact HS.out
  have HG : Hid (applyR nm ns (⟨x0, x1, x2, x3, x4, x5, ln, ls, x8⟩ : St) ⟨ek, en, et, ez⟩ = none) := by
    show _ = _
    unfold applyR
    rw [if_neg H1.out, if_pos HS.out]
  obtain ⟨⟨e0, e1, e2, e3⟩, _⟩ := four AP.ev
  obtain ⟨⟨s0, s1, s2, s3, s4, s5, s6, s7, s8⟩, _⟩ := nine AP.st
  obtain ⟨⟨z0, z1, z2, z3, z4, z5, z6, z7, z8⟩, q0, q1, q2, q3, q4, q5, q6, q7, q8⟩ := nine AP.re
  have E1 := put9 AP.re (.string x0) (.string x1) (.string x2) (.string x3) (.int .i64 x4) (.string x5) (Value.slice va6 ln.length vc6) (Value.slice va7 ls.length vc7) (.int .i64 x8)
  have KK := kept9 (S := fun j => j = w.heap.size + 1 + 1 + 1) V rfl (.string x0) (.string x1) (.string x2) (.string x3) (.int .i64 x4) (.string x5) (Value.slice va6 ln.length vc6) (Value.slice va7 ls.length vc7) (.int .i64 x8)
  obtain ⟨⟨k0, k1, k2, k3, k4, k5, k6, k7, k8⟩, _⟩ := nine E1
  have HKK := hid (AP.keep.trans KK (fun i hi => .inr (by subst hi; omega)))
  clear E1 KK
  go_wp2_with fail
  refine bodyPost_ret (v := .tuple #[.agg #[.string x0, .string x1, .string x2, .string x3, .int .i64 x4, .string x5, (Value.slice va6 ln.length vc6), (Value.slice va7 ls.length vc7), .int .i64 x8], .int .i64 12]) (by simp [results, Tryd.results19, go_sem, k0, k1, k2, k3, k4, k5, k6, k7, k8]; try rfl) rfl ?_
  show ApPost _ _ _ _ _ _ _
  rw [HG.out]
  exact ⟨rfl, HKK.out⟩

set_option maxRecDepth 100000 in
set_option maxHeartbeats 16000000 in
theorem apply_close_bad (w : World) (nm : ByteArray) (a : Option Addr) (c : Nat) (ns : List Nd) (hN : NodesAt w a ns) (hn : ns.length ≤ 1000000) (s : St) (v6 v7 : Value) (R : StRd w s v6 v7) (he0 : 0 ≤ s.events) (he1 : s.events ≤ 1000000000000) (ev : Ev) (h1 : ev.kind = 15) (hs : s.status = 1) (hz : ev.num < 2 ∨ 4 < ev.num) :
    Calls Tryd.prog 19 #[.agg #[.string nm, .slice a ns.length c], .agg (stA s v6 v7), .agg #[.int .i64 ev.kind, .string ev.node, .string ev.text, .int .i64 ev.num]] w (ApPost w s v6 v7 (applyR nm ns s ev)) := by
  have _ := hn
  obtain ⟨ek, en, et, ez⟩ := ev
  obtain ⟨x0, x1, x2, x3, x4, x5, ln, ls, x8⟩ := s
  simp only [] at he0 he1 h1 hs hz ⊢
  obtain ⟨va6, vc6, rfl⟩ := R.nodes.shape
  obtain ⟨va7, vc7, rfl⟩ := R.sigs.shape
  simp only [] at R ⊢
  subst h1
  subst hs
  have HZ := hid hz
  clear hz
  obtain ⟨d0, d1, d2, d3, dz, KW⟩ := ap_boxes w nm a ns.length c ⟨x0, x1, x2, x3, 1, x5, ln, ls, x8⟩ (Value.slice va6 ln.length vc6) (Value.slice va7 ls.length vc7) ⟨15, en, et, ez⟩
  have hC := refCopied_any _ _ (Value.slice va6 ln.length vc6) (Value.slice va7 ls.length vc7) (R.new KW)
  have HR := hid R
  have HF7 : Hid (ls.length ≤ 1000000) := R.few7
  have HN := hid hN
  unfold stA at hC ⊢
  unfold apD apS apE apZ stA zero9 at d0 d1 d2 d3 dz KW hC
  simp only [] at d0 d1 d2 d3 dz KW hC ⊢
  obtain ⟨⟨p0, p1, p2, p3, p4, p5, p6, p7, p8⟩, _⟩ := nine d1
  have HD0 := hid d0
  have HD1 := hid d1
  have HD2 := hid d2
  have HD3 := hid d3
  have HDZ := hid dz
  have HKW := hid KW
  clear d0 d1 d2 d3 dz KW R hN
  go_enter Tryd.func19, Tryd.ntmps19
  go_upto_region 3 with (first
    | (go_at_call 41; refine hC.mono ?_; rintro e w1 ⟨w6, w7, rfl, O1, K1⟩; obtain ⟨ua6, uc6, rfl⟩ := ownsRow_shape O1.nodes; obtain ⟨ua7, uc7, rfl⟩ := ownsRow_shape O1.sigs; simp only [] at O1; clear hC p0 p1 p2 p3 p4 p5 p6 p7 p8; unfold stA;
        have HO1 := hid O1; have HK1 := hid K1; clear O1 K1)
    | fail)
  have KX : Kept (fun g => g = w1.heap.size) w1 (w1.alloc (.cells #[.string x0, .string x1, .string x2, .string x3, .int .i64 1, .string x5, (Value.slice ua6 ln.length uc6), (Value.slice ua7 ls.length uc7), .int .i64 (x8 + 1)] 33)) := Kept.alloc _ _ _
  have hx4 : w.heap.size + 4 ≤ w1.heap.size := by rw [← HDZ.out]; exact HK1.out.size
  have hbx : (w1.alloc (.cells #[.string x0, .string x1, .string x2, .string x3, .int .i64 1, .string x5, (Value.slice ua6 ln.length uc6), (Value.slice ua7 ls.length uc7), .int .i64 (x8 + 1)] 33)).heap[w1.heap.size]? = some (.cells (stA (⟨x0, x1, x2, x3, 1, x5, ln, ls, x8 + 1⟩ : St) (Value.slice ua6 ln.length uc6) (Value.slice ua7 ls.length uc7)) 33 (0, 0)) := heap_alloc_new w1 _
  have hzx : w1.heap.size < (w1.alloc (.cells #[.string x0, .string x1, .string x2, .string x3, .int .i64 1, .string x5, (Value.slice ua6 ln.length uc6), (Value.slice ua7 ls.length uc7), .int .i64 (x8 + 1)] 33)).heap.size := (Array.getElem?_eq_some_iff.1 hbx).1
  have AP : ApIn w (w1.alloc (.cells #[.string x0, .string x1, .string x2, .string x3, .int .i64 1, .string x5, (Value.slice ua6 ln.length uc6), (Value.slice ua7 ls.length uc7), .int .i64 (x8 + 1)] 33)) nm a ns.length c ⟨x0, x1, x2, x3, 1, x5, ln, ls, x8⟩ (Value.slice va6 ln.length vc6) (Value.slice va7 ls.length vc7) ⟨15, en, et, ez⟩ w1.heap.size (⟨x0, x1, x2, x3, 1, x5, ln, ls, x8 + 1⟩ : St) (Value.slice ua6 ln.length uc6) (Value.slice ua7 ls.length uc7) := by
    have key : ∀ {k : Nat} {o : Obj}, k < w.heap.size + 4 → ((((w.alloc (.cells #[.string nm, .slice a ns.length c] 24)).alloc (.cells #[.string x0, .string x1, .string x2, .string x3, .int .i64 1, .string x5, (Value.slice va6 ln.length vc6), (Value.slice va7 ls.length vc7), .int .i64 x8] 33)).alloc (.cells #[.int .i64 15, .string en, .string et, .int .i64 ez] 51)).alloc (.cells #[.string ⟨#[]⟩, .string ⟨#[]⟩, .string ⟨#[]⟩, .string ⟨#[]⟩, .int .i64 0, .string ⟨#[]⟩, .slice none 0 0, .slice none 0 0, .int .i64 0] 33)).heap[k]? = some o → (w1.alloc (.cells #[.string x0, .string x1, .string x2, .string x3, .int .i64 1, .string x5, (Value.slice ua6 ln.length uc6), (Value.slice ua7 ls.length uc7), .int .i64 (x8 + 1)] 33)).heap[k]? = some o := fun {k o} hk h => (KX.block k (Nat.lt_of_lt_of_le (by rw [HDZ.out]; exact hk) HK1.out.size) (by omega)).trans ((HK1.out.block k (by rw [HDZ.out]; exact hk) (fun h => h)).trans h)
    have o6 := HO1.out.nodes
    have o7 := HO1.out.sigs
    have b6 : ∀ g, (Value.slice ua6 ln.length uc6).ownBlock = some g → w.heap.size + 4 ≤ g ∧ g < w1.heap.size := fun g hg => ⟨by rw [← HDZ.out]; exact (o6.lt g hg).1, (o6.lt g hg).2⟩
    have b7 : ∀ g, (Value.slice ua7 ls.length uc7).ownBlock = some g → w.heap.size + 4 ≤ g ∧ g < w1.heap.size := fun g hg => ⟨by rw [← HDZ.out]; exact (o7.lt g hg).1, (o7.lt g hg).2⟩
    exact ⟨key (by omega) HD0.out, key (by omega) HD1.out, key (by omega) HD2.out, key (by omega) HD3.out,
      ⟨hbx, rfl, ownsRow_low (ownsRow_keep o6 (fun g hg => KX.block g (b6 g hg).2 (by have := (b6 g hg).2; omega))) (Nat.zero_le _), ownsRow_low (ownsRow_keep o7 (fun g hg => KX.block g (b7 g hg).2 (by have := (b7 g hg).2; omega))) (Nat.zero_le _), ⟨hx4, hzx⟩, fun g hg => ⟨⟨(b6 g hg).1, by have := (b6 g hg).2; omega⟩, by have := (b6 g hg).2; omega⟩, fun g hg => ⟨⟨(b7 g hg).1, by have := (b7 g hg).2; omega⟩, by have := (b7 g hg).2; omega⟩, fun g h => h.2⟩,
      (HKW.out.and HK1.out).trans KX (fun i hi => .inr (by subst hi; omega))⟩
  clear HO1 HK1 KX hbx hzx HD0 HD1 HD2 HD3
  generalize w1.alloc (.cells #[.string x0, .string x1, .string x2, .string x3, .int .i64 1, .string x5, (Value.slice ua6 ln.length uc6), (Value.slice ua7 ls.length uc7), .int .i64 (x8 + 1)] 33) = V at *
  clear HDZ HKW
  generalize w1.heap.size = bx at *
  have HG : Hid (applyR nm ns (⟨x0, x1, x2, x3, 1, x5, ln, ls, x8⟩ : St) ⟨15, en, et, ez⟩ = none) := by
    show _ = _
    unfold applyR
    rw [if_neg (show ¬ (15 : Int) = 1 by decide), if_neg (by simp), if_neg (show ¬ (15 : Int) = 13 by decide), if_pos rfl, if_pos HZ.out]
  obtain ⟨⟨e0, e1, e2, e3⟩, _⟩ := four AP.ev
  obtain ⟨⟨s0, s1, s2, s3, s4, s5, s6, s7, s8⟩, _⟩ := nine AP.st
  obtain ⟨⟨z0, z1, z2, z3, z4, z5, z6, z7, z8⟩, q0, q1, q2, q3, q4, q5, q6, q7, q8⟩ := nine AP.re
  have hz := HZ.out
  obtain ⟨b1, b2, hb1, hb2, hbb⟩ : ∃ b1 b2 : Bool, decide (ez < 2) = b1 ∧ decide (4 < ez) = b2 ∧ (b1 = true ∨ b2 = true) := ⟨_, _, rfl, rfl, by rcases hz with h | h; exact .inl (decide_eq_true h); exact .inr (decide_eq_true h)⟩
  clear hz
  by_cases g1 : ez < 2
  · clear hb1 hb2 hbb b1 b2
    have E1 := put9 AP.re (.string x0) (.string x1) (.string x2) (.string x3) (.int .i64 1) (.string x5) (Value.slice va6 ln.length vc6) (Value.slice va7 ls.length vc7) (.int .i64 x8)
    have KK := kept9 (S := fun j => j = w.heap.size + 1 + 1 + 1) V rfl (.string x0) (.string x1) (.string x2) (.string x3) (.int .i64 1) (.string x5) (Value.slice va6 ln.length vc6) (Value.slice va7 ls.length vc7) (.int .i64 x8)
    obtain ⟨⟨k0, k1, k2, k3, k4, k5, k6, k7, k8⟩, _⟩ := nine E1
    have HKK := hid (AP.keep.trans KK (fun i hi => .inr (by subst hi; omega)))
    clear E1 KK
    go_wp2_with fail
    refine bodyPost_ret (v := .tuple #[.agg #[.string x0, .string x1, .string x2, .string x3, .int .i64 1, .string x5, (Value.slice va6 ln.length vc6), (Value.slice va7 ls.length vc7), .int .i64 x8], .int .i64 12]) (by simp [results, Tryd.results19, go_sem, k0, k1, k2, k3, k4, k5, k6, k7, k8]; try rfl) rfl ?_
    show ApPost _ _ _ _ _ _ _
    rw [HG.out]
    exact ⟨rfl, HKK.out⟩
  · have g2 : 4 < ez := by have := HZ.out; omega
    clear hb1 hb2 hbb b1 b2
    have E1 := put9 AP.re (.string x0) (.string x1) (.string x2) (.string x3) (.int .i64 1) (.string x5) (Value.slice va6 ln.length vc6) (Value.slice va7 ls.length vc7) (.int .i64 x8)
    have KK := kept9 (S := fun j => j = w.heap.size + 1 + 1 + 1) V rfl (.string x0) (.string x1) (.string x2) (.string x3) (.int .i64 1) (.string x5) (Value.slice va6 ln.length vc6) (Value.slice va7 ls.length vc7) (.int .i64 x8)
    obtain ⟨⟨k0, k1, k2, k3, k4, k5, k6, k7, k8⟩, _⟩ := nine E1
    have HKK := hid (AP.keep.trans KK (fun i hi => .inr (by subst hi; omega)))
    clear E1 KK
    go_wp2_with fail
    refine bodyPost_ret (v := .tuple #[.agg #[.string x0, .string x1, .string x2, .string x3, .int .i64 1, .string x5, (Value.slice va6 ln.length vc6), (Value.slice va7 ls.length vc7), .int .i64 x8], .int .i64 12]) (by simp [results, Tryd.results19, go_sem, k0, k1, k2, k3, k4, k5, k6, k7, k8]; try rfl) rfl ?_
    show ApPost _ _ _ _ _ _ _
    rw [HG.out]
    exact ⟨rfl, HKK.out⟩

end Go.Proofs.YtfjekjbkifmpfaaDoor.Rf

/-
  complete.
-/
namespace Go.Proofs.YtfjekjbkifmpfaaDoor
open Go.RowKit

/-- goOn behind a call that has changed the run. -/
theorem goOn_after {w0 V w6 : World} {H : Nat → Prop} {rb : Nat} {nm : ByteArray} {a : Option Addr} {c : Nat} {ns : List Nd} {r1 : Rn} {m : Nat} (E : Env w0 V H a ns) (F : Fit r1 m) (hn : ns.length ≤ 64) (h6 : r1.st.nodes.length ≤ 64) (hm : m ≤ 500000) (X : RGoes V H rb nm a ns.length c r1 w6) :
    Calls Tryd.prog 74 #[.pointer (some ⟨rb, 0, none⟩)] w6 fun e w' => e = .returned (.tuple #[]) ∧ RGoes V H rb nm a ns.length c (goOnP nm ns r1) w' := by
  obtain ⟨H', E', R', hH', K'⟩ := E.goes X
  exact (goOnE E' R' F hn h6 hm).mono (fun e w' h => ⟨h.1, h.2.trans hH' K'⟩)

/-- tell with no task, and what goOn makes of it. -/
theorem tell0 {w0 V : World} {H : Nat → Prop} {rb : Nat} {nm : ByteArray} {a : Option Addr} {c : Nat} {ns : List Nd} {r : Rn} {m : Nat} (E : Env w0 V H a ns) (R : RAt V H rb nm a ns.length c r) (F : Fit r m) (hm : m ≤ 100000) (ev : Ev) :
    Calls Tryd.prog 73 #[.pointer (some ⟨rb, 0, none⟩), .agg #[.int .i64 ev.kind, .string ev.node, .string ev.text, .int .i64 ev.num], .slice none 0 0] V fun e w' => e = .returned (.tuple #[]) ∧ RGoes V H rb nm a ns.length c (tellP nm ns r ev []) w' :=
  tellE E R F (by omega) ev [] none 0 (flat_none V) (by decide) (fun g h => by cases h)

theorem goOn_tell0 {w0 V w6 : World} {H : Nat → Prop} {rb : Nat} {nm : ByteArray} {a : Option Addr} {c : Nat} {ns : List Nd} {r : Rn} {m : Nat} (E : Env w0 V H a ns) (F : Fit r m) (hn : ns.length ≤ 64) (h6 : r.st.nodes.length ≤ 64) (hm : m ≤ 100000) {ev : Ev} (X : RGoes V H rb nm a ns.length c (tellP nm ns r ev []) w6) :
    Calls Tryd.prog 74 #[.pointer (some ⟨rb, 0, none⟩)] w6 fun e w' => e = .returned (.tuple #[]) ∧ RGoes V H rb nm a ns.length c (goOnP nm ns (tellP nm ns r ev [])) w' :=
  goOn_after E (tellP_fit F E.few ev []) hn (tellP_len hn h6) (by simp only [List.length_nil]; omega) X

section
variable {w0 w : World} {H : Nat → Prop} {rb : Nat} {nm : ByteArray} {a : Option Addr} {c : Nat} {ns : List Nd} {r : Rn} {m : Nat}

set_option maxRecDepth 100000 in
set_option maxHeartbeats 8000000 in
theorem complete_any (E : Env w0 w H a ns) (R : RAt w H rb nm a ns.length c r) (F : Fit r m) (hn : ns.length ≤ 64) (h6 : r.st.nodes.length ≤ 64) (hm : m ≤ 100000) (q : Inp) :
    Calls Tryd.prog 55 #[.pointer (some ⟨rb, 0, none⟩), inpV q] w (DoPost w H rb nm a ns.length c (completeP nm ns r q)) := by
  have KA : Kept (fun _ => False) w ((w.alloc (.cells #[.int .i64 q.kind, .string q.node, .string q.name, .string q.text, .int .i64 q.tr, .int .i64 q.status, .int .i64 q.now, .string q.par, .string q.pnode] 39)).alloc (.cells #[.int .i64 1] 3)) := (Kept.alloc _ _ _).and (Kept.alloc _ _ _)
  have hB := busy_any (E.new KA) (R.new KA) F (by omega) q (some ⟨(w.alloc (.cells #[.int .i64 q.kind, .string q.node, .string q.name, .string q.text, .int .i64 q.tr, .int .i64 q.status, .int .i64 q.now, .string q.par, .string q.pnode] 39)).heap.size, 0, none⟩) 1 [1] (by decide) (cells1_new _ 1 _)
  rw [World.size_alloc, show ([1] : List Int).length = 1 from rfl] at hB
  obtain ⟨⟨i, ee⟩, hp⟩ : ∃ p, busyP ns r.st q [1] = p := ⟨_, rfl⟩
  have HP := hid hp
  rw [hp] at hB
  clear hp
  dsimp only at hB
  unfold inpV at hB ⊢
  have qq := (Kept.alloc (fun _ => False) (w.alloc (.cells #[.int .i64 q.kind, .string q.node, .string q.name, .string q.text, .int .i64 q.tr, .int .i64 q.status, .int .i64 q.now, .string q.par, .string q.pnode] 39)) (.cells #[.int .i64 1] 3)).block w.heap.size (by rw [World.size_alloc]; omega) (fun h => h) |>.trans (heap_alloc_new w (.cells #[.int .i64 q.kind, .string q.node, .string q.name, .string q.text, .int .i64 q.tr, .int .i64 q.status, .int .i64 q.now, .string q.par, .string q.pnode] 39))
  have HQ := hid qq
  have HKA := hid KA
  have HE := hid E
  have HR := hid R
  have HF := hid F
  clear E R F KA qq
  by_cases he : ee = 0
  · subst he
    obtain ⟨hfk, hbb⟩ := busyP_ok HP.out
    obtain ⟨h1, h2, _, hkc⟩ := findK_some hfk
    have HC : Hid (∀ w5, Kept (fun _ => False) ((w.alloc (.cells #[.int .i64 q.kind, .string q.node, .string q.name, .string q.text, .int .i64 q.tr, .int .i64 q.status, .int .i64 q.now, .string q.par, .string q.pnode] 39)).alloc (.cells #[.int .i64 1] 3)) w5 → (w5.cell? ⟨w.heap.size, 1, none⟩ = some (.string q.node) ∧ w5.cell? ⟨w.heap.size, 3, none⟩ = some (.string q.text) ∧ w5.cell? ⟨w.heap.size, 5, none⟩ = some (.int .i64 q.status))) := fun w5 K5 => by
      obtain ⟨_, y1, _, y3, _, y5, _⟩ := nineQ ((K5.block w.heap.size (Array.getElem?_eq_some_iff.1 HQ.out).1 (fun h => h)).trans HQ.out)
      exact ⟨y1, y3, y5⟩
    clear HQ hfk hbb
    by_cases hb : 256 < q.text.size
    · have e0 : (256 : Int) < (q.text.size : Int) := by omega
      have HW := hid (show completeP nm ns r q = (r, 9) by unfold completeP; rw [HP.out]; simp [hb])
      clear hb HP
      go_enter Tryd.func55, Tryd.ntmps55
      go_wp2_with (first
        | (go_at_call 78; refine hB.mono ?_; rintro e w5 ⟨rfl, K5⟩; clear hB; obtain ⟨y1, y3, y5⟩ := HC.out w5 K5; have KK := HKA.out.and K5; skip)
        | fail)
      go_ret
      refine ⟨by rw [HW.out]; rfl, ?_⟩
      rw [HW.out]
      exact RGoes.keep HR.out KK
    · have e0 : ¬ (256 : Int) < (q.text.size : Int) := by omega
      have HW := hid (show completeP nm ns r q = (goOnP nm ns (tellP nm ns r ⟨4, q.node, q.text, 0⟩ []), 0) by unfold completeP; rw [HP.out]; simp [hb])
      clear HP
      go_enter Tryd.func55, Tryd.ntmps55
      go_wp2_with (first
        | (go_at_call 78; refine hB.mono ?_; rintro e w5 ⟨rfl, K5⟩; clear hB; obtain ⟨y1, y3, y5⟩ := HC.out w5 K5; have KK := HKA.out.and K5; have HE5 := hid (HE.out.new KK); have hT := tell0 (HE.out.new KK) (HR.out.new KK) HF.out hm ⟨4, q.node, q.text, 0⟩)
        | (go_at_call 73; refine hT.mono ?_; rintro e w6 ⟨rfl, X6⟩; clear hT; have hG := goOn_tell0 HE5.out HF.out hn h6 hm X6; clear X6)
        | (go_at_call 74; refine hG.mono ?_; rintro e w7 ⟨rfl, X7⟩; clear hG)
        | fail)
      go_ret
      refine ⟨by rw [HW.out]; rfl, ?_⟩
      rw [HW.out]
      exact X7.first KK
  · have e1 : (ee != 0) = true := by simp [he]
    have HW := hid (show completeP nm ns r q = (r, ee) by unfold completeP; rw [HP.out]; simp [he])
    clear he HP
    go_enter Tryd.func55, Tryd.ntmps55
    go_wp2_with (first
      | (go_at_call 78; refine hB.mono ?_; rintro e w5 ⟨rfl, K5⟩; clear hB)
      | fail)
    go_ret
    refine ⟨by rw [HW.out]; rfl, ?_⟩
    rw [HW.out]
    exact RGoes.keep HR.out (HKA.out.and K5)

end

end Go.Proofs.YtfjekjbkifmpfaaDoor

/-
  take.
-/
namespace Go.Proofs.YtfjekjbkifmpfaaDoor
open Go.RowKit

set_option maxRecDepth 100000 in
set_option maxHeartbeats 8000000 in
theorem take_any {w0 w : World} {H : Nat → Prop} {rb : Nat} {nm : ByteArray} {a : Option Addr} {c : Nat} {ns : List Nd} {r : Rn} {m : Nat} (E : Env w0 w H a ns) (R : RAt w H rb nm a ns.length c r) (F : Fit r m) (hm : m ≤ 100000) (q : Inp) :
    Calls Tryd.prog 54 #[.pointer (some ⟨rb, 0, none⟩), inpV q] w (DoPost w H rb nm a ns.length c (takeP nm ns r q)) := by
  have KA : Kept (fun _ => False) w ((w.alloc (.cells #[.int .i64 q.kind, .string q.node, .string q.name, .string q.text, .int .i64 q.tr, .int .i64 q.status, .int .i64 q.now, .string q.par, .string q.pnode] 39)).alloc (.cells #[.int .i64 1] 3)) := (Kept.alloc _ _ _).and (Kept.alloc _ _ _)
  have hB := rfind_any (E.new KA) (R.new KA) F (by omega) q.node (some ⟨(w.alloc (.cells #[.int .i64 q.kind, .string q.node, .string q.name, .string q.text, .int .i64 q.tr, .int .i64 q.status, .int .i64 q.now, .string q.par, .string q.pnode] 39)).heap.size, 0, none⟩) 1 [1] (by decide) (cells1_new _ 1 _)
  rw [World.size_alloc, show ([1] : List Int).length = 1 from rfl] at hB
  unfold inpV
  have qq := (Kept.alloc (fun _ => False) (w.alloc (.cells #[.int .i64 q.kind, .string q.node, .string q.name, .string q.text, .int .i64 q.tr, .int .i64 q.status, .int .i64 q.now, .string q.par, .string q.pnode] 39)) (.cells #[.int .i64 1] 3)).block w.heap.size (by rw [World.size_alloc]; omega) (fun h => h) |>.trans (heap_alloc_new w (.cells #[.int .i64 q.kind, .string q.node, .string q.name, .string q.text, .int .i64 q.tr, .int .i64 q.status, .int .i64 q.now, .string q.par, .string q.pnode] 39))
  have HQ := hid qq
  have HKA := hid KA
  have HE := hid E
  have HR := hid R
  have HF := hid F
  have Ht : Hid (∀ g, H g → g < w.heap.size) := by obtain ⟨_, _, _, _, _, _, _, _, ht⟩ := R; exact ht
  clear E R F KA qq
  cases hk : findK ns r.st q.node [1] with
  | none =>
    have HW := hid (show takeP nm ns r q = (r, 6) by unfold takeP; rw [hk])
    rw [hk] at hB
    simp only [Option.isSome_none] at hB
    generalize (findP ns q.node).getD 0 = j at *
    clear hk
    go_enter Tryd.func54, Tryd.ntmps54
    go_wp2_with (first
      | (go_at_call 77; refine hB.mono ?_; rintro e w5 ⟨rfl, K5⟩; clear hB)
      | fail)
    go_ret
    refine ⟨by rw [HW.out]; rfl, ?_⟩
    rw [HW.out]
    exact RGoes.keep HR.out (HKA.out.and K5)
  | some i =>
    obtain ⟨h1, h6, hfp, _⟩ := findK_some hk
    have htk : takeP nm ns r q = if (r.st.nodes[i]).status = 1 then (tellP nm ns r ⟨3, q.node, ⟨#[]⟩, IntKind.i64.wrap ((r.st.nodes[i]).tr + 1)⟩ (alarmL r q ns[i] (IntKind.i64.wrap ((r.st.nodes[i]).tr + 1))), 0) else (r, 12) := by
      unfold takeP
      rw [hk]
      dsimp only
      rw [List.getElem?_eq_getElem h1, List.getElem?_eq_getElem h6]
    have HT := hid htk
    rw [hk, hfp] at hB
    simp only [Option.isSome_some, Option.getD_some] at hB
    have e1 : (i : Int) < (ns.length : Int) := by omega
    have e6 : (i : Int) < (r.st.nodes.length : Int) := by omega
    have cells : ∀ w5, Kept (fun _ => False) w w5 → ∃ b o g n6 c6, w5.cell? ⟨rb, 1, none⟩ = some (.slice (some ⟨b, o, none⟩) ns.length c) ∧ w5.cell? ⟨b, o + i * 7 + 4, none⟩ = some (.int .i64 (ns[i]).delay) ∧ w5.cell? ⟨rb, 8, none⟩ = some (.slice (some ⟨g, 0, none⟩) n6 c6) ∧ n6 = r.st.nodes.length ∧ w5.cell? ⟨g, i * 3, none⟩ = some (.int .i64 (r.st.nodes[i]).status) ∧ w5.cell? ⟨g, i * 3 + 1, none⟩ = some (.int .i64 (r.st.nodes[i]).tr) ∧ w5.cell? ⟨rb, 11, none⟩ = some (.int .i64 r.now) := fun w5 KK => by
      obtain ⟨v6, v7, v12, v13, hb, hn6, _, _, _, _⟩ := (HR.out.new KK).opened
      obtain ⟨_, x1, _, _, _, _, _, _, x8, _, _, x11⟩ := runCells hb
      obtain ⟨b, o, av, cv, hae, hT, _, _, _, _, c4, _⟩ := (keptNew KK HE.out.here.1).at h1
      subst hae
      obtain ⟨g, cg, hv, _, _, hrow⟩ := row_at hn6 (by omega)
      subst hv
      exact ⟨b, o, g, _, cg, x1, c4, x8, rfl, (hrow _ _ (nsF_get h6).1).1, (hrow _ _ (nsF_get h6).2.1).1, x11⟩
    have HC := hid cells
    have HQ1 : Hid (∀ w5, Kept (fun _ => False) ((w.alloc (.cells #[.int .i64 q.kind, .string q.node, .string q.name, .string q.text, .int .i64 q.tr, .int .i64 q.status, .int .i64 q.now, .string q.par, .string q.pnode] 39)).alloc (.cells #[.int .i64 1] 3)) w5 → w5.cell? ⟨w.heap.size, 1, none⟩ = some (.string q.node)) := fun w5 K5 => (nineQ ((K5.block w.heap.size (Array.getElem?_eq_some_iff.1 HQ.out).1 (fun h => h)).trans HQ.out)).2.1
    clear hk hfp htk cells HQ
    unfold alarmL at HT
    generalize (r.st.nodes[i]).tr = zt at *
    obtain ⟨z1, hz1⟩ : ∃ z1, IntKind.i64.wrap (zt + 1) = z1 := ⟨_, rfl⟩
    rw [hz1] at HT
    by_cases hs : (r.st.nodes[i]).status = 1
    · have e2 : ((r.st.nodes[i]).status != 1) = false := by simp [hs]
      rw [if_pos hs] at HT
      clear hs
      by_cases hd : 0 < (ns[i]).delay
      · rw [if_pos hd] at HT
        obtain ⟨z2, hz2⟩ : ∃ z2, IntKind.i64.wrap (r.now + (ns[i]).delay) = z2 := ⟨_, rfl⟩
        rw [hz2] at HT
        have Hz2 := hid hz2
        clear hz2
        generalize (ns[i]).delay = zd at *
        generalize (r.st.nodes[i]).status = zs at *
        go_enter Tryd.func54, Tryd.ntmps54
        go_upto_region 10 with (first
          | (go_at_call 77; refine hB.mono ?_; rintro e w5 ⟨rfl, K5⟩; clear hB; have KK := HKA.out.and K5; obtain ⟨b, o, g, n6, c6, x1, x4, x8, hn6, xs, xt, x11⟩ := HC.out w5 KK; subst hn6; have y1 := HQ1.out w5 K5)
          | fail)
        refine wp_onlyN (tk10 (z := z2) _ y1 x11 Hz2.out ?_)
        intro _ _ _ _ _ _ _ _ _ _ _ _ _ a4 c4 w6 O6 K6
        have hT := tellE (HE.out.new (KK.and K6)) (HR.out.new (KK.and K6)) HF.out (by omega) ⟨3, q.node, ⟨#[]⟩, z1⟩ [⟨2, ⟨#[]⟩, q.node, z1, z2, zeroMl⟩] a4 c4 (flat_of_owns (by rw [show tkF [(⟨2, ⟨#[]⟩, q.node, z1, z2, zeroMl⟩ : Tk)] = tkC ⟨2, ⟨#[]⟩, q.node, z1, z2, zeroMl⟩ by simp [tkF]]; exact O6)) (by simp) (fun g hg hh => absurd (Ht.out g hh) (Nat.not_lt.2 (Nat.le_trans KK.size (own_slBlk O6 hg))))
        rw [show ([(⟨2, ⟨#[]⟩, q.node, z1, z2, zeroMl⟩ : Tk)]).length = 1 from rfl] at hT
        dsimp only at hT
        have y1' := keepC K6 y1 (fun _ _ h => h)
        have HKK := hid (KK.and K6)
        clear y1 x1 x4 x8 xs xt x11 O6 K6 KK
        go_wp2_with (first
          | (go_at_call 73; refine hT.mono ?_; rintro e w7 ⟨rfl, X7⟩; clear hT)
          | fail)
        go_ret
        refine ⟨by rw [HT.out]; rfl, ?_⟩
        rw [HT.out]
        exact X7.first HKK.out
      · rw [if_neg hd] at HT
        generalize (ns[i]).delay = zd at *
        generalize (r.st.nodes[i]).status = zs at *
        have hT := fun V KV => tellE (HE.out.new KV) (HR.out.new (w' := V) KV) HF.out (by omega) ⟨3, q.node, ⟨#[]⟩, z1⟩ [] none 0 (flat_none V) (by decide) (fun g h => by cases h)
        dsimp only [List.length_nil] at hT
        go_enter Tryd.func54, Tryd.ntmps54
        go_wp2_with (first
          | (go_at_call 77; refine hB.mono ?_; rintro e w5 ⟨rfl, K5⟩; clear hB; have KK := HKA.out.and K5; obtain ⟨b, o, g, n6, c6, x1, x4, x8, hn6, xs, xt, x11⟩ := HC.out w5 KK; subst hn6; have y1 := HQ1.out w5 K5; have hT5 := hT w5 KK; clear hT)
          | (go_at_call 73; refine hT5.mono ?_; rintro e w7 ⟨rfl, X7⟩; clear hT5)
          | fail)
        go_ret
        refine ⟨by rw [HT.out]; rfl, ?_⟩
        rw [HT.out]
        exact X7.first KK
    · have e2 : ((r.st.nodes[i]).status != 1) = true := by simp [hs]
      rw [if_neg hs] at HT
      clear hs
      generalize (r.st.nodes[i]).status = zs at *
      go_enter Tryd.func54, Tryd.ntmps54
      go_wp2_with (first
        | (go_at_call 77; refine hB.mono ?_; rintro e w5 ⟨rfl, K5⟩; clear hB; have KK := HKA.out.and K5; obtain ⟨b, o, g, n6, c6, x1, x4, x8, hn6, xs, xt, x11⟩ := HC.out w5 KK; subst hn6; have y1 := HQ1.out w5 K5)
        | fail)
      go_ret
      refine ⟨by rw [HT.out]; rfl, ?_⟩
      rw [HT.out]
      exact RGoes.keep HR.out KK

end Go.Proofs.YtfjekjbkifmpfaaDoor

/-
  fail.
-/
namespace Go.Proofs.YtfjekjbkifmpfaaDoor
open Go.RowKit

section
variable {w0 w : World} {H : Nat → Prop} {rb : Nat} {nm : ByteArray} {a : Option Addr} {c : Nat} {ns : List Nd} {r : Rn} {m : Nat}

set_option maxRecDepth 100000 in
set_option maxHeartbeats 8000000 in
theorem fail_any (E : Env w0 w H a ns) (R : RAt w H rb nm a ns.length c r) (F : Fit r m) (hn : ns.length ≤ 64) (hm : m ≤ 100000) (q : Inp) :
    Calls Tryd.prog 56 #[.pointer (some ⟨rb, 0, none⟩), inpV q] w (DoPost w H rb nm a ns.length c (failP nm ns r q)) := by
  have KA : Kept (fun _ => False) w ((w.alloc (.cells #[.int .i64 q.kind, .string q.node, .string q.name, .string q.text, .int .i64 q.tr, .int .i64 q.status, .int .i64 q.now, .string q.par, .string q.pnode] 39)).alloc (.cells #[.int .i64 1] 3)) := (Kept.alloc _ _ _).and (Kept.alloc _ _ _)
  have hB := busy_any (E.new KA) (R.new KA) F (by omega) q (some ⟨(w.alloc (.cells #[.int .i64 q.kind, .string q.node, .string q.name, .string q.text, .int .i64 q.tr, .int .i64 q.status, .int .i64 q.now, .string q.par, .string q.pnode] 39)).heap.size, 0, none⟩) 1 [1] (by decide) (cells1_new _ 1 _)
  rw [World.size_alloc, show ([1] : List Int).length = 1 from rfl] at hB
  obtain ⟨⟨i, ee⟩, hp⟩ : ∃ p, busyP ns r.st q [1] = p := ⟨_, rfl⟩
  have HP := hid hp
  rw [hp] at hB
  clear hp
  dsimp only at hB
  unfold inpV at hB ⊢
  have qq := (Kept.alloc (fun _ => False) (w.alloc (.cells #[.int .i64 q.kind, .string q.node, .string q.name, .string q.text, .int .i64 q.tr, .int .i64 q.status, .int .i64 q.now, .string q.par, .string q.pnode] 39)) (.cells #[.int .i64 1] 3)).block w.heap.size (by rw [World.size_alloc]; omega) (fun h => h) |>.trans (heap_alloc_new w (.cells #[.int .i64 q.kind, .string q.node, .string q.name, .string q.text, .int .i64 q.tr, .int .i64 q.status, .int .i64 q.now, .string q.par, .string q.pnode] 39))
  have HQ := hid qq
  have HKA := hid KA
  have HE := hid E
  have HR := hid R
  have HF := hid F
  clear E R F KA qq
  by_cases he : ee = 0
  · subst he
    obtain ⟨hfk, hbb⟩ := busyP_ok HP.out
    obtain ⟨h1, h2, _, hkc⟩ := findK_some hfk
    have HC : Hid (∀ w5, Kept (fun _ => False) ((w.alloc (.cells #[.int .i64 q.kind, .string q.node, .string q.name, .string q.text, .int .i64 q.tr, .int .i64 q.status, .int .i64 q.now, .string q.par, .string q.pnode] 39)).alloc (.cells #[.int .i64 1] 3)) w5 → (w5.cell? ⟨w.heap.size, 1, none⟩ = some (.string q.node) ∧ w5.cell? ⟨w.heap.size, 3, none⟩ = some (.string q.text) ∧ w5.cell? ⟨w.heap.size, 5, none⟩ = some (.int .i64 q.status))) := fun w5 K5 => by
      obtain ⟨_, y1, _, y3, _, y5, _⟩ := nineQ ((K5.block w.heap.size (Array.getElem?_eq_some_iff.1 HQ.out).1 (fun h => h)).trans HQ.out)
      exact ⟨y1, y3, y5⟩
    clear HQ hfk hbb
    by_cases hb : 256 < q.text.size
    · have e0 : (256 : Int) < (q.text.size : Int) := by omega
      have HW := hid (show failP nm ns r q = (r, 9) by unfold failP; rw [HP.out]; simp [hb])
      clear hb HP
      go_enter Tryd.func56, Tryd.ntmps56
      go_wp2_with (first
        | (go_at_call 78; refine hB.mono ?_; rintro e w5 ⟨rfl, K5⟩; clear hB; obtain ⟨y1, y3, y5⟩ := HC.out w5 K5; have KK := HKA.out.and K5; skip)
        | fail)
      go_ret
      refine ⟨by rw [HW.out]; rfl, ?_⟩
      rw [HW.out]
      exact RGoes.keep HR.out KK
    · have e0 : ¬ (256 : Int) < (q.text.size : Int) := by omega
      have HW := hid (show failP nm ns r q = (failTryP nm ns r i q.text, 0) by unfold failP; rw [HP.out]; simp [hb])
      clear HP
      go_enter Tryd.func56, Tryd.ntmps56
      go_wp2_with (first
        | (go_at_call 78; refine hB.mono ?_; rintro e w5 ⟨rfl, K5⟩; clear hB; obtain ⟨y1, y3, y5⟩ := HC.out w5 K5; have KK := HKA.out.and K5; have hT := failTry_any (HE.out.new KK) (HR.out.new KK) HF.out (by omega) (by omega) i h1 h2 q.text)
        | (go_at_call 79; refine hT.mono ?_; rintro e w7 ⟨rfl, X7⟩; clear hT)
        | fail)
      go_ret
      refine ⟨by rw [HW.out]; rfl, ?_⟩
      rw [HW.out]
      exact X7.first KK
  · have e1 : (ee != 0) = true := by simp [he]
    have HW := hid (show failP nm ns r q = (r, ee) by unfold failP; rw [HP.out]; simp [he])
    clear he HP
    go_enter Tryd.func56, Tryd.ntmps56
    go_wp2_with (first
      | (go_at_call 78; refine hB.mono ?_; rintro e w5 ⟨rfl, K5⟩; clear hB)
      | fail)
    go_ret
    refine ⟨by rw [HW.out]; rfl, ?_⟩
    rw [HW.out]
    exact RGoes.keep HR.out (HKA.out.and K5)

end

end Go.Proofs.YtfjekjbkifmpfaaDoor

/-
  fire.
-/
namespace Go.Proofs.YtfjekjbkifmpfaaDoor
open Go.RowKit

section
variable {w0 w : World} {H : Nat → Prop} {rb : Nat} {nm : ByteArray} {a : Option Addr} {c : Nat} {ns : List Nd} {r : Rn} {m : Nat}

set_option maxRecDepth 100000 in
set_option maxHeartbeats 8000000 in
theorem fire_any (E : Env w0 w H a ns) (R : RAt w H rb nm a ns.length c r) (F : Fit r m) (hn : ns.length ≤ 64) (h6 : r.st.nodes.length ≤ 64) (hm : m ≤ 100000) (q : Inp) :
    Calls Tryd.prog 57 #[.pointer (some ⟨rb, 0, none⟩), inpV q] w (DoPost w H rb nm a ns.length c (fireP nm ns r q)) := by
  have KA : Kept (fun _ => False) w ((w.alloc (.cells #[.int .i64 q.kind, .string q.node, .string q.name, .string q.text, .int .i64 q.tr, .int .i64 q.status, .int .i64 q.now, .string q.par, .string q.pnode] 39)).alloc (.cells #[.int .i64 1, .int .i64 2] 3)) := (Kept.alloc _ _ _).and (Kept.alloc _ _ _)
  have hB := busy_any (E.new KA) (R.new KA) F (by omega) q (some ⟨(w.alloc (.cells #[.int .i64 q.kind, .string q.node, .string q.name, .string q.text, .int .i64 q.tr, .int .i64 q.status, .int .i64 q.now, .string q.par, .string q.pnode] 39)).heap.size, 0, none⟩) 2 [1, 2] (by decide) (cells2_new _ 1 2 _)
  rw [World.size_alloc, show ([1, 2] : List Int).length = 2 from rfl] at hB
  obtain ⟨⟨i, ee⟩, hp⟩ : ∃ p, busyP ns r.st q [1, 2] = p := ⟨_, rfl⟩
  have HP := hid hp
  rw [hp] at hB
  clear hp
  dsimp only at hB
  unfold inpV at hB ⊢
  have qq := (Kept.alloc (fun _ => False) (w.alloc (.cells #[.int .i64 q.kind, .string q.node, .string q.name, .string q.text, .int .i64 q.tr, .int .i64 q.status, .int .i64 q.now, .string q.par, .string q.pnode] 39)) (.cells #[.int .i64 1, .int .i64 2] 3)).block w.heap.size (by rw [World.size_alloc]; omega) (fun h => h) |>.trans (heap_alloc_new w (.cells #[.int .i64 q.kind, .string q.node, .string q.name, .string q.text, .int .i64 q.tr, .int .i64 q.status, .int .i64 q.now, .string q.par, .string q.pnode] 39))
  have HQ := hid qq
  have HKA := hid KA
  have HE := hid E
  have HR := hid R
  have HF := hid F
  clear E R F KA qq
  by_cases he : ee = 0
  · subst he
    obtain ⟨hfk, hbb⟩ := busyP_ok HP.out
    obtain ⟨h1, h2, _, hkc⟩ := findK_some hfk
    have HC : Hid (∀ w5, Kept (fun _ => False) ((w.alloc (.cells #[.int .i64 q.kind, .string q.node, .string q.name, .string q.text, .int .i64 q.tr, .int .i64 q.status, .int .i64 q.now, .string q.par, .string q.pnode] 39)).alloc (.cells #[.int .i64 1, .int .i64 2] 3)) w5 → (w5.cell? ⟨w.heap.size, 1, none⟩ = some (.string q.node) ∧ w5.cell? ⟨w.heap.size, 3, none⟩ = some (.string q.text) ∧ w5.cell? ⟨w.heap.size, 5, none⟩ = some (.int .i64 q.status))) := fun w5 K5 => by
      obtain ⟨_, y1, _, y3, _, y5, _⟩ := nineQ ((K5.block w.heap.size (Array.getElem?_eq_some_iff.1 HQ.out).1 (fun h => h)).trans HQ.out)
      exact ⟨y1, y3, y5⟩
    clear HQ hfk hbb
    have e4 : (i : Int) < (ns.length : Int) := by omega
    have hka : kindAt ns i = (ns[i]).kind := by unfold kindAt; rw [List.getElem?_eq_getElem h1]
    by_cases hk1 : (ns[i]).kind = 1
    · have e5 : ((ns[i]).kind == 1) = true := by simp [hk1]
      have HW := hid (show fireP nm ns r q = (failTryP nm ns r i timeoutB, 0) by unfold fireP; rw [HP.out]; simp [hka, hk1])
      clear HP hk1 hka
      go_enter Tryd.func57, Tryd.ntmps57
      go_wp2_with (first
        | (go_at_call 78; refine hB.mono ?_; rintro e w5 ⟨rfl, K5⟩; clear hB; obtain ⟨y1, y3, y5⟩ := HC.out w5 K5; have KK := HKA.out.and K5; have hT := failTry_any (HE.out.new KK) (HR.out.new KK) HF.out (by omega) (by omega) i h1 h2 timeoutB; unfold timeoutB at hT; obtain ⟨v6, v7, v12, v13, hb5, _⟩ := (HR.out.new KK).opened; obtain ⟨_, x1, _⟩ := runCells hb5; obtain ⟨b, o, av, cv, hae, hT0, c0, c1, _⟩ := (keptNew KK HE.out.here.1).at h1; rw [hae] at x1; clear hb5 hT0 hae)
        | (go_at_call 79; refine hT.mono ?_; rintro e w7 ⟨rfl, X7⟩; clear hT)
        | fail)
      go_ret
      refine ⟨by rw [HW.out]; rfl, ?_⟩
      rw [HW.out]
      exact X7.first KK
    · have e5 : ((ns[i]).kind == 1) = false := by simp [hk1]
      have HW := hid (show fireP nm ns r q = (goOnP nm ns (tellP nm ns r ⟨8, q.node, ⟨#[]⟩, 0⟩ []), 0) by unfold fireP; rw [HP.out]; simp [hka, hk1])
      clear HP hka hk1
      go_enter Tryd.func57, Tryd.ntmps57
      go_wp2_with (first
        | (go_at_call 78; refine hB.mono ?_; rintro e w5 ⟨rfl, K5⟩; clear hB; obtain ⟨y1, y3, y5⟩ := HC.out w5 K5; have KK := HKA.out.and K5; have HE5 := hid (HE.out.new KK); have hT := tell0 (HE.out.new KK) (HR.out.new KK) HF.out hm ⟨8, q.node, ⟨#[]⟩, 0⟩; obtain ⟨v6, v7, v12, v13, hb5, _⟩ := (HR.out.new KK).opened; obtain ⟨_, x1, _⟩ := runCells hb5; obtain ⟨b, o, av, cv, hae, hT0, c0, c1, _⟩ := (keptNew KK HE.out.here.1).at h1; rw [hae] at x1; clear hb5 hT0 hae)
        | (go_at_call 73; refine hT.mono ?_; rintro e w6 ⟨rfl, X6⟩; clear hT; have hG := goOn_tell0 HE5.out HF.out hn h6 hm X6; clear X6)
        | (go_at_call 74; refine hG.mono ?_; rintro e w7 ⟨rfl, X7⟩; clear hG)
        | fail)
      go_ret
      refine ⟨by rw [HW.out]; rfl, ?_⟩
      rw [HW.out]
      exact X7.first KK
  · have e1 : (ee != 0) = true := by simp [he]
    have HW := hid (show fireP nm ns r q = (r, ee) by unfold fireP; rw [HP.out]; simp [he])
    clear he HP
    go_enter Tryd.func57, Tryd.ntmps57
    go_wp2_with (first
      | (go_at_call 78; refine hB.mono ?_; rintro e w5 ⟨rfl, K5⟩; clear hB)
      | fail)
    go_ret
    refine ⟨by rw [HW.out]; rfl, ?_⟩
    rw [HW.out]
    exact RGoes.keep HR.out (HKA.out.and K5)

end

end Go.Proofs.YtfjekjbkifmpfaaDoor

/-
  child.
-/
namespace Go.Proofs.YtfjekjbkifmpfaaDoor
open Go.RowKit

section
variable {w0 w : World} {H : Nat → Prop} {rb : Nat} {nm : ByteArray} {a : Option Addr} {c : Nat} {ns : List Nd} {r : Rn} {m : Nat}

set_option maxRecDepth 100000 in
set_option maxHeartbeats 8000000 in
theorem child_any (E : Env w0 w H a ns) (R : RAt w H rb nm a ns.length c r) (F : Fit r m) (hn : ns.length ≤ 64) (h6 : r.st.nodes.length ≤ 64) (hm : m ≤ 100000) (q : Inp) :
    Calls Tryd.prog 58 #[.pointer (some ⟨rb, 0, none⟩), inpV q] w (DoPost w H rb nm a ns.length c (kidP nm ns r q)) := by
  have KA : Kept (fun _ => False) w ((w.alloc (.cells #[.int .i64 q.kind, .string q.node, .string q.name, .string q.text, .int .i64 q.tr, .int .i64 q.status, .int .i64 q.now, .string q.par, .string q.pnode] 39)).alloc (.cells #[.int .i64 3] 3)) := (Kept.alloc _ _ _).and (Kept.alloc _ _ _)
  have hB := busy_any (E.new KA) (R.new KA) F (by omega) q (some ⟨(w.alloc (.cells #[.int .i64 q.kind, .string q.node, .string q.name, .string q.text, .int .i64 q.tr, .int .i64 q.status, .int .i64 q.now, .string q.par, .string q.pnode] 39)).heap.size, 0, none⟩) 1 [3] (by decide) (cells1_new _ 3 _)
  rw [World.size_alloc, show ([3] : List Int).length = 1 from rfl] at hB
  obtain ⟨⟨i, ee⟩, hp⟩ : ∃ p, busyP ns r.st q [3] = p := ⟨_, rfl⟩
  have HP := hid hp
  rw [hp] at hB
  clear hp
  dsimp only at hB
  unfold inpV at hB ⊢
  have qq := (Kept.alloc (fun _ => False) (w.alloc (.cells #[.int .i64 q.kind, .string q.node, .string q.name, .string q.text, .int .i64 q.tr, .int .i64 q.status, .int .i64 q.now, .string q.par, .string q.pnode] 39)) (.cells #[.int .i64 3] 3)).block w.heap.size (by rw [World.size_alloc]; omega) (fun h => h) |>.trans (heap_alloc_new w (.cells #[.int .i64 q.kind, .string q.node, .string q.name, .string q.text, .int .i64 q.tr, .int .i64 q.status, .int .i64 q.now, .string q.par, .string q.pnode] 39))
  have HQ := hid qq
  have HKA := hid KA
  have HE := hid E
  have HR := hid R
  have HF := hid F
  clear E R F KA qq
  by_cases he : ee = 0
  · subst he
    obtain ⟨hfk, hbb⟩ := busyP_ok HP.out
    obtain ⟨h1, h2, _, hkc⟩ := findK_some hfk
    have HC : Hid (∀ w5, Kept (fun _ => False) ((w.alloc (.cells #[.int .i64 q.kind, .string q.node, .string q.name, .string q.text, .int .i64 q.tr, .int .i64 q.status, .int .i64 q.now, .string q.par, .string q.pnode] 39)).alloc (.cells #[.int .i64 3] 3)) w5 → (w5.cell? ⟨w.heap.size, 1, none⟩ = some (.string q.node) ∧ w5.cell? ⟨w.heap.size, 3, none⟩ = some (.string q.text) ∧ w5.cell? ⟨w.heap.size, 5, none⟩ = some (.int .i64 q.status))) := fun w5 K5 => by
      obtain ⟨_, y1, _, y3, _, y5, _⟩ := nineQ ((K5.block w.heap.size (Array.getElem?_eq_some_iff.1 HQ.out).1 (fun h => h)).trans HQ.out)
      exact ⟨y1, y3, y5⟩
    clear HQ hfk hbb
    by_cases hs2 : q.status = 2
    · have e5 : (q.status != 2) = false := by simp [hs2]
      have HW := hid (show kidP nm ns r q = (goOnP nm ns (tellP nm ns r ⟨10, q.node, q.text, 0⟩ []), 0) by unfold kidP; rw [HP.out]; simp [hs2])
      clear HP hs2
      go_enter Tryd.func58, Tryd.ntmps58
      go_wp2_with (first
        | (go_at_call 78; refine hB.mono ?_; rintro e w5 ⟨rfl, K5⟩; clear hB; obtain ⟨y1, y3, y5⟩ := HC.out w5 K5; have KK := HKA.out.and K5; have HE5 := hid (HE.out.new KK); have hT := tell0 (HE.out.new KK) (HR.out.new KK) HF.out hm ⟨10, q.node, q.text, 0⟩)
        | (go_at_call 73; refine hT.mono ?_; rintro e w6 ⟨rfl, X6⟩; clear hT; have hG := goOn_tell0 HE5.out HF.out hn h6 hm X6; clear X6)
        | (go_at_call 74; refine hG.mono ?_; rintro e w7 ⟨rfl, X7⟩; clear hG)
        | fail)
      go_ret
      refine ⟨by rw [HW.out]; rfl, ?_⟩
      rw [HW.out]
      exact X7.first KK
    · have e5 : (q.status != 2) = true := by simp [hs2]
      have HW := hid (show kidP nm ns r q = (breakP nm ns r q.node q.text, 0) by unfold kidP; rw [HP.out]; simp [hs2])
      clear HP hs2
      go_enter Tryd.func58, Tryd.ntmps58
      go_wp2_with (first
        | (go_at_call 78; refine hB.mono ?_; rintro e w5 ⟨rfl, K5⟩; clear hB; obtain ⟨y1, y3, y5⟩ := HC.out w5 K5; have KK := HKA.out.and K5; have hT := breakAt_any (HE.out.new KK) (HR.out.new KK) HF.out (by omega) (by omega) q.node q.text)
        | (go_at_call 80; refine hT.mono ?_; rintro e w7 ⟨rfl, X7⟩; clear hT)
        | fail)
      go_ret
      refine ⟨by rw [HW.out]; rfl, ?_⟩
      rw [HW.out]
      exact X7.first KK
  · have e1 : (ee != 0) = true := by simp [he]
    have HW := hid (show kidP nm ns r q = (r, ee) by unfold kidP; rw [HP.out]; simp [he])
    clear he HP
    go_enter Tryd.func58, Tryd.ntmps58
    go_wp2_with (first
      | (go_at_call 78; refine hB.mono ?_; rintro e w5 ⟨rfl, K5⟩; clear hB)
      | fail)
    go_ret
    refine ⟨by rw [HW.out]; rfl, ?_⟩
    rw [HW.out]
    exact RGoes.keep HR.out (HKA.out.and K5)

end

end Go.Proofs.YtfjekjbkifmpfaaDoor
