/-
  do: an input, by its kind.
-/
import Derived.Test.YtfjekjbkifmpfaaDoorG30
import Derived.Test.YtfjekjbkifmpfaaDoorG29
import Derived.Test.YtfjekjbkifmpfaaDoorG27
import Derived.Test.YtfjekjbkifmpfaaDoorG02
import Derived.Test.YtfjekjbkifmpfaaDoorG12
import Derived.Test.YtfjekjbkifmpfaaDoorG01
import Derived.Test.YtfjekjbkifmpfaaDoorG25
import Derived.Test.YtfjekjbkifmpfaaDoorG26
import Derived.Deep.Cut
import Derived.BigQuiet
namespace Go.Proofs.YtfjekjbkifmpfaaDoor
open Go.RowKit

section
variable {w0 w : World} {H : Nat → Prop} {rb : Nat} {nm : ByteArray} {a : Option Addr} {c : Nat} {ns : List Nd} {r : Rn} {m : Nat}

set_option maxRecDepth 100000 in
set_option maxHeartbeats 8000000 in
theorem do_any (E : Env w0 w H a ns) (R : RAt w H rb nm a ns.length c r) (F : Fit r m) (hn : ns.length ≤ 64) (h6 : r.st.nodes.length ≤ 64) (hm : m ≤ 100000) (q : Inp) (hq : q.name.size ≤ 100000000) (ht : q.text.size ≤ maxLen) :
    Calls Tryd.prog 43 #[.pointer (some ⟨rb, 0, none⟩), inpV q] w (DoPost w H rb nm a ns.length c (doP nm ns r q)) := by
  have KA := Kept.alloc (fun _ => False) w (.cells #[.int .i64 q.kind, .string q.node, .string q.name, .string q.text, .int .i64 q.tr, .int .i64 q.status, .int .i64 q.now, .string q.par, .string q.pnode] 39)
  have R1 := R.new KA
  have E1 := E.new KA
  obtain ⟨v6, v7, v12, v13, hb, _⟩ := R1.opened
  obtain ⟨_, _, _, _, _, _, x6, _⟩ := runCells hb
  have HKA := hid KA
  have HR := hid R
  clear R E KA hb
  by_cases k1 : q.kind = 1
  · have HW := hid (show doP nm ns r q = startP nm ns r q by unfold doP; rw [if_pos k1])
    have e1 : (q.kind == 1) = true := by simp [k1]
    have hD := start_any E1 R1 F hn h6 hm q hq
    unfold inpV at hD ⊢
    clear k1 E1 R1 x6
    go_enter Tryd.func43, Tryd.ntmps43
    go_wp2_with (first
      | (go_at_call 52; refine hD.mono ?_; rintro e w7 ⟨rfl, X7⟩; clear hD)
      | fail)
    go_ret
    refine ⟨by rw [HW.out]; rfl, ?_⟩
    rw [HW.out]
    exact X7.first HKA.out
  have e1 : (q.kind == 1) = false := by simp [k1]
  by_cases s0 : r.st.status = 0
  · have HW := hid (show doP nm ns r q = (r, 6) by unfold doP; rw [if_neg k1, if_pos s0])
    have f0 : (r.st.status == 0) = true := by simp [s0]
    unfold inpV
    clear k1 s0 E1 R1
    go_enter Tryd.func43, Tryd.ntmps43
    go_wp2_with fail
    go_ret
    refine ⟨by rw [HW.out]; rfl, ?_⟩
    rw [HW.out]
    exact RGoes.keep HR.out HKA.out
  have f0 : (r.st.status == 0) = false := by simp [s0]
  by_cases s1 : r.st.status = 1
  rotate_left
  · have HW := hid (show doP nm ns r q = (r, 11) by unfold doP; rw [if_neg k1, if_neg s0, if_pos s1])
    have f1 : (r.st.status != 1) = true := by simp [s1]
    unfold inpV
    clear k1 s0 s1 E1 R1
    go_enter Tryd.func43, Tryd.ntmps43
    go_wp2_with fail
    go_ret
    refine ⟨by rw [HW.out]; rfl, ?_⟩
    rw [HW.out]
    exact RGoes.keep HR.out HKA.out
  have f1 : (r.st.status != 1) = false := by simp [s1]
  by_cases k2 : q.kind = 2
  · have HW := hid (show doP nm ns r q = signalP nm ns r q by unfold doP; rw [if_neg k1, if_neg s0, if_neg (fun h => h s1), if_pos k2])
    have e2 : (q.kind == 2) = true := by simp [k2]
    have hD := signal_any E1 R1 F hn h6 hm q
    unfold inpV at hD ⊢
    clear k1 s0 s1 k2 E1 R1
    go_enter Tryd.func43, Tryd.ntmps43
    go_wp2_with (first
      | (go_at_call 53; refine hD.mono ?_; rintro e w7 ⟨rfl, X7⟩; clear hD)
      | fail)
    go_ret
    refine ⟨by rw [HW.out]; rfl, ?_⟩
    rw [HW.out]
    exact X7.first HKA.out
  have e2 : (q.kind == 2) = false := by simp [k2]
  by_cases k3 : q.kind = 3
  · have HW := hid (show doP nm ns r q = takeP nm ns r q by unfold doP; rw [if_neg k1, if_neg s0, if_neg (fun h => h s1), if_neg k2, if_pos k3])
    have e3 : (q.kind == 3) = true := by simp [k3]
    have hD := take_any E1 R1 F hm q
    unfold inpV at hD ⊢
    clear k1 s0 s1 k2 k3 E1 R1
    go_enter Tryd.func43, Tryd.ntmps43
    go_wp2_with (first
      | (go_at_call 54; refine hD.mono ?_; rintro e w7 ⟨rfl, X7⟩; clear hD)
      | fail)
    go_ret
    refine ⟨by rw [HW.out]; rfl, ?_⟩
    rw [HW.out]
    exact X7.first HKA.out
  have e3 : (q.kind == 3) = false := by simp [k3]
  by_cases k4 : q.kind = 4
  · have HW := hid (show doP nm ns r q = completeP nm ns r q by unfold doP; rw [if_neg k1, if_neg s0, if_neg (fun h => h s1), if_neg k2, if_neg k3, if_pos k4])
    have e4 : (q.kind == 4) = true := by simp [k4]
    have hD := complete_any E1 R1 F hn h6 hm q
    unfold inpV at hD ⊢
    clear k1 s0 s1 k2 k3 k4 E1 R1
    go_enter Tryd.func43, Tryd.ntmps43
    go_wp2_with (first
      | (go_at_call 55; refine hD.mono ?_; rintro e w7 ⟨rfl, X7⟩; clear hD)
      | fail)
    go_ret
    refine ⟨by rw [HW.out]; rfl, ?_⟩
    rw [HW.out]
    exact X7.first HKA.out
  have e4 : (q.kind == 4) = false := by simp [k4]
  by_cases k5 : q.kind = 5
  · have HW := hid (show doP nm ns r q = failP nm ns r q by unfold doP; rw [if_neg k1, if_neg s0, if_neg (fun h => h s1), if_neg k2, if_neg k3, if_neg k4, if_pos k5])
    have e5 : (q.kind == 5) = true := by simp [k5]
    have hD := fail_any E1 R1 F hn hm q
    unfold inpV at hD ⊢
    clear k1 s0 s1 k2 k3 k4 k5 E1 R1
    go_enter Tryd.func43, Tryd.ntmps43
    go_wp2_with (first
      | (go_at_call 56; refine hD.mono ?_; rintro e w7 ⟨rfl, X7⟩; clear hD)
      | fail)
    go_ret
    refine ⟨by rw [HW.out]; rfl, ?_⟩
    rw [HW.out]
    exact X7.first HKA.out
  have e5 : (q.kind == 5) = false := by simp [k5]
  by_cases k6 : q.kind = 6
  · have HW := hid (show doP nm ns r q = fireP nm ns r q by unfold doP; rw [if_neg k1, if_neg s0, if_neg (fun h => h s1), if_neg k2, if_neg k3, if_neg k4, if_neg k5, if_pos k6])
    have e6 : (q.kind == 6) = true := by simp [k6]
    have hD := fire_any E1 R1 F hn h6 hm q
    unfold inpV at hD ⊢
    clear k1 s0 s1 k2 k3 k4 k5 k6 E1 R1
    go_enter Tryd.func43, Tryd.ntmps43
    go_wp2_with (first
      | (go_at_call 57; refine hD.mono ?_; rintro e w7 ⟨rfl, X7⟩; clear hD)
      | fail)
    go_ret
    refine ⟨by rw [HW.out]; rfl, ?_⟩
    rw [HW.out]
    exact X7.first HKA.out
  have e6 : (q.kind == 6) = false := by simp [k6]
  by_cases k7 : q.kind = 7
  · have HW := hid (show doP nm ns r q = kidP nm ns r q by unfold doP; rw [if_neg k1, if_neg s0, if_neg (fun h => h s1), if_neg k2, if_neg k3, if_neg k4, if_neg k5, if_neg k6, if_pos k7])
    have e7 : (q.kind == 7) = true := by simp [k7]
    have hD := child_any E1 R1 F hn h6 hm q
    unfold inpV at hD ⊢
    clear k1 s0 s1 k2 k3 k4 k5 k6 k7 E1 R1
    go_enter Tryd.func43, Tryd.ntmps43
    go_wp2_with (first
      | (go_at_call 58; refine hD.mono ?_; rintro e w7 ⟨rfl, X7⟩; clear hD)
      | fail)
    go_ret
    refine ⟨by rw [HW.out]; rfl, ?_⟩
    rw [HW.out]
    exact X7.first HKA.out
  have e7 : (q.kind == 7) = false := by simp [k7]
  by_cases k8 : q.kind = 8
  · have HW := hid (show doP nm ns r q = cancelP nm ns r q by unfold doP; rw [if_neg k1, if_neg s0, if_neg (fun h => h s1), if_neg k2, if_neg k3, if_neg k4, if_neg k5, if_neg k6, if_neg k7, if_pos k8])
    have e8 : (q.kind == 8) = true := by simp [k8]
    have hD := cancel_any E1 R1 F hn hm q ht
    unfold inpV at hD ⊢
    clear k1 s0 s1 k2 k3 k4 k5 k6 k7 k8 E1 R1
    go_enter Tryd.func43, Tryd.ntmps43
    go_wp2_with (first
      | (go_at_call 59; refine hD.mono ?_; rintro e w7 ⟨rfl, X7⟩; clear hD)
      | fail)
    go_ret
    refine ⟨by rw [HW.out]; rfl, ?_⟩
    rw [HW.out]
    exact X7.first HKA.out
  have e8 : (q.kind == 8) = false := by simp [k8]
  have HW := hid (show doP nm ns r q = (r, 1) by unfold doP; rw [if_neg k1, if_neg s0, if_neg (fun h => h s1), if_neg k2, if_neg k3, if_neg k4, if_neg k5, if_neg k6, if_neg k7, if_neg k8])
  unfold inpV
  clear k1 s0 s1 k2 k3 k4 k5 k6 k7 k8 E1 R1
  go_enter Tryd.func43, Tryd.ntmps43
  go_wp2_with fail
  go_ret
  refine ⟨by rw [HW.out]; rfl, ?_⟩
  rw [HW.out]
  exact RGoes.keep HR.out HKA.out

end

end Go.Proofs.YtfjekjbkifmpfaaDoor

/-
  The document's run: the regions of node and Step that draw their order.
-/
namespace Go.Proofs.YtfjekjbkifmpfaaDoor.Rf
open Go.RowKit

theorem cells3F {w : World} {b : Nat} {T : TypeId} {u0 u1 u2 : Value} (h : w.heap[b]? = some (.cells #[u0, u1, u2] T (0, 0))) : (w.cell? ⟨b, 0, none⟩ = some u0 ∧ w.cell? ⟨b, 1, none⟩ = some u1 ∧ w.cell? ⟨b, 2, none⟩ = some u2) ∧ (w.frozen? ⟨b, 0, none⟩ = false ∧ w.frozen? ⟨b, 1, none⟩ = false ∧ w.frozen? ⟨b, 2, none⟩ = false) := by
  simp [World.cell?, World.frozen?, h]

theorem cells3put {w : World} {b : Nat} {T : TypeId} {u0 u1 u2 : Value} (h : w.heap[b]? = some (.cells #[u0, u1, u2] T (0, 0))) (y0 y1 y2 : Value) : (((w.setCell ⟨b, 0, none⟩ (y0)).setCell ⟨b, 1, none⟩ (y1)).setCell ⟨b, 2, none⟩ (y2)).heap[b]? = some (.cells #[y0, y1, y2] T (0, 0)) := by
  simp [World.setCell, Array.getElem?_modify, h]

theorem cells3kept {S : Nat → Prop} (w : World) {b : Nat} (h : S b) (y0 y1 y2 : Value) : Kept S w (((w.setCell ⟨b, 0, none⟩ (y0)).setCell ⟨b, 1, none⟩ (y1)).setCell ⟨b, 2, none⟩ (y2)) :=
  ((Kept.setCell (S := S) w _ y0 h).and (Kept.setCell (S := S) _ _ y1 h)).and (Kept.setCell (S := S) _ _ y2 h)

set_option maxRecDepth 100000 in
set_option maxHeartbeats 8000000 in
theorem nd4 {W : World} {sb b o n c g n6 c6 k ab bb : Nat} {m0 m2 m3 y2_ : ByteArray} {m1 m4 m5 y0_ y1_ : Int} {av : Option Addr} {an cv : Nat} {ds : List Deferred} {u1 u2 u3 u4 u5 u10 u11 u12 u13 u14 u15 u16 u17 u18 u19 u20 u21 u22 u23 u24 u25 u26 u27 u28 u29 u30 u31 u32 u33 u34 u35 u36 u37 u38 u39 u40 u41 u42 u43 u44 u45 u46 u47 u48 u49 u50 u51 u52 u53 u54 u55 u56 u57 u58 u59 u60 u61 u62 : Value} (K : Act → World → Prop)
    (x0 : W.cell? ⟨sb, 1, none⟩ = some (.slice (some ⟨b, o, none⟩) n c)) (x1 : W.cell? ⟨sb, 8, none⟩ = some (.slice (some ⟨g, 0, none⟩) n6 c6)) (x2 : W.cell? ⟨b, o + k * 7, none⟩ = some (.string m0)) (x3 : W.cell? ⟨b, o + k * 7 + 1, none⟩ = some (.int .i64 m1)) (x4 : W.cell? ⟨b, o + k * 7 + 2, none⟩ = some (.string m2)) (x5 : W.cell? ⟨b, o + k * 7 + 3, none⟩ = some (.string m3)) (x6 : W.cell? ⟨b, o + k * 7 + 4, none⟩ = some (.int .i64 m4)) (x7 : W.cell? ⟨b, o + k * 7 + 5, none⟩ = some (.int .i64 m5)) (x8 : W.cell? ⟨b, o + k * 7 + 6, none⟩ = some (.slice av an cv)) (x9 : W.cell? ⟨g, k * 3, none⟩ = some (.int .i64 y0_)) (x10 : W.cell? ⟨g, k * 3 + 1, none⟩ = some (.int .i64 y1_)) (x11 : W.cell? ⟨g, k * 3 + 2, none⟩ = some (.string y2_))
    (hk : k < n) (hk6 : k < n6) (hmA0 : W.heap[ab]? = some (.cells #[.string ⟨#[]⟩, .int .i64 0, .string ⟨#[]⟩, .string ⟨#[]⟩, .int .i64 0, .int .i64 0, .slice none 0 0] 64 (0, 0))) (hmB0 : W.heap[bb]? = some (.cells #[.int .i64 0, .int .i64 0, .string ⟨#[]⟩] 61 (0, 0))) (hab : ab ≠ bb) (hsa : sb ≠ ab ∧ sb ≠ bb) (hba : b ≠ ab ∧ b ≠ bb) (hga : g ≠ ab ∧ g ≠ bb)
    (h : ∀ (v47 v48 v49 v50 v51 v52 v53 v54 v55 v56 v57 v58 v59 v60 v61 v62 : Value) (W' : World), W'.heap[ab]? = some (.cells #[.string m0, .int .i64 m1, .string m2, .string m3, .int .i64 m4, .int .i64 m5, .slice av an cv] 64 (0, 0)) → W'.heap[bb]? = some (.cells #[.int .i64 y0_, .int .i64 y1_, .string y2_] 61 (0, 0)) → Kept (fun j => j = ab ∨ j = bb) W W' → K { tmps := #[.pointer (some ⟨sb, 0, none⟩), u1, u2, u3, u4, u5, .pointer (some ⟨ab, 0, none⟩), .pointer (some ⟨bb, 0, none⟩), .bool true, .int .i64 (k : Nat), u10, u11, u12, u13, u14, u15, u16, u17, u18, u19, u20, u21, u22, u23, u24, u25, u26, u27, u28, u29, u30, u31, u32, u33, u34, u35, u36, u37, u38, u39, u40, u41, u42, u43, u44, u45, u46, v47, v48, v49, v50, v51, v52, v53, v54, v55, v56, v57, v58, v59, v60, v61, v62], defers := ds } W') :
    (Code.region 4 #[{ dst := some 47, op := Op.move (Operand.tmp 0), type := 104, pos := "ref.go:231", after := #[], guard := none }, { dst := some 48, op := Op.nilCheck (Operand.tmp 47), type := 0, pos := "ref.go:231", after := #[{ on := 0, ground := Ground.data }], guard := none }, { dst := some 49, op := Op.fieldAddr 106 (Operand.tmp 48) 0, type := 0, pos := "ref.go:231", after := #[{ on := 1, ground := Ground.data }], guard := none }, { dst := some 50, op := Op.fieldAddr 24 (Operand.tmp 49) 1, type := 0, pos := "ref.go:231", after := #[{ on := 2, ground := Ground.data }], guard := none }, { dst := some 51, op := Op.load 22 (Operand.tmp 50), type := 22, pos := "ref.go:231", after := #[{ on := 3, ground := Ground.data }], guard := none }, { dst := some 52, op := Op.move (Operand.tmp 9), type := 3, pos := "ref.go:231", after := #[], guard := none }, { dst := some 53, op := Op.indexAddr 22 (Operand.tmp 51) (Operand.tmp 52), type := 0, pos := "ref.go:231", after := #[{ on := 4, ground := Ground.data }, { on := 5, ground := Ground.data }], guard := none }, { dst := some 54, op := Op.load 64 (Operand.tmp 53), type := 64, pos := "ref.go:231", after := #[{ on := 6, ground := Ground.data }], guard := none }, { dst := some 55, op := Op.move (Operand.tmp 0), type := 104, pos := "ref.go:231", after := #[{ on := 16, ground := Ground.gcOnly Departure.lateStores }], guard := none }, { dst := some 56, op := Op.nilCheck (Operand.tmp 55), type := 0, pos := "ref.go:231", after := #[{ on := 8, ground := Ground.data }, { on := 16, ground := Ground.gcOnly Departure.lateStores }], guard := none }, { dst := some 57, op := Op.fieldAddr 106 (Operand.tmp 56) 1, type := 0, pos := "ref.go:231", after := #[{ on := 9, ground := Ground.data }, { on := 16, ground := Ground.gcOnly Departure.lateStores }], guard := none }, { dst := some 58, op := Op.fieldAddr 33 (Operand.tmp 57) 6, type := 0, pos := "ref.go:231", after := #[{ on := 10, ground := Ground.data }, { on := 16, ground := Ground.gcOnly Departure.lateStores }], guard := none }, { dst := some 59, op := Op.load 30 (Operand.tmp 58), type := 30, pos := "ref.go:231", after := #[{ on := 11, ground := Ground.data }, { on := 16, ground := Ground.gcOnly Departure.lateStores }], guard := none }, { dst := some 60, op := Op.move (Operand.tmp 9), type := 3, pos := "ref.go:231", after := #[{ on := 16, ground := Ground.gcOnly Departure.lateStores }], guard := none }, { dst := some 61, op := Op.indexAddr 30 (Operand.tmp 59) (Operand.tmp 60), type := 0, pos := "ref.go:231", after := #[{ on := 12, ground := Ground.data }, { on := 13, ground := Ground.data }, { on := 16, ground := Ground.gcOnly Departure.lateStores }], guard := none }, { dst := some 62, op := Op.load 61 (Operand.tmp 61), type := 61, pos := "ref.go:231", after := #[{ on := 14, ground := Ground.data }, { on := 16, ground := Ground.gcOnly Departure.lateStores }], guard := none }, { dst := none, op := Op.store 64 (Operand.tmp 6) (Operand.tmp 54), type := 0, pos := "ref.go:231", after := #[{ on := 7, ground := Ground.data }, { on := 0, ground := Ground.phase }, { on := 1, ground := Ground.phase }, { on := 2, ground := Ground.phase }, { on := 3, ground := Ground.phase }, { on := 4, ground := Ground.phase }, { on := 5, ground := Ground.phase }, { on := 6, ground := Ground.phase }, { on := 7, ground := Ground.phase }, { on := 8, ground := Ground.textOnly Departure.lateStores }, { on := 9, ground := Ground.textOnly Departure.lateStores }, { on := 10, ground := Ground.textOnly Departure.lateStores }, { on := 11, ground := Ground.textOnly Departure.lateStores }, { on := 12, ground := Ground.textOnly Departure.lateStores }, { on := 13, ground := Ground.textOnly Departure.lateStores }, { on := 14, ground := Ground.textOnly Departure.lateStores }, { on := 15, ground := Ground.textOnly Departure.lateStores }], guard := none }, { dst := none, op := Op.store 61 (Operand.tmp 7) (Operand.tmp 62), type := 0, pos := "ref.go:231", after := #[{ on := 15, ground := Ground.data }, { on := 16, ground := Ground.chain }, { on := 0, ground := Ground.phase }, { on := 1, ground := Ground.phase }, { on := 2, ground := Ground.phase }, { on := 3, ground := Ground.phase }, { on := 4, ground := Ground.phase }, { on := 5, ground := Ground.phase }, { on := 6, ground := Ground.phase }, { on := 7, ground := Ground.phase }, { on := 8, ground := Ground.phase }, { on := 9, ground := Ground.phase }, { on := 10, ground := Ground.phase }, { on := 11, ground := Ground.phase }, { on := 12, ground := Ground.phase }, { on := 13, ground := Ground.phase }, { on := 14, ground := Ground.phase }, { on := 15, ground := Ground.phase }, { on := 16, ground := Ground.phase }], guard := none }, { dst := some 8, op := Op.assign (Operand.const (Value.bool true)), type := 4, pos := "ref.go:231", after := #[{ on := 17, ground := Ground.chain }, { on := 0, ground := Ground.phase }, { on := 1, ground := Ground.phase }, { on := 2, ground := Ground.phase }, { on := 3, ground := Ground.phase }, { on := 4, ground := Ground.phase }, { on := 5, ground := Ground.phase }, { on := 6, ground := Ground.phase }, { on := 7, ground := Ground.phase }, { on := 8, ground := Ground.phase }, { on := 9, ground := Ground.phase }, { on := 10, ground := Ground.phase }, { on := 11, ground := Ground.phase }, { on := 12, ground := Ground.phase }, { on := 13, ground := Ground.phase }, { on := 14, ground := Ground.phase }, { on := 15, ground := Ground.phase }, { on := 16, ground := Ground.phase }, { on := 17, ground := Ground.phase }], guard := none }] true).wp Tryd.prog (onlyN K) { tmps := #[.pointer (some ⟨sb, 0, none⟩), u1, u2, u3, u4, u5, .pointer (some ⟨ab, 0, none⟩), .pointer (some ⟨bb, 0, none⟩), .bool false, .int .i64 (k : Nat), u10, u11, u12, u13, u14, u15, u16, u17, u18, u19, u20, u21, u22, u23, u24, u25, u26, u27, u28, u29, u30, u31, u32, u33, u34, u35, u36, u37, u38, u39, u40, u41, u42, u43, u44, u45, u46, u47, u48, u49, u50, u51, u52, u53, u54, u55, u56, u57, u58, u59, u60, u61, u62], defers := ds } W := by
  have e1 : (k : Int) < (n : Int) := by omega
  have e2 : (k : Int) < (n6 : Int) := by omega
  have HH : Hid _ := h
  have KD := Kept.drew (fun j => j = ab ∨ j = bb) W
  have hmA : Hid (W.drew.heap[ab]? = some (.cells #[.string ⟨#[]⟩, .int .i64 0, .string ⟨#[]⟩, .string ⟨#[]⟩, .int .i64 0, .int .i64 0, .slice none 0 0] 64 (0, 0))) := hmA0
  have hmB : Hid (W.drew.heap[bb]? = some (.cells #[.int .i64 0, .int .i64 0, .string ⟨#[]⟩] 61 (0, 0))) := hmB0
  have hh : ∀ {V : World} {d k : Nat} {v : Value}, Kept (fun j => j = ab ∨ j = bb) W V → d ≠ ab ∧ d ≠ bb → W.cell? ⟨d, k, none⟩ = some v → V.cell? ⟨d, k, none⟩ = some v := fun {V d k v} KV hd hc => by
    rw [World.cell?_of_block (w := W) (KV.block _ (World.block_lt_of_cell? W _ hc) (fun h => h.elim hd.1 hd.2))]
    exact hc
  have HS : Hid (∀ V, Kept (fun j => j = ab ∨ j = bb) W.drew V → V.cell? ⟨sb, 1, none⟩ = some (.slice (some ⟨b, o, none⟩) n c) ∧ V.cell? ⟨sb, 8, none⟩ = some (.slice (some ⟨g, 0, none⟩) n6 c6) ∧ V.cell? ⟨b, o + k * 7, none⟩ = some (.string m0) ∧ V.cell? ⟨b, o + k * 7 + 1, none⟩ = some (.int .i64 m1) ∧ V.cell? ⟨b, o + k * 7 + 2, none⟩ = some (.string m2) ∧ V.cell? ⟨b, o + k * 7 + 3, none⟩ = some (.string m3) ∧ V.cell? ⟨b, o + k * 7 + 4, none⟩ = some (.int .i64 m4) ∧ V.cell? ⟨b, o + k * 7 + 5, none⟩ = some (.int .i64 m5) ∧ V.cell? ⟨b, o + k * 7 + 6, none⟩ = some (.slice av an cv) ∧ V.cell? ⟨g, k * 3, none⟩ = some (.int .i64 y0_) ∧ V.cell? ⟨g, k * 3 + 1, none⟩ = some (.int .i64 y1_) ∧ V.cell? ⟨g, k * 3 + 2, none⟩ = some (.string y2_)) := fun V KV => ⟨hh (KD.and KV) hsa x0, hh (KD.and KV) hsa x1, hh (KD.and KV) hba x2, hh (KD.and KV) hba x3, hh (KD.and KV) hba x4, hh (KD.and KV) hba x5, hh (KD.and KV) hba x6, hh (KD.and KV) hba x7, hh (KD.and KV) hba x8, hh (KD.and KV) hga x9, hh (KD.and KV) hga x10, hh (KD.and KV) hga x11⟩
  have HKD : Hid (Kept (fun j => j = ab ∨ j = bb) W W.drew) := KD
  have hS0 := HS.out W.drew (Kept.refl _ _)
  clear h KD hh hmA0 hmB0 x0 x1 x2 x3 x4 x5 x6 x7 x8 x9 x10 x11
  refine wp_region_held_drew (S := fun V => V.cell? ⟨sb, 1, none⟩ = some (.slice (some ⟨b, o, none⟩) n c) ∧ V.cell? ⟨sb, 8, none⟩ = some (.slice (some ⟨g, 0, none⟩) n6 c6) ∧ V.cell? ⟨b, o + k * 7, none⟩ = some (.string m0) ∧ V.cell? ⟨b, o + k * 7 + 1, none⟩ = some (.int .i64 m1) ∧ V.cell? ⟨b, o + k * 7 + 2, none⟩ = some (.string m2) ∧ V.cell? ⟨b, o + k * 7 + 3, none⟩ = some (.string m3) ∧ V.cell? ⟨b, o + k * 7 + 4, none⟩ = some (.int .i64 m4) ∧ V.cell? ⟨b, o + k * 7 + 5, none⟩ = some (.int .i64 m5) ∧ V.cell? ⟨b, o + k * 7 + 6, none⟩ = some (.slice av an cv) ∧ V.cell? ⟨g, k * 3, none⟩ = some (.int .i64 y0_) ∧ V.cell? ⟨g, k * 3 + 1, none⟩ = some (.int .i64 y1_) ∧ V.cell? ⟨g, k * 3 + 2, none⟩ = some (.string y2_)) (by kernel_rfl) hS0 (fun _ => ?_)
  generalize W.drew = V0 at *
  refine wpAnyH_take (i := 0) (oi := { dst := some 47, op := Op.move (Operand.tmp 0), type := 104, pos := "ref.go:231", after := #[], guard := none }) (v := ?vv1) rfl (by kernel_rfl) (by kernel_rfl) (by kernel_rfl) (fun _ _ _ h => h) (Or.inl ⟨by rfl, ?hy1⟩) hS0 ?rest1
  case hy1 =>
    intro V hV
    obtain ⟨y0, y1, y2, y3, y4, y5, y6, y7, y8, y9, y10, y11⟩ := hV
    go_simp
    all_goals rfl
  simp only [Act.put, List.setIfInBounds_toArray, List.set_cons_zero, List.set_cons_succ]
  refine wpAnyH_take (i := 1) (oi := { dst := some 48, op := Op.nilCheck (Operand.tmp 47), type := 0, pos := "ref.go:231", after := #[{ on := 0, ground := Ground.data }], guard := none }) (v := ?vv2) rfl (by kernel_rfl) (by kernel_rfl) (by kernel_rfl) (fun _ _ _ h => h) (Or.inl ⟨by rfl, ?hy2⟩) hS0 ?rest2
  case hy2 =>
    intro V hV
    obtain ⟨y0, y1, y2, y3, y4, y5, y6, y7, y8, y9, y10, y11⟩ := hV
    go_simp
    all_goals rfl
  simp only [Act.put, List.setIfInBounds_toArray, List.set_cons_zero, List.set_cons_succ]
  refine wpAnyH_take (i := 2) (oi := { dst := some 49, op := Op.fieldAddr 106 (Operand.tmp 48) 0, type := 0, pos := "ref.go:231", after := #[{ on := 1, ground := Ground.data }], guard := none }) (v := ?vv3) rfl (by kernel_rfl) (by kernel_rfl) (by kernel_rfl) (fun _ _ _ h => h) (Or.inl ⟨by rfl, ?hy3⟩) hS0 ?rest3
  case hy3 =>
    intro V hV
    obtain ⟨y0, y1, y2, y3, y4, y5, y6, y7, y8, y9, y10, y11⟩ := hV
    go_simp
    all_goals rfl
  simp only [Act.put, List.setIfInBounds_toArray, List.set_cons_zero, List.set_cons_succ]
  refine wpAnyH_take (i := 3) (oi := { dst := some 50, op := Op.fieldAddr 24 (Operand.tmp 49) 1, type := 0, pos := "ref.go:231", after := #[{ on := 2, ground := Ground.data }], guard := none }) (v := ?vv4) rfl (by kernel_rfl) (by kernel_rfl) (by kernel_rfl) (fun _ _ _ h => h) (Or.inl ⟨by rfl, ?hy4⟩) hS0 ?rest4
  case hy4 =>
    intro V hV
    obtain ⟨y0, y1, y2, y3, y4, y5, y6, y7, y8, y9, y10, y11⟩ := hV
    go_simp
    all_goals rfl
  simp only [Act.put, List.setIfInBounds_toArray, List.set_cons_zero, List.set_cons_succ]
  refine wpAnyH_take (i := 4) (oi := { dst := some 51, op := Op.load 22 (Operand.tmp 50), type := 22, pos := "ref.go:231", after := #[{ on := 3, ground := Ground.data }], guard := none }) (v := ?vv5) rfl (by kernel_rfl) (by kernel_rfl) (by kernel_rfl) (fun _ _ _ h => h) (Or.inl ⟨by rfl, ?hy5⟩) hS0 ?rest5
  case hy5 =>
    intro V hV
    obtain ⟨y0, y1, y2, y3, y4, y5, y6, y7, y8, y9, y10, y11⟩ := hV
    go_simp
    all_goals rfl
  simp only [Act.put, List.setIfInBounds_toArray, List.set_cons_zero, List.set_cons_succ]
  refine wpAnyH_take (i := 5) (oi := { dst := some 52, op := Op.move (Operand.tmp 9), type := 3, pos := "ref.go:231", after := #[], guard := none }) (v := ?vv6) rfl (by kernel_rfl) (by kernel_rfl) (by kernel_rfl) (fun _ _ _ h => h) (Or.inl ⟨by rfl, ?hy6⟩) hS0 ?rest6
  case hy6 =>
    intro V hV
    obtain ⟨y0, y1, y2, y3, y4, y5, y6, y7, y8, y9, y10, y11⟩ := hV
    go_simp
    all_goals rfl
  simp only [Act.put, List.setIfInBounds_toArray, List.set_cons_zero, List.set_cons_succ]
  refine wpAnyH_take (i := 6) (oi := { dst := some 53, op := Op.indexAddr 22 (Operand.tmp 51) (Operand.tmp 52), type := 0, pos := "ref.go:231", after := #[{ on := 4, ground := Ground.data }, { on := 5, ground := Ground.data }], guard := none }) (v := ?vv7) rfl (by kernel_rfl) (by kernel_rfl) (by kernel_rfl) (fun _ _ _ h => h) (Or.inl ⟨by rfl, ?hy7⟩) hS0 ?rest7
  case hy7 =>
    intro V hV
    obtain ⟨y0, y1, y2, y3, y4, y5, y6, y7, y8, y9, y10, y11⟩ := hV
    go_simp
    all_goals rfl
  simp only [Act.put, List.setIfInBounds_toArray, List.set_cons_zero, List.set_cons_succ]
  refine wpAnyH_take (i := 7) (oi := { dst := some 54, op := Op.load 64 (Operand.tmp 53), type := 64, pos := "ref.go:231", after := #[{ on := 6, ground := Ground.data }], guard := none }) (v := ?vv8) rfl (by kernel_rfl) (by kernel_rfl) (by kernel_rfl) (fun _ _ _ h => h) (Or.inl ⟨by rfl, ?hy8⟩) hS0 ?rest8
  case hy8 =>
    intro V hV
    obtain ⟨y0, y1, y2, y3, y4, y5, y6, y7, y8, y9, y10, y11⟩ := hV
    go_simp
    all_goals rfl
  simp only [Act.put, List.setIfInBounds_toArray, List.set_cons_zero, List.set_cons_succ]
  refine wpAnyH_take (i := 8) (oi := { dst := some 55, op := Op.move (Operand.tmp 0), type := 104, pos := "ref.go:231", after := #[{ on := 16, ground := Ground.gcOnly Departure.lateStores }], guard := none }) (v := ?vv9) rfl (by kernel_rfl) (by kernel_rfl) (by kernel_rfl) (fun _ _ _ h => h) (Or.inl ⟨by rfl, ?hy9⟩) hS0 ?rest9
  case hy9 =>
    intro V hV
    obtain ⟨y0, y1, y2, y3, y4, y5, y6, y7, y8, y9, y10, y11⟩ := hV
    go_simp
    all_goals rfl
  simp only [Act.put, List.setIfInBounds_toArray, List.set_cons_zero, List.set_cons_succ]
  refine wpAnyH_take (i := 9) (oi := { dst := some 56, op := Op.nilCheck (Operand.tmp 55), type := 0, pos := "ref.go:231", after := #[{ on := 8, ground := Ground.data }, { on := 16, ground := Ground.gcOnly Departure.lateStores }], guard := none }) (v := ?vv10) rfl (by kernel_rfl) (by kernel_rfl) (by kernel_rfl) (fun _ _ _ h => h) (Or.inl ⟨by rfl, ?hy10⟩) hS0 ?rest10
  case hy10 =>
    intro V hV
    obtain ⟨y0, y1, y2, y3, y4, y5, y6, y7, y8, y9, y10, y11⟩ := hV
    go_simp
    all_goals rfl
  simp only [Act.put, List.setIfInBounds_toArray, List.set_cons_zero, List.set_cons_succ]
  refine wpAnyH_take (i := 10) (oi := { dst := some 57, op := Op.fieldAddr 106 (Operand.tmp 56) 1, type := 0, pos := "ref.go:231", after := #[{ on := 9, ground := Ground.data }, { on := 16, ground := Ground.gcOnly Departure.lateStores }], guard := none }) (v := ?vv11) rfl (by kernel_rfl) (by kernel_rfl) (by kernel_rfl) (fun _ _ _ h => h) (Or.inl ⟨by rfl, ?hy11⟩) hS0 ?rest11
  case hy11 =>
    intro V hV
    obtain ⟨y0, y1, y2, y3, y4, y5, y6, y7, y8, y9, y10, y11⟩ := hV
    go_simp
    all_goals rfl
  simp only [Act.put, List.setIfInBounds_toArray, List.set_cons_zero, List.set_cons_succ]
  refine wpAnyH_take (i := 11) (oi := { dst := some 58, op := Op.fieldAddr 33 (Operand.tmp 57) 6, type := 0, pos := "ref.go:231", after := #[{ on := 10, ground := Ground.data }, { on := 16, ground := Ground.gcOnly Departure.lateStores }], guard := none }) (v := ?vv12) rfl (by kernel_rfl) (by kernel_rfl) (by kernel_rfl) (fun _ _ _ h => h) (Or.inl ⟨by rfl, ?hy12⟩) hS0 ?rest12
  case hy12 =>
    intro V hV
    obtain ⟨y0, y1, y2, y3, y4, y5, y6, y7, y8, y9, y10, y11⟩ := hV
    go_simp
    all_goals rfl
  simp only [Act.put, List.setIfInBounds_toArray, List.set_cons_zero, List.set_cons_succ]
  refine wpAnyH_take (i := 12) (oi := { dst := some 59, op := Op.load 30 (Operand.tmp 58), type := 30, pos := "ref.go:231", after := #[{ on := 11, ground := Ground.data }, { on := 16, ground := Ground.gcOnly Departure.lateStores }], guard := none }) (v := ?vv13) rfl (by kernel_rfl) (by kernel_rfl) (by kernel_rfl) (fun _ _ _ h => h) (Or.inl ⟨by rfl, ?hy13⟩) hS0 ?rest13
  case hy13 =>
    intro V hV
    obtain ⟨y0, y1, y2, y3, y4, y5, y6, y7, y8, y9, y10, y11⟩ := hV
    go_simp
    all_goals rfl
  simp only [Act.put, List.setIfInBounds_toArray, List.set_cons_zero, List.set_cons_succ]
  refine wpAnyH_take (i := 13) (oi := { dst := some 60, op := Op.move (Operand.tmp 9), type := 3, pos := "ref.go:231", after := #[{ on := 16, ground := Ground.gcOnly Departure.lateStores }], guard := none }) (v := ?vv14) rfl (by kernel_rfl) (by kernel_rfl) (by kernel_rfl) (fun _ _ _ h => h) (Or.inl ⟨by rfl, ?hy14⟩) hS0 ?rest14
  case hy14 =>
    intro V hV
    obtain ⟨y0, y1, y2, y3, y4, y5, y6, y7, y8, y9, y10, y11⟩ := hV
    go_simp
    all_goals rfl
  simp only [Act.put, List.setIfInBounds_toArray, List.set_cons_zero, List.set_cons_succ]
  refine wpAnyH_take (i := 14) (oi := { dst := some 61, op := Op.indexAddr 30 (Operand.tmp 59) (Operand.tmp 60), type := 0, pos := "ref.go:231", after := #[{ on := 12, ground := Ground.data }, { on := 13, ground := Ground.data }, { on := 16, ground := Ground.gcOnly Departure.lateStores }], guard := none }) (v := ?vv15) rfl (by kernel_rfl) (by kernel_rfl) (by kernel_rfl) (fun _ _ _ h => h) (Or.inl ⟨by rfl, ?hy15⟩) hS0 ?rest15
  case hy15 =>
    intro V hV
    obtain ⟨y0, y1, y2, y3, y4, y5, y6, y7, y8, y9, y10, y11⟩ := hV
    go_simp
    all_goals rfl
  simp only [Act.put, List.setIfInBounds_toArray, List.set_cons_zero, List.set_cons_succ]
  refine wpAnyH_take (i := 15) (oi := { dst := some 62, op := Op.load 61 (Operand.tmp 61), type := 61, pos := "ref.go:231", after := #[{ on := 14, ground := Ground.data }, { on := 16, ground := Ground.gcOnly Departure.lateStores }], guard := none }) (v := ?vv16) rfl (by kernel_rfl) (by kernel_rfl) (by kernel_rfl) (fun _ _ _ h => h) (Or.inl ⟨by rfl, ?hy16⟩) hS0 ?rest16
  case hy16 =>
    intro V hV
    obtain ⟨y0, y1, y2, y3, y4, y5, y6, y7, y8, y9, y10, y11⟩ := hV
    go_simp
    all_goals rfl
  simp only [Act.put, List.setIfInBounds_toArray, List.set_cons_zero, List.set_cons_succ]
  refine wpAnyH_ready (rs := [16]) (by kernel_rfl) (by simp) (AllReadyH.cons (o := { dst := none, op := Op.store 64 (Operand.tmp 6) (Operand.tmp 54), type := 0, pos := "ref.go:231", after := #[{ on := 7, ground := Ground.data }, { on := 0, ground := Ground.phase }, { on := 1, ground := Ground.phase }, { on := 2, ground := Ground.phase }, { on := 3, ground := Ground.phase }, { on := 4, ground := Ground.phase }, { on := 5, ground := Ground.phase }, { on := 6, ground := Ground.phase }, { on := 7, ground := Ground.phase }, { on := 8, ground := Ground.textOnly Departure.lateStores }, { on := 9, ground := Ground.textOnly Departure.lateStores }, { on := 10, ground := Ground.textOnly Departure.lateStores }, { on := 11, ground := Ground.textOnly Departure.lateStores }, { on := 12, ground := Ground.textOnly Departure.lateStores }, { on := 13, ground := Ground.textOnly Departure.lateStores }, { on := 14, ground := Ground.textOnly Departure.lateStores }, { on := 15, ground := Ground.textOnly Departure.lateStores }], guard := none }) rfl (fun K' hK => ?_) AllReadyH.nil)
  obtain ⟨⟨p0, p1, p2, p3, p4, p5, p6⟩, f0, f1, f2, f3, f4, f5, f6⟩ := cells7F hmA.out
  have HM := hid (cells7put hmA.out (.string m0) (.int .i64 m1) (.string m2) (.string m3) (.int .i64 m4) (.int .i64 m5) (.slice av an cv))
  have KS0 := cells7kept (S := fun j => j = ab) V0 rfl (.string m0) (.int .i64 m1) (.string m2) (.string m3) (.int .i64 m4) (.int .i64 m5) (.slice av an cv)
  have HMB := hid ((KS0.block _ (Array.getElem?_eq_some_iff.1 hmB.out).1 (fun h => hab h.symm)).trans hmB.out)
  have KS : Kept (fun j => j = ab ∨ j = bb) V0 _ := KS0.mono (fun j h => .inl h)
  go_simp
  refine hK.out _ _ (HS.out _ KS) (fun _ => ?_)
  clear p0 p1 p2 p3 p4 p5 p6 f0 f1 f2 f3 f4 f5 f6 KS0
  generalize (((((((V0.setCell ⟨ab, 0, none⟩ (.string m0)).setCell ⟨ab, 1, none⟩ (.int .i64 m1)).setCell ⟨ab, 2, none⟩ (.string m2)).setCell ⟨ab, 3, none⟩ (.string m3)).setCell ⟨ab, 4, none⟩ (.int .i64 m4)).setCell ⟨ab, 5, none⟩ (.int .i64 m5)).setCell ⟨ab, 6, none⟩ (.slice av an cv)) = V1 at *
  clear hK K'
  try (simp only [Act.put, List.setIfInBounds_toArray, List.set_cons_zero, List.set_cons_succ])
  refine wpAnyH_ready (rs := [17]) (by kernel_rfl) (by simp) (AllReadyH.cons (o := { dst := none, op := Op.store 61 (Operand.tmp 7) (Operand.tmp 62), type := 0, pos := "ref.go:231", after := #[{ on := 15, ground := Ground.data }, { on := 16, ground := Ground.chain }, { on := 0, ground := Ground.phase }, { on := 1, ground := Ground.phase }, { on := 2, ground := Ground.phase }, { on := 3, ground := Ground.phase }, { on := 4, ground := Ground.phase }, { on := 5, ground := Ground.phase }, { on := 6, ground := Ground.phase }, { on := 7, ground := Ground.phase }, { on := 8, ground := Ground.phase }, { on := 9, ground := Ground.phase }, { on := 10, ground := Ground.phase }, { on := 11, ground := Ground.phase }, { on := 12, ground := Ground.phase }, { on := 13, ground := Ground.phase }, { on := 14, ground := Ground.phase }, { on := 15, ground := Ground.phase }, { on := 16, ground := Ground.phase }], guard := none }) rfl (fun K' hK => ?_) AllReadyH.nil)
  obtain ⟨⟨p0, p1, p2⟩, f0, f1, f2⟩ := cells3F HMB.out
  have HM2 := hid (cells3put HMB.out (.int .i64 y0_) (.int .i64 y1_) (.string y2_))
  have KT0 := cells3kept (S := fun j => j = bb) V1 rfl (.int .i64 y0_) (.int .i64 y1_) (.string y2_)
  have HMA := hid ((KT0.block _ (Array.getElem?_eq_some_iff.1 HM.out).1 hab).trans HM.out)
  have KT := KS.and (KT0.mono (fun j h => .inr h))
  go_simp
  refine hK.out _ _ (HS.out _ KT) (fun _ => ?_)
  have HKF := hid (HKD.out.and KT)
  clear p0 p1 p2 f0 f1 f2 KT0
  clear hK K'
  try (simp only [Act.put, List.setIfInBounds_toArray, List.set_cons_zero, List.set_cons_succ])
  refine wpAnyH_take (i := 18) (oi := { dst := some 8, op := Op.assign (Operand.const (Value.bool true)), type := 4, pos := "ref.go:231", after := #[{ on := 17, ground := Ground.chain }, { on := 0, ground := Ground.phase }, { on := 1, ground := Ground.phase }, { on := 2, ground := Ground.phase }, { on := 3, ground := Ground.phase }, { on := 4, ground := Ground.phase }, { on := 5, ground := Ground.phase }, { on := 6, ground := Ground.phase }, { on := 7, ground := Ground.phase }, { on := 8, ground := Ground.phase }, { on := 9, ground := Ground.phase }, { on := 10, ground := Ground.phase }, { on := 11, ground := Ground.phase }, { on := 12, ground := Ground.phase }, { on := 13, ground := Ground.phase }, { on := 14, ground := Ground.phase }, { on := 15, ground := Ground.phase }, { on := 16, ground := Ground.phase }, { on := 17, ground := Ground.phase }], guard := none }) (v := ?vv17) rfl (by kernel_rfl) (by kernel_rfl) (by kernel_rfl) (fun _ _ _ h => h) (Or.inl ⟨by rfl, ?hy17⟩) (HS.out _ KT) ?rest17
  case hy17 =>
    intro V hV
    obtain ⟨y0, y1, y2, y3, y4, y5, y6, y7, y8, y9, y10, y11⟩ := hV
    go_simp
    all_goals rfl
  simp only [Act.put, List.setIfInBounds_toArray, List.set_cons_zero, List.set_cons_succ]
  refine wpAnyH_done (by kernel_rfl) ?_ _
  exact HH.out _ _ _ _ _ _ _ _ _ _ _ _ _ _ _ _ _ HMA.out HM2.out HKF.out

set_option maxRecDepth 100000 in
set_option maxHeartbeats 8000000 in
theorem sp1 {W : World} {db tb qb : Nat} {nw : Int} {d0 d1 q0 q1 q2 q3 q4 q5 q6 q7 q8 : Value} {P : World → Value → Value → Prop} {ds : List Deferred} {u0 u1 u2 u6 u7 u8 u9 u10 u11 u12 u13 u14 u15 u16 u17 u18 u19 u20 u21 u22 u23 u24 u25 u26 u27 u28 u29 u30 u31 u32 u33 u34 u35 u36 u37 : Value} (K : Act → World → Prop)
    (x0 : W.cell? ⟨db, 0, none⟩ = some (d0)) (x1 : W.cell? ⟨db, 1, none⟩ = some (d1)) (x2 : W.cell? ⟨tb, 0, none⟩ = some (q0)) (x3 : W.cell? ⟨tb, 1, none⟩ = some (q1)) (x4 : W.cell? ⟨tb, 2, none⟩ = some (q2)) (x5 : W.cell? ⟨tb, 3, none⟩ = some (q3)) (x6 : W.cell? ⟨tb, 4, none⟩ = some (q4)) (x7 : W.cell? ⟨tb, 5, none⟩ = some (q5)) (x8 : W.cell? ⟨tb, 6, none⟩ = some (q6)) (x9 : W.cell? ⟨tb, 7, none⟩ = some (q7)) (x10 : W.cell? ⟨tb, 8, none⟩ = some (q8)) (x11 : W.cell? ⟨qb, 6, none⟩ = some (.int .i64 nw))
    (hC : Calls Tryd.prog 41 #[.agg #[q0, q1, q2, q3, q4, q5, q6, q7, q8]] W.drew fun e w' => ∃ u6_ u7_, e = .returned (.agg #[q0, q1, q2, q3, q4, q5, u6_, u7_, q8]) ∧ P w' u6_ u7_ ∧ Kept (fun _ => False) W.drew w')
    (h : ∀ (v12 v13 v14 v15 v16 v17 v18 : Value) (u6_ u7_ : Value) (w5 : World), P w5 u6_ u7_ → Kept (fun _ => False) W w5 → K { tmps := #[u0, u1, u2, .pointer (some ⟨db, 0, none⟩), .pointer (some ⟨tb, 0, none⟩), .pointer (some ⟨qb, 0, none⟩), u6, u7, u8, u9, .pointer (some ⟨w5.heap.size, 0, none⟩), u11, v12, v13, v14, v15, v16, v17, v18, u19, u20, u21, u22, u23, u24, u25, u26, u27, u28, u29, u30, u31, u32, u33, u34, u35, u36, u37], defers := ds } (w5.alloc (.cells #[d0, d1, q0, q1, q2, q3, q4, q5, u6_, u7_, q8, .int .i64 nw, .slice none 0 0, .slice none 0 0] 106))) :
    (Code.region 1 #[{ dst := some 12, op := Op.load 24 (Operand.tmp 3), type := 24, pos := "ref.go:378", after := #[], guard := none }, { dst := some 13, op := Op.load 33 (Operand.tmp 4), type := 33, pos := "ref.go:378", after := #[], guard := none }, { dst := some 14, op := Op.call { callee := Callee.value (Operand.func 41), args := #[Operand.tmp 13], argTypes := #[33] }, type := 33, pos := "ref.go:378", after := #[{ on := 1, ground := Ground.data }], guard := none }, { dst := some 15, op := Op.fieldAddr 39 (Operand.tmp 5) 6, type := 0, pos := "ref.go:378", after := #[], guard := none }, { dst := some 16, op := Op.load 3 (Operand.tmp 15), type := 3, pos := "ref.go:378", after := #[{ on := 3, ground := Ground.data }], guard := none }, { dst := some 17, op := Op.build 106 #[(0, Operand.tmp 12), (1, Operand.tmp 14), (2, Operand.tmp 16)], type := 106, pos := "ref.go:378", after := #[{ on := 0, ground := Ground.data }, { on := 2, ground := Ground.data }, { on := 4, ground := Ground.data }], guard := none }, { dst := some 18, op := Op.box 106 (Operand.tmp 17), type := 104, pos := "ref.go:378", after := #[{ on := 5, ground := Ground.data }], guard := none }, { dst := some 10, op := Op.assign (Operand.tmp 18), type := 104, pos := "ref.go:378", after := #[{ on := 6, ground := Ground.data }, { on := 2, ground := Ground.chain }, { on := 0, ground := Ground.phase }, { on := 1, ground := Ground.phase }, { on := 2, ground := Ground.phase }, { on := 3, ground := Ground.phase }, { on := 4, ground := Ground.phase }, { on := 5, ground := Ground.phase }, { on := 6, ground := Ground.phase }], guard := none }] true).wp Tryd.prog (onlyN K) { tmps := #[u0, u1, u2, .pointer (some ⟨db, 0, none⟩), .pointer (some ⟨tb, 0, none⟩), .pointer (some ⟨qb, 0, none⟩), u6, u7, u8, u9, u10, u11, u12, u13, u14, u15, u16, u17, u18, u19, u20, u21, u22, u23, u24, u25, u26, u27, u28, u29, u30, u31, u32, u33, u34, u35, u36, u37], defers := ds } W := by
  have HH : Hid _ := h
  have KD := Kept.drew (fun _ => False) W
  have HS : Hid (∀ V, Kept (fun _ => False) W.drew V → V.cell? ⟨db, 0, none⟩ = some (d0) ∧ V.cell? ⟨db, 1, none⟩ = some (d1) ∧ V.cell? ⟨tb, 0, none⟩ = some (q0) ∧ V.cell? ⟨tb, 1, none⟩ = some (q1) ∧ V.cell? ⟨tb, 2, none⟩ = some (q2) ∧ V.cell? ⟨tb, 3, none⟩ = some (q3) ∧ V.cell? ⟨tb, 4, none⟩ = some (q4) ∧ V.cell? ⟨tb, 5, none⟩ = some (q5) ∧ V.cell? ⟨tb, 6, none⟩ = some (q6) ∧ V.cell? ⟨tb, 7, none⟩ = some (q7) ∧ V.cell? ⟨tb, 8, none⟩ = some (q8) ∧ V.cell? ⟨qb, 6, none⟩ = some (.int .i64 nw)) := fun V KV => ⟨keepC (KD.and KV) x0 (fun _ _ h => h), keepC (KD.and KV) x1 (fun _ _ h => h), keepC (KD.and KV) x2 (fun _ _ h => h), keepC (KD.and KV) x3 (fun _ _ h => h), keepC (KD.and KV) x4 (fun _ _ h => h), keepC (KD.and KV) x5 (fun _ _ h => h), keepC (KD.and KV) x6 (fun _ _ h => h), keepC (KD.and KV) x7 (fun _ _ h => h), keepC (KD.and KV) x8 (fun _ _ h => h), keepC (KD.and KV) x9 (fun _ _ h => h), keepC (KD.and KV) x10 (fun _ _ h => h), keepC (KD.and KV) x11 (fun _ _ h => h)⟩
  have HKD : Hid (Kept (fun _ => False) W W.drew) := KD
  have hS0 := HS.out W.drew (Kept.refl _ _)
  clear h KD x0 x1 x2 x3 x4 x5 x6 x7 x8 x9 x10 x11
  refine wp_region_held_drew (S := fun V => V.cell? ⟨db, 0, none⟩ = some (d0) ∧ V.cell? ⟨db, 1, none⟩ = some (d1) ∧ V.cell? ⟨tb, 0, none⟩ = some (q0) ∧ V.cell? ⟨tb, 1, none⟩ = some (q1) ∧ V.cell? ⟨tb, 2, none⟩ = some (q2) ∧ V.cell? ⟨tb, 3, none⟩ = some (q3) ∧ V.cell? ⟨tb, 4, none⟩ = some (q4) ∧ V.cell? ⟨tb, 5, none⟩ = some (q5) ∧ V.cell? ⟨tb, 6, none⟩ = some (q6) ∧ V.cell? ⟨tb, 7, none⟩ = some (q7) ∧ V.cell? ⟨tb, 8, none⟩ = some (q8) ∧ V.cell? ⟨qb, 6, none⟩ = some (.int .i64 nw)) (by kernel_rfl) hS0 (fun _ => ?_)
  refine wpAnyH_take (i := 0) (oi := { dst := some 12, op := Op.load 24 (Operand.tmp 3), type := 24, pos := "ref.go:378", after := #[], guard := none }) (v := ?vv1) rfl (by kernel_rfl) (by kernel_rfl) (by kernel_rfl) (fun _ _ _ h => h) (Or.inl ⟨by rfl, ?hy1⟩) hS0 ?rest1
  case hy1 =>
    intro V hV
    obtain ⟨y0, y1, y2, y3, y4, y5, y6, y7, y8, y9, y10, y11⟩ := hV
    go_simp
    all_goals rfl
  simp only [Act.put, List.setIfInBounds_toArray, List.set_cons_zero, List.set_cons_succ]
  refine wpAnyH_take (i := 1) (oi := { dst := some 13, op := Op.load 33 (Operand.tmp 4), type := 33, pos := "ref.go:378", after := #[], guard := none }) (v := ?vv2) rfl (by kernel_rfl) (by kernel_rfl) (by kernel_rfl) (fun _ _ _ h => h) (Or.inl ⟨by rfl, ?hy2⟩) hS0 ?rest2
  case hy2 =>
    intro V hV
    obtain ⟨y0, y1, y2, y3, y4, y5, y6, y7, y8, y9, y10, y11⟩ := hV
    go_simp
    all_goals rfl
  simp only [Act.put, List.setIfInBounds_toArray, List.set_cons_zero, List.set_cons_succ]
  refine wpAnyH_take (i := 3) (oi := { dst := some 15, op := Op.fieldAddr 39 (Operand.tmp 5) 6, type := 0, pos := "ref.go:378", after := #[], guard := none }) (v := ?vv3) rfl (by kernel_rfl) (by kernel_rfl) (by kernel_rfl) (fun _ _ _ h => h) (Or.inl ⟨by rfl, ?hy3⟩) hS0 ?rest3
  case hy3 =>
    intro V hV
    obtain ⟨y0, y1, y2, y3, y4, y5, y6, y7, y8, y9, y10, y11⟩ := hV
    go_simp
    all_goals rfl
  simp only [Act.put, List.setIfInBounds_toArray, List.set_cons_zero, List.set_cons_succ]
  refine wpAnyH_take (i := 4) (oi := { dst := some 16, op := Op.load 3 (Operand.tmp 15), type := 3, pos := "ref.go:378", after := #[{ on := 3, ground := Ground.data }], guard := none }) (v := ?vv4) rfl (by kernel_rfl) (by kernel_rfl) (by kernel_rfl) (fun _ _ _ h => h) (Or.inl ⟨by rfl, ?hy4⟩) hS0 ?rest4
  case hy4 =>
    intro V hV
    obtain ⟨y0, y1, y2, y3, y4, y5, y6, y7, y8, y9, y10, y11⟩ := hV
    go_simp
    all_goals rfl
  simp only [Act.put, List.setIfInBounds_toArray, List.set_cons_zero, List.set_cons_succ]
  refine wpAnyH_ready (rs := [2]) (by kernel_rfl) (by simp) (AllReadyH.cons (o := { dst := some 14, op := Op.call { callee := Callee.value (Operand.func 41), args := #[Operand.tmp 13], argTypes := #[33] }, type := 33, pos := "ref.go:378", after := #[{ on := 1, ground := Ground.data }], guard := none }) rfl (fun K' hK => ?_) AllReadyH.nil)
  refine step_call1 _ (by rfl) 41 _ _ (by rfl) (enters_of Tryd.func41 (by kernel_rfl) rfl) _ (by rfl) hC ?_
  rintro e w5 ⟨u6_, u7_, rfl, P5, K5⟩
  refine ⟨_, rfl, ?_⟩
  refine hK.out _ _ (HS.out _ K5) (fun _ => ?_)
  clear hK K'
  try (simp only [Act.put, List.setIfInBounds_toArray, List.set_cons_zero, List.set_cons_succ])
  refine wpAnyH_take (i := 5) (oi := { dst := some 17, op := Op.build 106 #[(0, Operand.tmp 12), (1, Operand.tmp 14), (2, Operand.tmp 16)], type := 106, pos := "ref.go:378", after := #[{ on := 0, ground := Ground.data }, { on := 2, ground := Ground.data }, { on := 4, ground := Ground.data }], guard := none }) (v := ?vv5) rfl (by kernel_rfl) (by kernel_rfl) (by kernel_rfl) (fun _ _ _ h => h) (Or.inl ⟨by rfl, ?hy5⟩) (HS.out _ K5) ?rest5
  case hy5 =>
    intro V hV
    obtain ⟨y0, y1, y2, y3, y4, y5, y6, y7, y8, y9, y10, y11⟩ := hV
    go_simp
    all_goals rfl
  simp only [Act.put, List.setIfInBounds_toArray, List.set_cons_zero, List.set_cons_succ]
  refine wpAnyH_ready (rs := [6]) (by kernel_rfl) (by simp) (AllReadyH.cons (o := { dst := some 18, op := Op.box 106 (Operand.tmp 17), type := 104, pos := "ref.go:378", after := #[{ on := 5, ground := Ground.data }], guard := none }) rfl (fun K' hK => ?_) AllReadyH.nil)
  have KA : Kept (fun _ => False) W.drew (w5.alloc (.cells #[d0, d1, q0, q1, q2, q3, q4, q5, u6_, u7_, q8, .int .i64 nw, .slice none 0 0, .slice none 0 0] 106)) := K5.and (Kept.alloc _ _ _)
  go_simp
  refine hK.out _ _ (HS.out _ KA) (fun _ => ?_)
  clear hK K'
  try (simp only [Act.put, List.setIfInBounds_toArray, List.set_cons_zero, List.set_cons_succ])
  refine wpAnyH_take (i := 7) (oi := { dst := some 10, op := Op.assign (Operand.tmp 18), type := 104, pos := "ref.go:378", after := #[{ on := 6, ground := Ground.data }, { on := 2, ground := Ground.chain }, { on := 0, ground := Ground.phase }, { on := 1, ground := Ground.phase }, { on := 2, ground := Ground.phase }, { on := 3, ground := Ground.phase }, { on := 4, ground := Ground.phase }, { on := 5, ground := Ground.phase }, { on := 6, ground := Ground.phase }], guard := none }) (v := ?vv6) rfl (by kernel_rfl) (by kernel_rfl) (by kernel_rfl) (fun _ _ _ h => h) (Or.inl ⟨by rfl, ?hy6⟩) (HS.out _ KA) ?rest6
  case hy6 =>
    intro V hV
    obtain ⟨y0, y1, y2, y3, y4, y5, y6, y7, y8, y9, y10, y11⟩ := hV
    go_simp
    all_goals rfl
  simp only [Act.put, List.setIfInBounds_toArray, List.set_cons_zero, List.set_cons_succ]
  refine wpAnyH_done (by kernel_rfl) ?_ _
  exact HH.out _ _ _ _ _ _ _ u6_ u7_ w5 P5 (HKD.out.and K5)

set_option maxRecDepth 100000 in
set_option maxHeartbeats 8000000 in
theorem sp5 {W : World} {tb rb : Nat} {s0 s1 s2 s3 s5 : ByteArray} {s4 s8 : Int} {a6 a7 : Option Addr} {n6 c6 n7 c7 : Nat} {p12 p13 : Value} {ds : List Deferred} {u0 u1 u2 u3 u4 u5 u6 u8 u9 u11 u12 u13 u14 u15 u16 u17 u18 u19 u20 u21 u22 u23 u24 u25 u26 u27 u28 u29 u30 u31 u32 u33 u34 u35 u36 u37 : Value} (K : Act → World → Prop)
    (x0 : W.cell? ⟨rb, 2, none⟩ = some (.string s0)) (x1 : W.cell? ⟨rb, 3, none⟩ = some (.string s1)) (x2 : W.cell? ⟨rb, 4, none⟩ = some (.string s2)) (x3 : W.cell? ⟨rb, 5, none⟩ = some (.string s3)) (x4 : W.cell? ⟨rb, 6, none⟩ = some (.int .i64 s4)) (x5 : W.cell? ⟨rb, 7, none⟩ = some (.string s5)) (x6 : W.cell? ⟨rb, 8, none⟩ = some (.slice a6 n6 c6)) (x7 : W.cell? ⟨rb, 9, none⟩ = some (.slice a7 n7 c7)) (x8 : W.cell? ⟨rb, 10, none⟩ = some (.int .i64 s8)) (x9 : W.cell? ⟨rb, 12, none⟩ = some (p12)) (x10 : W.cell? ⟨rb, 13, none⟩ = some (p13))
    (hmb0 : W.heap[tb]? = some (.cells #[.string ⟨#[]⟩, .string ⟨#[]⟩, .string ⟨#[]⟩, .string ⟨#[]⟩, .int .i64 0, .string ⟨#[]⟩, .slice none 0 0, .slice none 0 0, .int .i64 0] 33 (0, 0))) (hne : rb ≠ tb)
    (h : ∀ (v26 v27 v28 v29 v30 v31 v32 v33 v34 v35 v36 v37 : Value) (W' : World), W'.heap[tb]? = some (.cells #[.string s0, .string s1, .string s2, .string s3, .int .i64 s4, .string s5, .slice a6 n6 c6, .slice a7 n7 c7, .int .i64 s8] 33 (0, 0)) → Kept (fun j => j = tb) W W' → K { tmps := #[u0, u1, u2, u3, u4, u5, p12, .pointer (some ⟨tb, 0, none⟩), p13, .int .i64 0, .pointer (some ⟨rb, 0, none⟩), u11, u12, u13, u14, u15, u16, u17, u18, u19, u20, u21, u22, u23, u24, u25, v26, v27, v28, v29, v30, v31, v32, v33, v34, v35, v36, v37], defers := ds } W') :
    (Code.region 5 #[{ dst := some 26, op := Op.move (Operand.tmp 10), type := 104, pos := "ref.go:383", after := #[], guard := none }, { dst := some 27, op := Op.nilCheck (Operand.tmp 26), type := 0, pos := "ref.go:383", after := #[{ on := 0, ground := Ground.data }], guard := none }, { dst := some 28, op := Op.fieldAddr 106 (Operand.tmp 27) 3, type := 0, pos := "ref.go:383", after := #[{ on := 1, ground := Ground.data }], guard := none }, { dst := some 29, op := Op.load 34 (Operand.tmp 28), type := 34, pos := "ref.go:383", after := #[{ on := 2, ground := Ground.data }], guard := none }, { dst := some 30, op := Op.move (Operand.tmp 10), type := 104, pos := "ref.go:383", after := #[{ on := 12, ground := Ground.gcOnly Departure.lateStores }], guard := none }, { dst := some 31, op := Op.nilCheck (Operand.tmp 30), type := 0, pos := "ref.go:383", after := #[{ on := 4, ground := Ground.data }, { on := 12, ground := Ground.gcOnly Departure.lateStores }], guard := none }, { dst := some 32, op := Op.fieldAddr 106 (Operand.tmp 31) 1, type := 0, pos := "ref.go:383", after := #[{ on := 5, ground := Ground.data }, { on := 12, ground := Ground.gcOnly Departure.lateStores }], guard := none }, { dst := some 33, op := Op.load 33 (Operand.tmp 32), type := 33, pos := "ref.go:383", after := #[{ on := 6, ground := Ground.data }, { on := 12, ground := Ground.gcOnly Departure.lateStores }], guard := none }, { dst := some 34, op := Op.move (Operand.tmp 10), type := 104, pos := "ref.go:383", after := #[{ on := 13, ground := Ground.gcOnly Departure.lateStores }], guard := none }, { dst := some 35, op := Op.nilCheck (Operand.tmp 34), type := 0, pos := "ref.go:383", after := #[{ on := 8, ground := Ground.data }, { on := 13, ground := Ground.gcOnly Departure.lateStores }], guard := none }, { dst := some 36, op := Op.fieldAddr 106 (Operand.tmp 35) 4, type := 0, pos := "ref.go:383", after := #[{ on := 9, ground := Ground.data }, { on := 13, ground := Ground.gcOnly Departure.lateStores }], guard := none }, { dst := some 37, op := Op.load 56 (Operand.tmp 36), type := 56, pos := "ref.go:383", after := #[{ on := 10, ground := Ground.data }, { on := 13, ground := Ground.gcOnly Departure.lateStores }], guard := none }, { dst := some 6, op := Op.assign (Operand.tmp 29), type := 34, pos := "ref.go:383", after := #[{ on := 3, ground := Ground.data }, { on := 0, ground := Ground.phase }, { on := 1, ground := Ground.phase }, { on := 2, ground := Ground.phase }, { on := 3, ground := Ground.phase }, { on := 4, ground := Ground.textOnly Departure.lateStores }, { on := 5, ground := Ground.textOnly Departure.lateStores }, { on := 6, ground := Ground.textOnly Departure.lateStores }, { on := 7, ground := Ground.textOnly Departure.lateStores }, { on := 8, ground := Ground.textOnly Departure.lateStores }, { on := 9, ground := Ground.textOnly Departure.lateStores }, { on := 10, ground := Ground.textOnly Departure.lateStores }, { on := 11, ground := Ground.textOnly Departure.lateStores }], guard := none }, { dst := none, op := Op.store 33 (Operand.tmp 7) (Operand.tmp 33), type := 0, pos := "ref.go:383", after := #[{ on := 7, ground := Ground.data }, { on := 12, ground := Ground.chain }, { on := 0, ground := Ground.phase }, { on := 1, ground := Ground.phase }, { on := 2, ground := Ground.phase }, { on := 3, ground := Ground.phase }, { on := 4, ground := Ground.phase }, { on := 5, ground := Ground.phase }, { on := 6, ground := Ground.phase }, { on := 7, ground := Ground.phase }, { on := 8, ground := Ground.textOnly Departure.lateStores }, { on := 9, ground := Ground.textOnly Departure.lateStores }, { on := 10, ground := Ground.textOnly Departure.lateStores }, { on := 11, ground := Ground.textOnly Departure.lateStores }, { on := 12, ground := Ground.phase }], guard := none }, { dst := some 8, op := Op.assign (Operand.tmp 37), type := 56, pos := "ref.go:383", after := #[{ on := 11, ground := Ground.data }, { on := 13, ground := Ground.chain }, { on := 0, ground := Ground.phase }, { on := 1, ground := Ground.phase }, { on := 2, ground := Ground.phase }, { on := 3, ground := Ground.phase }, { on := 4, ground := Ground.phase }, { on := 5, ground := Ground.phase }, { on := 6, ground := Ground.phase }, { on := 7, ground := Ground.phase }, { on := 8, ground := Ground.phase }, { on := 9, ground := Ground.phase }, { on := 10, ground := Ground.phase }, { on := 11, ground := Ground.phase }, { on := 12, ground := Ground.phase }, { on := 13, ground := Ground.phase }], guard := none }, { dst := some 9, op := Op.assign (Operand.const (Value.int IntKind.i64 0)), type := 42, pos := "ref.go:383", after := #[{ on := 14, ground := Ground.chain }, { on := 0, ground := Ground.phase }, { on := 1, ground := Ground.phase }, { on := 2, ground := Ground.phase }, { on := 3, ground := Ground.phase }, { on := 4, ground := Ground.phase }, { on := 5, ground := Ground.phase }, { on := 6, ground := Ground.phase }, { on := 7, ground := Ground.phase }, { on := 8, ground := Ground.phase }, { on := 9, ground := Ground.phase }, { on := 10, ground := Ground.phase }, { on := 11, ground := Ground.phase }, { on := 12, ground := Ground.phase }, { on := 13, ground := Ground.phase }, { on := 14, ground := Ground.phase }], guard := none }] true).wp Tryd.prog (onlyN K) { tmps := #[u0, u1, u2, u3, u4, u5, u6, .pointer (some ⟨tb, 0, none⟩), u8, u9, .pointer (some ⟨rb, 0, none⟩), u11, u12, u13, u14, u15, u16, u17, u18, u19, u20, u21, u22, u23, u24, u25, u26, u27, u28, u29, u30, u31, u32, u33, u34, u35, u36, u37], defers := ds } W := by
  have HH : Hid _ := h
  have KD := Kept.drew (fun j => j = tb) W
  have hmb : Hid (W.drew.heap[tb]? = some (.cells #[.string ⟨#[]⟩, .string ⟨#[]⟩, .string ⟨#[]⟩, .string ⟨#[]⟩, .int .i64 0, .string ⟨#[]⟩, .slice none 0 0, .slice none 0 0, .int .i64 0] 33 (0, 0))) := hmb0
  have hh : ∀ {V : World} {k : Nat} {v : Value}, Kept (fun j => j = tb) W V → W.cell? ⟨rb, k, none⟩ = some v → V.cell? ⟨rb, k, none⟩ = some v := fun {V k v} KV hc => by
    rw [World.cell?_of_block (w := W) (KV.block _ (World.block_lt_of_cell? W _ hc) hne)]
    exact hc
  have HS : Hid (∀ V, Kept (fun j => j = tb) W.drew V → V.cell? ⟨rb, 2, none⟩ = some (.string s0) ∧ V.cell? ⟨rb, 3, none⟩ = some (.string s1) ∧ V.cell? ⟨rb, 4, none⟩ = some (.string s2) ∧ V.cell? ⟨rb, 5, none⟩ = some (.string s3) ∧ V.cell? ⟨rb, 6, none⟩ = some (.int .i64 s4) ∧ V.cell? ⟨rb, 7, none⟩ = some (.string s5) ∧ V.cell? ⟨rb, 8, none⟩ = some (.slice a6 n6 c6) ∧ V.cell? ⟨rb, 9, none⟩ = some (.slice a7 n7 c7) ∧ V.cell? ⟨rb, 10, none⟩ = some (.int .i64 s8) ∧ V.cell? ⟨rb, 12, none⟩ = some (p12) ∧ V.cell? ⟨rb, 13, none⟩ = some (p13)) := fun V KV => ⟨hh (KD.and KV) x0, hh (KD.and KV) x1, hh (KD.and KV) x2, hh (KD.and KV) x3, hh (KD.and KV) x4, hh (KD.and KV) x5, hh (KD.and KV) x6, hh (KD.and KV) x7, hh (KD.and KV) x8, hh (KD.and KV) x9, hh (KD.and KV) x10⟩
  have HKD : Hid (Kept (fun j => j = tb) W W.drew) := KD
  have hS0 := HS.out W.drew (Kept.refl _ _)
  clear h KD hh hmb0 x0 x1 x2 x3 x4 x5 x6 x7 x8 x9 x10
  refine wp_region_held_drew (S := fun V => V.cell? ⟨rb, 2, none⟩ = some (.string s0) ∧ V.cell? ⟨rb, 3, none⟩ = some (.string s1) ∧ V.cell? ⟨rb, 4, none⟩ = some (.string s2) ∧ V.cell? ⟨rb, 5, none⟩ = some (.string s3) ∧ V.cell? ⟨rb, 6, none⟩ = some (.int .i64 s4) ∧ V.cell? ⟨rb, 7, none⟩ = some (.string s5) ∧ V.cell? ⟨rb, 8, none⟩ = some (.slice a6 n6 c6) ∧ V.cell? ⟨rb, 9, none⟩ = some (.slice a7 n7 c7) ∧ V.cell? ⟨rb, 10, none⟩ = some (.int .i64 s8) ∧ V.cell? ⟨rb, 12, none⟩ = some (p12) ∧ V.cell? ⟨rb, 13, none⟩ = some (p13)) (by kernel_rfl) hS0 (fun _ => ?_)
  generalize W.drew = V0 at *
  refine wpAnyH_take (i := 0) (oi := { dst := some 26, op := Op.move (Operand.tmp 10), type := 104, pos := "ref.go:383", after := #[], guard := none }) (v := ?vv1) rfl (by kernel_rfl) (by kernel_rfl) (by kernel_rfl) (fun _ _ _ h => h) (Or.inl ⟨by rfl, ?hy1⟩) hS0 ?rest1
  case hy1 =>
    intro V hV
    obtain ⟨y0, y1, y2, y3, y4, y5, y6, y7, y8, y9, y10⟩ := hV
    go_simp
    all_goals rfl
  simp only [Act.put, List.setIfInBounds_toArray, List.set_cons_zero, List.set_cons_succ]
  refine wpAnyH_take (i := 1) (oi := { dst := some 27, op := Op.nilCheck (Operand.tmp 26), type := 0, pos := "ref.go:383", after := #[{ on := 0, ground := Ground.data }], guard := none }) (v := ?vv2) rfl (by kernel_rfl) (by kernel_rfl) (by kernel_rfl) (fun _ _ _ h => h) (Or.inl ⟨by rfl, ?hy2⟩) hS0 ?rest2
  case hy2 =>
    intro V hV
    obtain ⟨y0, y1, y2, y3, y4, y5, y6, y7, y8, y9, y10⟩ := hV
    go_simp
    all_goals rfl
  simp only [Act.put, List.setIfInBounds_toArray, List.set_cons_zero, List.set_cons_succ]
  refine wpAnyH_take (i := 2) (oi := { dst := some 28, op := Op.fieldAddr 106 (Operand.tmp 27) 3, type := 0, pos := "ref.go:383", after := #[{ on := 1, ground := Ground.data }], guard := none }) (v := ?vv3) rfl (by kernel_rfl) (by kernel_rfl) (by kernel_rfl) (fun _ _ _ h => h) (Or.inl ⟨by rfl, ?hy3⟩) hS0 ?rest3
  case hy3 =>
    intro V hV
    obtain ⟨y0, y1, y2, y3, y4, y5, y6, y7, y8, y9, y10⟩ := hV
    go_simp
    all_goals rfl
  simp only [Act.put, List.setIfInBounds_toArray, List.set_cons_zero, List.set_cons_succ]
  refine wpAnyH_take (i := 3) (oi := { dst := some 29, op := Op.load 34 (Operand.tmp 28), type := 34, pos := "ref.go:383", after := #[{ on := 2, ground := Ground.data }], guard := none }) (v := ?vv4) rfl (by kernel_rfl) (by kernel_rfl) (by kernel_rfl) (fun _ _ _ h => h) (Or.inl ⟨by rfl, ?hy4⟩) hS0 ?rest4
  case hy4 =>
    intro V hV
    obtain ⟨y0, y1, y2, y3, y4, y5, y6, y7, y8, y9, y10⟩ := hV
    go_simp
    all_goals rfl
  simp only [Act.put, List.setIfInBounds_toArray, List.set_cons_zero, List.set_cons_succ]
  refine wpAnyH_take (i := 4) (oi := { dst := some 30, op := Op.move (Operand.tmp 10), type := 104, pos := "ref.go:383", after := #[{ on := 12, ground := Ground.gcOnly Departure.lateStores }], guard := none }) (v := ?vv5) rfl (by kernel_rfl) (by kernel_rfl) (by kernel_rfl) (fun _ _ _ h => h) (Or.inl ⟨by rfl, ?hy5⟩) hS0 ?rest5
  case hy5 =>
    intro V hV
    obtain ⟨y0, y1, y2, y3, y4, y5, y6, y7, y8, y9, y10⟩ := hV
    go_simp
    all_goals rfl
  simp only [Act.put, List.setIfInBounds_toArray, List.set_cons_zero, List.set_cons_succ]
  refine wpAnyH_take (i := 5) (oi := { dst := some 31, op := Op.nilCheck (Operand.tmp 30), type := 0, pos := "ref.go:383", after := #[{ on := 4, ground := Ground.data }, { on := 12, ground := Ground.gcOnly Departure.lateStores }], guard := none }) (v := ?vv6) rfl (by kernel_rfl) (by kernel_rfl) (by kernel_rfl) (fun _ _ _ h => h) (Or.inl ⟨by rfl, ?hy6⟩) hS0 ?rest6
  case hy6 =>
    intro V hV
    obtain ⟨y0, y1, y2, y3, y4, y5, y6, y7, y8, y9, y10⟩ := hV
    go_simp
    all_goals rfl
  simp only [Act.put, List.setIfInBounds_toArray, List.set_cons_zero, List.set_cons_succ]
  refine wpAnyH_take (i := 6) (oi := { dst := some 32, op := Op.fieldAddr 106 (Operand.tmp 31) 1, type := 0, pos := "ref.go:383", after := #[{ on := 5, ground := Ground.data }, { on := 12, ground := Ground.gcOnly Departure.lateStores }], guard := none }) (v := ?vv7) rfl (by kernel_rfl) (by kernel_rfl) (by kernel_rfl) (fun _ _ _ h => h) (Or.inl ⟨by rfl, ?hy7⟩) hS0 ?rest7
  case hy7 =>
    intro V hV
    obtain ⟨y0, y1, y2, y3, y4, y5, y6, y7, y8, y9, y10⟩ := hV
    go_simp
    all_goals rfl
  simp only [Act.put, List.setIfInBounds_toArray, List.set_cons_zero, List.set_cons_succ]
  refine wpAnyH_take (i := 7) (oi := { dst := some 33, op := Op.load 33 (Operand.tmp 32), type := 33, pos := "ref.go:383", after := #[{ on := 6, ground := Ground.data }, { on := 12, ground := Ground.gcOnly Departure.lateStores }], guard := none }) (v := ?vv8) rfl (by kernel_rfl) (by kernel_rfl) (by kernel_rfl) (fun _ _ _ h => h) (Or.inl ⟨by rfl, ?hy8⟩) hS0 ?rest8
  case hy8 =>
    intro V hV
    obtain ⟨y0, y1, y2, y3, y4, y5, y6, y7, y8, y9, y10⟩ := hV
    go_simp
    all_goals rfl
  simp only [Act.put, List.setIfInBounds_toArray, List.set_cons_zero, List.set_cons_succ]
  refine wpAnyH_take (i := 8) (oi := { dst := some 34, op := Op.move (Operand.tmp 10), type := 104, pos := "ref.go:383", after := #[{ on := 13, ground := Ground.gcOnly Departure.lateStores }], guard := none }) (v := ?vv9) rfl (by kernel_rfl) (by kernel_rfl) (by kernel_rfl) (fun _ _ _ h => h) (Or.inl ⟨by rfl, ?hy9⟩) hS0 ?rest9
  case hy9 =>
    intro V hV
    obtain ⟨y0, y1, y2, y3, y4, y5, y6, y7, y8, y9, y10⟩ := hV
    go_simp
    all_goals rfl
  simp only [Act.put, List.setIfInBounds_toArray, List.set_cons_zero, List.set_cons_succ]
  refine wpAnyH_take (i := 9) (oi := { dst := some 35, op := Op.nilCheck (Operand.tmp 34), type := 0, pos := "ref.go:383", after := #[{ on := 8, ground := Ground.data }, { on := 13, ground := Ground.gcOnly Departure.lateStores }], guard := none }) (v := ?vv10) rfl (by kernel_rfl) (by kernel_rfl) (by kernel_rfl) (fun _ _ _ h => h) (Or.inl ⟨by rfl, ?hy10⟩) hS0 ?rest10
  case hy10 =>
    intro V hV
    obtain ⟨y0, y1, y2, y3, y4, y5, y6, y7, y8, y9, y10⟩ := hV
    go_simp
    all_goals rfl
  simp only [Act.put, List.setIfInBounds_toArray, List.set_cons_zero, List.set_cons_succ]
  refine wpAnyH_take (i := 10) (oi := { dst := some 36, op := Op.fieldAddr 106 (Operand.tmp 35) 4, type := 0, pos := "ref.go:383", after := #[{ on := 9, ground := Ground.data }, { on := 13, ground := Ground.gcOnly Departure.lateStores }], guard := none }) (v := ?vv11) rfl (by kernel_rfl) (by kernel_rfl) (by kernel_rfl) (fun _ _ _ h => h) (Or.inl ⟨by rfl, ?hy11⟩) hS0 ?rest11
  case hy11 =>
    intro V hV
    obtain ⟨y0, y1, y2, y3, y4, y5, y6, y7, y8, y9, y10⟩ := hV
    go_simp
    all_goals rfl
  simp only [Act.put, List.setIfInBounds_toArray, List.set_cons_zero, List.set_cons_succ]
  refine wpAnyH_take (i := 11) (oi := { dst := some 37, op := Op.load 56 (Operand.tmp 36), type := 56, pos := "ref.go:383", after := #[{ on := 10, ground := Ground.data }, { on := 13, ground := Ground.gcOnly Departure.lateStores }], guard := none }) (v := ?vv12) rfl (by kernel_rfl) (by kernel_rfl) (by kernel_rfl) (fun _ _ _ h => h) (Or.inl ⟨by rfl, ?hy12⟩) hS0 ?rest12
  case hy12 =>
    intro V hV
    obtain ⟨y0, y1, y2, y3, y4, y5, y6, y7, y8, y9, y10⟩ := hV
    go_simp
    all_goals rfl
  simp only [Act.put, List.setIfInBounds_toArray, List.set_cons_zero, List.set_cons_succ]
  refine wpAnyH_take (i := 12) (oi := { dst := some 6, op := Op.assign (Operand.tmp 29), type := 34, pos := "ref.go:383", after := #[{ on := 3, ground := Ground.data }, { on := 0, ground := Ground.phase }, { on := 1, ground := Ground.phase }, { on := 2, ground := Ground.phase }, { on := 3, ground := Ground.phase }, { on := 4, ground := Ground.textOnly Departure.lateStores }, { on := 5, ground := Ground.textOnly Departure.lateStores }, { on := 6, ground := Ground.textOnly Departure.lateStores }, { on := 7, ground := Ground.textOnly Departure.lateStores }, { on := 8, ground := Ground.textOnly Departure.lateStores }, { on := 9, ground := Ground.textOnly Departure.lateStores }, { on := 10, ground := Ground.textOnly Departure.lateStores }, { on := 11, ground := Ground.textOnly Departure.lateStores }], guard := none }) (v := ?vv13) rfl (by kernel_rfl) (by kernel_rfl) (by kernel_rfl) (fun _ _ _ h => h) (Or.inl ⟨by rfl, ?hy13⟩) hS0 ?rest13
  case hy13 =>
    intro V hV
    obtain ⟨y0, y1, y2, y3, y4, y5, y6, y7, y8, y9, y10⟩ := hV
    go_simp
    all_goals rfl
  simp only [Act.put, List.setIfInBounds_toArray, List.set_cons_zero, List.set_cons_succ]
  refine wpAnyH_ready (rs := [13]) (by kernel_rfl) (by simp) (AllReadyH.cons (o := { dst := none, op := Op.store 33 (Operand.tmp 7) (Operand.tmp 33), type := 0, pos := "ref.go:383", after := #[{ on := 7, ground := Ground.data }, { on := 12, ground := Ground.chain }, { on := 0, ground := Ground.phase }, { on := 1, ground := Ground.phase }, { on := 2, ground := Ground.phase }, { on := 3, ground := Ground.phase }, { on := 4, ground := Ground.phase }, { on := 5, ground := Ground.phase }, { on := 6, ground := Ground.phase }, { on := 7, ground := Ground.phase }, { on := 8, ground := Ground.textOnly Departure.lateStores }, { on := 9, ground := Ground.textOnly Departure.lateStores }, { on := 10, ground := Ground.textOnly Departure.lateStores }, { on := 11, ground := Ground.textOnly Departure.lateStores }, { on := 12, ground := Ground.phase }], guard := none }) rfl (fun K' hK => ?_) AllReadyH.nil)
  obtain ⟨⟨p0, p1, p2, p3, p4, p5, p6, p7, p8⟩, f0, f1, f2, f3, f4, f5, f6, f7, f8⟩ := nine hmb.out
  have HM := hid (put9 hmb.out (.string s0) (.string s1) (.string s2) (.string s3) (.int .i64 s4) (.string s5) (.slice a6 n6 c6) (.slice a7 n7 c7) (.int .i64 s8))
  have KS := kept9 (S := fun j => j = tb) V0 rfl (.string s0) (.string s1) (.string s2) (.string s3) (.int .i64 s4) (.string s5) (.slice a6 n6 c6) (.slice a7 n7 c7) (.int .i64 s8)
  go_simp
  refine hK.out _ _ (HS.out _ KS) (fun _ => ?_)
  have HKF := hid (HKD.out.and KS)
  clear p0 p1 p2 p3 p4 p5 p6 p7 p8 f0 f1 f2 f3 f4 f5 f6 f7 f8
  clear hK K'
  try (simp only [Act.put, List.setIfInBounds_toArray, List.set_cons_zero, List.set_cons_succ])
  refine wpAnyH_take (i := 14) (oi := { dst := some 8, op := Op.assign (Operand.tmp 37), type := 56, pos := "ref.go:383", after := #[{ on := 11, ground := Ground.data }, { on := 13, ground := Ground.chain }, { on := 0, ground := Ground.phase }, { on := 1, ground := Ground.phase }, { on := 2, ground := Ground.phase }, { on := 3, ground := Ground.phase }, { on := 4, ground := Ground.phase }, { on := 5, ground := Ground.phase }, { on := 6, ground := Ground.phase }, { on := 7, ground := Ground.phase }, { on := 8, ground := Ground.phase }, { on := 9, ground := Ground.phase }, { on := 10, ground := Ground.phase }, { on := 11, ground := Ground.phase }, { on := 12, ground := Ground.phase }, { on := 13, ground := Ground.phase }], guard := none }) (v := ?vv14) rfl (by kernel_rfl) (by kernel_rfl) (by kernel_rfl) (fun _ _ _ h => h) (Or.inl ⟨by rfl, ?hy14⟩) (HS.out _ KS) ?rest14
  case hy14 =>
    intro V hV
    obtain ⟨y0, y1, y2, y3, y4, y5, y6, y7, y8, y9, y10⟩ := hV
    go_simp
    all_goals rfl
  simp only [Act.put, List.setIfInBounds_toArray, List.set_cons_zero, List.set_cons_succ]
  refine wpAnyH_take (i := 15) (oi := { dst := some 9, op := Op.assign (Operand.const (Value.int IntKind.i64 0)), type := 42, pos := "ref.go:383", after := #[{ on := 14, ground := Ground.chain }, { on := 0, ground := Ground.phase }, { on := 1, ground := Ground.phase }, { on := 2, ground := Ground.phase }, { on := 3, ground := Ground.phase }, { on := 4, ground := Ground.phase }, { on := 5, ground := Ground.phase }, { on := 6, ground := Ground.phase }, { on := 7, ground := Ground.phase }, { on := 8, ground := Ground.phase }, { on := 9, ground := Ground.phase }, { on := 10, ground := Ground.phase }, { on := 11, ground := Ground.phase }, { on := 12, ground := Ground.phase }, { on := 13, ground := Ground.phase }, { on := 14, ground := Ground.phase }], guard := none }) (v := ?vv15) rfl (by kernel_rfl) (by kernel_rfl) (by kernel_rfl) (fun _ _ _ h => h) (Or.inl ⟨by rfl, ?hy15⟩) (HS.out _ KS) ?rest15
  case hy15 =>
    intro V hV
    obtain ⟨y0, y1, y2, y3, y4, y5, y6, y7, y8, y9, y10⟩ := hV
    go_simp
    all_goals rfl
  simp only [Act.put, List.setIfInBounds_toArray, List.set_cons_zero, List.set_cons_succ]
  refine wpAnyH_done (by kernel_rfl) ?_ _
  exact HH.out _ _ _ _ _ _ _ _ _ _ _ _ _ HM.out HKF.out

end Go.Proofs.YtfjekjbkifmpfaaDoor.Rf

/-
  The document's node: a node by its name and kind.
-/
namespace Go.Proofs.YtfjekjbkifmpfaaDoor.Rf
open Go.RowKit

/-- A node, how it stands, as values. -/
def ndV (x : Nd) (v : Value) : Value := .agg #[.string x.name, .int .i64 x.kind, .string x.arg, .string x.«to», .int .i64 x.delay, .int .i64 x.tries, v]
def nsV (y : Ns) : Value := .agg #[.int .i64 y.status, .int .i64 y.tr, .string y.text]

/-- What node answers. -/
def NodePost (ns : List Nd) (s : St) (o : Option Nat) (e : Ending) : Prop := match o with
  | none => e = .returned (.tuple #[.agg #[.string ⟨#[]⟩, .int .i64 0, .string ⟨#[]⟩, .string ⟨#[]⟩, .int .i64 0, .int .i64 0, .slice none 0 0], .agg #[.int .i64 0, .int .i64 0, .string ⟨#[]⟩], .bool false])
  | some i => ∃ (h1 : i < ns.length) (h2 : i < s.nodes.length) (av : Option Addr) (cv : Nat), e = .returned (.tuple #[ndV ns[i] (.slice av (ns[i]).after.length cv), nsV s.nodes[i], .bool true])

set_option maxRecDepth 100000 in
set_option maxHeartbeats 8000000 in
theorem node_any {w0 w : World} {H : Nat → Prop} {rb : Nat} {nm : ByteArray} {a : Option Addr} {c : Nat} {ns : List Nd} {r : Rn} (E : Env w0 w H a ns) (R : RAt w H rb nm a ns.length c r) (x : ByteArray) (kd : Int) :
    Calls Tryd.prog 85 #[.pointer (some ⟨rb, 0, none⟩), .string x, .int .i64 kd] w fun e w' => NodePost ns r.st (findK ns r.st x [kd]) e ∧ Kept (fun _ => False) w w' := by
  obtain ⟨v6, v7, v12, v13, hb, hn6, _, hHr, _, htop⟩ := R.opened
  obtain ⟨va6, vc6, rfl⟩ := ownsRow_shape hn6
  have hrb := htop _ hHr
  have hg6 : ∀ g, (Value.slice va6 r.st.nodes.length vc6).ownBlock = some g → g < w.heap.size := fun g hg => ownsRow_blk hn6 hg
  have K0 : Kept (fun _ => False) w ((w.alloc (.cells #[.string ⟨#[]⟩, .int .i64 0, .string ⟨#[]⟩, .string ⟨#[]⟩, .int .i64 0, .int .i64 0, .slice none 0 0] 64)).alloc (.cells #[.int .i64 0, .int .i64 0, .string ⟨#[]⟩] 61)) := (Kept.alloc _ _ _).and (Kept.alloc _ _ _)
  have hA : ((w.alloc (.cells #[.string ⟨#[]⟩, .int .i64 0, .string ⟨#[]⟩, .string ⟨#[]⟩, .int .i64 0, .int .i64 0, .slice none 0 0] 64)).alloc (.cells #[.int .i64 0, .int .i64 0, .string ⟨#[]⟩] 61)).heap[w.heap.size]? = some (.cells #[.string ⟨#[]⟩, .int .i64 0, .string ⟨#[]⟩, .string ⟨#[]⟩, .int .i64 0, .int .i64 0, .slice none 0 0] 64 (0, 0)) := ((Kept.alloc (fun _ => False) (w.alloc (.cells #[.string ⟨#[]⟩, .int .i64 0, .string ⟨#[]⟩, .string ⟨#[]⟩, .int .i64 0, .int .i64 0, .slice none 0 0] 64)) (.cells #[.int .i64 0, .int .i64 0, .string ⟨#[]⟩] 61)).block w.heap.size (by simp) (fun h => h)).trans (heap_alloc_new w (.cells #[.string ⟨#[]⟩, .int .i64 0, .string ⟨#[]⟩, .string ⟨#[]⟩, .int .i64 0, .int .i64 0, .slice none 0 0] 64))
  have hB : ((w.alloc (.cells #[.string ⟨#[]⟩, .int .i64 0, .string ⟨#[]⟩, .string ⟨#[]⟩, .int .i64 0, .int .i64 0, .slice none 0 0] 64)).alloc (.cells #[.int .i64 0, .int .i64 0, .string ⟨#[]⟩] 61)).heap[w.heap.size + 1]? = some (.cells #[.int .i64 0, .int .i64 0, .string ⟨#[]⟩] 61 (0, 0)) := by
    have h := heap_alloc_new (w.alloc (.cells #[.string ⟨#[]⟩, .int .i64 0, .string ⟨#[]⟩, .string ⟨#[]⟩, .int .i64 0, .int .i64 0, .slice none 0 0] 64)) (.cells #[.int .i64 0, .int .i64 0, .string ⟨#[]⟩] 61)
    rwa [World.size_alloc] at h
  have hFd := refFind_any ((w.alloc (.cells #[.string ⟨#[]⟩, .int .i64 0, .string ⟨#[]⟩, .string ⟨#[]⟩, .int .i64 0, .int .i64 0, .slice none 0 0] 64)).alloc (.cells #[.int .i64 0, .int .i64 0, .string ⟨#[]⟩] 61)) nm a ns.length c ns (keptNew K0 E.here.1) rfl (by have := E.few; omega) x
  obtain ⟨x0, x1, _⟩ := runCells ((K0.block rb hrb (fun h => h)).trans hb)
  have HB := hid hb
  have HN6 := hid hn6
  have HN := hid E.here.1
  have HA := hid hA
  have HBB := hid hB
  have HK0 := hid K0
  have HL : Hid (∀ b o, a = some ⟨b, o, none⟩ → b < w.heap.size) := fun b o h => Nat.lt_of_lt_of_le (E.low b o h) E.keep.size
  clear hb hn6 hHr htop E R K0 hA hB
  obtain ⟨fp, hfp⟩ : ∃ fp, fp = findP ns x := ⟨_, rfl⟩
  have HP := hid hfp
  rw [← hfp] at hFd
  clear hfp
  go_enter Tryd.func85, Tryd.ntmps85
  go_upto_region 2 with (first
    | (go_at_call 23; refine hFd.mono ?_; rintro e w2 ⟨rfl, K2⟩; clear hFd)
    | fail)
  have HA2 := hid ((K2.block _ (Array.getElem?_eq_some_iff.1 HA.out).1 (fun h => h)).trans HA.out)
  have HB2 := hid ((K2.block _ (Array.getElem?_eq_some_iff.1 HBB.out).1 (fun h => h)).trans HBB.out)
  have HKw2 := hid (HK0.out.and K2)
  clear K2 HA HBB x0 x1
  cases fp with
  | none =>
    have HK : Hid (findK ns r.st x [kd] = none) := by
      show _ = _
      unfold findK
      rw [← HP.out]
    simp only [Option.isSome_none, Option.getD_none]
    have E7 := cells7put HA2.out (.string ⟨#[]⟩) (.int .i64 0) (.string ⟨#[]⟩) (.string ⟨#[]⟩) (.int .i64 0) (.int .i64 0) (.slice none 0 0)
    have K7 := cells7kept (S := fun j => j = w.heap.size ∨ j = w.heap.size + 1) w2 (.inl rfl) (.string ⟨#[]⟩) (.int .i64 0) (.string ⟨#[]⟩) (.string ⟨#[]⟩) (.int .i64 0) (.int .i64 0) (.slice none 0 0)
    have HB3 := (cells7kept (S := fun j => j = w.heap.size) w2 rfl (.string ⟨#[]⟩) (.int .i64 0) (.string ⟨#[]⟩) (.string ⟨#[]⟩) (.int .i64 0) (.int .i64 0) (.slice none 0 0)).block _ (Array.getElem?_eq_some_iff.1 HB2.out).1 (by omega)
    have E3 := cells3put (HB3.trans HB2.out) (.int .i64 0) (.int .i64 0) (.string ⟨#[]⟩)
    have K3 := cells3kept (S := fun j => j = w.heap.size ∨ j = w.heap.size + 1) ((((((((w2).setCell ⟨w.heap.size, 0, none⟩ (.string ⟨#[]⟩)).setCell ⟨w.heap.size, 1, none⟩ (.int .i64 0)).setCell ⟨w.heap.size, 2, none⟩ (.string ⟨#[]⟩)).setCell ⟨w.heap.size, 3, none⟩ (.string ⟨#[]⟩)).setCell ⟨w.heap.size, 4, none⟩ (.int .i64 0)).setCell ⟨w.heap.size, 5, none⟩ (.int .i64 0)).setCell ⟨w.heap.size, 6, none⟩ (.slice none 0 0)) (.inr rfl) (.int .i64 0) (.int .i64 0) (.string ⟨#[]⟩)
    have E7' := ((cells3kept (S := fun j => j = w.heap.size + 1) ((((((((w2).setCell ⟨w.heap.size, 0, none⟩ (.string ⟨#[]⟩)).setCell ⟨w.heap.size, 1, none⟩ (.int .i64 0)).setCell ⟨w.heap.size, 2, none⟩ (.string ⟨#[]⟩)).setCell ⟨w.heap.size, 3, none⟩ (.string ⟨#[]⟩)).setCell ⟨w.heap.size, 4, none⟩ (.int .i64 0)).setCell ⟨w.heap.size, 5, none⟩ (.int .i64 0)).setCell ⟨w.heap.size, 6, none⟩ (.slice none 0 0)) rfl (.int .i64 0) (.int .i64 0) (.string ⟨#[]⟩)).block _ (Array.getElem?_eq_some_iff.1 E7).1 (by omega)).trans E7
    obtain ⟨⟨k0, k1, k2, k3, k4, k5, k6⟩, _⟩ := cells7F E7'
    obtain ⟨⟨l0, l1, l2⟩, _⟩ := cells3F E3
    have HKK := hid (HKw2.out.trans (K7.and K3) (fun i hi => .inr (by omega)))
    obtain ⟨⟨a0, a1, a2, a3, a4, a5, a6⟩, f0, f1, f2, f3, f4, f5, f6⟩ := cells7F HA2.out
    obtain ⟨⟨b0, b1, b2⟩, g0, g1, g2⟩ := cells3F HB2.out
    clear E7 K7 HB3 E3 K3 E7'
    go_wp2_with fail
    refine bodyPost_ret (v := .tuple #[.agg #[.string ⟨#[]⟩, .int .i64 0, .string ⟨#[]⟩, .string ⟨#[]⟩, .int .i64 0, .int .i64 0, .slice none 0 0], .agg #[.int .i64 0, .int .i64 0, .string ⟨#[]⟩], .bool false]) (by simp [results, Tryd.results85, go_sem, k0, k1, k2, k3, k4, k5, k6, l0, l1, l2]; try rfl) rfl ?_
    refine ⟨?_, HKK.out⟩
    rw [HK.out]
    rfl
  | some i =>
    have hi := findP_lt HP.out.symm
    obtain ⟨b, o, av, cv, hae, hT, c0, c1, c2, c3, c4, c5, c6⟩ := (keptNew HKw2.out HN.out).at hi
    subst hae
    obtain ⟨x0, x1, _, _, _, _, _, _, x8, _⟩ := runCells ((HKw2.out.block rb hrb (fun h => h)).trans HB.out)
    have e1 : (i : Int) < (ns.length : Int) := by omega
    simp only [Option.isSome_some, Option.getD_some]
    have hkd : findK ns r.st x [kd] = if i < r.st.nodes.length ∧ (ns[i]).kind = kd then some i else none := by
      unfold findK
      rw [← HP.out]
      dsimp only
      rw [List.getElem?_eq_getElem hi]
      dsimp only
      by_cases h : i < r.st.nodes.length ∧ (ns[i]).kind = kd
      · rw [if_pos h, if_pos ⟨h.1, by simp [h.2]⟩]
      · rw [if_neg h, if_neg (fun hh => h ⟨hh.1, by simpa using hh.2⟩)]
    by_cases hk : (ns[i]).kind = kd
    · have e2 : ((ns[i]).kind != kd) = false := by rw [bne_eq_false_iff_eq]; exact hk
      by_cases hl : i < r.st.nodes.length
      · have HK : Hid (findK ns r.st x [kd] = some i) := hkd.trans (if_pos ⟨hl, hk⟩)
        have hn7 := ownsRow_keep HN6.out (fun g hg => HKw2.out.block g (ownsRow_blk HN6.out hg) (fun h => h))
        obtain ⟨g6, cg, hv, _, _, hrow⟩ := row_at hn7 (by omega)
        obtain ⟨rfl, rfl⟩ : va6 = some ⟨g6, 0, none⟩ ∧ vc6 = cg := by simpa using hv
        obtain ⟨n0, n1, n2⟩ := nsF_get hl
        have q0 := (hrow _ _ n0).1
        have q1 := (hrow _ _ n1).1
        have q2 := (hrow _ _ n2).1
        have e3 : ¬ (r.st.nodes.length : Int) ≤ (i : Int) := by omega
        have hgw := hg6 g6 rfl
        have hbw := HL.out b o rfl
        clear hkd hk hn7 hrow hv hT n0 n1 n2
        go_upto_region 4 with fail
        refine wp_onlyN (nd4 _ x1 x8 c0 c1 c2 c3 c4 c5 c6 q0 q1 q2 hi hl HA2.out HB2.out (by omega) (by omega) (by omega) (by omega) ?_)
        intro _ _ _ _ _ _ _ _ _ _ _ _ _ _ _ _ w5 h7 h3 K5
        obtain ⟨⟨k0, k1, k2, k3, k4, k5, k6⟩, _⟩ := cells7F h7
        obtain ⟨⟨l0, l1, l2⟩, _⟩ := cells3F h3
        have HKK := hid (HKw2.out.trans K5 (fun i hi => .inr (by omega)))
        clear x0 x1 x8 c0 c1 c2 c3 c4 c5 c6 q0 q1 q2 h7 h3 K5 e1 e2 e3
        go_wp2_with fail
        refine bodyPost_ret (v := .tuple #[ndV ns[i] (.slice av (ns[i]).after.length cv), nsV r.st.nodes[i], .bool true]) (by simp [results, Tryd.results85, go_sem, k0, k1, k2, k3, k4, k5, k6, l0, l1, l2, ndV, nsV]; try rfl) rfl ?_
        refine ⟨?_, HKK.out⟩
        rw [HK.out]
        exact ⟨hi, hl, av, cv, rfl⟩
      · have HK : Hid (findK ns r.st x [kd] = none) := hkd.trans (if_neg (fun h => hl h.1))
        have e3 : (r.st.nodes.length : Int) ≤ (i : Int) := by omega
        clear hkd hk hT
        have E7 := cells7put HA2.out (.string ⟨#[]⟩) (.int .i64 0) (.string ⟨#[]⟩) (.string ⟨#[]⟩) (.int .i64 0) (.int .i64 0) (.slice none 0 0)
        have K7 := cells7kept (S := fun j => j = w.heap.size ∨ j = w.heap.size + 1) w2 (.inl rfl) (.string ⟨#[]⟩) (.int .i64 0) (.string ⟨#[]⟩) (.string ⟨#[]⟩) (.int .i64 0) (.int .i64 0) (.slice none 0 0)
        have HB3 := (cells7kept (S := fun j => j = w.heap.size) w2 rfl (.string ⟨#[]⟩) (.int .i64 0) (.string ⟨#[]⟩) (.string ⟨#[]⟩) (.int .i64 0) (.int .i64 0) (.slice none 0 0)).block _ (Array.getElem?_eq_some_iff.1 HB2.out).1 (by omega)
        have E3 := cells3put (HB3.trans HB2.out) (.int .i64 0) (.int .i64 0) (.string ⟨#[]⟩)
        have K3 := cells3kept (S := fun j => j = w.heap.size ∨ j = w.heap.size + 1) ((((((((w2).setCell ⟨w.heap.size, 0, none⟩ (.string ⟨#[]⟩)).setCell ⟨w.heap.size, 1, none⟩ (.int .i64 0)).setCell ⟨w.heap.size, 2, none⟩ (.string ⟨#[]⟩)).setCell ⟨w.heap.size, 3, none⟩ (.string ⟨#[]⟩)).setCell ⟨w.heap.size, 4, none⟩ (.int .i64 0)).setCell ⟨w.heap.size, 5, none⟩ (.int .i64 0)).setCell ⟨w.heap.size, 6, none⟩ (.slice none 0 0)) (.inr rfl) (.int .i64 0) (.int .i64 0) (.string ⟨#[]⟩)
        have E7' := ((cells3kept (S := fun j => j = w.heap.size + 1) ((((((((w2).setCell ⟨w.heap.size, 0, none⟩ (.string ⟨#[]⟩)).setCell ⟨w.heap.size, 1, none⟩ (.int .i64 0)).setCell ⟨w.heap.size, 2, none⟩ (.string ⟨#[]⟩)).setCell ⟨w.heap.size, 3, none⟩ (.string ⟨#[]⟩)).setCell ⟨w.heap.size, 4, none⟩ (.int .i64 0)).setCell ⟨w.heap.size, 5, none⟩ (.int .i64 0)).setCell ⟨w.heap.size, 6, none⟩ (.slice none 0 0)) rfl (.int .i64 0) (.int .i64 0) (.string ⟨#[]⟩)).block _ (Array.getElem?_eq_some_iff.1 E7).1 (by omega)).trans E7
        obtain ⟨⟨k0, k1, k2, k3, k4, k5, k6⟩, _⟩ := cells7F E7'
        obtain ⟨⟨l0, l1, l2⟩, _⟩ := cells3F E3
        have HKK := hid (HKw2.out.trans (K7.and K3) (fun i hi => .inr (by omega)))
        obtain ⟨⟨a0, a1, a2, a3, a4, a5, a6⟩, f0, f1, f2, f3, f4, f5, f6⟩ := cells7F HA2.out
        obtain ⟨⟨b0, b1, b2⟩, g0, g1, g2⟩ := cells3F HB2.out
        clear E7 K7 HB3 E3 K3 E7'
        go_wp2_with fail
        refine bodyPost_ret (v := .tuple #[.agg #[.string ⟨#[]⟩, .int .i64 0, .string ⟨#[]⟩, .string ⟨#[]⟩, .int .i64 0, .int .i64 0, .slice none 0 0], .agg #[.int .i64 0, .int .i64 0, .string ⟨#[]⟩], .bool false]) (by simp [results, Tryd.results85, go_sem, k0, k1, k2, k3, k4, k5, k6, l0, l1, l2]; try rfl) rfl ?_
        refine ⟨?_, HKK.out⟩
        rw [HK.out]
        rfl
    · have e2 : ((ns[i]).kind != kd) = true := by rw [bne_iff_ne]; exact hk
      have HK : Hid (findK ns r.st x [kd] = none) := hkd.trans (if_neg (fun h => hk h.2))
      clear hkd hk hT
      have E7 := cells7put HA2.out (.string ⟨#[]⟩) (.int .i64 0) (.string ⟨#[]⟩) (.string ⟨#[]⟩) (.int .i64 0) (.int .i64 0) (.slice none 0 0)
      have K7 := cells7kept (S := fun j => j = w.heap.size ∨ j = w.heap.size + 1) w2 (.inl rfl) (.string ⟨#[]⟩) (.int .i64 0) (.string ⟨#[]⟩) (.string ⟨#[]⟩) (.int .i64 0) (.int .i64 0) (.slice none 0 0)
      have HB3 := (cells7kept (S := fun j => j = w.heap.size) w2 rfl (.string ⟨#[]⟩) (.int .i64 0) (.string ⟨#[]⟩) (.string ⟨#[]⟩) (.int .i64 0) (.int .i64 0) (.slice none 0 0)).block _ (Array.getElem?_eq_some_iff.1 HB2.out).1 (by omega)
      have E3 := cells3put (HB3.trans HB2.out) (.int .i64 0) (.int .i64 0) (.string ⟨#[]⟩)
      have K3 := cells3kept (S := fun j => j = w.heap.size ∨ j = w.heap.size + 1) ((((((((w2).setCell ⟨w.heap.size, 0, none⟩ (.string ⟨#[]⟩)).setCell ⟨w.heap.size, 1, none⟩ (.int .i64 0)).setCell ⟨w.heap.size, 2, none⟩ (.string ⟨#[]⟩)).setCell ⟨w.heap.size, 3, none⟩ (.string ⟨#[]⟩)).setCell ⟨w.heap.size, 4, none⟩ (.int .i64 0)).setCell ⟨w.heap.size, 5, none⟩ (.int .i64 0)).setCell ⟨w.heap.size, 6, none⟩ (.slice none 0 0)) (.inr rfl) (.int .i64 0) (.int .i64 0) (.string ⟨#[]⟩)
      have E7' := ((cells3kept (S := fun j => j = w.heap.size + 1) ((((((((w2).setCell ⟨w.heap.size, 0, none⟩ (.string ⟨#[]⟩)).setCell ⟨w.heap.size, 1, none⟩ (.int .i64 0)).setCell ⟨w.heap.size, 2, none⟩ (.string ⟨#[]⟩)).setCell ⟨w.heap.size, 3, none⟩ (.string ⟨#[]⟩)).setCell ⟨w.heap.size, 4, none⟩ (.int .i64 0)).setCell ⟨w.heap.size, 5, none⟩ (.int .i64 0)).setCell ⟨w.heap.size, 6, none⟩ (.slice none 0 0)) rfl (.int .i64 0) (.int .i64 0) (.string ⟨#[]⟩)).block _ (Array.getElem?_eq_some_iff.1 E7).1 (by omega)).trans E7
      obtain ⟨⟨k0, k1, k2, k3, k4, k5, k6⟩, _⟩ := cells7F E7'
      obtain ⟨⟨l0, l1, l2⟩, _⟩ := cells3F E3
      have HKK := hid (HKw2.out.trans (K7.and K3) (fun i hi => .inr (by omega)))
      obtain ⟨⟨a0, a1, a2, a3, a4, a5, a6⟩, f0, f1, f2, f3, f4, f5, f6⟩ := cells7F HA2.out
      obtain ⟨⟨b0, b1, b2⟩, g0, g1, g2⟩ := cells3F HB2.out
      clear E7 K7 HB3 E3 K3 E7'
      go_wp2_with fail
      refine bodyPost_ret (v := .tuple #[.agg #[.string ⟨#[]⟩, .int .i64 0, .string ⟨#[]⟩, .string ⟨#[]⟩, .int .i64 0, .int .i64 0, .slice none 0 0], .agg #[.int .i64 0, .int .i64 0, .string ⟨#[]⟩], .bool false]) (by simp [results, Tryd.results85, go_sem, k0, k1, k2, k3, k4, k5, k6, l0, l1, l2]; try rfl) rfl ?_
      refine ⟨?_, HKK.out⟩
      rw [HK.out]
      rfl

end Go.Proofs.YtfjekjbkifmpfaaDoor.Rf

/-
  Step: what an input makes of a workflow.
-/
namespace Go.Proofs.YtfjekjbkifmpfaaDoor
open Go.RowKit

theorem pairC {w : World} {b : Nat} {T : TypeId} {u0 u1 : Value} (h : w.heap[b]? = some (.cells #[u0, u1] T (0, 0))) : w.cell? ⟨b, 0, none⟩ = some u0 ∧ w.cell? ⟨b, 1, none⟩ = some u1 := by
  simp [World.cell?, h]

def zeroSt : St := ⟨⟨#[]⟩, ⟨#[]⟩, ⟨#[]⟩, ⟨#[]⟩, 0, ⟨#[]⟩, [], [], 0⟩

/-- What Step answers: nothing, where it refuses. -/
def ansP (p : Rn × Int) : Rn := if p.2 = 0 then p.1 else ⟨zeroSt, 0, [], []⟩

/-- Events, a state and tasks that are one's own. -/
structure AnsAt (w' : World) (B : Nat) (r : Rn) (ve u6 u7 vt : Value) : Prop where
  evs : w'.ownsRow B 51 4 ve r.evs.length (evF r.evs)
  nodes : w'.ownsRow B 61 3 u6 r.st.nodes.length (nsF r.st.nodes)
  sigs : w'.ownsRow B 88 2 u7 r.st.sigs.length (sgF r.st.sigs)
  tks : w'.ownsRow B 78 13 vt r.tks.length (tkF r.tks)

def StepPost (w : World) (p : Rn × Int) (e : Ending) (w' : World) : Prop := ∃ ve u6 u7 vt, e = .returned (.tuple #[ve, .agg (stA (ansP p).st u6 u7), vt, .int .i64 p.2]) ∧ AnsAt w' w.heap.size (ansP p) ve u6 u7 vt ∧ Kept (fun _ => False) w w'

theorem ownsRow_high {w : World} {B B' T sz n : Nat} {v : Value} {xs : List Value} (h : w.ownsRow B T sz v n xs) (hb : ∀ g, v.ownBlock = some g → B' ≤ g) : w.ownsRow B' T sz v n xs := by
  refine ⟨h.1, ?_⟩
  rcases h.2 with h0 | ⟨g, cap, cur, rfl, _, rest⟩
  · exact .inl h0
  · exact .inr ⟨g, cap, cur, rfl, hb g rfl, rest⟩

theorem eleven {w : World} {b : Nat} {T : TypeId} {u0 u1 u2 u3 u4 u5 u6 u7 u8 u9 u10 u11 u12 u13 : Value} (h : w.heap[b]? = some (.cells #[u0, u1, u2, u3, u4, u5, u6, u7, u8, u9, u10, u11, u12, u13] T (0, 0))) :
    w.cell? ⟨b, 2, none⟩ = some u2 ∧ w.cell? ⟨b, 3, none⟩ = some u3 ∧ w.cell? ⟨b, 4, none⟩ = some u4 ∧ w.cell? ⟨b, 5, none⟩ = some u5 ∧ w.cell? ⟨b, 6, none⟩ = some u6 ∧ w.cell? ⟨b, 7, none⟩ = some u7 ∧ w.cell? ⟨b, 8, none⟩ = some u8 ∧ w.cell? ⟨b, 9, none⟩ = some u9 ∧ w.cell? ⟨b, 10, none⟩ = some u10 ∧ w.cell? ⟨b, 12, none⟩ = some u12 ∧ w.cell? ⟨b, 13, none⟩ = some u13 := by
  simp [World.cell?, h]

/-- How much a state that is handed in holds. -/
structure Small (s : St) : Prop where
  nodes : s.nodes.length ≤ 64
  sigs : s.sigs.length ≤ 100000
  ev0 : 0 ≤ s.events
  ev1 : s.events ≤ 100000
  idsz : s.id.size ≤ 100000000

/-- The run that Step makes. -/
theorem run_new {w5 : World} {B : Nat} {nm : ByteArray} {a : Option Addr} {n c : Nat} {s : St} {u6 u7 : Value} {now : Int} (O : StOwn w5 B s u6 u7) (hB : B ≤ w5.heap.size) :
    ∃ H : Nat → Prop, RAt (w5.alloc (.cells #[.string nm, .slice a n c, .string s.dfn, .string s.id, .string s.par, .string s.pnode, .int .i64 s.status, .string s.text, u6, u7, .int .i64 s.events, .int .i64 now, .slice none 0 0, .slice none 0 0] 96)) H w5.heap.size nm a n c ⟨s, now, [], []⟩ ∧ ∀ g, H g → B ≤ g := by
  have K := Kept.alloc (fun _ => False) w5 (.cells #[.string nm, .slice a n c, .string s.dfn, .string s.id, .string s.par, .string s.pnode, .int .i64 s.status, .string s.text, u6, u7, .int .i64 s.events, .int .i64 now, .slice none 0 0, .slice none 0 0] 96)
  have b6 : ∀ g, u6.ownBlock = some g → B ≤ g ∧ g < w5.heap.size := fun g hg => ⟨(O.nodes.lt g hg).1, ownsRow_blk O.nodes hg⟩
  have b7 : ∀ g, u7.ownBlock = some g → B ≤ g ∧ g < w5.heap.size := fun g hg => ⟨(O.sigs.lt g hg).1, ownsRow_blk O.sigs hg⟩
  refine ⟨fun g => g = w5.heap.size ∨ u6.ownBlock = some g ∨ u7.ownBlock = some g, ⟨fun g => g = w5.heap.size ∨ u6.ownBlock = some g ∨ u7.ownBlock = some g, fun _ => False, u6, u7, .slice none 0 0, .slice none 0 0, ⟨⟨heap_alloc_new _ _, rfl, ?_, ?_, .inl rfl, fun g hg => ⟨.inr (.inl hg), Nat.ne_of_lt (b6 g hg).2⟩, fun g hg => ⟨.inr (.inr hg), Nat.ne_of_lt (b7 g hg).2⟩, fun g hg => ?_⟩, World.ownsRow_nil _ _ _ _, World.ownsRow_nil _ _ _ _, (fun g hg => by cases hg), (fun g hg => by cases hg), (fun g hg => hg.elim), (fun g hg => hg.elim)⟩, fun g hg => hg.elim id (fun h => h.elim), fun g hg => ?_⟩, fun g hg => ?_⟩
  · exact ownsRow_low (ownsRow_keep O.nodes (fun g hg => K.block g (b6 g hg).2 (fun h => h))) (Nat.zero_le _)
  · exact ownsRow_low (ownsRow_keep O.sigs (fun g hg => K.block g (b7 g hg).2 (fun h => h))) (Nat.zero_le _)
  · rw [World.size_alloc]
    rcases hg with h | h | h
    · omega
    · have := b6 g h; omega
    · have := b7 g h; omega
  · rw [World.size_alloc]
    rcases hg with h | h | h
    · omega
    · have := b6 g h; omega
    · have := b7 g h; omega
  · rcases hg with h | h | h
    · omega
    · exact (b6 g h).1
    · exact (b7 g h).1

set_option maxRecDepth 100000 in
set_option maxHeartbeats 8000000 in
theorem step_any (w : World) (nm : ByteArray) (a : Option Addr) (c : Nat) (ns : List Nd) (hN : NodesAt w a ns) (hn : ns.length ≤ 64) (hlow : ∀ b o, a = some ⟨b, o, none⟩ → b < w.heap.size) (hnm : ∀ x ∈ ns, x.name.size ≤ 100000000) (M : MovesAt w) (s : St) (v6 v7 : Value) (S : StRd w s v6 v7) (Z : Small s) (q : Inp) (hq : q.name.size ≤ 100000000) (ht : q.text.size ≤ maxLen) :
    Calls Tryd.prog 22 #[.agg #[.string nm, .slice a ns.length c], .agg (stA s v6 v7), inpV q] w (StepPost w (stepP nm ns s q)) := by
  obtain ⟨W0, hW0⟩ : ∃ W0, W0 = ((((w.alloc (.cells #[.string nm, .slice a ns.length c] 24)).alloc (.cells (stA s v6 v7) 33)).alloc (.cells #[.int .i64 q.kind, .string q.node, .string q.name, .string q.text, .int .i64 q.tr, .int .i64 q.status, .int .i64 q.now, .string q.par, .string q.pnode] 39)).alloc (.cells #[.string ⟨#[]⟩, .string ⟨#[]⟩, .string ⟨#[]⟩, .string ⟨#[]⟩, .int .i64 0, .string ⟨#[]⟩, .slice none 0 0, .slice none 0 0, .int .i64 0] 33)) := ⟨_, rfl⟩
  have hsz : W0.heap.size = w.heap.size + 4 := by rw [hW0]; simp [World.size_alloc]
  have K1 : Kept (fun _ => False) (w.alloc (.cells #[.string nm, .slice a ns.length c] 24)) W0 := by rw [hW0]; exact ((Kept.alloc _ _ _).and (Kept.alloc _ _ _)).and (Kept.alloc _ _ _)
  have K2 : Kept (fun _ => False) ((w.alloc (.cells #[.string nm, .slice a ns.length c] 24)).alloc (.cells (stA s v6 v7) 33)) W0 := by rw [hW0]; exact (Kept.alloc _ _ _).and (Kept.alloc _ _ _)
  have K3 : Kept (fun _ => False) (((w.alloc (.cells #[.string nm, .slice a ns.length c] 24)).alloc (.cells (stA s v6 v7) 33)).alloc (.cells #[.int .i64 q.kind, .string q.node, .string q.name, .string q.text, .int .i64 q.tr, .int .i64 q.status, .int .i64 q.now, .string q.par, .string q.pnode] 39)) W0 := by rw [hW0]; exact Kept.alloc _ _ _
  have KW : Kept (fun _ => False) w W0 := (Kept.alloc _ _ _).and K1
  have b1 := (K1.block w.heap.size (by rw [World.size_alloc]; omega) (fun h => h)).trans (heap_alloc_new _ _)
  have b2 : W0.heap[w.heap.size + 1]? = some (.cells (stA s v6 v7) 33 (0, 0)) := by
    have h := heap_alloc_new (w.alloc (.cells #[.string nm, .slice a ns.length c] 24)) (.cells (stA s v6 v7) 33)
    rw [World.size_alloc] at h
    exact (K2.block _ (by simp [World.size_alloc]) (fun h => h)).trans h
  have b3 : W0.heap[w.heap.size + 1 + 1]? = some (.cells #[.int .i64 q.kind, .string q.node, .string q.name, .string q.text, .int .i64 q.tr, .int .i64 q.status, .int .i64 q.now, .string q.par, .string q.pnode] 39 (0, 0)) := by
    have h := heap_alloc_new ((w.alloc (.cells #[.string nm, .slice a ns.length c] 24)).alloc (.cells (stA s v6 v7) 33)) (.cells #[.int .i64 q.kind, .string q.node, .string q.name, .string q.text, .int .i64 q.tr, .int .i64 q.status, .int .i64 q.now, .string q.par, .string q.pnode] 39)
    rw [World.size_alloc, World.size_alloc] at h
    exact (K3.block _ (by simp [World.size_alloc]) (fun h => h)).trans h
  have b4 : W0.heap[w.heap.size + 1 + 1 + 1]? = some (.cells #[.string ⟨#[]⟩, .string ⟨#[]⟩, .string ⟨#[]⟩, .string ⟨#[]⟩, .int .i64 0, .string ⟨#[]⟩, .slice none 0 0, .slice none 0 0, .int .i64 0] 33 (0, 0)) := by
    have h := heap_alloc_new (((w.alloc (.cells #[.string nm, .slice a ns.length c] 24)).alloc (.cells (stA s v6 v7) 33)).alloc (.cells #[.int .i64 q.kind, .string q.node, .string q.name, .string q.text, .int .i64 q.tr, .int .i64 q.status, .int .i64 q.now, .string q.par, .string q.pnode] 39)) (.cells #[.string ⟨#[]⟩, .string ⟨#[]⟩, .string ⟨#[]⟩, .string ⟨#[]⟩, .int .i64 0, .string ⟨#[]⟩, .slice none 0 0, .slice none 0 0, .int .i64 0] 33)
    rw [World.size_alloc, World.size_alloc, World.size_alloc, ← hW0] at h
    exact h
  obtain ⟨d0, d1⟩ := pairC b1
  unfold stA at b2
  obtain ⟨⟨t0, t1, t2, t3, t4, t5, t6, t7, t8⟩, _⟩ := nine b2
  obtain ⟨⟨_, _, _, _, _, _, q6, _, _⟩, _⟩ := nine b3
  have hC := stateCopy_any W0.drew s v6 v7 (S.new (KW.and (Kept.drew _ _)))
  have hC' : Calls Tryd.prog 40 #[.agg #[.string s.dfn, .string s.id, .string s.par, .string s.pnode, .int .i64 s.status, .string s.text, v6, v7, .int .i64 s.events]] W0.drew fun e w' => ∃ u6 u7, e = .returned (.agg #[.string s.dfn, .string s.id, .string s.par, .string s.pnode, .int .i64 s.status, .string s.text, u6, u7, .int .i64 s.events]) ∧ StOwn w' W0.drew.heap.size s u6 u7 ∧ Kept (fun _ => False) W0.drew w' := hC
  have HB3 := hid b3
  have HB4 := hid b4
  have HKW := hid KW
  have HN := hid hN
  have HM := hid M
  have HZ := hid Z
  have Hlow := hid hlow
  have Hnm := hid hnm
  unfold stA at hW0
  unfold inpV stA
  clear hC S K1 K2 K3 KW b1 b2 b3 b4 hN M Z hlow hnm
  go_enter Tryd.func22, Tryd.ntmps22
  go_upto_region 1 with fail
  rw [← hW0]
  refine wp_onlyN (sp1 (P := fun V u6 u7 => StOwn V W0.drew.heap.size s u6 u7) _ d0 d1 t0 t1 t2 t3 t4 t5 t6 t7 t8 q6 hC' ?_)
  intro _ _ _ _ _ _ _ u6 u7 w5 O5 K5
  clear d0 d1 t0 t1 t2 t3 t4 t5 t6 t7 t8 q6 hC' hW0
  have hs5 := K5.size
  obtain ⟨H, R, hH⟩ := run_new (nm := nm) (a := a) (n := ns.length) (c := c) (now := q.now) O5 (show W0.heap.size ≤ _ from hs5)
  have hH : ∀ g, H g → W0.heap.size ≤ g := hH
  have KR := Kept.alloc (fun _ => False) w5 (.cells #[.string nm, .slice a ns.length c, .string s.dfn, .string s.id, .string s.par, .string s.pnode, .int .i64 s.status, .string s.text, u6, u7, .int .i64 s.events, .int .i64 q.now, .slice none 0 0, .slice none 0 0] 96)
  have KWR := (HKW.out.and K5).and KR
  have E : Env w (w5.alloc (.cells #[.string nm, .slice a ns.length c, .string s.dfn, .string s.id, .string s.par, .string s.pnode, .int .i64 s.status, .string s.text, u6, u7, .int .i64 s.events, .int .i64 q.now, .slice none 0 0, .slice none 0 0] 96)) H a ns := ⟨HN.out, by omega, Hlow.out, Hnm.out, HM.out, fun g h => by have := hH g h; omega, KWR.mono (fun _ h => h.elim)⟩
  have F : Fit ⟨s, q.now, [], []⟩ 100000 := ⟨HZ.out.idsz, by have := HZ.out.nodes; show s.nodes.length ≤ _; omega, HZ.out.sigs, HZ.out.ev0, by have := HZ.out.ev1; show s.events ≤ _; omega, Nat.zero_le _, Nat.zero_le _⟩
  have hD := do_any E R F hn HZ.out.nodes (Nat.le_refl _) q hq ht
  have b3' := ((K5.and KR).block _ (Array.getElem?_eq_some_iff.1 HB3.out).1 (fun h => h)).trans HB3.out
  have b4' := ((K5.and KR).block _ (Array.getElem?_eq_some_iff.1 HB4.out).1 (fun h => h)).trans HB4.out
  obtain ⟨⟨q0, q1, q2, q3, q4, q5, q6, q7, q8⟩, _⟩ := nine b3'
  have HB4' := hid b4'
  have HH := hid hH
  have HKWR := hid KWR
  have HE := hid E
  unfold inpV at hD
  have hws : w5.heap.size < (w5.alloc (.cells #[.string nm, .slice a ns.length c, .string s.dfn, .string s.id, .string s.par, .string s.pnode, .int .i64 s.status, .string s.text, u6, u7, .int .i64 s.events, .int .i64 q.now, .slice none 0 0, .slice none 0 0] 96)).heap.size := by rw [World.size_alloc]; omega
  obtain ⟨p, hp⟩ : ∃ p, doP nm ns ⟨s, q.now, [], []⟩ q = p := ⟨_, rfl⟩
  have HP := hid (show stepP nm ns s q = p from hp)
  rw [hp] at hD
  clear O5 K5 KR KWR E R F b3' b4' hH HB3 HB4 hp HKW
  generalize (w5.alloc (.cells #[.string nm, .slice a ns.length c, .string s.dfn, .string s.id, .string s.par, .string s.pnode, .int .i64 s.status, .string s.text, u6, u7, .int .i64 s.events, .int .i64 q.now, .slice none 0 0, .slice none 0 0] 96)) = WR at *
  generalize w5.heap.size = rb at *
  obtain ⟨r, ee⟩ := p
  by_cases he : ee = 0
  · subst he
    have e1 : ((0 : Int) != 0) = false := rfl
    go_upto_region 5 with (first
      | (go_at_call 43; refine hD.mono ?_; rintro e w7 ⟨rfl, X7⟩; clear hD q0 q1 q2 q3 q4 q5 q6 q7 q8)
      | fail)
    have b7 := (X7.2.block _ (Array.getElem?_eq_some_iff.1 HB4'.out).1 (fun h => by have := HH.out _ h; omega)).trans HB4'.out
    obtain ⟨⟨H7, ⟨F7, G7, z6, z7, z12, z13, RN, hHF, htop⟩, hH7⟩, K7⟩ := X7
    obtain ⟨a6, c6, rfl⟩ := ownsRow_shape RN.st.nodes
    obtain ⟨a7, c7, rfl⟩ := ownsRow_shape RN.st.sigs
    obtain ⟨a12, c12, rfl⟩ := ownsRow_shape RN.evs
    obtain ⟨a13, c13, rfl⟩ := ownsRow_shape RN.tks
    have hbk := RN.st.blk
    obtain ⟨x2, x3, x4, x5, x6, x7, x8, x9, x10, x12, x13⟩ := eleven (show w7.heap[rb]? = some (.cells #[.string nm, .slice a ns.length c, .string r.st.dfn, .string r.st.id, .string r.st.par, .string r.st.pnode, .int .i64 r.st.status, .string r.st.text, .slice a6 r.st.nodes.length c6, .slice a7 r.st.sigs.length c7, .int .i64 r.st.events, .int .i64 r.now, .slice a12 r.evs.length c12, .slice a13 r.tks.length c13] _ (0, 0)) from hbk)
    have hge : ∀ g, H7 g → W0.heap.size ≤ g := fun g h => (hH7 g h).elim (HH.out g) (fun h => by have := HKWR.out.size; have := HB4'.out; have := (Array.getElem?_eq_some_iff.1 HB4'.out).1; omega)
    have hrb : w.heap.size + 1 + 1 + 1 ≠ rb := fun h => by have := hge rb (hHF rb (.inl RN.st.inS)); omega
    have A7 : AnsAt w7 W0.heap.size r (.slice a12 r.evs.length c12) (.slice a6 r.st.nodes.length c6) (.slice a7 r.st.sigs.length c7) (.slice a13 r.tks.length c13) := ⟨ownsRow_high RN.evs (fun g hg => hge g (hHF g (.inr (RN.in12 g hg)))), ownsRow_high RN.st.nodes (fun g hg => hge g (hHF g (.inl (RN.st.in6 g hg).1))), ownsRow_high RN.st.sigs (fun g hg => hge g (hHF g (.inl (RN.st.in7 g hg).1))), ownsRow_high RN.tks (fun g hg => hge g (hHF g (.inr (RN.in13 g hg))))⟩
    have HA7 := hid A7
    have HK7 : Hid (Kept (fun _ => False) w w7) := HKWR.out.trans K7 (fun g h => .inr (by have := HH.out g h; omega))
    clear A7 RN hbk hHF htop hH7 hge K7
    refine wp_onlyN (sp5 _ x2 x3 x4 x5 x6 x7 x8 x9 x10 x12 x13 b7 (Ne.symm hrb) ?_)
    intro _ _ _ _ _ _ _ _ _ _ _ _ w8 b8 K8
    clear x2 x3 x4 x5 x6 x7 x8 x9 x10 x12 x13 b7
    obtain ⟨⟨y0, y1, y2, y3, y4, y5, y6, y7, y8⟩, _⟩ := nine b8
    go_wp2_with fail
    refine bodyPost_ret (by simp [results, Tryd.results22, go_sem, y0, y1, y2, y3, y4, y5, y6, y7, y8]; try rfl) rfl ?_
    have hans : ansP (r, 0) = r := rfl
    have hkeep : ∀ {T sz n : Nat} {v : Value} {xs : List Value}, w7.ownsRow W0.heap.size T sz v n xs → w8.ownsRow w.heap.size T sz v n xs := fun {T sz n v xs} h => ownsRow_low (ownsRow_keep h (fun g hg => K8.block g (ownsRow_blk h hg) (fun e => by have := (h.lt g hg).1; omega))) (by omega)
    refine ⟨.slice a12 r.evs.length c12, .slice a6 r.st.nodes.length c6, .slice a7 r.st.sigs.length c7, .slice a13 r.tks.length c13, ?_, ?_, HK7.out.trans K8 (fun g h => .inr (by omega))⟩
    · rw [HP.out, hans]; rfl
    · rw [HP.out, hans]
      exact ⟨hkeep HA7.out.evs, hkeep HA7.out.nodes, hkeep HA7.out.sigs, hkeep HA7.out.tks⟩
  · have e1 : (ee != 0) = true := by simp [he]
    go_wp2_with (first
      | (go_at_call 43; refine hD.mono ?_; rintro e w7 ⟨rfl, X7⟩; clear hD q0 q1 q2 q3 q4 q5 q6 q7 q8; have b7 := (X7.2.block _ (Array.getElem?_eq_some_iff.1 HB4'.out).1 (fun h => by have := HH.out _ h; omega)).trans HB4'.out; obtain ⟨⟨p0, p1, p2, p3, p4, p5, p6, p7, p8⟩, f0, f1, f2, f3, f4, f5, f6, f7, f8⟩ := nine b7; have HB7 := hid b7; have HX7 := hid X7.2; clear X7 b7)
      | fail)
    have b8 := put9 HB7.out (.string ⟨#[]⟩) (.string ⟨#[]⟩) (.string ⟨#[]⟩) (.string ⟨#[]⟩) (.int .i64 0) (.string ⟨#[]⟩) (.slice none 0 0) (.slice none 0 0) (.int .i64 0)
    obtain ⟨⟨y0, y1, y2, y3, y4, y5, y6, y7, y8⟩, _⟩ := nine b8
    have K8 := kept9 (S := fun j => j = w.heap.size + 1 + 1 + 1) w7 rfl (.string ⟨#[]⟩) (.string ⟨#[]⟩) (.string ⟨#[]⟩) (.string ⟨#[]⟩) (.int .i64 0) (.string ⟨#[]⟩) (.slice none 0 0) (.slice none 0 0) (.int .i64 0)
    refine bodyPost_ret (by simp [results, Tryd.results22, go_sem, y0, y1, y2, y3, y4, y5, y6, y7, y8]; try rfl) rfl ?_
    have hans : ansP (r, ee) = ⟨zeroSt, 0, [], []⟩ := by unfold ansP; rw [if_neg he]
    refine ⟨.slice none 0 0, .slice none 0 0, .slice none 0 0, .slice none 0 0, ?_, ?_, (HKWR.out.trans HX7.out (fun g h => .inr (by have := HH.out g h; omega))).trans K8 (fun g h => .inr (by omega))⟩
    · rw [HP.out, hans]; rfl
    · rw [HP.out, hans]
      exact ⟨World.ownsRow_nil _ _ _ _, World.ownsRow_nil _ _ _ _, World.ownsRow_nil _ _ _ _, World.ownsRow_nil _ _ _ _⟩

end Go.Proofs.YtfjekjbkifmpfaaDoor
