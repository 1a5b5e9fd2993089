/-
  The document's at, may and Order, where no two nodes bear one name.
-/
import Derived.Test.YtfjekjbkifmpfaaDoorG01
import Derived.Test.YtfjekjbkifmpfaaDoorG02
import Derived.Test.YtfjekjbkifmpfaaDoorG05
import Derived.Test.YtfjekjbkifmpfaaDoorG12
import Derived.Deep.RegionHeld3
import Derived.Deep.QuietTactic
import Derived.BigQuiet
namespace Go.Proofs.YtfjekjbkifmpfaaDoor
open Go.RowKit

theorem twoC {w : World} {b : Nat} {T : TypeId} {u0 u1 : Value} (h : w.heap[b]? = some (.cells #[u0, u1] T (0, 0))) : (w.cell? ⟨b, 0, none⟩ = some u0 ∧ w.cell? ⟨b, 1, none⟩ = some u1) ∧ w.frozen? ⟨b, 0, none⟩ = false ∧ w.frozen? ⟨b, 1, none⟩ = false := by
  simp [World.cell?, World.frozen?, h]

set_option maxRecDepth 100000 in
set_option maxHeartbeats 1000000 in
theorem refAt_any (w : World) (b o m c : Nat) (l : List Bool) (hl : l.length = m) (hm : m ≤ 4611686018427387904) (h : ∀ j (h : j < l.length), w.cell? ⟨b, o + j, none⟩ = some (.bool (l[j]'h))) (i : Nat) :
    Calls Tryd.prog 82 #[.slice (some ⟨b, o, none⟩) m c, .int .i64 i] w fun e w' => e = .returned (.bool (l.getD i false)) ∧ w' = w := by
  subst hl
  by_cases hlt : i < l.length
  · have e0 : (i : Int) < (l.length : Int) := by omega
    have x0 := h i hlt
    have hg : l.getD i false = l[i] := by simp [List.getD_eq_getElem?_getD, hlt]
    rw [hg]
    clear hg
    generalize l[i] = v at *
    clear h
    go_enter Tryd.func82, Tryd.ntmps82
    go_wp2
    go_ret
    exact ⟨rfl, rfl⟩
  · have e0 : ¬ (i : Int) < (l.length : Int) := by omega
    have hg : l.getD i false = false := by simp [List.getD_eq_getElem?_getD, Nat.le_of_not_lt hlt]
    rw [hg]
    clear hg
    clear h
    go_enter Tryd.func82, Tryd.ntmps82
    go_wp2
    go_ret
    exact ⟨rfl, rfl⟩


/-- No two nodes bear one name. -/
def Uniq (ns : List Nd) : Prop := ∀ i (h : i < ns.length), findP ns (ns[i]'h).name = some i

/-- One name of After is over, for the document. -/
def oneR (ns : List Nd) (i : Nat) (l : List Bool) (s : ByteArray) : Bool := match findP ns s with | some j => !(j == i) && l.getD j false | none => false
def mayR (ns : List Nd) (i : Nat) (l : List Bool) (n : Nd) : Bool := n.after.all (oneR ns i l)

theorem oneR_eq {ns : List Nd} (U : Uniq ns) {i : Nat} (hi : i < ns.length) (l : List Bool) (s : ByteArray) : oneR ns i l s = oneP ns ns[i] l s := by
  unfold oneR oneP aheadP
  by_cases e : s = (ns[i]).name
  · rw [if_pos e, e, U i hi]
    simp
  · rw [if_neg e]
    cases hf : findP ns s with
    | none => rfl
    | some j =>
      have hne : j ≠ i := fun h => by
        subst h
        have := findP_name hf
        exact e this.symm
      simp [hne]

theorem mayR_eq {ns : List Nd} (U : Uniq ns) {i : Nat} (hi : i < ns.length) (l : List Bool) : mayR ns i l ns[i] = overP ns ns[i] l := by
  unfold mayR overP
  apply List.all_congr rfl
  intro s
  exact oneR_eq U hi l s

theorem mayR_next {ns : List Nd} {n : Nd} {l : List Bool} {i k : Nat} (hk : k < n.after.length) (h : (n.after.take k).all (oneR ns i l) = true) (h1 : oneR ns i l n.after[k] = true) : (n.after.take (k + 1)).all (oneR ns i l) = true := by
  rw [List.take_add_one, List.getElem?_eq_getElem hk, Option.toList_some, List.all_append, h]
  simp [h1]

theorem mayR_not {ns : List Nd} {n : Nd} {l : List Bool} {i k : Nat} (hk : k < n.after.length) (h1 : oneR ns i l n.after[k] = false) : mayR ns i l n = false := by
  unfold mayR
  rw [List.all_eq_false]
  exact ⟨n.after[k], List.getElem_mem hk, by simp [h1]⟩

theorem bcells_at {w : World} {b : Nat} {l : List Bool} (h : CellsAt w (some ⟨b, 0, none⟩) (l.map Value.bool)) : ∀ j (hj : j < l.length), w.cell? ⟨b, 0 + j, none⟩ = some (.bool (l[j]'hj)) := by
  intro j hj
  rcases h with h | ⟨b', o', e, hc⟩
  · simp at h; subst h; simp at hj
  · simp only [Option.some.injEq, Addr.mk.injEq] at e
    obtain ⟨rfl, rfl, _⟩ := e
    exact hc j _ (by simp [hj])

set_option maxRecDepth 100000 in
set_option maxHeartbeats 4000000 in
theorem refMay_any (w : World) (name : ByteArray) (a : Option Addr) (c : Nat) (ns : List Nd) (hN : NodesAt w a ns) (hn : ns.length ≤ 1000) (i : Nat) (hi : i < ns.length) (ob co : Nat) (l : List Bool) (hl : l.length ≤ 1000) (hc : CellsAt w (some ⟨ob, 0, none⟩) (l.map Value.bool)) :
    Calls Tryd.prog 62 #[.agg #[.string name, .slice a ns.length c], .int .i64 i, .slice (some ⟨ob, 0, none⟩) l.length co] w fun e w' => e = .returned (.bool (mayR ns i l ns[i])) ∧ Kept (fun _ => False) w w' := by
  have HN : Hid (NodesAt w a ns) := hN
  have HA : Hid (∀ V, Kept (fun _ => False) w V → ∀ j : Nat, Calls Tryd.prog 82 #[.slice (some ⟨ob, 0, none⟩) l.length co, .int .i64 j] V fun e w' => e = .returned (.bool (l.getD j false)) ∧ w' = V) := fun V K j => refAt_any V ob 0 l.length co l rfl (by omega) (bcells_at (hc.kept K (fun _ _ h => h))) j
  have e2 : (i : Int) < (ns.length : Int) := by omega
  clear hN hc
  go_enter Tryd.func62, Tryd.ntmps62
  go_wp2_with fail
  go_loopw [7] (fun q wr => ∃ (k : Nat), k ≤ (ns[i]).after.length ∧ q = .int .i64 k ∧ ((ns[i]).after.take k).all (oneR ns i l) = true ∧ Kept (fun _ => False) (w.alloc (.cells #[.string name, .slice a ns.length c] 24)) wr) (fun q _ => (ns[i]).after.length - (intOf q).toNat)
  case atStart => exact ⟨0, Nat.zero_le _, rfl, by simp, Kept.refl _ _⟩
  case round =>
    obtain ⟨k, hk, rfl, hal, K⟩ := hrel
    have Kw : Kept (fun _ => False) w wr := (Kept.alloc (fun _ => False) _ _).and K
    obtain ⟨x0, x1⟩ := boxD K
    have Nr := keptNew Kw HN.out
    obtain ⟨b, o, av, cv, rfl, hT, c0, c1, c2, c3, c4, c5, c6⟩ := Nr.at hi
    have hfew := (HN.out.1 _ (List.getElem_mem hi)).few
    by_cases hlk : k < (ns[i]).after.length
    · have e1 : (k : Int) < ((ns[i]).after.length : Int) := by omega
      obtain ⟨a2, c2', hsl, hc2, hne⟩ := hT.at
      obtain ⟨rfl, rfl⟩ : av = a2 ∧ cv = c2' := by simpa using hsl
      obtain ⟨xb, xo, rfl, hcell⟩ := hne (fun e => by rw [e] at hlk; simp at hlk)
      have hck := hcell k hlk
      have KD := Kept.drew (fun _ => False) wr
      have FI := refFind_any wr.drew name (some ⟨b, o, none⟩) ns.length c ns (keptNew KD Nr) rfl (by omega) (ns[i]).after[k]
      have HNx : Hid (oneR ns i l (ns[i]).after[k] = true → ((ns[i]).after.take (k + 1)).all (oneR ns i l) = true) := mayR_next hlk hal
      have HNo : Hid (oneR ns i l (ns[i]).after[k] = false → mayR ns i l ns[i] = false) := mayR_not hlk
      have HS : Hid (∀ V, Kept (fun _ => False) wr.drew V → Kept (fun _ => False) wr.drew V ∧ V.cell? ⟨w.heap.size, 0, none⟩ = some (.string name) ∧ V.cell? ⟨w.heap.size, 1, none⟩ = some (.slice (some ⟨b, o, none⟩) ns.length c) ∧ V.cell? ⟨b, o + i * 7 + 6, none⟩ = some (.slice (some ⟨xb, xo, none⟩) (ns[i]).after.length cv) ∧ V.cell? ⟨xb, xo + k, none⟩ = some (.string (ns[i]).after[k])) := fun V KV => ⟨KV, keepC (KD.and KV) x0 (fun _ _ h => h), keepC (KD.and KV) x1 (fun _ _ h => h), keepC (KD.and KV) c6 (fun _ _ h => h), keepC (KD.and KV) hck (fun _ _ h => h)⟩
      have HKD : Hid (Kept (fun _ => False) wr wr.drew) := KD
      have w1 : IntKind.i64.wrap (i : Int) = (i : Int) := by rw [IntKind.wrap_i64]; omega
      have w2 : IntKind.i64.wrap (k : Int) = (k : Int) := by rw [IntKind.wrap_i64]; omega
      have HOn : Hid (oneR ns i l (ns[i]).after[k] = match findP ns (ns[i]).after[k] with | some j => !(j == i) && l.getD j false | none => false) := rfl
      clear hsl hne hcell hT Nr KD c0 c1 c2 c3 c4 c5 hal
      generalize findP ns (ns[i]).after[k] = fr at *
      generalize oneR ns i l (ns[i]).after[k] = r1 at *
      generalize (ns[i]).after[k] = s at *
      generalize hal : (ns[i]).after.length = al at *
      have HAl : Hid ((ns[i]).after.length = al) := hal
      clear hal
      go_wp2_with fail
      refine wp_onlyN ?_
      (go_region_held (fun V => Kept (fun _ => False) wr.drew V ∧ V.cell? ⟨w.heap.size, 0, none⟩ = some (.string name) ∧ V.cell? ⟨w.heap.size, 1, none⟩ = some (.slice (some ⟨b, o, none⟩) ns.length c) ∧ V.cell? ⟨b, o + i * 7 + 6, none⟩ = some (.slice (some ⟨xb, xo, none⟩) al cv) ∧ V.cell? ⟨xb, xo + k, none⟩ = some (.string s)) (first | exact HS.out _ (Kept.refl _ _) | exact HS.out _ (by assumption)) (first
        | (go_at_call 23; refine FI.mono ?_; rintro e w5 ⟨rfl, K5⟩)
        | fail))
      simp only [onlyN]
      rename_i hHeld
      clear hHeld HS FI x0 x1 c6 hck
      have K5' : Kept (fun _ => False) wr w5 := HKD.out.and K5
      cases fr with
      | none =>
        have hr : mayR ns i l ns[i] = false := HNo.out HOn.out
        have HR : Hid (mayR ns i l ns[i] = false) := hr
        clear hr HNo HNx HOn K5
        go_wp2_with fail
        go_ret
        exact ⟨by rw [HR.out]; rfl, Kw.and K5'⟩
      | some j =>
        have hA := HA.out w5 (Kw.and K5') j
        by_cases hji : j = i
        · have hr : mayR ns i l ns[i] = false := HNo.out (by rw [HOn.out]; simp [hji])
          have HR : Hid (mayR ns i l ns[i] = false) := hr
          have q1 : ((j : Int) == (i : Int)) = true := by simp [hji]
          clear hr HNo HNx HOn K5 hA hji
          go_wp2_with fail
          go_ret
          exact ⟨by rw [HR.out]; rfl, Kw.and K5'⟩
        · have q1 : ((j : Int) == (i : Int)) = false := by simp; omega
          cases hb : l.getD j false with
          | false =>
            have hr : mayR ns i l ns[i] = false := HNo.out (by rw [HOn.out]; simp only []; rw [hb]; simp)
            have HR : Hid (mayR ns i l ns[i] = false) := hr
            rw [hb] at hA
            clear hr HNo HNx HOn K5 hji hb
            go_wp2_with (first
              | (go_at_call 82; refine hA.mono ?_; rintro e w6 ⟨rfl, hw⟩; subst w6; clear hA)
              | fail)
            go_ret
            exact ⟨by rw [HR.out]; rfl, Kw.and K5'⟩
          | true =>
            have HX : Hid (((ns[i]).after.take (k + 1)).all (oneR ns i l) = true) := HNx.out (by rw [HOn.out]; simp only []; rw [hb]; simp [hji])
            rw [hb] at hA
            clear HNo HNx HOn K5 hji hb
            go_wp2_with (first
              | (go_at_call 82; refine hA.mono ?_; rintro e w6 ⟨rfl, hw⟩; subst w6; clear hA)
              | fail)
            go_roundw
            case rel => exact ⟨k + 1, by omega, by go_num, HX.out, K.and K5'⟩
            case measure => simp [intOf]; omega
    · obtain hke : k = (ns[i]).after.length := by omega
      have e1 : ¬ (k : Int) < ((ns[i]).after.length : Int) := by omega
      rw [hke, List.take_length] at hal
      have HR : Hid (mayR ns i l ns[i] = true) := hal
      clear hal hT hke Nr
      generalize (ns[i]).after.length = al at *
      go_wp2_with fail
      go_ret
      exact ⟨by rw [HR.out]; rfl, Kw⟩



/-- The marks of those that were told. -/
def toldL (ns : List Nd) (T : List Nat) : List Bool := (List.range ns.length).map (fun x => T.contains x)

theorem toldL_len (ns : List Nd) (T : List Nat) : (toldL ns T).length = ns.length := by unfold toldL; simp
theorem toldL_at (ns : List Nd) (T : List Nat) {j : Nat} (hj : j < ns.length) : (toldL ns T).getD j false = T.contains j := by
  unfold toldL
  rw [List.getD_eq_getElem?_getD, List.getElem?_map, List.getElem?_range hj]
  rfl

theorem told_cells {w : World} {b : Nat} {ns : List Nd} {T : List Nat} {ty : TypeId} (h : w.rowIs b ty ns.length (fun x => .bool (T.contains x))) : CellsAt w (some ⟨b, 0, none⟩) ((toldL ns T).map Value.bool) := by
  refine .inr ⟨b, 0, rfl, fun j u hu => ?_⟩
  unfold toldL at hu
  rw [List.map_map, List.getElem?_map] at hu
  by_cases hj : j < ns.length
  · rw [List.getElem?_range hj] at hu
    rw [Nat.zero_add, h.cell hj]
    exact hu
  · rw [List.getElem?_eq_none (by simpa using Nat.le_of_not_lt hj)] at hu
    cases hu

theorem over_need {ns : List Nd} {T : List Nat} {i : Nat} (hi : i < ns.length) : overP ns ns[i] (toldL ns T) = decide (need ns T ns[i] = 0) := by
  unfold overP need
  rw [Bool.eq_iff_iff, List.all_eq_true, decide_eq_true_eq, List.countP_eq_zero]
  constructor
  · intro h s hs
    have h1 := h s hs
    unfold oneP at h1
    cases ha : aheadP ns ns[i] s with
    | none => rw [ha] at h1; cases h1
    | some j =>
      rw [ha] at h1
      simp only [] at h1
      rw [toldL_at ns T (aheadP_lt ha)] at h1
      have h2 : j ∈ T := by simpa using h1
      simp [h2]
  · intro h s hs
    have h1 := h s hs
    unfold oneP
    cases ha : aheadP ns ns[i] s with
    | none => rw [ha] at h1; simp at h1
    | some j =>
      rw [ha] at h1
      simp only []
      rw [toldL_at ns T (aheadP_lt ha)]
      simpa using h1

theorem may_told {ns : List Nd} {T : List Nat} {i : Nat} (U : Uniq ns) (hi : i < ns.length) : mayB ns T i = (!T.contains i && mayR ns i (toldL ns T) ns[i]) := by
  unfold mayB
  rw [List.getElem?_eq_getElem hi, mayR_eq U hi, over_need hi]

/-- The first of the last d nodes that may be told. -/
def nxtD (ns : List Nd) (T : List Nat) : Nat → Int
  | 0 => -1
  | d + 1 => if mayB ns T (ns.length - (d + 1)) = true then ((ns.length - (d + 1) : Nat) : Int) else nxtD ns T d

theorem nxtD_is {ns : List Nd} {T : List Nat} : ∀ d, d ≤ ns.length → (∃ i : Nat, nxtD ns T d = (i : Int) ∧ ns.length - d ≤ i ∧ mayB ns T i = true ∧ ∀ j, ns.length - d ≤ j → j < i → mayB ns T j = false) ∨ (nxtD ns T d = -1 ∧ ∀ j, ns.length - d ≤ j → j < ns.length → mayB ns T j = false)
  | 0, _ => .inr ⟨rfl, fun j h1 h2 => by omega⟩
  | d + 1, h => by
    unfold nxtD
    by_cases c : mayB ns T (ns.length - (d + 1)) = true
    · rw [if_pos c]
      exact .inl ⟨_, rfl, Nat.le_refl _, c, fun j h1 h2 => by omega⟩
    · rw [if_neg c]
      have c' : mayB ns T (ns.length - (d + 1)) = false := by simpa using c
      rcases nxtD_is (ns := ns) (T := T) d (by omega) with ⟨i, h1, h2, h3, h4⟩ | ⟨h1, h2⟩
      · refine .inl ⟨i, h1, by omega, h3, fun j g1 g2 => ?_⟩
        by_cases e : j = ns.length - (d + 1)
        · subst e; exact c'
        · exact h4 j (by omega) g2
      · refine .inr ⟨h1, fun j g1 g2 => ?_⟩
        by_cases e : j = ns.length - (d + 1)
        · subst e; exact c'
        · exact h2 j (by omega) g2

/-- What stands between the rounds. -/
structure ROSt (w : World) (name : ByteArray) (a : Option Addr) (c : Nat) (ns : List Nd) (wr : World) (T : List Nat) (v5 : Value) : Prop where
  box : wr.heap[w.heap.size]? = some (.cells #[.string name, .slice a ns.length c] 24 (0, 0))
  told : wr.rowIs (w.heap.size + 1) 4 ns.length (fun x => .bool (T.contains x))
  row : wr.ownsRow (w.heap.size + 2) 3 1 v5 T.length (natsV T)
  kept : Kept (fun j => w.heap.size + 1 ≤ j) w wr
  run : Runs ns T

theorem ROSt.keep {w wr V : World} {name : ByteArray} {a : Option Addr} {c : Nat} {ns : List Nd} {T : List Nat} {v5 : Value} (S : ROSt w name a c ns wr T v5) (K : Kept (fun _ => False) wr V) : ROSt w name a c ns V T v5 :=
  ⟨(K.block _ (Array.getElem?_eq_some_iff.1 S.box).1 (fun h => h)).trans S.box, S.told.of_block (K.block _ S.told.lt (fun h => h)), ownsRow_keep S.row (fun g hg => K.block g (ownsRow_blk S.row hg) (fun h => h)), S.kept.and (K.mono (fun _ h => h.elim)), S.run⟩

theorem int_nat_eq (m n : Nat) : ((m : Int) == (n : Int)) = decide (m = n) := by
  by_cases h : m = n
  · simp [h]
  · have h2 : ¬ (m : Int) = (n : Int) := by omega
    simp [h, h2]

set_option maxRecDepth 100000 in
set_option maxHeartbeats 8000000 in
theorem refOrder_any (w : World) (name : ByteArray) (a : Option Addr) (c : Nat) (ns : List Nd) (hN : NodesAt w a ns) (hn : ns.length ≤ 1000) (U : Uniq ns) :
    Calls Tryd.prog 47 #[.agg #[.string name, .slice a ns.length c]] w fun e w' => ∃ av cv, e = .returned (.tuple #[.slice av (ordP ns).length cv, .bool (decide ((ordP ns).length = ns.length))]) ∧ Kept (fun _ => False) w w' := by
  obtain ⟨i0, hi0, hz0, hz1, hz2⟩ := info_parts Tryd.info3
  have hm1 := fun W => run_make_row' (P := Tryd.prog) 110 4 (.bool false) 1 Tryd.underlying110 Tryd.info4 rfl .i64 .i64 ns.length (by omega) (by omega) W
  have HN : Hid (NodesAt w a ns) := hN
  have HU : Hid (Uniq ns) := U
  have R0 := World.rowIs_made (w.alloc (.cells #[.string name, .slice a ns.length c] 24)) (.bool false) ns.length 4
  rw [World.size_alloc] at R0
  have HS0 : Hid (ROSt w name a c ns ((w.alloc (.cells #[.string name, .slice a ns.length c] 24)).alloc (.cells (madeCells #[.bool false] ns.length) 4)) [] (.slice none 0 0)) := by
    refine ⟨?_, R0.congr (fun q _ => by simp), World.ownsRow_nil _ _ _ _, (Kept.alloc _ _ _).and (Kept.alloc _ _ _), Runs.zero ns⟩
    rw [(Kept.alloc (fun _ => False) _ _).block w.heap.size (by simp) (fun h => h)]
    exact heap_alloc_new _ _
  clear hN U R0
  go_enter Tryd.func47, Tryd.ntmps47
  go_wp2_with fail
  go_loopw [5] (fun v wr => ∃ (T : List Nat) (a5 : Option Addr) (c5 : Nat), v = .slice a5 T.length c5 ∧ ROSt w name a c ns wr T (.slice a5 T.length c5)) (fun v _ => ns.length - sliceLen v)
  case atStart => exact ⟨[], none, 0, rfl, HS0.out⟩
  case round =>
    obtain ⟨T, a5, c5, rfl, S⟩ := hrel
    obtain ⟨⟨x0, x1⟩, _, _⟩ := twoC S.box
    have HS : Hid (ROSt w name a c ns wr T (.slice a5 T.length c5)) := S
    have hrl := S.told.lt
    have htl := S.run.2.2.2.1
    clear S HS0 hm1
    obtain ⟨wo, hwo⟩ : ∃ wo, wo = wr := ⟨_, rfl⟩
    subst hwo
    go_wp2_with fail
    have HKe : Hid (∀ V, Kept (fun _ => False) wo V → ROSt w name a c ns V T (.slice a5 T.length c5)) := fun V K => HS.out.keep K
    have HMa : Hid (∀ V, Kept (fun _ => False) wo V → ∀ i (hi : i < ns.length), Calls Tryd.prog 62 #[.agg #[.string name, .slice a ns.length c], .int .i64 i, .slice (some ⟨w.heap.size + 1, 0, none⟩) ns.length ns.length] V fun e w' => e = .returned (.bool (mayR ns i (toldL ns T) ns[i])) ∧ Kept (fun _ => False) V w') := fun V K i hi => by
      have S := HS.out.keep K
      have h := refMay_any V name a c ns (HN.out.kept S.kept (fun k hk => by omega)) hn i hi (w.heap.size + 1) ns.length (toldL ns T) (by rw [toldL_len]; exact hn) (told_cells S.told)
      rw [toldL_len] at h
      exact h
    have HMt : Hid (∀ i (hi : i < ns.length), mayB ns T i = (!T.contains i && mayR ns i (toldL ns T) ns[i])) := fun i hi => may_told HU.out hi
    go_loopw [7, 6] (fun q v wr => ∃ (d : Nat), d ≤ ns.length ∧ q = .int .i64 ((ns.length : Int) - (d : Int) - 1) ∧ v = .int .i64 (nxtD ns T d) ∧ Kept (fun _ => False) wo wr) (fun q _ _ => (intOf q + 1).toNat)
    case atStart => exact ⟨0, Nat.zero_le _, by go_num, rfl, Kept.refl _ _⟩
    case round =>
      obtain ⟨d, hd, rfl, rfl, K⟩ := hrel
      have S := HKe.out wr K
      by_cases hlt : d < ns.length
      · obtain ⟨i, hie⟩ : ∃ i : Nat, i = ns.length - (d + 1) := ⟨_, rfl⟩
        have hi : i < ns.length := by omega
        have hq : (ns.length : Int) - (d : Int) - 1 = (i : Int) := by omega
        rw [hq]
        have cT := S.told.cell hi
        obtain ⟨⟨z0, z1⟩, _, _⟩ := twoC S.box
        have e1 : (0 : Int) ≤ (i : Int) := by omega
        have e2 : (i : Int) < (ns.length : Int) := by omega
        have hM := HMa.out wr K i hi
        have hmt := HMt.out i hi
        have HNx : Hid (nxtD ns T (d + 1) = if mayB ns T i = true then (i : Int) else nxtD ns T d) := by show _ = _; rw [nxtD, ← hie]
        have HQ : Hid ((i : Int) - 1 = (ns.length : Int) - ((d + 1 : Nat) : Int) - 1) := by show _ = _; omega
        clear S hq hie
        cases hb : T.contains i with
        | true =>
          rw [hb] at cT hmt
          have HF : Hid (nxtD ns T (d + 1) = nxtD ns T d) := by show _ = _; rw [HNx.out, hmt]; simp
          clear hmt HNx hM hb
          generalize nxtD ns T d = nx at *
          go_wp2_with fail
          go_roundw
          case rel => exact ⟨d + 1, by omega, by rw [← HQ.out], by rw [HF.out], K⟩
          case measure => have h9 := HQ.out; simp [intOf] <;> omega
        | false =>
          rw [hb] at cT hmt
          generalize mayR ns i (toldL ns T) ns[i] = mr at *
          cases mr with
          | false =>
            have HF : Hid (nxtD ns T (d + 1) = nxtD ns T d) := by show _ = _; rw [HNx.out, hmt]; simp
            clear hmt HNx hb
            generalize nxtD ns T d = nx at *
            go_wp2_with (first
              | (go_at_call 62; refine hM.mono ?_; rintro e w5 ⟨rfl, K5⟩; clear hM)
              | fail)
            go_roundw
            case rel => exact ⟨d + 1, by omega, by rw [← HQ.out], by rw [HF.out], K.and K5⟩
            case measure => have h9 := HQ.out; simp [intOf] <;> omega
          | true =>
            have HF : Hid (nxtD ns T (d + 1) = (i : Int)) := by show _ = _; rw [HNx.out, hmt]; simp
            clear hmt HNx hb
            generalize nxtD ns T d = nx at *
            go_wp2_with (first
              | (go_at_call 62; refine hM.mono ?_; rintro e w5 ⟨rfl, K5⟩; clear hM)
              | fail)
            go_roundw
            case rel => exact ⟨d + 1, by omega, by rw [← HQ.out], by rw [HF.out], K.and K5⟩
            case measure => have h9 := HQ.out; simp [intOf] <;> omega
      · obtain rfl : d = ns.length := by omega
        have hq : (ns.length : Int) - (ns.length : Int) - 1 = -1 := by omega
        rw [hq]
        clear hq
        have e1 : ¬ (0 : Int) ≤ -1 := by omega
        have HSr : Hid (ROSt w name a c ns wr T (.slice a5 T.length c5)) := S
        obtain ⟨⟨z0, z1⟩, _, _⟩ := twoC S.box
        rcases nxtD_is (ns := ns) (T := T) ns.length (Nat.le_refl _) with ⟨i, h1, _, h3, h4⟩ | ⟨h1, h2⟩
        · rw [h1]
          have hi := mayB_lt h3
          have e2 : ¬ (i : Int) < 0 := by omega
          have e3 : (i : Int) < (ns.length : Int) := by omega
          have cT := S.told.cell hi
          have fT := S.told.frozen i
          have HRu : Hid (Runs ns (T ++ [i])) := S.run.step h3 (fun j hj => h4 j (by omega) hj)
          have hlt2 := HRu.out.2.2.2.1
          rw [List.length_append, List.length_singleton] at hlt2
          have HOw : Hid ((wr.setCell ⟨w.heap.size + 1, i, none⟩ (.bool true)).ownsRow (w.heap.size + 2) 3 1 (.slice a5 T.length c5) T.length (natsV T)) := ownsRow_keep S.row (fun g hg => (Kept.setCell (S := fun j => j = w.heap.size + 1) wr ⟨w.heap.size + 1, i, none⟩ (.bool true) rfl).block g (ownsRow_blk S.row hg) (by have := (S.row.lt g hg).1; omega))
          have HC : Hid (∀ u ∈ [Value.int .i64 (i : Nat)], u.oneCell' = true) := natsV_one [i]
          have hsz : w.heap.size + 2 ≤ wr.heap.size := by have := S.told.lt; omega
          have hsz2 : w.heap.size + 2 ≤ (wr.setCell ⟨w.heap.size + 1, i, none⟩ (.bool true)).heap.size := by simpa [World.setCell] using hsz
          have HNw : Hid (((wr.setCell ⟨w.heap.size + 1, i, none⟩ (.bool true)).alloc (.cells #[.int .i64 (i : Nat)] 3)).heap[wr.heap.size]? = some (.cells #[.int .i64 (i : Nat)] 3 (0, 0))) := by
            have h := heap_alloc_new (wr.setCell ⟨w.heap.size + 1, i, none⟩ (.bool true)) (.cells #[.int .i64 (i : Nat)] 3)
            have hs : (wr.setCell ⟨w.heap.size + 1, i, none⟩ (.bool true)).heap.size = wr.heap.size := by simp [World.setCell]
            rw [hs] at h
            exact h
          clear S h1 h3 h4 HKe HMa HMt
          generalize hm8 : T.length = m8 at *
          go_wp2_with (first
            | (at_builtin; go_loud (refine wpList_append_src _ rfl _ _ 101 rfl (w.heap.size + 2) 3 i0 _ 1 8 Tryd.underlying101 hi0 hz0 hz1 hz2 rfl (by decide) (.slice a5 m8 c5) m8 _ rfl (HOw.out.alloc _) _ rfl 1 _ (.inl ⟨_, 1, rfl, rfl, World.news_of_block HNw.out⟩) HC.out (by unfold maxLen; omega) (by omega) (by rw [World.size_alloc]; omega) ?_; intro a3 cap3 w7 ho3 hg3 _ hl3))
            | fail)
          have K1 : Kept (fun j => j = w.heap.size + 1) wr (wr.setCell ⟨w.heap.size + 1, i, none⟩ (.bool true)) := Kept.setCell _ _ _ rfl
          have K2 : Kept (fun _ => False) (wr.setCell ⟨w.heap.size + 1, i, none⟩ (.bool true)) ((wr.setCell ⟨w.heap.size + 1, i, none⟩ (.bool true)).alloc (.cells #[.int .i64 (i : Nat)] 3)) := Kept.alloc _ _ _
          have KG : Kept (fun g => w.heap.size + 2 ≤ g) ((wr.setCell ⟨w.heap.size + 1, i, none⟩ (.bool true)).alloc (.cells #[.int .i64 (i : Nat)] 3)) w7 := Kept.grown hg3 (fun g e => (HOw.out.lt g e).1)
          have KA := (K1.mono (S' := fun j => w.heap.size + 1 ≤ j) (fun j h => by omega)).and ((K2.mono (fun _ h => h.elim)).and (KG.mono (fun j h => by omega)))
          have KB : Kept (fun j => w.heap.size + 2 ≤ j) (wr.setCell ⟨w.heap.size + 1, i, none⟩ (.bool true)) w7 := (K2.mono (fun _ h => h.elim)).and KG
          have hbx := (Array.getElem?_eq_some_iff.1 HSr.out.box).1
          have hz1' := K1.size
          go_roundw
          case rel =>
            refine ⟨T ++ [i], a3, cap3, by simp [hm8], (KA.block _ hbx (by omega)).trans HSr.out.box, ?_, ?_, HSr.out.kept.and KA, HRu.out⟩
            · refine ((HSr.out.told.set i (.bool true)).of_block (KB.block _ (by omega) (by omega))).congr (fun q _ => ?_)
              by_cases e : q = i
              · simp [e]
              · simp [e]
            · rw [List.length_append, List.length_singleton, hm8, natsV_snoc]
              exact ho3
          case measure => simp [sliceLen]; omega
        · rw [h1]
          have hst := S.run.stop (fun j hj => h2 j (by omega) hj)
          have HSt : Hid (ordP ns = T) := hst
          have Kw : Kept (fun _ => False) w wr := (Kept.refl (fun _ => False) w).trans S.kept (fun g h => .inr (by omega))
          have HKw : Hid (Kept (fun _ => False) w wr) := Kw
          clear S h1 h2 hst HKe HMa HMt Kw
          go_wp2_with (first | go_quiet (fail) | fail)
          go_ret2
          refine ⟨⟨a5, c5, ?_⟩, HKw.out.and (Kept.drewN _ _ _)⟩
          rw [HSt.out, ← int_nat_eq]
          rfl

end Go.Proofs.YtfjekjbkifmpfaaDoor
