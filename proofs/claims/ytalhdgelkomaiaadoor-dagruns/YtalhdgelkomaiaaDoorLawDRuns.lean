/-
  DagRuns holds for all definitions: the law's call returns true and leaves its argument as it was. No condition; the listed variables are tied to the program's text.
-/
import Derived.Test.YtalhdgelkomaiaaDoorDBox
import Derived.Test.YtalhdgelkomaiaaDoorDReady
import Derived.Test.YtalhdgelkomaiaaDoorDGrowP
import Derived.Deep.QuietTactic
import Derived.BigQuiet
namespace Go.Proofs.YtalhdgelkomaiaaDoor
open Go.ChangeShapes Go.WideShapes Go.ChangeAt Go.RowKit

theorem Tryd.info4 : (Tryd.prog.info? 4).map (fun i => (i.zero, i.size, i.bytes)) = some (some (.bool false), 1, 1) := by kernel_rfl

/-- The marks behind r rounds. -/
def markL (ns : List Nd) (r : Nat) : List Bool := (List.range ns.length).map (fun x => decide (rowP ns x ≤ r))
def turnL (ns : List Nd) (r : Nat) : List Nat := (List.range ns.length).filter (fun i => decide (rowP ns i = r + 1))

theorem markL_len (ns : List Nd) (r : Nat) : (markL ns r).length = ns.length := by unfold markL; simp

theorem markL_at (ns : List Nd) (r : Nat) {j : Nat} (hj : j < ns.length) : (markL ns r).getD j false = decide (rowP ns j ≤ r) := by
  unfold markL
  rw [List.getD_eq_getElem?_getD, List.getElem?_map, List.getElem?_range hj]
  rfl

theorem rdyL_turn {ns : List Nd} (h : (ordP ns).length = ns.length) (r : Nat) : rdyL ns (markL ns r) (markL ns r) ns.length = turnL ns r := by
  unfold turnL
  rw [← readyP_row h r]
  unfold rdyL readyP
  apply List.filter_congr
  intro i hi
  have hi := List.mem_range.1 hi
  unfold rdyB readyB
  rw [markL_at ns r hi, List.getElem?_eq_getElem hi]
  simp only []
  congr 1
  unfold overP
  apply List.all_congr rfl
  intro s
  unfold oneP
  cases ha : aheadP ns ns[i] s with
  | none => rfl
  | some j => exact markL_at ns r (aheadP_lt ha)

theorem marks_cells {w : World} {b : Nat} {ns : List Nd} {r : Nat} {T : TypeId} (h : w.rowIs b T ns.length (fun x => .bool (decide (rowP ns x ≤ r)))) : CellsAt w (some ⟨b, 0, none⟩) ((markL ns r).map Value.bool) := by
  refine .inr ⟨b, 0, rfl, fun j u hu => ?_⟩
  unfold markL at hu
  rw [List.map_map, List.getElem?_map] at hu
  by_cases hj : j < ns.length
  · rw [List.getElem?_range hj] at hu
    rw [Nat.zero_add, h.cell hj]
    exact hu
  · rw [List.getElem?_eq_none (by simpa using Nat.le_of_not_lt hj)] at hu
    cases hu

theorem turn_at {ns : List Nd} {r k : Nat} (hk : k < (turnL ns r).length) : (turnL ns r)[k] < ns.length ∧ rowP ns (turnL ns r)[k] = r + 1 := by
  have := List.getElem_mem hk
  unfold turnL at this
  rw [List.mem_filter] at this
  exact ⟨List.mem_range.1 this.1, of_decide_eq_true this.2⟩

/-- The marks while the first k of a turn get theirs. -/
def halfB (ns : List Nd) (r k x : Nat) : Bool := decide (rowP ns x ≤ r) || decide (x ∈ (turnL ns r).take k)

theorem halfB_zero (ns : List Nd) (r x : Nat) : halfB ns r 0 x = decide (rowP ns x ≤ r) := by unfold halfB; simp

theorem halfB_next {ns : List Nd} {r k : Nat} (hk : k < (turnL ns r).length) (x : Nat) : (if x = (turnL ns r)[k] then true else halfB ns r k x) = halfB ns r (k + 1) x := by
  unfold halfB
  rw [List.take_add_one, List.getElem?_eq_getElem hk, Option.toList_some]
  by_cases e : x = (turnL ns r)[k]
  · rw [if_pos e]
    symm
    simp only [Bool.or_eq_true, decide_eq_true_eq, List.mem_append, List.mem_singleton]
    exact .inr (.inr e)
  · rw [if_neg e]
    congr 1
    simp only [List.mem_append, List.mem_singleton, e, or_false]

theorem halfB_end {ns : List Nd} {r x : Nat} (hx : x < ns.length) : halfB ns r (turnL ns r).length x = decide (rowP ns x ≤ r + 1) := by
  unfold halfB
  rw [List.take_length]
  unfold turnL
  simp only [List.mem_filter, List.mem_range, hx, true_and, decide_eq_true_eq]
  by_cases h1 : rowP ns x ≤ r
  · have : rowP ns x ≤ r + 1 := by omega
    simp [h1, this]
  · by_cases h2 : rowP ns x = r + 1
    · simp [h2]
    · have : ¬ rowP ns x ≤ r + 1 := by omega
      simp [h1, h2, this]

theorem natsV_at {l : List Nat} {k : Nat} (hk : k < l.length) : (natsV l)[k]? = some (.int .i64 (l[k] : Nat)) := by unfold natsV; simp [hk]

/-- A row of numbers that is owned, read. -/
theorem nats_at {w : World} {B : Nat} {T : TypeId} {a : Option Addr} {c : Nat} {l : List Nat} (O : w.ownsRow B T 1 (.slice a l.length c) l.length (natsV l)) (hl : 0 < l.length) :
    ∃ g, a = some ⟨g, 0, none⟩ ∧ B ≤ g ∧ g < w.heap.size ∧ l.length ≤ c ∧ ∀ k (hk : k < l.length), w.cell? ⟨g, k, none⟩ = some (.int .i64 (l[k] : Nat)) := by
  rcases O.2 with ⟨e, h0⟩ | ⟨g, cap, cur, e, hg, _, h1, _⟩
  · omega
  · have hO := O
    simp only [Value.slice.injEq] at e
    obtain ⟨rfl, _, rfl⟩ := e
    refine ⟨g, rfl, hg, (ownsRow_blk hO rfl), by omega, fun k hk => ?_⟩
    have := hO.cells (g := g) rfl k _ (natsV_at hk)
    rw [Addr.add_lit, Nat.zero_add] at this
    exact this

set_option maxRecDepth 100000 in
set_option maxHeartbeats 8000000 in
theorem dagRuns_walk (name : ByteArray) (a : Option Addr) (c : Nat) (ns : List Nd) (w : World) (R : RawAt w a ns) (hc : ns.length ≤ c) :
    Calls Tryd.prog 5 #[.agg #[.string name, .slice a ns.length c]] w fun e w' => e = .returned (.bool true) ∧ Below w.heap.size w w' := by
  have hW := fun V => wakes_any V
  have hCut := lawCut_any (w.alloc (.cells #[.string name, .slice a ns.length c] 26)) name a ns.length c ns (R.kept (Kept.alloc (fun _ => False) _ _) (fun _ _ h => h)) rfl hc
  have hlen : (cutNs ns).length ≤ 40 := by unfold cutNs; simp; omega
  generalize cutNs ns = ms at *
  clear R
  have hm1 := fun W => run_make_row' (P := Tryd.prog) 38 4 (.bool false) 1 Tryd.underlying38 Tryd.info4 rfl .i64 .i64 ms.length (by omega) (by omega) W
  go_enter Tryd.func5, Tryd.ntmps5
  have HCk : Hid (∀ V a' c', NodesAt V a' ms → Calls Tryd.prog 12 #[.agg #[.string name, .slice a' ms.length c']] V fun e w' => e = .returned (.tuple #[.int .i64 (checkP name ms).1, .int .i64 (checkP name ms).2]) ∧ Kept (fun _ => False) V w') := fun V a' c' N => check_any V name a' ms.length c' ms N rfl
  have HDp : Hid (∀ V a' c', NodesAt V a' ms → Calls Tryd.prog 16 #[.agg #[.string name, .slice a' ms.length c']] V fun e w' => e = .returned (.int .i64 (depP ms : Nat)) ∧ Kept (fun _ => False) V w') := fun V a' c' N => depth_any V name a' ms.length c' ms N rfl (by omega)
  by_cases hT : (checkP name ms).2 = 0
  · have T := taken_of hT
    have HT : Hid (Taken name ms) := T
    have HCk2 : Hid (∀ V a' c', NodesAt V a' ms → Calls Tryd.prog 12 #[.agg #[.string name, .slice a' ms.length c']] V fun e w' => e = .returned (.tuple #[.int .i64 (-1), .int .i64 0]) ∧ Kept (fun _ => False) V w') := fun V a' c' N => by
      have h := HCk.out V a' c' N
      rw [T.check] at h
      exact h
    have hlo := T.lo
    have hdp : depP ms ≤ 40 := by
      have h1 := (depK_le ms (ordP ms) (ordP ms).length).2
      rw [List.take_length] at h1
      have h2 := ordP_len ms
      have h3 : depP ms = (depK ms (ordP ms)).2 := rfl
      omega
    have HZ : Hid (cntP ms 0 = 0) := cntP_zero T.ord
    have HP : Hid (∀ x, x < ms.length → 1 ≤ rowP ms x) := fun x hx => (lev_ord ms).pos x (ord_all T.ord x hx)
    have HTu : Hid (∀ r, rdyL ms (markL ms r) (markL ms r) ms.length = turnL ms r) := rdyL_turn T.ord
    have HPo : Hid (∀ r, r < depP ms → 0 < (turnL ms r).length) := fun r hr => ready_some T.ord hr
    have HNx : Hid (∀ r, cntP ms (r + 1) = cntP ms r + (turnL ms r).length) := cntP_next ms
    have HAl : Hid (cntP ms (depP ms) = ms.length) := cntP_all ms
    have HCl : Hid (∀ r, cntP ms r ≤ ms.length) := cntP_le ms
    clear hT HCk T
    go_wp2_with (first
      | (go_at_call 14; refine hCut.mono ?_; rintro e w1 ⟨a', c', rfl, N1, hc1, K1⟩; clear hCut; have hd := boxD K1; obtain ⟨d0, d1⟩ := hd; have B1 := BoxSt.mk' (m := ms.length) (c' := c') K1 N1; have fz := (K1.block w.heap.size (by simp) (fun h => h)).trans (heap_alloc_new _ _); obtain ⟨_, f0, f1⟩ := twoC fz; obtain ⟨⟨x0, x1⟩, _, _⟩ := twoC B1.b0; have hC := HCk2.out _ _ c' B1.nodes; have HB : Hid (BoxSt w ((w1.setCell ⟨w.heap.size, 0, none⟩ (.string name)).setCell ⟨w.heap.size, 1, none⟩ (.slice a' ms.length c')) name a' ms.length c' ms) := B1; clear B1 N1 fz HCk2)
      | (go_at_call 12; refine hC.mono ?_; rintro e w2 ⟨rfl, K2⟩; clear hC; have y0 := keepC K2 x0 (fun _ _ h => h); have y1 := keepC K2 x1 (fun _ _ h => h))
      | fail)
    have HB0 : Hid (w2.heap[w.heap.size]? = some (.cells #[.string name, .slice a' ms.length c'] 26 (0, 0))) := (K2.block _ (Array.getElem?_eq_some_iff.1 HB.out.b0).1 (fun h => h)).trans HB.out.b0
    have HN2 : Hid (NodesAt w2 a' ms) := keptNew K2 HB.out.nodes
    have HK2 : Hid (Kept (fun _ => False) w w2) := HB.out.kept.and K2
    have hbs := (Array.getElem?_eq_some_iff.1 HB0.out).1
    have HR0 : Hid ((w2.alloc (.cells (madeCells #[.bool false] ms.length) 4)).rowIs w2.heap.size 4 ms.length (fun x => .bool (decide (rowP ms x ≤ 0)))) := (World.rowIs_made w2 (.bool false) ms.length 4).congr (fun q hq => by
      have := HP.out q hq
      have e : ¬ rowP ms q ≤ 0 := by omega
      simp [e])
    clear HB K2 x0 x1 y0 y1 d0 d1 f0 f1 K1 hm1 HP
    go_loopw [7, 6] (fun q v wr => ∃ (r : Nat), r ≤ depP ms ∧ q = .int .i64 r ∧ v = .int .i64 (cntP ms r : Nat) ∧ wr.rowIs w2.heap.size 4 ms.length (fun x => .bool (decide (rowP ms x ≤ r))) ∧ Kept (fun j => j = w2.heap.size) w2 wr) (fun q _ _ => depP ms - (intOf q).toNat)
    case atStart => exact ⟨0, Nat.zero_le _, rfl, by rw [HZ.out]; rfl, HR0.out, Kept.alloc _ _ _⟩
    case round =>
      obtain ⟨r, hr, rfl, rfl, RI, K⟩ := hrel
      have N3 := HN2.out.kept K (fun k hk => by omega)
      have b3 := (K.block _ hbs (by omega)).trans HB0.out
      obtain ⟨⟨x0, x1⟩, _, _⟩ := twoC b3
      have hD := HDp.out wr a' c' N3
      have hcl := HCl.out r
      have hrl := RI.lt
      by_cases hlt : r < depP ms
      · have e0 : (r : Int) < (depP ms : Int) := by omega
        have hpos := HPo.out r hlt
        have HNr : Hid (cntP ms (r + 1) = cntP ms r + (turnL ms r).length) := HNx.out r
        have hcl2 := HCl.out (r + 1)
        have hcl3 : cntP ms r + (turnL ms r).length ≤ ms.length := by rw [← HNr.out]; exact hcl2
        have HRd : Hid (∀ V, Kept (fun _ => False) wr V → Calls Tryd.prog 17 #[.agg #[.string name, .slice a' ms.length c'], .slice (some ⟨w2.heap.size, 0, none⟩) ms.length ms.length, .slice (some ⟨w2.heap.size, 0, none⟩) ms.length ms.length] V fun e w' => ∃ av cv, e = .returned (.slice av (turnL ms r).length cv) ∧ w'.ownsRow V.heap.size 3 1 (.slice av (turnL ms r).length cv) (turnL ms r).length (natsV (turnL ms r)) ∧ Kept (fun _ => False) V w') := fun V KV => by
          have hcell := marks_cells (RI.of_block (KV.block _ RI.lt (fun h => h)))
          have h := ready_any V name a' ms.length c' ms (keptNew KV N3) rfl (by omega) (some ⟨w2.heap.size, 0, none⟩) (some ⟨w2.heap.size, 0, none⟩) ms.length ms.length (markL ms r) (markL ms r) (by rw [markL_len]; omega) (by rw [markL_len]; omega) hcell hcell
          rw [HTu.out r, markL_len] at h
          exact h
        have HRI : Hid (wr.rowIs w2.heap.size 4 ms.length (fun x => .bool (decide (rowP ms x ≤ r)))) := RI
        have hat : ∀ k (hk : k < (turnL ms r).length), (turnL ms r)[k] < ms.length ∧ rowP ms (turnL ms r)[k] = r + 1 := fun k hk => turn_at hk
        have HAt : Hid _ := hat
        have HHz : Hid (∀ x, halfB ms r 0 x = decide (rowP ms x ≤ r)) := halfB_zero ms r
        have HHn : Hid (∀ k (hk : k < (turnL ms r).length) x, (if x = (turnL ms r)[k] then true else halfB ms r k x) = halfB ms r (k + 1) x) := fun k hk x => halfB_next hk x
        have HHe : Hid (∀ x, x < ms.length → halfB ms r (turnL ms r).length x = decide (rowP ms x ≤ r + 1)) := fun x hx => halfB_end hx
        clear N3 RI hat
        generalize turnL ms r = tl at *
        go_wp2_with (first
          | (go_at_call 16; refine hD.mono ?_; rintro e w3 ⟨rfl, K3⟩; clear hD; have z0 := keepC K3 x0 (fun _ _ h => h); have z1 := keepC K3 x1 (fun _ _ h => h); have hR := HRd.out w3 K3; clear HRd)
          | (go_at_call 17; refine hR.mono ?_; rintro e w4 ⟨av, cv, rfl, O4, K4⟩; clear hR; have hgx := nats_at O4 hpos; obtain ⟨g, rfl, hg1, hg2, hg3, hgc⟩ := hgx; have hq0 : ((tl.length : Int) == 0) = false := (by rw [beq_eq_false_iff_ne]; omega))
          | fail)
        have HC4 : Hid (∀ k (hk : k < tl.length), w4.cell? ⟨g, k, none⟩ = some (.int .i64 (tl[k] : Nat))) := hgc
        have R4 : w4.rowIs w2.heap.size 4 ms.length (fun x => .bool (decide (rowP ms x ≤ r))) := (HRI.out.of_block (K3.block _ HRI.out.lt (fun h => h))).of_block (K4.block _ (by have := K3.size; omega) (fun h => h))
        have HR4 : Hid (w4.rowIs w2.heap.size 4 ms.length (fun x => .bool (decide (rowP ms x ≤ r)))) := R4
        have HK4 : Hid (Kept (fun j => j = w2.heap.size) w2 w4) := (K.and (K3.mono (fun _ h => h.elim))).and (K4.mono (fun _ h => h.elim))
        have hsz4 := K4.size
        have hsz3 := K3.size
        clear hgc R4 O4 K4 K3 z0 z1 x0 x1 b3 HRI
        go_loopw [9, 6] (fun q v wq => ∃ (k : Nat), k ≤ tl.length ∧ q = .int .i64 k ∧ v = .int .i64 (cntP ms r + k : Nat) ∧ wq = w4) (fun q _ _ => tl.length - (intOf q).toNat)
        case atStart => exact ⟨0, Nat.zero_le _, rfl, rfl, rfl⟩
        case round =>
          obtain ⟨k, hk, rfl, rfl, hwq⟩ := hrel
          subst hwq
          by_cases hlk : k < tl.length
          · have e1 : (k : Int) < (tl.length : Int) := by omega
            have c1 := HC4.out k hlk
            obtain ⟨h1, h2⟩ := HAt.out k hlk
            have c2 := HR4.out.cell h1
            have e2 : ¬ rowP ms tl[k] ≤ r := by omega
            simp only [e2, decide_false] at c2
            have e3 : (tl[k] : Int) < (ms.length : Int) := by omega
            clear h2 e2
            generalize tl[k] = t at *
            go_wp2_with fail
            go_roundw
            case rel => exact ⟨k + 1, by omega, by go_num, by go_num, trivial⟩
            case measure => simp [intOf]; omega
          · obtain rfl : k = tl.length := by omega
            go_wp2_with fail
            go_loopw [10] (fun q wq => ∃ (k : Nat), k ≤ tl.length ∧ q = .int .i64 k ∧ wq.rowIs w2.heap.size 4 ms.length (fun x => .bool (halfB ms r k x)) ∧ Kept (fun j => j = w2.heap.size) wr wq) (fun q _ => tl.length - (intOf q).toNat)
            case atStart => exact ⟨0, Nat.zero_le _, rfl, HR4.out.congr (fun x _ => by rw [HHz.out x]), Kept.refl _ _⟩
            case round =>
              obtain ⟨k, hk, rfl, RQ, KQ⟩ := hrel
              by_cases hlk : k < tl.length
              · have e1 : (k : Int) < (tl.length : Int) := by omega
                have c1 := HC4.out k hlk
                have c1' : wr.cell? ⟨g, k, none⟩ = some (.int .i64 (tl[k] : Nat)) := by
                  rw [World.cell?_of_block (KQ.block g hg2 (by omega))]
                  exact c1
                obtain ⟨h1, h2⟩ := HAt.out k hlk
                have c2 := RQ.cell h1
                have c3 := RQ.frozen tl[k]
                have e3 : (tl[k] : Int) < (ms.length : Int) := by omega
                have HSet : Hid ((wr.setCell ⟨w2.heap.size, tl[k], none⟩ (.bool true)).rowIs w2.heap.size 4 ms.length (fun x => .bool (halfB ms r (k + 1) x))) := (RQ.set tl[k] (.bool true)).congr (fun q _ => by rw [← HHn.out k hlk q]; split <;> rfl)
                clear h2 c1 RQ
                generalize tl[k] = t at *
                go_wp2_with fail
                go_roundw
                case rel => exact ⟨k + 1, by omega, by go_num, HSet.out, KQ.and (Kept.setCell _ _ _ rfl)⟩
                case measure => simp [intOf]; omega
              · obtain rfl : k = tl.length := by omega
                have HRQ : Hid (wr.rowIs w2.heap.size 4 ms.length (fun x => .bool (decide (rowP ms x ≤ r + 1)))) := RQ.congr (fun x hx => by rw [HHe.out x hx])
                clear RQ
                go_wp2_with fail
                go_roundw
                case rel => exact ⟨r + 1, by omega, by go_num, by rw [HNr.out], HRQ.out, HK4.out.and KQ⟩
                case measure => simp [intOf]; omega
      · obtain rfl : r = depP ms := by omega
        have e0 : ¬ (depP ms : Int) < (depP ms : Int) := by omega
        have hal := HAl.out
        rw [hal]
        have Kwr : Kept (fun _ => False) w wr := HK2.out.trans K (fun g h => .inr (by omega))
        clear N3 RI HAl hal HNx HPo HTu HZ HCl hcl
        generalize depP ms = dp at *
        go_wp2_with (first
          | (go_at_call 16; refine hD.mono ?_; rintro e w3 ⟨rfl, K3⟩; clear hD; have z0 := keepC K3 x0 (fun _ _ h => h); have z1 := keepC K3 x1 (fun _ _ h => h))
          | (go_at_call 13; refine (hW _).mono ?_; rintro e w5 ⟨rfl, K5⟩; clear hW)
          | fail)
        go_ret
        exact ⟨rfl, ((Kwr.and K3).and K5).none⟩
  · have hz : ((checkP name ms).2 == 0) = false := by simpa using hT
    clear hT HDp hm1
    generalize (checkP name ms).2 = z2 at *
    generalize (checkP name ms).1 = z1 at *
    go_wp2_with (first
      | (go_at_call 14; refine hCut.mono ?_; rintro e w1 ⟨a', c', rfl, N1, hc1, K1⟩; clear hCut; have hd := boxD K1; obtain ⟨d0, d1⟩ := hd; have B1 := BoxSt.mk' (m := ms.length) (c' := c') K1 N1; have fz := (K1.block w.heap.size (by simp) (fun h => h)).trans (heap_alloc_new _ _); obtain ⟨_, f0, f1⟩ := twoC fz; obtain ⟨⟨x0, x1⟩, _, _⟩ := twoC B1.b0; have hC := HCk.out _ _ c' B1.nodes; have HK := B1.kept; clear B1 N1 fz HCk)
      | (go_at_call 12; refine hC.mono ?_; rintro e w2 ⟨rfl, K2⟩; clear hC)
      | (go_at_call 13; refine (hW _).mono ?_; rintro e w3 ⟨rfl, K3⟩; clear hW)
      | fail)
    go_ret
    exact ⟨rfl, ((HK.and K2).and K3).none⟩

set_option maxRecDepth 100000 in
theorem dagRuns_lifted (os : Os) (started : os.Started) (H : Type) (enc : TypeId × Value → H) :
    ReturnsInHanded {} Tryd.checked os 5 .any (fun w args => (Rows.dagRunsSpec.pre enc Tryd.prog Tryd.f5 [] false w args ∧ laidMetH Tryd.prog laidL w) ∧ sizedMet enc Tryd.prog Tryd.f5 (OpenSpec.ofChange Rows.dagRunsSpec) false w args)
      (Rows.dagRunsSpec.post enc Tryd.prog Tryd.f5 false true false false) := by
  refine returnsInHanded_of_change_and (C := Tryd.checked) (X := fun w _ => laidMetH Tryd.prog laidL w) (fun _ _ _ hh h => h.of_heap hh) Tryd.own started (by kernel_rfl) Tryd.func5
    (ChangeSpec.witness_shaped (enc := enc) (C := Tryd.checked) (os := os) (X := fun w _ => laidMetH Tryd.prog laidL w) false (World.doorLaid Tryd.prog 62 os) #[.agg #[.string ⟨#[]⟩, .slice none 0 0]] 8 rfl (World.shaped_of_RefB (by kernel_rfl) (by kernel_rfl)) (by kernel_rfl) (by kernel_rfl) (by kernel_rfl) (door_met os _)) ?_
  intro W base args ds gs before hval0 hW _ _ hL _
  have hval : ∀ (j : Nat) t v, Tryd.f5.params[j]? = some t → args[j]? = some v → Value.okWide Tryd.prog W .any base t v := hval0
  have hW' := hW
  obtain ⟨p, q, hA0, hV, rfl, _, _⟩ := hW
  have hA : DataW.TrodAll enc Tryd.prog W 0 (fun _ => true) true Tryd.f5.params.toList args.toList ds p := hA0
  rw [Tryd.params5] at hA hval
  obtain ⟨v0, vs0, d0, ds0, p0, q0, hargs, rfl, rfl, h0, r0⟩ := trodAll_cons hA
  obtain ⟨rfl, rfl, rfl⟩ := trodAll_nil r0
  obtain rfl : args = #[v0] := by cases args; simp_all
  obtain ⟨rfl, rfl⟩ := trodVars_none hV
  have k0 := h0
  have lt0 : ∀ x ∈ p0, x.block < W.heap.size := by obtain ⟨m, hm⟩ := k0; exact DataW.trod_lt m _ _ _ hm
  obtain ⟨nm0, a0, c0, ns0, rfl, z0, y0, x0, w0⟩ := dv_open (hval 0 26 v0 rfl rfl) h0
  clear hA0 hval0
  refine (dagRuns_walk _ _ _ _ W w0 y0).mono fun e W' ⟨he, bel⟩ => ?_
  subst he
  exact ⟨_, rfl, _, _, _, [], _, [], hW', trodAll_mk1 (shut_bool Tryd.underlying4 _), (trodAll_cons_mk (Below.trod Tryd.laidOut (by kernel_rfl) (of_decide_eq_true (by kernel_rfl)) k0 bel lt0) trodAll_mk0), rfl, bel.frame _, fun h => by cases h⟩

theorem dagRuns_row : Rows.DagRunsSaid :=
  OpenClaim.holds_of_wide 5 Tryd.f5 rfl rfl rfl rfl rfl rfl rfl ⟨rfl, rfl, rfl, rfl, rfl⟩ rfl rfl rfl rfl rfl (by kernel_rfl) Tryd.func5 (by kernel_rfl)
    (of_decide_eq_true (by kernel_rfl)) (by unfold Func.isWrapper; first | (rw [if_pos (by decide +kernel)]; kernel_rfl) | (rw [if_neg (by decide +kernel)]; exact ⟨rfl, rfl⟩))
    (fun os started H enc _ => dagRuns_lifted os started H enc)

theorem dagRuns_holds : Rows.DagRunsCardSaid :=
  Claim7.holds_tied_plain_at .later [] [.data, .data, .data, .sentinel, .sentinel] true Rows.dagRunsCard.stood.harness true
    dagRuns_row (fun _ h => by cases h) (by kernel_rfl) (fun _ h => by cases h) dagRuns_row_tie rfl ⟨rfl, rfl⟩ (by kernel_rfl) rfl
    (fun f fn hf hfn => by
      obtain rfl : f = 5 := Option.some.inj ((show Tryd.prog.funcNamed "tiller/tillerlaw08.DagRuns" = some 5 by kernel_rfl).symm.trans hf) |>.symm
      obtain rfl : fn = Tryd.f5 := (Option.some.inj (Tryd.func5.symm.trans hfn)).symm
      exact ⟨by kernel_rfl, fun j t ht => by
        rw [Tryd.params5] at ht
        have hm : t ∈ [26] := by simpa using Array.mem_of_getElem? ht
        have hall : ([26].all fun u => !Tryd.prog.wantsStandIn u) = true := by kernel_rfl
        exact (show Tryd.prog.wantsStandIn t = false by simpa using List.all_eq_true.1 hall t hm)⟩)
    (by kernel_rfl)

end Go.Proofs.YtalhdgelkomaiaaDoor
