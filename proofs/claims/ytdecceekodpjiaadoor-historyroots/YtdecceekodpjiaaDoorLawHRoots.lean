/-
  HistoryRoots holds for every definition and time: the law's call returns true and leaves its arguments as they were. No condition; the listed variable is tied to the program's text.
-/
import Derived.Test.YtdecceekodpjiaaDoorHM5
import Derived.Test.YtdecceekodpjiaaDoorHM6
import Derived.Deep.QuietTactic
import Derived.BigQuiet
namespace Go.Proofs.YtdecceekodpjiaaDoor
open Go.ChangeShapes Go.WideShapes Go.ChangeAt Go.RowKit Go.Deep

theorem evF_get {l : List Ev} {i : Nat} (hi : i < l.length) : (evF l)[i * 4]? = some (.int .i64 (l[i]).kind) ∧ (evF l)[i * 4 + 1]? = some (.string (l[i]).node) ∧ (evF l)[i * 4 + 3]? = some (.int .i64 (l[i]).num) :=
  ⟨by have := flatMap_at evC_len (List.getElem?_eq_getElem hi) 0 (by decide); rw [Nat.add_zero] at this; exact this, flatMap_at evC_len (List.getElem?_eq_getElem hi) 1 (by decide), flatMap_at evC_len (List.getElem?_eq_getElem hi) 3 (by decide)⟩

/-- Events that can be read. -/
theorem evs_at {w : World} {B : Nat} {a : Option Addr} {c : Nat} {l : List Ev} (h : w.ownsRow B 59 4 (.slice a l.length c) l.length (evF l)) (hl : 0 < l.length) : ∃ g o, a = some ⟨g, o, none⟩ ∧ (l.length ≤ c ∧ l.length ≤ 9223372036854775807) ∧ ∀ V, Kept (fun _ => False) w V → ∀ k (hk : k < l.length), V.cell? ⟨g, o + k * 4, none⟩ = some (.int .i64 (l[k]).kind) ∧ V.cell? ⟨g, o + k * 4 + 1, none⟩ = some (.string (l[k]).node) ∧ V.cell? ⟨g, o + k * 4 + 3, none⟩ = some (.int .i64 (l[k]).num) := by
  obtain ⟨_, a', c', e, hc, hm, hr⟩ := flat_of_owns h
  obtain ⟨rfl, rfl⟩ : a = a' ∧ c = c' := by simpa using e
  have hmx : maxLen = 9223372036854775807 := rfl
  rcases hr with h0 | ⟨g, o, rfl, hcell⟩
  · omega
  · refine ⟨g, o, rfl, ⟨hc, by omega⟩, fun V K k hk => ?_⟩
    obtain ⟨q0, q1, q3⟩ := evF_get hk
    exact ⟨keepC K (hcell _ _ q0) (fun _ _ h => h), by rw [Nat.add_assoc]; exact keepC K (hcell _ _ q1) (fun _ _ h => h), by rw [Nat.add_assoc]; exact keepC K (hcell _ _ q3) (fun _ _ h => h)⟩

/-- Standings that can be read. -/
theorem nss_at {w : World} {B : Nat} {a : Option Addr} {c : Nat} {l : List Ns} (h : w.ownsRow B 54 3 (.slice a l.length c) l.length (nsF l)) (hl : 0 < l.length) : ∃ g o, a = some ⟨g, o, none⟩ ∧ l.length ≤ c ∧ ∀ V, Kept (fun _ => False) w V → ∀ k (hk : k < l.length), V.cell? ⟨g, o + k * 3, none⟩ = some (.int .i64 (l[k]).status) := by
  obtain ⟨_, a', c', e, hc, _, hr⟩ := flat_of_owns h
  obtain ⟨rfl, rfl⟩ : a = a' ∧ c = c' := by simpa using e
  rcases hr with h0 | ⟨g, o, rfl, hcell⟩
  · omega
  · exact ⟨g, o, rfl, hc, fun V K k hk => keepC K (hcell _ _ (nsF_get hk).1) (fun _ _ h => h)⟩

/-- What one name of After asks of one node. -/
def oneF (ns : List Nd) (l : List Ns) (s : ByteArray) (j : Nat) : Bool := match ns[j]?, l[j]? with | some z, some y => !(decide (z.name = s)) || y.status == 3 | _, _ => true
def allF (ns : List Nd) (l : List Ns) (s : ByteArray) (k : Nat) : Bool := (List.range k).all (oneF ns l s)
def firstF (ns : List Nd) (l : List Ns) (x : Nd) (k : Nat) : Bool := (x.after.take k).all (fun s => allF ns l s ns.length)

theorem allF_next (ns : List Nd) (l : List Ns) (s : ByteArray) (k : Nat) : allF ns l s (k + 1) = (allF ns l s k && oneF ns l s k) := by
  unfold allF
  rw [List.range_succ, List.all_append]
  simp

theorem oneF_at {ns : List Nd} {l : List Ns} (s : ByteArray) {j : Nat} (h : j < ns.length) (h2 : j < l.length) : oneF ns l s j = (!(decide ((ns[j]).name = s)) || (l[j]).status == 3) := by
  unfold oneF
  rw [List.getElem?_eq_getElem h, List.getElem?_eq_getElem h2]

theorem firstF_next {ns : List Nd} {l : List Ns} {x : Nd} {k : Nat} (hk : k < x.after.length) : firstF ns l x (k + 1) = (firstF ns l x k && allF ns l x.after[k] ns.length) := by
  unfold firstF
  rw [List.take_succ_eq_append_getElem hk, List.all_append]
  simp

theorem firstF_all (ns : List Nd) (l : List Ns) (x : Nd) : firstF ns l x x.after.length = freeB ns l x := by
  unfold firstF
  rw [List.take_length]
  rfl

theorem began_next {evs : List Ev} {nm : ByteArray} {k : Nat} (hk : k < evs.length) : beganC (evs.take (k + 1)) nm = beganC (evs.take k) nm + if (decide ((evs[k]).node = nm) && decide ((evs[k]).kind ≠ 1)) = true then 1 else 0 := by
  unfold beganC
  rw [List.take_succ_eq_append_getElem hk, List.countP_append, List.countP_cons, List.countP_nil, Nat.zero_add]

theorem began_le (evs : List Ev) (nm : ByteArray) (k : Nat) : beganC (evs.take k) nm ≤ k := Nat.le_trans List.countP_le_length (by rw [List.length_take]; omega)

theorem fits_delay {n : Nd} (h : fitsP n = true) : 0 ≤ n.delay ∧ n.delay ≤ 1000000 := by
  unfold fitsP at h
  split at h
  · cases h
  · rename_i h1
    simp only [Bool.or_eq_true, decide_eq_true_eq] at h1
    omega

def rootQ (now : Int) : Inp := ⟨1, ⟨#[]⟩, ⟨#[102]⟩, ⟨#[]⟩, 0, 0, now, ⟨#[]⟩, ⟨#[]⟩⟩

set_option maxRecDepth 100000 in
set_option maxHeartbeats 8000000 in
theorem historyRoots_walk (name : ByteArray) (a : Option Addr) (c : Nat) (ns0 : List Nd) (w : World) (R0 : RawAt w a ns0) (hnm : name.size ≤ maxLen) (hc : ns0.length ≤ c) (now0 : Int) (M : MovesAt w) :
    Calls Tryd.prog 5 #[.agg #[.string name, .slice a ns0.length c], .int .i64 now0] w fun e w' => e = .returned (.bool true) ∧ Below w.heap.size w w' := by
  have hCut := hcut_any (w.alloc (.cells #[.string name, .slice a ns0.length c] 28)) name a ns0.length c ns0 rfl hc
  obtain ⟨ns, hns⟩ : ∃ ns, ns = ns0.take 32 := ⟨_, rfl⟩
  rw [← hns] at hCut
  have R : RawAt w a ns := by rw [hns]; exact R0.take 32
  have h32 : ns.length ≤ 32 := by rw [hns, List.length_take]; omega
  have hcc : ns.length ≤ c := by rw [hns, List.length_take]; omega
  have HTk : Hid (∀ b, decide ((checkP name ns).2 = 0) = b → ∀ V, RawAt V a ns → Calls Tryd.prog 11 #[.agg #[.string name, .slice a ns.length c]] V fun e w' => e = .returned (.bool b) ∧ Kept (fun _ => False) V w') := fun b hb V RV => taken_any V name a _ c _ RV rfl h32 hnm b hb
  have HR := hid R
  have HM := hid M
  clear R R0 M hns hc
  by_cases hT : (checkP name ns).2 = 0
  · have T := taken_of hT
    have HT := hid T
    have HTk2 := hid (HTk.out true (by simp [hT]))
    clear HTk hT
    go_enter Tryd.func5, Tryd.ntmps5
    go_upto_region 4 with (first
      | (go_at_call 10; refine hCut.mono ?_; rintro e w1 ⟨rfl, K1⟩; clear hCut; obtain ⟨_, f0, f1⟩ := pairF ((K1.block w.heap.size (by simp) (fun h => h)).trans (heap_alloc_new _ _)); have hb := cut_box (n' := ns.length) K1 HR.out; obtain ⟨⟨x0, x1⟩, _, _⟩ := pairF hb.1; have hTk := HTk2.out _ hb.2.2; have HB := hid hb; clear hb)
      | (go_at_call 11; refine hTk.mono ?_; rintro e w2 ⟨rfl, K2⟩; clear hTk)
      | fail)
    have hb2 := (K2.block _ (Array.getElem?_eq_some_iff.1 HB.out.1).1 (fun h => h)).trans HB.out.1
    have HK2 := hid (HB.out.2.1.and K2)
    have D2 := HT.out.at (keptRaw K2 HB.out.2.2) (HM.out.kept HK2.out (fun h => h))
    obtain ⟨⟨d0, d1⟩, _, _⟩ := pairF hb2
    have hsz : w.heap.size < w2.heap.size := (Array.getElem?_eq_some_iff.1 hb2).1
    have HB2 := hid hb2
    obtain ⟨now, hnow⟩ : ∃ now : Int, now0 % 1125899906842625 = now := ⟨_, rfl⟩
    have hn0 : 0 ≤ now := by rw [← hnow]; exact Int.emod_nonneg _ (by decide)
    have hn1 : now < 1125899906842625 := by rw [← hnow]; exact Int.emod_lt_of_pos _ (by decide)
    have hWi := within_wide w2 now0 1125899906842625 (by decide) (by decide)
    rw [hnow] at hWi
    have hr := rooted (nm := name) HT.out.sound (fun x hx => by obtain ⟨i, hi, rfl⟩ := List.mem_iff_getElem.1 hx; exact (afterE_ok (HT.out.aft i hi)).1) (rootQ now)
    have hev := (goOnP_told (nm := name) (ns := ns) (r := startR name ns (rootQ now))).count.2.2
    have hst := start_is (nm := name) (ns := ns) (rootQ now) rfl
    generalize goOnP name ns (startR name ns (rootQ now)) = r at *
    have hev : 1 ≤ r.evs.length := hev
    have hS := step_ok (c := c) (n := ns.length) D2 rfl (zeroSt_rd _) zeroSt_small (q := rootQ now) (by show (1 : Nat) ≤ _; decide) (by show 0 ≤ _; decide) hst
    dsimp only [zeroSt, rootQ] at hS
    have HR1 := hid hr
    have HD2 := hid D2
    clear hr D2 hst HTk2 K2 HB f0 f1 x0 x1 K1 hb2 hnow
    go_upto_region 6 with (first
      | (go_at_call 7; refine hWi.mono ?_; rintro e w3 ⟨rfl, rfl⟩; clear hWi)
      | (go_at_call 8; refine hS.mono ?_; rintro e w4 ⟨ae, ce, a6, c6, a7, c7, at_, ct, rfl, A4, K4⟩; clear hS)
      | fail)
    have KV := K4.and (Kept.alloc (fun _ => False) w4 (.cells #[.string r.st.dfn, .string r.st.id, .string r.st.par, .string r.st.pnode, .int .i64 r.st.status, .string r.st.text, .slice a6 r.st.nodes.length c6, .slice a7 r.st.sigs.length c7, .int .i64 r.st.events] 39))
    have bV := heap_alloc_new w4 (.cells #[.string r.st.dfn, .string r.st.id, .string r.st.par, .string r.st.pnode, .int .i64 r.st.status, .string r.st.text, .slice a6 r.st.nodes.length c6, .slice a7 r.st.sigs.length c7, .int .i64 r.st.events] 39)
    have KA := Kept.alloc (fun _ => False) w4 (.cells #[.string r.st.dfn, .string r.st.id, .string r.st.par, .string r.st.pnode, .int .i64 r.st.status, .string r.st.text, .slice a6 r.st.nodes.length c6, .slice a7 r.st.sigs.length c7, .int .i64 r.st.events] 39)
    have dV := (KV.block _ (Array.getElem?_eq_some_iff.1 HB2.out).1 (fun h => h)).trans HB2.out
    have hlen := HR1.out.len
    have hlo := HT.out.lo
    obtain ⟨ge, oe, rfl, ⟨hce, hem⟩, hEv⟩ := evs_at A4.evs (by omega)
    obtain ⟨g6, o6, rfl, hc6, hNs⟩ := nss_at A4.nodes (by omega)
    obtain ⟨bn, on, av0, cv0, rfl, hjunk⟩ := HD2.out.nodes.at (i := 0) (by omega)
    clear hjunk
    have HEv : Hid (∀ V, Kept (fun _ => False) (w4.alloc (.cells #[.string r.st.dfn, .string r.st.id, .string r.st.par, .string r.st.pnode, .int .i64 r.st.status, .string r.st.text, .slice (some ⟨g6, o6, none⟩) r.st.nodes.length c6, .slice a7 r.st.sigs.length c7, .int .i64 r.st.events] 39)) V → ∀ k (hk : k < r.evs.length), V.cell? ⟨ge, oe + k * 4, none⟩ = some (.int .i64 (r.evs[k]).kind) ∧ V.cell? ⟨ge, oe + k * 4 + 1, none⟩ = some (.string (r.evs[k]).node) ∧ V.cell? ⟨ge, oe + k * 4 + 3, none⟩ = some (.int .i64 (r.evs[k]).num)) := fun V K => hEv V (KA.and K)
    have HNs : Hid (∀ V, Kept (fun _ => False) (w4.alloc (.cells #[.string r.st.dfn, .string r.st.id, .string r.st.par, .string r.st.pnode, .int .i64 r.st.status, .string r.st.text, .slice (some ⟨g6, o6, none⟩) r.st.nodes.length c6, .slice a7 r.st.sigs.length c7, .int .i64 r.st.events] 39)) V → ∀ k (hk : k < r.st.nodes.length), V.cell? ⟨g6, o6 + k * 3, none⟩ = some (.int .i64 (r.st.nodes[k]).status)) := fun V K => hNs V (KA.and K)
    have HNd : Hid (∀ V, Kept (fun _ => False) (w4.alloc (.cells #[.string r.st.dfn, .string r.st.id, .string r.st.par, .string r.st.pnode, .int .i64 r.st.status, .string r.st.text, .slice (some ⟨g6, o6, none⟩) r.st.nodes.length c6, .slice a7 r.st.sigs.length c7, .int .i64 r.st.events] 39)) V → ∀ k (hk : k < ns.length), V.cell? ⟨bn, on + k * 7, none⟩ = some (.string (ns[k]).name) ∧ V.cell? ⟨bn, on + k * 7 + 4, none⟩ = some (.int .i64 (ns[k]).delay) ∧ ∃ av cv, V.cell? ⟨bn, on + k * 7 + 6, none⟩ = some (.slice av (ns[k]).after.length cv) ∧ TextsAt V (.slice av (ns[k]).after.length cv) (ns[k]).after) := fun V K k hk => by
      obtain ⟨b', o', av, cv, e, hT, q0, _, _, _, q4, _, q6⟩ := (keptNew (KV.and K) HD2.out.nodes).at hk
      simp only [Option.some.injEq, Addr.mk.injEq, and_true] at e
      obtain ⟨rfl, rfl⟩ := e
      exact ⟨q0, q4, av, cv, q6, hT⟩
    have HBx : Hid (∀ V, Kept (fun _ => False) (w4.alloc (.cells #[.string r.st.dfn, .string r.st.id, .string r.st.par, .string r.st.pnode, .int .i64 r.st.status, .string r.st.text, .slice (some ⟨g6, o6, none⟩) r.st.nodes.length c6, .slice a7 r.st.sigs.length c7, .int .i64 r.st.events] 39)) V → V.cell? ⟨w.heap.size, 1, none⟩ = some (.slice (some ⟨bn, on, none⟩) ns.length c) ∧ V.cell? ⟨w4.heap.size, 4, none⟩ = some (.int .i64 r.st.status) ∧ V.cell? ⟨w4.heap.size, 6, none⟩ = some (.slice (some ⟨g6, o6, none⟩) r.st.nodes.length c6) ∧ V.cell? ⟨w4.heap.size, 8, none⟩ = some (.int .i64 r.st.events)) := fun V K => by
      obtain ⟨⟨_, q1⟩, _⟩ := pairF dV
      obtain ⟨⟨_, _, _, _, t4, _, t6, _, t8⟩, _⟩ := nine bV
      exact ⟨keepC K q1 (fun _ _ h => h), keepC K t4 (fun _ _ h => h), keepC K t6 (fun _ _ h => h), keepC K t8 (fun _ _ h => h)⟩
    have HKV := hid (HK2.out.and KV)
    have n1 : ((r.st.nodes.length : Int) != (ns.length : Int)) = false := by rw [hlen]; simp
    have n2 : (r.st.events != (r.evs.length : Int)) = false := by rw [HR1.out.evs]; simp
    have HL := hid hlen
    have hnn : r.st.nodes.length ≤ 32 := by omega
    clear hEv hNs KV KA bV dV A4 K4 d0 d1 hlen
    generalize (w4.alloc (.cells #[.string r.st.dfn, .string r.st.id, .string r.st.par, .string r.st.pnode, .int .i64 r.st.status, .string r.st.text, .slice (some ⟨g6, o6, none⟩) r.st.nodes.length c6, .slice a7 r.st.sigs.length c7, .int .i64 r.st.events] 39)) = V4 at *
    generalize w4.heap.size = sb at *
    obtain ⟨y1, y4, y6, y8⟩ := HBx.out _ (Kept.refl _ _)
    go_wp2_with fail
    clear y1 y4 y6 y8
    go_loopw [9] (fun q wr => ∃ (i : Nat), i ≤ ns.length ∧ q = .int .i64 i ∧ Kept (fun _ => False) V4 wr) (fun q _ => ns.length - (intOf q).toNat)
    case atStart => exact ⟨0, Nat.zero_le _, rfl, Kept.refl _ _⟩
    case round =>
      obtain ⟨i, hi, rfl, K⟩ := hrel
      obtain ⟨y1, y4, y6, _⟩ := HBx.out _ K
      by_cases hlt : i < ns.length
      · have e0 : (i : Int) < (ns.length : Int) := by omega
        by_cases hst : r.st.status = 1
        · have hst' : (r.st.status == 1) = true := by simp [hst]
          have hil : i < r.st.nodes.length := by rw [HL.out]; exact hlt
          obtain ⟨d0, d4, av, cv, d6, hTx⟩ := HNd.out _ K i hlt
          have n0 := HNs.out _ K i hil
          have HTx : Hid (∀ V, Kept (fun _ => False) wr V → TextsAt V (.slice av (ns[i]).after.length cv) (ns[i]).after) := fun V KV => hTx.kept KV (fun _ _ h => h)
          have HFr := hid (HR1.out.free hst i ns[i] r.st.nodes[i] (List.getElem?_eq_getElem hlt) (List.getElem?_eq_getElem hil))
          have HOn := hid (HR1.out.once hst i ns[i] r.st.nodes[i] (List.getElem?_eq_getElem hlt) (List.getElem?_eq_getElem hil))
          have HTm : Hid (∀ k (hk : k < r.evs.length), (r.evs[k]).kind = 7 → (r.evs[k]).node = (ns[i]).name → (r.evs[k]).num = IntKind.i64.wrap (now + (ns[i]).delay)) := fun k hk h7 hn => HR1.out.time hst r.evs[k] (List.getElem_mem hk) h7 ns[i] (List.getElem_mem hlt) hn
          have hfew : (ns[i]).after.length ≤ 1000000 := HT.out.afters _ (List.getElem_mem hlt)
          have hdl := fits_delay (nodeE_ok (HT.out.nod i hlt)).2.2
          have HK := hid K
          obtain ⟨W1, hW1⟩ : ∃ W1, W1 = wr := ⟨_, rfl⟩
          subst hW1
          generalize ns[i] = x at *
          generalize r.st.nodes[i] = y at *
          clear hTx K hst
          go_wp2_with fail
          have HC : Hid (∀ V, Kept (fun _ => False) W1 V → V.cell? ⟨bn, on + i * 7, none⟩ = some (.string x.name) ∧ V.cell? ⟨bn, on + i * 7 + 4, none⟩ = some (.int .i64 x.delay) ∧ V.cell? ⟨bn, on + i * 7 + 6, none⟩ = some (.slice av x.after.length cv) ∧ V.cell? ⟨g6, o6 + i * 3, none⟩ = some (.int .i64 y.status)) := fun V KV => ⟨keepC KV d0 (fun _ _ h => h), keepC KV d4 (fun _ _ h => h), keepC KV d6 (fun _ _ h => h), keepC KV n0 (fun _ _ h => h)⟩
          clear d0 d4 d6 n0 y1 y4 y6
          go_loopw [10, 11] (fun f q wr => ∃ (k : Nat), k ≤ x.after.length ∧ q = .int .i64 k ∧ f = .bool (firstF ns r.st.nodes x k) ∧ Kept (fun _ => False) W1 wr) (fun _ q _ => x.after.length - (intOf q).toNat)
          case atStart => exact ⟨0, Nat.zero_le _, rfl, rfl, Kept.refl _ _⟩
          case round =>
            obtain ⟨k, hk, rfl, rfl, K2⟩ := hrel
            obtain ⟨y1, y4, y6, _⟩ := HBx.out _ (HK.out.and K2)
            obtain ⟨d0, d4, d6, n0⟩ := HC.out _ K2
            by_cases hka : k < x.after.length
            · have e1 : (k : Int) < (x.after.length : Int) := by omega
              have hT2 := HTx.out _ K2
              obtain ⟨a2, c2', hsl, hc2, hne⟩ := hT2.at
              obtain ⟨rfl, rfl⟩ : av = a2 ∧ cv = c2' := by simpa using hsl
              obtain ⟨xb, xo, rfl, hcell⟩ := hne (fun e => by rw [e] at hka; simp at hka)
              have hck := hcell k hka
              have HNx := hid (firstF_next (ns := ns) (l := r.st.nodes) hka)
              have HK2 := hid K2
              obtain ⟨W2, hW2⟩ : ∃ W2, W2 = wr := ⟨_, rfl⟩
              subst hW2
              generalize x.after[k] = s at *
              generalize hfk : firstF ns r.st.nodes x k = fk at *
              clear hT2 hsl hne hcell K2 hfk
              go_wp2_with fail
              have HC2 : Hid (∀ V, Kept (fun _ => False) W2 V → V.cell? ⟨xb, xo + k, none⟩ = some (.string s)) := fun V KV => keepC KV hck (fun _ _ h => h)
              clear hck y1 y4 y6 d0 d4 d6 n0
              go_loopw [10, 12] (fun f q wr => ∃ (j : Nat), j ≤ ns.length ∧ q = .int .i64 j ∧ f = .bool (fk && allF ns r.st.nodes s j) ∧ Kept (fun _ => False) W2 wr) (fun _ q _ => ns.length - (intOf q).toNat)
              case atStart => exact ⟨0, Nat.zero_le _, rfl, by simp [allF], Kept.refl _ _⟩
              case round =>
                obtain ⟨j, hj, rfl, rfl, K3⟩ := hrel
                have K13 := HK2.out.and K3
                obtain ⟨y1, y4, y6, _⟩ := HBx.out _ (HK.out.and K13)
                obtain ⟨d0, d4, d6, n0⟩ := HC.out _ K13
                have hck := HC2.out _ K3
                by_cases hjl : j < ns.length
                · have e2 : (j : Int) < (ns.length : Int) := by omega
                  have hjn : j < r.st.nodes.length := by rw [HL.out]; exact hjl
                  have e3 : (j : Int) < (r.st.nodes.length : Int) := by omega
                  obtain ⟨z0, _⟩ := HNd.out _ (HK.out.and K13) j hjl
                  have m0 := HNs.out _ (HK.out.and K13) j hjn
                  have w1 : IntKind.i64.wrap (i : Int) = (i : Int) := by rw [IntKind.wrap_i64]; omega
                  have w2 : IntKind.i64.wrap (j : Int) = (j : Int) := by rw [IntKind.wrap_i64]; omega
                  have w3 : IntKind.i64.wrap (k : Int) = (k : Int) := by rw [IntKind.wrap_i64]; omega
                  have HA : Hid (allF ns r.st.nodes s (j + 1) = (allF ns r.st.nodes s j && (!(decide ((ns[j]).name = s)) || (r.st.nodes[j]).status == 3))) := by show _ = _; rw [allF_next, oneF_at s hjl hjn]
                  have HK3 := hid K3
                  generalize hal : allF ns r.st.nodes s j = al at *
                  clear K3 K13 hal
                  have hse := str_eq (ns[j]).name s
                  generalize (ns[j]).name = zn at *
                  generalize (r.st.nodes[j]).status = zs at *
                  cases hfa : (fk && al) with
                  | false =>
                    have HX : Hid ((fk && allF ns r.st.nodes s (j + 1)) = false) := by show _ = _; rw [HA.out, ← Bool.and_assoc, hfa]; rfl
                    clear hfa
                    go_wp2_with (first | go_quiet (fail) | fail)
                    go_roundw
                    case rel => exact ⟨j + 1, by omega, by go_num, by rw [HX.out], HK3.out.and (Kept.drewN _ _ _)⟩
                    case measure => simp [intOf]; omega
                  | true =>
                    by_cases he : zn = s
                    · have hq : (zn.toList == s.toList) = true := by rw [he]; simp
                      have hq2 : (zn.toList != s.toList) = false := by rw [he]; simp
                      have HX : Hid ((fk && allF ns r.st.nodes s (j + 1)) = (zs == 3)) := by show _ = _; rw [HA.out, ← Bool.and_assoc, hfa, he]; simp
                      clear hse he
                      generalize hz3 : (zs == 3) = b3 at *
                      go_wp2_with (first | go_quiet (fail) | fail)
                      go_roundw
                      case rel => exact ⟨j + 1, by omega, by go_num, by rw [HX.out], HK3.out.and (Kept.drewN _ _ _)⟩
                      case measure => simp [intOf]; omega
                    · have hq : (zn.toList != s.toList) = true := by simp only [bne, hse, he, decide_false, Bool.not_false]
                      have HX : Hid ((fk && allF ns r.st.nodes s (j + 1)) = true) := by show _ = _; rw [HA.out, ← Bool.and_assoc, hfa]; simp [he]
                      simp only [he, decide_false] at hse
                      clear he
                      go_wp2_with (first | go_quiet (fail) | fail)
                      go_roundw
                      case rel => exact ⟨j + 1, by omega, by go_num, by rw [HX.out], HK3.out.and (Kept.drewN _ _ _)⟩
                      case measure => simp [intOf]; omega
                · obtain rfl : j = ns.length := by omega
                  have e2 : ¬ (ns.length : Int) < (ns.length : Int) := by omega
                  have HK3 := hid K13
                  clear K3 K13
                  obtain ⟨fa, hfa⟩ : ∃ fa, (fk && allF ns r.st.nodes s ns.length) = fa := ⟨_, rfl⟩
                  have HX : Hid (firstF ns r.st.nodes x (k + 1) = fa) := HNx.out.trans hfa
                  rw [hfa]
                  clear hfa
                  go_wp2_with fail
                  go_roundw
                  case rel => exact ⟨k + 1, by omega, by go_num, by rw [HX.out], HK3.out⟩
                  case measure => simp [intOf]; omega
            · obtain rfl : k = x.after.length := by omega
              have e1 : ¬ (x.after.length : Int) < (x.after.length : Int) := by omega
              obtain ⟨fb, hfb⟩ : ∃ fb, (!(y.status == 0)) = fb := ⟨_, rfl⟩
              have hfa : firstF ns r.st.nodes x x.after.length = fb := by rw [firstF_all, ← hfb]; exact HFr.out
              rw [hfa]
              have HK2 := hid (HK.out.and K2)
              have HK2' := hid K2
              have e2 : (i : Int) < (r.st.nodes.length : Int) := by omega
              have hbn : (y.status != 0) = fb := hfb
              have HOn2 : Hid (beganC r.evs x.name = if fb = true then 1 else 0) := by
                show _ = _
                rw [HOn.out, ← hfb]
                by_cases h0 : y.status = 0 <;> simp [h0]
              obtain ⟨W2, hW2⟩ : ∃ W2, W2 = wr := ⟨_, rfl⟩
              subst hW2
              clear hfa K2 hfb
              go_wp2_with fail
              clear y1 y4 y6 d0 d4 d6 n0 hbn
              go_loopw [13, 14] (fun g q wr => ∃ (k : Nat), k ≤ r.evs.length ∧ q = .int .i64 k ∧ g = .int .i64 (beganC (r.evs.take k) x.name : Nat) ∧ Kept (fun _ => False) W2 wr) (fun _ q _ => r.evs.length - (intOf q).toNat)
              case atStart => exact ⟨0, Nat.zero_le _, rfl, rfl, Kept.refl _ _⟩
              case round =>
                obtain ⟨k, hk, rfl, rfl, K4⟩ := hrel
                have K13 := HK2'.out.and K4
                obtain ⟨y1, y4, y6, _⟩ := HBx.out _ (HK.out.and K13)
                obtain ⟨d0, d4, d6, n0⟩ := HC.out _ K13
                have hbl := began_le r.evs x.name k
                by_cases hke : k < r.evs.length
                · have e3 : (k : Int) < (r.evs.length : Int) := by omega
                  obtain ⟨v0, v1, v3⟩ := HEv.out _ (HK.out.and K13) k hke
                  have HNx := hid (began_next (nm := x.name) hke)
                  have HTk' := hid (HTm.out k hke)
                  have HK4 := hid K4
                  have w1 : IntKind.i64.wrap (i : Int) = (i : Int) := by rw [IntKind.wrap_i64]; omega
                  have w2 : IntKind.i64.wrap (k : Int) = (k : Int) := by rw [IntKind.wrap_i64]; omega
                  have hse := str_eq (r.evs[k]).node x.name
                  generalize hbg : beganC (r.evs.take k) x.name = bg at *
                  generalize (r.evs[k]).node = nd at *
                  generalize (r.evs[k]).kind = kk at *
                  generalize (r.evs[k]).num = nu at *
                  clear K4 K13 hbg
                  by_cases he : nd = x.name
                  · have HX0 : Hid (kk = 1 → beganC (r.evs.take (k + 1)) x.name = bg) := fun h => by rw [HNx.out]; simp [h]
                    have HX1 : Hid (¬ kk = 1 → beganC (r.evs.take (k + 1)) x.name = bg + 1) := fun h => by rw [HNx.out]; simp [h, he]
                    simp only [he, decide_true] at hse
                    by_cases h7 : kk = 7
                    · have hw : IntKind.i64.wrap (now + x.delay) = now + x.delay := by rw [IntKind.wrap_i64]; omega
                      have hnu : nu = now + x.delay := (HTk'.out h7 he).trans hw
                      have HX : Hid (beganC (r.evs.take (k + 1)) x.name = bg + 1) := HX1.out (by omega)
                      subst h7 he
                      subst hnu
                      clear HNx HTk' HX0 HX1 hw
                      go_wp2_with (first | go_quiet (fail) | fail)
                      go_roundw
                      case rel => exact ⟨k + 1, by omega, by go_num, by rw [HX.out]; go_num, HK4.out.and (by first | exact Kept.drewN _ _ _ | exact (Kept.drewN _ _ _).and (Kept.drewN _ _ _))⟩
                      case measure => simp [intOf]; omega
                    · have q7 : (kk == 7) = false := by simpa using h7
                      by_cases h1 : kk = 1
                      · have HX : Hid (beganC (r.evs.take (k + 1)) x.name = bg) := HX0.out h1
                        subst h1 he
                        clear HNx HTk' HX0 HX1 h7
                        go_wp2_with (first | go_quiet (fail) | fail)
                        go_roundw
                        case rel => exact ⟨k + 1, by omega, by go_num, by rw [HX.out], HK4.out.and (by first | exact Kept.drewN _ _ _ | exact (Kept.drewN _ _ _).and (Kept.drewN _ _ _))⟩
                        case measure => simp [intOf]; omega
                      · have HX : Hid (beganC (r.evs.take (k + 1)) x.name = bg + 1) := HX1.out h1
                        have q1 : (kk != 1) = true := by simpa using h1
                        subst he
                        clear HNx HTk' HX0 HX1 h7 h1
                        go_wp2_with (first | go_quiet (fail) | fail)
                        go_roundw
                        case rel => exact ⟨k + 1, by omega, by go_num, by rw [HX.out]; go_num, HK4.out.and (by first | exact Kept.drewN _ _ _ | exact (Kept.drewN _ _ _).and (Kept.drewN _ _ _))⟩
                        case measure => simp [intOf]; omega
                  · have HX : Hid (beganC (r.evs.take (k + 1)) x.name = bg) := by show _ = _; rw [HNx.out]; simp [he]
                    simp only [he, decide_false] at hse
                    clear HNx HTk' he
                    by_cases h7 : kk = 7
                    · subst h7
                      go_wp2_with (first | go_quiet (fail) | fail)
                      go_roundw
                      case rel => exact ⟨k + 1, by omega, by go_num, by rw [HX.out], HK4.out.and (by first | exact Kept.drewN _ _ _ | exact (Kept.drewN _ _ _).and (Kept.drewN _ _ _))⟩
                      case measure => simp [intOf]; omega
                    · have q7 : (kk == 7) = false := by simpa using h7
                      clear h7
                      go_wp2_with (first | go_quiet (fail) | fail)
                      go_roundw
                      case rel => exact ⟨k + 1, by omega, by go_num, by rw [HX.out], HK4.out.and (by first | exact Kept.drewN _ _ _ | exact (Kept.drewN _ _ _).and (Kept.drewN _ _ _))⟩
                      case measure => simp [intOf]; omega
                · obtain rfl : k = r.evs.length := by omega
                  have e3 : ¬ (r.evs.length : Int) < (r.evs.length : Int) := by omega
                  have HK4 := hid (HK.out.and K13)
                  clear K4 K13
                  cases fb
                  · have h0 : ((beganC (r.evs.take r.evs.length) x.name : Nat) : Int) = 0 := by rw [List.take_length, HOn2.out]; rfl
                    rw [h0]
                    clear h0 hbl
                    go_wp2_with fail
                    go_roundw
                    case rel => exact ⟨i + 1, by omega, by go_num, HK4.out⟩
                    case measure => simp [intOf]; omega
                  · have h0 : ((beganC (r.evs.take r.evs.length) x.name : Nat) : Int) = 1 := by rw [List.take_length, HOn2.out]; rfl
                    rw [h0]
                    clear h0 hbl
                    go_wp2_with fail
                    go_roundw
                    case rel => exact ⟨i + 1, by omega, by go_num, HK4.out⟩
                    case measure => simp [intOf]; omega
        · have hst' : (r.st.status == 1) = false := by simpa using hst
          have hW := wakes_any wr (HM.out.kept (HKV.out.and K) (fun h => h))
          have HK := hid K
          clear K
          go_wp2_with (first
            | (go_at_call 9; refine hW.mono ?_; rintro e w8 ⟨rfl, K8⟩; clear hW)
            | fail)
          go_ret
          exact ⟨rfl, ((HKV.out.and HK.out).and K8).none⟩
      · obtain rfl : i = ns.length := by omega
        have e0 : ¬ (ns.length : Int) < (ns.length : Int) := by omega
        have hW := wakes_any wr (HM.out.kept (HKV.out.and K) (fun h => h))
        have HK := hid K
        clear K
        go_wp2_with (first
          | (go_at_call 9; refine hW.mono ?_; rintro e w8 ⟨rfl, K8⟩; clear hW)
          | fail)
        go_ret
        exact ⟨rfl, ((HKV.out.and HK.out).and K8).none⟩
  · have HTk2 := hid (HTk.out false (by simp [hT]))
    have hW := fun V (K : Kept (fun _ => False) w V) => wakes_any V (HM.out.kept K (fun h => h))
    have HW := hid hW
    clear HTk hT hW
    go_enter Tryd.func5, Tryd.ntmps5
    go_wp2_with (first
      | (go_at_call 10; refine hCut.mono ?_; rintro e w1 ⟨rfl, K1⟩; clear hCut; obtain ⟨_, f0, f1⟩ := pairF ((K1.block w.heap.size (by simp) (fun h => h)).trans (heap_alloc_new _ _)); have hb := cut_box (n' := ns.length) K1 HR.out; obtain ⟨⟨x0, x1⟩, _, _⟩ := pairF hb.1; have hTk := HTk2.out _ hb.2.2; have HB := hid hb; clear hb)
      | (go_at_call 11; refine hTk.mono ?_; rintro e w2 ⟨rfl, K2⟩; clear hTk; have hW := HW.out w2 (HB.out.2.1.and K2))
      | (go_at_call 9; refine hW.mono ?_; rintro e w8 ⟨rfl, K8⟩; clear hW)
      | fail)
    go_ret
    exact ⟨rfl, ((HB.out.2.1.and K2).and K8).none⟩

set_option maxRecDepth 100000 in
theorem historyRoots_lifted (os : Os) (started : os.Started) (H : Type) (enc : TypeId × Value → H) :
    ReturnsInHanded {} Tryd.checked os 5 .any (fun w args => (Rows.historyRootsSpec.pre enc Tryd.prog Tryd.f5 [] false w args ∧ laidMetH Tryd.prog laidL w) ∧ sizedMet enc Tryd.prog Tryd.f5 (OpenSpec.ofChange Rows.historyRootsSpec) false w args)
      (Rows.historyRootsSpec.post enc Tryd.prog Tryd.f5 false true false false) := by
  refine returnsInHanded_of_change_and (C := Tryd.checked) (X := fun w _ => laidMetH Tryd.prog laidL w) (fun _ _ _ hh h => h.of_heap hh) Tryd.own started (by kernel_rfl) Tryd.func5
    (ChangeSpec.witness_shaped (enc := enc) (C := Tryd.checked) (os := os) (X := fun w _ => laidMetH Tryd.prog laidL w) false (World.doorLaid Tryd.prog 28 os) #[.agg #[.string ⟨#[]⟩, .slice none 0 0], .int .i64 0] 8 rfl (World.shaped_of_RefB (by kernel_rfl) (by kernel_rfl)) (by kernel_rfl) (by kernel_rfl) (by kernel_rfl) (door_met os _)) ?_
  intro W base args ds gs before hval0 hW _ _ hL _
  have hval : ∀ (j : Nat) t v, Tryd.f5.params[j]? = some t → args[j]? = some v → Value.okWide Tryd.prog W .any base t v := hval0
  have hW' := hW
  obtain ⟨p, q, hA0, hV, rfl, _, _⟩ := hW
  have hA : DataW.TrodAll enc Tryd.prog W 0 (fun _ => true) true Tryd.f5.params.toList args.toList ds p := hA0
  rw [Tryd.params5] at hA hval
  obtain ⟨v0, vs0, d0, ds0, p0, q0, hargs, rfl, rfl, h0, r0⟩ := trodAll_cons hA
  obtain ⟨v1, vs1, d1, ds1, p1, q1, rfl, rfl, rfl, h1, r1⟩ := trodAll_cons r0
  obtain ⟨rfl, rfl, rfl⟩ := trodAll_nil r1
  obtain rfl : args = #[v0, v1] := by cases args; simp_all
  obtain ⟨rfl, rfl⟩ := trodVars_none hV
  have k0 := h0
  have k1 := h1
  have lt0 : ∀ x ∈ p0, x.block < W.heap.size := by obtain ⟨m, hm⟩ := k0; exact DataW.trod_lt m _ _ _ hm
  have lt1 : ∀ x ∈ p1, x.block < W.heap.size := by obtain ⟨m, hm⟩ := k1; exact DataW.trod_lt m _ _ _ hm
  obtain ⟨nm0, a0, c0, ns0, rfl, z0, y0, x0, w0⟩ := dv_open (hval 0 28 v0 rfl rfl) h0
  obtain ⟨n1, rfl, _, _, x1⟩ := open_int Tryd.underlying3 (hval 1 3 v1 rfl rfl) h1
  clear hA0 hval0
  refine (historyRoots_walk _ _ _ _ W w0 z0 y0 _ (moves_laid hL)).mono fun e W' ⟨he, bel⟩ => ?_
  subst he
  exact ⟨_, rfl, _, _, _, [], _, [], hW', trodAll_mk1 (shut_bool Tryd.underlying4 _), (trodAll_cons_mk (Below.trod Tryd.laidOut (by kernel_rfl) (of_decide_eq_true (by kernel_rfl)) k0 bel lt0) (trodAll_cons_mk (Below.trod Tryd.laidOut (by kernel_rfl) (of_decide_eq_true (by kernel_rfl)) k1 bel lt1) trodAll_mk0)), rfl, bel.frame _, fun h => by cases h⟩

theorem historyRoots_row : Rows.HistoryRootsSaid :=
  OpenClaim.holds_of_wide 5 Tryd.f5 rfl rfl rfl rfl rfl rfl rfl ⟨rfl, rfl, rfl, rfl, rfl⟩ rfl rfl rfl rfl rfl (by kernel_rfl) Tryd.func5 (by kernel_rfl)
    (of_decide_eq_true (by kernel_rfl)) (by unfold Func.isWrapper; first | (rw [if_pos (by decide +kernel)]; kernel_rfl) | (rw [if_neg (by decide +kernel)]; exact ⟨rfl, rfl⟩))
    (fun os started H enc _ => historyRoots_lifted os started H enc)

theorem historyRoots_holds : Rows.HistoryRootsCardSaid :=
  Claim7.holds_tied_plain_at .later [] [.data] true Rows.historyRootsCard.stood.harness false
    historyRoots_row (fun _ h => by cases h) (by kernel_rfl) (fun _ h => by cases h) historyRoots_row_tie rfl ⟨rfl, rfl⟩ (by kernel_rfl) rfl
    (fun f fn hf hfn => by
      obtain rfl : f = 5 := Option.some.inj ((show Tryd.prog.funcNamed "tiller/tillerlaw09.HistoryRoots" = some 5 by kernel_rfl).symm.trans hf) |>.symm
      obtain rfl : fn = Tryd.f5 := (Option.some.inj (Tryd.func5.symm.trans hfn)).symm
      exact ⟨by kernel_rfl, fun j t ht => by
        rw [Tryd.params5] at ht
        have hm : t ∈ [28, 3] := by simpa using Array.mem_of_getElem? ht
        have hall : ([28, 3].all fun u => !Tryd.prog.wantsStandIn u) = true := by kernel_rfl
        exact (show Tryd.prog.wantsStandIn t = false by simpa using List.all_eq_true.1 hall t hm)⟩)
    (by kernel_rfl)

end Go.Proofs.YtdecceekodpjiaaDoor
