/-
  HistoryTwins holds for every definition and inputs: the law's call returns true and leaves its arguments as they were. No condition; the listed variable is tied to the program's text.
-/
import Derived.Test.YtdecceekodpjiaaDoorHM8
import Derived.Test.YtdecceekodpjiaaDoorHM6
import Derived.Deep.QuietTactic
import Derived.BigQuiet
namespace Go.Proofs.YtdecceekodpjiaaDoor
open Go.ChangeShapes Go.WideShapes Go.ChangeAt Go.RowKit Go.Deep

/-- A state's box; its rows lie in neither of two blocks. -/
structure TwBox (w : World) (ab bb g : Nat) (s : St) (a6 : Option Addr) (c6 : Nat) (a7 : Option Addr) (c7 : Nat) : Prop where
  blk : w.heap[g]? = some (.cells #[.string s.dfn, .string s.id, .string s.par, .string s.pnode, .int .i64 s.status, .string s.text, .slice a6 s.nodes.length c6, .slice a7 s.sigs.length c7, .int .i64 s.events] 39 (0, 0))
  nodes : w.ownsRow 0 54 3 (.slice a6 s.nodes.length c6) s.nodes.length (nsF s.nodes)
  sigs : w.ownsRow 0 78 2 (.slice a7 s.sigs.length c7) s.sigs.length (sgF s.sigs)
  ap6 : ∀ g, (Value.slice a6 s.nodes.length c6).ownBlock = some g → g ≠ ab ∧ g ≠ bb
  ap7 : ∀ g, (Value.slice a7 s.sigs.length c7).ownBlock = some g → g ≠ ab ∧ g ≠ bb

section
variable {w w' : World} {ab bb g : Nat} {s : St} {a6 : Option Addr} {c6 : Nat} {a7 : Option Addr} {c7 : Nat}

theorem TwBox.rd (X : TwBox w ab bb g s a6 c6 a7 c7) (Z : Small s) : StRd w s (.slice a6 s.nodes.length c6) (.slice a7 s.sigs.length c7) := ⟨flat_of_owns X.nodes, flat_of_owns X.sigs, by have := Z.nodes; omega, by have := Z.sigs; omega⟩

theorem TwBox.new (X : TwBox w ab bb g s a6 c6 a7 c7) (K : Kept (fun _ => False) w w') : TwBox w' ab bb g s a6 c6 a7 c7 :=
  ⟨(K.block _ (Array.getElem?_eq_some_iff.1 X.blk).1 (fun h => h)).trans X.blk, ownsRow_keep X.nodes (fun g hg => K.block g (ownsRow_blk X.nodes hg) (fun h => h)), ownsRow_keep X.sigs (fun g hg => K.block g (ownsRow_blk X.sigs hg) (fun h => h)), X.ap6, X.ap7⟩

/-- The rows stay where only the two boxes are filled anew. -/
theorem TwBox.put {g' : Nat} (X : TwBox w ab bb g s a6 c6 a7 c7) (K : Kept (fun j => j = ab ∨ j = bb) w w') (hb : w'.heap[g']? = some (.cells #[.string s.dfn, .string s.id, .string s.par, .string s.pnode, .int .i64 s.status, .string s.text, .slice a6 s.nodes.length c6, .slice a7 s.sigs.length c7, .int .i64 s.events] 39 (0, 0))) : TwBox w' ab bb g' s a6 c6 a7 c7 :=
  ⟨hb, ownsRow_keep X.nodes (fun g hg => K.block g (ownsRow_blk X.nodes hg) (fun h => h.elim (X.ap6 g hg).1 (X.ap6 g hg).2)), ownsRow_keep X.sigs (fun g hg => K.block g (ownsRow_blk X.sigs hg) (fun h => h.elim (X.ap7 g hg).1 (X.ap7 g hg).2)), X.ap6, X.ap7⟩

end

theorem StRd.twin {w : World} {i p n : ByteArray} {s : St} {v6 v7 : Value} (R : StRd w (twinS i p n s) v6 v7) : StRd w s v6 v7 := ⟨R.nodes, R.sigs, R.few6, R.few7⟩

/-- The box of an answer. -/
theorem ans_box {w2 : World} {B ab bb : Nat} {r : Rn} {ve vt : Value} {a6 : Option Addr} {c6 : Nat} {a7 : Option Addr} {c7 : Nat} (A : AnsAt w2 B r ve (.slice a6 r.st.nodes.length c6) (.slice a7 r.st.sigs.length c7) vt) (hap : ∀ g, B ≤ g → g < w2.heap.size → g ≠ ab ∧ g ≠ bb) :
    TwBox (w2.alloc (.cells #[.string r.st.dfn, .string r.st.id, .string r.st.par, .string r.st.pnode, .int .i64 r.st.status, .string r.st.text, .slice a6 r.st.nodes.length c6, .slice a7 r.st.sigs.length c7, .int .i64 r.st.events] 39)) ab bb w2.heap.size r.st a6 c6 a7 c7 := by
  have K := Kept.alloc (fun _ => False) w2 (.cells #[.string r.st.dfn, .string r.st.id, .string r.st.par, .string r.st.pnode, .int .i64 r.st.status, .string r.st.text, .slice a6 r.st.nodes.length c6, .slice a7 r.st.sigs.length c7, .int .i64 r.st.events] 39)
  exact ⟨heap_alloc_new _ _, ownsRow_low (ownsRow_keep A.nodes (fun g hg => K.block g (ownsRow_blk A.nodes hg) (fun h => h))) (Nat.zero_le _), ownsRow_low (ownsRow_keep A.sigs (fun g hg => K.block g (ownsRow_blk A.sigs hg) (fun h => h))) (Nat.zero_le _), fun g hg => hap g (A.nodes.lt g hg).1 (ownsRow_blk A.nodes hg), fun g hg => hap g (A.sigs.lt g hg).1 (ownsRow_blk A.sigs hg)⟩

set_option maxRecDepth 100000 in
set_option maxHeartbeats 8000000 in
theorem historyTwins_walk (name : ByteArray) (a : Option Addr) (c : Nat) (ns0 : List Nd) (ai : Option Addr) (ci : Nat) (ins : List Inp) (w : World) (R0 : RawAt w a ns0) (hnm : name.size ≤ maxLen) (hc : ns0.length ≤ c) (I0 : InsAt w ai ins) (hi0 : ins.length ≤ ci ∧ ci ≤ maxLen) (M : MovesAt w) :
    Calls Tryd.prog 6 #[.agg #[.string name, .slice a ns0.length c], .slice ai ins.length ci] w fun e w' => e = .returned (.bool true) ∧ Below w.heap.size w w' := by
  have hCut := hcut_any (w.alloc (.cells #[.string name, .slice a ns0.length c] 28)) name a ns0.length c ns0 rfl hc
  obtain ⟨ns, hns⟩ : ∃ ns, ns = ns0.take 32 := ⟨_, rfl⟩
  rw [← hns] at hCut
  have R : RawAt w a ns := by rw [hns]; exact R0.take 32
  have h32 : ns.length ≤ 32 := by rw [hns, List.length_take]; omega
  have HTk : Hid (∀ b, decide ((checkP name ns).2 = 0) = b → ∀ V, RawAt V a ns → Calls Tryd.prog 11 #[.agg #[.string name, .slice a ns.length c]] V fun e w' => e = .returned (.bool b) ∧ Kept (fun _ => False) V w') := fun b hb V RV => taken_any V name a _ c _ RV rfl h32 hnm b hb
  have HR := hid R
  have HM := hid M
  have HI := hid I0
  have hil : ins.length ≤ ci := hi0.1
  have him : ins.length ≤ 9223372036854775807 := by have : maxLen = 9223372036854775807 := rfl; omega
  clear R R0 M hns hc I0 hi0
  by_cases hT : (checkP name ns).2 = 0
  · have T := taken_of hT
    have HT := hid T
    have HTk2 := hid (HTk.out true (by simp [hT]))
    clear HTk hT T
    go_enter Tryd.func6, Tryd.ntmps6
    go_upto_region 4 with (first
      | (go_at_call 10; refine hCut.mono ?_; rintro e w1 ⟨rfl, K1⟩; clear hCut; obtain ⟨_, f0, f1⟩ := pairF ((K1.block w.heap.size (by simp) (fun h => h)).trans (heap_alloc_new _ _)); have hb := cut_box (n' := ns.length) K1 HR.out; obtain ⟨⟨x0, x1⟩, _, _⟩ := pairF hb.1; have hTk := HTk2.out _ hb.2.2; have HB := hid hb; clear hb)
      | (go_at_call 11; refine hTk.mono ?_; rintro e w2 ⟨rfl, K2⟩; clear hTk)
      | fail)
    have hb2 := (K2.block _ (Array.getElem?_eq_some_iff.1 HB.out.1).1 (fun h => h)).trans HB.out.1
    have HK2 := hid (HB.out.2.1.and K2)
    have HD2 := hid (HT.out.at (keptRaw K2 HB.out.2.2) (HM.out.kept HK2.out (fun h => h)))
    obtain ⟨⟨d0, d1⟩, _, _⟩ := pairF hb2
    have hsz : w.heap.size < w2.heap.size := (Array.getElem?_eq_some_iff.1 hb2).1
    have HB2 := hid hb2
    have HP0 := hid (Pair.start (nm := name) h32 HT.out.names)
    have hst1 := start_is (nm := name) (ns := ns) twQ1 rfl
    have hst2 := start_is (nm := name) (ns := ns) twQ2 rfl
    generalize goOnP name ns (startR name ns twQ1) = r at *
    generalize goOnP name ns (startR name ns twQ2) = r' at *
    have hS := step_ok (c := c) (n := ns.length) HD2.out rfl (zeroSt_rd _) zeroSt_small (q := twQ1) (by show (1 : Nat) ≤ _; decide) (by show 0 ≤ _; decide) hst1
    dsimp only [zeroSt, twQ1] at hS
    clear hst1 HTk2 K2 HB f0 f1 x0 x1 K1 hb2
    go_upto_region 5 with (first
      | (go_at_call 8; refine hS.mono ?_; rintro e w4 ⟨ae, ce, a6, c6, a7, c7, at_, ct, rfl, A4, K4⟩; clear hS)
      | fail)
    have KV := K4.and (Kept.alloc (fun _ => False) w4 (.cells #[.string r.st.dfn, .string r.st.id, .string r.st.par, .string r.st.pnode, .int .i64 r.st.status, .string r.st.text, .slice a6 r.st.nodes.length c6, .slice a7 r.st.sigs.length c7, .int .i64 r.st.events] 39))
    have hK4 := K4.size
    have XA := ans_box (ab := w4.heap.size) (bb := w4.heap.size + 1) A4 (fun g h1 h2 => by omega)
    have AX := hid (fun bb (hbb : w4.heap.size < bb) => ans_box (ab := w4.heap.size) (bb := bb) A4 (fun g h1 h2 => by omega))
    have dV := (KV.block _ (Array.getElem?_eq_some_iff.1 HB2.out).1 (fun h => h)).trans HB2.out
    have HD4 := hid (HD2.out.new KV)
    have HK24 := hid KV
    have HKV := hid (HK2.out.and KV)
    have hz24 : w2.heap.size ≤ w4.heap.size := hK4
    have hz4 : w.heap.size < w4.heap.size := by omega
    have hz4' : w4.heap.size < (w4.alloc (.cells #[.string r.st.dfn, .string r.st.id, .string r.st.par, .string r.st.pnode, .int .i64 r.st.status, .string r.st.text, .slice a6 r.st.nodes.length c6, .slice a7 r.st.sigs.length c7, .int .i64 r.st.events] 39)).heap.size := by rw [World.size_alloc]; omega
    have HB4 := hid dV
    clear XA A4 K4 KV d0 d1 hK4
    generalize (w4.alloc (.cells #[.string r.st.dfn, .string r.st.id, .string r.st.par, .string r.st.pnode, .int .i64 r.st.status, .string r.st.text, .slice a6 r.st.nodes.length c6, .slice a7 r.st.sigs.length c7, .int .i64 r.st.events] 39)) = V4 at *
    generalize w4.heap.size = ab at *
    obtain ⟨⟨d0, d1⟩, _, _⟩ := pairF dV
    have hS := step_ok (c := c) (n := ns.length) HD4.out rfl (zeroSt_rd _) zeroSt_small (q := twQ2) (by show (3 : Nat) ≤ _; decide) (by show 0 ≤ _; decide) hst2
    dsimp only [zeroSt, twQ2, ghB, gB, hB] at hS
    clear hst2 dV
    go_upto_region 6 with (first
      | (go_at_call 8; refine hS.mono ?_; rintro e w5 ⟨be, de, b6, d6, b7, d7, bt, et, rfl, A5, K5⟩; clear hS)
      | fail)
    have KA := Kept.alloc (fun _ => False) w5 (.cells #[.string r'.st.dfn, .string r'.st.id, .string r'.st.par, .string r'.st.pnode, .int .i64 r'.st.status, .string r'.st.text, .slice b6 r'.st.nodes.length d6, .slice b7 r'.st.sigs.length d7, .int .i64 r'.st.events] 39)
    have KV5 := K5.and KA
    have hK5 := K5.size
    have HX0 := hid ((AX.out w5.heap.size (by omega)).new KV5)
    have HY0 := hid (ans_box (ab := ab) (bb := w5.heap.size) A5 (fun g h1 h2 => by omega))
    have HB5 := hid ((KV5.block _ (Array.getElem?_eq_some_iff.1 HB4.out).1 (fun h => h)).trans HB4.out)
    have HD5 := hid (HD4.out.new KV5)
    have HK25 := hid (HK24.out.and KV5)
    have hz5 : ab < w5.heap.size := by omega
    clear A5 K5 KA KV5 d0 d1 hK5
    generalize (w5.alloc (.cells #[.string r'.st.dfn, .string r'.st.id, .string r'.st.par, .string r'.st.pnode, .int .i64 r'.st.status, .string r'.st.text, .slice b6 r'.st.nodes.length d6, .slice b7 r'.st.sigs.length d7, .int .i64 r'.st.events] 39)) = V5 at *
    generalize w5.heap.size = bb at *
    go_wp2_with fail
    go_loopw [13] (fun q wr => ∃ (i : Nat) (s s' : St) (a6 : Option Addr) (c6 : Nat) (a7 : Option Addr) (c7 : Nat) (b6 : Option Addr) (d6 : Nat) (b7 : Option Addr) (d7 : Nat), i ≤ ins.length ∧ i ≤ 40 ∧ q = .int .i64 i ∧ Pair ns i s s' ∧ TwBox wr ab bb ab s a6 c6 a7 c7 ∧ TwBox wr ab bb bb s' b6 d6 b7 d7 ∧ Kept (fun _ => False) w2 wr) (fun q _ => ins.length - (intOf q).toNat)
    case atStart => exact ⟨0, r.st, r'.st, a6, c6, a7, c7, b6, d6, b7, d7, Nat.zero_le _, Nat.zero_le _, rfl, HP0.out, HX0.out, HY0.out, HK25.out⟩
    case round =>
      clear HP0 HX0 HY0 HK25 HB5 HD5 HB4 HD4 HKV HK24
      obtain ⟨i, s, s', a6, c6, a7, c7, b6, d6, b7, d7, hi, hi40, rfl, P, X, Y, K⟩ := hrel
      have dB := (K.block _ (Array.getElem?_eq_some_iff.1 HB2.out).1 (fun h => h)).trans HB2.out
      have HZ1 := hid (P.ok.small hi40 h32)
      have HZ2 := hid (P.two.small hi40 h32)
      by_cases hgo : i < ins.length ∧ i < 40
      · obtain ⟨hlt, h40⟩ := hgo
        have e0 : (i : Int) < (ins.length : Int) := by omega
        have e1 : (i : Int) < 40 := by omega
        obtain ⟨bi, oi, rfl, hI⟩ := HI.out.at hlt
        obtain ⟨i0, i1, i2, i3, i4, i5, i6, i7, i8⟩ := hI wr (HK2.out.and K)
        obtain ⟨p, hp⟩ : ∃ p, p = clipQ ins[i] := ⟨_, rfl⟩
        have hpt : p.text.size ≤ 300 := by rw [hp]; exact clipQ_text _
        have hpn : p.name.size ≤ 300 := by rw [hp]; exact clipQ_name _
        have hClip : Calls Tryd.prog 12 #[.agg #[.int .i64 (ins[i]).kind, .string (ins[i]).node, .string (ins[i]).name, .string (ins[i]).text, .int .i64 (ins[i]).tr, .int .i64 (ins[i]).status, .int .i64 (ins[i]).now, .string (ins[i]).par, .string (ins[i]).pnode]] wr fun e w' => e = .returned (.agg #[.int .i64 p.kind, .string p.node, .string p.name, .string p.text, .int .i64 p.tr, .int .i64 p.status, .int .i64 p.now, .string p.par, .string p.pnode]) ∧ Kept (fun _ => False) wr w' := by
          rw [hp]
          exact clip_any wr ins[i] (fun V => within_wide V _ _ (by decide) (by decide))
        generalize ins[i] = q at *
        clear hI hp
        go_upto_region 12 with (first
          | (go_at_call 12; refine hClip.mono ?_; rintro e w6 ⟨rfl, K6⟩; clear hClip)
          | fail)
        clear i0 i1 i2 i3 i4 i5 i6 i7 i8
        have KV6 := K6.and (Kept.alloc (fun _ => False) w6 (.cells #[.int .i64 p.kind, .string p.node, .string p.name, .string p.text, .int .i64 p.tr, .int .i64 p.status, .int .i64 p.now, .string p.par, .string p.pnode] 34))
        have bI := heap_alloc_new w6 (.cells #[.int .i64 p.kind, .string p.node, .string p.name, .string p.text, .int .i64 p.tr, .int .i64 p.status, .int .i64 p.now, .string p.par, .string p.pnode] 34)
        have X6 := X.new KV6
        have Y6 := Y.new KV6
        have dB6 := (KV6.block _ (Array.getElem?_eq_some_iff.1 dB).1 (fun h => h)).trans dB
        have K6 := K.and KV6
        clear X Y K KV6 dB
        generalize (w6.alloc (.cells #[.int .i64 p.kind, .string p.node, .string p.name, .string p.text, .int .i64 p.tr, .int .i64 p.status, .int .i64 p.now, .string p.par, .string p.pnode] 34)) = V6 at *
        generalize w6.heap.size = ib at *
        obtain ⟨⟨d0, d1⟩, _, _⟩ := pairF dB6
        obtain ⟨⟨n0, n1, n2, n3, n4, n5, n6, n7, n8⟩, _⟩ := nine bI
        have HDb6 := hid dB6
        have HN6 := hid bI
        clear dB6 bI
        by_cases hk1 : p.kind = 1
        · have hk1' : (p.kind == 1) = true := by simp [hk1]
          have HPn := hid P.next
          have HX6 := hid X6
          have HY6 := hid Y6
          have HK6 := hid K6
          clear hk1 P X6 Y6 K6
          go_wp2_with fail
          go_roundw
          case rel => exact ⟨i + 1, s, s', a6, c6, a7, c7, b6, d6, b7, d7, by omega, by omega, by go_num, HPn.out, HX6.out, HY6.out, HK6.out⟩
          case measure => simp [intOf]; omega
        · have hk1' : (p.kind == 1) = false := by simpa using hk1
          obtain ⟨hq1, hq2, hq3, hq4⟩ := P.step (nm := name) h32 HT.out.names p hk1
          obtain ⟨⟨r, ee⟩, hp1⟩ : ∃ y, stepP name ns s p = y := ⟨_, rfl⟩
          obtain ⟨⟨⟨st2, now2, evs2, tks2⟩, ee2⟩, hp2⟩ : ∃ y, stepP name ns s' p = y := ⟨_, rfl⟩
          rw [hp1, hp2] at hq1 hq2 hq3 hq4
          dsimp only at hq1 hq2 hq3 hq4
          have HPn := hid hq4
          obtain rfl : ee2 = ee := hq1
          obtain rfl : evs2 = r.evs := hq2
          obtain rfl : st2 = twinS ghB gB hB r.st := hq4.twin
          have Htk := hid hq3
          have Z := HZ1.out
          have Z' := HZ2.out
          have HPx := hid P.next
          clear hq3 hq4 hk1 P
          by_cases he : ee2 = 0
          · subst he
            have hS1 := step_ok (c := c) (n := ns.length) (HD2.out.new K6) rfl (X6.rd Z) Z (q := p) (Nat.le_trans hpn (by decide)) (Nat.le_trans hpt (by decide)) hp1
            have HX6 := hid X6
            have HY6 := hid Y6
            have HK6 := hid K6
            have Hp2 := hid hp2
            obtain ⟨⟨u0, u1, u2, u3, u4, u5, u6, u7, u8⟩, _⟩ := nine X6.blk
            clear X6 Y6 K6 hp1 hp2
            go_upto_region 14 with (first
              | (go_at_call 8; refine hS1.mono ?_; rintro e w7 ⟨fe, ge, e6, f6, e7, f7, ft, gt, rfl, A7, K7⟩; clear hS1)
              | fail)
            have KA7 := Kept.alloc (fun _ => False) w7 (.cells #[.string r.st.dfn, .string r.st.id, .string r.st.par, .string r.st.pnode, .int .i64 r.st.status, .string r.st.text, .slice e6 r.st.nodes.length f6, .slice e7 r.st.sigs.length f7, .int .i64 r.st.events] 39)
            have hz7 := K7.size
            have KV7 := K7.and KA7
            have hab6 : ab < V6.heap.size := (Array.getElem?_eq_some_iff.1 HX6.out.blk).1
            have hbb6 : bb < V6.heap.size := (Array.getElem?_eq_some_iff.1 HY6.out.blk).1
            have HXB := hid (ans_box (ab := ab) (bb := bb) A7 (fun g h1 h2 => by omega))
            have HE7 := hid ((flat_of_owns A7.evs).new KA7)
            have HX7 := hid (HX6.out.new KV7)
            have HY7 := hid (HY6.out.new KV7)
            have HK7 := hid (HK6.out.and KV7)
            have HN7 := hid ((KV7.block _ (Array.getElem?_eq_some_iff.1 HN6.out).1 (fun h => h)).trans HN6.out)
            have HDb7 := hid ((KV7.block _ (Array.getElem?_eq_some_iff.1 HDb6.out).1 (fun h => h)).trans HDb6.out)
            have hxa : w7.heap.size ≠ ab := by omega
            have hxb : w7.heap.size ≠ bb := by omega
            have hxs : w7.heap.size < (w7.alloc (.cells #[.string r.st.dfn, .string r.st.id, .string r.st.par, .string r.st.pnode, .int .i64 r.st.status, .string r.st.text, .slice e6 r.st.nodes.length f6, .slice e7 r.st.sigs.length f7, .int .i64 r.st.events] 39)).heap.size := by rw [World.size_alloc]; omega
            clear A7 K7 KA7 KV7 u0 u1 u2 u3 u4 u5 u6 u7 u8 d0 d1 n0 n1 n2 n3 n4 n5 n6 n7 n8
            generalize (w7.alloc (.cells #[.string r.st.dfn, .string r.st.id, .string r.st.par, .string r.st.pnode, .int .i64 r.st.status, .string r.st.text, .slice e6 r.st.nodes.length f6, .slice e7 r.st.sigs.length f7, .int .i64 r.st.events] 39)) = V7 at *
            generalize w7.heap.size = xb at *
            obtain ⟨⟨d0, d1⟩, _, _⟩ := pairF HDb7.out
            obtain ⟨⟨n0, n1, n2, n3, n4, n5, n6, n7, n8⟩, _⟩ := nine HN7.out
            obtain ⟨⟨u0, u1, u2, u3, u4, u5, u6, u7, u8⟩, _⟩ := nine HY7.out.blk
            have hS2 := step_ok (c := c) (n := ns.length) (HD2.out.new HK7.out) rfl (HY7.out.rd Z') Z' (q := p) (Nat.le_trans hpn (by decide)) (Nat.le_trans hpt (by decide)) Hp2.out
            dsimp only [OkPost, twinS] at hS2
            go_upto_region 15 with (first
              | (go_at_call 8; refine hS2.mono ?_; rintro e w8 ⟨he_, ke, h6, k6, h7, k7, ht, kt, rfl, A8, K8⟩; clear hS2)
              | fail)
            have KA8 := Kept.alloc (fun _ => False) w8 (.cells #[.string r.st.dfn, .string ghB, .string gB, .string hB, .int .i64 r.st.status, .string r.st.text, .slice h6 r.st.nodes.length k6, .slice h7 r.st.sigs.length k7, .int .i64 r.st.events] 39)
            have hz8 := K8.size
            have KV8 := K8.and KA8
            have HYB : Hid (TwBox (w8.alloc (.cells #[.string r.st.dfn, .string ghB, .string gB, .string hB, .int .i64 r.st.status, .string r.st.text, .slice h6 r.st.nodes.length k6, .slice h7 r.st.sigs.length k7, .int .i64 r.st.events] 39)) ab bb w8.heap.size (twinS ghB gB hB r.st) h6 k6 h7 k7) := ans_box (r := ⟨twinS ghB gB hB r.st, now2, r.evs, tks2⟩) A8 (fun g h1 h2 => by omega)
            have HE8 : Hid (FlatAt (w8.alloc (.cells #[.string r.st.dfn, .string ghB, .string gB, .string hB, .int .i64 r.st.status, .string r.st.text, .slice h6 r.st.nodes.length k6, .slice h7 r.st.sigs.length k7, .int .i64 r.st.events] 39)) 4 (.slice he_ r.evs.length ke) r.evs.length (evF r.evs)) := (flat_of_owns A8.evs).new KA8
            have HXB8 := hid (HXB.out.new KV8)
            have HX8 := hid (HX7.out.new KV8)
            have HY8 := hid (HY7.out.new KV8)
            have HK8 := hid (HK7.out.and KV8)
            have hxs8 := (Array.getElem?_eq_some_iff.1 HXB8.out.blk).1
            have hya : w8.heap.size ≠ ab := by omega
            have hyb : w8.heap.size ≠ bb := by omega
            have sx := (nine HXB8.out.blk).1.2.2.2.2.1
            have hEv := eventsSame_any (w8.alloc (.cells #[.string r.st.dfn, .string ghB, .string gB, .string hB, .int .i64 r.st.status, .string r.st.text, .slice h6 r.st.nodes.length k6, .slice h7 r.st.sigs.length k7, .int .i64 r.st.events] 39)) fe he_ ge ke r.evs (HE7.out.new KV8) HE8.out
            have HZa := hid (HPn.out.ok.small (by omega) h32)
            have HZb := hid (HPn.out.two.small (by omega) h32)
            clear A8 K8 KA8 KV8 HX7 HY7 HK7 HE7 HE8 HXB u0 u1 u2 u3 u4 u5 u6 u7 u8 d0 d1 n0 n1 n2 n3 n4 n5 n6 n7 n8
            generalize (w8.alloc (.cells #[.string r.st.dfn, .string ghB, .string gB, .string hB, .int .i64 r.st.status, .string r.st.text, .slice h6 r.st.nodes.length k6, .slice h7 r.st.sigs.length k7, .int .i64 r.st.events] 39)) = V8 at *
            generalize w8.heap.size = yb at *
            cases hst : (r.st.status == 1) with
            | true =>
              have ht1 : ((r.tks.length : Int) != (tks2.length : Int)) = false := by
                have h := Htk.out (by simpa using hst)
                rw [h]
                simp
              go_upto_region 18 with (first
                | (go_at_call 13; refine hEv.mono ?_; rintro e w9 ⟨rfl, K9e⟩; clear hEv; have sx9 := keepC K9e sx (fun _ _ h => h))
                | fail)
              have XB9 := HXB8.out.new K9e
              have YB9 := HYB.out.new K9e
              have HXa9 := hid ((HX8.out.new K9e).blk)
              have HYb9 := hid ((HY8.out.new K9e).blk)
              have HXBb := hid XB9
              have HYBb := hid YB9
              have yb9 : w9.heap[yb]? = some (.cells #[.string r.st.dfn, .string ghB, .string gB, .string hB, .int .i64 r.st.status, .string r.st.text, .slice h6 r.st.nodes.length k6, .slice h7 r.st.sigs.length k7, .int .i64 r.st.events] 39 (0, 0)) := YB9.blk
              obtain ⟨⟨x0, x1, x2, x3, x4, x5, x6, x7, x8⟩, _⟩ := nine XB9.blk
              obtain ⟨⟨y0, y1, y2, y3, y4, y5, y6, y7, y8⟩, _⟩ := nine yb9
              have HK9e := hid (HK8.out.and K9e)
              clear XB9 YB9 yb9 K9e sx sx9
              refine wp_onlyN (tw18 _ x0 x1 x2 x3 x4 x5 x6 x7 x8 y0 y1 y2 y3 y4 y5 y6 y7 y8 HXa9.out HYb9.out (Nat.ne_of_lt hz5) hxa hxb hya hyb ?_)
              intro v116 v117 W9 ha9 hb9 K18
              have X9 := HXBb.out.put K18 ha9
              have Y9 : TwBox W9 ab bb bb (twinS ghB gB hB r.st) h6 k6 h7 k7 := HYBb.out.put K18 hb9
              have K9 : Kept (fun _ => False) w2 W9 := HK9e.out.trans K18 (fun g h => .inr (by omega))
              clear x0 x1 x2 x3 x4 x5 x6 x7 x8 y0 y1 y2 y3 y4 y5 y6 y7 y8 ha9 hb9 K18

              have hbY : W9.heap[bb]? = some (.cells #[.string r.st.dfn, .string ghB, .string gB, .string hB, .int .i64 r.st.status, .string r.st.text, .slice h6 r.st.nodes.length k6, .slice h7 r.st.sigs.length k7, .int .i64 r.st.events] 39 (0, 0)) := Y9.blk
              have hbX := X9.blk
              obtain ⟨⟨t0, t1, t2, t3, t4, t5, t6, t7, t8⟩, _⟩ := nine hbY
              have KC := Kept.alloc (fun _ => False) W9 (.cells #[.string r.st.dfn, .string ghB, .string gB, .string hB, .int .i64 r.st.status, .string r.st.text, .slice h6 r.st.nodes.length k6, .slice h7 r.st.sigs.length k7, .int .i64 r.st.events] 39)
              have bC := heap_alloc_new W9 (.cells #[.string r.st.dfn, .string ghB, .string gB, .string hB, .int .i64 r.st.status, .string r.st.text, .slice h6 r.st.nodes.length k6, .slice h7 r.st.sigs.length k7, .int .i64 r.st.events] 39)
              have aC := (KC.block _ (Array.getElem?_eq_some_iff.1 hbX).1 (fun h => h)).trans hbX
              have hac : ab ≠ W9.heap.size := Nat.ne_of_lt (Array.getElem?_eq_some_iff.1 hbX).1
              have HKC := hid KC
              have HX9 := hid X9
              have HY9 := hid Y9
              have HK9 := hid K9
              have hzw : w2.heap.size ≤ W9.heap.size := K9.size
              go_upto_region 20 with fail
              clear t0 t1 t2 t3 t4 t5 t6 t7 t8 hbX hbY KC
              obtain ⟨⟨_, z1, z2, z3, _, _, _, _, _⟩, _⟩ := nine aC
              refine wp_onlyN (tw20 _ z1 z2 z3 bC hac ?_)
              intro v119 v120 v121 v122 v123 v124 v125 v126 v127 W11 bC' K11
              have K9' : Kept (fun _ => False) W9 W11 := HKC.out.trans K11 (fun g h => .inr (by omega))
              have X11 := HX9.out.new K9'
              have Y11 := HY9.out.new K9'
              have hSm := stateSame_any W11 r.st e6 f6 e7 f7 h6 k6 h7 k7 (X11.rd HZa.out) (StRd.twin (Y11.rd HZb.out))
              have aC' := X11.blk
              obtain ⟨⟨s0, s1, s2, s3, s4, s5, s6, s7, s8⟩, _⟩ := nine aC'
              obtain ⟨⟨c0_, c1_, c2_, c3_, c4_, c5_, c6_, c7_, c8_⟩, _⟩ := nine bC'
              have HX11 := hid X11
              have HY11 := hid Y11
              have HK11 := hid (HK9.out.and K9')
              clear aC aC' bC bC' z1 z2 z3 X11 Y11 K9' K11 HX9 HY9 HK9 HKC
              go_wp2_with (first
                | (go_at_call 14; refine hSm.mono ?_; rintro e w12 ⟨rfl, K12⟩; clear hSm)
                | fail)
              go_roundw
              case rel => exact ⟨i + 1, r.st, twinS ghB gB hB r.st, e6, f6, e7, f7, h6, k6, h7, k7, by omega, by omega, by go_num, HPn.out, HX11.out.new K12, HY11.out.new K12, HK11.out.and K12⟩
              case measure => simp [intOf]; omega
            | false =>
              go_upto_region 18 with (first
                | (go_at_call 13; refine hEv.mono ?_; rintro e w9 ⟨rfl, K9e⟩; clear hEv; have sx9 := keepC K9e sx (fun _ _ h => h))
                | fail)
              have XB9 := HXB8.out.new K9e
              have YB9 := HYB.out.new K9e
              have HXa9 := hid ((HX8.out.new K9e).blk)
              have HYb9 := hid ((HY8.out.new K9e).blk)
              have HXBb := hid XB9
              have HYBb := hid YB9
              have yb9 : w9.heap[yb]? = some (.cells #[.string r.st.dfn, .string ghB, .string gB, .string hB, .int .i64 r.st.status, .string r.st.text, .slice h6 r.st.nodes.length k6, .slice h7 r.st.sigs.length k7, .int .i64 r.st.events] 39 (0, 0)) := YB9.blk
              obtain ⟨⟨x0, x1, x2, x3, x4, x5, x6, x7, x8⟩, _⟩ := nine XB9.blk
              obtain ⟨⟨y0, y1, y2, y3, y4, y5, y6, y7, y8⟩, _⟩ := nine yb9
              have HK9e := hid (HK8.out.and K9e)
              clear XB9 YB9 yb9 K9e sx sx9
              refine wp_onlyN (tw18 _ x0 x1 x2 x3 x4 x5 x6 x7 x8 y0 y1 y2 y3 y4 y5 y6 y7 y8 HXa9.out HYb9.out (Nat.ne_of_lt hz5) hxa hxb hya hyb ?_)
              intro v116 v117 W9 ha9 hb9 K18
              have X9 := HXBb.out.put K18 ha9
              have Y9 : TwBox W9 ab bb bb (twinS ghB gB hB r.st) h6 k6 h7 k7 := HYBb.out.put K18 hb9
              have K9 : Kept (fun _ => False) w2 W9 := HK9e.out.trans K18 (fun g h => .inr (by omega))
              clear x0 x1 x2 x3 x4 x5 x6 x7 x8 y0 y1 y2 y3 y4 y5 y6 y7 y8 ha9 hb9 K18

              have hbY : W9.heap[bb]? = some (.cells #[.string r.st.dfn, .string ghB, .string gB, .string hB, .int .i64 r.st.status, .string r.st.text, .slice h6 r.st.nodes.length k6, .slice h7 r.st.sigs.length k7, .int .i64 r.st.events] 39 (0, 0)) := Y9.blk
              have hbX := X9.blk
              obtain ⟨⟨t0, t1, t2, t3, t4, t5, t6, t7, t8⟩, _⟩ := nine hbY
              have KC := Kept.alloc (fun _ => False) W9 (.cells #[.string r.st.dfn, .string ghB, .string gB, .string hB, .int .i64 r.st.status, .string r.st.text, .slice h6 r.st.nodes.length k6, .slice h7 r.st.sigs.length k7, .int .i64 r.st.events] 39)
              have bC := heap_alloc_new W9 (.cells #[.string r.st.dfn, .string ghB, .string gB, .string hB, .int .i64 r.st.status, .string r.st.text, .slice h6 r.st.nodes.length k6, .slice h7 r.st.sigs.length k7, .int .i64 r.st.events] 39)
              have aC := (KC.block _ (Array.getElem?_eq_some_iff.1 hbX).1 (fun h => h)).trans hbX
              have hac : ab ≠ W9.heap.size := Nat.ne_of_lt (Array.getElem?_eq_some_iff.1 hbX).1
              have HKC := hid KC
              have HX9 := hid X9
              have HY9 := hid Y9
              have HK9 := hid K9
              have hzw : w2.heap.size ≤ W9.heap.size := K9.size
              go_upto_region 20 with fail
              clear t0 t1 t2 t3 t4 t5 t6 t7 t8 hbX hbY KC
              obtain ⟨⟨_, z1, z2, z3, _, _, _, _, _⟩, _⟩ := nine aC
              refine wp_onlyN (tw20 _ z1 z2 z3 bC hac ?_)
              intro v119 v120 v121 v122 v123 v124 v125 v126 v127 W11 bC' K11
              have K9' : Kept (fun _ => False) W9 W11 := HKC.out.trans K11 (fun g h => .inr (by omega))
              have X11 := HX9.out.new K9'
              have Y11 := HY9.out.new K9'
              have hSm := stateSame_any W11 r.st e6 f6 e7 f7 h6 k6 h7 k7 (X11.rd HZa.out) (StRd.twin (Y11.rd HZb.out))
              have aC' := X11.blk
              obtain ⟨⟨s0, s1, s2, s3, s4, s5, s6, s7, s8⟩, _⟩ := nine aC'
              obtain ⟨⟨c0_, c1_, c2_, c3_, c4_, c5_, c6_, c7_, c8_⟩, _⟩ := nine bC'
              have HX11 := hid X11
              have HY11 := hid Y11
              have HK11 := hid (HK9.out.and K9')
              clear aC aC' bC bC' z1 z2 z3 X11 Y11 K9' K11 HX9 HY9 HK9 HKC
              go_wp2_with (first
                | (go_at_call 14; refine hSm.mono ?_; rintro e w12 ⟨rfl, K12⟩; clear hSm)
                | fail)
              go_roundw
              case rel => exact ⟨i + 1, r.st, twinS ghB gB hB r.st, e6, f6, e7, f7, h6, k6, h7, k7, by omega, by omega, by go_num, HPn.out, HX11.out.new K12, HY11.out.new K12, HK11.out.and K12⟩
              case measure => simp [intOf]; omega
          ·
            have hS1 := step_no (c := c) (n := ns.length) (HD2.out.new K6) rfl (X6.rd Z) Z (q := p) (Nat.le_trans hpn (by decide)) (Nat.le_trans hpt (by decide)) hp1 he
            have HX6 := hid X6
            have HY6 := hid Y6
            have HK6 := hid K6
            have Hp2 := hid hp2
            have he1 : (ee2 == 0) = false := by simpa using he
            have He := hid he
            obtain ⟨⟨u0, u1, u2, u3, u4, u5, u6, u7, u8⟩, _⟩ := nine X6.blk
            clear X6 Y6 K6 hp1 hp2 he
            go_upto_region 14 with (first
              | (go_at_call 8; refine hS1.mono ?_; rintro e w7 ⟨fe, ge, e6, f6, e7, f7, ft, gt, rfl, K7⟩; clear hS1)
              | fail)
            have KA7 := Kept.alloc (fun _ => False) w7 (.cells #[.string ⟨#[]⟩, .string ⟨#[]⟩, .string ⟨#[]⟩, .string ⟨#[]⟩, .int .i64 0, .string ⟨#[]⟩, .slice e6 0 f6, .slice e7 0 f7, .int .i64 0] 39)
            have KV7 := K7.and KA7
            have HXB := hid (heap_alloc_new w7 (.cells #[.string ⟨#[]⟩, .string ⟨#[]⟩, .string ⟨#[]⟩, .string ⟨#[]⟩, .int .i64 0, .string ⟨#[]⟩, .slice e6 0 f6, .slice e7 0 f7, .int .i64 0] 39))
            have HX7 := hid (HX6.out.new KV7)
            have HY7 := hid (HY6.out.new KV7)
            have HK7 := hid (HK6.out.and KV7)
            have HN7 := hid ((KV7.block _ (Array.getElem?_eq_some_iff.1 HN6.out).1 (fun h => h)).trans HN6.out)
            have HDb7 := hid ((KV7.block _ (Array.getElem?_eq_some_iff.1 HDb6.out).1 (fun h => h)).trans HDb6.out)
            clear K7 KA7 KV7 u0 u1 u2 u3 u4 u5 u6 u7 u8 d0 d1 n0 n1 n2 n3 n4 n5 n6 n7 n8
            generalize (w7.alloc (.cells #[.string ⟨#[]⟩, .string ⟨#[]⟩, .string ⟨#[]⟩, .string ⟨#[]⟩, .int .i64 0, .string ⟨#[]⟩, .slice e6 0 f6, .slice e7 0 f7, .int .i64 0] 39)) = V7 at *
            generalize w7.heap.size = xb at *
            obtain ⟨⟨d0, d1⟩, _, _⟩ := pairF HDb7.out
            obtain ⟨⟨n0, n1, n2, n3, n4, n5, n6, n7, n8⟩, _⟩ := nine HN7.out
            obtain ⟨⟨u0, u1, u2, u3, u4, u5, u6, u7, u8⟩, _⟩ := nine HY7.out.blk
            have hS2 := step_no (c := c) (n := ns.length) (HD2.out.new HK7.out) rfl (HY7.out.rd Z') Z' (q := p) (Nat.le_trans hpn (by decide)) (Nat.le_trans hpt (by decide)) Hp2.out He.out
            go_upto_region 15 with (first
              | (go_at_call 8; refine hS2.mono ?_; rintro e w8 ⟨he_, ke, h6, k6, h7, k7, ht, kt, rfl, K8⟩; clear hS2)
              | fail)
            have KV8 := K8.and (Kept.alloc (fun _ => False) w8 (.cells #[.string ⟨#[]⟩, .string ⟨#[]⟩, .string ⟨#[]⟩, .string ⟨#[]⟩, .int .i64 0, .string ⟨#[]⟩, .slice h6 0 k6, .slice h7 0 k7, .int .i64 0] 39))
            have HX8 := hid (HX7.out.new KV8)
            have HY8 := hid (HY7.out.new KV8)
            have HK8 := hid (HK7.out.and KV8)
            have bx8 := (KV8.block _ (Array.getElem?_eq_some_iff.1 HXB.out).1 (fun h => h)).trans HXB.out
            have sx := (nine bx8).1.2.2.2.2.1
            have hEv := eventsNil_any (w8.alloc (.cells #[.string ⟨#[]⟩, .string ⟨#[]⟩, .string ⟨#[]⟩, .string ⟨#[]⟩, .int .i64 0, .string ⟨#[]⟩, .slice h6 0 k6, .slice h7 0 k7, .int .i64 0] 39)) fe he_ ge ke
            have HZa := hid (HPx.out.ok.small (by omega) h32)
            have HZb := hid (HPx.out.two.small (by omega) h32)
            have Htw := hid HPx.out.twin
            clear K8 KV8 HX7 HY7 HK7 HXB bx8 u0 u1 u2 u3 u4 u5 u6 u7 u8 d0 d1 n0 n1 n2 n3 n4 n5 n6 n7 n8
            generalize (w8.alloc (.cells #[.string ⟨#[]⟩, .string ⟨#[]⟩, .string ⟨#[]⟩, .string ⟨#[]⟩, .int .i64 0, .string ⟨#[]⟩, .slice h6 0 k6, .slice h7 0 k7, .int .i64 0] 39)) = V8 at *
            generalize w8.heap.size = yb at *
            go_upto_region 19 with (first
              | (go_at_call 13; refine hEv.mono ?_; rintro e w9 ⟨rfl, K9e⟩; clear hEv; have sx9 := keepC K9e sx (fun _ _ h => h))
              | fail)
            have X9 := HX8.out.new K9e
            have Y9 := HY8.out.new K9e
            have K9 := HK8.out.and K9e
            have htw := Htw.out
            clear HPn Htw sx sx9 K9e HX8 HY8 HK8 HX6 HY6 HK6
            subst htw

            have hbY : w9.heap[bb]? = some (.cells #[.string s.dfn, .string ghB, .string gB, .string hB, .int .i64 s.status, .string s.text, .slice b6 s.nodes.length d6, .slice b7 s.sigs.length d7, .int .i64 s.events] 39 (0, 0)) := Y9.blk
            have hbX := X9.blk
            obtain ⟨⟨t0, t1, t2, t3, t4, t5, t6, t7, t8⟩, _⟩ := nine hbY
            have KC := Kept.alloc (fun _ => False) w9 (.cells #[.string s.dfn, .string ghB, .string gB, .string hB, .int .i64 s.status, .string s.text, .slice b6 s.nodes.length d6, .slice b7 s.sigs.length d7, .int .i64 s.events] 39)
            have bC := heap_alloc_new w9 (.cells #[.string s.dfn, .string ghB, .string gB, .string hB, .int .i64 s.status, .string s.text, .slice b6 s.nodes.length d6, .slice b7 s.sigs.length d7, .int .i64 s.events] 39)
            have aC := (KC.block _ (Array.getElem?_eq_some_iff.1 hbX).1 (fun h => h)).trans hbX
            have hac : ab ≠ w9.heap.size := Nat.ne_of_lt (Array.getElem?_eq_some_iff.1 hbX).1
            have HKC := hid KC
            have HX9 := hid X9
            have HY9 := hid Y9
            have HK9 := hid K9
            have hzw : w2.heap.size ≤ w9.heap.size := K9.size
            go_upto_region 20 with fail
            clear t0 t1 t2 t3 t4 t5 t6 t7 t8 hbX hbY KC
            obtain ⟨⟨_, z1, z2, z3, _, _, _, _, _⟩, _⟩ := nine aC
            refine wp_onlyN (tw20 _ z1 z2 z3 bC hac ?_)
            intro v119 v120 v121 v122 v123 v124 v125 v126 v127 W11 bC' K11
            have K9' : Kept (fun _ => False) w9 W11 := HKC.out.trans K11 (fun g h => .inr (by omega))
            have X11 := HX9.out.new K9'
            have Y11 := HY9.out.new K9'
            have hSm := stateSame_any W11 s a6 c6 a7 c7 b6 d6 b7 d7 (X11.rd HZa.out) (StRd.twin (Y11.rd HZb.out))
            have aC' := X11.blk
            obtain ⟨⟨s0, s1, s2, s3, s4, s5, s6, s7, s8⟩, _⟩ := nine aC'
            obtain ⟨⟨c0_, c1_, c2_, c3_, c4_, c5_, c6_, c7_, c8_⟩, _⟩ := nine bC'
            have HX11 := hid X11
            have HY11 := hid Y11
            have HK11 := hid (HK9.out.and K9')
            clear aC aC' bC bC' z1 z2 z3 X11 Y11 K9' K11 HX9 HY9 HK9 HKC
            go_wp2_with (first
              | (go_at_call 14; refine hSm.mono ?_; rintro e w12 ⟨rfl, K12⟩; clear hSm)
              | fail)
            go_roundw
            case rel => exact ⟨i + 1, s, twinS ghB gB hB s, a6, c6, a7, c7, b6, d6, b7, d7, by omega, by omega, by go_num, HPx.out, HX11.out.new K12, HY11.out.new K12, HK11.out.and K12⟩
            case measure => simp [intOf]; omega
      · 
        have hex : ¬ ((i : Int) < (ins.length : Int) ∧ (i : Int) < 40) := by omega
        obtain ⟨⟨p0, p1, p2, p3, p4, p5, p6, p7, p8⟩, _⟩ := nine X.blk
        have hRc := refCount_any wr s a6 c6 (.slice a7 s.sigs.length c7) (X.rd HZ1.out)
        have HY := hid Y
        have HK := hid K
        have HPt := hid P.twin
        have hn32 : s.nodes.length ≤ 32 := by rw [P.ok.len]; exact h32
        have ho : overC s.nodes ≤ 32 := Nat.le_trans List.countP_le_length hn32
        have hr0 : restC s.nodes ≤ 32 := Nat.le_trans List.countP_le_length hn32
        have hcv : ∀ W m, (convert 3 68 (.int .i64 m)).run Tryd.prog W = .ok (.float .f64 (floatOfInt .f64 m)) W := fun W m => run_convert_int_float W 3 68 .i64 .f64 m (by rw [Tryd.underlying3]; rfl) Tryd.underlying68
        have Hq1 : Hid (∀ x, IsF x (overC s'.nodes : Nat) → (FloatKind.f64.format.order x (floatOfInt .f64 (overC s.nodes : Nat)) == some .eq) = true) := fun x h => by rw [isF_eq h (isF_int _ (by omega)), HPt.out]; simp [twinS]
        have Hq2 : Hid (∀ x, IsF x (restC s'.nodes : Nat) → (FloatKind.f64.format.order x (floatOfInt .f64 (restC s.nodes : Nat)) == some .eq) = true) := fun x h => by rw [isF_eq h (isF_int _ (by omega)), HPt.out]; simp [twinS]
        have HCn : Hid (∀ V, Kept (fun _ => False) wr V → Calls Tryd.prog 16 #[.agg #[.string s'.dfn, .string s'.id, .string s'.par, .string s'.pnode, .int .i64 s'.status, .string s'.text, .slice b6 s'.nodes.length d6, .slice b7 s'.sigs.length d7, .int .i64 s'.events]] V fun e w' => (∃ x y, e = .returned (.complex .f64 x y) ∧ IsF x (overC s'.nodes : Nat) ∧ IsF y (restC s'.nodes : Nat)) ∧ Kept (fun _ => False) V w') := fun V KV => count_any V s' _ _ ((HY.out.new KV).rd HZ2.out)
        have HWk : Hid (∀ V, Kept (fun _ => False) w2 V → Calls Tryd.prog 9 #[] V fun e w' => e = .returned (.bool true) ∧ Kept (fun _ => False) V w') := fun V KV => wakes_any V (HM.out.kept (HK2.out.and KV) (fun h => h))
        generalize overC s.nodes = po at *
        generalize restC s.nodes = pr at *
        clear X Y K P dB hgo
        by_cases hlt : i < ins.length
        · have e0 : (i : Int) < (ins.length : Int) := by omega
          have e1 : ¬ (i : Int) < 40 := by omega
          clear hex hlt
          go_wp2_with (first
            | (go_at_call 15; refine hRc.mono ?_; rintro e w5 ⟨rfl, K5⟩; clear hRc; have hC := HCn.out w5 K5; obtain ⟨⟨z0, z1, z2, z3, z4, z5, z6, z7, z8⟩, _⟩ := nine (HY.out.new K5).blk)
            | (go_at_call 16; refine hC.mono ?_; rintro e w7 ⟨⟨fx, fy, rfl, hx, hy⟩, K7⟩; clear hC; have hx1 := Hq1.out fx hx; have hy1 := Hq2.out fy hy; clear hx hy; have hW := HWk.out w7 ((HK.out.and K5).and K7))
            | (go_at_call 9; refine hW.mono ?_; rintro e w8 ⟨rfl, K8⟩; clear hW)
            | fail)
          go_ret
          exact ⟨rfl, ((HK2.out.and ((HK.out.and K5).and K7)).and K8).none⟩
        · have e0 : ¬ (i : Int) < (ins.length : Int) := by omega
          clear hex hlt
          go_wp2_with (first
            | (go_at_call 15; refine hRc.mono ?_; rintro e w5 ⟨rfl, K5⟩; clear hRc; have hC := HCn.out w5 K5; obtain ⟨⟨z0, z1, z2, z3, z4, z5, z6, z7, z8⟩, _⟩ := nine (HY.out.new K5).blk)
            | (go_at_call 16; refine hC.mono ?_; rintro e w7 ⟨⟨fx, fy, rfl, hx, hy⟩, K7⟩; clear hC; have hx1 := Hq1.out fx hx; have hy1 := Hq2.out fy hy; clear hx hy; have hW := HWk.out w7 ((HK.out.and K5).and K7))
            | (go_at_call 9; refine hW.mono ?_; rintro e w8 ⟨rfl, K8⟩; clear hW)
            | fail)
          go_ret
          exact ⟨rfl, ((HK2.out.and ((HK.out.and K5).and K7)).and K8).none⟩
  · have HTk2 := hid (HTk.out false (by simp [hT]))
    have hW := fun V (K : Kept (fun _ => False) w V) => wakes_any V (HM.out.kept K (fun h => h))
    have HW := hid hW
    clear HTk hT hW
    go_enter Tryd.func6, Tryd.ntmps6
    go_wp2_with (first
      | (go_at_call 10; refine hCut.mono ?_; rintro e w1 ⟨rfl, K1⟩; clear hCut; obtain ⟨_, f0, f1⟩ := pairF ((K1.block w.heap.size (by simp) (fun h => h)).trans (heap_alloc_new _ _)); have hb := cut_box (n' := ns.length) K1 HR.out; obtain ⟨⟨x0, x1⟩, _, _⟩ := pairF hb.1; have hTk := HTk2.out _ hb.2.2; have HB := hid hb; clear hb)
      | (go_at_call 11; refine hTk.mono ?_; rintro e w2 ⟨rfl, K2⟩; clear hTk; have hW := HW.out w2 (HB.out.2.1.and K2))
      | (go_at_call 9; refine hW.mono ?_; rintro e w8 ⟨rfl, K8⟩; clear hW)
      | fail)
    go_ret
    exact ⟨rfl, ((HB.out.2.1.and K2).and K8).none⟩

set_option maxRecDepth 100000 in
theorem historyTwins_lifted (os : Os) (started : os.Started) (H : Type) (enc : TypeId × Value → H) :
    ReturnsInHanded {} Tryd.checked os 6 .any (fun w args => (Rows.historyTwinsSpec.pre enc Tryd.prog Tryd.f6 [] false w args ∧ laidMetH Tryd.prog laidL w) ∧ sizedMet enc Tryd.prog Tryd.f6 (OpenSpec.ofChange Rows.historyTwinsSpec) false w args)
      (Rows.historyTwinsSpec.post enc Tryd.prog Tryd.f6 false true false false) := by
  refine returnsInHanded_of_change_and (C := Tryd.checked) (X := fun w _ => laidMetH Tryd.prog laidL w) (fun _ _ _ hh h => h.of_heap hh) Tryd.own started (by kernel_rfl) Tryd.func6
    (ChangeSpec.witness_shaped (enc := enc) (C := Tryd.checked) (os := os) (X := fun w _ => laidMetH Tryd.prog laidL w) false (World.doorLaid Tryd.prog 28 os) #[.agg #[.string ⟨#[]⟩, .slice none 0 0], .slice none 0 0] 8 rfl (World.shaped_of_RefB (by kernel_rfl) (by kernel_rfl)) (by kernel_rfl) (by kernel_rfl) (by kernel_rfl) (door_met os _)) ?_
  intro W base args ds gs before hval0 hW _ _ hL _
  have hval : ∀ (j : Nat) t v, Tryd.f6.params[j]? = some t → args[j]? = some v → Value.okWide Tryd.prog W .any base t v := hval0
  have hW' := hW
  obtain ⟨p, q, hA0, hV, rfl, _, _⟩ := hW
  have hA : DataW.TrodAll enc Tryd.prog W 0 (fun _ => true) true Tryd.f6.params.toList args.toList ds p := hA0
  rw [Tryd.params6] at hA hval
  obtain ⟨v0, vs0, d0, ds0, p0, q0, hargs, rfl, rfl, h0, r0⟩ := trodAll_cons hA
  obtain ⟨v1, vs1, d1, ds1, p1, q1, rfl, rfl, rfl, h1, r1⟩ := trodAll_cons r0
  obtain ⟨rfl, rfl, rfl⟩ := trodAll_nil r1
  obtain rfl : args = #[v0, v1] := by cases args; simp_all
  obtain ⟨rfl, rfl⟩ := trodVars_none hV
  have k0 := h0
  have k1 := h1
  have lt0 : ∀ x ∈ p0, x.block < W.heap.size := by obtain ⟨m, hm⟩ := k0; exact DataW.trod_lt m _ _ _ hm
  have lt1 : ∀ x ∈ p1, x.block < W.heap.size := by obtain ⟨m, hm⟩ := k1; exact DataW.trod_lt m _ _ _ hm
  obtain ⟨nm0, a0, c0, ns0, rfl, z0, y0, x0, w0⟩ := dv_open (hval 0 28 v0 rfl rfl) h0
  obtain ⟨a1', len1', cap1', rfl⟩ := okWide_slice Tryd.underlying61 (hval 1 61 v1 rfl rfl)
  obtain ⟨a1, cap1, l1, e1, y1, x1, w1⟩ : ∃ a c l, Value.slice a1' len1' cap1' = .slice a l.length c ∧ l.length ≤ c ∧ c ≤ maxLen ∧ InsAt W a l := by
    obtain ⟨fuel, hf⟩ := h1
    exact ins_open hf
  simp only [Value.slice.injEq] at e1
  obtain ⟨rfl, rfl, rfl⟩ := e1
  clear hA0 hval0
  refine (historyTwins_walk _ _ _ _ _ _ _ W w0 z0 y0 w1 ⟨y1, x1⟩ (moves_laid hL)).mono fun e W' ⟨he, bel⟩ => ?_
  subst he
  exact ⟨_, rfl, _, _, _, [], _, [], hW', trodAll_mk1 (shut_bool Tryd.underlying4 _), (trodAll_cons_mk (Below.trod Tryd.laidOut (by kernel_rfl) (of_decide_eq_true (by kernel_rfl)) k0 bel lt0) (trodAll_cons_mk (Below.trod Tryd.laidOut (by kernel_rfl) (of_decide_eq_true (by kernel_rfl)) k1 bel lt1) trodAll_mk0)), rfl, bel.frame _, fun h => by cases h⟩

theorem historyTwins_row : Rows.HistoryTwinsSaid :=
  OpenClaim.holds_of_wide 6 Tryd.f6 rfl rfl rfl rfl rfl rfl rfl ⟨rfl, rfl, rfl, rfl, rfl⟩ rfl rfl rfl rfl rfl (by kernel_rfl) Tryd.func6 (by kernel_rfl)
    (of_decide_eq_true (by kernel_rfl)) (by unfold Func.isWrapper; first | (rw [if_pos (by decide +kernel)]; kernel_rfl) | (rw [if_neg (by decide +kernel)]; exact ⟨rfl, rfl⟩))
    (fun os started H enc _ => historyTwins_lifted os started H enc)

theorem historyTwins_holds : Rows.HistoryTwinsCardSaid :=
  Claim7.holds_tied_plain_at .later [] [.data] true Rows.historyTwinsCard.stood.harness false
    historyTwins_row (fun _ h => by cases h) (by kernel_rfl) (fun _ h => by cases h) historyTwins_row_tie rfl ⟨rfl, rfl⟩ (by kernel_rfl) rfl
    (fun f fn hf hfn => by
      obtain rfl : f = 6 := Option.some.inj ((show Tryd.prog.funcNamed "tiller/tillerlaw09.HistoryTwins" = some 6 by kernel_rfl).symm.trans hf) |>.symm
      obtain rfl : fn = Tryd.f6 := (Option.some.inj (Tryd.func6.symm.trans hfn)).symm
      exact ⟨by kernel_rfl, fun j t ht => by
        rw [Tryd.params6] at ht
        have hm : t ∈ [28, 61] := by simpa using Array.mem_of_getElem? ht
        have hall : ([28, 61].all fun u => !Tryd.prog.wantsStandIn u) = true := by kernel_rfl
        exact (show Tryd.prog.wantsStandIn t = false by simpa using List.all_eq_true.1 hall t hm)⟩)
    (by kernel_rfl)

end Go.Proofs.YtdecceekodpjiaaDoor
