/-
  HistoryTries holds for every number, list and text: the law's call returns true and leaves its arguments as they were. No condition; the listed variable is tied to the program's text.
-/
import Derived.Test.YthgeibhmcdefbabDoorHM5
import Derived.Deep.Grids
import Derived.Deep.QuietTactic
import Derived.BigQuiet
namespace Go.Proofs.YthgeibhmcdefbabDoor
open Go.ChangeShapes Go.WideShapes Go.ChangeAt Go.RowKit Go.Deep

/-- Marks that are handed in. -/
def BoolsAt (w : World) (a : Option Addr) (len : Nat) (B : Nat → Bool) : Prop :=
  len = 0 ∨ ∃ b o, a = some ⟨b, o, none⟩ ∧ ∀ i, i < len → w.cell? ⟨b, o + i, none⟩ = some (.bool (B i))

theorem bools_open {H : Type} {enc : TypeId × Value → H} {P : Program} {w : World} {base : Nat} {held : Bool} {t e : TypeId} {fuel : Nat} {v : Value} {x : DataW H × List MemPlace} (ht : P.underlying t = some (.slice e)) (he : P.underlying e = some .bool) (hc : P.cellsOf e = 1)
    (h : DataW.trod enc P w base (fun _ => true) held fuel t [v] = some x) : ∃ a len cap B, v = .slice a len cap ∧ BoolsAt w a len B := by
  rcases open_bools ht he hc h with ⟨hcs, _⟩ | ⟨a, l, c, B, hcs, _, hl, hm, _, hcell⟩
  · simp only [List.cons.injEq, and_true] at hcs
    exact ⟨_, _, _, fun _ => false, hcs, .inl rfl⟩
  · simp only [List.cons.injEq, and_true] at hcs
    rcases Nat.eq_zero_or_pos l with h0 | h0
    · exact ⟨_, _, _, B, hcs, .inl h0⟩
    · obtain ⟨b, o, rfl⟩ := addr_form (hcell 0 (by omega))
      exact ⟨_, _, _, B, hcs, .inr ⟨b, o, rfl, fun i hi => by have := hcell i (by omega); rw [Addr.add_lit] at this; exact this⟩⟩

theorem BoolsAt.new {w w' : World} {a : Option Addr} {len : Nat} {B : Nat → Bool} (X : BoolsAt w a len B) (K : Kept (fun _ => False) w w') : BoolsAt w' a len B := by
  rcases X with h | ⟨b, o, h, hc⟩
  · exact .inl h
  · exact .inr ⟨b, o, h, fun i hi => keepC K (hc i hi) (fun _ _ h => h)⟩

/-- A task alone in its row. -/
theorem task_at {w : World} {B : Nat} {a : Option Addr} {c : Nat} {t : Tk} (h : w.ownsRow B 56 13 (.slice a 1 c) 1 (tkF [t])) : ∃ g, a = some ⟨g, 0, none⟩ ∧ w.cell? ⟨g, 0, none⟩ = some (.int .i64 t.kind) ∧ w.cell? ⟨g, 4, none⟩ = some (.int .i64 t.tr) ∧ w.cell? ⟨g, 5, none⟩ = some (.int .i64 t.tm) := by
  obtain ⟨g, cg, hv, _, _, hrow⟩ := row_at h (by decide)
  obtain ⟨rfl, rfl⟩ : a = some ⟨g, 0, none⟩ ∧ c = cg := by simpa using hv
  exact ⟨g, rfl, (hrow 0 _ rfl).1, (hrow 4 _ rfl).1, (hrow 5 _ rfl).1⟩

/-- A node's standing alone in its row. -/
theorem stand_at {w : World} {B : Nat} {a : Option Addr} {c : Nat} {y : Ns} (h : w.ownsRow B 58 3 (.slice a 1 c) 1 (nsF [y])) : ∃ g, a = some ⟨g, 0, none⟩ ∧ w.cell? ⟨g, 0, none⟩ = some (.int .i64 y.status) ∧ w.cell? ⟨g, 1, none⟩ = some (.int .i64 y.tr) := by
  obtain ⟨g, cg, hv, _, _, hrow⟩ := row_at h (by decide)
  obtain ⟨rfl, rfl⟩ : a = some ⟨g, 0, none⟩ ∧ c = cg := by simpa using hv
  exact ⟨g, rfl, (hrow 0 _ rfl).1, (hrow 1 _ rfl).1⟩

theorem tryN_ok (nn : Nat) (h : nn ≤ 10) : NdOk (tryN nn) := ⟨by show 1 ≤ maxLen; decide, by show 1 ≤ maxLen; decide, by show 0 ≤ maxLen; decide, isI64_of (x := 1) (by decide) (by decide), isI64_of (x := 5) (by decide) (by decide), isI64_of (x := (nn : Int)) (by omega) (by omega), Nat.zero_le _⟩

theorem tryS_small (st tr : Int) (tx : ByteArray) (flow : Int) (ft : ByteArray) (e : Int) (h0 : 0 ≤ e) (h1 : e ≤ 1000) : Small (tryS st tr tx flow ft e) := ⟨by show 1 ≤ 64; decide, Nat.zero_le _, h0, by show e ≤ 100000; omega, by show 1 ≤ 100000000; decide⟩

/-- The state's box: one node, no signals. -/
structure TBox (w : World) (sb : Nat) (s : St) (y : Ns) (g6 c6 : Nat) (a7 : Option Addr) (c7 : Nat) : Prop where
  blk : w.heap[sb]? = some (.cells #[.string s.dfn, .string s.id, .string s.par, .string s.pnode, .int .i64 s.status, .string s.text, .slice (some ⟨g6, 0, none⟩) 1 c6, .slice a7 0 c7, .int .i64 s.events] 33 (0, 0))
  row : w.ownsRow 0 58 3 (.slice (some ⟨g6, 0, none⟩) 1 c6) 1 (nsF [y])
  sig : w.ownsRow 0 87 2 (.slice a7 0 c7) 0 (sgF [])
  one : s.nodes = [y]
  non : s.sigs = []

theorem TBox.rd {w : World} {sb : Nat} {s : St} {y : Ns} {g6 c6 : Nat} {a7 : Option Addr} {c7 : Nat} (X : TBox w sb s y g6 c6 a7 c7) : StRd w s (.slice (some ⟨g6, 0, none⟩) 1 c6) (.slice a7 0 c7) :=
  ⟨by rw [X.one]; exact flat_of_owns X.row, by rw [X.non]; exact flat_of_owns X.sig, by rw [X.one]; show 1 ≤ _; decide, by rw [X.non]; exact Nat.zero_le _⟩

theorem TBox.new {w w' : World} {sb : Nat} {s : St} {y : Ns} {g6 c6 : Nat} {a7 : Option Addr} {c7 : Nat} (X : TBox w sb s y g6 c6 a7 c7) (K : Kept (fun _ => False) w w') : TBox w' sb s y g6 c6 a7 c7 :=
  ⟨(K.block _ (Array.getElem?_eq_some_iff.1 X.blk).1 (fun h => h)).trans X.blk, ownsRow_keep X.row (fun g hg => K.block g (ownsRow_blk X.row hg) (fun h => h)), ownsRow_keep X.sig (fun g hg => K.block g (ownsRow_blk X.sig hg) (fun h => h)), X.one, X.non⟩

theorem TBox.node {w : World} {sb : Nat} {s : St} {y : Ns} {g6 c6 : Nat} {a7 : Option Addr} {c7 : Nat} (X : TBox w sb s y g6 c6 a7 c7) : w.cell? ⟨g6, 0, none⟩ = some (.int .i64 y.status) ∧ w.cell? ⟨g6, 1, none⟩ = some (.int .i64 y.tr) := by
  obtain ⟨g, hg, h0, h1⟩ := stand_at X.row
  simp only [Option.some.injEq, Addr.mk.injEq, and_true] at hg
  subst hg
  exact ⟨h0, h1⟩

/-- An answer with one node, no signals, so many tasks. -/
def OneOk (w : World) (r : Rn) (y : Ns) (nt : Nat) (e : Ending) (w' : World) : Prop := ∃ ae ce g6 c6 a7 c7 at_ ct, e = .returned (.tuple #[.slice ae r.evs.length ce, .agg #[.string r.st.dfn, .string r.st.id, .string r.st.par, .string r.st.pnode, .int .i64 r.st.status, .string r.st.text, .slice (some ⟨g6, 0, none⟩) 1 c6, .slice a7 0 c7, .int .i64 r.st.events], .slice at_ nt ct, .int .i64 0]) ∧ w'.ownsRow w.heap.size 58 3 (.slice (some ⟨g6, 0, none⟩) 1 c6) 1 (nsF [y]) ∧ w'.ownsRow w.heap.size 87 2 (.slice a7 0 c7) 0 (sgF []) ∧ w'.ownsRow w.heap.size 56 13 (.slice at_ nt ct) nt (tkF r.tks) ∧ Kept (fun _ => False) w w'

theorem OkPost.one {w w' : World} {r : Rn} {y : Ns} {nt : Nat} {e : Ending} (h1 : r.st.nodes = [y]) (h2 : r.st.sigs = []) (h3 : r.tks.length = nt) (P : OkPost w r e w') : OneOk w r y nt e w' := by
  obtain ⟨ae, ce, a6, c6, a7, c7, at_, ct, he, ⟨_, A2, A3, A4⟩, K⟩ := P
  rw [h1] at he A2
  rw [h2] at he A3
  rw [h3] at he A4
  obtain ⟨g, rfl, _, _⟩ := stand_at (show w'.ownsRow w.heap.size 58 3 (.slice a6 1 c6) 1 (nsF [y]) from A2)
  exact ⟨ae, ce, g, c6, a7, c7, at_, ct, he, A2, A3, A4, K⟩

theorem box_store {w3 : World} {sb B : Nat} {u0 u1 u2 u3 u4 u5 u6 u7 u8 : Value} {s : St} {y : Ns} {g6 c6 : Nat} {a7 : Option Addr} {c7 : Nat} (hb : w3.heap[sb]? = some (.cells #[u0, u1, u2, u3, u4, u5, u6, u7, u8] 33 (0, 0))) (hB : sb < B)
    (r6 : w3.ownsRow B 58 3 (.slice (some ⟨g6, 0, none⟩) 1 c6) 1 (nsF [y])) (r7 : w3.ownsRow B 87 2 (.slice a7 0 c7) 0 (sgF [])) (h1 : s.nodes = [y]) (h2 : s.sigs = []) :
    TBox (((((((((w3.setCell ⟨sb, 0, none⟩ (.string s.dfn)).setCell ⟨sb, 1, none⟩ (.string s.id)).setCell ⟨sb, 2, none⟩ (.string s.par)).setCell ⟨sb, 3, none⟩ (.string s.pnode)).setCell ⟨sb, 4, none⟩ (.int .i64 s.status)).setCell ⟨sb, 5, none⟩ (.string s.text)).setCell ⟨sb, 6, none⟩ (.slice (some ⟨g6, 0, none⟩) 1 c6)).setCell ⟨sb, 7, none⟩ (.slice a7 0 c7)).setCell ⟨sb, 8, none⟩ (.int .i64 s.events)) sb s y g6 c6 a7 c7 ∧ Kept (fun j => j = sb) w3 (((((((((w3.setCell ⟨sb, 0, none⟩ (.string s.dfn)).setCell ⟨sb, 1, none⟩ (.string s.id)).setCell ⟨sb, 2, none⟩ (.string s.par)).setCell ⟨sb, 3, none⟩ (.string s.pnode)).setCell ⟨sb, 4, none⟩ (.int .i64 s.status)).setCell ⟨sb, 5, none⟩ (.string s.text)).setCell ⟨sb, 6, none⟩ (.slice (some ⟨g6, 0, none⟩) 1 c6)).setCell ⟨sb, 7, none⟩ (.slice a7 0 c7)).setCell ⟨sb, 8, none⟩ (.int .i64 s.events)) ∧ ∀ {T sz n : Nat} {v : Value} {xs : List Value}, w3.ownsRow B T sz v n xs → (((((((((w3.setCell ⟨sb, 0, none⟩ (.string s.dfn)).setCell ⟨sb, 1, none⟩ (.string s.id)).setCell ⟨sb, 2, none⟩ (.string s.par)).setCell ⟨sb, 3, none⟩ (.string s.pnode)).setCell ⟨sb, 4, none⟩ (.int .i64 s.status)).setCell ⟨sb, 5, none⟩ (.string s.text)).setCell ⟨sb, 6, none⟩ (.slice (some ⟨g6, 0, none⟩) 1 c6)).setCell ⟨sb, 7, none⟩ (.slice a7 0 c7)).setCell ⟨sb, 8, none⟩ (.int .i64 s.events)).ownsRow B T sz v n xs := by
  have K := kept9 (S := fun j => j = sb) w3 rfl (.string s.dfn) (.string s.id) (.string s.par) (.string s.pnode) (.int .i64 s.status) (.string s.text) (.slice (some ⟨g6, 0, none⟩) 1 c6) (.slice a7 0 c7) (.int .i64 s.events)
  have keep : ∀ {T sz n : Nat} {v : Value} {xs : List Value}, w3.ownsRow B T sz v n xs → (((((((((w3.setCell ⟨sb, 0, none⟩ (.string s.dfn)).setCell ⟨sb, 1, none⟩ (.string s.id)).setCell ⟨sb, 2, none⟩ (.string s.par)).setCell ⟨sb, 3, none⟩ (.string s.pnode)).setCell ⟨sb, 4, none⟩ (.int .i64 s.status)).setCell ⟨sb, 5, none⟩ (.string s.text)).setCell ⟨sb, 6, none⟩ (.slice (some ⟨g6, 0, none⟩) 1 c6)).setCell ⟨sb, 7, none⟩ (.slice a7 0 c7)).setCell ⟨sb, 8, none⟩ (.int .i64 s.events)).ownsRow B T sz v n xs := fun {T sz n v xs} h => ownsRow_keep h (fun g hg => K.block g (ownsRow_blk h hg) (fun e => by have := (h.lt g hg).1; omega))
  exact ⟨⟨put9 hb _ _ _ _ _ _ _ _ _, ownsRow_low (keep r6) (Nat.zero_le _), ownsRow_low (keep r7) (Nat.zero_le _), h1, h2⟩, K, keep⟩

theorem task0 {w : World} {B : Nat} {a : Option Addr} {c : Nat} {ts : List Tk} {t : Tk} (h : w.ownsRow B 56 13 (.slice a 1 c) 1 (tkF ts)) (ht : ts = [t]) : ∃ g, a = some ⟨g, 0, none⟩ ∧ w.cell? ⟨g, 0, none⟩ = some (.int .i64 t.kind) ∧ w.cell? ⟨g, 4, none⟩ = some (.int .i64 t.tr) ∧ w.cell? ⟨g, 5, none⟩ = some (.int .i64 t.tm) := by
  subst ht
  exact task_at h

set_option maxRecDepth 100000 in
set_option maxHeartbeats 20000000 in
theorem historyTries_walk (tries : Int) (a : Option Addr) (len cap : Nat) (B : Nat → Bool) (tx : ByteArray) (w : World) (hB : BoolsAt w a len B) (M : MovesAt w) :
    Calls Tryd.prog 4 #[.int .i64 tries, .slice a len cap, .string tx] w fun e w' => e = .returned (.bool true) ∧ Below w.heap.size w w' := by
  obtain ⟨nn, hnn, hn1, hn2⟩ : ∃ nn : Nat, 1 + tries % 10 = (nn : Int) ∧ 1 ≤ nn ∧ nn ≤ 10 := ⟨(1 + tries % 10).toNat, by omega, by omega, by omega⟩
  have hWi := within_any w tries 10 (by decide) (by decide)
  have hwr : IntKind.i64.wrap (1 + tries % 10) = (nn : Int) := by rw [hnn, IntKind.wrap_i64]; omega
  have K1 : Kept (fun _ => False) w ((w.alloc (.cells #[.string ⟨#[97]⟩, .int .i64 1, .string ⟨#[113]⟩, .string ⟨#[]⟩, .int .i64 5, .int .i64 (nn : Nat), .slice none 0 0] 43)).alloc (.cells #[.string ⟨#[119]⟩, .slice (some ⟨w.heap.size, 0, none⟩) 1 1] 24)) := (Kept.alloc _ _ _).and (Kept.alloc _ _ _)
  have hb := heap_alloc_new (w.alloc (.cells #[.string ⟨#[97]⟩, .int .i64 1, .string ⟨#[113]⟩, .string ⟨#[]⟩, .int .i64 5, .int .i64 (nn : Nat), .slice none 0 0] 43)) (.cells #[.string ⟨#[119]⟩, .slice (some ⟨w.heap.size, 0, none⟩) 1 1] 24)
  rw [World.size_alloc] at hb
  have hlow : w.heap.size + 1 < ((w.alloc (.cells #[.string ⟨#[97]⟩, .int .i64 1, .string ⟨#[113]⟩, .string ⟨#[]⟩, .int .i64 5, .int .i64 (nn : Nat), .slice none 0 0] 43)).alloc (.cells #[.string ⟨#[119]⟩, .slice (some ⟨w.heap.size, 0, none⟩) 1 1] 24)).heap.size := (Array.getElem?_eq_some_iff.1 hb).1
  have D : DefAt ((w.alloc (.cells #[.string ⟨#[97]⟩, .int .i64 1, .string ⟨#[113]⟩, .string ⟨#[]⟩, .int .i64 5, .int .i64 (nn : Nat), .slice none 0 0] 43)).alloc (.cells #[.string ⟨#[119]⟩, .slice (some ⟨w.heap.size, 0, none⟩) 1 1] 24)) (some ⟨w.heap.size, 0, none⟩) [tryN nn] := ⟨keptNew (Kept.alloc _ _ _) (node_new w (tryN nn) (tryN_ok nn hn2) rfl), by show 1 ≤ 64; decide, fun b o h => by simp only [Option.some.injEq, Addr.mk.injEq] at h; omega, fun x hx => by rw [List.mem_singleton] at hx; subst hx; show 1 ≤ 100000000; decide, M.kept K1 (fun h => h)⟩
  obtain ⟨r0, hr0⟩ : ∃ r0 : Rn, r0 = ⟨tryS 1 0 ⟨#[]⟩ 1 ⟨#[]⟩ 2, 0, [⟨1, ⟨#[]⟩, ⟨#[]⟩, 0⟩, ⟨2, ⟨#[97]⟩, ⟨#[]⟩, 0⟩], [⟨1, ⟨#[102]⟩, ⟨#[97]⟩, 1, 0, zeroMl⟩]⟩ := ⟨_, rfl⟩
  have hS0 := step_ok (c := 1) (n := 1) (nm := ⟨#[119]⟩) (r := r0) D rfl (zeroSt_rd _) zeroSt_small (q := inp 1 ⟨#[]⟩ ⟨#[102]⟩ ⟨#[]⟩ 0 0 0) (by decide) (by decide) (by rw [hr0]; exact tries_start nn)
  dsimp only [zeroSt, inp] at hS0
  have HD := hid D
  have HK1 := hid K1
  have HB := hid hb
  have HM := hid M
  have HBo := hid hB
  have Hr0 := hid hr0
  clear D K1 M hb hB hr0 hnn
  obtain ⟨y0, hy0⟩ : ∃ y0 : Ns, y0 = ⟨1, 0, ⟨#[]⟩⟩ := ⟨_, rfl⟩
  have hS := hS0.mono (fun e w' P => P.one (y := y0) (nt := 1) (by rw [Hr0.out, hy0]; rfl) (by rw [Hr0.out]; rfl) (by rw [Hr0.out]; rfl))
  unfold OneOk at hS
  clear hS0
  obtain ⟨tx2, htz, hcs⟩ : ∃ tx2 : ByteArray, tx2.size ≤ 256 ∧ ((256 < tx.size ∧ tx2 = tx.extract 0 256) ∨ (¬ 256 < tx.size ∧ tx2 = tx)) := by
    by_cases h : 256 < tx.size
    · exact ⟨_, by rw [ByteArray.size_extract]; omega, .inl ⟨h, rfl⟩⟩
    · exact ⟨_, by omega, .inr ⟨h, rfl⟩⟩
  have Hcs := hid hcs
  clear hcs
  go_enter Tryd.func4, Tryd.ntmps4
  go_upto_if 24 with (first
    | (go_at_call 14; refine hWi.mono ?_; rintro e w1 ⟨rfl, hw1⟩; subst w1; clear hWi)
    | fail)
  go_cut [2] from 22 (fun v wx => v = .string tx2 ∧ wx = w)
  case first =>
    rcases Hcs.out with ⟨hlt, hte⟩ | ⟨hlt, hte⟩
    · have e0 : (256 : Int) < (tx.size : Int) := by omega
      have e1 : (256 : Int) ≤ (tx.size : Int) := by omega
      clear hlt
      go_wp2_with fail
      go_meet
      case rel => exact ⟨by rw [hte], rfl⟩
    · have e0 : ¬ (256 : Int) < (tx.size : Int) := by omega
      clear hlt
      go_wp2_with fail
      go_meet
      case rel => exact ⟨by rw [hte], rfl⟩
  case rest =>
    obtain ⟨hc2, hcw⟩ := hcut
    subst wc
    subst hc2
    go_wp2_with (first
      | (go_at_call 15; refine hS.mono ?_; rintro e w2 ⟨ae, ce, g6, c6, a7, c7, at_, ct, rfl, O6, O7, OT, K2⟩; clear hS)
      | fail)
    have KB := Kept.alloc (fun _ => False) w2 (.cells #[.string r0.st.dfn, .string r0.st.id, .string r0.st.par, .string r0.st.pnode, .int .i64 r0.st.status, .string r0.st.text, .slice (some ⟨g6, 0, none⟩) 1 c6, .slice a7 0 c7, .int .i64 r0.st.events] 33)
    have bB := heap_alloc_new w2 (.cells #[.string r0.st.dfn, .string r0.st.id, .string r0.st.par, .string r0.st.pnode, .int .i64 r0.st.status, .string r0.st.text, .slice (some ⟨g6, 0, none⟩) 1 c6, .slice a7 0 c7, .int .i64 r0.st.events] 33)
    have HD2 := hid (HD.out.new K2)
    have HK2 := hid (HK1.out.and K2)
    have HB2 := hid ((K2.block _ (Array.getElem?_eq_some_iff.1 HB.out).1 (fun h => h)).trans HB.out)
    have Hin : Hid (∃ (t : Tk) (Bt : Nat), (w2.alloc (.cells #[.string r0.st.dfn, .string r0.st.id, .string r0.st.par, .string r0.st.pnode, .int .i64 r0.st.status, .string r0.st.text, .slice (some ⟨g6, 0, none⟩) 1 c6, .slice a7 0 c7, .int .i64 r0.st.events] 33)).ownsRow Bt 56 13 (.slice at_ 1 ct) 1 (tkF [t]) ∧ t.kind = 1 ∧ t.tr = ((1 : Nat) : Int)) := ⟨⟨1, ⟨#[102]⟩, ⟨#[97]⟩, 1, 0, zeroMl⟩, _, by have h := ownsRow_keep OT (fun g hg => KB.block g (ownsRow_blk OT hg) (fun h => h)); rw [show r0.tks = [⟨1, ⟨#[102]⟩, ⟨#[97]⟩, 1, 0, zeroMl⟩] by rw [Hr0.out]] at h; exact h, rfl, rfl⟩
    have HX0 : Hid (TBox (w2.alloc (.cells #[.string r0.st.dfn, .string r0.st.id, .string r0.st.par, .string r0.st.pnode, .int .i64 r0.st.status, .string r0.st.text, .slice (some ⟨g6, 0, none⟩) 1 c6, .slice a7 0 c7, .int .i64 r0.st.events] 33)) w2.heap.size r0.st y0 g6 c6 a7 c7) := ⟨bB, ownsRow_low (ownsRow_keep O6 (fun g hg => KB.block g (ownsRow_blk O6 hg) (fun h => h))) (Nat.zero_le _), ownsRow_low (ownsRow_keep O7 (fun g hg => KB.block g (ownsRow_blk O7 hg) (fun h => h))) (Nat.zero_le _), by rw [Hr0.out, hy0]; rfl, by rw [Hr0.out]; rfl⟩
    have HKB := hid KB
    clear KB bB O6 O7 OT K2 HD HK1 HB
    go_loopw [11, 12, 13] (fun v11 v12 v13 wr => ∃ (k : Nat) (e : Int) (s : St) (y : Ns) (at_ : Option Addr) (ct g6 c6 : Nat) (a7 : Option Addr) (c7 : Nat), 1 ≤ k ∧ k ≤ nn ∧ v13 = .int .i64 k ∧ v12 = .int .i64 0 ∧ v11 = .slice at_ 1 ct ∧ s = tryS 1 ((k : Int) - 1) ⟨#[]⟩ 1 ⟨#[]⟩ e ∧ y = ⟨1, (k : Int) - 1, ⟨#[]⟩⟩ ∧ 0 ≤ e ∧ e ≤ 3 * k ∧ (∃ (t : Tk) (Bt : Nat), wr.ownsRow Bt 56 13 (.slice at_ 1 ct) 1 (tkF [t]) ∧ t.kind = 1 ∧ t.tr = (k : Int)) ∧ TBox wr w2.heap.size s y g6 c6 a7 c7 ∧ Kept (fun _ => False) w2 wr) (fun _ _ v13 _ => nn + 1 - (intOf v13).toNat)
    case atStart => exact ⟨1, 2, r0.st, y0, at_, ct, g6, c6, a7, c7, Nat.le_refl _, hn1, rfl, rfl, rfl, by rw [Hr0.out]; rfl, hy0, by decide, by decide, Hin.out, HX0.out, HKB.out⟩
    case round =>
      obtain ⟨k, e1, s, y, bt_, dt_, g6, c6, a7, c7, hk1, hk2, rfl, rfl, rfl, hs, hy, he0, he1, ⟨t, Bt, OT, ht1, ht2⟩, X, K⟩ := hrel
      have hle : (k : Int) ≤ (nn : Int) := by omega
      obtain ⟨gt, hgt, t0, t4, _⟩ := task_at OT
      subst hgt
      obtain ⟨n0, n1⟩ := X.node
      obtain ⟨⟨s0, s1_, s2, s3, s4, s5, s6, s7, s8⟩, _⟩ := nine X.blk
      obtain ⟨d0, d1⟩ := pairC ((K.block _ (Array.getElem?_eq_some_iff.1 HB2.out).1 (fun h => h)).trans HB2.out)
      have u1 : (t.kind != 1) = false := by rw [ht1]; rfl
      have u2 : (t.tr != (k : Int)) = false := by rw [ht2]; simp
      have u3 : (y.status != 1) = false := by rw [hy]; rfl
      have w7 : IntKind.i64.wrap (7 * (k : Int)) = 7 * (k : Int) := by rw [IntKind.wrap_i64]; omega
      have w75 : IntKind.i64.wrap (7 * (k : Int) + 5) = 7 * (k : Int) + 5 := by rw [IntKind.wrap_i64]; omega
      have wk : IntKind.i64.wrap ((k : Int) - 1 + 1) = (k : Int) := by rw [IntKind.wrap_i64]; omega
      have wk1 : IntKind.i64.wrap ((k : Int) - 1) = (k : Int) - 1 := by rw [IntKind.wrap_i64]; omega
      obtain ⟨r1, hr1⟩ : ∃ r1 : Rn, r1 = ⟨tryS 2 (k : Int) ⟨#[]⟩ 1 ⟨#[]⟩ (e1 + 1), 7 * (k : Int), [⟨3, ⟨#[97]⟩, ⟨#[]⟩, k⟩], [⟨2, ⟨#[102]⟩, ⟨#[97]⟩, k, 7 * (k : Int) + 5, zeroMl⟩]⟩ := ⟨_, rfl⟩
      have hp1 : stepP ⟨#[119]⟩ [tryN nn] s (inp 3 ⟨#[97]⟩ ⟨#[]⟩ ⟨#[]⟩ 0 0 (7 * (k : Int))) = (r1, 0) := by rw [hs, hr1, tries_take, wk, w75]
      obtain ⟨y1, hyy⟩ : ∃ y1 : Ns, y1 = ⟨2, (k : Int), ⟨#[]⟩⟩ := ⟨_, rfl⟩
      have hy1 : r1.st.nodes = [y1] := by rw [hr1, hyy]; rfl
      have hg1 : r1.st.sigs = [] := by rw [hr1]; rfl
      have htk : r1.tks = [⟨2, ⟨#[102]⟩, ⟨#[97]⟩, k, 7 * (k : Int) + 5, zeroMl⟩] := by rw [hr1]
      have hZ : Small s := by rw [hs]; exact tryS_small _ _ _ _ _ _ he0 (by omega)
      have hS1 := (step_ok (c := 1) (n := 1) (nm := ⟨#[119]⟩) (HD2.out.new K) rfl X.rd hZ (q := inp 3 ⟨#[97]⟩ ⟨#[]⟩ ⟨#[]⟩ 0 0 (7 * (k : Int))) (by exact Nat.zero_le _) (by exact Nat.zero_le _) hp1).mono (fun e w' P => P.one hy1 hg1 (show r1.tks.length = 1 by rw [htk]; rfl))
      unfold OneOk at hS1
      dsimp only [inp] at hS1
      have HX := hid X
      have HK := hid K
      have Hr1 := hid hr1
      have Hy1 := hid hy1
      have Hg1 := hid hg1
      have Htk := hid htk
      have Hyy1 := hid hyy
      have hsbw : w2.heap.size < wr.heap.size := (Array.getElem?_eq_some_iff.1 X.blk).1
      clear OT ht1 ht2 X K hs hy hp1 hy1 hg1 htk hZ hr1 hyy
      go_upto_region 12 with (first
        | (go_at_call 15; refine hS1.mono ?_; rintro e w3 ⟨ae1, ce1, h6, m6, h7, m7, ht_, mt, rfl, O6, O7, OT3, K3⟩; clear hS1; have hX := (HX.out.new K3).blk; obtain ⟨⟨p0, p1, p2, p3, p4, p5, p6, p7, p8⟩, f0, f1, f2, f3, f4, f5, f6, f7, f8⟩ := nine hX; have HXb := hid hX; clear hX)
        | fail)
      obtain ⟨X3, K4, keep3⟩ := box_store (s := r1.st) HXb.out hsbw O6 O7 Hy1.out Hg1.out
      have OT4 := keep3 OT3
      have HK3 := hid ((HK.out.and K3).trans K4 (fun j h => .inr (Nat.le_of_eq h.symm)))
      clear p0 p1 p2 p3 p4 p5 p6 p7 p8 f0 f1 f2 f3 f4 f5 f6 f7 f8 s0 s1_ s2 s3 s4 s5 s6 s7 s8 d0 d1 n0 n1 t0 t4 u1 u2 u3 keep3 O6 O7 OT3 K3 K4 HXb
      generalize (((((((((w3.setCell ⟨w2.heap.size, 0, none⟩ (.string r1.st.dfn)).setCell ⟨w2.heap.size, 1, none⟩ (.string r1.st.id)).setCell ⟨w2.heap.size, 2, none⟩ (.string r1.st.par)).setCell ⟨w2.heap.size, 3, none⟩ (.string r1.st.pnode)).setCell ⟨w2.heap.size, 4, none⟩ (.int .i64 r1.st.status)).setCell ⟨w2.heap.size, 5, none⟩ (.string r1.st.text)).setCell ⟨w2.heap.size, 6, none⟩ (.slice (some ⟨h6, 0, none⟩) 1 m6)).setCell ⟨w2.heap.size, 7, none⟩ (.slice h7 0 m7)).setCell ⟨w2.heap.size, 8, none⟩ (.int .i64 r1.st.events)) = W3 at *
      obtain ⟨gt, hgt, t0, t4, t5⟩ := task0 OT4 Htk.out
      subst hgt
      dsimp only at t0 t4 t5
      obtain ⟨n0, n1⟩ := X3.node
      rw [Hyy1.out] at n0 n1
      dsimp only at n0 n1
      obtain ⟨⟨_, _, _, _, _, _, s6, _, _⟩, _⟩ := nine X3.blk
      obtain ⟨s1, hs1e⟩ : ∃ s1, s1 = r1.st := ⟨_, rfl⟩
      obtain ⟨e2, he2⟩ : ∃ e2, e2 = e1 + 1 := ⟨_, rfl⟩
      have Hs1 : Hid (s1 = tryS 2 (k : Int) ⟨#[]⟩ 1 ⟨#[]⟩ e2) := by show _ = _; rw [hs1e, Hr1.out, he2]
      have HX1 := hid X3
      rw [← hs1e] at HX1
      have HZ1 : Hid (Small s1) := by show Small s1; rw [Hs1.out]; exact tryS_small _ _ _ _ _ _ (by omega) (by omega)
      have HL : Hid (stepP ⟨#[119]⟩ [tryN nn] s1 (inp 5 ⟨#[97]⟩ ⟨#[]⟩ ⟨#[]⟩ ((k : Int) - 1) 0 0) = (⟨tryS 2 (k : Int) ⟨#[]⟩ 1 ⟨#[]⟩ e2, 0, [], []⟩, 12)) := by show _ = _; rw [Hs1.out]; exact tries_late nn k e2 _ (by omega)
      have hBW := HBo.out.new (HK2.out.and HK3.out)
      have he0' : 0 ≤ e2 := by omega
      have he1' : e2 ≤ 3 * (k : Int) + 1 := by omega
      clear X3 OT4 hs1e he2 he0 he1 HX HK Hr1 Hy1 Hg1 Htk Hyy1
      by_cases hkl : k < len
      · have eL : (k : Int) < (len : Int) := by omega
        obtain ⟨bb, bo, hba, hbc⟩ : ∃ b o, a = some ⟨b, o, none⟩ ∧ W3.cell? ⟨b, o + k, none⟩ = some (.bool (B k)) := by
          rcases hBW with h | ⟨b, o, h, hc⟩
          · omega
          · exact ⟨b, o, h, hc k hkl⟩
        subst hba
        clear hBW
        have hbI := fun X => keepC (Kept.alloc (fun _ => False) W3 X) hbc (fun _ _ h => h)
        cases hbk : B k with
        | true =>
          rw [hbk] at hbI hbc
          clear hbk
          go_upto_region 17 with (first | go_quiet (fail) | fail)
          have KI := Kept.alloc (fun _ => False) W3 (.cells #[.int .i64 6, .string ⟨#[97]⟩, .string ⟨#[]⟩, .string ⟨#[]⟩, .int .i64 (k : Int), .int .i64 0, .int .i64 0, .string ⟨#[]⟩, .string ⟨#[]⟩] 38)
          have bI := heap_alloc_new W3 (.cells #[.int .i64 6, .string ⟨#[97]⟩, .string ⟨#[]⟩, .string ⟨#[]⟩, .int .i64 (k : Int), .int .i64 0, .int .i64 0, .string ⟨#[]⟩, .string ⟨#[]⟩] 38)
          have hib : w2.heap.size < W3.heap.size := (Array.getElem?_eq_some_iff.1 HX1.out.blk).1
          have hbs : W3.heap.size < (W3.alloc (.cells #[.int .i64 6, .string ⟨#[97]⟩, .string ⟨#[]⟩, .string ⟨#[]⟩, .int .i64 (k : Int), .int .i64 0, .int .i64 0, .string ⟨#[]⟩, .string ⟨#[]⟩] 38)).heap.size := by rw [World.size_alloc]; omega
          have hDI := HD2.out.new (HK3.out.and KI)
          have XI := HX1.out.new KI
          have hS2 := step_no (c := 1) (n := 1) (nm := ⟨#[119]⟩) hDI rfl XI.rd HZ1.out (q := inp 5 ⟨#[97]⟩ ⟨#[]⟩ ⟨#[]⟩ ((k : Int) - 1) 0 0) (by exact Nat.zero_le _) (by exact Nat.zero_le _) HL.out (by decide)
          dsimp only [inp] at hS2
          have dI := pairC (((HK3.out.and KI).block _ (Array.getElem?_eq_some_iff.1 HB2.out).1 (fun h => h)).trans HB2.out)
          obtain ⟨d0, d1⟩ := dI
          obtain ⟨⟨s0, s1_, s2, s3, s4, s5, s6, s7, s8⟩, _⟩ := nine XI.blk
          have HbI := hid bI
          have HXI := hid XI
          have HDI := hid hDI
          have HKI := hid (HK3.out.and KI)
          have hiw : w2.heap.size ≤ W3.heap.size := HK3.out.size
          clear KI bI XI hDI HX1 HK3
          generalize W3.alloc (.cells #[.int .i64 6, .string ⟨#[97]⟩, .string ⟨#[]⟩, .string ⟨#[]⟩, .int .i64 (k : Int), .int .i64 0, .int .i64 0, .string ⟨#[]⟩, .string ⟨#[]⟩] 38) = V at *
          generalize W3.heap.size = ib at *
          go_upto_region 18 with (first
            | (go_at_call 15; refine hS2.mono ?_; rintro e w4 ⟨be, de, b6, d6, b7, d7, bt, dt, rfl, K4⟩; clear hS2)
            | fail)
          clear s0 s1_ s2 s3 s4 s5 s6 s7 s8 d0 d1
          have K5 := K4.and (Kept.alloc (fun _ => False) w4 (.cells #[.string ⟨#[]⟩, .string ⟨#[]⟩, .string ⟨#[]⟩, .string ⟨#[]⟩, .int .i64 0, .string ⟨#[]⟩, .slice b6 0 d6, .slice b7 0 d7, .int .i64 0] 33))
          clear K4
          generalize w4.alloc (.cells #[.string ⟨#[]⟩, .string ⟨#[]⟩, .string ⟨#[]⟩, .string ⟨#[]⟩, .int .i64 0, .string ⟨#[]⟩, .slice b6 0 d6, .slice b7 0 d7, .int .i64 0] 33) = V5 at *
          generalize w4.heap.size = lb at *
          have X5 := HXI.out.new K5
          have D5 := HDI.out.new K5
          have i5 := (K5.block _ (Array.getElem?_eq_some_iff.1 HbI.out).1 (fun h => h)).trans HbI.out
          have dI := pairC (((HKI.out.and K5).block _ (Array.getElem?_eq_some_iff.1 HB2.out).1 (fun h => h)).trans HB2.out)
          obtain ⟨d0, d1⟩ := dI
          obtain ⟨⟨s0, s1_, s2, s3, s4, s5, s6, s7, s8⟩, _⟩ := nine X5.blk
          obtain ⟨⟨i0, i1, i2, i3, i4, i5_, i6, i7, i8⟩, _⟩ := nine i5
          have HX5 := hid X5
          have HD5 := hid D5
          have HI5 := hid i5
          have HK5 := hid (HKI.out.and K5)
          have hV5 := Nat.lt_of_lt_of_le hbs K5.size
          clear X5 D5 i5 K5 HXI HDI HKI HbI hbs
          by_cases hlast : k = nn
          · obtain ⟨r2, hr2⟩ : ∃ r2 : Rn, r2 = ⟨tryS 4 (k : Int) timeoutB 3 timeoutB (e2 + 1 + 1), 0, [⟨6, ⟨#[97]⟩, timeoutB, 0⟩, ⟨15, ⟨#[]⟩, timeoutB, 3⟩], []⟩ := ⟨_, rfl⟩
            have hp3 : stepP ⟨#[119]⟩ [tryN nn] s1 (inp 6 ⟨#[97]⟩ ⟨#[]⟩ ⟨#[]⟩ (k : Int) 0 0) = (r2, 0) := by rw [Hs1.out, hr2, tries_fire nn k e2, failTry_last nn k e2 timeoutB 0 (by omega)]
            obtain ⟨y2, hyy⟩ : ∃ y2 : Ns, y2 = ⟨4, (k : Int), timeoutB⟩ := ⟨_, rfl⟩
            have hy2 : r2.st.nodes = [y2] := by rw [hr2, hyy]; rfl
            have hg2 : r2.st.sigs = [] := by rw [hr2]; rfl
            have ht2 : r2.tks.length = 0 := by rw [hr2]; rfl
            have hS3 := (step_ok (c := 1) (n := 1) (nm := ⟨#[119]⟩) HD5.out rfl HX5.out.rd HZ1.out (q := inp 6 ⟨#[97]⟩ ⟨#[]⟩ ⟨#[]⟩ (k : Int) 0 0) (by exact Nat.zero_le _) (by exact Nat.zero_le _) hp3).mono (fun e w' P => P.one hy2 hg2 ht2)
            unfold OneOk at hS3
            dsimp only [inp] at hS3
            have Hy2 := hid hy2
            have Hyy := hid hyy
            have Hg2 := hid hg2
            have Hr2 := hid hr2
            have Hlast := hid hlast
            clear hp3 hy2 hyy hg2 ht2 hr2 hlast
            go_upto_region 19 with (first
              | (go_at_call 15; refine hS3.mono ?_; rintro e w6 ⟨be2, de2, k6, l6, k7, l7, kt, lt, rfl, O6, O7, OT6, K6⟩; clear hS3; have hX := (HX5.out.new K6).blk; obtain ⟨⟨p0, p1, p2, p3, p4, p5, p6, p7, p8⟩, f0, f1, f2, f3, f4, f5, f6, f7, f8⟩ := nine hX; have HXb := hid hX; clear hX)
              | fail)
            obtain ⟨X6, K7, keep6⟩ := box_store (s := r2.st) HXb.out (show w2.heap.size < V5.heap.size by omega) O6 O7 Hy2.out Hg2.out
            have OT7 := keep6 OT6
            have R6 := keep6 O6
            have R7 := keep6 O7
            have i7b := (K7.block ib (Nat.lt_of_lt_of_le (Array.getElem?_eq_some_iff.1 HI5.out).1 K6.size) (by omega)).trans ((K6.block _ (Array.getElem?_eq_some_iff.1 HI5.out).1 (fun h => h)).trans HI5.out)
            have K8 := (HK5.out.and K6).trans K7 (fun j h => .inr (by omega))
            clear p0 p1 p2 p3 p4 p5 p6 p7 p8 f0 f1 f2 f3 f4 f5 f6 f7 f8 s0 s1_ s2 s3 s4 s5 s6 s7 s8 d0 d1 i0 i1 i2 i3 i4 i5_ i6 i7 i8 keep6 O6 O7 OT6 K6 K7
            generalize (((((((((w6.setCell ⟨w2.heap.size, 0, none⟩ (.string r2.st.dfn)).setCell ⟨w2.heap.size, 1, none⟩ (.string r2.st.id)).setCell ⟨w2.heap.size, 2, none⟩ (.string r2.st.par)).setCell ⟨w2.heap.size, 3, none⟩ (.string r2.st.pnode)).setCell ⟨w2.heap.size, 4, none⟩ (.int .i64 r2.st.status)).setCell ⟨w2.heap.size, 5, none⟩ (.string r2.st.text)).setCell ⟨w2.heap.size, 6, none⟩ (.slice (some ⟨k6, 0, none⟩) 1 l6)).setCell ⟨w2.heap.size, 7, none⟩ (.slice k7 0 l7)).setCell ⟨w2.heap.size, 8, none⟩ (.int .i64 r2.st.events)) = W7 at *
            obtain ⟨⟨s0, s1_, s2, s3, s4, s5, s6, s7, s8⟩, _⟩ := nine X6.blk
            obtain ⟨⟨i0, i1, i2, i3, i4, i5_, i6, i7, i8⟩, j0, j1, j2, j3, j4, j5, j6, j7, j8⟩ := nine i7b
            have hk6 := (R6.lt k6 rfl).1
            have KS : Kept (fun j => j = ib) W7 (W7.setCell ⟨ib, 3, none⟩ (.string ⟨#[116, 105, 109, 101, 111, 117, 116]⟩)) := Kept.setCell _ _ _ rfl
            have i9 : (W7.setCell ⟨ib, 3, none⟩ (.string ⟨#[116, 105, 109, 101, 111, 117, 116]⟩)).heap[ib]? = some (.cells #[.int .i64 6, .string ⟨#[97]⟩, .string ⟨#[]⟩, .string ⟨#[116, 105, 109, 101, 111, 117, 116]⟩, .int .i64 (k : Int), .int .i64 0, .int .i64 0, .string ⟨#[]⟩, .string ⟨#[]⟩] 38 (0, 0)) := by simp [World.setCell, Array.getElem?_modify, i7b]
            have b9 := (KS.block w2.heap.size (Array.getElem?_eq_some_iff.1 X6.blk).1 (by omega)).trans X6.blk
            have R69 := ownsRow_keep R6 (fun g hg => KS.block g (ownsRow_blk R6 hg) (fun h => by have := (R6.lt g hg).1; omega))
            have R79 := ownsRow_keep R7 (fun g hg => KS.block g (ownsRow_blk R7 hg) (fun h => by have := (R7.lt g hg).1; omega))
            have OT9 := ownsRow_keep OT7 (fun g hg => KS.block g (ownsRow_blk OT7 hg) (fun h => by have := (OT7.lt g hg).1; omega))
            have K9 := K8.trans KS (fun j h => .inr (by omega))
            have X9 : TBox (W7.setCell ⟨ib, 3, none⟩ (.string ⟨#[116, 105, 109, 101, 111, 117, 116]⟩)) w2.heap.size r2.st y2 k6 l6 k7 l7 := ⟨b9, ownsRow_low R69 (Nat.zero_le _), ownsRow_low R79 (Nat.zero_le _), X6.one, X6.non⟩
            have hst : r2.st.text = timeoutB := by rw [Hr2.out]; rfl
            obtain ⟨n0, n1⟩ := X9.node
            have g0 : (r2.st.status == 3) = true := by rw [Hr2.out]; rfl
            have g1 : (y2.status == 4) = true := by rw [Hyy.out]; rfl
            have e9 : ((k : Int) == (nn : Int)) = true := by rw [Hlast.out]; simp
            obtain ⟨⟨z0, z1, z2, z3, z4, z5, z6, z7, z8⟩, _⟩ := nine b9
            obtain ⟨⟨x0, x1, x2, x3, x4, x5, x6, x7, x8⟩, _⟩ := nine i9
            have htt : r2.st.text.toList = [116, 105, 109, 101, 111, 117, 116] := by rw [hst]; exact (Lib.toList_data _).trans rfl
            have hW := wakes_any (W7.setCell ⟨ib, 3, none⟩ (.string ⟨#[116, 105, 109, 101, 111, 117, 116]⟩)) (HM.out.kept (HK2.out.and K9) (fun h => h))
            have HKf := hid (HK2.out.and K9)
            clear hst X6 R6 R7 OT7 K8 i7b KS i9 b9 R69 R79 OT9 K9 X9
            go_wp2_with (first
              | (go_at_call 11; refine hW.mono ?_; rintro e w8 ⟨rfl, K10⟩; clear hW)
              | go_quiet (fail) | fail)
            go_ret
            exact ⟨rfl, (HKf.out.and K10).none⟩
          · obtain ⟨r2, hr2⟩ : ∃ r2 : Rn, r2 = ⟨tryS 1 (k : Int) ⟨#[]⟩ 1 ⟨#[]⟩ (e2 + 1), 0, [⟨5, ⟨#[97]⟩, timeoutB, k⟩], [⟨1, ⟨#[102]⟩, ⟨#[97]⟩, (k : Int) + 1, 0, zeroMl⟩]⟩ := ⟨_, rfl⟩
            have hw2 : IntKind.i64.wrap ((k : Int) + 1) = (k : Int) + 1 := by rw [IntKind.wrap_i64]; omega
            have hp3 : stepP ⟨#[119]⟩ [tryN nn] s1 (inp 6 ⟨#[97]⟩ ⟨#[]⟩ ⟨#[]⟩ (k : Int) 0 0) = (r2, 0) := by rw [Hs1.out, hr2, tries_fire nn k e2, failTry_more nn k e2 timeoutB 0 (by omega), hw2]
            obtain ⟨y2, hyy⟩ : ∃ y2 : Ns, y2 = ⟨1, (k : Int), ⟨#[]⟩⟩ := ⟨_, rfl⟩
            have hy2 : r2.st.nodes = [y2] := by rw [hr2, hyy]; rfl
            clear hw2
            have hg2 : r2.st.sigs = [] := by rw [hr2]; rfl
            have ht2 : r2.tks.length = 1 := by rw [hr2]; rfl
            have hS3 := (step_ok (c := 1) (n := 1) (nm := ⟨#[119]⟩) HD5.out rfl HX5.out.rd HZ1.out (q := inp 6 ⟨#[97]⟩ ⟨#[]⟩ ⟨#[]⟩ (k : Int) 0 0) (by exact Nat.zero_le _) (by exact Nat.zero_le _) hp3).mono (fun e w' P => P.one hy2 hg2 ht2)
            unfold OneOk at hS3
            dsimp only [inp] at hS3
            have Hy2 := hid hy2
            have Hyy := hid hyy
            have Hg2 := hid hg2
            have Hr2 := hid hr2
            have Hlast := hid hlast
            clear hp3 hy2 hyy hg2 ht2 hr2 hlast
            go_upto_region 19 with (first
              | (go_at_call 15; refine hS3.mono ?_; rintro e w6 ⟨be2, de2, k6, l6, k7, l7, kt, lt, rfl, O6, O7, OT6, K6⟩; clear hS3; have hX := (HX5.out.new K6).blk; obtain ⟨⟨p0, p1, p2, p3, p4, p5, p6, p7, p8⟩, f0, f1, f2, f3, f4, f5, f6, f7, f8⟩ := nine hX; have HXb := hid hX; clear hX)
              | fail)
            obtain ⟨X6, K7, keep6⟩ := box_store (s := r2.st) HXb.out (show w2.heap.size < V5.heap.size by omega) O6 O7 Hy2.out Hg2.out
            have OT7 := keep6 OT6
            have R6 := keep6 O6
            have R7 := keep6 O7
            have i7b := (K7.block ib (Nat.lt_of_lt_of_le (Array.getElem?_eq_some_iff.1 HI5.out).1 K6.size) (by omega)).trans ((K6.block _ (Array.getElem?_eq_some_iff.1 HI5.out).1 (fun h => h)).trans HI5.out)
            have K8 := (HK5.out.and K6).trans K7 (fun j h => .inr (by omega))
            clear p0 p1 p2 p3 p4 p5 p6 p7 p8 f0 f1 f2 f3 f4 f5 f6 f7 f8 s0 s1_ s2 s3 s4 s5 s6 s7 s8 d0 d1 i0 i1 i2 i3 i4 i5_ i6 i7 i8 keep6 O6 O7 OT6 K6 K7
            generalize (((((((((w6.setCell ⟨w2.heap.size, 0, none⟩ (.string r2.st.dfn)).setCell ⟨w2.heap.size, 1, none⟩ (.string r2.st.id)).setCell ⟨w2.heap.size, 2, none⟩ (.string r2.st.par)).setCell ⟨w2.heap.size, 3, none⟩ (.string r2.st.pnode)).setCell ⟨w2.heap.size, 4, none⟩ (.int .i64 r2.st.status)).setCell ⟨w2.heap.size, 5, none⟩ (.string r2.st.text)).setCell ⟨w2.heap.size, 6, none⟩ (.slice (some ⟨k6, 0, none⟩) 1 l6)).setCell ⟨w2.heap.size, 7, none⟩ (.slice k7 0 l7)).setCell ⟨w2.heap.size, 8, none⟩ (.int .i64 r2.st.events)) = W7 at *
            obtain ⟨⟨s0, s1_, s2, s3, s4, s5, s6, s7, s8⟩, _⟩ := nine X6.blk
            obtain ⟨⟨i0, i1, i2, i3, i4, i5_, i6, i7, i8⟩, j0, j1, j2, j3, j4, j5, j6, j7, j8⟩ := nine i7b
            have hk6 := (R6.lt k6 rfl).1
            have KS : Kept (fun j => j = ib) W7 (W7.setCell ⟨ib, 3, none⟩ (.string ⟨#[116, 105, 109, 101, 111, 117, 116]⟩)) := Kept.setCell _ _ _ rfl
            have i9 : (W7.setCell ⟨ib, 3, none⟩ (.string ⟨#[116, 105, 109, 101, 111, 117, 116]⟩)).heap[ib]? = some (.cells #[.int .i64 6, .string ⟨#[97]⟩, .string ⟨#[]⟩, .string ⟨#[116, 105, 109, 101, 111, 117, 116]⟩, .int .i64 (k : Int), .int .i64 0, .int .i64 0, .string ⟨#[]⟩, .string ⟨#[]⟩] 38 (0, 0)) := by simp [World.setCell, Array.getElem?_modify, i7b]
            have b9 := (KS.block w2.heap.size (Array.getElem?_eq_some_iff.1 X6.blk).1 (by omega)).trans X6.blk
            have R69 := ownsRow_keep R6 (fun g hg => KS.block g (ownsRow_blk R6 hg) (fun h => by have := (R6.lt g hg).1; omega))
            have R79 := ownsRow_keep R7 (fun g hg => KS.block g (ownsRow_blk R7 hg) (fun h => by have := (R7.lt g hg).1; omega))
            have OT9 := ownsRow_keep OT7 (fun g hg => KS.block g (ownsRow_blk OT7 hg) (fun h => by have := (OT7.lt g hg).1; omega))
            have K9 := K8.trans KS (fun j h => .inr (by omega))
            have X9 : TBox (W7.setCell ⟨ib, 3, none⟩ (.string ⟨#[116, 105, 109, 101, 111, 117, 116]⟩)) w2.heap.size r2.st y2 k6 l6 k7 l7 := ⟨b9, ownsRow_low R69 (Nat.zero_le _), ownsRow_low R79 (Nat.zero_le _), X6.one, X6.non⟩
            have e9 : ((k : Int) == (nn : Int)) = false := by simp; have := Hlast.out; omega
            have Hfin : Hid (∃ (t : Tk) (Bt : Nat), (W7.setCell ⟨ib, 3, none⟩ (.string ⟨#[116, 105, 109, 101, 111, 117, 116]⟩)).ownsRow Bt 56 13 (.slice kt 1 lt) 1 (tkF [t]) ∧ t.kind = 1 ∧ t.tr = ((k + 1 : Nat) : Int)) := ⟨⟨1, ⟨#[102]⟩, ⟨#[97]⟩, (k : Int) + 1, 0, zeroMl⟩, V5.heap.size, by have h := OT9; rw [show r2.tks = [⟨1, ⟨#[102]⟩, ⟨#[97]⟩, (k : Int) + 1, 0, zeroMl⟩] by rw [Hr2.out]] at h; exact h, rfl, by push_cast; rfl⟩
            have HXf := hid X9
            have HKf := hid K9
            have Hs2 : Hid (r2.st = tryS 1 (((k + 1 : Nat) : Int) - 1) ⟨#[]⟩ 1 ⟨#[]⟩ (e2 + 1)) := by show _ = _; rw [Hr2.out, show ((k + 1 : Nat) : Int) - 1 = (k : Int) by omega]
            clear X6 R6 R7 OT7 K8 i7b KS i9 b9 R69 R79 OT9 K9 X9
            go_wp2_with (first | go_quiet (fail) | fail)
            go_roundw
            case rel => exact ⟨k + 1, e2 + 1, r2.st, y2, kt, lt, k6, l6, k7, l7, by omega, by have := Hlast.out; omega, by go_num, rfl, rfl, Hs2.out, by rw [Hyy.out, show ((k + 1 : Nat) : Int) - 1 = (k : Int) by omega], by omega, by omega, Hfin.out, HXf.out, HKf.out⟩
            case measure => simp [intOf]; omega
        | false =>
          rw [hbk] at hbI hbc
          clear hbk
          go_upto_region 17 with (first | go_quiet (fail) | fail)
          have KI := Kept.alloc (fun _ => False) W3 (.cells #[.int .i64 5, .string ⟨#[97]⟩, .string ⟨#[]⟩, .string tx2, .int .i64 (k : Int), .int .i64 0, .int .i64 0, .string ⟨#[]⟩, .string ⟨#[]⟩] 38)
          have bI := heap_alloc_new W3 (.cells #[.int .i64 5, .string ⟨#[97]⟩, .string ⟨#[]⟩, .string tx2, .int .i64 (k : Int), .int .i64 0, .int .i64 0, .string ⟨#[]⟩, .string ⟨#[]⟩] 38)
          have hib : w2.heap.size < W3.heap.size := (Array.getElem?_eq_some_iff.1 HX1.out.blk).1
          have hbs : W3.heap.size < (W3.alloc (.cells #[.int .i64 5, .string ⟨#[97]⟩, .string ⟨#[]⟩, .string tx2, .int .i64 (k : Int), .int .i64 0, .int .i64 0, .string ⟨#[]⟩, .string ⟨#[]⟩] 38)).heap.size := by rw [World.size_alloc]; omega
          have hDI := HD2.out.new (HK3.out.and KI)
          have XI := HX1.out.new KI
          have hS2 := step_no (c := 1) (n := 1) (nm := ⟨#[119]⟩) hDI rfl XI.rd HZ1.out (q := inp 5 ⟨#[97]⟩ ⟨#[]⟩ ⟨#[]⟩ ((k : Int) - 1) 0 0) (by exact Nat.zero_le _) (by exact Nat.zero_le _) HL.out (by decide)
          dsimp only [inp] at hS2
          have dI := pairC (((HK3.out.and KI).block _ (Array.getElem?_eq_some_iff.1 HB2.out).1 (fun h => h)).trans HB2.out)
          obtain ⟨d0, d1⟩ := dI
          obtain ⟨⟨s0, s1_, s2, s3, s4, s5, s6, s7, s8⟩, _⟩ := nine XI.blk
          have HbI := hid bI
          have HXI := hid XI
          have HDI := hid hDI
          have HKI := hid (HK3.out.and KI)
          have hiw : w2.heap.size ≤ W3.heap.size := HK3.out.size
          clear KI bI XI hDI HX1 HK3
          generalize W3.alloc (.cells #[.int .i64 5, .string ⟨#[97]⟩, .string ⟨#[]⟩, .string tx2, .int .i64 (k : Int), .int .i64 0, .int .i64 0, .string ⟨#[]⟩, .string ⟨#[]⟩] 38) = V at *
          generalize W3.heap.size = ib at *
          go_upto_region 18 with (first
            | (go_at_call 15; refine hS2.mono ?_; rintro e w4 ⟨be, de, b6, d6, b7, d7, bt, dt, rfl, K4⟩; clear hS2)
            | fail)
          clear s0 s1_ s2 s3 s4 s5 s6 s7 s8 d0 d1
          have K5 := K4.and (Kept.alloc (fun _ => False) w4 (.cells #[.string ⟨#[]⟩, .string ⟨#[]⟩, .string ⟨#[]⟩, .string ⟨#[]⟩, .int .i64 0, .string ⟨#[]⟩, .slice b6 0 d6, .slice b7 0 d7, .int .i64 0] 33))
          clear K4
          generalize w4.alloc (.cells #[.string ⟨#[]⟩, .string ⟨#[]⟩, .string ⟨#[]⟩, .string ⟨#[]⟩, .int .i64 0, .string ⟨#[]⟩, .slice b6 0 d6, .slice b7 0 d7, .int .i64 0] 33) = V5 at *
          generalize w4.heap.size = lb at *
          have X5 := HXI.out.new K5
          have D5 := HDI.out.new K5
          have i5 := (K5.block _ (Array.getElem?_eq_some_iff.1 HbI.out).1 (fun h => h)).trans HbI.out
          have dI := pairC (((HKI.out.and K5).block _ (Array.getElem?_eq_some_iff.1 HB2.out).1 (fun h => h)).trans HB2.out)
          obtain ⟨d0, d1⟩ := dI
          obtain ⟨⟨s0, s1_, s2, s3, s4, s5, s6, s7, s8⟩, _⟩ := nine X5.blk
          obtain ⟨⟨i0, i1, i2, i3, i4, i5_, i6, i7, i8⟩, _⟩ := nine i5
          have HX5 := hid X5
          have HD5 := hid D5
          have HI5 := hid i5
          have HK5 := hid (HKI.out.and K5)
          have hV5 := Nat.lt_of_lt_of_le hbs K5.size
          clear X5 D5 i5 K5 HXI HDI HKI HbI hbs
          by_cases hlast : k = nn
          · obtain ⟨r2, hr2⟩ : ∃ r2 : Rn, r2 = ⟨tryS 4 (k : Int) tx2 3 tx2 (e2 + 1 + 1), 0, [⟨6, ⟨#[97]⟩, tx2, 0⟩, ⟨15, ⟨#[]⟩, tx2, 3⟩], []⟩ := ⟨_, rfl⟩
            have hp3 : stepP ⟨#[119]⟩ [tryN nn] s1 (inp 5 ⟨#[97]⟩ ⟨#[]⟩ tx2 (k : Int) 0 0) = (r2, 0) := by rw [Hs1.out, hr2, tries_fail nn k e2 tx2 htz, failTry_last nn k e2 tx2 0 (by omega)]
            obtain ⟨y2, hyy⟩ : ∃ y2 : Ns, y2 = ⟨4, (k : Int), tx2⟩ := ⟨_, rfl⟩
            have hy2 : r2.st.nodes = [y2] := by rw [hr2, hyy]; rfl
            have hg2 : r2.st.sigs = [] := by rw [hr2]; rfl
            have ht2 : r2.tks.length = 0 := by rw [hr2]; rfl
            have hS3 := (step_ok (c := 1) (n := 1) (nm := ⟨#[119]⟩) HD5.out rfl HX5.out.rd HZ1.out (q := inp 5 ⟨#[97]⟩ ⟨#[]⟩ tx2 (k : Int) 0 0) (by exact Nat.zero_le _) (by show tx2.size ≤ maxLen; unfold maxLen; omega) hp3).mono (fun e w' P => P.one hy2 hg2 ht2)
            unfold OneOk at hS3
            dsimp only [inp] at hS3
            have Hy2 := hid hy2
            have Hyy := hid hyy
            have Hg2 := hid hg2
            have Hr2 := hid hr2
            have Hlast := hid hlast
            clear hp3 hy2 hyy hg2 ht2 hr2 hlast
            go_upto_region 19 with (first
              | (go_at_call 15; refine hS3.mono ?_; rintro e w6 ⟨be2, de2, k6, l6, k7, l7, kt, lt, rfl, O6, O7, OT6, K6⟩; clear hS3; have hX := (HX5.out.new K6).blk; obtain ⟨⟨p0, p1, p2, p3, p4, p5, p6, p7, p8⟩, f0, f1, f2, f3, f4, f5, f6, f7, f8⟩ := nine hX; have HXb := hid hX; clear hX)
              | fail)
            obtain ⟨X6, K7, keep6⟩ := box_store (s := r2.st) HXb.out (show w2.heap.size < V5.heap.size by omega) O6 O7 Hy2.out Hg2.out
            have OT7 := keep6 OT6
            have R6 := keep6 O6
            have R7 := keep6 O7
            have i7b := (K7.block ib (Nat.lt_of_lt_of_le (Array.getElem?_eq_some_iff.1 HI5.out).1 K6.size) (by omega)).trans ((K6.block _ (Array.getElem?_eq_some_iff.1 HI5.out).1 (fun h => h)).trans HI5.out)
            have K8 := (HK5.out.and K6).trans K7 (fun j h => .inr (by omega))
            clear p0 p1 p2 p3 p4 p5 p6 p7 p8 f0 f1 f2 f3 f4 f5 f6 f7 f8 s0 s1_ s2 s3 s4 s5 s6 s7 s8 d0 d1 i0 i1 i2 i3 i4 i5_ i6 i7 i8 keep6 O6 O7 OT6 K6 K7
            generalize (((((((((w6.setCell ⟨w2.heap.size, 0, none⟩ (.string r2.st.dfn)).setCell ⟨w2.heap.size, 1, none⟩ (.string r2.st.id)).setCell ⟨w2.heap.size, 2, none⟩ (.string r2.st.par)).setCell ⟨w2.heap.size, 3, none⟩ (.string r2.st.pnode)).setCell ⟨w2.heap.size, 4, none⟩ (.int .i64 r2.st.status)).setCell ⟨w2.heap.size, 5, none⟩ (.string r2.st.text)).setCell ⟨w2.heap.size, 6, none⟩ (.slice (some ⟨k6, 0, none⟩) 1 l6)).setCell ⟨w2.heap.size, 7, none⟩ (.slice k7 0 l7)).setCell ⟨w2.heap.size, 8, none⟩ (.int .i64 r2.st.events)) = W7 at *
            obtain ⟨⟨s0, s1_, s2, s3, s4, s5, s6, s7, s8⟩, _⟩ := nine X6.blk
            obtain ⟨⟨i0, i1, i2, i3, i4, i5_, i6, i7, i8⟩, j0, j1, j2, j3, j4, j5, j6, j7, j8⟩ := nine i7b
            have hk6 := (R6.lt k6 rfl).1
            have hst : r2.st.text = tx2 := by rw [Hr2.out]; rfl
            obtain ⟨n0, n1⟩ := X6.node
            have g0 : (r2.st.status == 3) = true := by rw [Hr2.out]; rfl
            have g1 : (y2.status == 4) = true := by rw [Hyy.out]; rfl
            have e9 : ((k : Int) == (nn : Int)) = true := by rw [Hlast.out]; simp
            have htt : (r2.st.text.toList == tx2.toList) = true := by rw [hst]; simp
            have hW := wakes_any W7 (HM.out.kept (HK2.out.and K8) (fun h => h))
            have HKf := hid (HK2.out.and K8)
            clear hst X6 R6 R7 OT7 K8 i7b
            go_wp2_with (first
              | (go_at_call 11; refine hW.mono ?_; rintro e w8 ⟨rfl, K10⟩; clear hW)
              | go_quiet (fail) | fail)
            go_ret
            exact ⟨rfl, (HKf.out.and K10).none⟩
          · obtain ⟨r2, hr2⟩ : ∃ r2 : Rn, r2 = ⟨tryS 1 (k : Int) ⟨#[]⟩ 1 ⟨#[]⟩ (e2 + 1), 0, [⟨5, ⟨#[97]⟩, tx2, k⟩], [⟨1, ⟨#[102]⟩, ⟨#[97]⟩, (k : Int) + 1, 0, zeroMl⟩]⟩ := ⟨_, rfl⟩
            have hw2 : IntKind.i64.wrap ((k : Int) + 1) = (k : Int) + 1 := by rw [IntKind.wrap_i64]; omega
            have hp3 : stepP ⟨#[119]⟩ [tryN nn] s1 (inp 5 ⟨#[97]⟩ ⟨#[]⟩ tx2 (k : Int) 0 0) = (r2, 0) := by rw [Hs1.out, hr2, tries_fail nn k e2 tx2 htz, failTry_more nn k e2 tx2 0 (by omega), hw2]
            obtain ⟨y2, hyy⟩ : ∃ y2 : Ns, y2 = ⟨1, (k : Int), ⟨#[]⟩⟩ := ⟨_, rfl⟩
            have hy2 : r2.st.nodes = [y2] := by rw [hr2, hyy]; rfl
            clear hw2
            have hg2 : r2.st.sigs = [] := by rw [hr2]; rfl
            have ht2 : r2.tks.length = 1 := by rw [hr2]; rfl
            have hS3 := (step_ok (c := 1) (n := 1) (nm := ⟨#[119]⟩) HD5.out rfl HX5.out.rd HZ1.out (q := inp 5 ⟨#[97]⟩ ⟨#[]⟩ tx2 (k : Int) 0 0) (by exact Nat.zero_le _) (by show tx2.size ≤ maxLen; unfold maxLen; omega) hp3).mono (fun e w' P => P.one hy2 hg2 ht2)
            unfold OneOk at hS3
            dsimp only [inp] at hS3
            have Hy2 := hid hy2
            have Hyy := hid hyy
            have Hg2 := hid hg2
            have Hr2 := hid hr2
            have Hlast := hid hlast
            clear hp3 hy2 hyy hg2 ht2 hr2 hlast
            go_upto_region 19 with (first
              | (go_at_call 15; refine hS3.mono ?_; rintro e w6 ⟨be2, de2, k6, l6, k7, l7, kt, lt, rfl, O6, O7, OT6, K6⟩; clear hS3; have hX := (HX5.out.new K6).blk; obtain ⟨⟨p0, p1, p2, p3, p4, p5, p6, p7, p8⟩, f0, f1, f2, f3, f4, f5, f6, f7, f8⟩ := nine hX; have HXb := hid hX; clear hX)
              | fail)
            obtain ⟨X6, K7, keep6⟩ := box_store (s := r2.st) HXb.out (show w2.heap.size < V5.heap.size by omega) O6 O7 Hy2.out Hg2.out
            have OT7 := keep6 OT6
            have R6 := keep6 O6
            have R7 := keep6 O7
            have i7b := (K7.block ib (Nat.lt_of_lt_of_le (Array.getElem?_eq_some_iff.1 HI5.out).1 K6.size) (by omega)).trans ((K6.block _ (Array.getElem?_eq_some_iff.1 HI5.out).1 (fun h => h)).trans HI5.out)
            have K8 := (HK5.out.and K6).trans K7 (fun j h => .inr (by omega))
            clear p0 p1 p2 p3 p4 p5 p6 p7 p8 f0 f1 f2 f3 f4 f5 f6 f7 f8 s0 s1_ s2 s3 s4 s5 s6 s7 s8 d0 d1 i0 i1 i2 i3 i4 i5_ i6 i7 i8 keep6 O6 O7 OT6 K6 K7
            generalize (((((((((w6.setCell ⟨w2.heap.size, 0, none⟩ (.string r2.st.dfn)).setCell ⟨w2.heap.size, 1, none⟩ (.string r2.st.id)).setCell ⟨w2.heap.size, 2, none⟩ (.string r2.st.par)).setCell ⟨w2.heap.size, 3, none⟩ (.string r2.st.pnode)).setCell ⟨w2.heap.size, 4, none⟩ (.int .i64 r2.st.status)).setCell ⟨w2.heap.size, 5, none⟩ (.string r2.st.text)).setCell ⟨w2.heap.size, 6, none⟩ (.slice (some ⟨k6, 0, none⟩) 1 l6)).setCell ⟨w2.heap.size, 7, none⟩ (.slice k7 0 l7)).setCell ⟨w2.heap.size, 8, none⟩ (.int .i64 r2.st.events)) = W7 at *
            obtain ⟨⟨s0, s1_, s2, s3, s4, s5, s6, s7, s8⟩, _⟩ := nine X6.blk
            obtain ⟨⟨i0, i1, i2, i3, i4, i5_, i6, i7, i8⟩, j0, j1, j2, j3, j4, j5, j6, j7, j8⟩ := nine i7b
            have hk6 := (R6.lt k6 rfl).1
            have e9 : ((k : Int) == (nn : Int)) = false := by simp; have := Hlast.out; omega
            have Hfin : Hid (∃ (t : Tk) (Bt : Nat), W7.ownsRow Bt 56 13 (.slice kt 1 lt) 1 (tkF [t]) ∧ t.kind = 1 ∧ t.tr = ((k + 1 : Nat) : Int)) := ⟨⟨1, ⟨#[102]⟩, ⟨#[97]⟩, (k : Int) + 1, 0, zeroMl⟩, V5.heap.size, by have h := OT7; rw [show r2.tks = [⟨1, ⟨#[102]⟩, ⟨#[97]⟩, (k : Int) + 1, 0, zeroMl⟩] by rw [Hr2.out]] at h; exact h, rfl, by push_cast; rfl⟩
            have HXf := hid X6
            have HKf := hid K8
            have Hs2 : Hid (r2.st = tryS 1 (((k + 1 : Nat) : Int) - 1) ⟨#[]⟩ 1 ⟨#[]⟩ (e2 + 1)) := by show _ = _; rw [Hr2.out, show ((k + 1 : Nat) : Int) - 1 = (k : Int) by omega]
            clear X6 R6 R7 OT7 K8 i7b
            go_wp2_with (first | go_quiet (fail) | fail)
            go_roundw
            case rel => exact ⟨k + 1, e2 + 1, r2.st, y2, kt, lt, k6, l6, k7, l7, by omega, by have := Hlast.out; omega, by go_num, rfl, rfl, Hs2.out, by rw [Hyy.out, show ((k + 1 : Nat) : Int) - 1 = (k : Int) by omega], by omega, by omega, Hfin.out, HXf.out, HKf.out⟩
            case measure => simp [intOf]; omega
      · have eL : ¬ (k : Int) < (len : Int) := by omega
        clear hBW
        go_upto_region 17 with (first | go_quiet (fail) | fail)
        have KI := Kept.alloc (fun _ => False) W3 (.cells #[.int .i64 5, .string ⟨#[97]⟩, .string ⟨#[]⟩, .string tx2, .int .i64 (k : Int), .int .i64 0, .int .i64 0, .string ⟨#[]⟩, .string ⟨#[]⟩] 38)
        have bI := heap_alloc_new W3 (.cells #[.int .i64 5, .string ⟨#[97]⟩, .string ⟨#[]⟩, .string tx2, .int .i64 (k : Int), .int .i64 0, .int .i64 0, .string ⟨#[]⟩, .string ⟨#[]⟩] 38)
        have hib : w2.heap.size < W3.heap.size := (Array.getElem?_eq_some_iff.1 HX1.out.blk).1
        have hbs : W3.heap.size < (W3.alloc (.cells #[.int .i64 5, .string ⟨#[97]⟩, .string ⟨#[]⟩, .string tx2, .int .i64 (k : Int), .int .i64 0, .int .i64 0, .string ⟨#[]⟩, .string ⟨#[]⟩] 38)).heap.size := by rw [World.size_alloc]; omega
        have hDI := HD2.out.new (HK3.out.and KI)
        have XI := HX1.out.new KI
        have hS2 := step_no (c := 1) (n := 1) (nm := ⟨#[119]⟩) hDI rfl XI.rd HZ1.out (q := inp 5 ⟨#[97]⟩ ⟨#[]⟩ ⟨#[]⟩ ((k : Int) - 1) 0 0) (by exact Nat.zero_le _) (by exact Nat.zero_le _) HL.out (by decide)
        dsimp only [inp] at hS2
        have dI := pairC (((HK3.out.and KI).block _ (Array.getElem?_eq_some_iff.1 HB2.out).1 (fun h => h)).trans HB2.out)
        obtain ⟨d0, d1⟩ := dI
        obtain ⟨⟨s0, s1_, s2, s3, s4, s5, s6, s7, s8⟩, _⟩ := nine XI.blk
        have HbI := hid bI
        have HXI := hid XI
        have HDI := hid hDI
        have HKI := hid (HK3.out.and KI)
        have hiw : w2.heap.size ≤ W3.heap.size := HK3.out.size
        clear KI bI XI hDI HX1 HK3
        generalize W3.alloc (.cells #[.int .i64 5, .string ⟨#[97]⟩, .string ⟨#[]⟩, .string tx2, .int .i64 (k : Int), .int .i64 0, .int .i64 0, .string ⟨#[]⟩, .string ⟨#[]⟩] 38) = V at *
        generalize W3.heap.size = ib at *
        go_upto_region 18 with (first
          | (go_at_call 15; refine hS2.mono ?_; rintro e w4 ⟨be, de, b6, d6, b7, d7, bt, dt, rfl, K4⟩; clear hS2)
          | fail)
        clear s0 s1_ s2 s3 s4 s5 s6 s7 s8 d0 d1
        have K5 := K4.and (Kept.alloc (fun _ => False) w4 (.cells #[.string ⟨#[]⟩, .string ⟨#[]⟩, .string ⟨#[]⟩, .string ⟨#[]⟩, .int .i64 0, .string ⟨#[]⟩, .slice b6 0 d6, .slice b7 0 d7, .int .i64 0] 33))
        clear K4
        generalize w4.alloc (.cells #[.string ⟨#[]⟩, .string ⟨#[]⟩, .string ⟨#[]⟩, .string ⟨#[]⟩, .int .i64 0, .string ⟨#[]⟩, .slice b6 0 d6, .slice b7 0 d7, .int .i64 0] 33) = V5 at *
        generalize w4.heap.size = lb at *
        have X5 := HXI.out.new K5
        have D5 := HDI.out.new K5
        have i5 := (K5.block _ (Array.getElem?_eq_some_iff.1 HbI.out).1 (fun h => h)).trans HbI.out
        have dI := pairC (((HKI.out.and K5).block _ (Array.getElem?_eq_some_iff.1 HB2.out).1 (fun h => h)).trans HB2.out)
        obtain ⟨d0, d1⟩ := dI
        obtain ⟨⟨s0, s1_, s2, s3, s4, s5, s6, s7, s8⟩, _⟩ := nine X5.blk
        obtain ⟨⟨i0, i1, i2, i3, i4, i5_, i6, i7, i8⟩, _⟩ := nine i5
        have HX5 := hid X5
        have HD5 := hid D5
        have HI5 := hid i5
        have HK5 := hid (HKI.out.and K5)
        have hV5 := Nat.lt_of_lt_of_le hbs K5.size
        clear X5 D5 i5 K5 HXI HDI HKI HbI hbs
        by_cases hlast : k = nn
        · obtain ⟨r2, hr2⟩ : ∃ r2 : Rn, r2 = ⟨tryS 4 (k : Int) tx2 3 tx2 (e2 + 1 + 1), 0, [⟨6, ⟨#[97]⟩, tx2, 0⟩, ⟨15, ⟨#[]⟩, tx2, 3⟩], []⟩ := ⟨_, rfl⟩
          have hp3 : stepP ⟨#[119]⟩ [tryN nn] s1 (inp 5 ⟨#[97]⟩ ⟨#[]⟩ tx2 (k : Int) 0 0) = (r2, 0) := by rw [Hs1.out, hr2, tries_fail nn k e2 tx2 htz, failTry_last nn k e2 tx2 0 (by omega)]
          obtain ⟨y2, hyy⟩ : ∃ y2 : Ns, y2 = ⟨4, (k : Int), tx2⟩ := ⟨_, rfl⟩
          have hy2 : r2.st.nodes = [y2] := by rw [hr2, hyy]; rfl
          have hg2 : r2.st.sigs = [] := by rw [hr2]; rfl
          have ht2 : r2.tks.length = 0 := by rw [hr2]; rfl
          have hS3 := (step_ok (c := 1) (n := 1) (nm := ⟨#[119]⟩) HD5.out rfl HX5.out.rd HZ1.out (q := inp 5 ⟨#[97]⟩ ⟨#[]⟩ tx2 (k : Int) 0 0) (by exact Nat.zero_le _) (by show tx2.size ≤ maxLen; unfold maxLen; omega) hp3).mono (fun e w' P => P.one hy2 hg2 ht2)
          unfold OneOk at hS3
          dsimp only [inp] at hS3
          have Hy2 := hid hy2
          have Hyy := hid hyy
          have Hg2 := hid hg2
          have Hr2 := hid hr2
          have Hlast := hid hlast
          clear hp3 hy2 hyy hg2 ht2 hr2 hlast
          go_upto_region 19 with (first
            | (go_at_call 15; refine hS3.mono ?_; rintro e w6 ⟨be2, de2, k6, l6, k7, l7, kt, lt, rfl, O6, O7, OT6, K6⟩; clear hS3; have hX := (HX5.out.new K6).blk; obtain ⟨⟨p0, p1, p2, p3, p4, p5, p6, p7, p8⟩, f0, f1, f2, f3, f4, f5, f6, f7, f8⟩ := nine hX; have HXb := hid hX; clear hX)
            | fail)
          obtain ⟨X6, K7, keep6⟩ := box_store (s := r2.st) HXb.out (show w2.heap.size < V5.heap.size by omega) O6 O7 Hy2.out Hg2.out
          have OT7 := keep6 OT6
          have R6 := keep6 O6
          have R7 := keep6 O7
          have i7b := (K7.block ib (Nat.lt_of_lt_of_le (Array.getElem?_eq_some_iff.1 HI5.out).1 K6.size) (by omega)).trans ((K6.block _ (Array.getElem?_eq_some_iff.1 HI5.out).1 (fun h => h)).trans HI5.out)
          have K8 := (HK5.out.and K6).trans K7 (fun j h => .inr (by omega))
          clear p0 p1 p2 p3 p4 p5 p6 p7 p8 f0 f1 f2 f3 f4 f5 f6 f7 f8 s0 s1_ s2 s3 s4 s5 s6 s7 s8 d0 d1 i0 i1 i2 i3 i4 i5_ i6 i7 i8 keep6 O6 O7 OT6 K6 K7
          generalize (((((((((w6.setCell ⟨w2.heap.size, 0, none⟩ (.string r2.st.dfn)).setCell ⟨w2.heap.size, 1, none⟩ (.string r2.st.id)).setCell ⟨w2.heap.size, 2, none⟩ (.string r2.st.par)).setCell ⟨w2.heap.size, 3, none⟩ (.string r2.st.pnode)).setCell ⟨w2.heap.size, 4, none⟩ (.int .i64 r2.st.status)).setCell ⟨w2.heap.size, 5, none⟩ (.string r2.st.text)).setCell ⟨w2.heap.size, 6, none⟩ (.slice (some ⟨k6, 0, none⟩) 1 l6)).setCell ⟨w2.heap.size, 7, none⟩ (.slice k7 0 l7)).setCell ⟨w2.heap.size, 8, none⟩ (.int .i64 r2.st.events)) = W7 at *
          obtain ⟨⟨s0, s1_, s2, s3, s4, s5, s6, s7, s8⟩, _⟩ := nine X6.blk
          obtain ⟨⟨i0, i1, i2, i3, i4, i5_, i6, i7, i8⟩, j0, j1, j2, j3, j4, j5, j6, j7, j8⟩ := nine i7b
          have hk6 := (R6.lt k6 rfl).1
          have hst : r2.st.text = tx2 := by rw [Hr2.out]; rfl
          obtain ⟨n0, n1⟩ := X6.node
          have g0 : (r2.st.status == 3) = true := by rw [Hr2.out]; rfl
          have g1 : (y2.status == 4) = true := by rw [Hyy.out]; rfl
          have e9 : ((k : Int) == (nn : Int)) = true := by rw [Hlast.out]; simp
          have htt : (r2.st.text.toList == tx2.toList) = true := by rw [hst]; simp
          have hW := wakes_any W7 (HM.out.kept (HK2.out.and K8) (fun h => h))
          have HKf := hid (HK2.out.and K8)
          clear hst X6 R6 R7 OT7 K8 i7b
          go_wp2_with (first
            | (go_at_call 11; refine hW.mono ?_; rintro e w8 ⟨rfl, K10⟩; clear hW)
            | go_quiet (fail) | fail)
          go_ret
          exact ⟨rfl, (HKf.out.and K10).none⟩
        · obtain ⟨r2, hr2⟩ : ∃ r2 : Rn, r2 = ⟨tryS 1 (k : Int) ⟨#[]⟩ 1 ⟨#[]⟩ (e2 + 1), 0, [⟨5, ⟨#[97]⟩, tx2, k⟩], [⟨1, ⟨#[102]⟩, ⟨#[97]⟩, (k : Int) + 1, 0, zeroMl⟩]⟩ := ⟨_, rfl⟩
          have hw2 : IntKind.i64.wrap ((k : Int) + 1) = (k : Int) + 1 := by rw [IntKind.wrap_i64]; omega
          have hp3 : stepP ⟨#[119]⟩ [tryN nn] s1 (inp 5 ⟨#[97]⟩ ⟨#[]⟩ tx2 (k : Int) 0 0) = (r2, 0) := by rw [Hs1.out, hr2, tries_fail nn k e2 tx2 htz, failTry_more nn k e2 tx2 0 (by omega), hw2]
          obtain ⟨y2, hyy⟩ : ∃ y2 : Ns, y2 = ⟨1, (k : Int), ⟨#[]⟩⟩ := ⟨_, rfl⟩
          have hy2 : r2.st.nodes = [y2] := by rw [hr2, hyy]; rfl
          clear hw2
          have hg2 : r2.st.sigs = [] := by rw [hr2]; rfl
          have ht2 : r2.tks.length = 1 := by rw [hr2]; rfl
          have hS3 := (step_ok (c := 1) (n := 1) (nm := ⟨#[119]⟩) HD5.out rfl HX5.out.rd HZ1.out (q := inp 5 ⟨#[97]⟩ ⟨#[]⟩ tx2 (k : Int) 0 0) (by exact Nat.zero_le _) (by show tx2.size ≤ maxLen; unfold maxLen; omega) hp3).mono (fun e w' P => P.one hy2 hg2 ht2)
          unfold OneOk at hS3
          dsimp only [inp] at hS3
          have Hy2 := hid hy2
          have Hyy := hid hyy
          have Hg2 := hid hg2
          have Hr2 := hid hr2
          have Hlast := hid hlast
          clear hp3 hy2 hyy hg2 ht2 hr2 hlast
          go_upto_region 19 with (first
            | (go_at_call 15; refine hS3.mono ?_; rintro e w6 ⟨be2, de2, k6, l6, k7, l7, kt, lt, rfl, O6, O7, OT6, K6⟩; clear hS3; have hX := (HX5.out.new K6).blk; obtain ⟨⟨p0, p1, p2, p3, p4, p5, p6, p7, p8⟩, f0, f1, f2, f3, f4, f5, f6, f7, f8⟩ := nine hX; have HXb := hid hX; clear hX)
            | fail)
          obtain ⟨X6, K7, keep6⟩ := box_store (s := r2.st) HXb.out (show w2.heap.size < V5.heap.size by omega) O6 O7 Hy2.out Hg2.out
          have OT7 := keep6 OT6
          have R6 := keep6 O6
          have R7 := keep6 O7
          have i7b := (K7.block ib (Nat.lt_of_lt_of_le (Array.getElem?_eq_some_iff.1 HI5.out).1 K6.size) (by omega)).trans ((K6.block _ (Array.getElem?_eq_some_iff.1 HI5.out).1 (fun h => h)).trans HI5.out)
          have K8 := (HK5.out.and K6).trans K7 (fun j h => .inr (by omega))
          clear p0 p1 p2 p3 p4 p5 p6 p7 p8 f0 f1 f2 f3 f4 f5 f6 f7 f8 s0 s1_ s2 s3 s4 s5 s6 s7 s8 d0 d1 i0 i1 i2 i3 i4 i5_ i6 i7 i8 keep6 O6 O7 OT6 K6 K7
          generalize (((((((((w6.setCell ⟨w2.heap.size, 0, none⟩ (.string r2.st.dfn)).setCell ⟨w2.heap.size, 1, none⟩ (.string r2.st.id)).setCell ⟨w2.heap.size, 2, none⟩ (.string r2.st.par)).setCell ⟨w2.heap.size, 3, none⟩ (.string r2.st.pnode)).setCell ⟨w2.heap.size, 4, none⟩ (.int .i64 r2.st.status)).setCell ⟨w2.heap.size, 5, none⟩ (.string r2.st.text)).setCell ⟨w2.heap.size, 6, none⟩ (.slice (some ⟨k6, 0, none⟩) 1 l6)).setCell ⟨w2.heap.size, 7, none⟩ (.slice k7 0 l7)).setCell ⟨w2.heap.size, 8, none⟩ (.int .i64 r2.st.events)) = W7 at *
          obtain ⟨⟨s0, s1_, s2, s3, s4, s5, s6, s7, s8⟩, _⟩ := nine X6.blk
          obtain ⟨⟨i0, i1, i2, i3, i4, i5_, i6, i7, i8⟩, j0, j1, j2, j3, j4, j5, j6, j7, j8⟩ := nine i7b
          have hk6 := (R6.lt k6 rfl).1
          have e9 : ((k : Int) == (nn : Int)) = false := by simp; have := Hlast.out; omega
          have Hfin : Hid (∃ (t : Tk) (Bt : Nat), W7.ownsRow Bt 56 13 (.slice kt 1 lt) 1 (tkF [t]) ∧ t.kind = 1 ∧ t.tr = ((k + 1 : Nat) : Int)) := ⟨⟨1, ⟨#[102]⟩, ⟨#[97]⟩, (k : Int) + 1, 0, zeroMl⟩, V5.heap.size, by have h := OT7; rw [show r2.tks = [⟨1, ⟨#[102]⟩, ⟨#[97]⟩, (k : Int) + 1, 0, zeroMl⟩] by rw [Hr2.out]] at h; exact h, rfl, by push_cast; rfl⟩
          have HXf := hid X6
          have HKf := hid K8
          have Hs2 : Hid (r2.st = tryS 1 (((k + 1 : Nat) : Int) - 1) ⟨#[]⟩ 1 ⟨#[]⟩ (e2 + 1)) := by show _ = _; rw [Hr2.out, show ((k + 1 : Nat) : Int) - 1 = (k : Int) by omega]
          clear X6 R6 R7 OT7 K8 i7b
          go_wp2_with (first | go_quiet (fail) | fail)
          go_roundw
          case rel => exact ⟨k + 1, e2 + 1, r2.st, y2, kt, lt, k6, l6, k7, l7, by omega, by have := Hlast.out; omega, by go_num, rfl, rfl, Hs2.out, by rw [Hyy.out, show ((k + 1 : Nat) : Int) - 1 = (k : Int) by omega], by omega, by omega, Hfin.out, HXf.out, HKf.out⟩
          case measure => simp [intOf]; omega


set_option maxRecDepth 100000 in
theorem historyTries_lifted (os : Os) (started : os.Started) (H : Type) (enc : TypeId × Value → H) :
    ReturnsInHanded {} Tryd.checked os 4 .any (fun w args => (Rows.historyTriesSpec.pre enc Tryd.prog Tryd.f4 [] false w args ∧ laidMetH Tryd.prog laidL w) ∧ sizedMet enc Tryd.prog Tryd.f4 (OpenSpec.ofChange Rows.historyTriesSpec) false w args)
      (Rows.historyTriesSpec.post enc Tryd.prog Tryd.f4 false true false false) := by
  refine returnsInHanded_of_change_and (C := Tryd.checked) (X := fun w _ => laidMetH Tryd.prog laidL w) (fun _ _ _ hh h => h.of_heap hh) Tryd.own started (by kernel_rfl) Tryd.func4
    (ChangeSpec.witness_shaped (enc := enc) (C := Tryd.checked) (os := os) (X := fun w _ => laidMetH Tryd.prog laidL w) false (World.doorLaid Tryd.prog 28 os) #[.int .i64 0, .slice none 0 0, .string ⟨#[]⟩] 8 rfl (World.shaped_of_RefB (by kernel_rfl) (by kernel_rfl)) (by kernel_rfl) (by kernel_rfl) (by kernel_rfl) (door_met os _)) ?_
  intro W base args ds gs before hval0 hW _ _ hL _
  have hval : ∀ (j : Nat) t v, Tryd.f4.params[j]? = some t → args[j]? = some v → Value.okWide Tryd.prog W .any base t v := hval0
  have hW' := hW
  obtain ⟨p, q, hA0, hV, rfl, _, _⟩ := hW
  have hA : DataW.TrodAll enc Tryd.prog W 0 (fun _ => true) true Tryd.f4.params.toList args.toList ds p := hA0
  rw [Tryd.params4] at hA hval
  obtain ⟨v0, vs0, d0, ds0, p0, q0, hargs, rfl, rfl, h0, r0⟩ := trodAll_cons hA
  obtain ⟨v1, vs1, d1, ds1, p1, q1, rfl, rfl, rfl, h1, r1⟩ := trodAll_cons r0
  obtain ⟨v2, vs2, d2, ds2, p2, q2, rfl, rfl, rfl, h2, r2⟩ := trodAll_cons r1
  obtain ⟨rfl, rfl, rfl⟩ := trodAll_nil r2
  obtain rfl : args = #[v0, v1, v2] := by cases args; simp_all
  obtain ⟨rfl, rfl⟩ := trodVars_none hV
  have k0 := h0
  have k1 := h1
  have k2 := h2
  have lt0 : ∀ x ∈ p0, x.block < W.heap.size := by obtain ⟨m, hm⟩ := k0; exact DataW.trod_lt m _ _ _ hm
  have lt1 : ∀ x ∈ p1, x.block < W.heap.size := by obtain ⟨m, hm⟩ := k1; exact DataW.trod_lt m _ _ _ hm
  have lt2 : ∀ x ∈ p2, x.block < W.heap.size := by obtain ⟨m, hm⟩ := k2; exact DataW.trod_lt m _ _ _ hm
  obtain ⟨n0, rfl, _, _, x0⟩ := open_int Tryd.underlying3 (hval 0 3 v0 rfl rfl) h0
  obtain ⟨a1', len1', cap1', rfl⟩ := okWide_slice Tryd.underlying45 (hval 1 45 v1 rfl rfl)
  obtain ⟨a1, len1, cap1, z1, e1, w1⟩ : ∃ a len cap B, Value.slice a1' len1' cap1' = .slice a len cap ∧ BoolsAt W a len B := by
    obtain ⟨fuel, hf⟩ := h1
    exact bools_open Tryd.underlying45 Tryd.underlying4 (by kernel_rfl) hf
  simp only [Value.slice.injEq] at e1
  obtain ⟨rfl, rfl, rfl⟩ := e1
  obtain ⟨s2, rfl, _⟩ := Go.ChangeMaps.open_string Tryd.underlying9 (hval 2 9 v2 rfl rfl) h2
  clear hA0 hval0
  refine (historyTries_walk _ _ _ _ _ _ W w1 (moves_laid hL)).mono fun e W' ⟨he, bel⟩ => ?_
  subst he
  exact ⟨_, rfl, _, _, _, [], _, [], hW', trodAll_mk1 (shut_bool Tryd.underlying4 _), (trodAll_cons_mk (Below.trod Tryd.laidOut (by kernel_rfl) (of_decide_eq_true (by kernel_rfl)) k0 bel lt0) (trodAll_cons_mk (Below.trod Tryd.laidOut (by kernel_rfl) (of_decide_eq_true (by kernel_rfl)) k1 bel lt1) (trodAll_cons_mk (Below.trod Tryd.laidOut (by kernel_rfl) (of_decide_eq_true (by kernel_rfl)) k2 bel lt2) trodAll_mk0))), rfl, bel.frame _, fun h => by cases h⟩

theorem historyTries_row : Rows.HistoryTriesSaid :=
  OpenClaim.holds_of_wide 4 Tryd.f4 rfl rfl rfl rfl rfl rfl rfl ⟨rfl, rfl, rfl, rfl, rfl⟩ rfl rfl rfl rfl rfl (by kernel_rfl) Tryd.func4 (by kernel_rfl)
    (of_decide_eq_true (by kernel_rfl)) (by unfold Func.isWrapper; first | (rw [if_pos (by decide +kernel)]; kernel_rfl) | (rw [if_neg (by decide +kernel)]; exact ⟨rfl, rfl⟩))
    (fun os started H enc _ => historyTries_lifted os started H enc)

theorem historyTries_holds : Rows.HistoryTriesCardSaid :=
  Claim7.holds_tied_plain_at .later [] [.data] true Rows.historyTriesCard.stood.harness false
    historyTries_row (fun _ h => by cases h) (by kernel_rfl) (fun _ h => by cases h) historyTries_row_tie rfl ⟨rfl, rfl⟩ (by kernel_rfl) rfl
    (fun f fn hf hfn => by
      obtain rfl : f = 4 := Option.some.inj ((show Tryd.prog.funcNamed "tiller/tillerlaw09.HistoryTries" = some 4 by kernel_rfl).symm.trans hf) |>.symm
      obtain rfl : fn = Tryd.f4 := (Option.some.inj (Tryd.func4.symm.trans hfn)).symm
      exact ⟨by kernel_rfl, fun j t ht => by
        rw [Tryd.params4] at ht
        have hm : t ∈ [3, 45, 9] := by simpa using Array.mem_of_getElem? ht
        have hall : ([3, 45, 9].all fun u => !Tryd.prog.wantsStandIn u) = true := by kernel_rfl
        exact (show Tryd.prog.wantsStandIn t = false by simpa using List.all_eq_true.1 hall t hm)⟩)
    (by kernel_rfl)

end Go.Proofs.YthgeibhmcdefbabDoor
