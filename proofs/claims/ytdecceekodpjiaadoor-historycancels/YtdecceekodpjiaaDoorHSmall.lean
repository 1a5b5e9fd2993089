/-
  The run's methods that only read.
-/
import Derived.Test.YtdecceekodpjiaaDoorHTellA
namespace Go.Proofs.YtdecceekodpjiaaDoor
open Go.RowKit

theorem RAt.opened {w : World} {H : Nat → Prop} {rb : Nat} {nm : ByteArray} {a : Option Addr} {n c : Nat} {r : Rn} (R : RAt w H rb nm a n c r) : ∃ v6 v7 v12 v13 : Value, w.heap[rb]? = some (.cells ([Value.string nm, Value.slice a n c] ++ stL r.st v6 v7 ++ [Value.int .i64 r.now, v12, v13]).toArray 73 (0, 0)) ∧ w.ownsRow 0 54 3 v6 r.st.nodes.length (nsF r.st.nodes) ∧ w.ownsRow 0 78 2 v7 r.st.sigs.length (sgF r.st.sigs) ∧ H rb ∧ (∀ g, v6.ownBlock = some g → H g) ∧ ∀ g, H g → g < w.heap.size := by
  obtain ⟨F, G, v6, v7, v12, v13, RN, hH, ht⟩ := R
  exact ⟨v6, v7, v12, v13, RN.st.blk, RN.st.nodes, RN.st.sigs, hH _ (.inl RN.st.inS), fun g hg => hH g (.inl (RN.st.in6 g hg).1), ht⟩

theorem runCells {w : World} {rb : Nat} {T : TypeId} {p0 p1 q0 q1 q2 : Value} {s : St} {v6 v7 : Value} (h : w.heap[rb]? = some (.cells ([p0, p1] ++ stL s v6 v7 ++ [q0, q1, q2]).toArray T (0, 0))) :
    w.cell? ⟨rb, 0, none⟩ = some p0 ∧ w.cell? ⟨rb, 1, none⟩ = some p1 ∧ w.cell? ⟨rb, 2, none⟩ = some (.string s.dfn) ∧ w.cell? ⟨rb, 3, none⟩ = some (.string s.id) ∧ w.cell? ⟨rb, 4, none⟩ = some (.string s.par) ∧ w.cell? ⟨rb, 5, none⟩ = some (.string s.pnode) ∧ w.cell? ⟨rb, 6, none⟩ = some (.int .i64 s.status) ∧ w.cell? ⟨rb, 7, none⟩ = some (.string s.text) ∧ w.cell? ⟨rb, 8, none⟩ = some v6 ∧ w.cell? ⟨rb, 9, none⟩ = some v7 ∧ w.cell? ⟨rb, 10, none⟩ = some (.int .i64 s.events) ∧ w.cell? ⟨rb, 11, none⟩ = some q0 := by
  simp [World.cell?, h, stL]

/-- A task as a value. -/
def tkV (t : Tk) : Value := .agg #[.int .i64 t.kind, .complex .f64 0 0, .string t.flow, .string t.node, .int .i64 t.tr, .int .i64 t.tm, .int .i64 t.mail.kind, .string t.mail.dst, .string t.mail.src, .string t.mail.node, .string t.mail.name, .string t.mail.text, .int .i64 t.mail.status]

def msgP (id : ByteArray) (m : Ml) : Tk := ⟨3, ⟨#[]⟩, ⟨#[]⟩, 0, 0, { m with src := id }⟩

set_option maxRecDepth 100000 in
set_option maxHeartbeats 4000000 in
theorem message_any (w : World) (H : Nat → Prop) (rb : Nat) (nm : ByteArray) (a : Option Addr) (n c : Nat) (r : Rn) (R : RAt w H rb nm a n c r) (m : Ml) :
    Calls Tryd.prog 56 #[.pointer (some ⟨rb, 0, none⟩), .agg #[.int .i64 m.kind, .string m.dst, .string m.src, .string m.node, .string m.name, .string m.text, .int .i64 m.status]] w fun e w' => e = .returned (tkV (msgP r.st.id m)) ∧ Kept (fun _ => False) w w' := by
  obtain ⟨v6, v7, v12, v13, hb, _, _, _, _, htop⟩ := R.opened
  obtain ⟨_, _, _, c3, _⟩ := runCells hb
  have pid2 := fun o o2 => keepC ((Kept.alloc (fun _ => False) w o).and (Kept.alloc _ _ o2)) c3 (fun _ _ h => h)
  have hst := fun (W : World) (a : Addr) (x y : Nat) (m : Mode) => run_store Tryd.prog W a (.complex .f64 x y) m rfl
  clear hb
  go_enter Tryd.func56, Tryd.ntmps56
  go_wp2_with fail
  have hL := heap_alloc_new (w.alloc (.cells #[.int .i64 m.kind, .string m.dst, .string r.st.id, .string m.node, .string m.name, .string m.text, .int .i64 m.status] 48)) (.cells #[.int .i64 3, .complex .f64 0 0, .string ⟨#[]⟩, .string ⟨#[]⟩, .int .i64 0, .int .i64 0, .int .i64 m.kind, .string m.dst, .string r.st.id, .string m.node, .string m.name, .string m.text, .int .i64 m.status] 50)
  rw [World.size_alloc] at hL
  obtain ⟨d0, d1, d2, d3, d4, d5, d6, d7, d8, d9, d10, d11, d12⟩ := thirteen hL
  refine bodyPost_ret (by simp [results, Tryd.results56, go_sem, d0, d1, d2, d3, d4, d5, d6, d7, d8, d9, d10, d11, d12]; try rfl) rfl ?_
  exact ⟨rfl, (Kept.alloc _ _ _).and (Kept.alloc _ _ _)⟩

def catP (x y : ByteArray) : ByteArray := x ++ y

set_option maxRecDepth 100000 in
theorem lastText_any (w : World) (H : Nat → Prop) (rb : Nat) (nm : ByteArray) (a : Option Addr) (n c : Nat) (r : Rn) (R : RAt w H rb nm a n c r) (h6 : r.st.nodes.length ≤ 1000000) :
    Calls Tryd.prog 51 #[.pointer (some ⟨rb, 0, none⟩)] w fun e w' => e = .returned (.string ((r.st.nodes.getLast?.map (fun x => x.text)).getD ⟨#[]⟩)) ∧ w' = w := by
  obtain ⟨v6, v7, v12, v13, hb, hn6, _, _, _, htop⟩ := R.opened
  obtain ⟨_, _, _, _, _, _, _, _, c8, _⟩ := runCells hb
  obtain ⟨a6, c6, rfl⟩ := ownsRow_shape hn6
  by_cases h0 : r.st.nodes.length = 0
  · have hnil : r.st.nodes = [] := List.length_eq_zero_iff.1 h0
    have e0 : ((r.st.nodes.length : Int) - 1) < 0 := by omega
    rw [hnil] at c8 e0 ⊢
    clear hb
    go_enter Tryd.func51, Tryd.ntmps51
    go_wp2_with fail
    go_ret
    exact ⟨rfl, rfl⟩
  · obtain ⟨g, cg, hv, _, hcap, hrow⟩ := row_at hn6 (by omega)
    have hi : r.st.nodes.length - 1 < r.st.nodes.length := by omega
    have hq := (hrow _ _ (nsF_get hi).2.2).1
    have hl : (r.st.nodes.getLast?.map (fun x => x.text)).getD ⟨#[]⟩ = (r.st.nodes[r.st.nodes.length - 1]).text := by
      rw [List.getLast?_eq_getElem?, List.getElem?_eq_getElem hi]
      rfl
    rw [hl]
    generalize (r.st.nodes[r.st.nodes.length - 1]).text = tx at *
    obtain ⟨rfl, rfl⟩ : a6 = some ⟨g, 0, none⟩ ∧ c6 = cg := by simpa using hv
    clear hb hrow hn6 hl hi R
    generalize r.st.nodes.length = n6 at *
    obtain ⟨m, rfl⟩ : ∃ m, n6 = m + 1 := ⟨n6 - 1, by omega⟩
    have e1 : ((m + 1 : Nat) : Int) - 1 = (m : Int) := by omega
    rw [Nat.add_sub_cancel] at hq
    have e0 : ¬ ((m : Int) < 0) := by omega
    have e2 : (m : Int) < ((m + 1 : Nat) : Int) := by omega
    have w1 : IntKind.i64.wrap (((m + 1 : Nat) : Int) - 1) = (m : Int) := by rw [e1, IntKind.wrap_i64]; omega
    go_enter Tryd.func51, Tryd.ntmps51
    go_wp2_with fail
    go_ret
    exact ⟨rfl, rfl⟩

theorem run_cat (W : World) (x y : ByteArray) (h : x.size + y.size ≤ 1000000000) : (Op.stringOp .add x y).run Tryd.prog W = .ok (.string (x ++ y)) W := by
  unfold Op.stringOp
  dsimp only
  rw [if_neg (by simp [IntKind.max, IntKind.signed, IntKind.bits]; omega)]
  rfl

/-- The name of the workflow that a node asks for. -/
def childP (id node : ByteArray) : ByteArray := id ++ ⟨#[47]⟩ ++ node

set_option maxRecDepth 100000 in
theorem childName_any (w : World) (H : Nat → Prop) (rb : Nat) (nm : ByteArray) (a : Option Addr) (n c : Nat) (r : Rn) (R : RAt w H rb nm a n c r) (x : ByteArray) (hx : r.st.id.size + 1 + x.size ≤ 1000000000) :
    Calls Tryd.prog 57 #[.pointer (some ⟨rb, 0, none⟩), .string x] w fun e w' => e = .returned (.string (childP r.st.id x)) ∧ w' = w := by
  obtain ⟨v6, v7, v12, v13, hb, _, _, _, _, htop⟩ := R.opened
  obtain ⟨_, _, _, c3, _⟩ := runCells hb
  have s1 : (⟨#[47]⟩ : ByteArray).size = 1 := rfl
  have r1 := fun W => run_cat W r.st.id ⟨#[47]⟩ (by rw [s1]; omega)
  have r2 := fun W => run_cat W (r.st.id ++ ⟨#[47]⟩) x (by rw [ByteArray.size_append, s1]; omega)
  clear hb R
  go_enter Tryd.func57, Tryd.ntmps57
  go_wp2_with fail
  go_ret
  exact ⟨rfl, rfl⟩

set_option maxRecDepth 100000 in
theorem both_any (w : World) (nm : ByteArray) (a : Option Addr) (n c : Nat) (s : St) (a6 : Option Addr) (n6 c6 : Nat) (v7 : Value) :
    Calls Tryd.prog 53 #[.agg #[.string nm, .slice a n c], .agg #[.string s.dfn, .string s.id, .string s.par, .string s.pnode, .int .i64 s.status, .string s.text, .slice a6 n6 c6, v7, .int .i64 s.events]] w fun e w' => e = .returned (.int .i64 (min n n6 : Nat)) ∧ Kept (fun _ => False) w w' := by
  go_enter Tryd.func53, Tryd.ntmps53
  go_wp2_with fail
  go_ret
  exact ⟨ret_int (by omega), (Kept.alloc _ _ _).and (Kept.alloc _ _ _)⟩

end Go.Proofs.YtdecceekodpjiaaDoor
