/-
  readLines: a node is read and put behind the others, as a region that draws its order.
-/
import Derived.Test.YtlholgpenpfpbaaGreatDoorB05
import Derived.Test.YtlholgpenpfpbaaGreatDoorB01
import Derived.Test.YtlholgpenpfpbaaGreatDoorB02
import Derived.Deep.RegionHeld3
import Derived.Deep.RegionLaw
namespace Go.Proofs.YtlholgpenpfpbaaGreatDoor
open Go.RowKit

def onlyN (K : Act → World → Prop) : Exit → Act → World → Prop
  | .normal, a, w => K a w
  | _, _, _ => False

theorem wp_onlyN {P : Program} {c : Code} {Q : Exit → Act → World → Prop} {a : Act} {w : World} (h : c.wp P (onlyN (fun a w => Q .normal a w)) a w) : c.wp P Q a w :=
  Code.wp_mono (fun e a w h => by cases e <;> first | exact h | exact h.elim) h

/-- append(v, x...) onto a row that is owned, as a step of a region that draws. -/
theorem step_append_sr {P : Program} {ops : Array Oper} {o : Oper} {a : Act} (w : World) {K : Act → World → Prop} {Q : Exit → Act → World → Prop} {E : Prop}
    (hg : o.guard = none) (s x : Operand) (t : TypeId) (hop : o.op = Op.call { callee := Callee.builtin Builtin.append, args := #[s, x], argTypes := #[t, t] })
    (base : Nat) (e : TypeId) (i : TypeInfo) (z : Value) (size bytes : Nat) (ht : P.underlying t = some (.slice e)) (hi : P.info? e = some i) (hz : i.zero = some z)
    (hsize : i.size = size) (hby : i.bytes = bytes) (hzs : z.cells.size = size) (hsz : 0 < size)
    (v : Value) (n : Nat) (xs : List Value) (hs : a.eval s = v) (hown : w.ownsRow base e size v n xs) (xv : Value) (hx : a.eval x = xv) (m : Nat) (news : List Value) (hsrc : Src w size xv m news) (h1 : ∀ u ∈ news, u.oneCell' = true)
    (h63 : n + m ≤ maxLen) (hbytes : (n + m) * bytes ≤ 140737488355328) (hbase : base ≤ w.heap.size)
    (hK : ∀ a' cap w', w'.ownsRow base e size (.slice a' (n + m) cap) (n + m) (xs ++ news) → w.grownBy w' v.ownBlock → (Value.slice a' (n + m) cap = .slice none 0 0 ↔ v = .slice none 0 0 ∧ m = 0) → ((Value.slice a' (n + m) cap).ownBlock = v.ownBlock ∨ (Value.slice a' (n + m) cap).ownBlock = some w.heap.size) → K (a.put o.dst (.slice a' (n + m) cap)) w') :
    if Region.wanted o (yielded ops a.tmps) = true then Oper.wp P o a w K Q else E := by
  have hw : Region.wanted o (yielded ops a.tmps) = true := by simp [Region.wanted, hg]
  rw [if_pos hw]
  obtain ⟨v', w', hrun, h2, h3, h4, h5⟩ := run_append_src (P := P) w base t o.type e i z size bytes ht hi hz hsize hby hzs hsz v n xs hown xv m news hsrc h1 h63 hbytes hbase
  obtain ⟨a', cap, rfl⟩ := ownsRow_shape h2
  unfold Oper.wp
  simp [execOp, hop, resolve, invoke, builtin, hs, hx, hrun, Result.andThen]
  exact hK a' cap w' h2 h3 h4 h5

/-- A call of a Go function as a step of a region that draws. -/
theorem step_call1 {P : Program} {ops : Array Oper} {o : Oper} {a : Act} (w : World) {K : Act → World → Prop} {Q : Exit → Act → World → Prop} {E : Prop}
    (hg : o.guard = none) (f : Nat) (x : Operand) (t : TypeId) (hop : o.op = Op.call { callee := .value (.func f), args := #[x], argTypes := #[t] })
    (he : ∀ args w, (callFunc f args).run P w = .ok (.enter f args) w) (v : Value) (hx : a.eval x = v) {R : Ending → World → Prop} (hC : Calls P f #[v] w R)
    (hK : ∀ e w', R e w' → ∃ u, e = .returned u ∧ K (a.put o.dst u) w') :
    if Region.wanted o (yielded ops a.tmps) = true then Oper.wp P o a w K Q else E := by
  have hw : Region.wanted o (yielded ops a.tmps) = true := by simp [Region.wanted, hg]
  rw [if_pos hw]
  unfold Oper.wp
  have hf : a.eval (.func f) = .func (.func f) #[] #[] := rfl
  simp [execOp, hop, resolve, invoke, hf, hx, he, Deferred.ofValue]
  refine hC.mono ?_
  rintro e w' h
  obtain ⟨u, rfl, k⟩ := hK e w' h
  exact k


theorem ndC_one (n : Nd) (a : Option Addr) (m c : Nat) : ∀ u ∈ ndC n (.slice a m c), u.oneCell' = true := by
  intro u hu
  simp only [ndC, List.mem_cons, List.not_mem_nil, or_false] at hu
  rcases hu with rfl | rfl | rfl | rfl | rfl | rfl | rfl <;> rfl

set_option maxRecDepth 100000 in
set_option maxHeartbeats 1500000 in
theorem lines8 {W : World} {db rb base n c : Nat} {a : Option Addr} {xs : List Value} {nd : Nd} {R : World → Option Addr → Nat → Prop} {ds : List Deferred} {u0 u1 u3 u4 u5 u6 u7 u9 u10 u11 u12 u13 u14 u15 u16 u17 u18 u19 u20 u21 u22 u23 u24 u25 u26 u27 u28 u29 u30 u31 u32 u33 u34 u35 u36 u37 u38 u39 u40 u41 u42 u43 u44 u45 u46 u47 u48 : Value} (K : Act → World → Prop) (x1 : W.drew.cell? ⟨db, 1, none⟩ = some (.slice a n c))
    (hC : Calls Tryz.prog 39 #[.pointer (some ⟨rb, 0, none⟩)] W.drew fun e w' => ∃ aa ca, e = .returned (.agg #[.string nd.name, .int .i64 nd.kind, .string nd.arg, .string nd.to, .int .i64 nd.delay, .int .i64 nd.tries, .slice aa nd.after.length ca]) ∧ R w' aa ca)
    (hR : ∀ w5 aa ca, R w5 aa ca → w5.cell? ⟨db, 1, none⟩ = some (.slice a n c) ∧ (w5.alloc (.cells #[.string nd.name, .int .i64 nd.kind, .string nd.arg, .string nd.to, .int .i64 nd.delay, .int .i64 nd.tries, .slice aa nd.after.length ca] 35)).cell? ⟨db, 1, none⟩ = some (.slice a n c) ∧ (w5.alloc (.cells #[.string nd.name, .int .i64 nd.kind, .string nd.arg, .string nd.to, .int .i64 nd.delay, .int .i64 nd.tries, .slice aa nd.after.length ca] 35)).ownsRow base 35 7 (.slice a n c) n xs ∧ base ≤ w5.heap.size + 1)
    (hG : ∀ w5 w6 aa ca, R w5 aa ca → (w5.alloc (.cells #[.string nd.name, .int .i64 nd.kind, .string nd.arg, .string nd.to, .int .i64 nd.delay, .int .i64 nd.tries, .slice aa nd.after.length ca] 35)).grownBy w6 (Value.slice a n c).ownBlock → w6.cell? ⟨db, 1, none⟩ = some (.slice a n c) ∧ w6.frozen? ⟨db, 1, none⟩ = false)
    (hn : n ≤ 100000)
    (h : ∀ (v22 v23 v24 v25 v26 v27 : Value) (w5 w6 : World) (aa a6 : Option Addr) (ca c6 : Nat), R w5 aa ca → w6.ownsRow base 35 7 (.slice a6 (n + 1) c6) (n + 1) (xs ++ ndC nd (.slice aa nd.after.length ca)) → (w5.alloc (.cells #[.string nd.name, .int .i64 nd.kind, .string nd.arg, .string nd.to, .int .i64 nd.delay, .int .i64 nd.tries, .slice aa nd.after.length ca] 35)).grownBy w6 (Value.slice a n c).ownBlock → K { tmps := #[u0, u1, .pointer (some ⟨db, 0, none⟩), u3, u4, u5, u6, u7, .pointer (some ⟨rb, 0, none⟩), u9, u10, u11, u12, u13, u14, u15, u16, u17, u18, u19, u20, u21, v22, v23, v24, v25, v26, v27, u28, u29, u30, u31, u32, u33, u34, u35, u36, u37, u38, u39, u40, u41, u42, u43, u44, u45, u46, u47, u48], defers := ds } (w6.setCell ⟨db, 1, none⟩ (.slice a6 (n + 1) c6))) :
    (Code.region 8 #[{ dst := some 22, op := Op.fieldAddr 24 (Operand.tmp 2) 1, type := 0, pos := "text.go:49", after := #[], guard := none }, { dst := some 23, op := Op.load 22 (Operand.tmp 22), type := 22, pos := "text.go:49", after := #[{ on := 0, ground := Ground.data }], guard := none }, { dst := some 24, op := Op.call { callee := Callee.value (Operand.func 39), args := #[Operand.tmp 8], argTypes := #[76] }, type := 35, pos := "text.go:49", after := #[], guard := none }, { dst := some 25, op := Op.buildSlice 22 1 #[(0, Operand.tmp 24)], type := 22, pos := "text.go:49", after := #[{ on := 2, ground := Ground.data }], guard := none }, { dst := some 26, op := Op.call { callee := Callee.builtin Builtin.append, args := #[Operand.tmp 23, Operand.tmp 25], argTypes := #[22, 22] }, type := 22, pos := "text.go:49", after := #[{ on := 1, ground := Ground.data }, { on := 3, ground := Ground.data }, { on := 2, ground := Ground.chain }], guard := none }, { dst := some 27, op := Op.fieldAddr 24 (Operand.tmp 2) 1, type := 0, pos := "text.go:49", after := #[{ on := 0, ground := Ground.phase }, { on := 1, ground := Ground.phase }, { on := 2, ground := Ground.phase }, { on := 3, ground := Ground.phase }, { on := 4, ground := Ground.phase }], guard := none }, { dst := none, op := Op.store 22 (Operand.tmp 27) (Operand.tmp 26), type := 0, pos := "text.go:49", after := #[{ on := 5, ground := Ground.data }, { on := 4, ground := Ground.data }, { on := 4, ground := Ground.chain }, { on := 0, ground := Ground.phase }, { on := 1, ground := Ground.phase }, { on := 2, ground := Ground.phase }, { on := 3, ground := Ground.phase }, { on := 4, ground := Ground.phase }], guard := none }] true).wp Tryz.prog (onlyN K) { tmps := #[u0, u1, .pointer (some ⟨db, 0, none⟩), u3, u4, u5, u6, u7, .pointer (some ⟨rb, 0, none⟩), u9, u10, u11, u12, u13, u14, u15, u16, u17, u18, u19, u20, u21, u22, u23, u24, u25, u26, u27, u28, u29, u30, u31, u32, u33, u34, u35, u36, u37, u38, u39, u40, u41, u42, u43, u44, u45, u46, u47, u48], defers := ds } W := by
  obtain ⟨j0, hj0, hy0, hy1, hy2⟩ := info_parts Tryz.info35
  have HR : Hid _ := hR
  have HG : Hid _ := hG
  have HH : Hid _ := h
  clear hR hG h
  go_region_law
    (first
      | (refine step_append_sr _ (by rfl) _ _ _ (by rfl) base 35 j0 _ 7 96 Tryz.underlying22 hj0 hy0 hy1 hy2 rfl (by decide) (.slice a n c) n _ (by rfl) z2 _ (by rfl) 1 _ (.inl ⟨_, 1, rfl, rfl, World.news_of_block (heap_alloc_new _ _)⟩) (ndC_one nd aa _ ca) (by unfold maxLen; omega) (by omega) (by simp; omega) ?_; intro a6 cap6 w6 ho6 hg6 _ hl6; obtain ⟨v1, u1⟩ := HG.out w5 w6 aa ca R5 hg6)
      | (refine step_call1 _ rfl 39 _ _ rfl (enters_of Tryz.func39 (by kernel_rfl) rfl) _ (by rfl) hC ?_; rintro e w5 ⟨aa, ca, rfl, R5⟩; refine ⟨_, rfl, ?_⟩; obtain ⟨z0, z1, z2, z3⟩ := HR.out w5 aa ca R5))
  all_goals exact HH.out _ _ _ _ _ _ w5 w6 aa a6 ca cap6 R5 ho6 hg6

end Go.Proofs.YtlholgpenpfpbaaGreatDoor

/-
  readLines: the walk.
-/
namespace Go.Proofs.YtlholgpenpfpbaaGreatDoor
open Go.RowKit

def LinesPost (w : World) (P : Option (ByteArray × List Nd × List Nat) × Nat) (e : Ending) (w' : World) : Prop :=
  (∀ line, P = (none, line) → e = .returned (.tuple #[.agg #[.string ⟨#[]⟩, .slice none 0 0], .slice none 0 0, .int .i64 (line : Nat)])) ∧
  (∀ nm ns ls k, P = (some (nm, ns, ls), k) → ∃ a c v3, e = .returned (.tuple #[.agg #[.string nm, .slice a ns.length c], v3, .int .i64 0]) ∧ NodesRow w' (w.heap.size + 1) (.slice a ns.length c) ns ∧ w'.ownsRow (w.heap.size + 1) 3 1 v3 ls.length (natsV ls)) ∧ Kept (fun _ => False) w w'

theorem lines_none {w w' : World} {P : Option (ByteArray × List Nd × List Nat) × Nat} {line : Nat} (h : (none, line) = P) (K : Kept (fun _ => False) w w') : LinesPost w P (.returned (.tuple #[.agg #[.string ⟨#[]⟩, .slice none 0 0], .slice none 0 0, .int .i64 (line : Nat)])) w' := by
  subst h
  exact ⟨fun l h => (by cases h; rfl), fun _ _ _ _ h => (by cases h), K⟩

theorem put2 {w : World} {b : Nat} {T : TypeId} {u0 u1 : Value} (h : w.heap[b]? = some (.cells #[u0, u1] T (0, 0))) (v0 v1 : Value) : ((w.setCell ⟨b, 0, none⟩ v0).setCell ⟨b, 1, none⟩ v1).heap[b]? = some (.cells #[v0, v1] T (0, 0)) := by
  simp [World.setCell, Array.getElem?_modify, h]

theorem kept2 {w wr : World} (K : Kept (fun _ => False) w wr) (v0 v1 : Value) : Kept (fun _ => False) w ((wr.setCell ⟨w.heap.size, 0, none⟩ v0).setCell ⟨w.heap.size, 1, none⟩ v1) :=
  K.trans (S' := fun j => j = w.heap.size) ((Kept.setCell (S := fun j => j = w.heap.size) wr ⟨w.heap.size, 0, none⟩ v0 rfl).and (Kept.setCell (S := fun j => j = w.heap.size) _ ⟨w.heap.size, 1, none⟩ v1 rfl)) (fun i h => .inr (by omega))

/-- The reader, made of a line's words. -/
theorem rdNew {w2 : World} {base A : Nat} {ws : List ByteArray} (O : w2.ownsRow base 9 1 (.slice (some ⟨A, 0, none⟩) ws.length ws.length) ws.length (strsV ws)) (hs : ∀ s ∈ ws, s.size ≤ 1000000) :
    RdAt (w2.alloc (.cells #[.slice (some ⟨A, 0, none⟩) ws.length ws.length, .bool false] 76)) (w2.heap.size + 1) w2.heap.size (ws, false) := by
  have hA : A < w2.heap.size := ownsRow_blk O rfl
  have hm : ws.length ≤ maxLen := by
    rcases O.2 with ⟨e, _⟩ | ⟨g, cap, cur, e, _, _, h1, h2, _⟩
    · cases e
    · simp only [Value.slice.injEq] at e; omega
  refine ⟨⟨_, _, heap_alloc_new _ _, Nat.le_refl _, hm, .inr ⟨A, 0, rfl, by omega, by omega, fun i hi => ?_⟩⟩, by omega, by simp, hs⟩
  have := (O.alloc (.cells #[.slice (some ⟨A, 0, none⟩) ws.length ws.length, .bool false] 76)).cells (g := A) rfl i (.string ws[i]) (by simp [strsV, hi])
  rw [Addr.add_lit] at this
  exact this

theorem lineKept {wr w2 w3 : World} {o : Obj} (K : Kept (fun _ => False) wr w2) (K3 : Kept (fun j => j = w2.heap.size) (w2.alloc o) w3) : Kept (fun j => wr.heap.size ≤ j) wr w3 :=
  ((K.mono (fun _ h => h.elim)).and (Kept.alloc _ _ _)).and (K3.mono (fun j h => by have h' : j = w2.heap.size := h; have := K.size; omega))

set_option maxRecDepth 100000 in
set_option maxHeartbeats 3000000 in
theorem readLines_any (w : World) (t : ByteArray) (ht : t.size ≤ 16384) :
    Calls Tryz.prog 20 #[.string t] w fun e w' => LinesPost w (rlP t) e w' := by
  obtain ⟨i0, hi0, hz0, hz1, hz2⟩ := info_parts Tryz.info3
  obtain ⟨j0, hj0, hy0, hy1, hy2⟩ := info_parts Tryz.info35
  have HS : Hid (RLSt w (w.alloc (.cells #[.string ⟨#[]⟩, .slice none 0 0] 24)) ⟨#[]⟩ [] [] none 0 (.slice none 0 0)) := rlstart w
  generalize hP : rlP t = P
  have HP : Hid (rlK (t.size + 1) t 1 false ⟨#[]⟩ [] [] = P) := hP
  clear hP
  go_enter Tryz.func20, Tryz.ntmps20
  go_wp2
  go_loopw [0, 3, 5, 6] (fun v0 v3 v5 v6 wr => ∃ (s nm : ByteArray) (ns : List Nd) (ls : List Nat) (a a3 : Option Addr) (c c3 line : Nat) (b : Bool), v0 = .string s ∧ v5 = .bool b ∧ v6 = .int .i64 (line : Nat) ∧ v3 = .slice a3 ls.length c3 ∧ RLSt w wr nm ns ls a c (.slice a3 ls.length c3) ∧ s.size ≤ t.size ∧ line + s.size ≤ t.size + 1 ∧ ns.length ≤ line ∧ ls.length ≤ line ∧
      rlK (s.size + 1) s line b nm ns ls = P) (fun v0 _ _ _ _ => strLen v0)
  case atStart => exact ⟨t, ⟨#[]⟩, [], [], none, none, 0, 0, 1, false, rfl, rfl, rfl, rfl, HS.out, Nat.le_refl _, by omega, by simp, by simp, HP.out⟩
  case round =>
    obtain ⟨s, nm, ns, ls, a, a3, c, c3, line, b, rfl, rfl, rfl, rfl, T, hs1, hs2, hs3, hs4, hK⟩ := hrel
    have he := str_empty s
    have HT : Hid (RLSt w wr nm ns ls a c (.slice a3 ls.length c3)) := T
    obtain ⟨⟨d0, d1⟩, f0, f1⟩ := twoC T.d
    clear T HP HS
    by_cases h0 : s.size = 0
    · simp only [h0, decide_true] at he
      cases b with
      | false =>
        have HK : Hid ((none, line) = P) := by show _ = _; rw [← hK, rlK, if_pos h0]; rfl
        clear hK
        go_wp2
        generalize hV : ((wr.setCell ⟨w.heap.size, 0, none⟩ (.string ⟨#[]⟩)).setCell ⟨w.heap.size, 1, none⟩ (.slice none 0 0)) = V
        have hp := put2 HT.out.d (.string ⟨#[]⟩) (.slice none 0 0)
        have hk := kept2 HT.out.kept (.string ⟨#[]⟩) (.slice none 0 0)
        rw [hV] at hp hk
        obtain ⟨⟨g0, g1⟩, _, _⟩ := twoC hp
        refine bodyPost_ret (by simp [results, Tryz.results20, go_sem, g0, g1]; try rfl) rfl ?_
        exact lines_none HK.out hk
      | true =>
        have HK : Hid ((some (nm, ns, ls), 0) = P) := by show _ = _; rw [← hK, rlK, if_pos h0]; rfl
        clear hK
        go_wp2
        generalize hV : ((wr.setCell ⟨w.heap.size, 0, none⟩ (.string nm)).setCell ⟨w.heap.size, 1, none⟩ (.slice a ns.length c)) = V
        have hp := put2 HT.out.d (.string nm) (.slice a ns.length c)
        have hk := kept2 HT.out.kept (.string nm) (.slice a ns.length c)
        have hkk : Kept (fun j => j = w.heap.size) wr V := by rw [← hV]; exact (Kept.setCell (S := fun j => j = w.heap.size) wr ⟨w.heap.size, 0, none⟩ (.string nm) rfl).and (Kept.setCell (S := fun j => j = w.heap.size) _ ⟨w.heap.size, 1, none⟩ (.slice a ns.length c) rfl)
        rw [hV] at hp hk
        obtain ⟨⟨g0, g1⟩, _, _⟩ := twoC hp
        refine bodyPost_ret (by simp [results, Tryz.results20, go_sem, g0, g1]; try rfl) rfl ?_
        refine ⟨fun l h => ?_, fun nm' ns' ls' k h => ?_, hk⟩
        · rw [← HK.out] at h; cases h
        · rw [← HK.out] at h; cases h
          exact ⟨a, c, _, rfl, HT.out.rows.kept hkk (fun k h _ => by omega), ownsRow_keep HT.out.lines (fun g hg => hkk.block g (ownsRow_blk HT.out.lines hg) (by have := (HT.out.lines.lt g hg).1; omega))⟩
    · simp only [h0, decide_false] at he
      have hst := rl_step (s := s) (by omega) line b nm ns ls
      rw [hK] at hst
      have hcb := cutB_size (t := s) (by omega)
      have hca := cutA_size s
      have hcut := cut_any wr s (by omega)
      have hwo := fun W => wordsOf_any W (cutA s) (by omega)
      obtain ⟨hw1, hw2⟩ := words_ok (cutA s)
      have HWS : Hid (∀ x ∈ wordsP (cutA s), 0 < x.size ∧ x.size ≤ (cutA s).size) := hw2
      clear hK hw2
      generalize cutA s = sa at *
      generalize cutB s = sb at *
      generalize wordsP sa = ws at *
      generalize decide (0 ≤ nlAt s) = fd at *
      have HST : Hid (P = if rSilent (ws, false) then rlK (sb.size + 1) sb (line + 1) b nm ns ls
        else if b = false then
          (if (rHead (ws, false)).2.2 then (none, line) else rlK (sb.size + 1) sb (line + 1) true (rHead (ws, false)).1 ns ls)
        else
          (if (rNode (ws, false)).2.2 then (none, line) else rlK (sb.size + 1) sb (line + 1) true nm (ns ++ [(rNode (ws, false)).1]) (ls ++ [line]))) := hst
      clear hst
      have hsil := fun W B rb R => silent_any W B rb (ws, false) R (fun x hx => (HWS.out x hx).1)
      have hhd := fun W B rb R => heading_any W B rb (ws, false) R
      have hnd := fun W B rb R => node_any W B rb (ws, false) R (by show ws.length ≤ _; omega)
      have hRN := fun (w2 : World) (base A : Nat) (O : w2.ownsRow base 9 1 (.slice (some ⟨A, 0, none⟩) ws.length ws.length) ws.length (strsV ws)) => rdNew O (fun x hx => by have := (HWS.out x hx).2; omega)
      cases hsl : rSilent (ws, false) with
      | true =>
        rw [hsl] at hsil
        have HR : Hid (rlK (sb.size + 1) sb (line + 1) b nm ns ls = P) := by show _ = _; rw [HST.out, hsl]; rfl
        clear hhd hnd hsl
        go_wp2_with (first
          | (go_at_call 35; refine hcut.mono ?_; rintro e w1 ⟨rfl, K1⟩; clear hcut)
          | (go_at_call 36; refine (hwo _).mono ?_; rintro e w2 ⟨A, rfl, hA, O2, K2⟩; clear hwo; have HRD := hRN w2 _ A O2; have HRD2 : Hid _ := HRD; clear HRD O2)
          | (go_at_call 37; refine (hsil _ _ _ HRD2.out).mono ?_; rintro e w3 ⟨rfl, rfl⟩; clear hsil)
          | fail)
        go_roundw
        case rel => exact ⟨sb, nm, ns, ls, a, a3, c, c3, line + 1, b, rfl, rfl, by go_num, rfl, (((HT.out.later K1 (fun _ _ h => h)).later K2 (fun _ _ h => h)).later (Kept.alloc (fun _ => False) _ _) (fun _ _ h => h)), by omega, by omega, by omega, by omega, HR.out⟩
        case measure => simp [strLen]; omega
      | false =>
        rw [hsl] at hsil
        cases b with
        | false =>
          clear hnd
          generalize hx : (rHead (ws, false)).1 = x at *
          generalize hq : (rHead (ws, false)).2 = q at *
          obtain ⟨wq, bq⟩ := q
          have HQ : Hid (P = if bq then (none, line) else rlK (sb.size + 1) sb (line + 1) true x ns ls) := by show _ = _; rw [HST.out, hsl]; rfl
          clear hsl HST
          have HTL := HT.out.lt
          cases bq with
          | true =>
            have HK : Hid ((none, line) = P) := by show _ = _; rw [HQ.out]; rfl
            clear HQ
            go_wp2_with (first
              | (go_at_call 35; refine hcut.mono ?_; rintro e w1 ⟨rfl, K1⟩; clear hcut)
              | (go_at_call 36; refine (hwo _).mono ?_; rintro e w2 ⟨A, rfl, hA, O2, K2⟩; clear hwo; have HRD := hRN w2 _ A O2; have HRD2 : Hid _ := HRD; clear HRD O2)
              | (go_at_call 37; refine (hsil _ _ _ HRD2.out).mono ?_; rintro e w3 ⟨rfl, rfl⟩; clear hsil)
              | (go_at_call 38; refine (hhd _ _ _ HRD2.out).mono ?_; rintro e w4 ⟨rfl, R4, K4⟩; clear hhd; have KL := lineKept (K1.and K2) K4; have T4 := HT.out.later KL (fun j hj => by omega); have T5 := T4.name x; obtain ⟨⟨t0, t1⟩, u0, u1⟩ := twoC T4.d; obtain ⟨⟨p0, p1⟩, r0, r1⟩ := twoC T5.d; have HT5 : Hid _ := T5; have hz := (K1.and K2).size; have m1 := R4.cells; obtain ⟨_, _, _, m1, _, _, _⟩ := m1; have m2 : (w4.setCell ⟨w.heap.size, 0, none⟩ (.string x)).cell? ⟨w2.heap.size, 1, none⟩ = some (.bool true) := (by rw [World.cell?_setCell_other _ _ _ _ (fun h => by have := congrArg Addr.block h; simp only [] at this; omega)]; exact m1); clear R4 T4 T5)
              | fail)
            generalize hV : (((w4.setCell ⟨w.heap.size, 0, none⟩ (.string x)).setCell ⟨w.heap.size, 0, none⟩ (.string ⟨#[]⟩)).setCell ⟨w.heap.size, 1, none⟩ (.slice none 0 0)) = V
            have hp := put2 HT5.out.d (.string ⟨#[]⟩) (.slice none 0 0)
            have hk := kept2 HT5.out.kept (.string ⟨#[]⟩) (.slice none 0 0)
            rw [hV] at hp hk
            obtain ⟨⟨g0, g1⟩, _, _⟩ := twoC hp
            refine bodyPost_ret (by simp [results, Tryz.results20, go_sem, g0, g1]; try rfl) rfl ?_
            exact lines_none HK.out hk
          | false =>
            have HK : Hid (rlK (sb.size + 1) sb (line + 1) true x ns ls = P) := by show _ = _; rw [HQ.out]; rfl
            clear HQ
            go_wp2_with (first
              | (go_at_call 35; refine hcut.mono ?_; rintro e w1 ⟨rfl, K1⟩; clear hcut)
              | (go_at_call 36; refine (hwo _).mono ?_; rintro e w2 ⟨A, rfl, hA, O2, K2⟩; clear hwo; have HRD := hRN w2 _ A O2; have HRD2 : Hid _ := HRD; clear HRD O2)
              | (go_at_call 37; refine (hsil _ _ _ HRD2.out).mono ?_; rintro e w3 ⟨rfl, rfl⟩; clear hsil)
              | (go_at_call 38; refine (hhd _ _ _ HRD2.out).mono ?_; rintro e w4 ⟨rfl, R4, K4⟩; clear hhd; have KL := lineKept (K1.and K2) K4; have T4 := HT.out.later KL (fun j hj => by omega); have T5 := T4.name x; obtain ⟨⟨t0, t1⟩, u0, u1⟩ := twoC T4.d; obtain ⟨⟨p0, p1⟩, r0, r1⟩ := twoC T5.d; have HT5 : Hid _ := T5; have hz := (K1.and K2).size; have m1 := R4.cells; obtain ⟨_, _, _, m1, _, _, _⟩ := m1; have m2 : (w4.setCell ⟨w.heap.size, 0, none⟩ (.string x)).cell? ⟨w2.heap.size, 1, none⟩ = some (.bool false) := (by rw [World.cell?_setCell_other _ _ _ _ (fun h => by have := congrArg Addr.block h; simp only [] at this; omega)]; exact m1); clear R4 T4 T5)
              | fail)
            go_roundw
            case rel => exact ⟨sb, x, ns, ls, a, a3, c, c3, line + 1, true, rfl, rfl, by go_num, rfl, HT5.out, by omega, by omega, by omega, by omega, HK.out⟩
            case measure => simp [strLen]; omega
        | true =>
          clear hhd
          have HQ : Hid (P = if (rNode (ws, false)).2.2 then (none, line) else rlK (sb.size + 1) sb (line + 1) true nm (ns ++ [(rNode (ws, false)).1]) (ls ++ [line])) := by show _ = _; rw [HST.out, hsl]; rfl
          clear hsl HST
          generalize hx : rNode (ws, false) = pr at *
          obtain ⟨nd, wq, bq⟩ := pr
          have HTL := HT.out.lt
          have HC : Hid (∀ u ∈ [Value.int .i64 (line : Nat)], u.oneCell' = true) := natsV_one [line]
          go_wp2_with (first
            | (go_at_call 35; refine hcut.mono ?_; rintro e w1 ⟨rfl, K1⟩; clear hcut)
            | (go_at_call 36; refine (hwo _).mono ?_; rintro e w2 ⟨A, rfl, hA, O2, K2⟩; clear hwo; have HRD := hRN w2 _ A O2; have HRD2 : Hid _ := HRD; clear HRD O2)
            | (go_at_call 37; refine (hsil _ _ _ HRD2.out).mono ?_; rintro e w3 ⟨rfl, rfl⟩; clear hsil)
            | fail)
          have K12 := K1.and K2
          have hz12 := K12.size
          have KL0 : Kept (fun j => wr.heap.size ≤ j) wr (w2.alloc (.cells #[.slice (some ⟨A, 0, none⟩) ws.length ws.length, .bool false] 76)) := (K12.mono (fun _ h => h.elim)).and (Kept.alloc _ _ _)
          have T2 := HT.out.later KL0 (fun j hj => by omega)
          have hszW : (w2.alloc (.cells #[.slice (some ⟨A, 0, none⟩) ws.length ws.length, .bool false] 76)).heap.size = w2.heap.size + 1 := by simp
          generalize hW : w2.alloc (.cells #[.slice (some ⟨A, 0, none⟩) ws.length ws.length, .bool false] 76) = W at *
          have KW : Kept (fun _ => False) W W.drew := Kept.drew _ W
          have T3 := T2.later KW (fun _ _ h => h)
          obtain ⟨⟨e0, x1⟩, _, _⟩ := twoC T3.d
          have hC := hnd W.drew _ _ (HRD2.out.kept KW (fun _ _ h => h))
          have hvs := HT.out.rows
          obtain ⟨vs, hv1, hv2r, hv3r⟩ := hvs
          have hrb : ∀ g, (Value.slice a ns.length c).ownBlock = some g → g < wr.heap.size := fun g hg => ownsRow_blk hv2r hg
          have KLd : Kept (fun j => wr.heap.size ≤ j) wr W.drew := KL0.and (KW.mono (fun _ h => h.elim))
          have hv2 := ownsRow_keep hv2r (fun g hg => KLd.block g (ownsRow_blk hv2r hg) (by have := hrb g hg; omega))
          have hlb : ∀ g, (Value.slice a3 ls.length c3).ownBlock = some g → g < wr.heap.size := fun g hg => ownsRow_blk HT.out.lines hg
          have HLB : Hid (∀ g, (Value.slice a3 ls.length c3).ownBlock = some g → g < wr.heap.size) := hlb
          have hk2 := fun (w5 : World) (aa : Option Addr) (ca : Nat) (K5 : Kept (fun j => j = w2.heap.size) W.drew w5) => show w5.cell? ⟨w.heap.size, 1, none⟩ = some (.slice a ns.length c) ∧ (w5.alloc (.cells #[.string nd.name, .int .i64 nd.kind, .string nd.arg, .string nd.to, .int .i64 nd.delay, .int .i64 nd.tries, .slice aa nd.after.length ca] 35)).cell? ⟨w.heap.size, 1, none⟩ = some (.slice a ns.length c) ∧ (w5.alloc (.cells #[.string nd.name, .int .i64 nd.kind, .string nd.arg, .string nd.to, .int .i64 nd.delay, .int .i64 nd.tries, .slice aa nd.after.length ca] 35)).ownsRow (w.heap.size + 1) 35 7 (.slice a ns.length c) ns.length (flatN ns vs) by
            have hlt : w.heap.size < W.drew.heap.size := T3.lt
            have b1 : w5.heap[w.heap.size]? = _ := (K5.block _ hlt (by omega)).trans T3.d
            have o1 := ownsRow_keep hv2 (fun g hg => K5.block g (ownsRow_blk hv2 hg) (by have := hrb g hg; omega))
            refine ⟨(twoC b1).1.2, ?_, o1.alloc _⟩
            rw [World.cell?_of_block (w := w5) (Below.heap_alloc _ _ _ (Array.getElem?_eq_some_iff.1 b1).1)]
            exact (twoC b1).1.2
          have hk3 := fun (w5 w6 : World) (aa : Option Addr) (ca : Nat) (K5 : Kept (fun j => j = w2.heap.size) W.drew w5) (hg6 : (w5.alloc (.cells #[.string nd.name, .int .i64 nd.kind, .string nd.arg, .string nd.to, .int .i64 nd.delay, .int .i64 nd.tries, .slice aa nd.after.length ca] 35)).grownBy w6 (Value.slice a ns.length c).ownBlock) => show w6.heap[w.heap.size]? = some (.cells #[.string nm, .slice a ns.length c] 24 (0, 0)) by
            have hlt : w.heap.size < W.drew.heap.size := T3.lt
            have b1 : w5.heap[w.heap.size]? = _ := (K5.block _ hlt (by omega)).trans T3.d
            have hl5 := (Array.getElem?_eq_some_iff.1 b1).1
            rw [hg6.block w.heap.size (by simp; omega) (fun e => by have := (hv2.lt _ e.symm).1; omega), Below.heap_alloc _ _ _ hl5]
            exact b1
          have fin := fun (w5 w6 : World) (aa a6 : Option Addr) (ca c6 : Nat) (K5 : Kept (fun j => j = w2.heap.size) W.drew w5) (O5 : w5.ownsRow W.drew.heap.size 9 1 (.slice aa nd.after.length ca) nd.after.length (strsV nd.after)) (R5 : RdAt w5 (w2.heap.size + 1) w2.heap.size (wq, bq))
              (ho6 : w6.ownsRow (w.heap.size + 1) 35 7 (.slice a6 (ns.length + 1) c6) (ns.length + 1) (flatN ns vs ++ ndC nd (.slice aa nd.after.length ca))) (hg6 : (w5.alloc (.cells #[.string nd.name, .int .i64 nd.kind, .string nd.arg, .string nd.to, .int .i64 nd.delay, .int .i64 nd.tries, .slice aa nd.after.length ca] 35)).grownBy w6 (Value.slice a ns.length c).ownBlock) =>
              show RLSt w (w6.setCell ⟨w.heap.size, 1, none⟩ (.slice a6 (ns.length + 1) c6)) nm (ns ++ [nd]) ls a6 c6 (.slice a3 ls.length c3) ∧ (w6.setCell ⟨w.heap.size, 1, none⟩ (.slice a6 (ns.length + 1) c6)).cell? ⟨w2.heap.size, 1, none⟩ = some (.bool bq) ∧ w2.heap.size < w6.heap.size by
            have o1 := ownsRow_keep hv2 (fun g hg => K5.block g (ownsRow_blk hv2 hg) (by have := hrb g hg; omega))
            have hzd : W.drew.heap.size = w2.heap.size + 1 := hszW
            have N6 := NodesRow.push hv1 o1 (fun i hi hj => by
              obtain ⟨aq, cq, e1, o⟩ := hv3r i hi hj
              have o2 := ownsRow_keep o (fun g hg => KLd.block g (ownsRow_blk o hg) (by have := ownsRow_blk o hg; omega))
              exact ⟨aq, cq, e1, ownsRow_keep o2 (fun g hg => K5.block g (ownsRow_blk o2 hg) (by have := ownsRow_blk o hg; omega))⟩) (ownsRow_lowS O5 (by omega)) ho6 hg6
            have b6 := hk3 w5 w6 aa ca K5 hg6
            have hz5 := K5.size
            have hz6 := hg6.size
            rw [World.size_alloc] at hz6
            have KS : Kept (fun j => j = w.heap.size) w6 (w6.setCell ⟨w.heap.size, 1, none⟩ (.slice a6 (ns.length + 1) c6)) := Kept.setCell _ _ _ rfl
            have Kg : Kept (fun g => (Value.slice a ns.length c).ownBlock = some g) (w5.alloc (.cells #[.string nd.name, .int .i64 nd.kind, .string nd.arg, .string nd.to, .int .i64 nd.delay, .int .i64 nd.tries, .slice aa nd.after.length ca] 35)) w6 := Kept.grown hg6 (fun g e => e)
            have l1 := ownsRow_keep HT.out.lines (fun g hg => KLd.block g (ownsRow_blk HT.out.lines hg) (by have := hlb g hg; omega))
            have l2 := ownsRow_keep l1 (fun g hg => K5.block g (ownsRow_blk l1 hg) (by have := hlb g hg; omega))
            have l3 := ownsRow_keep (w' := w6) l2 (fun g hg => by
              have hg5 := ownsRow_blk l2 hg
              rw [Kg.block g (by simp; omega) (fun e => typ_ne l2 o1 (by decide) hg e)]
              exact Below.heap_alloc _ _ _ hg5)
            have l4 := ownsRow_keep l3 (fun g hg => KS.block g (ownsRow_blk l3 hg) (by have := (l3.lt g hg).1; omega))
            obtain ⟨_, _, _, m1, _, _, _⟩ := R5.cells
            refine ⟨⟨?_, ?_, l4, ?_⟩, ?_, by omega⟩
            · rw [List.length_append, List.length_singleton]
              simp [World.setCell, Array.getElem?_modify, b6]
            · rw [List.length_append, List.length_singleton]
              exact N6.kept KS (fun k hk _ => by omega)
            · refine (((T3.kept.trans (S' := fun j => j = w2.heap.size) K5 (fun i h => .inr (by have h' : i = w2.heap.size := h; omega))).and (Kept.alloc _ _ _)).trans Kg (fun i h => .inr (by have := (hv2.lt i h).1; omega))).trans KS (fun i h => .inr (by omega))
            · rw [World.cell?_setCell_other _ _ _ _ (fun h => by have := congrArg Addr.block h; simp only [] at this; omega), World.cell?_of_block (w := w5.alloc (.cells #[.string nd.name, .int .i64 nd.kind, .string nd.arg, .string nd.to, .int .i64 nd.delay, .int .i64 nd.tries, .slice aa nd.after.length ca] 35)) (Kg.block _ (by simp; omega) (fun e => by have := hrb _ e; simp only [] at this; omega)), World.cell?_of_block (w := w5) (Below.heap_alloc _ _ _ (by show w2.heap.size < _; omega))]
              exact m1
          have HF : Hid _ := fin
          clear fin T2 T3
          refine wp_onlyN (lines8 (nd := nd) (base := w.heap.size + 1) (xs := flatN ns vs) (R := fun w5 aa ca => w5.ownsRow W.drew.heap.size 9 1 (.slice aa nd.after.length ca) nd.after.length (strsV nd.after) ∧ RdAt w5 (w2.heap.size + 1) w2.heap.size (wq, bq) ∧ Kept (fun j => j = w2.heap.size) W.drew w5) _ x1 hC ?_ ?_ (by omega) ?_)
          · rintro w5 aa ca ⟨O5, R5, K5⟩
            obtain ⟨z0, z1, z2⟩ := hk2 w5 aa ca K5
            exact ⟨z0, z1, z2, by have h9 := K5.size; have h8 : W.drew.heap.size = w2.heap.size + 1 := hszW; omega⟩
          · rintro w5 w6 aa ca ⟨O5, R5, K5⟩ hg6
            obtain ⟨⟨v0, v1⟩, u0, u1⟩ := twoC (hk3 w5 w6 aa ca K5 hg6)
            exact ⟨v1, u1⟩
          · rintro v22 v23 v24 v25 v26 v27 w5 w6 aa a6 ca c6 ⟨O5, R5, K5⟩ ho6 hg6
            obtain ⟨T7, m7, hz7⟩ := HF.out w5 w6 aa a6 ca c6 K5 O5 R5 ho6 hg6
            have HT7 : Hid (RLSt w (w6.setCell ⟨w.heap.size, 1, none⟩ (.slice a6 (ns.length + 1) c6)) nm (ns ++ [nd]) ls a6 c6 (.slice a3 ls.length c3)) := T7
            have HLN : Hid ((w6.setCell ⟨w.heap.size, 1, none⟩ (.slice a6 (ns.length + 1) c6)).ownsRow (w.heap.size + 1) 3 1 (.slice a3 ls.length c3) ls.length (natsV ls)) := T7.lines
            have hz8 : w2.heap.size < (w6.setCell ⟨w.heap.size, 1, none⟩ (.slice a6 (ns.length + 1) c6)).heap.size := by simpa [World.setCell] using hz7
            have hTL7 := T7.lt
            clear T7 HF hk2 hk3 O5 R5 K5 ho6 hg6 hC hv1 hv2 hv2r hv3r hrb hlb hnd KLd KL0 hRN hx x1 e0 KW d0 d1 f0 f1 HRD2
            generalize w6.setCell ⟨w.heap.size, 1, none⟩ (.slice a6 (ns.length + 1) c6) = W7 at *
            have hl9 : ls.length + 1 ≤ 100000 := by omega
            have HL9 : Hid (∀ a9 c9 w9, w9.ownsRow (w.heap.size + 1) 3 1 (.slice a9 (ls.length + 1) c9) (ls.length + 1) (natsV ls ++ [.int .i64 (line : Nat)]) → (W7.alloc (.cells #[.int .i64 (line : Nat)] 3)).grownBy w9 (Value.slice a3 ls.length c3).ownBlock →
                RLSt w w9 nm (ns ++ [nd]) (ls ++ [line]) a6 c6 (.slice a9 (ls ++ [line]).length c9) ∧ w9.cell? ⟨w2.heap.size, 1, none⟩ = some (.bool bq)) := fun a9 c9 w9 ho9 hg9 => by
              have Kg : Kept (fun g => (Value.slice a3 ls.length c3).ownBlock = some g) W7 w9 := (Kept.alloc _ _ _).and (Kept.grown hg9 (fun g e => e))
              have hne : ∀ g, (Value.slice a3 ls.length c3).ownBlock = some g → w.heap.size + 1 ≤ g ∧ g < wr.heap.size := fun g hg => ⟨(HT.out.lines.lt g hg).1, ownsRow_blk HT.out.lines hg⟩
              refine ⟨⟨(Kg.block _ hTL7 (fun e => by have := (hne _ e).1; omega)).trans HT7.out.d, ?_, ?_, HT7.out.kept.trans Kg (fun i h => .inr (by have := (hne i h).1; omega))⟩, ?_⟩
              · obtain ⟨vs2, q1, q2, q3⟩ := HT7.out.rows
                refine ⟨vs2, q1, ownsRow_keep q2 (fun g hg => Kg.block g (ownsRow_blk q2 hg) (fun e => typ_ne q2 HLN.out (by decide) hg e)), fun i hi hj => ?_⟩
                obtain ⟨aq, cq, e1, o⟩ := q3 i hi hj
                exact ⟨aq, cq, e1, ownsRow_keep o (fun g hg => Kg.block g (ownsRow_blk o hg) (fun e => typ_ne o HLN.out (by decide) hg e))⟩
              · rw [List.length_append, List.length_singleton, show natsV (ls ++ [line]) = natsV ls ++ [.int .i64 (line : Nat)] by simp [natsV]]
                exact ho9
              · rw [World.cell?_of_block (w := W7) (Kg.block _ hz8 (fun e => by have := (hne _ e).2; simp only [] at this; omega))]
                exact m7
            cases bq with
            | true =>
              have HK : Hid ((none, line) = P) := by show _ = _; rw [HQ.out]; rfl
              clear HQ
              go_wp2_with (first
                | (at_builtin; refine wpList_append_src _ rfl _ _ 50 rfl (w.heap.size + 1) 3 i0 _ 1 8 Tryz.underlying50 hi0 hz0 hz1 hz2 rfl (by decide) (.slice a3 ls.length c3) ls.length _ rfl (HLN.out.alloc _) _ rfl 1 _ (.inl ⟨_, 1, rfl, rfl, World.news_of_block (heap_alloc_new _ _)⟩) HC.out (by unfold maxLen; omega) (by omega) (by simp; omega) ?_; intro a9 c9 w9 ho9 hg9 _ hl9'; obtain ⟨T9, m9⟩ := HL9.out a9 c9 w9 ho9 hg9; have HT9 : Hid _ := T9; obtain ⟨⟨p0, p1⟩, r0, r1⟩ := twoC T9.d; clear T9 ho9 hg9 HL9)
                | fail)
              generalize hV : ((w9.setCell ⟨w.heap.size, 0, none⟩ (.string ⟨#[]⟩)).setCell ⟨w.heap.size, 1, none⟩ (.slice none 0 0)) = V
              have hp := put2 HT9.out.d (.string ⟨#[]⟩) (.slice none 0 0)
              have hk := kept2 HT9.out.kept (.string ⟨#[]⟩) (.slice none 0 0)
              rw [hV] at hp hk
              obtain ⟨⟨g0, g1⟩, _, _⟩ := twoC hp
              refine bodyPost_ret (by simp [results, Tryz.results20, go_sem, g0, g1]; try rfl) rfl ?_
              exact lines_none HK.out hk
            | false =>
              have HK : Hid (rlK (sb.size + 1) sb (line + 1) true nm (ns ++ [nd]) (ls ++ [line]) = P) := by show _ = _; rw [HQ.out]; rfl
              clear HQ
              go_wp2_with (first
                | (at_builtin; refine wpList_append_src _ rfl _ _ 50 rfl (w.heap.size + 1) 3 i0 _ 1 8 Tryz.underlying50 hi0 hz0 hz1 hz2 rfl (by decide) (.slice a3 ls.length c3) ls.length _ rfl (HLN.out.alloc _) _ rfl 1 _ (.inl ⟨_, 1, rfl, rfl, World.news_of_block (heap_alloc_new _ _)⟩) HC.out (by unfold maxLen; omega) (by omega) (by simp; omega) ?_; intro a9 c9 w9 ho9 hg9 _ hl9'; obtain ⟨T9, m9⟩ := HL9.out a9 c9 w9 ho9 hg9; have HT9 : Hid (RLSt w w9 nm (ns ++ [nd]) (ls ++ [line]) a6 c6 (.slice a9 (ls ++ [line]).length c9)) := T9; obtain ⟨⟨p0, p1⟩, r0, r1⟩ := twoC T9.d; clear T9 ho9 hg9 HL9)
                | fail)
              go_roundw
              case rel => exact ⟨sb, nm, ns ++ [nd], ls ++ [line], a6, a9, c6, c9, line + 1, true, rfl, rfl, by go_num, by simp, HT9.out, by omega, by omega, by simp; omega, by simp; omega, HK.out⟩
              case measure => simp [strLen]; omega

end Go.Proofs.YtlholgpenpfpbaaGreatDoor

/-
  fits: a node has what its kind allows.
-/
namespace Go.Proofs.YtlholgpenpfpbaaGreatDoor
open Go.RowKit

set_option maxRecDepth 100000 in
set_option maxHeartbeats 1000000 in
theorem fits_any (w : World) (x0 : ByteArray) (x1 : Int) (x2 x3 : ByteArray) (x4 x5 : Int) (x6 : List ByteArray) (av : Option Addr) (lv cv : Nat) :
    Calls Tryz.prog 44 #[.agg #[.string x0, .int .i64 x1, .string x2, .string x3, .int .i64 x4, .int .i64 x5, .slice av lv cv]] w fun e w' => e = .returned (.bool (fitsP ⟨x0, x1, x2, x3, x4, x5, x6⟩)) ∧ Kept (fun _ => False) w w' := by
  have s2 := str_empty x2
  have s3 := str_empty x3
  generalize hr : fitsP ⟨x0, x1, x2, x3, x4, x5, x6⟩ = r
  have HR : Hid (fitsP ⟨x0, x1, x2, x3, x4, x5, x6⟩ = r) := hr
  clear hr
  go_enter Tryz.func44, Tryz.ntmps44
  go_wp2
  all_goals go_ret
  all_goals refine ⟨?_, Kept.alloc _ _ _⟩
  all_goals rw [← HR.out]
  all_goals clear HR
  all_goals unfold fitsP
  all_goals simp only []
  all_goals (first | (simp [*]; done) | (simp [*, show ¬ x5 ≤ 10 by omega]; done) | (simp [*, show ¬ 1 ≤ x5 by omega]))

end Go.Proofs.YtlholgpenpfpbaaGreatDoor

/-
  checkNode: what is wrong with a node, but for its After.
-/
namespace Go.Proofs.YtlholgpenpfpbaaGreatDoor
open Go.RowKit

theorem findP_some_self {ns : List Nd} {i : Nat} (hi : i < ns.length) : ∃ j, findP ns (ns[i]).name = some j ∧ j ≤ i := by
  cases h : findP ns (ns[i]).name with
  | none => exact absurd rfl (findP_none.1 h _ (List.getElem_mem hi))
  | some j =>
    refine ⟨j, rfl, ?_⟩
    apply Nat.le_of_not_lt
    intro hlt
    exact findP_first h hlt rfl

set_option maxRecDepth 100000 in
set_option maxHeartbeats 1000000 in
theorem checkNode_any (w : World) (name : ByteArray) (a : Option Addr) (n c : Nat) (ns : List Nd) (hN : NodesAt w a ns) (hl : ns.length = n) (hn : n ≤ 4611686018427387904) (i : Nat) (hi : i < ns.length) :
    Calls Tryz.prog 23 #[.agg #[.string name, .slice a n c], .int .i64 i] w fun e w' => e = .returned (.int .i64 (nodeE ns i ns[i])) ∧ Kept (fun _ => False) w w' := by
  have K0 : Kept (fun _ => False) w (w.alloc (.cells #[.string name, .slice a n c] 24)) := Kept.alloc _ _ _
  obtain ⟨b, o, av, cv, rfl, hT, c0, c1, c2, c3, c4, c5, c6⟩ := (keptNew K0 hN).at hi
  have K1 := K0.and (Kept.alloc (fun _ => False) _ (.cells #[.string (ns[i]).name, .int .i64 (ns[i]).kind, .string (ns[i]).arg, .string (ns[i]).to, .int .i64 (ns[i]).delay, .int .i64 (ns[i]).tries, .slice av (ns[i]).after.length cv] 35))
  have HD : Hid (∀ W, Kept (fun _ => False) ((w.alloc (.cells #[.string name, .slice (some ⟨b, o, none⟩) n c] 24)).alloc (.cells #[.string (ns[i]).name, .int .i64 (ns[i]).kind, .string (ns[i]).arg, .string (ns[i]).to, .int .i64 (ns[i]).delay, .int .i64 (ns[i]).tries, .slice av (ns[i]).after.length cv] 35)) W →
      (W.cell? ⟨w.heap.size, 0, none⟩ = some (.string name) ∧ W.cell? ⟨w.heap.size, 1, none⟩ = some (.slice (some ⟨b, o, none⟩) n c)) ∧ W.cell? ⟨w.heap.size + 1, 0, none⟩ = some (.string (ns[i]).name) ∧ W.cell? ⟨w.heap.size + 1, 1, none⟩ = some (.int .i64 (ns[i]).kind) ∧ W.cell? ⟨w.heap.size + 1, 2, none⟩ = some (.string (ns[i]).arg) ∧
      W.cell? ⟨w.heap.size + 1, 3, none⟩ = some (.string (ns[i]).to) ∧ W.cell? ⟨w.heap.size + 1, 4, none⟩ = some (.int .i64 (ns[i]).delay) ∧ W.cell? ⟨w.heap.size + 1, 5, none⟩ = some (.int .i64 (ns[i]).tries) ∧ W.cell? ⟨w.heap.size + 1, 6, none⟩ = some (.slice av (ns[i]).after.length cv)) := fun W K => by
    refine ⟨boxD ((Kept.alloc _ _ _).and K), ?_⟩
    have := boxN K
    rw [World.size_alloc] at this
    exact this
  have e0 : (i : Int) < (n : Int) := by omega
  have q1 := fun W => named_any W (ns[i]).name (ns[i]).kind (ns[i]).arg (ns[i]).to (ns[i]).delay (ns[i]).tries (ns[i]).after av (ns[i]).after.length cv
  have q3 := fun W => fits_any W (ns[i]).name (ns[i]).kind (ns[i]).arg (ns[i]).to (ns[i]).delay (ns[i]).tries (ns[i]).after av (ns[i]).after.length cv
  have q2 := fun W (h : NodesAt W (some ⟨b, o, none⟩) ns) => find_any W name (some ⟨b, o, none⟩) n c ns h hl hn (ns[i]).name
  obtain ⟨j, hj, hji⟩ := findP_some_self hi
  unfold nodeE
  rw [hj, Option.getD_some]
  rw [hj] at q2
  simp only [Option.getD_some, Option.isSome_some] at q2
  change ∀ W, Calls Tryz.prog _ _ W (fun e w' => e = .returned (.bool (namedP ns[i])) ∧ _) at q1
  change ∀ W, Calls Tryz.prog _ _ W (fun e w' => e = .returned (.bool (fitsP ns[i])) ∧ _) at q3
  have HN : Hid (NodesAt w (some ⟨b, o, none⟩) ns) := hN
  clear hN hT hj
  cases g1 : namedP ns[i] with
  | false =>
    rw [g1] at q1
    generalize ns[i] = x at *
    go_enter Tryz.func23, Tryz.ntmps23
    go_wp2_with (first
      | (go_at_call 42; refine (q1 _).mono ?_; rintro e w1 ⟨rfl, K2⟩)
      | fail)
    go_ret
    exact ⟨rfl, K1.and K2⟩
  | true =>
    rw [g1] at q1
    by_cases hlt : j < i
    · have e1 : (j : Int) < (i : Int) := by omega
      simp only [hlt, if_true]
      generalize ns[i] = x at *
      go_enter Tryz.func23, Tryz.ntmps23
      go_wp2_with (first
        | (go_at_call 42; refine (q1 _).mono ?_; rintro e w1 ⟨rfl, K2⟩; obtain ⟨⟨d0, d1⟩, n0, n1, n2, n3, n4, n5, n6⟩ := HD.out _ K2; clear q1)
        | (go_at_call 43; refine (q2 _ (keptNew (K1.and K2) HN.out)).mono ?_; rintro e w2 ⟨rfl, K3⟩)
        | fail)
      go_ret
      exact ⟨rfl, (K1.and K2).and K3⟩
    · simp only [hlt, if_false]
      have e1 : ¬ (j : Int) < (i : Int) := by omega
      cases g3 : fitsP ns[i] <;>
      · rw [g3] at q3
        generalize ns[i] = x at *
        go_enter Tryz.func23, Tryz.ntmps23
        go_wp2_with (first
          | (go_at_call 42; refine (q1 _).mono ?_; rintro e w1 ⟨rfl, K2⟩; obtain ⟨⟨d0, d1⟩, n0, n1, n2, n3, n4, n5, n6⟩ := HD.out _ K2; clear q1)
          | (go_at_call 43; refine (q2 _ (keptNew (K1.and K2) HN.out)).mono ?_; rintro e w2 ⟨rfl, K3⟩; clear d0 d1 n0 n1 n2 n3 n4 n5 n6; obtain ⟨⟨d0, d1⟩, n0, n1, n2, n3, n4, n5, n6⟩ := HD.out _ (K2.and K3); clear q2)
          | (go_at_call 44; refine (q3 _).mono ?_; rintro e w3 ⟨rfl, K4⟩)
          | fail)
        go_ret
        exact ⟨rfl, ((K1.and K2).and K3).and K4⟩

end Go.Proofs.YtlholgpenpfpbaaGreatDoor

/-
  checkAfter: what is wrong with a node's After.
-/
namespace Go.Proofs.YtlholgpenpfpbaaGreatDoor
open Go.RowKit

/-- Thirty-two counts in block tb. -/
def TimesAt (w : World) (tb : Nat) (f : Nat → Nat) : Prop := ∀ j, j < 32 → w.cell? ⟨tb, j, none⟩ = some (.int .i64 (f j : Nat)) ∧ w.frozen? ⟨tb, j, none⟩ = false

theorem TimesAt.kept {w w' : World} {S : Nat → Prop} {tb : Nat} {f : Nat → Nat} (C : TimesAt w tb f) (K : Kept S w w') (h : ¬ S tb) : TimesAt w' tb f := fun j hj => by
  obtain ⟨c, z⟩ := C j hj
  have hb := K.block tb (World.block_lt_of_cell? w _ c) h
  exact ⟨(World.cell?_of_block hb).trans c, (World.frozen?_of_block hb).trans z⟩

theorem TimesAt.inc {w : World} {tb : Nat} {f : Nat → Nat} (C : TimesAt w tb f) {b : Nat} {z : Int} (hz : z = ((f b + 1 : Nat) : Int)) : TimesAt (w.setCell ⟨tb, b, none⟩ (.int .i64 z)) tb (fun j => if j = b then f j + 1 else f j) := fun j hj => by
  obtain ⟨c, q⟩ := C j hj
  refine ⟨?_, by rw [World.frozen?_setCell]; exact q⟩
  by_cases e : j = b
  · subst e
    rw [World.cell?_setCell_same' w ⟨tb, j, none⟩ _ (by rw [c]; rfl), hz]
    simp
  · rw [World.cell?_setCell_other _ _ _ _ (fun h => e (by cases h; rfl)), c]
    simp [e]

theorem timesNew (w : World) (T : TypeId) : TimesAt (w.alloc (.cells #[.int .i64 0, .int .i64 0, .int .i64 0, .int .i64 0, .int .i64 0, .int .i64 0, .int .i64 0, .int .i64 0, .int .i64 0, .int .i64 0, .int .i64 0, .int .i64 0, .int .i64 0, .int .i64 0, .int .i64 0, .int .i64 0, .int .i64 0, .int .i64 0, .int .i64 0, .int .i64 0, .int .i64 0, .int .i64 0, .int .i64 0, .int .i64 0, .int .i64 0, .int .i64 0, .int .i64 0, .int .i64 0, .int .i64 0, .int .i64 0, .int .i64 0, .int .i64 0] T)) w.heap.size (fun _ => 0) := by
  intro j hj
  have h := heap_alloc_new w (.cells #[.int .i64 0, .int .i64 0, .int .i64 0, .int .i64 0, .int .i64 0, .int .i64 0, .int .i64 0, .int .i64 0, .int .i64 0, .int .i64 0, .int .i64 0, .int .i64 0, .int .i64 0, .int .i64 0, .int .i64 0, .int .i64 0, .int .i64 0, .int .i64 0, .int .i64 0, .int .i64 0, .int .i64 0, .int .i64 0, .int .i64 0, .int .i64 0, .int .i64 0, .int .i64 0, .int .i64 0, .int .i64 0, .int .i64 0, .int .i64 0, .int .i64 0, .int .i64 0] T)
  constructor
  · unfold World.cell?
    rw [h]
    match j, hj with
    | 0, _ | 1, _ | 2, _ | 3, _ | 4, _ | 5, _ | 6, _ | 7, _ | 8, _ | 9, _ | 10, _ | 11, _ | 12, _ | 13, _ | 14, _ | 15, _ | 16, _ | 17, _ | 18, _ | 19, _ | 20, _ | 21, _ | 22, _ | 23, _ | 24, _ | 25, _ | 26, _ | 27, _ | 28, _ | 29, _ | 30, _ | 31, _ => rfl
    | j + 32, h => omega
  · unfold World.frozen?
    rw [h]
    rfl

theorem nodup_snoc (l : List ByteArray) (s : ByteArray) : (l ++ [s]).Nodup ↔ l.Nodup ∧ s ∉ l := by
  rw [List.nodup_append]
  constructor
  · rintro ⟨h1, _, h3⟩
    exact ⟨h1, fun h => h3 s h s (by simp) rfl⟩
  · rintro ⟨h1, h2⟩
    exact ⟨h1, by simp, fun a ha b hb e => by simp at hb; subst hb; subst e; exact h2 ha⟩

/-- How many of some names mean node j. -/
def tim (ns : List Nd) (l : List ByteArray) (j : Nat) : Nat := l.countP (fun s => decide (findP ns s = some j))

theorem tim_pos {ns : List Nd} {l : List ByteArray} {s : ByteArray} {j : Nat} (h : findP ns s = some j) : 0 < tim ns l j ↔ s ∈ l := by
  unfold tim
  rw [List.countP_pos_iff]
  constructor
  · rintro ⟨x, hx, hd⟩
    have h2 := of_decide_eq_true hd
    have := findP_name h2
    rw [findP_name h] at this
    rw [this]; exact hx
  · intro hs
    exact ⟨s, hs, by simpa using h⟩

theorem tim_snoc {ns : List Nd} {l : List ByteArray} {s : ByteArray} {j : Nat} (h : findP ns s = some j) : tim ns (l ++ [s]) = fun k => if k = j then tim ns l k + 1 else tim ns l k := by
  funext k
  unfold tim
  rw [List.countP_append, List.countP_singleton, h]
  by_cases e : k = j
  · subst e; simp
  · have : ¬ j = k := fun h => e h.symm
    simp [e, this]

theorem take_snoc {α : Type} {l : List α} {k : Nat} (h : k < l.length) : l.take (k + 1) = l.take k ++ [l[k]] := by rw [List.take_add_one, List.getElem?_eq_getElem h]; rfl

set_option maxRecDepth 100000 in
set_option maxHeartbeats 2000000 in
theorem checkAfter_any (w : World) (name : ByteArray) (a : Option Addr) (n c : Nat) (ns : List Nd) (hN : NodesAt w a ns) (hl : ns.length = n) (hn : n ≤ 32) (i : Nat) (hi : i < ns.length) :
    Calls Tryz.prog 24 #[.agg #[.string name, .slice a n c], .int .i64 i] w fun e w' => e = .returned (.int .i64 (afterE ns ns[i])) ∧ Kept (fun _ => False) w w' := by
  have K0 : Kept (fun _ => False) w ((w.alloc (.cells #[.string name, .slice a n c] 24)).alloc (.cells #[.int .i64 0, .int .i64 0, .int .i64 0, .int .i64 0, .int .i64 0, .int .i64 0, .int .i64 0, .int .i64 0, .int .i64 0, .int .i64 0, .int .i64 0, .int .i64 0, .int .i64 0, .int .i64 0, .int .i64 0, .int .i64 0, .int .i64 0, .int .i64 0, .int .i64 0, .int .i64 0, .int .i64 0, .int .i64 0, .int .i64 0, .int .i64 0, .int .i64 0, .int .i64 0, .int .i64 0, .int .i64 0, .int .i64 0, .int .i64 0, .int .i64 0, .int .i64 0] 81)) := (Kept.alloc _ _ _).and (Kept.alloc _ _ _)
  obtain ⟨b, o, av, cv, rfl, hT, c0, c1, c2, c3, c4, c5, c6⟩ := hN.at hi
  replace c6 := keepC K0 c6 (fun _ _ h => h)
  have hfew := (hN.1 _ (List.getElem_mem hi)).few
  have e0 : (i : Int) < (n : Int) := by omega
  have HT : Hid (TextsAt w (.slice av (ns[i]).after.length cv) (ns[i]).after) := hT
  have HTi : Hid (TimesAt ((w.alloc (.cells #[.string name, .slice (some ⟨b, o, none⟩) n c] 24)).alloc (.cells #[.int .i64 0, .int .i64 0, .int .i64 0, .int .i64 0, .int .i64 0, .int .i64 0, .int .i64 0, .int .i64 0, .int .i64 0, .int .i64 0, .int .i64 0, .int .i64 0, .int .i64 0, .int .i64 0, .int .i64 0, .int .i64 0, .int .i64 0, .int .i64 0, .int .i64 0, .int .i64 0, .int .i64 0, .int .i64 0, .int .i64 0, .int .i64 0, .int .i64 0, .int .i64 0, .int .i64 0, .int .i64 0, .int .i64 0, .int .i64 0, .int .i64 0, .int .i64 0] 81)) (w.heap.size + 1) (tim ns [])) := by
    have := timesNew (w.alloc (.cells #[.string name, .slice (some ⟨b, o, none⟩) n c] 24)) 81
    rw [World.size_alloc] at this
    exact this
  have HD : Hid (∀ W, Kept (fun j => j = w.heap.size + 1) ((w.alloc (.cells #[.string name, .slice (some ⟨b, o, none⟩) n c] 24)).alloc (.cells #[.int .i64 0, .int .i64 0, .int .i64 0, .int .i64 0, .int .i64 0, .int .i64 0, .int .i64 0, .int .i64 0, .int .i64 0, .int .i64 0, .int .i64 0, .int .i64 0, .int .i64 0, .int .i64 0, .int .i64 0, .int .i64 0, .int .i64 0, .int .i64 0, .int .i64 0, .int .i64 0, .int .i64 0, .int .i64 0, .int .i64 0, .int .i64 0, .int .i64 0, .int .i64 0, .int .i64 0, .int .i64 0, .int .i64 0, .int .i64 0, .int .i64 0, .int .i64 0] 81)) W → (W.cell? ⟨w.heap.size, 0, none⟩ = some (.string name) ∧ W.cell? ⟨w.heap.size, 1, none⟩ = some (.slice (some ⟨b, o, none⟩) n c)) ∧ NodesAt W (some ⟨b, o, none⟩) ns ∧ Kept (fun _ => False) w W) := fun W K => by
    have K2 : Kept (fun j => j = w.heap.size + 1) (w.alloc (.cells #[.string name, .slice (some ⟨b, o, none⟩) n c] 24)) W := (Kept.alloc _ _ _).and K
    have K3 : Kept (fun j => j = w.heap.size + 1) w W := (Kept.alloc _ _ _).and K2
    exact ⟨⟨boxC K2 (by omega) 0 _ rfl, boxC K2 (by omega) 1 _ rfl⟩, hN.kept K3 (fun k hk => by omega), (Kept.refl (fun _ => False) w).trans K3 (fun i h => .inr (by omega))⟩
  clear hT hN c0 c1 c2 c3 c4 c5
  generalize hE : afterE ns ns[i] = E
  have HE : Hid (afterE ns ns[i] = E) := hE
  clear hE
  generalize ns[i] = x at *
  go_enter Tryz.func24, Tryz.ntmps24
  go_wp2
  go_loopw [6, 18] (fun t q wr => ∃ (k : Nat), k ≤ x.after.length ∧ q = .int .i64 k ∧ Kept (fun j => j = w.heap.size + 1) ((w.alloc (.cells #[.string name, .slice (some ⟨b, o, none⟩) n c] 24)).alloc (.cells #[.int .i64 0, .int .i64 0, .int .i64 0, .int .i64 0, .int .i64 0, .int .i64 0, .int .i64 0, .int .i64 0, .int .i64 0, .int .i64 0, .int .i64 0, .int .i64 0, .int .i64 0, .int .i64 0, .int .i64 0, .int .i64 0, .int .i64 0, .int .i64 0, .int .i64 0, .int .i64 0, .int .i64 0, .int .i64 0, .int .i64 0, .int .i64 0, .int .i64 0, .int .i64 0, .int .i64 0, .int .i64 0, .int .i64 0, .int .i64 0, .int .i64 0, .int .i64 0] 81)) wr ∧ TimesAt wr (w.heap.size + 1) (tim ns (x.after.take k)) ∧
      (x.after.take k).all (fun s => (findP ns s).isSome) = true ∧ t = .bool (!decide (x.after.take k).Nodup)) (fun _ q _ => x.after.length - (intOf q).toNat)
  case atStart => exact ⟨0, Nat.zero_le _, rfl, Kept.refl _ _, HTi.out, rfl, rfl⟩
  case round =>
    obtain ⟨k, hk, rfl, K, hTi, hall, rfl⟩ := hrel
    obtain ⟨⟨d0, d1⟩, hNr, Kw⟩ := HD.out _ K
    by_cases hlt : k < x.after.length
    · obtain ⟨a2, c2, hsl, hc2, hne⟩ := (HT.out.kept Kw (fun _ _ h => h)).at
      obtain ⟨rfl, rfl⟩ : av = a2 ∧ cv = c2 := by simpa using hsl
      obtain ⟨xb, xo, rfl, hcell⟩ := hne (fun e => by rw [e] at hlt; simp at hlt)
      have hck := hcell k hlt
      have hfd := find_any wr name (some ⟨b, o, none⟩) n c ns hNr hl (by omega) (x.after[k])
      have e1 : (k : Int) < (x.after.length : Int) := by omega
      clear hsl hcell hne
      cases hf : findP ns (x.after[k]) with
      | none =>
        rw [hf] at hfd
        simp only [Option.getD_none, Option.isSome_none] at hfd
        have HN : Hid (x.after.all (fun s => (findP ns s).isSome) = false) := List.all_eq_false.2 ⟨_, List.getElem_mem hlt, by rw [hf]; simp⟩
        generalize x.after[k] = s at *
        go_wp2_with (first
          | (go_at_call 43; refine hfd.mono ?_; rintro e w1 ⟨rfl, K1⟩; clear hfd)
          | fail)
        go_ret
        refine ⟨?_, Kw.and K1⟩
        rw [← HE.out]
        unfold afterE
        rw [HN.out]
        rfl
      | some j =>
        rw [hf] at hfd
        simp only [Option.getD_some, Option.isSome_some] at hfd
        have hj := findP_lt hf
        have ht := take_snoc hlt
        have htm := tim_snoc (l := x.after.take k) hf
        have hps := tim_pos (l := x.after.take k) hf
        have hnd := nodup_snoc (x.after.take k) x.after[k]
        rw [← ht] at htm hnd
        have hle : tim ns (x.after.take k) j ≤ k := Nat.le_trans List.countP_le_length (by rw [List.length_take]; omega)
        have HA : Hid ((x.after.take (k + 1)).all (fun s => (findP ns s).isSome) = true) := by
          show _ = _
          rw [ht, List.all_append, hall]; simp [hf]
        have HQ : Hid ((x.after.take (k + 1)).Nodup ↔ (x.after.take k).Nodup ∧ tim ns (x.after.take k) j = 0) := by
          show _ ↔ _
          rw [hnd, ← hps]
          constructor
          · rintro ⟨h1, h2⟩; exact ⟨h1, by omega⟩
          · rintro ⟨h1, h2⟩; exact ⟨h1, by omega⟩
        have HM : Hid (tim ns (x.after.take (k + 1)) = fun k_1 => if k_1 = j then tim ns (x.after.take k) k_1 + 1 else tim ns (x.after.take k) k_1) := htm
        have HTk : Hid (TimesAt wr (w.heap.size + 1) (tim ns (x.after.take k))) := hTi
        have e2 : (j : Int) < 32 := by omega
        clear hTi hnd hps htm ht hf hall
        cases hb : decide (x.after.take k).Nodup with
        | false =>
          have HB : Hid ((x.after.take (k + 1)).Nodup ↔ False) := by show _ ↔ _; rw [HQ.out]; simp at hb; simp [hb]
          clear HQ hb
          generalize x.after[k] = s at *
          generalize hg : tim ns (x.after.take k) j = f at *
          go_wp2_with (first
            | (go_at_call 43; refine hfd.mono ?_; rintro e w1 ⟨rfl, K1⟩; clear hfd; have T1 : Hid (TimesAt w1 (w.heap.size + 1) (tim ns (x.after.take k))) := HTk.out.kept K1 (fun h => h); obtain ⟨tc, tz⟩ := T1.out j (by omega); rw [hg] at tc)
            | fail)
          go_roundw
          case rel =>
            refine ⟨k + 1, by omega, by go_num, (K.and (K1.mono (fun _ h => h.elim))).and (Kept.setCell _ _ _ rfl), ?_, HA.out, ?_⟩
            · rw [HM.out]; exact T1.out.inc (by rw [hg]; rfl)
            · simp [HB.out]
          case measure => simp [intOf]; omega
        | true =>
          have HB : Hid ((x.after.take (k + 1)).Nodup ↔ tim ns (x.after.take k) j = 0) := by show _ ↔ _; rw [HQ.out]; simp at hb; simp [hb]
          clear HQ hb
          generalize x.after[k] = s at *
          generalize hg : tim ns (x.after.take k) j = f at *
          go_wp2_with (first
            | (go_at_call 43; refine hfd.mono ?_; rintro e w1 ⟨rfl, K1⟩; clear hfd; have T1 : Hid (TimesAt w1 (w.heap.size + 1) (tim ns (x.after.take k))) := HTk.out.kept K1 (fun h => h); obtain ⟨tc, tz⟩ := T1.out j (by omega); rw [hg] at tc)
            | fail)
          go_roundw
          case rel =>
            refine ⟨k + 1, by omega, by go_num, (K.and (K1.mono (fun _ h => h.elim))).and (Kept.setCell _ _ _ rfl), ?_, HA.out, ?_⟩
            · rw [HM.out]; exact T1.out.inc (by rw [hg]; rfl)
            · have hh : ((1 : Int) < (f : Int) + 1) ↔ ¬ f = 0 := by omega
              simp [HB.out, hh]
          case measure => simp [intOf]; omega
    · obtain rfl : k = x.after.length := by omega
      rw [List.take_length] at hall
      cases hd : decide x.after.Nodup <;>
      · rw [List.take_length, hd]
        go_wp2
        go_ret
        refine ⟨?_, Kw⟩
        rw [← HE.out]
        unfold afterE
        rw [hall]
        simp at hd
        simp [hd]

end Go.Proofs.YtlholgpenpfpbaaGreatDoor

/-
  waits: for how many each node waits, and who waits for it.
-/
namespace Go.Proofs.YtlholgpenpfpbaaGreatDoor
open Go.RowKit

/-- What waits counts, when the first i nodes were gone through. -/
def openF (ns : List Nd) (i x : Nat) : Value := .int .i64 (if x < i then (match ns[x]? with | some n => (n.after.length : Int) | none => 0) else 0)

theorem openF_next {ns : List Nd} {i : Nat} (hi : i < ns.length) (q : Nat) : (if q = i then Value.int .i64 ((ns[i]).after.length : Int) else openF ns i q) = openF ns (i + 1) q := by
  unfold openF
  by_cases e : q = i
  · subst e
    rw [if_pos rfl, if_pos (Nat.lt_succ_self _), List.getElem?_eq_getElem hi]
  · rw [if_neg e]
    by_cases h : q < i
    · rw [if_pos h, if_pos (by omega)]
    · rw [if_neg h, if_neg (by omega)]

set_option maxRecDepth 100000 in
set_option maxHeartbeats 4000000 in
theorem waits_any (w : World) (name : ByteArray) (a : Option Addr) (n c : Nat) (ns : List Nd) (hN : NodesAt w a ns) (hl : ns.length = n) (hn : n ≤ 1000000) :
    Calls Tryz.prog 32 #[.agg #[.string name, .slice a n c]] w fun e w' => ∃ ob vs, e = .returned (.tuple #[.slice (some ⟨ob, 0, none⟩) n n, .slice (some ⟨ob + 1, 0, none⟩) n n]) ∧ w.heap.size ≤ ob ∧
      w'.rowIs ob 3 n (openF ns n) ∧ BehAt w' (ob + 2) (fun g => ob + 2 ≤ g) (ob + 1) n (fun j => bhL ns j n) vs ∧ Kept (fun _ => False) w w' := by
  subst hl
  obtain ⟨i0, hi0, hz0, hz1, hz2⟩ := info_parts Tryz.info3
  have hF := firsts_any (w.alloc (.cells #[.string name, .slice a ns.length c] 24)) name a ns.length c ns (keptNew (Kept.alloc _ _ _) hN) rfl (by omega)
  rw [World.size_alloc] at hF
  have hm1 := fun W => run_make_row' (P := Tryz.prog) 50 3 (.int .i64 0) 8 Tryz.underlying50 Tryz.info3 rfl .i64 .i64 ns.length (by omega) (by omega) W
  have hm2 := fun W => run_make_row' (P := Tryz.prog) 64 50 (.slice none 0 0) 24 Tryz.underlying64 Tryz.info50 rfl .i64 .i64 ns.length (by omega) (by omega) W
  have HN : Hid (NodesAt w a ns) := hN
  have HL : Hid (∀ n ∈ ns, n.after.length ≤ 1000000) := fun n h => (hN.1 n h).few
  clear hN
  go_enter Tryz.func32, Tryz.ntmps32
  go_wp2_with (first
    | (go_at_call 33; refine hF.mono ?_; rintro e w1 ⟨rfl, F1, K1⟩; clear hF; have hd := boxD K1; obtain ⟨d0, d1⟩ := hd; have HF1 : Hid (FirstAt w1 (w.heap.size + 1 + 1) ns) := F1; have hmb : w.heap.size + 1 + 1 < w1.heap.size := (by obtain ⟨_, t⟩ := F1; exact t.lt); clear F1; have HS1 := K1.size; rw [World.size_alloc] at HS1; have d1a : (w1.alloc (.cells (madeCells #[.int .i64 0] ns.length) 3)).cell? ⟨w.heap.size, 1, none⟩ = some (.slice a ns.length c) := keepC (Kept.alloc (fun _ => False) _ _) d1 (fun _ _ h => h);
        have d1b : ((w1.alloc (.cells (madeCells #[.int .i64 0] ns.length) 3)).alloc (.cells (madeCells #[.slice none 0 0] ns.length) 50)).cell? ⟨w.heap.size, 1, none⟩ = some (.slice a ns.length c) := keepC (Kept.alloc (fun _ => False) _ _) d1a (fun _ _ h => h);
        have HR : Hid (((w1.alloc (.cells (madeCells #[.int .i64 0] ns.length) 3)).alloc (.cells (madeCells #[.slice none 0 0] ns.length) 50)).rowIs w1.heap.size 3 ns.length (openF ns 0)) := ((World.rowIs_made w1 (.int .i64 0) ns.length 3).alloc _).congr (fun i hi => by unfold openF; rfl);
        have HB : Hid (BehAt ((w1.alloc (.cells (madeCells #[.int .i64 0] ns.length) 3)).alloc (.cells (madeCells #[.slice none 0 0] ns.length) 50)) (w1.heap.size + 2) (fun g => w1.heap.size + 2 ≤ g) (w1.heap.size + 1) ns.length (fun j => bhL ns j 0) (fun _ => .slice none 0 0)) := (by have hb := behNew (w1.alloc (.cells (madeCells #[.int .i64 0] ns.length) 3)) (w1.heap.size + 2) ns.length (fun g => w1.heap.size + 2 ≤ g) (fun g h => by rw [World.size_alloc]; omega); rw [World.size_alloc] at hb; exact hb);
        have K0 : Hid (Kept (fun _ => False) w w1) := (Kept.alloc (fun _ => False) _ _).and K1)
    | fail)
  go_loopw [24] (fun q wr => ∃ (i : Nat) (vs : Nat → Value), i ≤ ns.length ∧ q = .int .i64 i ∧ Kept (fun j => w1.heap.size ≤ j) ((w1.alloc (.cells (madeCells #[.int .i64 0] ns.length) 3)).alloc (.cells (madeCells #[.slice none 0 0] ns.length) 50)) wr ∧ wr.rowIs w1.heap.size 3 ns.length (openF ns i) ∧ BehAt wr (w1.heap.size + 2) (fun g => w1.heap.size + 2 ≤ g) (w1.heap.size + 1) ns.length (fun j => bhL ns j i) vs) (fun q _ => ns.length - (intOf q).toNat)
  case atStart => exact ⟨0, _, Nat.zero_le _, rfl, Kept.refl _ _, HR.out, HB.out⟩
  case round =>
    obtain ⟨wo, hwo⟩ : ∃ wo, wo = wr := ⟨_, rfl⟩
    subst hwo
    obtain ⟨i, vs, hi, rfl, K, R, H⟩ := hrel
    have Kw : Kept (fun _ => False) w wo := (((K0.out.and (Kept.alloc _ _ _)).and (Kept.alloc _ _ _)).trans K (fun g h => .inr (by omega)))
    have Kw1 : Kept (fun j => w1.heap.size ≤ j) w1 wo := ((Kept.alloc _ _ _).and (Kept.alloc _ _ _)).and K
    have hsz := Kw1.size
    have hsz2 : w1.heap.size + 2 ≤ wo.heap.size := by have := K.size; simp at this; omega
    by_cases hlt : i < ns.length
    · obtain ⟨b, o, av, cv, hae, hT, c0, c1, c2, c3, c4, c5, c6⟩ := HN.out.at hlt
      replace c0 := keepC Kw c0 (fun _ _ h => h)
      replace c1 := keepC Kw c1 (fun _ _ h => h)
      replace c2 := keepC Kw c2 (fun _ _ h => h)
      replace c3 := keepC Kw c3 (fun _ _ h => h)
      replace c4 := keepC Kw c4 (fun _ _ h => h)
      replace c5 := keepC Kw c5 (fun _ _ h => h)
      replace c6 := keepC Kw c6 (fun _ _ h => h)
      have hget := List.getElem?_eq_getElem hlt
      have hnx := openF_next hlt
      have hall := fun j => bhK_all j hget
      have hfew := HL.out _ (List.getElem_mem hlt)
      have e0 : (i : Int) < (ns.length : Int) := by omega
      have HX : Hid (∀ q, (if q = i then Value.int .i64 ((ns[i]).after.length : Int) else openF ns i q) = openF ns (i + 1) q) := hnx
      have HA : Hid (∀ j, bhK ns i (ns[i]).after.length j ns[i] = bhL ns j (i + 1)) := hall
      have HT0 : Hid (TextsAt w (.slice av (ns[i]).after.length cv) (ns[i]).after) := hT
      clear hT hnx hall hget d1 d1a d1b
      generalize ns[i] = x at *
      have r1 := (R.alloc (.cells #[.string x.name, .int .i64 x.kind, .string x.arg, .string x.to, .int .i64 x.delay, .int .i64 x.tries, .slice av x.after.length cv] 35)).cell hlt
      have r2 := (R.alloc (.cells #[.string x.name, .int .i64 x.kind, .string x.arg, .string x.to, .int .i64 x.delay, .int .i64 x.tries, .slice av x.after.length cv] 35)).frozen i
      have rS := ((R.alloc (.cells #[.string x.name, .int .i64 x.kind, .string x.arg, .string x.to, .int .i64 x.delay, .int .i64 x.tries, .slice av x.after.length cv] 35)).set i (.int .i64 (x.after.length : Int))).congr (fun q _ => HX.out q)
      have HRS : Hid (((wo.alloc (.cells #[.string x.name, .int .i64 x.kind, .string x.arg, .string x.to, .int .i64 x.delay, .int .i64 x.tries, .slice av x.after.length cv] 35)).setCell ⟨w1.heap.size, i, none⟩ (.int .i64 (x.after.length : Int))).rowIs w1.heap.size 3 ns.length (openF ns (i + 1))) := rS
      clear rS
      have KN : Hid (Kept (fun j => w1.heap.size ≤ j ∧ j ≠ wo.heap.size) wo ((wo.alloc (.cells #[.string x.name, .int .i64 x.kind, .string x.arg, .string x.to, .int .i64 x.delay, .int .i64 x.tries, .slice av x.after.length cv] 35)).setCell ⟨w1.heap.size, i, none⟩ (.int .i64 (x.after.length : Int)))) := (Kept.alloc _ _ _).and (Kept.setCell _ _ _ ⟨Nat.le_refl _, by show w1.heap.size ≠ _; omega⟩)
      have HH : Hid (BehAt ((wo.alloc (.cells #[.string x.name, .int .i64 x.kind, .string x.arg, .string x.to, .int .i64 x.delay, .int .i64 x.tries, .slice av x.after.length cv] 35)).setCell ⟨w1.heap.size, i, none⟩ (.int .i64 (x.after.length : Int))) (w1.heap.size + 2) (fun g => w1.heap.size + 2 ≤ g ∧ g ≠ wo.heap.size) (w1.heap.size + 1) ns.length (fun j => bhK ns i 0 j x) vs) :=
        (((H.widen (S' := fun g => w1.heap.size + 2 ≤ g ∧ g ≠ wo.heap.size) (fun j hj g hg => ⟨H.inS j hj g hg, by have := ownsRow_blk (H.own j hj) hg; omega⟩) (fun g h => by omega)).kept ((Kept.alloc (fun j => j = w1.heap.size) _ (.cells #[.string x.name, .int .i64 x.kind, .string x.arg, .string x.to, .int .i64 x.delay, .int .i64 x.tries, .slice av x.after.length cv] 35)).and (Kept.setCell _ ⟨w1.heap.size, i, none⟩ _ rfl)) (by omega) (fun g h => by omega))).is (fun j _ => (bhK_zero ns i j x).symm)
      have HB7 : Hid (∀ W, Kept (fun j => w1.heap.size ≤ j ∧ j ≠ wo.heap.size) ((wo.alloc (.cells #[.string x.name, .int .i64 x.kind, .string x.arg, .string x.to, .int .i64 x.delay, .int .i64 x.tries, .slice av x.after.length cv] 35)).setCell ⟨w1.heap.size, i, none⟩ (.int .i64 (x.after.length : Int))) W → W.cell? ⟨wo.heap.size, 0, none⟩ = some (.string x.name) ∧ W.cell? ⟨wo.heap.size, 1, none⟩ = some (.int .i64 x.kind) ∧ W.cell? ⟨wo.heap.size, 2, none⟩ = some (.string x.arg) ∧
          W.cell? ⟨wo.heap.size, 3, none⟩ = some (.string x.to) ∧ W.cell? ⟨wo.heap.size, 4, none⟩ = some (.int .i64 x.delay) ∧ W.cell? ⟨wo.heap.size, 5, none⟩ = some (.int .i64 x.tries) ∧ W.cell? ⟨wo.heap.size, 6, none⟩ = some (.slice av x.after.length cv)) := fun W KK => by
        have k2 : Kept (fun j => w1.heap.size ≤ j ∧ j ≠ wo.heap.size) (wo.alloc (.cells #[.string x.name, .int .i64 x.kind, .string x.arg, .string x.to, .int .i64 x.delay, .int .i64 x.tries, .slice av x.after.length cv] 35)) W := (Kept.setCell _ _ _ ⟨Nat.le_refl _, by show w1.heap.size ≠ _; omega⟩).and KK
        exact ⟨boxC k2 (fun h => h.2 rfl) 0 _ rfl, boxC k2 (fun h => h.2 rfl) 1 _ rfl, boxC k2 (fun h => h.2 rfl) 2 _ rfl, boxC k2 (fun h => h.2 rfl) 3 _ rfl, boxC k2 (fun h => h.2 rfl) 4 _ rfl, boxC k2 (fun h => h.2 rfl) 5 _ rfl, boxC k2 (fun h => h.2 rfl) 6 _ rfl⟩
      have hb7 := HB7.out _ (Kept.refl _ _)
      obtain ⟨_, _, _, _, _, _, n6⟩ := hb7
      subst hae
      clear H
      go_wp2
      go_loopw [38] (fun q wq => ∃ (k : Nat) (vs : Nat → Value), k ≤ x.after.length ∧ q = .int .i64 k ∧ Kept (fun j => w1.heap.size ≤ j ∧ j ≠ wo.heap.size) ((wo.alloc (.cells #[.string x.name, .int .i64 x.kind, .string x.arg, .string x.to, .int .i64 x.delay, .int .i64 x.tries, .slice av x.after.length cv] 35)).setCell ⟨w1.heap.size, i, none⟩ (.int .i64 (x.after.length : Int))) wq ∧ wq.rowIs w1.heap.size 3 ns.length (openF ns (i + 1)) ∧
          BehAt wq (w1.heap.size + 2) (fun g => w1.heap.size + 2 ≤ g ∧ g ≠ wo.heap.size) (w1.heap.size + 1) ns.length (fun j => bhK ns i k j x) vs) (fun q _ => x.after.length - (intOf q).toNat)
      case atStart => exact ⟨0, vs, Nat.zero_le _, rfl, Kept.refl _ _, HRS.out, HH.out⟩
      case round =>
        obtain ⟨k, vs, hk, rfl, KQ, RQ, HQ⟩ := hrel
        obtain ⟨n0, n1, n2, n3, n4, n5, n6⟩ := HB7.out _ KQ
        have KQo : Kept (fun j => w1.heap.size ≤ j ∧ j ≠ wo.heap.size) wo wr := KN.out.and KQ
        have KQ1 : Kept (fun j => w1.heap.size ≤ j) w1 wr := Kw1.and (KQo.mono (fun j h => h.1))
        have KQw : Kept (fun _ => False) w wr := K0.out.trans KQ1 (fun g h => .inr (by have := K0.out.size; omega))
        have hsz3 := KQo.size
        by_cases hlk : k < x.after.length
        · have htx := HT0.out.kept KQw (fun _ _ h => h)
          obtain ⟨a2, c2, hsl, hc2, hne⟩ := htx.at
          obtain ⟨rfl, rfl⟩ : av = a2 ∧ cv = c2 := by simpa using hsl
          obtain ⟨xb, xo, rfl, hcell⟩ := hne (fun e => by rw [e] at hlk; simp at hlk)
          have hck := hcell k hlk
          have hsm : (x.after[k]).size ≤ maxLen := by
            obtain ⟨_, _, _, _, _, _, h5⟩ := htx
            exact h5 _ (List.getElem_mem hlk)
          have e1 : (k : Int) < (x.after.length : Int) := by omega
          have hah := ahead_any wr (w.heap.size + 1 + 1) ns (HF1.out.kept KQ1 (by omega)) x.name x.kind x.arg x.to x.delay x.tries x.after (some ⟨xb, xo, none⟩) x.after.length cv (x.after[k]) hsm
          clear hsl hcell hne htx
          change Calls Tryz.prog _ _ _ (fun e w' => e = .returned (.tuple #[_, .bool (aheadP ns x (x.after[k])).isSome]) ∧ _) at hah
          cases hap : aheadP ns x (x.after[k]) with
          | none =>
            rw [hap] at hah
            simp only [Option.isSome_none] at hah
            have HMs : Hid (∀ q, bhK ns i k q x = bhK ns i (k + 1) q x) := fun q => bhK_miss hlk hap q
            have HQh : Hid (BehAt wr (w1.heap.size + 2) (fun g => w1.heap.size + 2 ≤ g ∧ g ≠ wo.heap.size) (w1.heap.size + 1) ns.length (fun j => bhK ns i k j x) vs) := HQ
            generalize (findP ns (x.after[k])).getD 0 = fj at *
            clear HQ hap
            generalize x.after[k] = s at *
            go_wp2_with (first
              | (go_at_call 51; refine hah.mono ?_; rintro e w5 ⟨rfl, K5⟩; clear hah)
              | fail)
            go_roundw
            case rel => exact ⟨k + 1, vs, by omega, by go_num, KQ.and (K5.mono (fun _ h => h.elim)), RQ.of_block (K5.block _ RQ.lt (fun h => h)), ((HQh.out.kept K5 (fun h => h) (fun _ _ h => h)).is (fun q _ => HMs.out q))⟩
            case measure => simp [intOf]; omega
          | some j =>
            rw [hap] at hah
            simp only [Option.isSome_some] at hah
            have hfj : findP ns (x.after[k]) = some j := by
              unfold aheadP at hap
              split at hap
              · cases hap
              · exact hap
            rw [hfj, Option.getD_some] at hah
            have hjl := aheadP_lt hap
            have HMs : Hid (∀ q, (if q = j then bhK ns i k j x ++ [i] else bhK ns i k q x) = bhK ns i (k + 1) q x) := fun q => bhK_hit hlk hap q
            have hlen := bhK_len HL.out i k j hfew
            have hlen2 : (bhK ns i k j x).length + 1 ≤ 1000001000001 := by omega
            obtain ⟨aj, cj, hvj⟩ := ownsRow_shape (HQ.own j hjl)
            have e2 : (j : Int) < (ns.length : Int) := by omega
            have HQh : Hid (BehAt wr (w1.heap.size + 2) (fun g => w1.heap.size + 2 ≤ g ∧ g ≠ wo.heap.size) (w1.heap.size + 1) ns.length (fun j => bhK ns i k j x) vs) := HQ
            clear HQ hap hfj hlen
            generalize x.after[k] = s at *
            generalize hLj : (bhK ns i k j x).length = lj at *
            have HC : Hid (∀ u ∈ [Value.int .i64 (i : Nat)], u.oneCell' = true) := natsV_one [i]
            go_wp2_with (first
              | (go_at_call 51; refine hah.mono ?_; rintro e w5 ⟨rfl, K5⟩; clear hah; have HB5 : Hid (BehAt w5 (w1.heap.size + 2) (fun g => w1.heap.size + 2 ≤ g ∧ g ≠ wo.heap.size) (w1.heap.size + 1) ns.length (fun j => bhK ns i k j x) vs) := HQh.out.kept K5 (fun h => h) (fun _ _ h => h); have b5 := HB5.out.row.cell hjl; rw [hvj] at b5;
                  have HO5 : Hid (w5.ownsRow (w1.heap.size + 2) 3 1 (.slice aj lj cj) lj (natsV (bhK ns i k j x))) := (by have h := HB5.out.own j hjl; rw [hvj] at h; simp only [hLj] at h; exact h); have hsz5 := K5.size;
                  have HB6 : Hid (BehAt (w5.alloc (.cells #[.int .i64 (i : Nat)] 3)) (w1.heap.size + 2) (fun g => w1.heap.size + 2 ≤ g ∧ g ≠ wo.heap.size) (w1.heap.size + 1) ns.length (fun j => bhK ns i k j x) vs) := HB5.out.kept (Kept.alloc (fun _ => False) _ _) (fun h => h) (fun _ _ h => h))
              | (at_builtin; refine wpList_append_src _ rfl _ _ 50 rfl (w1.heap.size + 2) 3 i0 _ 1 8 Tryz.underlying50 hi0 hz0 hz1 hz2 rfl (by decide) (.slice aj lj cj) lj _ rfl (HO5.out.alloc _) _ rfl 1 _ (.inl ⟨_, 1, rfl, rfl, World.news_of_block (heap_alloc_new _ _)⟩) HC.out (by unfold maxLen; omega) (by omega) (by simp; omega) ?_; intro a3 cap3 w6 ho3 hg3 _ hl3;
                  have KG : Kept (fun g => (vs j).ownBlock = some g) (w5.alloc (.cells #[.int .i64 (i : Nat)] 3)) w6 := Kept.grown hg3 (fun g e => by rw [hvj]; exact e);
                  have r6 := HB6.out.row.of_block (KG.block _ HB6.out.row.lt (fun e => HB6.out.noB _ (HB6.out.inS j hjl _ e) rfl)); have b6 := r6.cell hjl; have z6 := r6.frozen j; have HO6 : Hid (w6.ownsRow (w1.heap.size + 2) 3 1 (.slice a3 (lj + 1) cap3) (lj + 1) (natsV (bhK ns i k j x) ++ natsV [i])) := ho3; clear ho3 r6)
              | fail)
            have hP := HB6.out.push (x := i) hjl HO6.out (by rw [hvj]; exact hg3) (by rw [hvj]; exact hl3) ⟨by simp; omega, by simp; omega⟩
            obtain ⟨HP, KP⟩ := hP
            go_roundw
            case rel =>
              refine ⟨k + 1, _, by omega, by go_num, ((KQ.and (K5.mono (fun _ h => h.elim))).and (Kept.alloc _ _ _)).and (KP.mono (fun g h => ?_)), ?_, HP.is (fun q _ => HMs.out q)⟩
              · rcases h with h | h
                · exact ⟨by omega, h.2⟩
                · exact ⟨by omega, by omega⟩
              · refine RQ.of_block ?_
                rw [KP.block w1.heap.size (by simp; omega) (by intro h; rcases h with h | h <;> omega)]
                exact ((Kept.alloc (fun _ => False) w5 _).block _ (by omega) (fun h => h)).trans (K5.block _ (by omega) (fun h => h))
            case measure => simp [intOf]; omega
        · obtain rfl : k = x.after.length := by omega
          go_wp2
          go_roundw
          case rel => exact ⟨i + 1, vs, by omega, by go_num, (K.and (KQo.mono (fun j h => h.1))), RQ, (HQ.widen (fun j hj g hg => (HQ.inS j hj g hg).1) (fun g h => by omega)).is (fun q _ => HA.out q)⟩
          case measure => simp [intOf]; omega
    · obtain rfl : i = ns.length := by omega
      go_wp2
      go_ret2
      exact ⟨w1.heap.size, vs, rfl, K0.out.size, R, H, Kw⟩

end Go.Proofs.YtlholgpenpfpbaaGreatDoor
