/-
  The program's net: Send, Double.
-/
import Derived.Test.YthpamcfemhimcaaNetOps
namespace Go.Proofs.Ythpamcfemhimcaa
open Go.RowKit

/-- append(v, x...) onto a row that is owned, as a step of a region that draws. -/
theorem step_append_sr {P : Program} {ops : Array Oper} {o : Oper} {a : Act} (w : World) {K : Act → World → Prop} {Q : Exit → Act → World → Prop} {E : Prop}
    (hg : o.guard = none) (s x : Operand) (t : TypeId) (hop : o.op = Op.call { callee := Callee.builtin Builtin.append, args := #[s, x], argTypes := #[t, t] })
    (base : Nat) (e : TypeId) (i : TypeInfo) (z : Value) (size bytes : Nat) (ht : P.underlying t = some (.slice e)) (hi : P.info? e = some i) (hz : i.zero = some z)
    (hsize : i.size = size) (hby : i.bytes = bytes) (hzs : z.cells.size = size) (hsz : 0 < size)
    (v : Value) (n : Nat) (xs : List Value) (hs : a.eval s = v) (hown : w.ownsRow base e size v n xs) (xv : Value) (hx : a.eval x = xv) (m : Nat) (news : List Value) (hsrc : Src w size xv m news) (h1 : ∀ u ∈ news, u.oneCell' = true)
    (h63 : n + m ≤ maxLen) (hbytes : (n + m) * bytes ≤ 140737488355328) (hbase : base ≤ w.heap.size)
    (hK : ∀ a' cap w', w'.ownsRow base e size (.slice a' (n + m) cap) (n + m) (xs ++ news) → w.grownBy w' v.ownBlock → (Value.slice a' (n + m) cap = .slice none 0 0 ↔ v = .slice none 0 0 ∧ m = 0) → ((Value.slice a' (n + m) cap).ownBlock = v.ownBlock ∨ (Value.slice a' (n + m) cap).ownBlock = some w.heap.size) → K (a.put o.dst (.slice a' (n + m) cap)) w') :
    if Region.wanted o (yielded ops a.tmps) = true then Oper.wp P o a w K Q else E := by
  have hw : Region.wanted o (yielded ops a.tmps) = true := by simp [Region.wanted, hg]
  rw [if_pos hw]
  obtain ⟨v', w', hrun, h2, h3, h4, h5⟩ := run_append_src (P := P) w base t o.type e i z size bytes ht hi hz hsize hby hzs hsz v n xs hown xv m news hsrc h1 h63 hbytes hbase
  obtain ⟨a', cap, rfl⟩ := ownsRow_shape h2
  unfold Oper.wp
  simp [execOp, hop, resolve, invoke, builtin, hs, hx, hrun, Result.andThen]
  exact hK a' cap w' h2 h3 h4 h5

/-- A call of a Go function as a step of a region that draws. -/
theorem step_call1 {P : Program} {ops : Array Oper} {o : Oper} {a : Act} (w : World) {K : Act → World → Prop} {Q : Exit → Act → World → Prop} {E : Prop}
    (hg : o.guard = none) (f : Nat) (x : Operand) (t : TypeId) (hop : o.op = Op.call { callee := .value (.func f), args := #[x], argTypes := #[t] })
    (he : ∀ args w, (callFunc f args).run P w = .ok (.enter f args) w) (v : Value) (hx : a.eval x = v) {R : Ending → World → Prop} (hC : Calls P f #[v] w R)
    (hK : ∀ e w', R e w' → ∃ u, e = .returned u ∧ K (a.put o.dst u) w') :
    if Region.wanted o (yielded ops a.tmps) = true then Oper.wp P o a w K Q else E := by
  have hw : Region.wanted o (yielded ops a.tmps) = true := by simp [Region.wanted, hg]
  rw [if_pos hw]
  unfold Oper.wp
  have hf : a.eval (.func f) = .func (.func f) #[] #[] := rfl
  simp [execOp, hop, resolve, invoke, hf, hx, he, Deferred.ofValue]
  refine hC.mono ?_
  rintro e w' h
  obtain ⟨u, rfl, k⟩ := hK e w' h
  exact k

section
variable {w : World} {S : Nat → Prop} {d : Nat} {v : Value} {ps : List PV} {most : Int}

/-- What Send makes of a row. -/
def sendX (most : Int) (l : List PX) (x : PX) : List PX := if most ≤ (l.length : Int) then l else l ++ [x]

theorem netCells_oneP {fr to : Int} {a : Option Addr} {m c : Nat} : ∀ u ∈ [Value.int .i64 fr, Value.int .i64 to, Value.slice a m c], u.oneCell' = true := by
  intro u hu
  simp only [List.mem_cons, List.not_mem_nil, or_false] at hu
  rcases hu with rfl | rfl | rfl <;> rfl

set_option maxRecDepth 100000 in
set_option maxHeartbeats 1000000 in
theorem netSend_any (N : NetW most w S d v ps) (hl : ps.length < 1000) (fr to : Int) (a : Option Addr) (m c : Nat) (b : List Int) (B : BytesAt w a m c b) (hm : m ≤ 200) :
    Calls Try.prog 10 #[.pointer (some ⟨d, 0, none⟩), .agg #[.int .i64 fr, .int .i64 to, .slice a m c]] w fun e w' =>
      e = .returned (.bool (!decide (most ≤ (ps.length : Int)))) ∧ NetTo 53 (hdW most) w S d (sendX most (ps.map PV.pure) (fr, to, b)) w' := by
  obtain ⟨i0, hi, hz0, hz1, hz2⟩ := info_parts Try.info29w
  have K0 : Kept (fun _ => False) w (w.alloc (.cells #[.int .i64 fr, .int .i64 to, .slice a m c] 29)) := Kept.alloc _ _ _
  have N0 := N.keptN K0
  have hF := netFull_any N0
  by_cases hfull : most ≤ (ps.length : Int)
  · have e1 : sendX most (ps.map PV.pure) (fr, to, b) = ps.map PV.pure := by simp [sendX, hfull]
    rw [e1]
    have e2 : decide (most ≤ (ps.length : Int)) = true := by simpa using hfull
    rw [e2] at hF ⊢
    clear e1 e2 hfull
    go_enter Try.func10, Try.ntmps10
    go_wp2_with (first
      | (go_at_call 26; refine hF.mono ?_; rintro e w1 ⟨rfl, n1, rfl⟩; clear hF)
      | fail)
    go_ret
    exact ⟨rfl, S, v, ps, N0.keptN (Kept.drewN _ _ _), rfl, (K0.and (Kept.drewN _ _ _)).mono (fun _ h => h.elim), fun _ => .inl⟩
  · have e1 : sendX most (ps.map PV.pure) (fr, to, b) = ps.map PV.pure ++ [(fr, to, b)] := by simp [sendX, hfull]
    rw [e1]
    have e2 : decide (most ≤ (ps.length : Int)) = false := by simpa using hfull
    rw [e2] at hF ⊢
    clear e1 e2 hfull
    go_enter Try.func10, Try.ntmps10
    go_wp2_with (first
      | (go_at_call 26; refine hF.mono ?_; rintro e w1 ⟨rfl, n1, rfl⟩; clear hF)
      | fail)
    obtain ⟨aV, cV, rfl, hcV⟩ := N.shape
    have KD : Kept (fun _ => False) (w.alloc (.cells #[.int .i64 fr, .int .i64 to, .slice a m c] 29)) ((w.alloc (.cells #[.int .i64 fr, .int .i64 to, .slice a m c] 29)).drewN n1) := Kept.drewN _ _ _
    have hq := (KD.block _ (by simp) (fun h => h)).trans (heap_alloc_new w (.cells #[.int .i64 fr, .int .i64 to, .slice a m c] 29))
    have N1 := N0.keptN KD
    have K1 := K0.and KD
    have hsz : ((w.alloc (.cells #[.int .i64 fr, .int .i64 to, .slice a m c] 29)).drewN n1).heap.size = w.heap.size + 1 := by simp
    generalize hW : (w.alloc (.cells #[.int .i64 fr, .int .i64 to, .slice a m c] 29)).drewN n1 = W at *
    clear hW KD K0 N0
    have KW : Kept (fun _ => False) W W.drew := Kept.drew _ W
    obtain ⟨y0, y1, y2, _⟩ := three hq
    obtain ⟨x0, _, f0, _⟩ := N1.w0
    have N2 := N1.keptN KW
    have hC := copiedW_any _ fr to a m c b (B.kept (K1.and KW) (fun _ _ _ h => h)) (by omega)
    have hdz := N.bnd d N.sd
    have fin := fun (w2 w3 : World) (a2 : Option Addr) (c2 : Nat) (K2 : Kept (fun _ => False) W.drew w2) (ho2 : w2.ownsRow W.drew.heap.size 5 1 (.slice a2 m c2) m (b.map (Value.int .u8)))
        (v3 : Value) (ho3 : w3.ownsRow 0 29 3 v3 (ps.length + 1) (netCells ps ++ [.int .i64 fr, .int .i64 to, .slice a2 m c2])) (hg3 : (w2.alloc (.cells #[.int .i64 fr, .int .i64 to, .slice a2 m c2] 29)).grownBy w3 (Value.slice aV ps.length cV).ownBlock)
        (hl3 : v3.ownBlock = (Value.slice aV ps.length cV).ownBlock ∨ v3.ownBlock = some (w2.alloc (.cells #[.int .i64 fr, .int .i64 to, .slice a2 m c2] 29)).heap.size) => show NetTo 53 (hdW most) w S d (ps.map PV.pure ++ [(fr, to, b)]) (w3.setCell ⟨d, 0, none⟩ v3) by
      have hbl : b.length = m := B.len
      have Kw2 : Kept (fun _ => False) w w2 := (K1.and KW).and K2
      have Ka : Kept (fun _ => False) w (w2.alloc (.cells #[.int .i64 fr, .int .i64 to, .slice a2 m c2] 29)) := Kw2.and (Kept.alloc _ _ _)
      have Kw3 : Kept (fun k => (Value.slice aV ps.length cV).ownBlock = some k) w w3 := (Ka.mono (fun _ h => h.elim)).and (Kept.grown hg3 (fun k e => e))
      have hdl := N.bnd d N.sd
      have nd : ¬ (Value.slice aV ps.length cV).ownBlock = some d := fun e => N.neR (by decide) e rfl
      have hd3 := (Kw3.block d hdl nd).trans N.head
      have hz2 := Kw2.size
      refine N.push (q := ⟨fr, to, .slice a2 m c2, b⟩) (by decide) (by decide) Kw3 ho3 (hl3.imp id (fun h => ⟨_, h, Nat.le_trans hz2 (by simp)⟩)) ⟨?_, B.byte, by rw [hbl]; exact hm⟩ (fun k hk => .inr ?_) (Kept.setCell _ _ _ rfl) ?_ hl
      · rw [hbl]
        have h1 : w2.ownsRow 0 5 1 (.slice a2 m c2) m (b.map (Value.int .u8)) := ⟨ho2.1, ho2.2.imp id (fun ⟨g, cap, cur, e, hg, r⟩ => ⟨g, cap, cur, e, Nat.zero_le _, r⟩)⟩
        refine ownsRow_blk h1 (fun k hk => ?_)
        have hk2 := ho2.lt k hk
        refine (hg3.block k (by simp; omega) (fun e => ?_)).trans (Below.heap_alloc _ _ _ hk2.2)
        obtain ⟨cur, hh⟩ := ownsRow_typ N.row e.symm
        have := (N.row.lt k e.symm).2
        have hz := hk2.1
        simp only [World.size_drew] at hz
        omega
      · have := (ho2.lt k hk).1
        simp only [World.size_drew] at this
        omega
      · simp [World.setCell, Array.getElem?_modify, hd3]
    have HF : Hid _ := fin
    have hk2 := fun (w2 : World) (a2 : Option Addr) (c2 : Nat) (K2 : Kept (fun _ => False) W.drew w2) => show w2.cell? ⟨d, 0, none⟩ = some (.slice aV ps.length cV) ∧ (w2.alloc (.cells #[.int .i64 fr, .int .i64 to, .slice a2 m c2] 29)).cell? ⟨d, 0, none⟩ = some (.slice aV ps.length cV) ∧ (w2.alloc (.cells #[.int .i64 fr, .int .i64 to, .slice a2 m c2] 29)).ownsRow 0 29 3 (.slice aV ps.length cV) ps.length (netCells ps) by
      have N3 := N2.keptN K2
      exact ⟨N3.w0.1, (N3.keptN (Kept.alloc _ _ _)).w0.1, (N3.keptN (Kept.alloc _ _ _)).row⟩
    have HK2 : Hid _ := hk2
    have hk3 := fun (w2 w3 : World) (a2 : Option Addr) (c2 : Nat) (K2 : Kept (fun _ => False) W.drew w2) (hg3 : (w2.alloc (.cells #[.int .i64 fr, .int .i64 to, .slice a2 m c2] 29)).grownBy w3 (Value.slice aV ps.length cV).ownBlock) => show w3.cell? ⟨d, 0, none⟩ = some (.slice aV ps.length cV) ∧ w3.frozen? ⟨d, 0, none⟩ = false by
      have N3 := (N2.keptN K2).keptN (Kept.alloc (fun _ => False) w2 (.cells #[.int .i64 fr, .int .i64 to, .slice a2 m c2] 29))
      have hb := hg3.block d (N3.bnd d N3.sd) (fun e => N3.neR (by decide) e.symm rfl)
      exact ⟨(World.cell?_of_block hb).trans N3.w0.1, (World.frozen?_of_block hb).trans N3.w0.2.2.1⟩
    have HK3 : Hid _ := hk3
    clear fin hk2 hk3 N N1 N2 B hq
    go_region_law
      (first
        | (refine step_append_sr _ (by rfl) _ _ _ (by rfl) 0 29 i0 _ 3 40 Try.underlying39 hi hz0 hz1 hz2 rfl (by decide) (.slice aV ps.length cV) ps.length _ (by rfl) z2 _ (by rfl) 1 _ (srcNew3 w2 _ _ _ _) netCells_oneP (by unfold maxLen; omega) (by omega) (Nat.zero_le _) ?_; intro a3 cap3 w3 ho3 hg3 _ hl3; obtain ⟨u0, u1⟩ := HK3.out w2 w3 a2 c2 K2 hg3)
        | (refine step_call1 _ rfl 27 _ _ rfl (enters_of Try.func27 (by kernel_rfl) rfl) _ (by rfl) hC ?_; rintro e w2 ⟨a2, c2, rfl, ho2, K2⟩; refine ⟨_, rfl, ?_⟩; obtain ⟨z0, z1, z2⟩ := HK2.out w2 a2 c2 K2))
    all_goals go_wp2
    all_goals go_ret
    all_goals exact ⟨rfl, HF.out w2 w3 a2 c2 K2 ho2 _ ho3 hg3 hl3⟩

end

end Go.Proofs.Ythpamcfemhimcaa
