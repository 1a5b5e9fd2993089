/-
  The walk of CodecSplit.
-/
import Derived.Test.YtceocmhgbcimoabLawSplitE
import Derived.Test.YtceocmhgbcimoabLawSplitC
import Derived.Test.YtceocmhgbcimoabLawSplitL
namespace Go.Proofs.Ytceocmhgbcimoab
open Go.RowKit Go.Shelf
attribute [local go_sem] Oper.semAt_some

theorem wpListIn_append_src {F : Fence} {n' : Nat} {P : Program} (w : World) {ops : Array Oper} {rest : List Oper} {o : Oper} {a : Act} {Q : Exit → Act → World → Prop} (hgd : o.guard = none) (s x : Operand) (t : TypeId)
    (ho : o.op = .call { callee := .builtin .append, args := #[s, x], argTypes := #[t, t] })
    (base : Nat) (e : TypeId) (i : TypeInfo) (z : Value) (size bytes : Nat) (ht : P.underlying t = some (.slice e)) (hi : P.info? e = some i) (hz : i.zero = some z)
    (hsize : i.size = size) (hby : i.bytes = bytes) (hzs : z.cells.size = size) (hsz : 0 < size)
    (v : Value) (n : Nat) (xs : List Value) (hs : a.eval s = v) (hown : w.ownsRow base e size v n xs) (xv : Value) (hx : a.eval x = xv) (m : Nat) (news : List Value) (hsrc : Src w size xv m news) (h1 : ∀ u ∈ news, u.oneCell' = true)
    (h63 : n + m ≤ maxLen) (hbytes : (n + m) * bytes ≤ 140737488355328) (hbase : base ≤ w.heap.size)
    (h : ∀ a' cap w', w'.ownsRow base e size (.slice a' (n + m) cap) (n + m) (xs ++ news) → w.grownBy w' v.ownBlock → ((Value.slice a' (n + m) cap).ownBlock = v.ownBlock ∨ (Value.slice a' (n + m) cap).ownBlock = some w.heap.size) → wpListIn F n' P ops Q rest (a.put o.dst (.slice a' (n + m) cap)) w') :
    wpListIn F n' P ops Q (o :: rest) a w := by
  refine wpListIn_plain hgd fun K hK => ?_
  obtain ⟨v', w', hrun, h2, h3, _, h5⟩ := run_append_src (P := P) w base t o.type e i z size bytes ht hi hz hsize hby hzs hsz v n xs hown xv m news hsrc h1 h63 hbytes hbase
  obtain ⟨a', cap, rfl⟩ := ownsRow_shape h2
  unfold Oper.wpIn
  refine ⟨?_, ?_⟩
  · simp [Oper.about, ho, resolve, Target.leads, Sem.run_pure]
  · rw [Oper.semAt_plain F _ _ (by rw [ho]; intro c hc'; cases hc')]
    simp [execOp, ho, resolve, invoke, builtin, hs, hx, hrun, Result.andThen]
    exact hK _ _ (h a' cap w' h2 h3 h5)

theorem intInfo : (Try.prog.info? 3).map (fun i => (i.zero, i.size, i.bytes)) = some (some (.int .i64 0), 1, 8) := by kernel_rfl

theorem func_nil (f : FuncId) (lb : Array Value) (w : World) : (binOp .eql 33 (.func (.func f) #[] lb) .nilFunc).run Try.prog w = .ok (.bool false) w := by
  have h : ∀ d : Nat, (Op.equalIn (d + 1) 33 (.func (.func f) #[] lb) .nilFunc).run Try.prog w = .ok false w := fun d => by
    simp [Op.equalIn, run_underlying Try.underlying33]
  simp only [binOp]
  simp [Op.equal, Op.maxDepth, h 9999]

theorem LAt.kept {w w' : World} {a : Option Addr} {n c : Nat} {xs : List PX} (O : LAt w a n c xs) (K : Kept (fun _ => False) w w') : LAt w' a n c xs := by
  refine ⟨O.len, O.cap, fun ad e hn => ?_, fun x hx => (O.bytes x hx).kept K (fun _ _ _ h => h), O.nil⟩
  obtain ⟨h1, h2⟩ := O.cells ad e hn
  exact ⟨h1, fun i x hx => (cell_keep K (h2 i x hx) (fun h => h)).1⟩

def paylF (xs : List PX) : List (List Int) := (xs.map (fun x => x.2.2.2.take 100)).take 8

theorem paylF_bs {w : World} {a : Option Addr} {n c : Nat} {xs : List PX} (O : LAt w a n c xs) : ∀ p ∈ paylF xs, Bs p ∧ p.length ≤ 100 := by
  intro p hp
  obtain ⟨x, hx, rfl⟩ := List.mem_map.1 (List.mem_of_mem_take hp)
  exact ⟨Bs.take (O.bytes x hx).byte 100, List.length_take_le _ _⟩

theorem startF_le {ps : List (List Int)} (h : ∀ p ∈ ps, Bs p ∧ p.length ≤ 100) : ∀ k, startF ps k ≤ 108 * k := by
  intro k
  induction k with
  | zero => simp [startF, flatF]
  | succ k ih =>
    cases hp : ps[k]? with
    | none =>
      have : startF ps (k + 1) = startF ps k := by unfold startF; rw [List.take_add_one, hp]; simp
      omega
    | some p =>
      have := startF_succ ps k p hp
      have := (h p (List.mem_of_getElem? hp)).2
      omega

theorem paylF_get {xs : List PX} {k : Nat} {x : PX} (h : xs[k]? = some x) (hk : k < 8) : (paylF xs)[k]? = some (x.2.2.2.take 100) := by
  unfold paylF
  rw [List.getElem?_take, if_pos hk, List.getElem?_map, h]
  rfl

theorem flatF_next (ps : List (List Int)) (k : Nat) (p : List Int) (h : ps[k]? = some p) : flatF (ps.take (k + 1)) = flatF (ps.take k) ++ frameB p := by
  unfold flatF
  rw [List.take_add_one, h, List.flatMap_append]
  simp

def endsV (ps : List (List Int)) (k : Nat) : List Value := (List.range k).map (fun q => .int .i64 (startF ps (q + 1) : Int))

theorem endsV_next (ps : List (List Int)) (k : Nat) : endsV ps (k + 1) = endsV ps k ++ [.int .i64 (startF ps (k + 1) : Int)] := by
  unfold endsV
  rw [List.range_succ, List.map_append]
  rfl

/-- On the way of laying the frames behind each other. -/
structure SpSt (w wr : World) (ps : List (List Int)) (k : Nat) (a5 : Option Addr) (c5 : Nat) (a6 : Option Addr) (c6 : Nat) : Prop where
  res : wr.heap[w.heap.size]? = some (.cells #[.bool false] 4 (0, 0))
  box : wr.heap[w.heap.size + 1]? = some (.cells #[.slice a6 k c6] 29 (0, 0))
  all : wr.ownsRow (w.heap.size + 2) 5 1 (.slice a5 (startF ps k) c5) (startF ps k) ((flatF (ps.take k)).map (Value.int .u8))
  ends : wr.ownsRow (w.heap.size + 2) 3 1 (.slice a6 k c6) k (endsV ps k)
  apart : ∀ b, (Value.slice a5 (startF ps k) c5).ownBlock = some b → (Value.slice a6 k c6).ownBlock ≠ some b
  kept : Kept (fun _ => False) w wr

theorem SpSt.new (w : World) (ps : List (List Int)) : SpSt w ((w.alloc (.cells #[.bool false] 4)).alloc (.cells #[.slice none 0 0] 29)) ps 0 none 0 none 0 := by
  have e0 : startF ps 0 = 0 := by simp [startF, flatF]
  refine ⟨?_, ?_, ?_, World.ownsRow_nil _ _ _ _, fun b h => (by cases h), (Kept.alloc _ _ _).and (Kept.alloc _ _ _)⟩
  · rw [Below.heap_alloc _ _ _ (by simp), heap_alloc_new]
  · have := heap_alloc_new (w.alloc (.cells #[.bool false] 4)) (.cells #[.slice none 0 0] 29)
    rw [World.size_alloc] at this
    exact this
  · rw [e0]
    exact World.ownsRow_nil _ _ _ _

theorem SpSt.mid {w wr w1 w2 : World} {ps : List (List Int)} {k : Nat} {a5 : Option Addr} {c5 : Nat} {a6 : Option Addr} {c6 : Nat} (S : SpSt w wr ps k a5 c5 a6 c6) (K1 : Kept (fun _ => False) wr w1) (hg : w1.grownBy w2 (Value.slice a5 (startF ps k) c5).ownBlock) :
    w2.heap[w.heap.size]? = some (.cells #[.bool false] 4 (0, 0)) ∧ w2.heap[w.heap.size + 1]? = some (.cells #[.slice a6 k c6] 29 (0, 0)) ∧ w2.ownsRow (w.heap.size + 2) 3 1 (.slice a6 k c6) k (endsV ps k) ∧ Kept (fun _ => False) w w2 := by
  have K2 : Kept (fun b => (Value.slice a5 (startF ps k) c5).ownBlock = some b) w1 w2 := Kept.grown hg (fun k e => e)
  have K : Kept (fun b => (Value.slice a5 (startF ps k) c5).ownBlock = some b) wr w2 := (K1.mono (fun _ h => h.elim)).and K2
  have h0 := (Array.getElem?_eq_some_iff.1 S.box).1
  have low : ∀ b, b < w.heap.size + 2 → ¬ (Value.slice a5 (startF ps k) c5).ownBlock = some b := fun b hb e => by have := (S.all.lt b e).1; omega
  refine ⟨(K.block _ (by omega) (low _ (by omega))).trans S.res, (K.block _ h0 (low _ (by omega))).trans S.box, ownsRow_block' S.ends (fun b hb => K.block b (S.ends.lt b hb).2 (fun h => S.apart b h hb)), S.kept.trans K (fun b h => .inr (by have := (S.all.lt b h).1; omega))⟩

theorem SpSt.next {w wr w1 w2 w4 : World} {ps : List (List Int)} {k : Nat} {a5 : Option Addr} {c5 : Nat} {a6 : Option Addr} {c6 : Nat} {b5 : Option Addr} {d5 : Nat} {b6 : Option Addr} {d6 : Nat} (S : SpSt w wr ps k a5 c5 a6 c6) (K1 : Kept (fun _ => False) wr w1) (hg : w1.grownBy w2 (Value.slice a5 (startF ps k) c5).ownBlock)
    (row2 : w2.ownsRow (w.heap.size + 2) 5 1 (.slice b5 (startF ps (k + 1)) d5) (startF ps (k + 1)) ((flatF (ps.take (k + 1))).map (Value.int .u8))) (hl2 : (Value.slice b5 (startF ps (k + 1)) d5).ownBlock = (Value.slice a5 (startF ps k) c5).ownBlock ∨ (Value.slice b5 (startF ps (k + 1)) d5).ownBlock = some w1.heap.size)
    (o : Obj) (hg4 : (w2.alloc o).grownBy w4 (Value.slice a6 k c6).ownBlock) (row4 : w4.ownsRow (w.heap.size + 2) 3 1 (.slice b6 (k + 1) d6) (k + 1) (endsV ps (k + 1))) (hl4 : (Value.slice b6 (k + 1) d6).ownBlock = (Value.slice a6 k c6).ownBlock ∨ (Value.slice b6 (k + 1) d6).ownBlock = some (w2.alloc o).heap.size) :
    SpSt w (w4.setCell ⟨w.heap.size + 1, 0, none⟩ (.slice b6 (k + 1) d6)) ps (k + 1) b5 d5 b6 d6 := by
  obtain ⟨r2, x2, e2, k2⟩ := S.mid K1 hg
  have K4 : Kept (fun b => (Value.slice a6 k c6).ownBlock = some b) w2 w4 := (Kept.alloc _ w2 o).and (Kept.grown hg4 (fun k e => e))
  have hx2 := (Array.getElem?_eq_some_iff.1 x2).1
  have hsz1 := K1.size
  have hsz2 : w1.heap.size ≤ w2.heap.size := hg.size
  have hap : ∀ b, (Value.slice b5 (startF ps (k + 1)) d5).ownBlock = some b → (Value.slice a6 k c6).ownBlock ≠ some b := fun b h1 h2 => by
    rcases hl2 with h | h
    · exact S.apart b (h ▸ h1) h2
    · rw [h1] at h
      have := (S.ends.lt b h2).2
      have := Option.some.inj h
      omega
  have low : ∀ b, b < w.heap.size + 2 → ¬ (Value.slice a6 k c6).ownBlock = some b := fun b hb e => by have := (S.ends.lt b e).1; omega
  have x4 : w4.heap[w.heap.size + 1]? = some (.cells #[.slice a6 k c6] 29 (0, 0)) := (K4.block _ hx2 (low _ (by omega))).trans x2
  have all4 : w4.ownsRow (w.heap.size + 2) 5 1 (.slice b5 (startF ps (k + 1)) d5) (startF ps (k + 1)) ((flatF (ps.take (k + 1))).map (Value.int .u8)) := ownsRow_block' row2 (fun b hb => K4.block b (row2.lt b hb).2 (fun h => hap b hb h))
  refine ⟨?_, ?_, ?_, ?_, ?_, ?_⟩
  · rw [Below.heap_setCell _ _ _ _ (by show ¬ w.heap.size = w.heap.size + 1; omega)]
    exact (K4.block _ (by omega) (low _ (by omega))).trans r2
  · simp [World.setCell, Array.getElem?_modify, x4]
  · exact ownsRow_block' all4 (fun b hb => Below.heap_setCell _ _ _ _ (fun e => by have := (all4.lt b hb).1; have e' : b = w.heap.size + 1 := e; omega))
  · exact ownsRow_block' row4 (fun b hb => Below.heap_setCell _ _ _ _ (fun e => by have := (row4.lt b hb).1; have e' : b = w.heap.size + 1 := e; omega))
  · intro b h1 h2
    rcases hl4 with h | h
    · exact hap b h1 (h ▸ h2)
    · rw [h2] at h
      have := (row2.lt b h1).2
      have := Option.some.inj h
      simp at this
      omega
  · exact (k2.trans K4 (fun b h => .inr (by have := (S.ends.lt b h).1; omega))).trans (Kept.setCell (S := fun b => b = w.heap.size + 1) _ _ _ rfl) (fun b h => .inr (by omega))

theorem blkF {S : Nat → Prop} {b : Nat} {o : Obj} {wr w2 W : World} (h1 : w2.heap[b]? = wr.heap[b]?) (h2 : wr.heap[b]? = some o) (K : Kept S w2 W) (hn : ¬ S b) (hlt : b < w2.heap.size) : W.heap[b]? = some o := (K.block b hlt hn).trans (h1.trans h2)

/-- Between two rounds: only the count has changed since the loop began. -/
structure RgSt (w2 W : World) (B10 p0 : Nat) : Prop where
  kept : Kept (fun b => b = B10) w2 W
  nb : W.heap[B10]? = some (.cells #[.int .i64 (p0 : Int)] 3 (0, 0))

def goodF (ps : List (List Int)) (t : Nat) (pre : List XF) : Prop := pre.map (·.1) = (List.range pre.length).map (startF ps) ∧ pre.length ≤ t

theorem RgSt.own {w2 : World} {B10 t : Nat} {ps : List (List Int)} (hB : B10 < w2.heap.size) : OwnFrom w2.heap.size (fun (pre : List XF) W => RgSt w2 W B10 pre.length ∧ goodF ps t pre) := by
  intro pre W W' row h hg hr
  obtain ⟨R, hgd⟩ := h
  have hs := R.kept.size
  have blk : ∀ b, b < w2.heap.size → W'.heap[b]? = W.heap[b]? := fun b hb => hg.block b (by omega) (fun e => by have := (hr b e.symm).1; omega)
  refine ⟨⟨⟨?_, ?_, ?_, ?_, ?_⟩, (blk B10 hB).trans R.nb⟩, hgd⟩
  · exact hg.os.trans R.kept.os
  · exact hg.tape.trans R.kept.tape
  · exact hg.output.trans R.kept.output
  · exact Nat.le_trans hs hg.size
  · exact fun b hb hn => (blk b hb).trans (R.kept.block b hb hn)

theorem startF_ge (ps : List (List Int)) (k : Nat) (h : k ≤ ps.length) : 8 * k ≤ startF ps k := by
  induction k with
  | zero => exact Nat.zero_le _
  | succ k ih =>
    have hp : ps[k]? = some ps[k] := List.getElem?_eq_getElem (by omega)
    have := startF_succ ps k _ hp
    have := ih (by omega)
    omega

theorem startF_mono (ps : List (List Int)) {i j : Nat} (hij : i ≤ j) : startF ps i ≤ startF ps j := by
  unfold startF flatF
  have : ps.take i = (ps.take j).take i := by rw [List.take_take, Nat.min_eq_left hij]
  rw [this]
  conv => rhs; rw [← List.take_append_drop i (ps.take j), List.flatMap_append, List.length_append]
  omega

theorem keeps_go (B : Nat) (W : World) (a : Addr) (z : Value) : KeepsFrom B W (W.setCell a z) := (KeepsOthers.setCell W a z).from B

theorem keeps_goN (B : Nat) (W : World) (m : Nat) (a : Addr) (z : Value) : KeepsFrom B W ((W.drewN m).setCell a z) :=
  ⟨by have := (KeepsOthers.setCell (W.drewN m) a z).size; exact this, fun k o _ hk ho => (KeepsOthers.setCell (W.drewN m) a z).same k o hk ho⟩

theorem RgSt.go {w2 W : World} {B10 p0 : Nat} (R : RgSt w2 W B10 p0) (m : Nat) (z : Int) (hz : z = ((p0 + 1 : Nat) : Int)) : RgSt w2 ((W.drewN m).setCell ⟨B10, 0, none⟩ (.int .i64 z)) B10 (p0 + 1) := by
  subst hz
  have R2 : RgSt w2 (W.drewN m) B10 p0 := ⟨R.kept.and (Kept.drewN _ W m), R.nb⟩
  generalize W.drewN m = W2 at *
  exact ⟨R2.kept.and (Kept.setCell (S := fun b => b = B10) _ _ _ rfl), by simp [World.setCell, Array.getElem?_modify, R2.nb]⟩

theorem goodF_end {ps : List (List Int)} {raw : List Int} {t : Nat} {pre : List XF} {r : List Nat} (HT : Tells raw 0 ((List.range t).map (startF ps))) (h : Tells raw 0 (pre.map (·.1) ++ r)) : goodF ps t pre := by
  have e := tells_one h HT
  have hl : pre.length + r.length = t := by have := congrArg List.length e; simpa using this
  refine ⟨?_, by omega⟩
  have e2 := congrArg (List.take pre.length) e
  rw [List.take_left' (by simp)] at e2
  rw [e2, ← List.map_take, List.take_range, Nat.min_eq_left (by omega)]

theorem goodF_next {ps : List (List Int)} {t : Nat} {pre : List XF} {x : XF} (h : goodF ps t pre) : goodF ps t (pre ++ [x]) ↔ (x.1 = startF ps pre.length ∧ pre.length < t) := by
  unfold goodF
  rw [List.length_append, List.map_append, h.1]
  simp only [List.length_cons, List.length_nil, Nat.zero_add, List.range_succ, List.map_append, List.map_cons, List.map_nil, List.append_cancel_left_eq, List.cons.injEq, and_true]
  omega

set_option maxRecDepth 100000 in
set_option maxHeartbeats 8000000 in
theorem split_in (a : Option Addr) (n c : Nat) (xs : List PX) (cut : Int) (w : World) (O : LAt w a n c xs) :
    CallsIn Fence.wide 3 Try.prog 4 #[.slice a n c, .int .i64 cut] w fun e w' => e = .returned (.bool true) ∧ Below w.heap.size w w' := by
  obtain ⟨i0, hi0, hz0, hz1, hz2⟩ := info_parts Try.info5
  have hps := paylF_bs O
  have hst := startF_le hps
  have hlen := O.len
  have hpl : (paylF xs).length = min 8 n := by unfold paylF; rw [List.length_take, List.length_map, hlen]
  obtain ⟨ps, hpsd⟩ : ∃ ps, ps = paylF xs := ⟨_, rfl⟩
  have hget : ∀ k x, xs[k]? = some x → k < 8 → ps[k]? = some (x.2.2.2.take 100) := fun k x h hk => by rw [hpsd]; exact paylF_get h hk
  rw [← hpsd] at hps hst hpl
  clear hpsd
  have S0 := SpSt.new w ps
  have HO : Hid (LAt w a n c xs) := O
  clear O
  refine callsIn_of_wp_marks Try.func4 rfl trivial ?_ rfl
  simp only [Try.ntmps4, List.size_toArray, List.length_cons, List.length_nil, Nat.reduceAdd, Nat.reduceSub, Array.replicate_succ, Array.replicate_zero, List.push_toArray, List.append_toArray, List.nil_append, List.cons_append]
  gi_wp2
  gi_loopw [5, 7] (fun p i wr => ∃ (k : Nat) (a5 : Option Addr) (c5 : Nat) (a6 : Option Addr) (c6 : Nat), p = .slice a5 (startF ps k) c5 ∧ i = .int .i64 k ∧ k ≤ n ∧ k ≤ 8 ∧ SpSt w wr ps k a5 c5 a6 c6) (fun _ i _ => n - (Go.RowKit.intOf i).toNat)
  case atStart => exact ⟨0, none, 0, none, 0, by simp [startF, flatF], rfl, Nat.zero_le _, Nat.zero_le _, S0⟩
  case round =>
    clear S0
    obtain ⟨k, a5, c5, a6, c6, rfl, rfl, hk, hk8, S⟩ := hrel
    by_cases hgo : k < n ∧ k < 8
    · obtain ⟨hkn, hk8'⟩ := hgo
      have hc1 : (k : Int) < (n : Int) := by omega
      have hc2 : (k : Int) < 8 := by omega
      have hkl : k < xs.length := by omega
      obtain ⟨x, hx⟩ : ∃ x, xs[k]? = some x := ⟨xs[k], List.getElem?_eq_getElem hkl⟩
      have O := HO.out.kept S.kept
      have BX := O.bytes x (List.mem_of_getElem? hx)
      have hpk := hget k x hx hk8'
      have hsc := startF_succ ps k _ hpk
      have hfl := flatF_next ps k _ hpk
      obtain ⟨b, off, rfl⟩ : ∃ b off, a = some ⟨b, off, none⟩ := by
        cases a with
        | none => have := O.nil rfl; omega
        | some ad =>
          obtain ⟨hsp, _⟩ := O.cells ad rfl (by omega)
          obtain ⟨b, off, sp⟩ := ad
          obtain rfl : sp = none := hsp
          exact ⟨b, off, rfl⟩
      have hcell := (O.cells _ rfl (by omega)).2 k x hx
      obtain ⟨xa, xn, xc, xb⟩ := x
      simp only [] at hcell BX hpk hsc hfl
      have hxl := BX.len
      have hsk := hst k
      have HS : Hid (SpSt w wr ps k a5 c5 a6 c6) := S
      have HF : Hid (flatF (ps.take (k + 1)) = flatF (ps.take k) ++ frameB (xb.take 100)) := hfl
      have hE : ∀ w1 w2, Kept (fun _ => False) wr w1 → w1.grownBy w2 (Value.slice a5 (startF ps k) c5).ownBlock → w2.cell? ⟨w.heap.size + 1, 0, none⟩ = some (.slice a6 k c6) ∧ w2.frozen? ⟨w.heap.size + 1, 0, none⟩ = false ∧ w2.ownsRow (w.heap.size + 2) 3 1 (.slice a6 k c6) k (endsV ps k) := fun w1 w2 K1 hg => by
        obtain ⟨_, hb, he, _⟩ := HS.out.mid K1 hg
        exact ⟨by simp [World.cell?, hb], by simp [World.frozen?, hb], he⟩
      have HEE : Hid _ := hE
      have hbw : w.heap.size + 2 ≤ wr.heap.size := by have := (Array.getElem?_eq_some_iff.1 S.box).1; omega
      clear O hfl S hE
      obtain ⟨i1, hi1, hy0, hy1, hy2⟩ := info_parts intInfo
      by_cases h100 : 100 < xn
      · have hxi : (100 : Int) < (xn : Int) := by omega
        have BT := BX.take (h := 100) (by omega)
        obtain ⟨pb, po, rfl, _⟩ := BX.at (j := 0) (by omega)
        have hcap := BX.cap
        have hlt : (xb.take 100).length = 100 := by rw [List.length_take]; omega
        have hFr := frame_any wr _ 100 xc (xb.take 100) BT (by omega)
        have hfl2 : (frameB (xb.take 100)).length = 8 + 100 := by rw [frameB_length, hlt]
        have hfb : ∀ y ∈ frameB (xb.take 100), 0 ≤ y ∧ y ≤ 255 := frameB_bs BT.byte
        rw [hlt] at hsc
        obtain ⟨q, hq⟩ : ∃ q, 8 + 100 = q := ⟨_, rfl⟩
        rw [hq] at hFr hfl2 hsc
        clear BX BT
        gi_wp2_with (first
          | (refine ⟨trivial, ?_⟩; gi_at_call 10; refine (callsIn_wide.2 hFr).mono ?_; rintro e w1 ⟨fa, fc, rfl, hof, K1⟩; have hb1 := K1.size; have BF : BytesAt w1 fa q fc (frameB (xb.take 100)) := (by have h := hof; rw [← hfl2] at h; have := BytesAt.ofRow h hfb; rwa [hfl2] at this); have rowA := ownsRow_block' HS.out.all (fun b hb => K1.block b (HS.out.all.lt b hb).2 (fun h => h)); have srcF := BF.src; clear hFr hof BF)
          | (gi_at_builtin; have _t := rowA; refine wpListIn_append_src _ rfl _ _ 23 rfl (w.heap.size + 2) 5 i0 (.int .u8 0) 1 1 Try.underlying23 hi0 hz0 hz1 hz2 rfl (by decide) (.slice a5 (startF ps k) c5) (startF ps k) _ rfl rowA _ rfl q _ srcF (oneCells _) (by unfold maxLen; omega) (by omega) (by omega) ?_; intro b5 d5 w2 ho2 hg2 hl2; obtain ⟨y2, f2, e2⟩ := HEE.out w1 w2 K1 hg2; have hb2 : w1.heap.size ≤ w2.heap.size := hg2.size; have Ho2 : Hid (w2.ownsRow (w.heap.size + 2) 5 1 (.slice b5 (startF ps (k + 1)) d5) (startF ps (k + 1)) ((flatF (ps.take (k + 1))).map (Value.int .u8))) := (by show w2.ownsRow _ _ _ _ _ _; rw [hsc, HF.out, List.map_append]; exact ho2); have Hg2 : Hid _ := hg2; have Hl2 : Hid ((Value.slice b5 (startF ps (k + 1)) d5).ownBlock = (Value.slice a5 (startF ps k) c5).ownBlock ∨ (Value.slice b5 (startF ps (k + 1)) d5).ownBlock = some w1.heap.size) := (by rw [hsc]; exact hl2); have yA := (cell_keep (Kept.alloc (fun _ => False) w2 (.cells #[.int .i64 ((startF ps k : Int) + (q : Int))] 3)) y2 (fun h => h)).1; have rowE := e2.alloc (.cells #[.int .i64 ((startF ps k : Int) + (q : Int))] 3); have hbE : w.heap.size + 2 ≤ (w2.alloc (.cells #[.int .i64 ((startF ps k : Int) + (q : Int))] 3)).heap.size := (by simp; omega); have He2 : Hid (w2.ownsRow (w.heap.size + 2) 3 1 (.slice a6 k c6) k (endsV ps k)) := e2; have Hx2 : Hid _ := (HS.out.mid K1 hg2).2.1; clear _t rowA srcF ho2 e2 hg2 hl2)
          | (gi_at_builtin; refine wpListIn_append_src _ rfl _ _ 29 rfl (w.heap.size + 2) 3 i1 (.int .i64 0) 1 8 Try.underlying29 hi1 hy0 hy1 hy2 rfl (by decide) (.slice a6 k c6) k _ rfl rowE _ rfl 1 [.int .i64 ((startF ps k : Int) + (q : Int))] (.inl ⟨_, 1, rfl, rfl, World.news_of_block (heap_alloc_new w2 _)⟩) (by simp [Value.oneCell']) (by unfold maxLen; omega) (by omega) hbE ?_; intro b6 d6 w4 ho4 hg4 hl4; have x4 : w4.heap[w.heap.size + 1]? = some (.cells #[.slice a6 k c6] 29 (0, 0)) := (by have K4 : Kept (fun b => (Value.slice a6 k c6).ownBlock = some b) w2 w4 := ((Kept.alloc _ w2 _).and (Kept.grown hg4 (fun k e => e))); exact (K4.block _ (Array.getElem?_eq_some_iff.1 Hx2.out).1 (fun e => by have := (He2.out.lt _ e).1; omega)).trans Hx2.out); have y4 : w4.cell? ⟨w.heap.size + 1, 0, none⟩ = some (.slice a6 k c6) := (by simp [World.cell?, x4]); have f4 : w4.frozen? ⟨w.heap.size + 1, 0, none⟩ = false := (by simp [World.frozen?, x4]); have S4 := HS.out.next K1 Hg2.out Ho2.out Hl2.out _ hg4 (by rw [endsV_next, hsc]; exact ho4) hl4; have HS4 : Hid _ := S4; clear rowE ho4 hg4 hl4 S4 yA x4)
          | fail)
        go_roundw
        case rel => exact ⟨k + 1, b5, d5, b6, d6, by rw [hsc], by simp, by omega, by omega, HS4.out⟩
        case measure => simp [Go.RowKit.intOf]; omega
      · have hxi : ¬ (100 : Int) < (xn : Int) := by omega
        have htk : xb.take 100 = xb := List.take_of_length_le (by omega)
        rw [htk] at hsc HF
        have hFr := frame_any wr xa xn xc xb BX (by omega)
        have hfl2 : (frameB xb).length = 8 + xn := by rw [frameB_length, hxl]
        have hfb : ∀ y ∈ frameB xb, 0 ≤ y ∧ y ≤ 255 := frameB_bs BX.byte
        rw [hxl] at hsc
        obtain ⟨q, hq⟩ : ∃ q, 8 + xn = q := ⟨_, rfl⟩
        rw [hq] at hFr hfl2 hsc
        clear BX
        gi_wp2_with (first
          | (refine ⟨trivial, ?_⟩; gi_at_call 10; refine (callsIn_wide.2 hFr).mono ?_; rintro e w1 ⟨fa, fc, rfl, hof, K1⟩; have hb1 := K1.size; have BF : BytesAt w1 fa q fc (frameB xb) := (by have h := hof; rw [← hfl2] at h; have := BytesAt.ofRow h hfb; rwa [hfl2] at this); have rowA := ownsRow_block' HS.out.all (fun b hb => K1.block b (HS.out.all.lt b hb).2 (fun h => h)); have srcF := BF.src; clear hFr hof BF)
          | (gi_at_builtin; have _t := rowA; refine wpListIn_append_src _ rfl _ _ 23 rfl (w.heap.size + 2) 5 i0 (.int .u8 0) 1 1 Try.underlying23 hi0 hz0 hz1 hz2 rfl (by decide) (.slice a5 (startF ps k) c5) (startF ps k) _ rfl rowA _ rfl q _ srcF (oneCells _) (by unfold maxLen; omega) (by omega) (by omega) ?_; intro b5 d5 w2 ho2 hg2 hl2; obtain ⟨y2, f2, e2⟩ := HEE.out w1 w2 K1 hg2; have hb2 : w1.heap.size ≤ w2.heap.size := hg2.size; have Ho2 : Hid (w2.ownsRow (w.heap.size + 2) 5 1 (.slice b5 (startF ps (k + 1)) d5) (startF ps (k + 1)) ((flatF (ps.take (k + 1))).map (Value.int .u8))) := (by show w2.ownsRow _ _ _ _ _ _; rw [hsc, HF.out, List.map_append]; exact ho2); have Hg2 : Hid _ := hg2; have Hl2 : Hid ((Value.slice b5 (startF ps (k + 1)) d5).ownBlock = (Value.slice a5 (startF ps k) c5).ownBlock ∨ (Value.slice b5 (startF ps (k + 1)) d5).ownBlock = some w1.heap.size) := (by rw [hsc]; exact hl2); have yA := (cell_keep (Kept.alloc (fun _ => False) w2 (.cells #[.int .i64 ((startF ps k : Int) + (q : Int))] 3)) y2 (fun h => h)).1; have rowE := e2.alloc (.cells #[.int .i64 ((startF ps k : Int) + (q : Int))] 3); have hbE : w.heap.size + 2 ≤ (w2.alloc (.cells #[.int .i64 ((startF ps k : Int) + (q : Int))] 3)).heap.size := (by simp; omega); have He2 : Hid (w2.ownsRow (w.heap.size + 2) 3 1 (.slice a6 k c6) k (endsV ps k)) := e2; have Hx2 : Hid _ := (HS.out.mid K1 hg2).2.1; clear _t rowA srcF ho2 e2 hg2 hl2)
          | (gi_at_builtin; refine wpListIn_append_src _ rfl _ _ 29 rfl (w.heap.size + 2) 3 i1 (.int .i64 0) 1 8 Try.underlying29 hi1 hy0 hy1 hy2 rfl (by decide) (.slice a6 k c6) k _ rfl rowE _ rfl 1 [.int .i64 ((startF ps k : Int) + (q : Int))] (.inl ⟨_, 1, rfl, rfl, World.news_of_block (heap_alloc_new w2 _)⟩) (by simp [Value.oneCell']) (by unfold maxLen; omega) (by omega) hbE ?_; intro b6 d6 w4 ho4 hg4 hl4; have x4 : w4.heap[w.heap.size + 1]? = some (.cells #[.slice a6 k c6] 29 (0, 0)) := (by have K4 : Kept (fun b => (Value.slice a6 k c6).ownBlock = some b) w2 w4 := ((Kept.alloc _ w2 _).and (Kept.grown hg4 (fun k e => e))); exact (K4.block _ (Array.getElem?_eq_some_iff.1 Hx2.out).1 (fun e => by have := (He2.out.lt _ e).1; omega)).trans Hx2.out); have y4 : w4.cell? ⟨w.heap.size + 1, 0, none⟩ = some (.slice a6 k c6) := (by simp [World.cell?, x4]); have f4 : w4.frozen? ⟨w.heap.size + 1, 0, none⟩ = false := (by simp [World.frozen?, x4]); have S4 := HS.out.next K1 Hg2.out Ho2.out Hl2.out _ hg4 (by rw [endsV_next, hsc]; exact ho4) hl4; have HS4 : Hid _ := S4; clear rowE ho4 hg4 hl4 S4 yA x4)
          | fail)
        go_roundw
        case rel => exact ⟨k + 1, b5, d5, b6, d6, by rw [hsc], by simp, by omega, by omega, HS4.out⟩
        case measure => simp [Go.RowKit.intOf]; omega
    · have hkp : ps.length = k := by omega
      have htk : ps.take k = ps := List.take_of_length_le (by omega)
      obtain ⟨kk, hkk, hkL⟩ : ∃ kk : Nat, cut % ((startF ps k : Int) + 1) = (kk : Int) ∧ kk ≤ startF ps k := by
        have h1 := Int.emod_nonneg cut (show ((startF ps k : Int) + 1) ≠ 0 by omega)
        have h2 := Int.emod_lt_of_pos cut (show (0 : Int) < (startF ps k : Int) + 1 by omega)
        exact ⟨(cut % ((startF ps k : Int) + 1)).toNat, by omega, by omega⟩
      have hsk := hst k
      have hWi : ∀ W, _ := fun W => within_any W cut ((startF ps k : Int) + 1) (by omega) (by omega)
      rw [hkk] at hWi
      obtain ⟨t, ht1, ht2, ht3⟩ := split_count ps kk
      have HT : Hid (Tells ((flatF ps).take kk) 0 ((List.range t).map (startF ps))) := tells_all ps hps kk t ht1 ht2 ht3
      have hfl : (flatF ps).length = startF ps k := by unfold startF; rw [htk]
      have hlr : ((flatF ps).take kk).length = kk := by rw [List.length_take]; omega
      have hbf : Bs (flatF ps) := by
        intro y hy
        obtain ⟨p, hp, hyp⟩ := List.mem_flatMap.1 hy
        exact frameB_bs (hps p hp).1 y hyp
      have hbsr : Bs ((flatF ps).take kk) := hbf.take kk
      have HS : Hid (SpSt w wr ps k a5 c5 a6 c6) := S
      have hrowA := S.all
      rw [htk] at hrowA
      have hfn := func_nil 42
      rcases hrowA.2 with ⟨e5, h05⟩ | ⟨g, cap, cur, e5, hbg, hgb, hq1, _, _, _⟩
      · simp only [Value.slice.injEq] at e5
        obtain ⟨rfl, hL0, rfl⟩ := e5
        have hk00 : kk = 0 := by omega
        have hfr : ∀ W, Kept (fun _ => False) wr W → _ := fun W _ => frames_any W none kk 0 ((flatF ps).take kk) ⟨hlr, by omega, fun _ => by omega, fun ad e => (by cases e), hbsr⟩ (by omega)
        have hcapi : (kk : Int) ≤ 0 := by omega
        have hkki : (0 : Int) ≤ (kk : Int) := by omega
        have hkn : ¬ k < n := by
          intro h
          have h8 : k = 8 := by omega
          have := startF_ge ps k (by omega)
          omega
        clear hL0 h05 hk00 hrowA S
        have hc : ¬ ((k : Int) < (n : Int)) := by omega
        gi_wp2_with (first
          | (refine ⟨trivial, ?_⟩; gi_at_call 16; refine (callsIn_wide.2 (hWi _)).mono ?_; rintro e w1 ⟨rfl, hw⟩; subst w1)
          | (refine ⟨trivial, ?_⟩; gi_at_call 15; refine (callsIn_wide.2 (hfr _ ((Kept.alloc _ _ _).and (Kept.alloc _ _ _)))).mono ?_; rintro e w2 ⟨kb, v, rfl, hv, hov, hk1, hk2, K2⟩)
          | fail)
        have hszB : ((wr.alloc (.cells #[.int .i64 (kk : Int)] 3)).alloc (.cells #[.int .i64 0] 3)).heap.size = wr.heap.size + 2 := by simp
        rw [hszB] at hk1 hov
        have KW2 : Kept (fun _ => False) wr w2 := ((Kept.alloc _ _ _).and (Kept.alloc _ _ _)).and K2
        have hn2 : w2.heap[wr.heap.size + 1]? = some (.cells #[.int .i64 ((0 : Nat) : Int)] 3 (0, 0)) := by
          rw [K2.block (wr.heap.size + 1) (by simp) (fun h => h)]
          have := heap_alloc_new (wr.alloc (.cells #[.int .i64 (kk : Int)] 3)) (.cells #[.int .i64 0] 3)
          rw [World.size_alloc] at this
          exact this
        have hk9 : w2.heap[wr.heap.size]? = some (.cells #[.int .i64 (kk : Int)] 3 (0, 0)) := by
          rw [K2.block wr.heap.size (by simp; omega) (fun h => h), Below.heap_alloc _ _ _ (by simp), heap_alloc_new]
        have hcells : ∀ W p0, RgSt w2 W (wr.heap.size + 1) p0 → (W.cell? ⟨w.heap.size, 0, none⟩ = some (.bool false) ∧ W.frozen? ⟨w.heap.size, 0, none⟩ = false) ∧ W.cell? ⟨w.heap.size + 1, 0, none⟩ = some (.slice a6 k c6) ∧ W.cell? ⟨wr.heap.size, 0, none⟩ = some (.int .i64 (kk : Int)) ∧ (W.cell? ⟨wr.heap.size + 1, 0, none⟩ = some (.int .i64 (p0 : Int)) ∧ W.frozen? ⟨wr.heap.size + 1, 0, none⟩ = false) ∧ W.ownsRow (w.heap.size + 2) 3 1 (.slice a6 k c6) k (endsV ps k) ∧ Kept (fun _ => False) w W := fun W p0 R => by
          have hx0 := (Array.getElem?_eq_some_iff.1 HS.out.box).1
          have b0 := blkF (KW2.block w.heap.size (by omega) (fun h => h)) HS.out.res R.kept (by show ¬ w.heap.size = wr.heap.size + 1; omega) (by have := KW2.size; omega)
          have b1 := blkF (KW2.block (w.heap.size + 1) hx0 (fun h => h)) HS.out.box R.kept (by show ¬ w.heap.size + 1 = wr.heap.size + 1; omega) (by have := KW2.size; omega)
          have b9 := blkF rfl hk9 R.kept (by show ¬ wr.heap.size = wr.heap.size + 1; omega) (Array.getElem?_eq_some_iff.1 hk9).1
          refine ⟨⟨by simp [World.cell?, b0], by simp [World.frozen?, b0]⟩, by simp [World.cell?, b1], by simp [World.cell?, b9], ⟨by simp [World.cell?, R.nb], by simp [World.frozen?, R.nb]⟩, ownsRow_block' HS.out.ends (fun b hb => ?_), (HS.out.kept.and KW2).trans R.kept (fun b h => .inr (by have h' : b = wr.heap.size + 1 := h; omega))⟩
          have hlt := (HS.out.ends.lt b hb).2
          exact (R.kept.block b (by have := KW2.size; omega) (by show ¬ b = wr.heap.size + 1; omega)).trans (KW2.block b hlt (fun h => h))
        have HC : Hid _ := hcells
        have hkpF : ∀ W W' : World, W.heap.size ≤ W'.heap.size → (∀ b, b ≠ wr.heap.size + 1 → b < w2.heap.size → W'.heap[b]? = W.heap[b]?) → KpF kb v W W' := fun W W' hs hb => ⟨hs, fun b h => by
          rcases h with rfl | h
          · exact hb b (by omega) hk2
          · have := hov.lt b h
            exact hb b (by omega) this.2⟩
        have HKP : Hid _ := hkpF
        clear hcells hkpF
        have hSQ := frames_stops 2 (by omega) kb v _ kk ((flatF ps).take kk) w2 hv hov hbsr hlr (by omega)
        have hB10 : wr.heap.size + 1 < w2.heap.size := (Array.getElem?_eq_some_iff.1 hn2).1
        refine wpIn_rangeFunc_ownG rfl (by omega) (gf := 42) (lb := #[.pointer (some ⟨kb, 0, none⟩)]) rfl trivial (enters_of Try.func42 (by kernel_rfl) rfl) hSQ (fun h k => h.trans k) ?hKb (Below.refl _ _) (fun _ => rfl) (fun pre W => RgSt w2 W (wr.heap.size + 1) pre.length ∧ goodF ps t pre) (fun c pre W => c = .ret ∧ ¬ goodF ps t pre) (RgSt.own hB10) (fun c pre W W' row h _ _ => h) ⟨⟨Kept.refl _ _, hn2⟩, rfl, Nat.zero_le _⟩ ?a1Ne ?assign ?body ?done ?stop
        case hKb =>
          intro W l o o' hl _ _ _
          exact HKP.out W _ (by simp [World.putObj]) (fun b hb hlt => World.putObj_heap_other (by omega))
        case assign =>
          intro l x W K hK
          simp only [xfEnc]
          gi_wp2
          exact hK
        case body =>
          rintro l pre x W ⟨R, hgd⟩ _
          obtain ⟨⟨r0, rf⟩, x6, x9, ⟨x10, f10⟩, rowE, _⟩ := HC.out W pre.length R
          have hnx := goodF_next (x := x) hgd
          have hpt := hgd.2
          have hpl : (pre ++ [x]).length = pre.length + 1 := by simp
          have HR : Hid _ := R
          obtain ⟨x1, xa, xm, xc⟩ := x
          obtain ⟨p0, hp0⟩ : ∃ p0, p0 = pre.length := ⟨_, rfl⟩
          rw [← hp0] at hnx hpt hpl x10 HR
          simp only [] at hnx
          have HP : Hid _ := hp0
          have HPL : Hid _ := hpl
          have HNX : Hid _ := hnx
          have hEc : ∀ q, q < k → ∃ ge, a6 = some ⟨ge, 0, none⟩ ∧ k ≤ c6 ∧ W.cell? ⟨ge, q, none⟩ = some (.int .i64 (startF ps (q + 1) : Int)) := fun q hq => by
            obtain ⟨ge, ce, he, _, _⟩ := rowE.form (by omega)
            simp only [Value.slice.injEq] at he
            obtain ⟨rfl, _, rfl⟩ := he
            have hcap : k ≤ c6 := by rcases rowE.2 with ⟨_, h0⟩ | ⟨g2, cap, cur, e, _, _, h1, _⟩; omega; (simp only [Value.slice.injEq] at e; omega)
            exact ⟨ge, rfl, hcap, (ownsRow_get rowE (k := q) (by unfold endsV; rw [List.getElem?_map, List.getElem?_range hq]; rfl)).1⟩
          have HE : Hid _ := hEc
          clear rowE hnx hp0 hpl hEc R
          have hne : ∀ (h : ¬ (x1 = startF ps p0 ∧ p0 < t)), ¬ goodF ps t (pre ++ [(x1, xa, xm, xc)]) := fun h hg => h (HNX.out.1 hg)
          have HNE : Hid _ := hne
          have hmix : Try.prog.follows .mixedOrders = true := by kernel_rfl
          clear hne
          by_cases hz : p0 = 0
          · subst hz
            by_cases hpk : 0 < k
            · obtain ⟨ge, rfl, hcE, cE⟩ := HE.out (0) hpk
              have hpki : ((0 : Nat) : Int) < (k : Int) := by omega
              have hA1 : decide (k ≤ 0) = false := by first | exact decide_eq_false (by omega) | (simp; omega)
              have hA2 : decide ((k : Int) ≤ ((0 : Nat) : Int)) = false := by first | exact decide_eq_false (by omega) | (simp; omega)
              have hA3 : decide (k = 0) = false := by first | exact decide_eq_false (by omega) | (simp; omega)
              have hA4 : decide ((k : Int) ≤ 0) = false := by first | exact decide_eq_false (by omega) | (simp; omega)
              by_cases hck : kk < startF ps (0 + 1)
              · have hck2 := hck
                have hB1 : decide (kk < startF ps (0 + 1)) = true := by first | exact decide_eq_true (by omega) | (simp; omega)
                have hB2 : decide ((kk : Int) < (startF ps (0 + 1) : Int)) = true := by first | exact decide_eq_true (by omega) | (simp; omega)
                have hB3 : decide (kk < startF ps 1) = true := by first | exact decide_eq_true (by omega) | (simp; omega)
                gi_wp2_with fail
                refine region_round rfl (by kernel_rfl) (by kernel_rfl) (by kernel_rfl) ?_
                repeat (gi_big_quiet_step (fail))
                refine wpQuietIn_nil ?_
                rintro _ ⟨nq, rfl⟩
                gi_wp2
                first | exact ⟨keeps_goN _ _ _ _ _, rfl, HNE.out (by intro h; have := startF_mono ps (show 0 + 1 ≤ t by omega); omega)⟩ | omega
              · have hck2 := hck
                have hB1 : decide (kk < startF ps (0 + 1)) = false := by first | exact decide_eq_false (by omega) | (simp; omega)
                have hB2 : decide ((kk : Int) < (startF ps (0 + 1) : Int)) = false := by first | exact decide_eq_false (by omega) | (simp; omega)
                have hB3 : decide (kk < startF ps 1) = false := by first | exact decide_eq_false (by omega) | (simp; omega)
                by_cases hxe : x1 = startF ps (0)
                · have hxe2 := hxe
                  rw [show startF ps 0 = 0 from by simp [startF, flatF]] at hxe2
                  have hX1 : (x1 != 0) = false := by simp; omega
                  have hX2 : ((x1 : Int) != (0 : Int)) = false := by simp; omega
                  gi_wp2_with fail
                  refine region_round rfl (by kernel_rfl) (by kernel_rfl) (by kernel_rfl) ?_
                  repeat (gi_big_quiet_step (fail))
                  refine wpQuietIn_nil ?_
                  rintro _ ⟨nq, rfl⟩
                  gi_wp2
                  refine ⟨keeps_goN _ _ _ _ _, HKP.out _ _ (by simp [World.setCell]) (fun b hb hlt => Below.heap_setCell _ _ _ _ hb), ?_, HNX.out.2 ⟨hxe, Nat.lt_of_not_le (fun hle => by have e : t = 0 := (by omega); rw [e] at ht3; omega)⟩⟩
                  rw [HPL.out]
                  exact HR.out.go _ _ (by first | omega | (push_cast; omega))
                · have hxe2 := hxe
                  rw [show startF ps 0 = 0 from by simp [startF, flatF]] at hxe2
                  have hX1 : (x1 != 0) = true := by simp; omega
                  have hX2 : ((x1 : Int) != (0 : Int)) = true := by simp; omega
                  gi_wp2_with fail
                  refine region_round rfl (by kernel_rfl) (by kernel_rfl) (by kernel_rfl) ?_
                  repeat (gi_big_quiet_step (fail))
                  refine wpQuietIn_nil ?_
                  rintro _ ⟨nq, rfl⟩
                  gi_wp2
                  first | exact ⟨keeps_goN _ _ _ _ _, rfl, HNE.out (by intro h; exact hxe h.1)⟩ | omega
            · have hpki : ¬ ((0 : Nat) : Int) < (k : Int) := by omega
              have hA1 : decide (k ≤ 0) = true := by first | exact decide_eq_true (by omega) | (simp; omega)
              have hA2 : decide ((k : Int) ≤ ((0 : Nat) : Int)) = true := by first | exact decide_eq_true (by omega) | (simp; omega)
              have hA3 : decide (k = 0) = true := by first | exact decide_eq_true (by omega) | (simp; omega)
              have hA4 : decide ((k : Int) ≤ 0) = true := by first | exact decide_eq_true (by omega) | (simp; omega)
              gi_wp2_with fail
              refine region_round rfl (by kernel_rfl) (by kernel_rfl) (by kernel_rfl) ?_
              repeat (gi_big_quiet_step (fail))
              refine wpQuietIn_nil ?_
              rintro _ ⟨nq, rfl⟩
              gi_wp2
              first | exact ⟨keeps_goN _ _ _ _ _, rfl, HNE.out (by intro h; omega)⟩ | omega
          · obtain ⟨p9, rfl⟩ : ∃ p9, p0 = p9 + 1 := ⟨p0 - 1, by omega⟩
            have hw2 : IntKind.i64.wrap (((p9 + 1 : Nat) : Int) - 1) = (p9 : Int) := by rw [IntKind.wrap_i64]; omega
            have g1 : ((p9 + 1 : Nat) : Int) - 1 = (p9 : Int) := by omega
            have g2 : (0 : Int) < ((p9 + 1 : Nat) : Int) := by omega
            obtain ⟨gx, hax, hcX, cX⟩ := HE.out p9 (by omega)
            have hp9 : (p9 : Int) < (k : Int) := by omega
            have hp9n : p9 < k := by omega
            subst hax
            by_cases hpk : p9 + 1 < k
            · obtain ⟨ge, haE, hcE, cE⟩ := HE.out (p9 + 1) hpk
              obtain rfl : gx = ge := by simpa using haE
              have hpki : ((p9 + 1 : Nat) : Int) < (k : Int) := by omega
              have hA1 : decide (k ≤ p9 + 1) = false := by first | exact decide_eq_false (by omega) | (simp; omega)
              have hA2 : decide ((k : Int) ≤ ((p9 + 1 : Nat) : Int)) = false := by first | exact decide_eq_false (by omega) | (simp; omega)
              have hA5 : decide ((k : Int) ≤ (p9 : Int) + 1) = false := by first | exact decide_eq_false (by omega) | (simp; omega)
              by_cases hck : kk < startF ps (p9 + 1 + 1)
              · have hck2 := hck
                have hB1 : decide (kk < startF ps (p9 + 1 + 1)) = true := by first | exact decide_eq_true (by omega) | (simp; omega)
                have hB2 : decide ((kk : Int) < (startF ps (p9 + 1 + 1) : Int)) = true := by first | exact decide_eq_true (by omega) | (simp; omega)
                gi_wp2_with fail
                refine region_round rfl (by kernel_rfl) (by kernel_rfl) (by kernel_rfl) ?_
                repeat (gi_big_quiet_step (fail))
                refine wpQuietIn_nil ?_
                rintro _ ⟨nq, rfl⟩
                gi_wp2
                first | exact ⟨keeps_goN _ _ _ _ _, rfl, HNE.out (by intro h; have := startF_mono ps (show p9 + 1 + 1 ≤ t by omega); omega)⟩ | omega
              · have hck2 := hck
                have hB1 : decide (kk < startF ps (p9 + 1 + 1)) = false := by first | exact decide_eq_false (by omega) | (simp; omega)
                have hB2 : decide ((kk : Int) < (startF ps (p9 + 1 + 1) : Int)) = false := by first | exact decide_eq_false (by omega) | (simp; omega)
                by_cases hxe : x1 = startF ps (p9 + 1)
                · have hxe2 := hxe
                  have hX1 : (x1 != startF ps (p9 + 1)) = false := by simp; omega
                  have hX2 : ((x1 : Int) != (startF ps (p9 + 1) : Int)) = false := by simp; omega
                  gi_wp2_with fail
                  refine region_round rfl (by kernel_rfl) (by kernel_rfl) (by kernel_rfl) ?_
                  repeat (gi_big_quiet_step (fail))
                  refine wpQuietIn_nil ?_
                  rintro _ ⟨nq, rfl⟩
                  gi_wp2
                  refine ⟨keeps_goN _ _ _ _ _, HKP.out _ _ (by simp [World.setCell]) (fun b hb hlt => Below.heap_setCell _ _ _ _ hb), ?_, HNX.out.2 ⟨hxe, Nat.lt_of_not_le (fun hle => by have e : t = p9 + 1 := (by omega); rw [e] at ht3; omega)⟩⟩
                  rw [HPL.out]
                  exact HR.out.go _ _ (by first | omega | (push_cast; omega))
                · have hxe2 := hxe
                  have hX1 : (x1 != startF ps (p9 + 1)) = true := by simp; omega
                  have hX2 : ((x1 : Int) != (startF ps (p9 + 1) : Int)) = true := by simp; omega
                  gi_wp2_with fail
                  refine region_round rfl (by kernel_rfl) (by kernel_rfl) (by kernel_rfl) ?_
                  repeat (gi_big_quiet_step (fail))
                  refine wpQuietIn_nil ?_
                  rintro _ ⟨nq, rfl⟩
                  gi_wp2
                  first | exact ⟨keeps_goN _ _ _ _ _, rfl, HNE.out (by intro h; exact hxe h.1)⟩ | omega
            · have hpki : ¬ ((p9 + 1 : Nat) : Int) < (k : Int) := by omega
              have hA1 : decide (k ≤ p9 + 1) = true := by first | exact decide_eq_true (by omega) | (simp; omega)
              have hA2 : decide ((k : Int) ≤ ((p9 + 1 : Nat) : Int)) = true := by first | exact decide_eq_true (by omega) | (simp; omega)
              have hA5 : decide ((k : Int) ≤ (p9 : Int) + 1) = true := by first | exact decide_eq_true (by omega) | (simp; omega)
              gi_wp2_with fail
              refine region_round rfl (by kernel_rfl) (by kernel_rfl) (by kernel_rfl) ?_
              repeat (gi_big_quiet_step (fail))
              refine wpQuietIn_nil ?_
              rintro _ ⟨nq, rfl⟩
              gi_wp2
              first | exact ⟨keeps_goN _ _ _ _ _, rfl, HNE.out (by intro h; omega)⟩ | omega
        case done =>
          rintro D ys W hD hT ⟨R, hgd⟩ hK
          have hyl : ys.length = t := by have := congrArg List.length (tells_one hT HT.out); simpa using this
          obtain ⟨⟨r0, rf⟩, x6, x9, ⟨x10, f10⟩, rowE, KW⟩ := HC.out W ys.length R
          rw [hyl] at x10
          have HK : Hid _ := hK
          have HKW : Hid (Kept (fun _ => False) w W) := KW
          clear R hgd hT hK KW
          have fin : ∀ w12, Kept (fun _ => False) W.drew w12 → (w12.setCell ⟨w.heap.size, 0, none⟩ (.bool true)).heap[D]? = some (.deferred (some [])) ∧ ((w12.setCell ⟨w.heap.size, 0, none⟩ (.bool true)).putObj D (.deferred none)).cell? ⟨w.heap.size, 0, none⟩ = some (.bool true) ∧ Below w.heap.size w ((w12.setCell ⟨w.heap.size, 0, none⟩ (.bool true)).putObj D (.deferred none)) := fun w12 K12 => by
            have hlt := (Array.getElem?_eq_some_iff.1 HK.out).1
            have h12 : w12.heap[D]? = some (.deferred (some [])) := (K12.block D hlt (fun h => h)).trans HK.out
            have hK' := (KeepsOthers.setCell w12 ⟨w.heap.size, 0, none⟩ (.bool true)).same D _ h12 rfl
            have hr12 := (cell_keep K12 r0 (fun h => h)).1
            refine ⟨hK', cell_kept (World.cell?_setCell_same' w12 ⟨w.heap.size, 0, none⟩ (.bool true) (by rw [hr12]; rfl)) (grownBy_putObj' _ D (.deferred none)) (fun r e => by cases e; exact ⟨_, hK', rfl⟩), ?_⟩
            have KA : Kept (fun _ => False) w (w12.setCell ⟨w.heap.size, 0, none⟩ (.bool true)) := ((HKW.out.and (Kept.drew _ W)).and K12).trans (Kept.setCell (S := fun b => b = w.heap.size) _ _ _ rfl) (fun b h => .inr (Nat.le_of_eq (Eq.symm h)))
            exact KA.none.trans (belowK_b (w := w) (Nat.le_refl _) _ D _ _ (by have := HKW.out.size; have := HS.out.kept.size; have := KW2.size; omega) hK' rfl rfl)
          have HFN : Hid _ := fin
          clear fin
          by_cases htk2 : t = k
          · have hE1 : (t == k) = true := by simp; omega
            have hE2 : ((t : Int) == (k : Int)) = true := by simp; omega
            gi_wp2_with fail
            refine wpIn_onlyN (finE _ r0 rf x6 x9 x10 hE1 hE2 ?_)
            intro v82 v83 v84 v85 v86 v87 v88 v89 v90 v91 v92 v93 v94 v95 v96 w12 K12
            obtain ⟨hKd, hc5, hbl⟩ := HFN.out w12 K12
            gi_wp2
            refine ⟨by simp, .inl ⟨_, _, rfl, run_takeDeferred hKd, ?_⟩⟩
            refine ⟨.bool true, ?_, rfl, hbl⟩
            simp [results, Try.f4, go_sem, hc5]
          · have hE1 : (t == k) = false := by simp; omega
            have hE2 : ((t : Int) == (k : Int)) = false := by simp; omega
            have htlt : t < k := by omega
            have htk3 : kk < startF ps (t + 1) := by rcases ht3 with h | h; omega; exact h
            obtain ⟨ge, ce, he, _, _⟩ := rowE.form (by omega)
            simp only [Value.slice.injEq] at he
            obtain ⟨ha6, _, _⟩ := he
            have hcap6 : k ≤ c6 := by rcases rowE.2 with ⟨_, h0⟩ | ⟨g2, cap, cur, e, _, _, h1, _⟩; omega; (simp only [Value.slice.injEq] at e; omega)
            have hcE : W.cell? ⟨ge, t, none⟩ = some (.int .i64 (startF ps (t + 1) : Int)) := by
              have hro := rowE
              rw [ha6] at hro
              exact (ownsRow_get hro (k := t) (by unfold endsV; rw [List.getElem?_map, List.getElem?_range htlt]; rfl)).1
            gi_wp2_with fail
            refine wpIn_onlyN (finC _ r0 rf x6 x9 x10 hE1 hE2 htlt (by omega) hcap6 ha6 hcE (decide_eq_true htk3) (decide_eq_true (by omega)) ?_)
            intro v82 v83 v84 v85 v86 v87 v88 v89 v90 v91 v92 v93 v94 v95 v96 w12 K12
            obtain ⟨hKd, hc5, hbl⟩ := HFN.out w12 K12
            gi_wp2
            refine ⟨by simp, .inl ⟨_, _, rfl, run_takeDeferred hKd, ?_⟩⟩
            refine ⟨.bool true, ?_, rfl, hbl⟩
            simp [results, Try.f4, go_sem, hc5]
        case stop =>
          rintro D c pre W _ ⟨r, hr⟩ ⟨_, hng⟩ _
          exact absurd (goodF_end HT.out hr) hng
      · simp only [Value.slice.injEq] at e5
        obtain ⟨rfl, _, rfl⟩ := e5
        have BA : BytesAt wr (some ⟨g, 0, none⟩) (startF ps k) c5 (flatF ps) := by
          have h := hrowA
          rw [← hfl] at h
          have := BytesAt.ofRow h hbf
          rwa [hfl] at this
        have hfr : ∀ W, Kept (fun _ => False) wr W → _ := fun W K => frames_any W (some ⟨g, 0, none⟩) kk c5 ((flatF ps).take kk) ((BA.kept K (fun _ _ _ h => h)).take hkL) (by omega)
        have hcap := BA.cap
        have hcapi : (kk : Int) ≤ (c5 : Int) := by omega
        have hkki : (0 : Int) ≤ (kk : Int) := by omega
        clear BA hrowA S
        by_cases hkn : k < n
        · have hc : (k : Int) < (n : Int) := by omega
          have hc8 : ¬ ((k : Int) < 8) := by omega
          gi_wp2_with (first
            | (refine ⟨trivial, ?_⟩; gi_at_call 16; refine (callsIn_wide.2 (hWi _)).mono ?_; rintro e w1 ⟨rfl, hw⟩; subst w1)
            | (refine ⟨trivial, ?_⟩; gi_at_call 15; refine (callsIn_wide.2 (hfr _ ((Kept.alloc _ _ _).and (Kept.alloc _ _ _)))).mono ?_; rintro e w2 ⟨kb, v, rfl, hv, hov, hk1, hk2, K2⟩)
            | fail)
          have hszB : ((wr.alloc (.cells #[.int .i64 (kk : Int)] 3)).alloc (.cells #[.int .i64 0] 3)).heap.size = wr.heap.size + 2 := by simp
          rw [hszB] at hk1 hov
          have KW2 : Kept (fun _ => False) wr w2 := ((Kept.alloc _ _ _).and (Kept.alloc _ _ _)).and K2
          have hn2 : w2.heap[wr.heap.size + 1]? = some (.cells #[.int .i64 ((0 : Nat) : Int)] 3 (0, 0)) := by
            rw [K2.block (wr.heap.size + 1) (by simp) (fun h => h)]
            have := heap_alloc_new (wr.alloc (.cells #[.int .i64 (kk : Int)] 3)) (.cells #[.int .i64 0] 3)
            rw [World.size_alloc] at this
            exact this
          have hk9 : w2.heap[wr.heap.size]? = some (.cells #[.int .i64 (kk : Int)] 3 (0, 0)) := by
            rw [K2.block wr.heap.size (by simp; omega) (fun h => h), Below.heap_alloc _ _ _ (by simp), heap_alloc_new]
          have hcells : ∀ W p0, RgSt w2 W (wr.heap.size + 1) p0 → (W.cell? ⟨w.heap.size, 0, none⟩ = some (.bool false) ∧ W.frozen? ⟨w.heap.size, 0, none⟩ = false) ∧ W.cell? ⟨w.heap.size + 1, 0, none⟩ = some (.slice a6 k c6) ∧ W.cell? ⟨wr.heap.size, 0, none⟩ = some (.int .i64 (kk : Int)) ∧ (W.cell? ⟨wr.heap.size + 1, 0, none⟩ = some (.int .i64 (p0 : Int)) ∧ W.frozen? ⟨wr.heap.size + 1, 0, none⟩ = false) ∧ W.ownsRow (w.heap.size + 2) 3 1 (.slice a6 k c6) k (endsV ps k) ∧ Kept (fun _ => False) w W := fun W p0 R => by
            have hx0 := (Array.getElem?_eq_some_iff.1 HS.out.box).1
            have b0 := blkF (KW2.block w.heap.size (by omega) (fun h => h)) HS.out.res R.kept (by show ¬ w.heap.size = wr.heap.size + 1; omega) (by have := KW2.size; omega)
            have b1 := blkF (KW2.block (w.heap.size + 1) hx0 (fun h => h)) HS.out.box R.kept (by show ¬ w.heap.size + 1 = wr.heap.size + 1; omega) (by have := KW2.size; omega)
            have b9 := blkF rfl hk9 R.kept (by show ¬ wr.heap.size = wr.heap.size + 1; omega) (Array.getElem?_eq_some_iff.1 hk9).1
            refine ⟨⟨by simp [World.cell?, b0], by simp [World.frozen?, b0]⟩, by simp [World.cell?, b1], by simp [World.cell?, b9], ⟨by simp [World.cell?, R.nb], by simp [World.frozen?, R.nb]⟩, ownsRow_block' HS.out.ends (fun b hb => ?_), (HS.out.kept.and KW2).trans R.kept (fun b h => .inr (by have h' : b = wr.heap.size + 1 := h; omega))⟩
            have hlt := (HS.out.ends.lt b hb).2
            exact (R.kept.block b (by have := KW2.size; omega) (by show ¬ b = wr.heap.size + 1; omega)).trans (KW2.block b hlt (fun h => h))
          have HC : Hid _ := hcells
          have hkpF : ∀ W W' : World, W.heap.size ≤ W'.heap.size → (∀ b, b ≠ wr.heap.size + 1 → b < w2.heap.size → W'.heap[b]? = W.heap[b]?) → KpF kb v W W' := fun W W' hs hb => ⟨hs, fun b h => by
            rcases h with rfl | h
            · exact hb b (by omega) hk2
            · have := hov.lt b h
              exact hb b (by omega) this.2⟩
          have HKP : Hid _ := hkpF
          clear hcells hkpF
          have hSQ := frames_stops 2 (by omega) kb v _ kk ((flatF ps).take kk) w2 hv hov hbsr hlr (by omega)
          have hB10 : wr.heap.size + 1 < w2.heap.size := (Array.getElem?_eq_some_iff.1 hn2).1
          refine wpIn_rangeFunc_ownG rfl (by omega) (gf := 42) (lb := #[.pointer (some ⟨kb, 0, none⟩)]) rfl trivial (enters_of Try.func42 (by kernel_rfl) rfl) hSQ (fun h k => h.trans k) ?hKb (Below.refl _ _) (fun _ => rfl) (fun pre W => RgSt w2 W (wr.heap.size + 1) pre.length ∧ goodF ps t pre) (fun c pre W => c = .ret ∧ ¬ goodF ps t pre) (RgSt.own hB10) (fun c pre W W' row h _ _ => h) ⟨⟨Kept.refl _ _, hn2⟩, rfl, Nat.zero_le _⟩ ?a1Sl ?assign ?body ?done ?stop
          case hKb =>
            intro W l o o' hl _ _ _
            exact HKP.out W _ (by simp [World.putObj]) (fun b hb hlt => World.putObj_heap_other (by omega))
          case assign =>
            intro l x W K hK
            simp only [xfEnc]
            gi_wp2
            exact hK
          case body =>
            rintro l pre x W ⟨R, hgd⟩ _
            obtain ⟨⟨r0, rf⟩, x6, x9, ⟨x10, f10⟩, rowE, _⟩ := HC.out W pre.length R
            have hnx := goodF_next (x := x) hgd
            have hpt := hgd.2
            have hpl : (pre ++ [x]).length = pre.length + 1 := by simp
            have HR : Hid _ := R
            obtain ⟨x1, xa, xm, xc⟩ := x
            obtain ⟨p0, hp0⟩ : ∃ p0, p0 = pre.length := ⟨_, rfl⟩
            rw [← hp0] at hnx hpt hpl x10 HR
            simp only [] at hnx
            have HP : Hid _ := hp0
            have HPL : Hid _ := hpl
            have HNX : Hid _ := hnx
            have hEc : ∀ q, q < k → ∃ ge, a6 = some ⟨ge, 0, none⟩ ∧ k ≤ c6 ∧ W.cell? ⟨ge, q, none⟩ = some (.int .i64 (startF ps (q + 1) : Int)) := fun q hq => by
              obtain ⟨ge, ce, he, _, _⟩ := rowE.form (by omega)
              simp only [Value.slice.injEq] at he
              obtain ⟨rfl, _, rfl⟩ := he
              have hcap : k ≤ c6 := by rcases rowE.2 with ⟨_, h0⟩ | ⟨g2, cap, cur, e, _, _, h1, _⟩; omega; (simp only [Value.slice.injEq] at e; omega)
              exact ⟨ge, rfl, hcap, (ownsRow_get rowE (k := q) (by unfold endsV; rw [List.getElem?_map, List.getElem?_range hq]; rfl)).1⟩
            have HE : Hid _ := hEc
            clear rowE hnx hp0 hpl hEc R
            have hne : ∀ (h : ¬ (x1 = startF ps p0 ∧ p0 < t)), ¬ goodF ps t (pre ++ [(x1, xa, xm, xc)]) := fun h hg => h (HNX.out.1 hg)
            have HNE : Hid _ := hne
            have hmix : Try.prog.follows .mixedOrders = true := by kernel_rfl
            clear hne
            by_cases hz : p0 = 0
            · subst hz
              by_cases hpk : 0 < k
              · obtain ⟨ge, rfl, hcE, cE⟩ := HE.out (0) hpk
                have hpki : ((0 : Nat) : Int) < (k : Int) := by omega
                have hA1 : decide (k ≤ 0) = false := by first | exact decide_eq_false (by omega) | (simp; omega)
                have hA2 : decide ((k : Int) ≤ ((0 : Nat) : Int)) = false := by first | exact decide_eq_false (by omega) | (simp; omega)
                have hA3 : decide (k = 0) = false := by first | exact decide_eq_false (by omega) | (simp; omega)
                have hA4 : decide ((k : Int) ≤ 0) = false := by first | exact decide_eq_false (by omega) | (simp; omega)
                by_cases hck : kk < startF ps (0 + 1)
                · have hck2 := hck
                  have hB1 : decide (kk < startF ps (0 + 1)) = true := by first | exact decide_eq_true (by omega) | (simp; omega)
                  have hB2 : decide ((kk : Int) < (startF ps (0 + 1) : Int)) = true := by first | exact decide_eq_true (by omega) | (simp; omega)
                  have hB3 : decide (kk < startF ps 1) = true := by first | exact decide_eq_true (by omega) | (simp; omega)
                  gi_wp2_with fail
                  refine region_round rfl (by kernel_rfl) (by kernel_rfl) (by kernel_rfl) ?_
                  repeat (gi_big_quiet_step (fail))
                  refine wpQuietIn_nil ?_
                  rintro _ ⟨nq, rfl⟩
                  gi_wp2
                  first | exact ⟨keeps_goN _ _ _ _ _, rfl, HNE.out (by intro h; have := startF_mono ps (show 0 + 1 ≤ t by omega); omega)⟩ | omega
                · have hck2 := hck
                  have hB1 : decide (kk < startF ps (0 + 1)) = false := by first | exact decide_eq_false (by omega) | (simp; omega)
                  have hB2 : decide ((kk : Int) < (startF ps (0 + 1) : Int)) = false := by first | exact decide_eq_false (by omega) | (simp; omega)
                  have hB3 : decide (kk < startF ps 1) = false := by first | exact decide_eq_false (by omega) | (simp; omega)
                  by_cases hxe : x1 = startF ps (0)
                  · have hxe2 := hxe
                    rw [show startF ps 0 = 0 from by simp [startF, flatF]] at hxe2
                    have hX1 : (x1 != 0) = false := by simp; omega
                    have hX2 : ((x1 : Int) != (0 : Int)) = false := by simp; omega
                    gi_wp2_with fail
                    refine region_round rfl (by kernel_rfl) (by kernel_rfl) (by kernel_rfl) ?_
                    repeat (gi_big_quiet_step (fail))
                    refine wpQuietIn_nil ?_
                    rintro _ ⟨nq, rfl⟩
                    gi_wp2
                    refine ⟨keeps_goN _ _ _ _ _, HKP.out _ _ (by simp [World.setCell]) (fun b hb hlt => Below.heap_setCell _ _ _ _ hb), ?_, HNX.out.2 ⟨hxe, Nat.lt_of_not_le (fun hle => by have e : t = 0 := (by omega); rw [e] at ht3; omega)⟩⟩
                    rw [HPL.out]
                    exact HR.out.go _ _ (by first | omega | (push_cast; omega))
                  · have hxe2 := hxe
                    rw [show startF ps 0 = 0 from by simp [startF, flatF]] at hxe2
                    have hX1 : (x1 != 0) = true := by simp; omega
                    have hX2 : ((x1 : Int) != (0 : Int)) = true := by simp; omega
                    gi_wp2_with fail
                    refine region_round rfl (by kernel_rfl) (by kernel_rfl) (by kernel_rfl) ?_
                    repeat (gi_big_quiet_step (fail))
                    refine wpQuietIn_nil ?_
                    rintro _ ⟨nq, rfl⟩
                    gi_wp2
                    first | exact ⟨keeps_goN _ _ _ _ _, rfl, HNE.out (by intro h; exact hxe h.1)⟩ | omega
              · have hpki : ¬ ((0 : Nat) : Int) < (k : Int) := by omega
                have hA1 : decide (k ≤ 0) = true := by first | exact decide_eq_true (by omega) | (simp; omega)
                have hA2 : decide ((k : Int) ≤ ((0 : Nat) : Int)) = true := by first | exact decide_eq_true (by omega) | (simp; omega)
                have hA3 : decide (k = 0) = true := by first | exact decide_eq_true (by omega) | (simp; omega)
                have hA4 : decide ((k : Int) ≤ 0) = true := by first | exact decide_eq_true (by omega) | (simp; omega)
                gi_wp2_with fail
                refine region_round rfl (by kernel_rfl) (by kernel_rfl) (by kernel_rfl) ?_
                repeat (gi_big_quiet_step (fail))
                refine wpQuietIn_nil ?_
                rintro _ ⟨nq, rfl⟩
                gi_wp2
                first | exact ⟨keeps_goN _ _ _ _ _, rfl, HNE.out (by intro h; omega)⟩ | omega
            · obtain ⟨p9, rfl⟩ : ∃ p9, p0 = p9 + 1 := ⟨p0 - 1, by omega⟩
              have hw2 : IntKind.i64.wrap (((p9 + 1 : Nat) : Int) - 1) = (p9 : Int) := by rw [IntKind.wrap_i64]; omega
              have g1 : ((p9 + 1 : Nat) : Int) - 1 = (p9 : Int) := by omega
              have g2 : (0 : Int) < ((p9 + 1 : Nat) : Int) := by omega
              obtain ⟨gx, hax, hcX, cX⟩ := HE.out p9 (by omega)
              have hp9 : (p9 : Int) < (k : Int) := by omega
              have hp9n : p9 < k := by omega
              subst hax
              by_cases hpk : p9 + 1 < k
              · obtain ⟨ge, haE, hcE, cE⟩ := HE.out (p9 + 1) hpk
                obtain rfl : gx = ge := by simpa using haE
                have hpki : ((p9 + 1 : Nat) : Int) < (k : Int) := by omega
                have hA1 : decide (k ≤ p9 + 1) = false := by first | exact decide_eq_false (by omega) | (simp; omega)
                have hA2 : decide ((k : Int) ≤ ((p9 + 1 : Nat) : Int)) = false := by first | exact decide_eq_false (by omega) | (simp; omega)
                have hA5 : decide ((k : Int) ≤ (p9 : Int) + 1) = false := by first | exact decide_eq_false (by omega) | (simp; omega)
                by_cases hck : kk < startF ps (p9 + 1 + 1)
                · have hck2 := hck
                  have hB1 : decide (kk < startF ps (p9 + 1 + 1)) = true := by first | exact decide_eq_true (by omega) | (simp; omega)
                  have hB2 : decide ((kk : Int) < (startF ps (p9 + 1 + 1) : Int)) = true := by first | exact decide_eq_true (by omega) | (simp; omega)
                  gi_wp2_with fail
                  refine region_round rfl (by kernel_rfl) (by kernel_rfl) (by kernel_rfl) ?_
                  repeat (gi_big_quiet_step (fail))
                  refine wpQuietIn_nil ?_
                  rintro _ ⟨nq, rfl⟩
                  gi_wp2
                  first | exact ⟨keeps_goN _ _ _ _ _, rfl, HNE.out (by intro h; have := startF_mono ps (show p9 + 1 + 1 ≤ t by omega); omega)⟩ | omega
                · have hck2 := hck
                  have hB1 : decide (kk < startF ps (p9 + 1 + 1)) = false := by first | exact decide_eq_false (by omega) | (simp; omega)
                  have hB2 : decide ((kk : Int) < (startF ps (p9 + 1 + 1) : Int)) = false := by first | exact decide_eq_false (by omega) | (simp; omega)
                  by_cases hxe : x1 = startF ps (p9 + 1)
                  · have hxe2 := hxe
                    have hX1 : (x1 != startF ps (p9 + 1)) = false := by simp; omega
                    have hX2 : ((x1 : Int) != (startF ps (p9 + 1) : Int)) = false := by simp; omega
                    gi_wp2_with fail
                    refine region_round rfl (by kernel_rfl) (by kernel_rfl) (by kernel_rfl) ?_
                    repeat (gi_big_quiet_step (fail))
                    refine wpQuietIn_nil ?_
                    rintro _ ⟨nq, rfl⟩
                    gi_wp2
                    refine ⟨keeps_goN _ _ _ _ _, HKP.out _ _ (by simp [World.setCell]) (fun b hb hlt => Below.heap_setCell _ _ _ _ hb), ?_, HNX.out.2 ⟨hxe, Nat.lt_of_not_le (fun hle => by have e : t = p9 + 1 := (by omega); rw [e] at ht3; omega)⟩⟩
                    rw [HPL.out]
                    exact HR.out.go _ _ (by first | omega | (push_cast; omega))
                  · have hxe2 := hxe
                    have hX1 : (x1 != startF ps (p9 + 1)) = true := by simp; omega
                    have hX2 : ((x1 : Int) != (startF ps (p9 + 1) : Int)) = true := by simp; omega
                    gi_wp2_with fail
                    refine region_round rfl (by kernel_rfl) (by kernel_rfl) (by kernel_rfl) ?_
                    repeat (gi_big_quiet_step (fail))
                    refine wpQuietIn_nil ?_
                    rintro _ ⟨nq, rfl⟩
                    gi_wp2
                    first | exact ⟨keeps_goN _ _ _ _ _, rfl, HNE.out (by intro h; exact hxe h.1)⟩ | omega
              · have hpki : ¬ ((p9 + 1 : Nat) : Int) < (k : Int) := by omega
                have hA1 : decide (k ≤ p9 + 1) = true := by first | exact decide_eq_true (by omega) | (simp; omega)
                have hA2 : decide ((k : Int) ≤ ((p9 + 1 : Nat) : Int)) = true := by first | exact decide_eq_true (by omega) | (simp; omega)
                have hA5 : decide ((k : Int) ≤ (p9 : Int) + 1) = true := by first | exact decide_eq_true (by omega) | (simp; omega)
                gi_wp2_with fail
                refine region_round rfl (by kernel_rfl) (by kernel_rfl) (by kernel_rfl) ?_
                repeat (gi_big_quiet_step (fail))
                refine wpQuietIn_nil ?_
                rintro _ ⟨nq, rfl⟩
                gi_wp2
                first | exact ⟨keeps_goN _ _ _ _ _, rfl, HNE.out (by intro h; omega)⟩ | omega
          case done =>
            rintro D ys W hD hT ⟨R, hgd⟩ hK
            have hyl : ys.length = t := by have := congrArg List.length (tells_one hT HT.out); simpa using this
            obtain ⟨⟨r0, rf⟩, x6, x9, ⟨x10, f10⟩, rowE, KW⟩ := HC.out W ys.length R
            rw [hyl] at x10
            have HK : Hid _ := hK
            have HKW : Hid (Kept (fun _ => False) w W) := KW
            clear R hgd hT hK KW
            have fin : ∀ w12, Kept (fun _ => False) W.drew w12 → (w12.setCell ⟨w.heap.size, 0, none⟩ (.bool true)).heap[D]? = some (.deferred (some [])) ∧ ((w12.setCell ⟨w.heap.size, 0, none⟩ (.bool true)).putObj D (.deferred none)).cell? ⟨w.heap.size, 0, none⟩ = some (.bool true) ∧ Below w.heap.size w ((w12.setCell ⟨w.heap.size, 0, none⟩ (.bool true)).putObj D (.deferred none)) := fun w12 K12 => by
              have hlt := (Array.getElem?_eq_some_iff.1 HK.out).1
              have h12 : w12.heap[D]? = some (.deferred (some [])) := (K12.block D hlt (fun h => h)).trans HK.out
              have hK' := (KeepsOthers.setCell w12 ⟨w.heap.size, 0, none⟩ (.bool true)).same D _ h12 rfl
              have hr12 := (cell_keep K12 r0 (fun h => h)).1
              refine ⟨hK', cell_kept (World.cell?_setCell_same' w12 ⟨w.heap.size, 0, none⟩ (.bool true) (by rw [hr12]; rfl)) (grownBy_putObj' _ D (.deferred none)) (fun r e => by cases e; exact ⟨_, hK', rfl⟩), ?_⟩
              have KA : Kept (fun _ => False) w (w12.setCell ⟨w.heap.size, 0, none⟩ (.bool true)) := ((HKW.out.and (Kept.drew _ W)).and K12).trans (Kept.setCell (S := fun b => b = w.heap.size) _ _ _ rfl) (fun b h => .inr (Nat.le_of_eq (Eq.symm h)))
              exact KA.none.trans (belowK_b (w := w) (Nat.le_refl _) _ D _ _ (by have := HKW.out.size; have := HS.out.kept.size; have := KW2.size; omega) hK' rfl rfl)
            have HFN : Hid _ := fin
            clear fin
            by_cases htk2 : t = k
            · have hE1 : (t == k) = true := by simp; omega
              have hE2 : ((t : Int) == (k : Int)) = true := by simp; omega
              gi_wp2_with fail
              refine wpIn_onlyN (finE _ r0 rf x6 x9 x10 hE1 hE2 ?_)
              intro v82 v83 v84 v85 v86 v87 v88 v89 v90 v91 v92 v93 v94 v95 v96 w12 K12
              obtain ⟨hKd, hc5, hbl⟩ := HFN.out w12 K12
              gi_wp2
              refine ⟨by simp, .inl ⟨_, _, rfl, run_takeDeferred hKd, ?_⟩⟩
              refine ⟨.bool true, ?_, rfl, hbl⟩
              simp [results, Try.f4, go_sem, hc5]
            · have hE1 : (t == k) = false := by simp; omega
              have hE2 : ((t : Int) == (k : Int)) = false := by simp; omega
              have htlt : t < k := by omega
              have htk3 : kk < startF ps (t + 1) := by rcases ht3 with h | h; omega; exact h
              obtain ⟨ge, ce, he, _, _⟩ := rowE.form (by omega)
              simp only [Value.slice.injEq] at he
              obtain ⟨ha6, _, _⟩ := he
              have hcap6 : k ≤ c6 := by rcases rowE.2 with ⟨_, h0⟩ | ⟨g2, cap, cur, e, _, _, h1, _⟩; omega; (simp only [Value.slice.injEq] at e; omega)
              have hcE : W.cell? ⟨ge, t, none⟩ = some (.int .i64 (startF ps (t + 1) : Int)) := by
                have hro := rowE
                rw [ha6] at hro
                exact (ownsRow_get hro (k := t) (by unfold endsV; rw [List.getElem?_map, List.getElem?_range htlt]; rfl)).1
              gi_wp2_with fail
              refine wpIn_onlyN (finC _ r0 rf x6 x9 x10 hE1 hE2 htlt (by omega) hcap6 ha6 hcE (decide_eq_true htk3) (decide_eq_true (by omega)) ?_)
              intro v82 v83 v84 v85 v86 v87 v88 v89 v90 v91 v92 v93 v94 v95 v96 w12 K12
              obtain ⟨hKd, hc5, hbl⟩ := HFN.out w12 K12
              gi_wp2
              refine ⟨by simp, .inl ⟨_, _, rfl, run_takeDeferred hKd, ?_⟩⟩
              refine ⟨.bool true, ?_, rfl, hbl⟩
              simp [results, Try.f4, go_sem, hc5]
          case stop =>
            rintro D c pre W _ ⟨r, hr⟩ ⟨_, hng⟩ _
            exact absurd (goodF_end HT.out hr) hng
        · have hc : ¬ ((k : Int) < (n : Int)) := by omega
          gi_wp2_with (first
            | (refine ⟨trivial, ?_⟩; gi_at_call 16; refine (callsIn_wide.2 (hWi _)).mono ?_; rintro e w1 ⟨rfl, hw⟩; subst w1)
            | (refine ⟨trivial, ?_⟩; gi_at_call 15; refine (callsIn_wide.2 (hfr _ ((Kept.alloc _ _ _).and (Kept.alloc _ _ _)))).mono ?_; rintro e w2 ⟨kb, v, rfl, hv, hov, hk1, hk2, K2⟩)
            | fail)
          have hszB : ((wr.alloc (.cells #[.int .i64 (kk : Int)] 3)).alloc (.cells #[.int .i64 0] 3)).heap.size = wr.heap.size + 2 := by simp
          rw [hszB] at hk1 hov
          have KW2 : Kept (fun _ => False) wr w2 := ((Kept.alloc _ _ _).and (Kept.alloc _ _ _)).and K2
          have hn2 : w2.heap[wr.heap.size + 1]? = some (.cells #[.int .i64 ((0 : Nat) : Int)] 3 (0, 0)) := by
            rw [K2.block (wr.heap.size + 1) (by simp) (fun h => h)]
            have := heap_alloc_new (wr.alloc (.cells #[.int .i64 (kk : Int)] 3)) (.cells #[.int .i64 0] 3)
            rw [World.size_alloc] at this
            exact this
          have hk9 : w2.heap[wr.heap.size]? = some (.cells #[.int .i64 (kk : Int)] 3 (0, 0)) := by
            rw [K2.block wr.heap.size (by simp; omega) (fun h => h), Below.heap_alloc _ _ _ (by simp), heap_alloc_new]
          have hcells : ∀ W p0, RgSt w2 W (wr.heap.size + 1) p0 → (W.cell? ⟨w.heap.size, 0, none⟩ = some (.bool false) ∧ W.frozen? ⟨w.heap.size, 0, none⟩ = false) ∧ W.cell? ⟨w.heap.size + 1, 0, none⟩ = some (.slice a6 k c6) ∧ W.cell? ⟨wr.heap.size, 0, none⟩ = some (.int .i64 (kk : Int)) ∧ (W.cell? ⟨wr.heap.size + 1, 0, none⟩ = some (.int .i64 (p0 : Int)) ∧ W.frozen? ⟨wr.heap.size + 1, 0, none⟩ = false) ∧ W.ownsRow (w.heap.size + 2) 3 1 (.slice a6 k c6) k (endsV ps k) ∧ Kept (fun _ => False) w W := fun W p0 R => by
            have hx0 := (Array.getElem?_eq_some_iff.1 HS.out.box).1
            have b0 := blkF (KW2.block w.heap.size (by omega) (fun h => h)) HS.out.res R.kept (by show ¬ w.heap.size = wr.heap.size + 1; omega) (by have := KW2.size; omega)
            have b1 := blkF (KW2.block (w.heap.size + 1) hx0 (fun h => h)) HS.out.box R.kept (by show ¬ w.heap.size + 1 = wr.heap.size + 1; omega) (by have := KW2.size; omega)
            have b9 := blkF rfl hk9 R.kept (by show ¬ wr.heap.size = wr.heap.size + 1; omega) (Array.getElem?_eq_some_iff.1 hk9).1
            refine ⟨⟨by simp [World.cell?, b0], by simp [World.frozen?, b0]⟩, by simp [World.cell?, b1], by simp [World.cell?, b9], ⟨by simp [World.cell?, R.nb], by simp [World.frozen?, R.nb]⟩, ownsRow_block' HS.out.ends (fun b hb => ?_), (HS.out.kept.and KW2).trans R.kept (fun b h => .inr (by have h' : b = wr.heap.size + 1 := h; omega))⟩
            have hlt := (HS.out.ends.lt b hb).2
            exact (R.kept.block b (by have := KW2.size; omega) (by show ¬ b = wr.heap.size + 1; omega)).trans (KW2.block b hlt (fun h => h))
          have HC : Hid _ := hcells
          have hkpF : ∀ W W' : World, W.heap.size ≤ W'.heap.size → (∀ b, b ≠ wr.heap.size + 1 → b < w2.heap.size → W'.heap[b]? = W.heap[b]?) → KpF kb v W W' := fun W W' hs hb => ⟨hs, fun b h => by
            rcases h with rfl | h
            · exact hb b (by omega) hk2
            · have := hov.lt b h
              exact hb b (by omega) this.2⟩
          have HKP : Hid _ := hkpF
          clear hcells hkpF
          have hSQ := frames_stops 2 (by omega) kb v _ kk ((flatF ps).take kk) w2 hv hov hbsr hlr (by omega)
          have hB10 : wr.heap.size + 1 < w2.heap.size := (Array.getElem?_eq_some_iff.1 hn2).1
          refine wpIn_rangeFunc_ownG rfl (by omega) (gf := 42) (lb := #[.pointer (some ⟨kb, 0, none⟩)]) rfl trivial (enters_of Try.func42 (by kernel_rfl) rfl) hSQ (fun h k => h.trans k) ?hKb (Below.refl _ _) (fun _ => rfl) (fun pre W => RgSt w2 W (wr.heap.size + 1) pre.length ∧ goodF ps t pre) (fun c pre W => c = .ret ∧ ¬ goodF ps t pre) (RgSt.own hB10) (fun c pre W W' row h _ _ => h) ⟨⟨Kept.refl _ _, hn2⟩, rfl, Nat.zero_le _⟩ ?a1Se ?assign ?body ?done ?stop
          case hKb =>
            intro W l o o' hl _ _ _
            exact HKP.out W _ (by simp [World.putObj]) (fun b hb hlt => World.putObj_heap_other (by omega))
          case assign =>
            intro l x W K hK
            simp only [xfEnc]
            gi_wp2
            exact hK
          case body =>
            rintro l pre x W ⟨R, hgd⟩ _
            obtain ⟨⟨r0, rf⟩, x6, x9, ⟨x10, f10⟩, rowE, _⟩ := HC.out W pre.length R
            have hnx := goodF_next (x := x) hgd
            have hpt := hgd.2
            have hpl : (pre ++ [x]).length = pre.length + 1 := by simp
            have HR : Hid _ := R
            obtain ⟨x1, xa, xm, xc⟩ := x
            obtain ⟨p0, hp0⟩ : ∃ p0, p0 = pre.length := ⟨_, rfl⟩
            rw [← hp0] at hnx hpt hpl x10 HR
            simp only [] at hnx
            have HP : Hid _ := hp0
            have HPL : Hid _ := hpl
            have HNX : Hid _ := hnx
            have hEc : ∀ q, q < k → ∃ ge, a6 = some ⟨ge, 0, none⟩ ∧ k ≤ c6 ∧ W.cell? ⟨ge, q, none⟩ = some (.int .i64 (startF ps (q + 1) : Int)) := fun q hq => by
              obtain ⟨ge, ce, he, _, _⟩ := rowE.form (by omega)
              simp only [Value.slice.injEq] at he
              obtain ⟨rfl, _, rfl⟩ := he
              have hcap : k ≤ c6 := by rcases rowE.2 with ⟨_, h0⟩ | ⟨g2, cap, cur, e, _, _, h1, _⟩; omega; (simp only [Value.slice.injEq] at e; omega)
              exact ⟨ge, rfl, hcap, (ownsRow_get rowE (k := q) (by unfold endsV; rw [List.getElem?_map, List.getElem?_range hq]; rfl)).1⟩
            have HE : Hid _ := hEc
            clear rowE hnx hp0 hpl hEc R
            have hne : ∀ (h : ¬ (x1 = startF ps p0 ∧ p0 < t)), ¬ goodF ps t (pre ++ [(x1, xa, xm, xc)]) := fun h hg => h (HNX.out.1 hg)
            have HNE : Hid _ := hne
            have hmix : Try.prog.follows .mixedOrders = true := by kernel_rfl
            clear hne
            by_cases hz : p0 = 0
            · subst hz
              by_cases hpk : 0 < k
              · obtain ⟨ge, rfl, hcE, cE⟩ := HE.out (0) hpk
                have hpki : ((0 : Nat) : Int) < (k : Int) := by omega
                have hA1 : decide (k ≤ 0) = false := by first | exact decide_eq_false (by omega) | (simp; omega)
                have hA2 : decide ((k : Int) ≤ ((0 : Nat) : Int)) = false := by first | exact decide_eq_false (by omega) | (simp; omega)
                have hA3 : decide (k = 0) = false := by first | exact decide_eq_false (by omega) | (simp; omega)
                have hA4 : decide ((k : Int) ≤ 0) = false := by first | exact decide_eq_false (by omega) | (simp; omega)
                by_cases hck : kk < startF ps (0 + 1)
                · have hck2 := hck
                  have hB1 : decide (kk < startF ps (0 + 1)) = true := by first | exact decide_eq_true (by omega) | (simp; omega)
                  have hB2 : decide ((kk : Int) < (startF ps (0 + 1) : Int)) = true := by first | exact decide_eq_true (by omega) | (simp; omega)
                  have hB3 : decide (kk < startF ps 1) = true := by first | exact decide_eq_true (by omega) | (simp; omega)
                  gi_wp2_with fail
                  refine region_round rfl (by kernel_rfl) (by kernel_rfl) (by kernel_rfl) ?_
                  repeat (gi_big_quiet_step (fail))
                  refine wpQuietIn_nil ?_
                  rintro _ ⟨nq, rfl⟩
                  gi_wp2
                  first | exact ⟨keeps_goN _ _ _ _ _, rfl, HNE.out (by intro h; have := startF_mono ps (show 0 + 1 ≤ t by omega); omega)⟩ | omega
                · have hck2 := hck
                  have hB1 : decide (kk < startF ps (0 + 1)) = false := by first | exact decide_eq_false (by omega) | (simp; omega)
                  have hB2 : decide ((kk : Int) < (startF ps (0 + 1) : Int)) = false := by first | exact decide_eq_false (by omega) | (simp; omega)
                  have hB3 : decide (kk < startF ps 1) = false := by first | exact decide_eq_false (by omega) | (simp; omega)
                  by_cases hxe : x1 = startF ps (0)
                  · have hxe2 := hxe
                    rw [show startF ps 0 = 0 from by simp [startF, flatF]] at hxe2
                    have hX1 : (x1 != 0) = false := by simp; omega
                    have hX2 : ((x1 : Int) != (0 : Int)) = false := by simp; omega
                    gi_wp2_with fail
                    refine region_round rfl (by kernel_rfl) (by kernel_rfl) (by kernel_rfl) ?_
                    repeat (gi_big_quiet_step (fail))
                    refine wpQuietIn_nil ?_
                    rintro _ ⟨nq, rfl⟩
                    gi_wp2
                    refine ⟨keeps_goN _ _ _ _ _, HKP.out _ _ (by simp [World.setCell]) (fun b hb hlt => Below.heap_setCell _ _ _ _ hb), ?_, HNX.out.2 ⟨hxe, Nat.lt_of_not_le (fun hle => by have e : t = 0 := (by omega); rw [e] at ht3; omega)⟩⟩
                    rw [HPL.out]
                    exact HR.out.go _ _ (by first | omega | (push_cast; omega))
                  · have hxe2 := hxe
                    rw [show startF ps 0 = 0 from by simp [startF, flatF]] at hxe2
                    have hX1 : (x1 != 0) = true := by simp; omega
                    have hX2 : ((x1 : Int) != (0 : Int)) = true := by simp; omega
                    gi_wp2_with fail
                    refine region_round rfl (by kernel_rfl) (by kernel_rfl) (by kernel_rfl) ?_
                    repeat (gi_big_quiet_step (fail))
                    refine wpQuietIn_nil ?_
                    rintro _ ⟨nq, rfl⟩
                    gi_wp2
                    first | exact ⟨keeps_goN _ _ _ _ _, rfl, HNE.out (by intro h; exact hxe h.1)⟩ | omega
              · have hpki : ¬ ((0 : Nat) : Int) < (k : Int) := by omega
                have hA1 : decide (k ≤ 0) = true := by first | exact decide_eq_true (by omega) | (simp; omega)
                have hA2 : decide ((k : Int) ≤ ((0 : Nat) : Int)) = true := by first | exact decide_eq_true (by omega) | (simp; omega)
                have hA3 : decide (k = 0) = true := by first | exact decide_eq_true (by omega) | (simp; omega)
                have hA4 : decide ((k : Int) ≤ 0) = true := by first | exact decide_eq_true (by omega) | (simp; omega)
                gi_wp2_with fail
                refine region_round rfl (by kernel_rfl) (by kernel_rfl) (by kernel_rfl) ?_
                repeat (gi_big_quiet_step (fail))
                refine wpQuietIn_nil ?_
                rintro _ ⟨nq, rfl⟩
                gi_wp2
                first | exact ⟨keeps_goN _ _ _ _ _, rfl, HNE.out (by intro h; omega)⟩ | omega
            · obtain ⟨p9, rfl⟩ : ∃ p9, p0 = p9 + 1 := ⟨p0 - 1, by omega⟩
              have hw2 : IntKind.i64.wrap (((p9 + 1 : Nat) : Int) - 1) = (p9 : Int) := by rw [IntKind.wrap_i64]; omega
              have g1 : ((p9 + 1 : Nat) : Int) - 1 = (p9 : Int) := by omega
              have g2 : (0 : Int) < ((p9 + 1 : Nat) : Int) := by omega
              obtain ⟨gx, hax, hcX, cX⟩ := HE.out p9 (by omega)
              have hp9 : (p9 : Int) < (k : Int) := by omega
              have hp9n : p9 < k := by omega
              subst hax
              by_cases hpk : p9 + 1 < k
              · obtain ⟨ge, haE, hcE, cE⟩ := HE.out (p9 + 1) hpk
                obtain rfl : gx = ge := by simpa using haE
                have hpki : ((p9 + 1 : Nat) : Int) < (k : Int) := by omega
                have hA1 : decide (k ≤ p9 + 1) = false := by first | exact decide_eq_false (by omega) | (simp; omega)
                have hA2 : decide ((k : Int) ≤ ((p9 + 1 : Nat) : Int)) = false := by first | exact decide_eq_false (by omega) | (simp; omega)
                have hA5 : decide ((k : Int) ≤ (p9 : Int) + 1) = false := by first | exact decide_eq_false (by omega) | (simp; omega)
                by_cases hck : kk < startF ps (p9 + 1 + 1)
                · have hck2 := hck
                  have hB1 : decide (kk < startF ps (p9 + 1 + 1)) = true := by first | exact decide_eq_true (by omega) | (simp; omega)
                  have hB2 : decide ((kk : Int) < (startF ps (p9 + 1 + 1) : Int)) = true := by first | exact decide_eq_true (by omega) | (simp; omega)
                  gi_wp2_with fail
                  refine region_round rfl (by kernel_rfl) (by kernel_rfl) (by kernel_rfl) ?_
                  repeat (gi_big_quiet_step (fail))
                  refine wpQuietIn_nil ?_
                  rintro _ ⟨nq, rfl⟩
                  gi_wp2
                  first | exact ⟨keeps_goN _ _ _ _ _, rfl, HNE.out (by intro h; have := startF_mono ps (show p9 + 1 + 1 ≤ t by omega); omega)⟩ | omega
                · have hck2 := hck
                  have hB1 : decide (kk < startF ps (p9 + 1 + 1)) = false := by first | exact decide_eq_false (by omega) | (simp; omega)
                  have hB2 : decide ((kk : Int) < (startF ps (p9 + 1 + 1) : Int)) = false := by first | exact decide_eq_false (by omega) | (simp; omega)
                  by_cases hxe : x1 = startF ps (p9 + 1)
                  · have hxe2 := hxe
                    have hX1 : (x1 != startF ps (p9 + 1)) = false := by simp; omega
                    have hX2 : ((x1 : Int) != (startF ps (p9 + 1) : Int)) = false := by simp; omega
                    gi_wp2_with fail
                    refine region_round rfl (by kernel_rfl) (by kernel_rfl) (by kernel_rfl) ?_
                    repeat (gi_big_quiet_step (fail))
                    refine wpQuietIn_nil ?_
                    rintro _ ⟨nq, rfl⟩
                    gi_wp2
                    refine ⟨keeps_goN _ _ _ _ _, HKP.out _ _ (by simp [World.setCell]) (fun b hb hlt => Below.heap_setCell _ _ _ _ hb), ?_, HNX.out.2 ⟨hxe, Nat.lt_of_not_le (fun hle => by have e : t = p9 + 1 := (by omega); rw [e] at ht3; omega)⟩⟩
                    rw [HPL.out]
                    exact HR.out.go _ _ (by first | omega | (push_cast; omega))
                  · have hxe2 := hxe
                    have hX1 : (x1 != startF ps (p9 + 1)) = true := by simp; omega
                    have hX2 : ((x1 : Int) != (startF ps (p9 + 1) : Int)) = true := by simp; omega
                    gi_wp2_with fail
                    refine region_round rfl (by kernel_rfl) (by kernel_rfl) (by kernel_rfl) ?_
                    repeat (gi_big_quiet_step (fail))
                    refine wpQuietIn_nil ?_
                    rintro _ ⟨nq, rfl⟩
                    gi_wp2
                    first | exact ⟨keeps_goN _ _ _ _ _, rfl, HNE.out (by intro h; exact hxe h.1)⟩ | omega
              · have hpki : ¬ ((p9 + 1 : Nat) : Int) < (k : Int) := by omega
                have hA1 : decide (k ≤ p9 + 1) = true := by first | exact decide_eq_true (by omega) | (simp; omega)
                have hA2 : decide ((k : Int) ≤ ((p9 + 1 : Nat) : Int)) = true := by first | exact decide_eq_true (by omega) | (simp; omega)
                have hA5 : decide ((k : Int) ≤ (p9 : Int) + 1) = true := by first | exact decide_eq_true (by omega) | (simp; omega)
                gi_wp2_with fail
                refine region_round rfl (by kernel_rfl) (by kernel_rfl) (by kernel_rfl) ?_
                repeat (gi_big_quiet_step (fail))
                refine wpQuietIn_nil ?_
                rintro _ ⟨nq, rfl⟩
                gi_wp2
                first | exact ⟨keeps_goN _ _ _ _ _, rfl, HNE.out (by intro h; omega)⟩ | omega
          case done =>
            rintro D ys W hD hT ⟨R, hgd⟩ hK
            have hyl : ys.length = t := by have := congrArg List.length (tells_one hT HT.out); simpa using this
            obtain ⟨⟨r0, rf⟩, x6, x9, ⟨x10, f10⟩, rowE, KW⟩ := HC.out W ys.length R
            rw [hyl] at x10
            have HK : Hid _ := hK
            have HKW : Hid (Kept (fun _ => False) w W) := KW
            clear R hgd hT hK KW
            have fin : ∀ w12, Kept (fun _ => False) W.drew w12 → (w12.setCell ⟨w.heap.size, 0, none⟩ (.bool true)).heap[D]? = some (.deferred (some [])) ∧ ((w12.setCell ⟨w.heap.size, 0, none⟩ (.bool true)).putObj D (.deferred none)).cell? ⟨w.heap.size, 0, none⟩ = some (.bool true) ∧ Below w.heap.size w ((w12.setCell ⟨w.heap.size, 0, none⟩ (.bool true)).putObj D (.deferred none)) := fun w12 K12 => by
              have hlt := (Array.getElem?_eq_some_iff.1 HK.out).1
              have h12 : w12.heap[D]? = some (.deferred (some [])) := (K12.block D hlt (fun h => h)).trans HK.out
              have hK' := (KeepsOthers.setCell w12 ⟨w.heap.size, 0, none⟩ (.bool true)).same D _ h12 rfl
              have hr12 := (cell_keep K12 r0 (fun h => h)).1
              refine ⟨hK', cell_kept (World.cell?_setCell_same' w12 ⟨w.heap.size, 0, none⟩ (.bool true) (by rw [hr12]; rfl)) (grownBy_putObj' _ D (.deferred none)) (fun r e => by cases e; exact ⟨_, hK', rfl⟩), ?_⟩
              have KA : Kept (fun _ => False) w (w12.setCell ⟨w.heap.size, 0, none⟩ (.bool true)) := ((HKW.out.and (Kept.drew _ W)).and K12).trans (Kept.setCell (S := fun b => b = w.heap.size) _ _ _ rfl) (fun b h => .inr (Nat.le_of_eq (Eq.symm h)))
              exact KA.none.trans (belowK_b (w := w) (Nat.le_refl _) _ D _ _ (by have := HKW.out.size; have := HS.out.kept.size; have := KW2.size; omega) hK' rfl rfl)
            have HFN : Hid _ := fin
            clear fin
            by_cases htk2 : t = k
            · have hE1 : (t == k) = true := by simp; omega
              have hE2 : ((t : Int) == (k : Int)) = true := by simp; omega
              gi_wp2_with fail
              refine wpIn_onlyN (finE _ r0 rf x6 x9 x10 hE1 hE2 ?_)
              intro v82 v83 v84 v85 v86 v87 v88 v89 v90 v91 v92 v93 v94 v95 v96 w12 K12
              obtain ⟨hKd, hc5, hbl⟩ := HFN.out w12 K12
              gi_wp2
              refine ⟨by simp, .inl ⟨_, _, rfl, run_takeDeferred hKd, ?_⟩⟩
              refine ⟨.bool true, ?_, rfl, hbl⟩
              simp [results, Try.f4, go_sem, hc5]
            · have hE1 : (t == k) = false := by simp; omega
              have hE2 : ((t : Int) == (k : Int)) = false := by simp; omega
              have htlt : t < k := by omega
              have htk3 : kk < startF ps (t + 1) := by rcases ht3 with h | h; omega; exact h
              obtain ⟨ge, ce, he, _, _⟩ := rowE.form (by omega)
              simp only [Value.slice.injEq] at he
              obtain ⟨ha6, _, _⟩ := he
              have hcap6 : k ≤ c6 := by rcases rowE.2 with ⟨_, h0⟩ | ⟨g2, cap, cur, e, _, _, h1, _⟩; omega; (simp only [Value.slice.injEq] at e; omega)
              have hcE : W.cell? ⟨ge, t, none⟩ = some (.int .i64 (startF ps (t + 1) : Int)) := by
                have hro := rowE
                rw [ha6] at hro
                exact (ownsRow_get hro (k := t) (by unfold endsV; rw [List.getElem?_map, List.getElem?_range htlt]; rfl)).1
              gi_wp2_with fail
              refine wpIn_onlyN (finC _ r0 rf x6 x9 x10 hE1 hE2 htlt (by omega) hcap6 ha6 hcE (decide_eq_true htk3) (decide_eq_true (by omega)) ?_)
              intro v82 v83 v84 v85 v86 v87 v88 v89 v90 v91 v92 v93 v94 v95 v96 w12 K12
              obtain ⟨hKd, hc5, hbl⟩ := HFN.out w12 K12
              gi_wp2
              refine ⟨by simp, .inl ⟨_, _, rfl, run_takeDeferred hKd, ?_⟩⟩
              refine ⟨.bool true, ?_, rfl, hbl⟩
              simp [results, Try.f4, go_sem, hc5]
          case stop =>
            rintro D c pre W _ ⟨r, hr⟩ ⟨_, hng⟩ _
            exact absurd (goodF_end HT.out hr) hng

end Go.Proofs.Ytceocmhgbcimoab
