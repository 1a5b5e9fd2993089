/-
  What the walk of CodecFrames wants: an append within a fence, the payloads, the frames behind each other.
-/
import Derived.Test.YtchdmlckicipcaaLawFr7
import Derived.Test.YtchdmlckicipcaaCRefFrs
import Derived.Test.YtchdmlckicipcaaLawSplitL
namespace Go.Proofs.Ytchdmlckicipcaa
open Go.RowKit Go.Shelf
attribute [local go_sem] Oper.semAt_some

theorem wpListIn_append_src {F : Fence} {n' : Nat} {P : Program} (w : World) {ops : Array Oper} {rest : List Oper} {o : Oper} {a : Act} {Q : Exit → Act → World → Prop} (hgd : o.guard = none) (s x : Operand) (t : TypeId)
    (ho : o.op = .call { callee := .builtin .append, args := #[s, x], argTypes := #[t, t] })
    (base : Nat) (e : TypeId) (i : TypeInfo) (z : Value) (size bytes : Nat) (ht : P.underlying t = some (.slice e)) (hi : P.info? e = some i) (hz : i.zero = some z)
    (hsize : i.size = size) (hby : i.bytes = bytes) (hzs : z.cells.size = size) (hsz : 0 < size)
    (v : Value) (n : Nat) (xs : List Value) (hs : a.eval s = v) (hown : w.ownsRow base e size v n xs) (xv : Value) (hx : a.eval x = xv) (m : Nat) (news : List Value) (hsrc : Src w size xv m news) (h1 : ∀ u ∈ news, u.oneCell' = true)
    (h63 : n + m ≤ maxLen) (hbytes : (n + m) * bytes ≤ 140737488355328) (hbase : base ≤ w.heap.size)
    (h : ∀ a' cap w', w'.ownsRow base e size (.slice a' (n + m) cap) (n + m) (xs ++ news) → w.grownBy w' v.ownBlock → ((Value.slice a' (n + m) cap).ownBlock = v.ownBlock ∨ (Value.slice a' (n + m) cap).ownBlock = some w.heap.size) → wpListIn F n' P ops Q rest (a.put o.dst (.slice a' (n + m) cap)) w') :
    wpListIn F n' P ops Q (o :: rest) a w := by
  refine wpListIn_plain hgd fun K hK => ?_
  obtain ⟨v', w', hrun, h2, h3, _, h5⟩ := run_append_src (P := P) w base t o.type e i z size bytes ht hi hz hsize hby hzs hsz v n xs hown xv m news hsrc h1 h63 hbytes hbase
  obtain ⟨a', cap, rfl⟩ := ownsRow_shape h2
  unfold Oper.wpIn
  refine ⟨?_, ?_⟩
  · simp [Oper.about, ho, resolve, Target.leads, Sem.run_pure]
  · rw [Oper.semAt_plain F _ _ (by rw [ho]; intro c hc'; cases hc')]
    simp [execOp, ho, resolve, invoke, builtin, hs, hx, hrun, Result.andThen]
    exact hK _ _ (h a' cap w' h2 h3 h5)

theorem func_nil (f : FuncId) (lb : Array Value) (w : World) : (binOp .eql 33 (.func (.func f) #[] lb) .nilFunc).run Try.prog w = .ok (.bool false) w := by
  have h : ∀ d : Nat, (Op.equalIn (d + 1) 33 (.func (.func f) #[] lb) .nilFunc).run Try.prog w = .ok false w := fun d => by
    simp [Op.equalIn, run_underlying Try.underlying33]
  simp only [binOp]
  simp [Op.equal, Op.maxDepth, h 9999]

theorem LAt.kept {w w' : World} {a : Option Addr} {n c : Nat} {xs : List PX} (O : LAt w a n c xs) (K : Kept (fun _ => False) w w') : LAt w' a n c xs := by
  refine ⟨O.len, O.cap, fun ad e hn => ?_, fun x hx => (O.bytes x hx).kept K (fun _ _ _ h => h), O.nil⟩
  obtain ⟨h1, h2⟩ := O.cells ad e hn
  exact ⟨h1, fun i x hx => (cell_keep K (h2 i x hx) (fun h => h)).1⟩

theorem flatF_next (ps : List (List Int)) (k : Nat) (p : List Int) (h : ps[k]? = some p) : flatF (ps.take (k + 1)) = flatF (ps.take k) ++ frameB p := by
  unfold flatF
  rw [List.take_add_one, h, List.flatMap_append]
  simp

/-- The payloads that are framed: ten at most, of each 3000 bytes at most. -/
def paylT (xs : List PX) : List (List Int) := (xs.map (fun x => x.2.2.2.take 3000)).take 10

theorem paylT_bs {w : World} {a : Option Addr} {n c : Nat} {xs : List PX} (O : LAt w a n c xs) : ∀ p ∈ paylT xs, Bs p ∧ p.length ≤ 3000 := by
  intro p hp
  obtain ⟨x, hx, rfl⟩ := List.mem_map.1 (List.mem_of_mem_take hp)
  exact ⟨Bs.take (O.bytes x hx).byte 3000, List.length_take_le _ _⟩

theorem paylT_get {xs : List PX} {k : Nat} {x : PX} (h : xs[k]? = some x) (hk : k < 10) : (paylT xs)[k]? = some (x.2.2.2.take 3000) := by
  unfold paylT
  rw [List.getElem?_take, if_pos hk, List.getElem?_map, h]
  rfl

theorem startT_le {ps : List (List Int)} (h : ∀ p ∈ ps, Bs p ∧ p.length ≤ 3000) : ∀ k, startF ps k ≤ 3008 * k := by
  intro k
  induction k with
  | zero => simp [startF, flatF]
  | succ k ih =>
    cases hp : ps[k]? with
    | none =>
      have : startF ps (k + 1) = startF ps k := by unfold startF; rw [List.take_add_one, hp]; simp
      omega
    | some p =>
      have := startF_succ ps k p hp
      have := (h p (List.mem_of_getElem? hp)).2
      omega

/-- A frame is found again, whatever lies behind it. -/
theorem unfr_more (p more : List Int) (hp : Bs p) (hl : p.length ≤ 1048576) : unfr (frameB p ++ more) = some p := by
  have hlen : (frameB p ++ more).length = 8 + p.length + more.length := by rw [List.length_append, frameB_length]
  have hv : valB (((frameB p ++ more).drop 0).take 4) = (p.length : Int) := by rw [frameB_head, valB_low4 (by omega)]
  unfold unfr
  rw [if_neg (by omega), hv, Int.toNat_natCast, if_neg (by omega), frameB_pay, frameB_sum, valB_low4 (crc_lt p hp), if_pos rfl]

/-- On the way of laying the frames behind each other. -/
structure FrSt (w wr : World) (stop : Int) (ps : List (List Int)) (k : Nat) (a7 : Option Addr) (c7 : Nat) : Prop where
  box : wr.heap[w.heap.size]? = some (.cells #[.int .i64 stop] 3 (0, 0))
  res : wr.heap[w.heap.size + 1]? = some (.cells #[.bool false] 4 (0, 0))
  all : wr.ownsRow (w.heap.size + 2) 5 1 (.slice a7 (startF ps k) c7) (startF ps k) ((flatF (ps.take k)).map (Value.int .u8))
  kept : Kept (fun _ => False) w wr

theorem FrSt.new (w : World) (stop : Int) (ps : List (List Int)) : FrSt w ((w.alloc (.cells #[.int .i64 stop] 3)).alloc (.cells #[.bool false] 4)) stop ps 0 none 0 := by
  have e0 : startF ps 0 = 0 := by simp [startF, flatF]
  refine ⟨?_, ?_, ?_, (Kept.alloc _ _ _).and (Kept.alloc _ _ _)⟩
  · rw [Below.heap_alloc _ _ _ (by simp), heap_alloc_new]
  · have := heap_alloc_new (w.alloc (.cells #[.int .i64 stop] 3)) (.cells #[.bool false] 4)
    rw [World.size_alloc] at this
    exact this
  · rw [e0]
    exact World.ownsRow_nil _ _ _ _

/-- Behind a round: more bytes are appended, all else is as it was. -/
theorem FrSt.go {w wr w6 w7 : World} {stop : Int} {ps qs : List (List Int)} {k j : Nat} {a7 : Option Addr} {c7 : Nat} {b7 : Option Addr} {d7 : Nat} (S : FrSt w wr stop ps k a7 c7) (K6 : Kept (fun _ => False) wr w6) (hg : w6.grownBy w7 (Value.slice a7 (startF ps k) c7).ownBlock)
    (row : w7.ownsRow (w.heap.size + 2) 5 1 (.slice b7 (startF qs j) d7) (startF qs j) ((flatF (qs.take j)).map (Value.int .u8))) : FrSt w w7 stop qs j b7 d7 := by
  have K7 : Kept (fun b => (Value.slice a7 (startF ps k) c7).ownBlock = some b) w6 w7 := Kept.grown hg (fun k e => e)
  have K : Kept (fun b => (Value.slice a7 (startF ps k) c7).ownBlock = some b) wr w7 := (K6.mono (fun _ h => h.elim)).and K7
  have hr := (Array.getElem?_eq_some_iff.1 S.res).1
  have low : ∀ b, b < w.heap.size + 2 → ¬ (Value.slice a7 (startF ps k) c7).ownBlock = some b := fun b hb e => by have := (S.all.lt b e).1; omega
  exact ⟨(K.block _ (by omega) (low _ (by omega))).trans S.box, (K.block _ hr (low _ (by omega))).trans S.res, row, S.kept.trans K (fun b h => .inr (by have := (S.all.lt b h).1; omega))⟩

end Go.Proofs.Ytchdmlckicipcaa
