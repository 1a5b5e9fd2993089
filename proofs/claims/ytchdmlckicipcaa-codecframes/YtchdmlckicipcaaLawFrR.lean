/-
  What stands while CodecFrames ranges over the frames.
-/
import Derived.Test.YtchdmlckicipcaaLawFrH
namespace Go.Proofs.Ytchdmlckicipcaa
open Go.RowKit Go.Shelf

/-- What the rounds read: where to stop, the answer so far, the document's places and payloads. -/
structure RB (w W : World) (stop : Int) (s9 B : Nat) (fs : List XP) (vs : List Value) (a4 : Option Addr) (c4 : Nat) (a5 : Option Addr) (c5 : Nat) : Prop where
  box : W.heap[w.heap.size]? = some (.cells #[.int .i64 stop] 3 (0, 0))
  res : W.heap[w.heap.size + 1]? = some (.cells #[.bool false] 4 (0, 0))
  pl : W.heap[s9]? = some (.cells #[.slice a4 fs.length c4] 29 (0, 0))
  rw : W.heap[s9 + 1]? = some (.cells #[.slice a5 fs.length c5] 22 (0, 0))
  lo : w.heap.size + 2 ≤ s9
  at_ : W.ownsRow B 3 1 (.slice a4 fs.length c4) fs.length (fs.map (fun x => .int .i64 (x.1 : Int)))
  atl : ∀ b, (Value.slice a4 fs.length c4).ownBlock = some b → b < s9
  rows : W.ownsRow B 23 1 (.slice a5 fs.length c5) fs.length vs
  rowl : ∀ b, (Value.slice a5 fs.length c5).ownBlock = some b → b < s9
  each : ∀ (j : Nat) (x : XP), fs[j]? = some x → ∃ (a : Option Addr) (c : Nat), vs[j]? = some (Value.slice a x.2.length c) ∧ W.ownsRow B 5 1 (.slice a x.2.length c) x.2.length (x.2.map (Value.int .u8)) ∧ ∀ b, (Value.slice a x.2.length c).ownBlock = some b → b < s9
  kept : Kept (fun _ => False) w W

theorem RB.of {w W V : World} {stop : Int} {s9 B : Nat} {fs : List XP} {vs : List Value} {a4 : Option Addr} {c4 : Nat} {a5 : Option Addr} {c5 : Nat} (R : RB w W stop s9 B fs vs a4 c4 a5 c5) (K : Kept (fun b => s9 + 2 ≤ b) W V) : RB w V stop s9 B fs vs a4 c4 a5 c5 := by
  have hs := (Array.getElem?_eq_some_iff.1 R.rw).1
  have blk : ∀ b, b < s9 + 2 → V.heap[b]? = W.heap[b]? := fun b hb => K.block b (by omega) (by omega)
  have hlo := R.lo
  refine ⟨(blk _ (by omega)).trans R.box, (blk _ (by omega)).trans R.res, (blk _ (by omega)).trans R.pl, (blk _ (by omega)).trans R.rw, R.lo, ownsRow_block' R.at_ (fun b hb => blk b (by have := R.atl b hb; omega)), R.atl, ownsRow_block' R.rows (fun b hb => blk b (by have := R.rowl b hb; omega)), R.rowl, fun j x h => ?_, R.kept.trans K (fun b h => .inr (by omega))⟩
  obtain ⟨a, c, h1, h2, h3⟩ := R.each j x h
  exact ⟨a, c, h1, ownsRow_block' h2 (fun b hb => blk b (by have := h3 b hb; omega)), h3⟩

/-- Ahead of the range. -/
theorem RB.new {w w8 w9 w10 : World} {stop : Int} {ps : List (List Int)} {k : Nat} {wr : World} {a7 : Option Addr} {c7 : Nat} {fs : List XP} {vs : List Value} {a4 : Option Addr} {c4 : Nat} {a5 : Option Addr} {c5 : Nat} (S : FrSt w wr stop ps k a7 c7) (hg8 : wr.grownBy w8 (Value.slice a7 (startF ps k) c7).ownBlock) (F : FsSt w8 w9 fs vs a4 c4 a5 c5)
    (K : Kept (fun _ => False) (((w9.alloc (.cells #[.slice a4 fs.length c4] 29)).alloc (.cells #[.slice a5 fs.length c5] 22)).alloc (.cells #[.int .i64 0] 3)) w10) : RB w w10 stop w9.heap.size w8.heap.size fs vs a4 c4 a5 c5 ∧ w10.heap[w9.heap.size + 2]? = some (.cells #[.int .i64 ((0 : Nat) : Int)] 3 (0, 0)) := by
  have K8 : Kept (fun b => (Value.slice a7 (startF ps k) c7).ownBlock = some b) wr w8 := Kept.grown hg8 (fun k e => e)
  have hr := (Array.getElem?_eq_some_iff.1 S.res).1
  have low : ∀ b, b < w.heap.size + 2 → ¬ (Value.slice a7 (startF ps k) c7).ownBlock = some b := fun b hb e => by have := (S.all.lt b e).1; omega
  have b8 := (K8.block _ (by omega) (low w.heap.size (by omega))).trans S.box
  have r8 := (K8.block _ hr (low _ (by omega))).trans S.res
  have hz8 := K8.size
  have hz9 := F.kept.size
  have KA : Kept (fun _ => False) w9 (((w9.alloc (.cells #[.slice a4 fs.length c4] 29)).alloc (.cells #[.slice a5 fs.length c5] 22)).alloc (.cells #[.int .i64 0] 3)) := ((Kept.alloc _ _ _).and (Kept.alloc _ _ _)).and (Kept.alloc _ _ _)
  have K9 : Kept (fun _ => False) w9 w10 := KA.and K
  have K98 : Kept (fun _ => False) w8 w10 := F.kept.and K9
  have F10 := F.keep K9
  have e9 : (w9.alloc (.cells #[.slice a4 fs.length c4] 29)).heap.size = w9.heap.size + 1 := by simp
  have p1 : (w9.alloc (.cells #[.slice a4 fs.length c4] 29)).heap[w9.heap.size]? = some (.cells #[.slice a4 fs.length c4] 29 (0, 0)) := heap_alloc_new w9 _
  have p2 : ((w9.alloc (.cells #[.slice a4 fs.length c4] 29)).alloc (.cells #[.slice a5 fs.length c5] 22)).heap[w9.heap.size + 1]? = some (.cells #[.slice a5 fs.length c5] 22 (0, 0)) := by
    have := heap_alloc_new (w9.alloc (.cells #[.slice a4 fs.length c4] 29)) (.cells #[.slice a5 fs.length c5] 22)
    rw [e9] at this
    exact this
  have p3 : (((w9.alloc (.cells #[.slice a4 fs.length c4] 29)).alloc (.cells #[.slice a5 fs.length c5] 22)).alloc (.cells #[.int .i64 0] 3)).heap[w9.heap.size + 2]? = some (.cells #[.int .i64 0] 3 (0, 0)) := by
    have := heap_alloc_new ((w9.alloc (.cells #[.slice a4 fs.length c4] 29)).alloc (.cells #[.slice a5 fs.length c5] 22)) (.cells #[.int .i64 0] 3)
    rw [World.size_alloc, e9] at this
    exact this
  refine ⟨⟨(K98.block _ (by omega) (fun h => h)).trans b8, (K98.block _ (by omega) (fun h => h)).trans r8, ?_, ?_, by omega, F10.at_, fun b hb => (F.at_.lt b hb).2, F10.rows, fun b hb => (F.rows.lt b hb).2, fun j x h => ?_, (S.kept.trans K8 (fun b h => .inr (by have := (S.all.lt b h).1; omega))).and K98⟩, ?_⟩
  · refine (K.block _ (by simp <;> omega) (fun h => h)).trans ?_
    rw [Below.heap_alloc _ _ _ (by simp <;> omega), Below.heap_alloc _ _ _ (by simp)]
    exact p1
  · refine (K.block _ (by simp <;> omega) (fun h => h)).trans ?_
    rw [Below.heap_alloc _ _ _ (by simp)]
    exact p2
  · obtain ⟨a, c, h1, h2⟩ := F.each j x h
    obtain ⟨a', c', h1', h2'⟩ := F10.each j x h
    have e : Value.slice a x.2.length c = Value.slice a' x.2.length c' := Option.some.inj (h1.symm.trans h1')
    simp only [Value.slice.injEq, true_and] at e
    obtain ⟨rfl, rfl⟩ := e
    exact ⟨a, c, h1, h2', fun b hb => (h2.lt b hb).2⟩
  · exact (K.block _ (by simp) (fun h => h)).trans p3

theorem Kept.putObj {S : Nat → Prop} (W : World) (l : Nat) (o : Obj) (h : S l) : Kept S W (W.putObj l o) :=
  ⟨rfl, rfl, rfl, by simp [World.putObj], fun b _ hs => World.putObj_heap_other (fun e => hs (e ▸ h))⟩

/-- Bytes don't lie where a loop's record lies. -/
theorem bytes_apart {W : World} {a : Option Addr} {m c : Nat} {b : List Int} {l : Nat} {r : Loop} (B : BytesAt W a m c b) (hl : W.heap[l]? = some (.loop r)) : b ≠ [] → ∀ ad, a = some ad → ¬ ad.block = l := by
  intro hb ad e hal
  cases b with
  | nil => exact hb rfl
  | cons x t =>
    have h := B.cells ad e 0 (.int .u8 x) rfl
    have hz : (ad.add 0).block = l := by rw [block_add]; exact hal
    unfold World.cell? at h
    rw [hz, hl] at h
    simp at h

/-- Between two rounds. -/
structure RJ (w W : World) (stop : Int) (s9 B : Nat) (fs : List XP) (vs : List Value) (a4 : Option Addr) (c4 : Nat) (a5 : Option Addr) (c5 : Nat) (D : Nat) (r : Loop) (q : Nat) : Prop where
  rb : RB w W stop s9 B fs vs a4 c4 a5 c5
  kk : W.heap[s9 + 2]? = some (.cells #[.int .i64 (q : Int)] 3 (0, 0))
  lp : W.heap[D + 1]? = some (.loop r)
  df : W.heap[D]? = some (.deferred (some []))
  hi : s9 + 3 ≤ D

section
variable {w W V : World} {stop : Int} {s9 B : Nat} {fs : List XP} {vs : List Value} {a4 : Option Addr} {c4 : Nat} {a5 : Option Addr} {c5 : Nat} {D : Nat} {r : Loop} {q : Nat}

theorem RJ.keep (J : RJ w W stop s9 B fs vs a4 c4 a5 c5 D r q) (K : Kept (fun _ => False) W V) : RJ w V stop s9 B fs vs a4 c4 a5 c5 D r q := by
  have hl := (Array.getElem?_eq_some_iff.1 J.lp).1
  have hi := J.hi
  exact ⟨J.rb.of (K.mono (fun _ h => h.elim)), (K.block _ (by omega) (fun h => h)).trans J.kk, (K.block _ hl (fun h => h)).trans J.lp, (K.block _ (by omega) (fun h => h)).trans J.df, hi⟩

theorem RJ.put (J : RJ w W stop s9 B fs vs a4 c4 a5 c5 D r q) (r' : Loop) : RJ w (W.putObj (D + 1) (.loop r')) stop s9 B fs vs a4 c4 a5 c5 D r' q := by
  have hl := (Array.getElem?_eq_some_iff.1 J.lp).1
  have hi := J.hi
  exact ⟨J.rb.of (Kept.putObj _ _ _ (by omega)), (World.putObj_heap_other (by omega)).trans J.kk, World.putObj_heap_same hl, (World.putObj_heap_other (by omega)).trans J.df, hi⟩

theorem RJ.set (J : RJ w W stop s9 B fs vs a4 c4 a5 c5 D r q) (z : Int) (hz : z = ((q + 1 : Nat) : Int)) : RJ w (W.setCell ⟨s9 + 2, 0, none⟩ (.int .i64 z)) stop s9 B fs vs a4 c4 a5 c5 D r (q + 1) := by
  subst hz
  have hi := J.hi
  have K : Kept (fun b => b = s9 + 2) W (W.setCell ⟨s9 + 2, 0, none⟩ (.int .i64 ((q + 1 : Nat) : Int))) := Kept.setCell (S := fun b => b = s9 + 2) _ _ _ rfl
  have hl := (Array.getElem?_eq_some_iff.1 J.lp).1
  exact ⟨J.rb.of (K.mono (fun b h => by omega)), by simp [World.setCell, Array.getElem?_modify, J.kk], (K.block _ hl (by show ¬ D + 1 = s9 + 2; omega)).trans J.lp, (K.block _ (by omega) (by show ¬ D = s9 + 2; omega)).trans J.df, hi⟩

/-- What a round reads. -/
theorem RJ.cells (J : RJ w W stop s9 B fs vs a4 c4 a5 c5 D r q) : W.cell? ⟨w.heap.size, 0, none⟩ = some (.int .i64 stop) ∧ (W.cell? ⟨w.heap.size + 1, 0, none⟩ = some (.bool false) ∧ W.frozen? ⟨w.heap.size + 1, 0, none⟩ = false) ∧ W.cell? ⟨s9, 0, none⟩ = some (.slice a4 fs.length c4) ∧ W.cell? ⟨s9 + 1, 0, none⟩ = some (.slice a5 fs.length c5) ∧ (W.cell? ⟨s9 + 2, 0, none⟩ = some (.int .i64 (q : Int)) ∧ W.frozen? ⟨s9 + 2, 0, none⟩ = false) := by
  have h1 := J.rb.box
  have h2 := J.rb.res
  have h3 := J.rb.pl
  have h4 := J.rb.rw
  have h5 := J.kk
  exact ⟨by simp [World.cell?, h1], ⟨by simp [World.cell?, h2], by simp [World.frozen?, h2]⟩, by simp [World.cell?, h3], by simp [World.cell?, h4], by simp [World.cell?, h5], by simp [World.frozen?, h5]⟩

/-- The document's place and payload of a round. -/
theorem RJ.told (J : RJ w W stop s9 B fs vs a4 c4 a5 c5 D r q) {i : Nat} {p : List Int} (h : fs[q]? = some (i, p)) (hb : Bs p) : ∃ g4 g5 a c, a4 = some ⟨g4, 0, none⟩ ∧ a5 = some ⟨g5, 0, none⟩ ∧ fs.length ≤ c4 ∧ fs.length ≤ c5 ∧ W.cell? ⟨g4, q, none⟩ = some (.int .i64 (i : Int)) ∧ W.cell? ⟨g5, q, none⟩ = some (.slice a p.length c) ∧ BytesAt W a p.length c p := by
  have hq : q < fs.length := (List.getElem?_eq_some_iff.1 h).1
  obtain ⟨a, c, h1, h2, _⟩ := J.rb.each q (i, p) h
  have cap : ∀ {t : TypeId} {a : Option Addr} {c : Nat} {xs : List Value}, W.ownsRow B t 1 (.slice a fs.length c) fs.length xs → ∃ g, a = some ⟨g, 0, none⟩ ∧ fs.length ≤ c := fun {t a c xs} ho => by
    rcases ho.2 with ⟨_, h0⟩ | ⟨g, cap, cur, e, _, _, h1, _⟩
    · omega
    · simp only [Value.slice.injEq] at e
      exact ⟨g, e.1, by omega⟩
  obtain ⟨g4, rfl, hc4⟩ := cap J.rb.at_
  obtain ⟨g5, rfl, hc5⟩ := cap J.rb.rows
  exact ⟨g4, g5, a, c, rfl, rfl, hc4, hc5, (ownsRow_get J.rb.at_ (k := q) (by rw [List.getElem?_map, h]; rfl)).1, (ownsRow_get J.rb.rows (k := q) h1).1, BytesAt.ofRow h2 hb⟩

end

/-- A round has ended the range: the answer is true. -/
structure RX (w W : World) (D : Nat) (r : Loop) : Prop where
  res : W.heap[w.heap.size + 1]? = some (.cells #[.bool true] 4 (0, 0))
  lp : W.heap[D + 1]? = some (.loop r)
  df : W.heap[D]? = some (.deferred (some []))
  hi : w.heap.size + 2 ≤ D
  kept : Kept (fun _ => False) w W

theorem RX.put {w W : World} {D : Nat} {r : Loop} (X : RX w W D r) (r' : Loop) : RX w (W.putObj (D + 1) (.loop r')) D r' := by
  have hl := (Array.getElem?_eq_some_iff.1 X.lp).1
  have hi := X.hi
  exact ⟨(World.putObj_heap_other (by omega)).trans X.res, World.putObj_heap_same hl, (World.putObj_heap_other (by omega)).trans X.df, hi, X.kept.trans (Kept.putObj (S := fun b => b = D + 1) _ _ _ rfl) (fun b h => .inr (by omega))⟩

theorem RX.fin {w W : World} {D : Nat} {r : Loop} (X : RX w W D r) : W.heap[D]? = some (.deferred (some [])) ∧ (W.putObj D (.deferred none)).cell? ⟨w.heap.size + 1, 0, none⟩ = some (.bool true) ∧ Below w.heap.size w (W.putObj D (.deferred none)) := by
  have hi := X.hi
  have h : (W.putObj D (.deferred none)).heap[w.heap.size + 1]? = some (.cells #[.bool true] 4 (0, 0)) := (World.putObj_heap_other (by omega)).trans X.res
  exact ⟨X.df, by simp [World.cell?, h], (X.kept.trans (Kept.putObj (S := fun b => b = D) _ _ _ rfl) (fun b h => .inr (by omega))).none⟩

theorem RJ.ends {w W V : World} {stop : Int} {s9 B : Nat} {fs : List XP} {vs : List Value} {a4 : Option Addr} {c4 : Nat} {a5 : Option Addr} {c5 : Nat} {D : Nat} {r : Loop} {q : Nat} (J : RJ w W stop s9 B fs vs a4 c4 a5 c5 D r q) (K : Kept (fun _ => False) W V) : RX w (V.setCell ⟨w.heap.size + 1, 0, none⟩ (.bool true)) D r := by
  have J2 := J.keep K
  have hl := (Array.getElem?_eq_some_iff.1 J2.lp).1
  have hi := J.hi
  have hlo := J.rb.lo
  have K2 : Kept (fun b => b = w.heap.size + 1) V (V.setCell ⟨w.heap.size + 1, 0, none⟩ (.bool true)) := Kept.setCell (S := fun b => b = w.heap.size + 1) _ _ _ rfl
  exact ⟨by simp [World.setCell, Array.getElem?_modify, J2.rb.res], (K2.block _ hl (by show ¬ D + 1 = w.heap.size + 1; omega)).trans J2.lp, (K2.block _ (by omega) (by show ¬ D = w.heap.size + 1; omega)).trans J2.df, by omega, J2.rb.kept.trans K2 (fun b h => .inr (by omega))⟩

end Go.Proofs.Ytchdmlckicipcaa
