/-
  goOn as data: nodes begin, as long as some may.
-/
import Derived.Test.YtdecceekodpjiaaDoorHM7
namespace Go.Proofs.YtdecceekodpjiaaDoor
open Go.RowKit

/-- How a row of beginnings ends. -/
inductive Way where
  | stop | again | through

def goRow (nm : ByteArray) (ns : List Nd) : Rn → List Nat → Rn × Way
  | r, [] => (r, .through)
  | r, i :: l => match ns[i]? with
    | none => (r, .stop)
    | some x => if (beginP nm ns r x).st.status ≠ 1 then (beginP nm ns r x, .stop)
      else if ((beginP nm ns r x).st.nodes[i]?.map (fun y => y.status)) = some 3 then (beginP nm ns r x, .again)
      else goRow nm ns (beginP nm ns r x) l

def goReady (ns : List Nd) (r : Rn) : List Nat := rdyL ns (overL r.st.nodes) (begunL r.st.nodes ns.length) ns.length

def lastP (l : List Ns) : ByteArray := (l.getLast?.map (fun x => x.text)).getD ⟨#[]⟩

def goP (nm : ByteArray) (ns : List Nd) : Nat → Rn → Rn
  | 0, r => r
  | f + 1, r => match goRow nm ns r (goReady ns r) with
    | (r1, .stop) => r1
    | (r1, .again) => goP nm ns f r1
    | (r1, .through) => if restC r1.st.nodes = 0 then endP nm ns r1 2 (lastP r1.st.nodes) else r1

def goOnP (nm : ByteArray) (ns : List Nd) (r : Rn) : Rn := goP nm ns (restC r.st.nodes + 1) r

/-- What no event but the first changes. -/
structure Grow (s s' : St) : Prop where
  len : s'.nodes.length = s.nodes.length
  over : ∀ (i : Nat) (x : Ns), s.nodes[i]? = some x → x.status = 3 → s'.nodes[i]? = some x
  id : s'.id = s.id
  par : s'.par = s.par
  pnode : s'.pnode = s.pnode
  dfn : s'.dfn = s.dfn

theorem Grow.refl (s : St) : Grow s s := ⟨rfl, fun _ _ h _ => h, rfl, rfl, rfl, rfl⟩
theorem Grow.trans {s s1 s2 : St} (a : Grow s s1) (b : Grow s1 s2) : Grow s s2 :=
  ⟨b.len.trans a.len, fun i x h h3 => b.over i x (a.over i x h h3) h3, b.id.trans a.id, b.par.trans a.par, b.pnode.trans a.pnode, b.dfn.trans a.dfn⟩

theorem moveP_src {e k s : Int} {m : Mv} (h : moveP e k s = some m) : m ∈ movesL ∧ m.src = s := by
  unfold moveP at h
  refine ⟨List.mem_of_find?_eq_some h, ?_⟩
  have := List.find?_some h
  unfold Mv.fits at this
  simp at this
  exact this.2.1

theorem moves_src : ∀ m ∈ movesL, m.src ≠ 3 := by
  intro m hm
  simp only [movesL, List.mem_cons, List.not_mem_nil, or_false] at hm
  rcases hm with rfl | rfl | rfl | rfl | rfl | rfl | rfl | rfl | rfl | rfl | rfl | rfl | rfl | rfl <;> decide

theorem changeP_grow {nm : ByteArray} {ns : List Nd} {s s' : St} {e : Ev} (h : changeP nm ns s e = some s') (he : e.kind ≠ 1) : Grow s s' := by
  unfold changeP at h
  rw [if_neg he] at h
  split at h
  · cases h
  try rw [if_neg he] at h
  split at h
  · cases h
    exact ⟨rfl, fun _ _ h _ => h, rfl, rfl, rfl, rfl⟩
  split at h
  · split at h
    · cases h
      exact ⟨rfl, fun _ _ h _ => h, rfl, rfl, rfl, rfl⟩
    · cases h
  · cases hc : changeNodeP ns s e with
    | none => rw [hc] at h; cases h
    | some t =>
      rw [hc] at h
      cases h
      unfold changeNodeP at hc
      split at hc
      · cases hc
      split at hc
      · cases hc
      split at hc
      · cases hc
      · rename_i i _ _ m hm _ l hl
        cases hc
        refine ⟨setNode_len _ _ _ _, fun j x hx h3 => ?_, rfl, rfl, rfl, rfl⟩
        show (setNode s.nodes i m e)[j]? = some x
        unfold setNode
        rw [List.getElem?_modify]
        by_cases hj : i = j
        · subst hj
          unfold nodeMove at hm
          rw [hx] at hm
          split at hm
          · rename_i n y _ hy
            cases hy
            obtain ⟨h1, h2⟩ := moveP_src hm
            exact absurd (h2.trans h3) (moves_src m h1)
          · cases hm
        · simp [hj, hx]

theorem tellP_grow {nm : ByteArray} {ns : List Nd} {r : Rn} {e : Ev} {ts : List Tk} (he : e.kind ≠ 1) : Grow r.st (tellP nm ns r e ts).st := by
  unfold tellP
  split
  · exact Grow.refl _
  · rename_i s hs
    exact changeP_grow hs he

theorem tellP_now {nm : ByteArray} {ns : List Nd} {r : Rn} {e : Ev} {ts : List Tk} : (tellP nm ns r e ts).now = r.now := by
  unfold tellP
  split <;> rfl

theorem endP_grow {nm : ByteArray} {ns : List Nd} {r : Rn} {st : Int} {tx : ByteArray} : Grow r.st (endP nm ns r st tx).st := tellP_grow (by show (15 : Int) ≠ 1; decide)

theorem breakP_grow {nm : ByteArray} {ns : List Nd} {r : Rn} {x tx : ByteArray} : Grow r.st (breakP nm ns r x tx).st := (tellP_grow (by show (6 : Int) ≠ 1; decide)).trans endP_grow

theorem beginP_grow {nm : ByteArray} {ns : List Nd} {r : Rn} {x : Nd} : Grow r.st (beginP nm ns r x).st := by
  unfold beginP askP waitP
  repeat' split
  all_goals first
    | exact breakP_grow
    | exact Grow.refl _
    | exact tellP_grow (by simp)

theorem endP_now {nm : ByteArray} {ns : List Nd} {r : Rn} {st : Int} {tx : ByteArray} : (endP nm ns r st tx).now = r.now := tellP_now
theorem breakP_now {nm : ByteArray} {ns : List Nd} {r : Rn} {x tx : ByteArray} : (breakP nm ns r x tx).now = r.now := endP_now.trans tellP_now

theorem beginP_now {nm : ByteArray} {ns : List Nd} {r : Rn} {x : Nd} : (beginP nm ns r x).now = r.now := by
  unfold beginP askP waitP
  repeat' split
  all_goals first
    | exact tellP_now
    | exact breakP_now
    | rfl

theorem goRow_grow {nm : ByteArray} {ns : List Nd} : ∀ (l : List Nat) (r : Rn), Grow r.st (goRow nm ns r l).1.st
  | [], r => Grow.refl _
  | i :: l, r => by
    unfold goRow
    split
    · exact Grow.refl _
    · split
      · exact beginP_grow
      · split
        · exact beginP_grow
        · exact beginP_grow.trans (goRow_grow l _)

/-- Where a row ends by beginning anew, one of its nodes is over. -/
theorem goRow_again {nm : ByteArray} {ns : List Nd} : ∀ (l : List Nat) (r : Rn), (goRow nm ns r l).2 = .again → ∃ i ∈ l, ((goRow nm ns r l).1.st.nodes[i]?.map (fun y => y.status)) = some 3
  | [], r, h => by cases h
  | i :: l, r, h => by
    unfold goRow at h ⊢
    split at h
    · cases h
    · rename_i x hx
      try rw [hx]
      try dsimp only
      split at h
      · cases h
      · rename_i hs
        rw [if_neg hs]
        split at h
        · rename_i h3
          rw [if_pos h3]
          exact ⟨i, List.mem_cons_self, h3⟩
        · rename_i h3
          rw [if_neg h3]
          obtain ⟨j, hj, h⟩ := goRow_again l _ h
          exact ⟨j, List.mem_cons_of_mem _ hj, h⟩

theorem goReady_idle {ns : List Nd} {r : Rn} {i : Nat} (h : i ∈ goReady ns r) : i < ns.length ∧ ∃ y, r.st.nodes[i]? = some y ∧ y.status = 0 := by
  unfold goReady rdyL at h
  rw [List.mem_filter, List.mem_range] at h
  obtain ⟨hi, hb⟩ := h
  refine ⟨hi, ?_⟩
  unfold rdyB at hb
  rw [Bool.and_eq_true] at hb
  have h1 := hb.1
  unfold begunL at h1
  rw [List.getD_eq_getElem?_getD, List.getElem?_map, List.getElem?_range hi] at h1
  simp only [Option.map_some, Option.getD_some] at h1
  unfold begunB at h1
  split at h1
  · cases h1
  · rename_i y hy
    exact ⟨y, hy, by simpa using h1⟩

theorem restC_le {l l' : List Ns} (hl : l'.length = l.length) (ho : ∀ (i : Nat) (x : Ns), l[i]? = some x → x.status = 3 → l'[i]? = some x) : restC l' ≤ restC l := by
  induction l generalizing l' with
  | nil =>
    have : l' = [] := List.eq_nil_of_length_eq_zero hl
    subst this
    exact Nat.le_refl _
  | cons x l ih =>
    cases l' with
    | nil => cases hl
    | cons y l' =>
      have := ih (l' := l') (by simpa using hl) (fun i z h h3 => by simpa using ho (i + 1) z (by simpa using h) h3)
      unfold restC at this ⊢
      rw [List.countP_cons, List.countP_cons]
      by_cases hx : x.status = 3
      · have hy : y = x := by simpa using ho 0 x rfl hx
        subst hy
        omega
      · rw [if_pos (show (!(x.status == 3)) = true by simp [hx])]
        split <;> omega

theorem restC_lt {l l' : List Ns} (hl : l'.length = l.length) (ho : ∀ (i : Nat) (x : Ns), l[i]? = some x → x.status = 3 → l'[i]? = some x) {i : Nat} (h0 : ∃ y, l[i]? = some y ∧ y.status = 0) (h3 : (l'[i]?.map (fun y => y.status)) = some 3) : restC l' < restC l := by
  induction l generalizing l' i with
  | nil =>
    obtain ⟨y, hy, _⟩ := h0
    cases hy
  | cons x l ih =>
    cases l' with
    | nil => cases hl
    | cons y l' =>
      have hl' : l'.length = l.length := by simpa using hl
      have ho' : ∀ (i : Nat) (z : Ns), l[i]? = some z → z.status = 3 → l'[i]? = some z := fun i z h h3 => by simpa using ho (i + 1) z (by simpa using h) h3
      cases i with
      | zero =>
        have hle := restC_le hl' ho'
        obtain ⟨z, hz, hz0⟩ := h0
        obtain rfl : x = z := by simpa using hz
        have hy3 : y.status = 3 := by simpa using h3
        unfold restC at hle ⊢
        rw [List.countP_cons, List.countP_cons, if_pos (show (!(x.status == 3)) = true by simp [hz0]), if_neg (show ¬ (!(y.status == 3)) = true by simp [hy3])]
        omega
      | succ i =>
        have := ih (l' := l') hl' ho' (i := i) (by simpa using h0) (by simpa using h3)
        unfold restC at this ⊢
        rw [List.countP_cons, List.countP_cons]
        by_cases hx : x.status = 3
        · have hy : y = x := by simpa using ho 0 x rfl hx
          subst hy
          omega
        · rw [if_pos (show (!(x.status == 3)) = true by simp [hx])]
          split <;> omega

/-- Each pass that begins anew has fewer nodes that are not over. -/
theorem goRow_less {nm : ByteArray} {ns : List Nd} {r r1 : Rn} (h : goRow nm ns r (goReady ns r) = (r1, .again)) : restC r1.st.nodes < restC r.st.nodes := by
  have hg := goRow_grow (nm := nm) (ns := ns) (goReady ns r) r
  obtain ⟨i, hi, h3⟩ := goRow_again (nm := nm) (ns := ns) (goReady ns r) r (by rw [h])
  rw [h] at hg h3
  exact restC_lt hg.len hg.over (goReady_idle hi).2 h3

theorem Fit.mono {r : Rn} {m m' : Nat} (F : Fit r m) (h : m ≤ m') : Fit r m' :=
  ⟨F.idsz, F.nodes, Nat.le_trans F.sigs h, F.ev0, by have := F.ev1; omega, Nat.le_trans F.evs h, Nat.le_trans F.tks h⟩

theorem mailsP_len (ns : List Nd) (s : St) (st : Int) (tx : ByteArray) : (mailsP ns s st tx).length ≤ ns.length + 1 := by
  unfold mailsP
  rw [List.length_append]
  have := cancelL_len ns s tx (min ns.length s.nodes.length)
  split <;> simp only [List.length_nil, List.length_cons] <;> omega

theorem endP_fit {nm : ByteArray} {ns : List Nd} {r : Rn} {m : Nat} (F : Fit r m) (hn : ns.length ≤ 1000000) (st : Int) (tx : ByteArray) : Fit (endP nm ns r st tx) (m + ns.length + 2) :=
  (tellP_fit F hn _ _).mono (by have := mailsP_len ns r.st st tx; omega)

theorem breakP_fit {nm : ByteArray} {ns : List Nd} {r : Rn} {m : Nat} (F : Fit r m) (hn : ns.length ≤ 1000000) (x tx : ByteArray) : Fit (breakP nm ns r x tx) (m + ns.length + 3) :=
  (endP_fit (tellP_fit F hn ⟨6, x, tx, 0⟩ []) hn 3 tx).mono (by simp only [List.length_nil]; omega)

theorem beginP_fit {nm : ByteArray} {ns : List Nd} {r : Rn} {m : Nat} (F : Fit r m) (hn : ns.length ≤ 1000000) (x : Nd) : Fit (beginP nm ns r x) (m + ns.length + 3) := by
  unfold beginP askP waitP
  repeat' split
  all_goals first
    | exact breakP_fit F hn _ _
    | exact F.mono (by omega)
    | exact (tellP_fit F hn _ _).mono (by simp only [List.length_nil, List.length_cons]; omega)

theorem goRow_fit {nm : ByteArray} {ns : List Nd} (hn : ns.length ≤ 1000000) : ∀ (l : List Nat) (r : Rn) (m : Nat), Fit r m → Fit (goRow nm ns r l).1 (m + l.length * (ns.length + 3))
  | [], r, m, F => F.mono (by simp)
  | i :: l, r, m, F => by
    have e : (i :: l).length * (ns.length + 3) = l.length * (ns.length + 3) + (ns.length + 3) := by rw [List.length_cons, Nat.add_mul, Nat.one_mul]
    unfold goRow
    split
    · exact F.mono (by omega)
    · split
      · exact (beginP_fit F hn _).mono (by omega)
      · split
        · exact (beginP_fit F hn _).mono (by omega)
        · exact (goRow_fit hn l _ _ (beginP_fit F hn _)).mono (by omega)

end Go.Proofs.YtdecceekodpjiaaDoor

/-
  What an input makes of a run, as data.
-/
namespace Go.Proofs.YtdecceekodpjiaaDoor
open Go.RowKit

/-- The node of a name, of one of the kinds. -/
def findK (ns : List Nd) (s : St) (x : ByteArray) (ks : List Int) : Option Nat :=
  match findP ns x with
  | none => none
  | some i => match ns[i]? with
    | none => none
    | some n => if i < s.nodes.length ∧ ks.contains n.kind = true then some i else none

def busyB (ns : List Nd) (s : St) (i : Nat) (tr : Int) : Bool := match ns[i]?, s.nodes[i]? with
  | some n, some y => (y.status == 2) && (!(n.kind == 1) || (y.tr == tr))
  | _, _ => false

/-- The busy node, of one of the kinds, that an input ends; and why not. -/
def busyP (ns : List Nd) (s : St) (q : Inp) (ks : List Int) : Nat × Int :=
  match findK ns s q.node ks with
  | none => (0, 6)
  | some i => if busyB ns s i q.tr then (i, 0) else (0, 12)

def waitB (ns : List Nd) (s : St) (x : ByteArray) (i : Nat) : Bool := match ns[i]?, s.nodes[i]? with
  | some n, some y => (n.kind == 4) && (decide (n.arg = x) && (y.status == 2))
  | _, _ => false

/-- The first node that waits for a signal. -/
def busyWaitP (ns : List Nd) (s : St) (x : ByteArray) : Option Nat := (List.range (min ns.length s.nodes.length)).find? (waitB ns s x)

def nmAt (ns : List Nd) (i : Nat) : ByteArray := match ns[i]? with | some n => n.name | none => ⟨#[]⟩

def timeoutB : ByteArray := ⟨#[116, 105, 109, 101, 111, 117, 116]⟩

def failTryP (nm : ByteArray) (ns : List Nd) (r : Rn) (i : Nat) (tx : ByteArray) : Rn := match ns[i]?, r.st.nodes[i]? with
  | some n, some y => if n.tries ≤ y.tr then breakP nm ns r n.name tx else tellP nm ns r ⟨5, n.name, tx, y.tr⟩ [⟨1, ⟨#[]⟩, n.name, IntKind.i64.wrap (y.tr + 1), 0, zeroMl⟩]
  | _, _ => r

def alarmL (r : Rn) (q : Inp) (n : Nd) (tr : Int) : List Tk := if 0 < n.delay then [⟨2, ⟨#[]⟩, q.node, tr, IntKind.i64.wrap (r.now + n.delay), zeroMl⟩] else []

def takeP (nm : ByteArray) (ns : List Nd) (r : Rn) (q : Inp) : Rn × Int := match findK ns r.st q.node [1] with
  | none => (r, 6)
  | some i => match ns[i]?, r.st.nodes[i]? with
    | some n, some y => if y.status = 1 then (tellP nm ns r ⟨3, q.node, ⟨#[]⟩, IntKind.i64.wrap (y.tr + 1)⟩ (alarmL r q n (IntKind.i64.wrap (y.tr + 1))), 0) else (r, 12)
    | _, _ => (r, 6)

def completeP (nm : ByteArray) (ns : List Nd) (r : Rn) (q : Inp) : Rn × Int := match busyP ns r.st q [1] with
  | (_, e) => if e ≠ 0 then (r, e) else if 256 < q.text.size then (r, 9) else (goOnP nm ns (tellP nm ns r ⟨4, q.node, q.text, 0⟩ []), 0)

def failP (nm : ByteArray) (ns : List Nd) (r : Rn) (q : Inp) : Rn × Int := match busyP ns r.st q [1] with
  | (i, e) => if e ≠ 0 then (r, e) else if 256 < q.text.size then (r, 9) else (failTryP nm ns r i q.text, 0)

def kindAt (ns : List Nd) (i : Nat) : Int := match ns[i]? with | some n => n.kind | none => 0

def fireP (nm : ByteArray) (ns : List Nd) (r : Rn) (q : Inp) : Rn × Int := match busyP ns r.st q [1, 2] with
  | (i, e) => if e ≠ 0 then (r, e) else if kindAt ns i = 1 then (failTryP nm ns r i timeoutB, 0) else (goOnP nm ns (tellP nm ns r ⟨8, q.node, ⟨#[]⟩, 0⟩ []), 0)

def kidP (nm : ByteArray) (ns : List Nd) (r : Rn) (q : Inp) : Rn × Int := match busyP ns r.st q [3] with
  | (_, e) => if e ≠ 0 then (r, e) else if q.status ≠ 2 then (breakP nm ns r q.node q.text, 0) else (goOnP nm ns (tellP nm ns r ⟨10, q.node, q.text, 0⟩ []), 0)

def cancelP (nm : ByteArray) (ns : List Nd) (r : Rn) (q : Inp) : Rn × Int := if 256 < q.text.size then (r, 9) else (endP nm ns r 4 q.text, 0)

def signalP (nm : ByteArray) (ns : List Nd) (r : Rn) (q : Inp) : Rn × Int :=
  if nameP q.name = false then (r, 17)
  else if 256 < q.text.size then (r, 9)
  else match busyWaitP ns r.st q.name with
    | some i => (goOnP nm ns (tellP nm ns r ⟨12, nmAt ns i, q.text, 0⟩ []), 0)
    | none => if 32 ≤ r.st.sigs.length then (r, 8) else (tellP nm ns r ⟨13, q.name, q.text, 0⟩ [], 0)

def startP (nm : ByteArray) (ns : List Nd) (r : Rn) (q : Inp) : Rn × Int :=
  if r.st.status ≠ 0 then (r, 7)
  else (goOnP nm ns (tellP nm ns { r with st := { r.st with id := q.name } } ⟨1, q.pnode, q.par, 0⟩ []), 0)

def doP (nm : ByteArray) (ns : List Nd) (r : Rn) (q : Inp) : Rn × Int :=
  if q.kind = 1 then startP nm ns r q
  else if r.st.status = 0 then (r, 6)
  else if r.st.status ≠ 1 then (r, 11)
  else if q.kind = 2 then signalP nm ns r q
  else if q.kind = 3 then takeP nm ns r q
  else if q.kind = 4 then completeP nm ns r q
  else if q.kind = 5 then failP nm ns r q
  else if q.kind = 6 then fireP nm ns r q
  else if q.kind = 7 then kidP nm ns r q
  else if q.kind = 8 then cancelP nm ns r q
  else (r, 1)

def stepP (nm : ByteArray) (ns : List Nd) (s : St) (q : Inp) : Rn × Int := doP nm ns ⟨s, q.now, [], []⟩ q

theorem findK_some {ns : List Nd} {s : St} {x : ByteArray} {ks : List Int} {i : Nat} (h : findK ns s x ks = some i) : ∃ (h1 : i < ns.length) (_ : i < s.nodes.length), findP ns x = some i ∧ ks.contains (ns[i]).kind = true := by
  unfold findK at h
  split at h
  · cases h
  · rename_i j hj
    split at h
    · cases h
    · rename_i n hn
      split at h
      · rename_i hc
        cases h
        obtain ⟨h1, rfl⟩ := List.getElem?_eq_some_iff.1 hn
        exact ⟨h1, hc.1, hj, hc.2⟩
      · cases h

theorem busyP_ok {ns : List Nd} {s : St} {q : Inp} {ks : List Int} {i : Nat} (h : busyP ns s q ks = (i, 0)) : findK ns s q.node ks = some i ∧ busyB ns s i q.tr = true := by
  unfold busyP at h
  split at h
  · simp at h
  · rename_i j hj
    split at h
    · rename_i hb
      simp only [Prod.mk.injEq, and_true] at h
      subst h
      exact ⟨hj, hb⟩
    · simp at h

end Go.Proofs.YtdecceekodpjiaaDoor

/-
  busyWait, find, failTry, take: their regions that draw their order.
-/
namespace Go.Proofs.YtdecceekodpjiaaDoor
open Go.RowKit

set_option maxRecDepth 100000 in
set_option maxHeartbeats 8000000 in
theorem bwt1 {W : World} {sb : Nat} {d0 d1 q0 q1 q2 q3 q4 q5 q6 q7 q8 z : Value} {ds : List Deferred} {u1 u2 u3 u4 u5 u6 u7 u8 u9 u10 u11 u12 u13 u14 u15 u16 u17 u18 u19 u20 u21 u22 u23 u24 u25 u26 u27 u28 u29 u30 u31 u32 u33 u34 u35 u36 u37 u38 u39 u40 u41 u42 u43 u44 u45 u46 u47 u48 u49 u50 u51 : Value} (K : Act → World → Prop)
    (x0 : W.cell? ⟨sb, 0, none⟩ = some (d0)) (x1 : W.cell? ⟨sb, 1, none⟩ = some (d1)) (x2 : W.cell? ⟨sb, 2, none⟩ = some (q0)) (x3 : W.cell? ⟨sb, 3, none⟩ = some (q1)) (x4 : W.cell? ⟨sb, 4, none⟩ = some (q2)) (x5 : W.cell? ⟨sb, 5, none⟩ = some (q3)) (x6 : W.cell? ⟨sb, 6, none⟩ = some (q4)) (x7 : W.cell? ⟨sb, 7, none⟩ = some (q5)) (x8 : W.cell? ⟨sb, 8, none⟩ = some (q6)) (x9 : W.cell? ⟨sb, 9, none⟩ = some (q7)) (x10 : W.cell? ⟨sb, 10, none⟩ = some (q8))
    (hC : Calls Tryd.prog 53 #[.agg #[d0, d1], .agg #[q0, q1, q2, q3, q4, q5, q6, q7, q8]] W.drew fun e w' => e = .returned z ∧ Kept (fun _ => False) W.drew w')
    (h : ∀ (v8 v9 v10 v11 v12 v13 v14 v15 : Value) (w5 : World), Kept (fun _ => False) W w5 → K { tmps := #[.pointer (some ⟨sb, 0, none⟩), u1, u2, u3, u4, u5, u6, u7, v8, v9, v10, v11, v12, v13, v14, v15, z, .int .i64 0, u18, u19, u20, u21, u22, u23, u24, u25, u26, u27, u28, u29, u30, u31, u32, u33, u34, u35, u36, u37, u38, u39, u40, u41, u42, u43, u44, u45, u46, u47, u48, u49, u50, u51], defers := ds } w5) :
    (Code.region 1 #[{ dst := some 8, op := Op.move (Operand.tmp 0), type := 70, pos := "step.go:111", after := #[], guard := none }, { dst := some 9, op := Op.nilCheck (Operand.tmp 8), type := 0, pos := "step.go:111", after := #[{ on := 0, ground := Ground.data }], guard := none }, { dst := some 10, op := Op.fieldAddr 73 (Operand.tmp 9) 0, type := 0, pos := "step.go:111", after := #[{ on := 1, ground := Ground.data }], guard := none }, { dst := some 11, op := Op.load 28 (Operand.tmp 10), type := 28, pos := "step.go:111", after := #[{ on := 2, ground := Ground.data }], guard := none }, { dst := some 12, op := Op.move (Operand.tmp 0), type := 70, pos := "step.go:111", after := #[], guard := none }, { dst := some 13, op := Op.nilCheck (Operand.tmp 12), type := 0, pos := "step.go:111", after := #[{ on := 4, ground := Ground.data }], guard := none }, { dst := some 14, op := Op.fieldAddr 73 (Operand.tmp 13) 1, type := 0, pos := "step.go:111", after := #[{ on := 5, ground := Ground.data }], guard := none }, { dst := some 15, op := Op.load 39 (Operand.tmp 14), type := 39, pos := "step.go:111", after := #[{ on := 6, ground := Ground.data }], guard := none }, { dst := some 16, op := Op.call { callee := Callee.value (Operand.func 53), args := #[Operand.tmp 11, Operand.tmp 15], argTypes := #[28, 39] }, type := 3, pos := "step.go:111", after := #[{ on := 3, ground := Ground.data }, { on := 7, ground := Ground.data }], guard := none }, { dst := some 17, op := Op.move (Operand.const (Value.int IntKind.i64 0)), type := 3, pos := "step.go:111", after := #[], guard := none }] true).wp Tryd.prog (onlyN K) { tmps := #[.pointer (some ⟨sb, 0, none⟩), u1, u2, u3, u4, u5, u6, u7, u8, u9, u10, u11, u12, u13, u14, u15, u16, u17, u18, u19, u20, u21, u22, u23, u24, u25, u26, u27, u28, u29, u30, u31, u32, u33, u34, u35, u36, u37, u38, u39, u40, u41, u42, u43, u44, u45, u46, u47, u48, u49, u50, u51], defers := ds } W := by
  have HH : Hid _ := h
  have KD := Kept.drew (fun _ => False) W
  have HS : Hid (∀ V, Kept (fun _ => False) W.drew V → V.cell? ⟨sb, 0, none⟩ = some (d0) ∧ V.cell? ⟨sb, 1, none⟩ = some (d1) ∧ V.cell? ⟨sb, 2, none⟩ = some (q0) ∧ V.cell? ⟨sb, 3, none⟩ = some (q1) ∧ V.cell? ⟨sb, 4, none⟩ = some (q2) ∧ V.cell? ⟨sb, 5, none⟩ = some (q3) ∧ V.cell? ⟨sb, 6, none⟩ = some (q4) ∧ V.cell? ⟨sb, 7, none⟩ = some (q5) ∧ V.cell? ⟨sb, 8, none⟩ = some (q6) ∧ V.cell? ⟨sb, 9, none⟩ = some (q7) ∧ V.cell? ⟨sb, 10, none⟩ = some (q8)) := fun V KV => ⟨keepC (KD.and KV) x0 (fun _ _ h => h), keepC (KD.and KV) x1 (fun _ _ h => h), keepC (KD.and KV) x2 (fun _ _ h => h), keepC (KD.and KV) x3 (fun _ _ h => h), keepC (KD.and KV) x4 (fun _ _ h => h), keepC (KD.and KV) x5 (fun _ _ h => h), keepC (KD.and KV) x6 (fun _ _ h => h), keepC (KD.and KV) x7 (fun _ _ h => h), keepC (KD.and KV) x8 (fun _ _ h => h), keepC (KD.and KV) x9 (fun _ _ h => h), keepC (KD.and KV) x10 (fun _ _ h => h)⟩
  have HKD : Hid (Kept (fun _ => False) W W.drew) := KD
  have hS0 := HS.out W.drew (Kept.refl _ _)
  clear h KD x0 x1 x2 x3 x4 x5 x6 x7 x8 x9 x10
  refine wp_region_held_drew (S := fun V => V.cell? ⟨sb, 0, none⟩ = some (d0) ∧ V.cell? ⟨sb, 1, none⟩ = some (d1) ∧ V.cell? ⟨sb, 2, none⟩ = some (q0) ∧ V.cell? ⟨sb, 3, none⟩ = some (q1) ∧ V.cell? ⟨sb, 4, none⟩ = some (q2) ∧ V.cell? ⟨sb, 5, none⟩ = some (q3) ∧ V.cell? ⟨sb, 6, none⟩ = some (q4) ∧ V.cell? ⟨sb, 7, none⟩ = some (q5) ∧ V.cell? ⟨sb, 8, none⟩ = some (q6) ∧ V.cell? ⟨sb, 9, none⟩ = some (q7) ∧ V.cell? ⟨sb, 10, none⟩ = some (q8)) (by kernel_rfl) hS0 (fun _ => ?_)
  refine wpAnyH_take (i := 0) (oi := { dst := some 8, op := Op.move (Operand.tmp 0), type := 70, pos := "step.go:111", after := #[], guard := none }) (v := ?vv1) rfl (by kernel_rfl) (by kernel_rfl) (by kernel_rfl) (fun _ _ _ h => h) (Or.inl ⟨by rfl, ?hy1⟩) hS0 ?rest1
  case hy1 =>
    intro V hV
    obtain ⟨y0, y1, y2, y3, y4, y5, y6, y7, y8, y9, y10⟩ := hV
    go_simp
    all_goals rfl
  simp only [Act.put, List.setIfInBounds_toArray, List.set_cons_zero, List.set_cons_succ]
  refine wpAnyH_take (i := 1) (oi := { dst := some 9, op := Op.nilCheck (Operand.tmp 8), type := 0, pos := "step.go:111", after := #[{ on := 0, ground := Ground.data }], guard := none }) (v := ?vv2) rfl (by kernel_rfl) (by kernel_rfl) (by kernel_rfl) (fun _ _ _ h => h) (Or.inl ⟨by rfl, ?hy2⟩) hS0 ?rest2
  case hy2 =>
    intro V hV
    obtain ⟨y0, y1, y2, y3, y4, y5, y6, y7, y8, y9, y10⟩ := hV
    go_simp
    all_goals rfl
  simp only [Act.put, List.setIfInBounds_toArray, List.set_cons_zero, List.set_cons_succ]
  refine wpAnyH_take (i := 2) (oi := { dst := some 10, op := Op.fieldAddr 73 (Operand.tmp 9) 0, type := 0, pos := "step.go:111", after := #[{ on := 1, ground := Ground.data }], guard := none }) (v := ?vv3) rfl (by kernel_rfl) (by kernel_rfl) (by kernel_rfl) (fun _ _ _ h => h) (Or.inl ⟨by rfl, ?hy3⟩) hS0 ?rest3
  case hy3 =>
    intro V hV
    obtain ⟨y0, y1, y2, y3, y4, y5, y6, y7, y8, y9, y10⟩ := hV
    go_simp
    all_goals rfl
  simp only [Act.put, List.setIfInBounds_toArray, List.set_cons_zero, List.set_cons_succ]
  refine wpAnyH_take (i := 3) (oi := { dst := some 11, op := Op.load 28 (Operand.tmp 10), type := 28, pos := "step.go:111", after := #[{ on := 2, ground := Ground.data }], guard := none }) (v := ?vv4) rfl (by kernel_rfl) (by kernel_rfl) (by kernel_rfl) (fun _ _ _ h => h) (Or.inl ⟨by rfl, ?hy4⟩) hS0 ?rest4
  case hy4 =>
    intro V hV
    obtain ⟨y0, y1, y2, y3, y4, y5, y6, y7, y8, y9, y10⟩ := hV
    go_simp
    all_goals rfl
  simp only [Act.put, List.setIfInBounds_toArray, List.set_cons_zero, List.set_cons_succ]
  refine wpAnyH_take (i := 4) (oi := { dst := some 12, op := Op.move (Operand.tmp 0), type := 70, pos := "step.go:111", after := #[], guard := none }) (v := ?vv5) rfl (by kernel_rfl) (by kernel_rfl) (by kernel_rfl) (fun _ _ _ h => h) (Or.inl ⟨by rfl, ?hy5⟩) hS0 ?rest5
  case hy5 =>
    intro V hV
    obtain ⟨y0, y1, y2, y3, y4, y5, y6, y7, y8, y9, y10⟩ := hV
    go_simp
    all_goals rfl
  simp only [Act.put, List.setIfInBounds_toArray, List.set_cons_zero, List.set_cons_succ]
  refine wpAnyH_take (i := 5) (oi := { dst := some 13, op := Op.nilCheck (Operand.tmp 12), type := 0, pos := "step.go:111", after := #[{ on := 4, ground := Ground.data }], guard := none }) (v := ?vv6) rfl (by kernel_rfl) (by kernel_rfl) (by kernel_rfl) (fun _ _ _ h => h) (Or.inl ⟨by rfl, ?hy6⟩) hS0 ?rest6
  case hy6 =>
    intro V hV
    obtain ⟨y0, y1, y2, y3, y4, y5, y6, y7, y8, y9, y10⟩ := hV
    go_simp
    all_goals rfl
  simp only [Act.put, List.setIfInBounds_toArray, List.set_cons_zero, List.set_cons_succ]
  refine wpAnyH_take (i := 6) (oi := { dst := some 14, op := Op.fieldAddr 73 (Operand.tmp 13) 1, type := 0, pos := "step.go:111", after := #[{ on := 5, ground := Ground.data }], guard := none }) (v := ?vv7) rfl (by kernel_rfl) (by kernel_rfl) (by kernel_rfl) (fun _ _ _ h => h) (Or.inl ⟨by rfl, ?hy7⟩) hS0 ?rest7
  case hy7 =>
    intro V hV
    obtain ⟨y0, y1, y2, y3, y4, y5, y6, y7, y8, y9, y10⟩ := hV
    go_simp
    all_goals rfl
  simp only [Act.put, List.setIfInBounds_toArray, List.set_cons_zero, List.set_cons_succ]
  refine wpAnyH_take (i := 7) (oi := { dst := some 15, op := Op.load 39 (Operand.tmp 14), type := 39, pos := "step.go:111", after := #[{ on := 6, ground := Ground.data }], guard := none }) (v := ?vv8) rfl (by kernel_rfl) (by kernel_rfl) (by kernel_rfl) (fun _ _ _ h => h) (Or.inl ⟨by rfl, ?hy8⟩) hS0 ?rest8
  case hy8 =>
    intro V hV
    obtain ⟨y0, y1, y2, y3, y4, y5, y6, y7, y8, y9, y10⟩ := hV
    go_simp
    all_goals rfl
  simp only [Act.put, List.setIfInBounds_toArray, List.set_cons_zero, List.set_cons_succ]
  refine wpAnyH_take (i := 9) (oi := { dst := some 17, op := Op.move (Operand.const (Value.int IntKind.i64 0)), type := 3, pos := "step.go:111", after := #[], guard := none }) (v := ?vv9) rfl (by kernel_rfl) (by kernel_rfl) (by kernel_rfl) (fun _ _ _ h => h) (Or.inl ⟨by rfl, ?hy9⟩) hS0 ?rest9
  case hy9 =>
    intro V hV
    obtain ⟨y0, y1, y2, y3, y4, y5, y6, y7, y8, y9, y10⟩ := hV
    go_simp
    all_goals rfl
  simp only [Act.put, List.setIfInBounds_toArray, List.set_cons_zero, List.set_cons_succ]
  refine wpAnyH_ready (rs := [8]) (by kernel_rfl) (by simp) (AllReadyH.cons (o := { dst := some 16, op := Op.call { callee := Callee.value (Operand.func 53), args := #[Operand.tmp 11, Operand.tmp 15], argTypes := #[28, 39] }, type := 3, pos := "step.go:111", after := #[{ on := 3, ground := Ground.data }, { on := 7, ground := Ground.data }], guard := none }) rfl (fun K' hK => ?_) AllReadyH.nil)
  refine step_call2 _ (by rfl) 53 _ _ _ _ (by rfl) (enters_of Tryd.func53 (by kernel_rfl) rfl) _ _ (by rfl) (by rfl) hC ?_
  rintro e w5 ⟨rfl, K5⟩
  refine ⟨_, rfl, ?_⟩
  refine hK.out _ _ (HS.out _ K5) (fun _ => ?_)
  clear hK K'
  try (simp only [Act.put, List.setIfInBounds_toArray, List.set_cons_zero, List.set_cons_succ])
  refine wpAnyH_done (by kernel_rfl) ?_ _
  exact HH.out _ _ _ _ _ _ _ _ w5 (HKD.out.and K5)

set_option maxRecDepth 100000 in
set_option maxHeartbeats 8000000 in
theorem fd1 {W : World} {sb : Nat} {x : ByteArray} {i : Int} {b : Bool} {d0 d1 q0 q1 q2 q3 q4 q5 q6 q7 q8 : Value} {ds : List Deferred} {u2 u3 u4 u5 u6 u7 u8 u9 u10 u11 u12 u13 u14 u15 u16 u17 u18 u19 u20 u21 u22 u23 u24 u25 u26 u27 u28 u29 u30 u31 u32 u33 u34 u35 u36 u37 : Value} (K : Act → World → Prop)
    (x0 : W.cell? ⟨sb, 0, none⟩ = some (d0)) (x1 : W.cell? ⟨sb, 1, none⟩ = some (d1)) (x2 : W.cell? ⟨sb, 2, none⟩ = some (q0)) (x3 : W.cell? ⟨sb, 3, none⟩ = some (q1)) (x4 : W.cell? ⟨sb, 4, none⟩ = some (q2)) (x5 : W.cell? ⟨sb, 5, none⟩ = some (q3)) (x6 : W.cell? ⟨sb, 6, none⟩ = some (q4)) (x7 : W.cell? ⟨sb, 7, none⟩ = some (q5)) (x8 : W.cell? ⟨sb, 8, none⟩ = some (q6)) (x9 : W.cell? ⟨sb, 9, none⟩ = some (q7)) (x10 : W.cell? ⟨sb, 10, none⟩ = some (q8))
    (hC : Calls Tryd.prog 54 #[.agg #[d0, d1], .agg #[q0, q1, q2, q3, q4, q5, q6, q7, q8], .string x] W.drew fun e w' => e = .returned (.tuple #[.int .i64 i, .bool b]) ∧ Kept (fun _ => False) W.drew w')
    (h : ∀ (v10 v11 v12 v13 v14 v15 v16 v17 v18 v19 v20 v21 v22 : Value) (w5 : World), Kept (fun _ => False) W w5 → K { tmps := #[.pointer (some ⟨sb, 0, none⟩), .string x, u2, u3, u4, u5, u6, u7, .int .i64 i, .bool b, v10, v11, v12, v13, v14, v15, v16, v17, v18, v19, v20, v21, v22, u23, u24, u25, u26, u27, u28, u29, u30, u31, u32, u33, u34, u35, u36, u37], defers := ds } w5) :
    (Code.region 1 #[{ dst := some 11, op := Op.move (Operand.tmp 0), type := 70, pos := "step.go:200", after := #[], guard := none }, { dst := some 12, op := Op.nilCheck (Operand.tmp 11), type := 0, pos := "step.go:200", after := #[{ on := 0, ground := Ground.data }], guard := none }, { dst := some 13, op := Op.fieldAddr 73 (Operand.tmp 12) 0, type := 0, pos := "step.go:200", after := #[{ on := 1, ground := Ground.data }], guard := none }, { dst := some 14, op := Op.load 28 (Operand.tmp 13), type := 28, pos := "step.go:200", after := #[{ on := 2, ground := Ground.data }], guard := none }, { dst := some 15, op := Op.move (Operand.tmp 0), type := 70, pos := "step.go:200", after := #[], guard := none }, { dst := some 16, op := Op.nilCheck (Operand.tmp 15), type := 0, pos := "step.go:200", after := #[{ on := 4, ground := Ground.data }], guard := none }, { dst := some 17, op := Op.fieldAddr 73 (Operand.tmp 16) 1, type := 0, pos := "step.go:200", after := #[{ on := 5, ground := Ground.data }], guard := none }, { dst := some 18, op := Op.load 39 (Operand.tmp 17), type := 39, pos := "step.go:200", after := #[{ on := 6, ground := Ground.data }], guard := none }, { dst := some 19, op := Op.move (Operand.tmp 1), type := 9, pos := "step.go:200", after := #[], guard := none }, { dst := some 20, op := Op.call { callee := Callee.value (Operand.func 54), args := #[Operand.tmp 14, Operand.tmp 18, Operand.tmp 19], argTypes := #[28, 39, 9] }, type := 83, pos := "step.go:200", after := #[{ on := 3, ground := Ground.data }, { on := 7, ground := Ground.data }, { on := 8, ground := Ground.data }], guard := none }, { dst := some 10, op := Op.move (Operand.tmp 20), type := 83, pos := "step.go:200", after := #[{ on := 9, ground := Ground.data }], guard := none }, { dst := some 21, op := Op.extract (Operand.tmp 10) 0, type := 3, pos := "step.go:200", after := #[{ on := 10, ground := Ground.data }], guard := none }, { dst := some 22, op := Op.extract (Operand.tmp 10) 1, type := 4, pos := "step.go:200", after := #[{ on := 10, ground := Ground.data }, { on := 13, ground := Ground.gcOnly Departure.lateStores }], guard := none }, { dst := some 8, op := Op.assign (Operand.tmp 21), type := 3, pos := "step.go:200", after := #[{ on := 11, ground := Ground.data }, { on := 9, ground := Ground.chain }, { on := 0, ground := Ground.phase }, { on := 1, ground := Ground.phase }, { on := 2, ground := Ground.phase }, { on := 3, ground := Ground.phase }, { on := 4, ground := Ground.phase }, { on := 5, ground := Ground.phase }, { on := 6, ground := Ground.phase }, { on := 7, ground := Ground.phase }, { on := 8, ground := Ground.phase }, { on := 9, ground := Ground.phase }, { on := 10, ground := Ground.phase }, { on := 11, ground := Ground.phase }, { on := 12, ground := Ground.textOnly Departure.lateStores }], guard := none }, { dst := some 9, op := Op.assign (Operand.tmp 22), type := 4, pos := "step.go:200", after := #[{ on := 12, ground := Ground.data }, { on := 13, ground := Ground.chain }, { on := 0, ground := Ground.phase }, { on := 1, ground := Ground.phase }, { on := 2, ground := Ground.phase }, { on := 3, ground := Ground.phase }, { on := 4, ground := Ground.phase }, { on := 5, ground := Ground.phase }, { on := 6, ground := Ground.phase }, { on := 7, ground := Ground.phase }, { on := 8, ground := Ground.phase }, { on := 9, ground := Ground.phase }, { on := 10, ground := Ground.phase }, { on := 11, ground := Ground.phase }, { on := 12, ground := Ground.phase }, { on := 13, ground := Ground.phase }], guard := none }] true).wp Tryd.prog (onlyN K) { tmps := #[.pointer (some ⟨sb, 0, none⟩), .string x, u2, u3, u4, u5, u6, u7, u8, u9, u10, u11, u12, u13, u14, u15, u16, u17, u18, u19, u20, u21, u22, u23, u24, u25, u26, u27, u28, u29, u30, u31, u32, u33, u34, u35, u36, u37], defers := ds } W := by
  have HH : Hid _ := h
  have KD := Kept.drew (fun _ => False) W
  have HS : Hid (∀ V, Kept (fun _ => False) W.drew V → V.cell? ⟨sb, 0, none⟩ = some (d0) ∧ V.cell? ⟨sb, 1, none⟩ = some (d1) ∧ V.cell? ⟨sb, 2, none⟩ = some (q0) ∧ V.cell? ⟨sb, 3, none⟩ = some (q1) ∧ V.cell? ⟨sb, 4, none⟩ = some (q2) ∧ V.cell? ⟨sb, 5, none⟩ = some (q3) ∧ V.cell? ⟨sb, 6, none⟩ = some (q4) ∧ V.cell? ⟨sb, 7, none⟩ = some (q5) ∧ V.cell? ⟨sb, 8, none⟩ = some (q6) ∧ V.cell? ⟨sb, 9, none⟩ = some (q7) ∧ V.cell? ⟨sb, 10, none⟩ = some (q8)) := fun V KV => ⟨keepC (KD.and KV) x0 (fun _ _ h => h), keepC (KD.and KV) x1 (fun _ _ h => h), keepC (KD.and KV) x2 (fun _ _ h => h), keepC (KD.and KV) x3 (fun _ _ h => h), keepC (KD.and KV) x4 (fun _ _ h => h), keepC (KD.and KV) x5 (fun _ _ h => h), keepC (KD.and KV) x6 (fun _ _ h => h), keepC (KD.and KV) x7 (fun _ _ h => h), keepC (KD.and KV) x8 (fun _ _ h => h), keepC (KD.and KV) x9 (fun _ _ h => h), keepC (KD.and KV) x10 (fun _ _ h => h)⟩
  have HKD : Hid (Kept (fun _ => False) W W.drew) := KD
  have hS0 := HS.out W.drew (Kept.refl _ _)
  clear h KD x0 x1 x2 x3 x4 x5 x6 x7 x8 x9 x10
  refine wp_region_held_drew (S := fun V => V.cell? ⟨sb, 0, none⟩ = some (d0) ∧ V.cell? ⟨sb, 1, none⟩ = some (d1) ∧ V.cell? ⟨sb, 2, none⟩ = some (q0) ∧ V.cell? ⟨sb, 3, none⟩ = some (q1) ∧ V.cell? ⟨sb, 4, none⟩ = some (q2) ∧ V.cell? ⟨sb, 5, none⟩ = some (q3) ∧ V.cell? ⟨sb, 6, none⟩ = some (q4) ∧ V.cell? ⟨sb, 7, none⟩ = some (q5) ∧ V.cell? ⟨sb, 8, none⟩ = some (q6) ∧ V.cell? ⟨sb, 9, none⟩ = some (q7) ∧ V.cell? ⟨sb, 10, none⟩ = some (q8)) (by kernel_rfl) hS0 (fun _ => ?_)
  refine wpAnyH_take (i := 0) (oi := { dst := some 11, op := Op.move (Operand.tmp 0), type := 70, pos := "step.go:200", after := #[], guard := none }) (v := ?vv1) rfl (by kernel_rfl) (by kernel_rfl) (by kernel_rfl) (fun _ _ _ h => h) (Or.inl ⟨by rfl, ?hy1⟩) hS0 ?rest1
  case hy1 =>
    intro V hV
    obtain ⟨y0, y1, y2, y3, y4, y5, y6, y7, y8, y9, y10⟩ := hV
    go_simp
    all_goals rfl
  simp only [Act.put, List.setIfInBounds_toArray, List.set_cons_zero, List.set_cons_succ]
  refine wpAnyH_take (i := 1) (oi := { dst := some 12, op := Op.nilCheck (Operand.tmp 11), type := 0, pos := "step.go:200", after := #[{ on := 0, ground := Ground.data }], guard := none }) (v := ?vv2) rfl (by kernel_rfl) (by kernel_rfl) (by kernel_rfl) (fun _ _ _ h => h) (Or.inl ⟨by rfl, ?hy2⟩) hS0 ?rest2
  case hy2 =>
    intro V hV
    obtain ⟨y0, y1, y2, y3, y4, y5, y6, y7, y8, y9, y10⟩ := hV
    go_simp
    all_goals rfl
  simp only [Act.put, List.setIfInBounds_toArray, List.set_cons_zero, List.set_cons_succ]
  refine wpAnyH_take (i := 2) (oi := { dst := some 13, op := Op.fieldAddr 73 (Operand.tmp 12) 0, type := 0, pos := "step.go:200", after := #[{ on := 1, ground := Ground.data }], guard := none }) (v := ?vv3) rfl (by kernel_rfl) (by kernel_rfl) (by kernel_rfl) (fun _ _ _ h => h) (Or.inl ⟨by rfl, ?hy3⟩) hS0 ?rest3
  case hy3 =>
    intro V hV
    obtain ⟨y0, y1, y2, y3, y4, y5, y6, y7, y8, y9, y10⟩ := hV
    go_simp
    all_goals rfl
  simp only [Act.put, List.setIfInBounds_toArray, List.set_cons_zero, List.set_cons_succ]
  refine wpAnyH_take (i := 3) (oi := { dst := some 14, op := Op.load 28 (Operand.tmp 13), type := 28, pos := "step.go:200", after := #[{ on := 2, ground := Ground.data }], guard := none }) (v := ?vv4) rfl (by kernel_rfl) (by kernel_rfl) (by kernel_rfl) (fun _ _ _ h => h) (Or.inl ⟨by rfl, ?hy4⟩) hS0 ?rest4
  case hy4 =>
    intro V hV
    obtain ⟨y0, y1, y2, y3, y4, y5, y6, y7, y8, y9, y10⟩ := hV
    go_simp
    all_goals rfl
  simp only [Act.put, List.setIfInBounds_toArray, List.set_cons_zero, List.set_cons_succ]
  refine wpAnyH_take (i := 4) (oi := { dst := some 15, op := Op.move (Operand.tmp 0), type := 70, pos := "step.go:200", after := #[], guard := none }) (v := ?vv5) rfl (by kernel_rfl) (by kernel_rfl) (by kernel_rfl) (fun _ _ _ h => h) (Or.inl ⟨by rfl, ?hy5⟩) hS0 ?rest5
  case hy5 =>
    intro V hV
    obtain ⟨y0, y1, y2, y3, y4, y5, y6, y7, y8, y9, y10⟩ := hV
    go_simp
    all_goals rfl
  simp only [Act.put, List.setIfInBounds_toArray, List.set_cons_zero, List.set_cons_succ]
  refine wpAnyH_take (i := 5) (oi := { dst := some 16, op := Op.nilCheck (Operand.tmp 15), type := 0, pos := "step.go:200", after := #[{ on := 4, ground := Ground.data }], guard := none }) (v := ?vv6) rfl (by kernel_rfl) (by kernel_rfl) (by kernel_rfl) (fun _ _ _ h => h) (Or.inl ⟨by rfl, ?hy6⟩) hS0 ?rest6
  case hy6 =>
    intro V hV
    obtain ⟨y0, y1, y2, y3, y4, y5, y6, y7, y8, y9, y10⟩ := hV
    go_simp
    all_goals rfl
  simp only [Act.put, List.setIfInBounds_toArray, List.set_cons_zero, List.set_cons_succ]
  refine wpAnyH_take (i := 6) (oi := { dst := some 17, op := Op.fieldAddr 73 (Operand.tmp 16) 1, type := 0, pos := "step.go:200", after := #[{ on := 5, ground := Ground.data }], guard := none }) (v := ?vv7) rfl (by kernel_rfl) (by kernel_rfl) (by kernel_rfl) (fun _ _ _ h => h) (Or.inl ⟨by rfl, ?hy7⟩) hS0 ?rest7
  case hy7 =>
    intro V hV
    obtain ⟨y0, y1, y2, y3, y4, y5, y6, y7, y8, y9, y10⟩ := hV
    go_simp
    all_goals rfl
  simp only [Act.put, List.setIfInBounds_toArray, List.set_cons_zero, List.set_cons_succ]
  refine wpAnyH_take (i := 7) (oi := { dst := some 18, op := Op.load 39 (Operand.tmp 17), type := 39, pos := "step.go:200", after := #[{ on := 6, ground := Ground.data }], guard := none }) (v := ?vv8) rfl (by kernel_rfl) (by kernel_rfl) (by kernel_rfl) (fun _ _ _ h => h) (Or.inl ⟨by rfl, ?hy8⟩) hS0 ?rest8
  case hy8 =>
    intro V hV
    obtain ⟨y0, y1, y2, y3, y4, y5, y6, y7, y8, y9, y10⟩ := hV
    go_simp
    all_goals rfl
  simp only [Act.put, List.setIfInBounds_toArray, List.set_cons_zero, List.set_cons_succ]
  refine wpAnyH_take (i := 8) (oi := { dst := some 19, op := Op.move (Operand.tmp 1), type := 9, pos := "step.go:200", after := #[], guard := none }) (v := ?vv9) rfl (by kernel_rfl) (by kernel_rfl) (by kernel_rfl) (fun _ _ _ h => h) (Or.inl ⟨by rfl, ?hy9⟩) hS0 ?rest9
  case hy9 =>
    intro V hV
    obtain ⟨y0, y1, y2, y3, y4, y5, y6, y7, y8, y9, y10⟩ := hV
    go_simp
    all_goals rfl
  simp only [Act.put, List.setIfInBounds_toArray, List.set_cons_zero, List.set_cons_succ]
  refine wpAnyH_ready (rs := [9]) (by kernel_rfl) (by simp) (AllReadyH.cons (o := { dst := some 20, op := Op.call { callee := Callee.value (Operand.func 54), args := #[Operand.tmp 14, Operand.tmp 18, Operand.tmp 19], argTypes := #[28, 39, 9] }, type := 83, pos := "step.go:200", after := #[{ on := 3, ground := Ground.data }, { on := 7, ground := Ground.data }, { on := 8, ground := Ground.data }], guard := none }) rfl (fun K' hK => ?_) AllReadyH.nil)
  refine step_call3 _ (by rfl) 54 _ _ _ _ _ _ (by rfl) (enters_of Tryd.func54 (by kernel_rfl) rfl) _ _ _ (by rfl) (by rfl) (by rfl) hC ?_
  rintro e w5 ⟨rfl, K5⟩
  refine ⟨_, rfl, ?_⟩
  refine hK.out _ _ (HS.out _ K5) (fun _ => ?_)
  clear hK K'
  try (simp only [Act.put, List.setIfInBounds_toArray, List.set_cons_zero, List.set_cons_succ])
  refine wpAnyH_take (i := 10) (oi := { dst := some 10, op := Op.move (Operand.tmp 20), type := 83, pos := "step.go:200", after := #[{ on := 9, ground := Ground.data }], guard := none }) (v := ?vv10) rfl (by kernel_rfl) (by kernel_rfl) (by kernel_rfl) (fun _ _ _ h => h) (Or.inl ⟨by rfl, ?hy10⟩) (HS.out _ K5) ?rest10
  case hy10 =>
    intro V hV
    obtain ⟨y0, y1, y2, y3, y4, y5, y6, y7, y8, y9, y10⟩ := hV
    go_simp
    all_goals rfl
  simp only [Act.put, List.setIfInBounds_toArray, List.set_cons_zero, List.set_cons_succ]
  refine wpAnyH_take (i := 11) (oi := { dst := some 21, op := Op.extract (Operand.tmp 10) 0, type := 3, pos := "step.go:200", after := #[{ on := 10, ground := Ground.data }], guard := none }) (v := ?vv11) rfl (by kernel_rfl) (by kernel_rfl) (by kernel_rfl) (fun _ _ _ h => h) (Or.inl ⟨by rfl, ?hy11⟩) (HS.out _ K5) ?rest11
  case hy11 =>
    intro V hV
    obtain ⟨y0, y1, y2, y3, y4, y5, y6, y7, y8, y9, y10⟩ := hV
    go_simp
    all_goals rfl
  simp only [Act.put, List.setIfInBounds_toArray, List.set_cons_zero, List.set_cons_succ]
  refine wpAnyH_take (i := 12) (oi := { dst := some 22, op := Op.extract (Operand.tmp 10) 1, type := 4, pos := "step.go:200", after := #[{ on := 10, ground := Ground.data }, { on := 13, ground := Ground.gcOnly Departure.lateStores }], guard := none }) (v := ?vv12) rfl (by kernel_rfl) (by kernel_rfl) (by kernel_rfl) (fun _ _ _ h => h) (Or.inl ⟨by rfl, ?hy12⟩) (HS.out _ K5) ?rest12
  case hy12 =>
    intro V hV
    obtain ⟨y0, y1, y2, y3, y4, y5, y6, y7, y8, y9, y10⟩ := hV
    go_simp
    all_goals rfl
  simp only [Act.put, List.setIfInBounds_toArray, List.set_cons_zero, List.set_cons_succ]
  refine wpAnyH_take (i := 13) (oi := { dst := some 8, op := Op.assign (Operand.tmp 21), type := 3, pos := "step.go:200", after := #[{ on := 11, ground := Ground.data }, { on := 9, ground := Ground.chain }, { on := 0, ground := Ground.phase }, { on := 1, ground := Ground.phase }, { on := 2, ground := Ground.phase }, { on := 3, ground := Ground.phase }, { on := 4, ground := Ground.phase }, { on := 5, ground := Ground.phase }, { on := 6, ground := Ground.phase }, { on := 7, ground := Ground.phase }, { on := 8, ground := Ground.phase }, { on := 9, ground := Ground.phase }, { on := 10, ground := Ground.phase }, { on := 11, ground := Ground.phase }, { on := 12, ground := Ground.textOnly Departure.lateStores }], guard := none }) (v := ?vv13) rfl (by kernel_rfl) (by kernel_rfl) (by kernel_rfl) (fun _ _ _ h => h) (Or.inl ⟨by rfl, ?hy13⟩) (HS.out _ K5) ?rest13
  case hy13 =>
    intro V hV
    obtain ⟨y0, y1, y2, y3, y4, y5, y6, y7, y8, y9, y10⟩ := hV
    go_simp
    all_goals rfl
  simp only [Act.put, List.setIfInBounds_toArray, List.set_cons_zero, List.set_cons_succ]
  refine wpAnyH_take (i := 14) (oi := { dst := some 9, op := Op.assign (Operand.tmp 22), type := 4, pos := "step.go:200", after := #[{ on := 12, ground := Ground.data }, { on := 13, ground := Ground.chain }, { on := 0, ground := Ground.phase }, { on := 1, ground := Ground.phase }, { on := 2, ground := Ground.phase }, { on := 3, ground := Ground.phase }, { on := 4, ground := Ground.phase }, { on := 5, ground := Ground.phase }, { on := 6, ground := Ground.phase }, { on := 7, ground := Ground.phase }, { on := 8, ground := Ground.phase }, { on := 9, ground := Ground.phase }, { on := 10, ground := Ground.phase }, { on := 11, ground := Ground.phase }, { on := 12, ground := Ground.phase }, { on := 13, ground := Ground.phase }], guard := none }) (v := ?vv14) rfl (by kernel_rfl) (by kernel_rfl) (by kernel_rfl) (fun _ _ _ h => h) (Or.inl ⟨by rfl, ?hy14⟩) (HS.out _ K5) ?rest14
  case hy14 =>
    intro V hV
    obtain ⟨y0, y1, y2, y3, y4, y5, y6, y7, y8, y9, y10⟩ := hV
    go_simp
    all_goals rfl
  simp only [Act.put, List.setIfInBounds_toArray, List.set_cons_zero, List.set_cons_succ]
  refine wpAnyH_done (by kernel_rfl) ?_ _
  exact HH.out _ _ _ _ _ _ _ _ _ _ _ _ _ w5 (HKD.out.and K5)

theorem cells7F {w : World} {b : Nat} {T : TypeId} {u0 u1 u2 u3 u4 u5 u6 : Value} (h : w.heap[b]? = some (.cells #[u0, u1, u2, u3, u4, u5, u6] T (0, 0))) : (w.cell? ⟨b, 0, none⟩ = some u0 ∧ w.cell? ⟨b, 1, none⟩ = some u1 ∧ w.cell? ⟨b, 2, none⟩ = some u2 ∧ w.cell? ⟨b, 3, none⟩ = some u3 ∧ w.cell? ⟨b, 4, none⟩ = some u4 ∧ w.cell? ⟨b, 5, none⟩ = some u5 ∧ w.cell? ⟨b, 6, none⟩ = some u6) ∧ (w.frozen? ⟨b, 0, none⟩ = false ∧ w.frozen? ⟨b, 1, none⟩ = false ∧ w.frozen? ⟨b, 2, none⟩ = false ∧ w.frozen? ⟨b, 3, none⟩ = false ∧ w.frozen? ⟨b, 4, none⟩ = false ∧ w.frozen? ⟨b, 5, none⟩ = false ∧ w.frozen? ⟨b, 6, none⟩ = false) := by
  simp [World.cell?, World.frozen?, h]

theorem cells7put {w : World} {b : Nat} {T : TypeId} {u0 u1 u2 u3 u4 u5 u6 : Value} (h : w.heap[b]? = some (.cells #[u0, u1, u2, u3, u4, u5, u6] T (0, 0))) (y0 y1 y2 y3 y4 y5 y6 : Value) : (((((((w.setCell ⟨b, 0, none⟩ (y0)).setCell ⟨b, 1, none⟩ (y1)).setCell ⟨b, 2, none⟩ (y2)).setCell ⟨b, 3, none⟩ (y3)).setCell ⟨b, 4, none⟩ (y4)).setCell ⟨b, 5, none⟩ (y5)).setCell ⟨b, 6, none⟩ (y6)).heap[b]? = some (.cells #[y0, y1, y2, y3, y4, y5, y6] T (0, 0)) := by
  simp [World.setCell, Array.getElem?_modify, h]

theorem cells7kept {S : Nat → Prop} (w : World) {b : Nat} (h : S b) (y0 y1 y2 y3 y4 y5 y6 : Value) : Kept S w (((((((w.setCell ⟨b, 0, none⟩ (y0)).setCell ⟨b, 1, none⟩ (y1)).setCell ⟨b, 2, none⟩ (y2)).setCell ⟨b, 3, none⟩ (y3)).setCell ⟨b, 4, none⟩ (y4)).setCell ⟨b, 5, none⟩ (y5)).setCell ⟨b, 6, none⟩ (y6)) :=
  ((((((Kept.setCell (S := S) w _ y0 h).and (Kept.setCell (S := S) _ _ y1 h)).and (Kept.setCell (S := S) _ _ y2 h)).and (Kept.setCell (S := S) _ _ y3 h)).and (Kept.setCell (S := S) _ _ y4 h)).and (Kept.setCell (S := S) _ _ y5 h)).and (Kept.setCell (S := S) _ _ y6 h)

set_option maxRecDepth 100000 in
set_option maxHeartbeats 8000000 in
theorem ft0 {W : World} {sb b o n c g n6 c6 k : Nat} {m0 m2 m3 : ByteArray} {m1 m4 m5 tr : Int} {av : Option Addr} {an cv : Nat} {ds : List Deferred} {u2 u3 u4 u5 u6 u7 u8 u9 u10 u11 u12 u13 u14 u15 u16 u17 u18 u19 u20 u21 u22 u23 u24 u25 u26 u27 u28 u29 u30 u31 u32 u33 u34 u35 u36 u37 u38 u39 u40 u41 u42 u43 u44 u45 u46 u47 u48 : Value} (K : Act → World → Prop)
    (x0 : W.cell? ⟨sb, 1, none⟩ = some (.slice (some ⟨b, o, none⟩) n c)) (x1 : W.cell? ⟨sb, 8, none⟩ = some (.slice (some ⟨g, 0, none⟩) n6 c6)) (x2 : W.cell? ⟨b, o + k * 7, none⟩ = some (.string m0)) (x3 : W.cell? ⟨b, o + k * 7 + 1, none⟩ = some (.int .i64 m1)) (x4 : W.cell? ⟨b, o + k * 7 + 2, none⟩ = some (.string m2)) (x5 : W.cell? ⟨b, o + k * 7 + 3, none⟩ = some (.string m3)) (x6 : W.cell? ⟨b, o + k * 7 + 4, none⟩ = some (.int .i64 m4)) (x7 : W.cell? ⟨b, o + k * 7 + 5, none⟩ = some (.int .i64 m5)) (x8 : W.cell? ⟨b, o + k * 7 + 6, none⟩ = some (.slice av an cv)) (x9 : W.cell? ⟨g, k * 3 + 1, none⟩ = some (.int .i64 tr))
    (hk : k < n) (hk6 : k < n6)
    (h : ∀ (v9 v10 v11 v12 v13 v14 v15 v16 v17 v18 v19 v20 v21 v22 v23 v24 v25 : Value) (mb : Nat) (W' : World), W.heap.size ≤ mb → W'.heap[mb]? = some (.cells #[.string m0, .int .i64 m1, .string m2, .string m3, .int .i64 m4, .int .i64 m5, .slice av an cv] 32 (0, 0)) → Kept (fun _ => False) W W' → K { tmps := #[.pointer (some ⟨sb, 0, none⟩), .int .i64 (k : Nat), u2, u3, u4, u5, .pointer (some ⟨mb, 0, none⟩), .int .i64 tr, u8, v9, v10, v11, v12, v13, v14, v15, v16, v17, v18, v19, v20, v21, v22, v23, v24, v25, u26, u27, u28, u29, u30, u31, u32, u33, u34, u35, u36, u37, u38, u39, u40, u41, u42, u43, u44, u45, u46, u47, u48], defers := ds } W') :
    (Code.region 0 #[{ dst := some 9, op := Op.move (Operand.tmp 0), type := 70, pos := "step.go:219", after := #[], guard := none }, { dst := some 10, op := Op.nilCheck (Operand.tmp 9), type := 0, pos := "step.go:219", after := #[{ on := 0, ground := Ground.data }], guard := none }, { dst := some 11, op := Op.fieldAddr 73 (Operand.tmp 10) 0, type := 0, pos := "step.go:219", after := #[{ on := 1, ground := Ground.data }], guard := none }, { dst := some 12, op := Op.fieldAddr 28 (Operand.tmp 11) 1, type := 0, pos := "step.go:219", after := #[{ on := 2, ground := Ground.data }], guard := none }, { dst := some 13, op := Op.load 26 (Operand.tmp 12), type := 26, pos := "step.go:219", after := #[{ on := 3, ground := Ground.data }], guard := none }, { dst := some 14, op := Op.move (Operand.tmp 1), type := 3, pos := "step.go:219", after := #[], guard := none }, { dst := some 15, op := Op.indexAddr 26 (Operand.tmp 13) (Operand.tmp 14), type := 0, pos := "step.go:219", after := #[{ on := 4, ground := Ground.data }, { on := 5, ground := Ground.data }], guard := none }, { dst := some 16, op := Op.load 32 (Operand.tmp 15), type := 32, pos := "step.go:219", after := #[{ on := 6, ground := Ground.data }], guard := none }, { dst := some 17, op := Op.move (Operand.tmp 0), type := 70, pos := "step.go:219", after := #[{ on := 18, ground := Ground.gcOnly Departure.lateStores }], guard := none }, { dst := some 18, op := Op.nilCheck (Operand.tmp 17), type := 0, pos := "step.go:219", after := #[{ on := 8, ground := Ground.data }, { on := 18, ground := Ground.gcOnly Departure.lateStores }], guard := none }, { dst := some 19, op := Op.fieldAddr 73 (Operand.tmp 18) 1, type := 0, pos := "step.go:219", after := #[{ on := 9, ground := Ground.data }, { on := 18, ground := Ground.gcOnly Departure.lateStores }], guard := none }, { dst := some 20, op := Op.fieldAddr 39 (Operand.tmp 19) 6, type := 0, pos := "step.go:219", after := #[{ on := 10, ground := Ground.data }, { on := 18, ground := Ground.gcOnly Departure.lateStores }], guard := none }, { dst := some 21, op := Op.load 36 (Operand.tmp 20), type := 36, pos := "step.go:219", after := #[{ on := 11, ground := Ground.data }, { on := 18, ground := Ground.gcOnly Departure.lateStores }], guard := none }, { dst := some 22, op := Op.move (Operand.tmp 1), type := 3, pos := "step.go:219", after := #[{ on := 18, ground := Ground.gcOnly Departure.lateStores }], guard := none }, { dst := some 23, op := Op.indexAddr 36 (Operand.tmp 21) (Operand.tmp 22), type := 0, pos := "step.go:219", after := #[{ on := 12, ground := Ground.data }, { on := 13, ground := Ground.data }, { on := 18, ground := Ground.gcOnly Departure.lateStores }], guard := none }, { dst := some 24, op := Op.fieldAddr 54 (Operand.tmp 23) 1, type := 0, pos := "step.go:219", after := #[{ on := 14, ground := Ground.data }, { on := 18, ground := Ground.gcOnly Departure.lateStores }], guard := none }, { dst := some 25, op := Op.load 3 (Operand.tmp 24), type := 3, pos := "step.go:219", after := #[{ on := 15, ground := Ground.data }, { on := 18, ground := Ground.gcOnly Departure.lateStores }], guard := none }, { dst := some 6, op := Op.alloc 32, type := 0, pos := "step.go:219", after := #[], guard := none }, { dst := none, op := Op.store 32 (Operand.tmp 6) (Operand.tmp 16), type := 0, pos := "step.go:219", after := #[{ on := 17, ground := Ground.data }, { on := 7, ground := Ground.data }, { on := 0, ground := Ground.phase }, { on := 1, ground := Ground.phase }, { on := 2, ground := Ground.phase }, { on := 3, ground := Ground.phase }, { on := 4, ground := Ground.phase }, { on := 5, ground := Ground.phase }, { on := 6, ground := Ground.phase }, { on := 7, ground := Ground.phase }, { on := 8, ground := Ground.textOnly Departure.lateStores }, { on := 9, ground := Ground.textOnly Departure.lateStores }, { on := 10, ground := Ground.textOnly Departure.lateStores }, { on := 11, ground := Ground.textOnly Departure.lateStores }, { on := 12, ground := Ground.textOnly Departure.lateStores }, { on := 13, ground := Ground.textOnly Departure.lateStores }, { on := 14, ground := Ground.textOnly Departure.lateStores }, { on := 15, ground := Ground.textOnly Departure.lateStores }, { on := 16, ground := Ground.textOnly Departure.lateStores }, { on := 17, ground := Ground.phase }], guard := none }, { dst := some 7, op := Op.assign (Operand.tmp 25), type := 3, pos := "step.go:219", after := #[{ on := 16, ground := Ground.data }, { on := 18, ground := Ground.chain }, { on := 0, ground := Ground.phase }, { on := 1, ground := Ground.phase }, { on := 2, ground := Ground.phase }, { on := 3, ground := Ground.phase }, { on := 4, ground := Ground.phase }, { on := 5, ground := Ground.phase }, { on := 6, ground := Ground.phase }, { on := 7, ground := Ground.phase }, { on := 8, ground := Ground.phase }, { on := 9, ground := Ground.phase }, { on := 10, ground := Ground.phase }, { on := 11, ground := Ground.phase }, { on := 12, ground := Ground.phase }, { on := 13, ground := Ground.phase }, { on := 14, ground := Ground.phase }, { on := 15, ground := Ground.phase }, { on := 16, ground := Ground.phase }, { on := 17, ground := Ground.phase }, { on := 18, ground := Ground.phase }], guard := none }] true).wp Tryd.prog (onlyN K) { tmps := #[.pointer (some ⟨sb, 0, none⟩), .int .i64 (k : Nat), u2, u3, u4, u5, u6, u7, u8, u9, u10, u11, u12, u13, u14, u15, u16, u17, u18, u19, u20, u21, u22, u23, u24, u25, u26, u27, u28, u29, u30, u31, u32, u33, u34, u35, u36, u37, u38, u39, u40, u41, u42, u43, u44, u45, u46, u47, u48], defers := ds } W := by
  have e1 : (k : Int) < (n : Int) := by omega
  have e2 : (k : Int) < (n6 : Int) := by omega
  have HH : Hid _ := h
  have KD := Kept.drew (fun _ => False) W
  have HS : Hid (∀ V, Kept (fun _ => False) W.drew V → V.cell? ⟨sb, 1, none⟩ = some (.slice (some ⟨b, o, none⟩) n c) ∧ V.cell? ⟨sb, 8, none⟩ = some (.slice (some ⟨g, 0, none⟩) n6 c6) ∧ V.cell? ⟨b, o + k * 7, none⟩ = some (.string m0) ∧ V.cell? ⟨b, o + k * 7 + 1, none⟩ = some (.int .i64 m1) ∧ V.cell? ⟨b, o + k * 7 + 2, none⟩ = some (.string m2) ∧ V.cell? ⟨b, o + k * 7 + 3, none⟩ = some (.string m3) ∧ V.cell? ⟨b, o + k * 7 + 4, none⟩ = some (.int .i64 m4) ∧ V.cell? ⟨b, o + k * 7 + 5, none⟩ = some (.int .i64 m5) ∧ V.cell? ⟨b, o + k * 7 + 6, none⟩ = some (.slice av an cv) ∧ V.cell? ⟨g, k * 3 + 1, none⟩ = some (.int .i64 tr)) := fun V KV => ⟨keepC (KD.and KV) x0 (fun _ _ h => h), keepC (KD.and KV) x1 (fun _ _ h => h), keepC (KD.and KV) x2 (fun _ _ h => h), keepC (KD.and KV) x3 (fun _ _ h => h), keepC (KD.and KV) x4 (fun _ _ h => h), keepC (KD.and KV) x5 (fun _ _ h => h), keepC (KD.and KV) x6 (fun _ _ h => h), keepC (KD.and KV) x7 (fun _ _ h => h), keepC (KD.and KV) x8 (fun _ _ h => h), keepC (KD.and KV) x9 (fun _ _ h => h)⟩
  have HKD : Hid (Kept (fun _ => False) W W.drew) := KD
  have hS0 := HS.out W.drew (Kept.refl _ _)
  clear h KD x0 x1 x2 x3 x4 x5 x6 x7 x8 x9
  refine wp_region_held_drew (S := fun V => V.cell? ⟨sb, 1, none⟩ = some (.slice (some ⟨b, o, none⟩) n c) ∧ V.cell? ⟨sb, 8, none⟩ = some (.slice (some ⟨g, 0, none⟩) n6 c6) ∧ V.cell? ⟨b, o + k * 7, none⟩ = some (.string m0) ∧ V.cell? ⟨b, o + k * 7 + 1, none⟩ = some (.int .i64 m1) ∧ V.cell? ⟨b, o + k * 7 + 2, none⟩ = some (.string m2) ∧ V.cell? ⟨b, o + k * 7 + 3, none⟩ = some (.string m3) ∧ V.cell? ⟨b, o + k * 7 + 4, none⟩ = some (.int .i64 m4) ∧ V.cell? ⟨b, o + k * 7 + 5, none⟩ = some (.int .i64 m5) ∧ V.cell? ⟨b, o + k * 7 + 6, none⟩ = some (.slice av an cv) ∧ V.cell? ⟨g, k * 3 + 1, none⟩ = some (.int .i64 tr)) (by kernel_rfl) hS0 (fun _ => ?_)
  generalize W.drew = V0 at *
  refine wpAnyH_take (i := 0) (oi := { dst := some 9, op := Op.move (Operand.tmp 0), type := 70, pos := "step.go:219", after := #[], guard := none }) (v := ?vv1) rfl (by kernel_rfl) (by kernel_rfl) (by kernel_rfl) (fun _ _ _ h => h) (Or.inl ⟨by rfl, ?hy1⟩) hS0 ?rest1
  case hy1 =>
    intro V hV
    obtain ⟨y0, y1, y2, y3, y4, y5, y6, y7, y8, y9⟩ := hV
    go_simp
    all_goals rfl
  simp only [Act.put, List.setIfInBounds_toArray, List.set_cons_zero, List.set_cons_succ]
  refine wpAnyH_take (i := 1) (oi := { dst := some 10, op := Op.nilCheck (Operand.tmp 9), type := 0, pos := "step.go:219", after := #[{ on := 0, ground := Ground.data }], guard := none }) (v := ?vv2) rfl (by kernel_rfl) (by kernel_rfl) (by kernel_rfl) (fun _ _ _ h => h) (Or.inl ⟨by rfl, ?hy2⟩) hS0 ?rest2
  case hy2 =>
    intro V hV
    obtain ⟨y0, y1, y2, y3, y4, y5, y6, y7, y8, y9⟩ := hV
    go_simp
    all_goals rfl
  simp only [Act.put, List.setIfInBounds_toArray, List.set_cons_zero, List.set_cons_succ]
  refine wpAnyH_take (i := 2) (oi := { dst := some 11, op := Op.fieldAddr 73 (Operand.tmp 10) 0, type := 0, pos := "step.go:219", after := #[{ on := 1, ground := Ground.data }], guard := none }) (v := ?vv3) rfl (by kernel_rfl) (by kernel_rfl) (by kernel_rfl) (fun _ _ _ h => h) (Or.inl ⟨by rfl, ?hy3⟩) hS0 ?rest3
  case hy3 =>
    intro V hV
    obtain ⟨y0, y1, y2, y3, y4, y5, y6, y7, y8, y9⟩ := hV
    go_simp
    all_goals rfl
  simp only [Act.put, List.setIfInBounds_toArray, List.set_cons_zero, List.set_cons_succ]
  refine wpAnyH_take (i := 3) (oi := { dst := some 12, op := Op.fieldAddr 28 (Operand.tmp 11) 1, type := 0, pos := "step.go:219", after := #[{ on := 2, ground := Ground.data }], guard := none }) (v := ?vv4) rfl (by kernel_rfl) (by kernel_rfl) (by kernel_rfl) (fun _ _ _ h => h) (Or.inl ⟨by rfl, ?hy4⟩) hS0 ?rest4
  case hy4 =>
    intro V hV
    obtain ⟨y0, y1, y2, y3, y4, y5, y6, y7, y8, y9⟩ := hV
    go_simp
    all_goals rfl
  simp only [Act.put, List.setIfInBounds_toArray, List.set_cons_zero, List.set_cons_succ]
  refine wpAnyH_take (i := 4) (oi := { dst := some 13, op := Op.load 26 (Operand.tmp 12), type := 26, pos := "step.go:219", after := #[{ on := 3, ground := Ground.data }], guard := none }) (v := ?vv5) rfl (by kernel_rfl) (by kernel_rfl) (by kernel_rfl) (fun _ _ _ h => h) (Or.inl ⟨by rfl, ?hy5⟩) hS0 ?rest5
  case hy5 =>
    intro V hV
    obtain ⟨y0, y1, y2, y3, y4, y5, y6, y7, y8, y9⟩ := hV
    go_simp
    all_goals rfl
  simp only [Act.put, List.setIfInBounds_toArray, List.set_cons_zero, List.set_cons_succ]
  refine wpAnyH_take (i := 5) (oi := { dst := some 14, op := Op.move (Operand.tmp 1), type := 3, pos := "step.go:219", after := #[], guard := none }) (v := ?vv6) rfl (by kernel_rfl) (by kernel_rfl) (by kernel_rfl) (fun _ _ _ h => h) (Or.inl ⟨by rfl, ?hy6⟩) hS0 ?rest6
  case hy6 =>
    intro V hV
    obtain ⟨y0, y1, y2, y3, y4, y5, y6, y7, y8, y9⟩ := hV
    go_simp
    all_goals rfl
  simp only [Act.put, List.setIfInBounds_toArray, List.set_cons_zero, List.set_cons_succ]
  refine wpAnyH_take (i := 6) (oi := { dst := some 15, op := Op.indexAddr 26 (Operand.tmp 13) (Operand.tmp 14), type := 0, pos := "step.go:219", after := #[{ on := 4, ground := Ground.data }, { on := 5, ground := Ground.data }], guard := none }) (v := ?vv7) rfl (by kernel_rfl) (by kernel_rfl) (by kernel_rfl) (fun _ _ _ h => h) (Or.inl ⟨by rfl, ?hy7⟩) hS0 ?rest7
  case hy7 =>
    intro V hV
    obtain ⟨y0, y1, y2, y3, y4, y5, y6, y7, y8, y9⟩ := hV
    go_simp
    all_goals rfl
  simp only [Act.put, List.setIfInBounds_toArray, List.set_cons_zero, List.set_cons_succ]
  refine wpAnyH_take (i := 7) (oi := { dst := some 16, op := Op.load 32 (Operand.tmp 15), type := 32, pos := "step.go:219", after := #[{ on := 6, ground := Ground.data }], guard := none }) (v := ?vv8) rfl (by kernel_rfl) (by kernel_rfl) (by kernel_rfl) (fun _ _ _ h => h) (Or.inl ⟨by rfl, ?hy8⟩) hS0 ?rest8
  case hy8 =>
    intro V hV
    obtain ⟨y0, y1, y2, y3, y4, y5, y6, y7, y8, y9⟩ := hV
    go_simp
    all_goals rfl
  simp only [Act.put, List.setIfInBounds_toArray, List.set_cons_zero, List.set_cons_succ]
  refine wpAnyH_take (i := 8) (oi := { dst := some 17, op := Op.move (Operand.tmp 0), type := 70, pos := "step.go:219", after := #[{ on := 18, ground := Ground.gcOnly Departure.lateStores }], guard := none }) (v := ?vv9) rfl (by kernel_rfl) (by kernel_rfl) (by kernel_rfl) (fun _ _ _ h => h) (Or.inl ⟨by rfl, ?hy9⟩) hS0 ?rest9
  case hy9 =>
    intro V hV
    obtain ⟨y0, y1, y2, y3, y4, y5, y6, y7, y8, y9⟩ := hV
    go_simp
    all_goals rfl
  simp only [Act.put, List.setIfInBounds_toArray, List.set_cons_zero, List.set_cons_succ]
  refine wpAnyH_take (i := 9) (oi := { dst := some 18, op := Op.nilCheck (Operand.tmp 17), type := 0, pos := "step.go:219", after := #[{ on := 8, ground := Ground.data }, { on := 18, ground := Ground.gcOnly Departure.lateStores }], guard := none }) (v := ?vv10) rfl (by kernel_rfl) (by kernel_rfl) (by kernel_rfl) (fun _ _ _ h => h) (Or.inl ⟨by rfl, ?hy10⟩) hS0 ?rest10
  case hy10 =>
    intro V hV
    obtain ⟨y0, y1, y2, y3, y4, y5, y6, y7, y8, y9⟩ := hV
    go_simp
    all_goals rfl
  simp only [Act.put, List.setIfInBounds_toArray, List.set_cons_zero, List.set_cons_succ]
  refine wpAnyH_take (i := 10) (oi := { dst := some 19, op := Op.fieldAddr 73 (Operand.tmp 18) 1, type := 0, pos := "step.go:219", after := #[{ on := 9, ground := Ground.data }, { on := 18, ground := Ground.gcOnly Departure.lateStores }], guard := none }) (v := ?vv11) rfl (by kernel_rfl) (by kernel_rfl) (by kernel_rfl) (fun _ _ _ h => h) (Or.inl ⟨by rfl, ?hy11⟩) hS0 ?rest11
  case hy11 =>
    intro V hV
    obtain ⟨y0, y1, y2, y3, y4, y5, y6, y7, y8, y9⟩ := hV
    go_simp
    all_goals rfl
  simp only [Act.put, List.setIfInBounds_toArray, List.set_cons_zero, List.set_cons_succ]
  refine wpAnyH_take (i := 11) (oi := { dst := some 20, op := Op.fieldAddr 39 (Operand.tmp 19) 6, type := 0, pos := "step.go:219", after := #[{ on := 10, ground := Ground.data }, { on := 18, ground := Ground.gcOnly Departure.lateStores }], guard := none }) (v := ?vv12) rfl (by kernel_rfl) (by kernel_rfl) (by kernel_rfl) (fun _ _ _ h => h) (Or.inl ⟨by rfl, ?hy12⟩) hS0 ?rest12
  case hy12 =>
    intro V hV
    obtain ⟨y0, y1, y2, y3, y4, y5, y6, y7, y8, y9⟩ := hV
    go_simp
    all_goals rfl
  simp only [Act.put, List.setIfInBounds_toArray, List.set_cons_zero, List.set_cons_succ]
  refine wpAnyH_take (i := 12) (oi := { dst := some 21, op := Op.load 36 (Operand.tmp 20), type := 36, pos := "step.go:219", after := #[{ on := 11, ground := Ground.data }, { on := 18, ground := Ground.gcOnly Departure.lateStores }], guard := none }) (v := ?vv13) rfl (by kernel_rfl) (by kernel_rfl) (by kernel_rfl) (fun _ _ _ h => h) (Or.inl ⟨by rfl, ?hy13⟩) hS0 ?rest13
  case hy13 =>
    intro V hV
    obtain ⟨y0, y1, y2, y3, y4, y5, y6, y7, y8, y9⟩ := hV
    go_simp
    all_goals rfl
  simp only [Act.put, List.setIfInBounds_toArray, List.set_cons_zero, List.set_cons_succ]
  refine wpAnyH_take (i := 13) (oi := { dst := some 22, op := Op.move (Operand.tmp 1), type := 3, pos := "step.go:219", after := #[{ on := 18, ground := Ground.gcOnly Departure.lateStores }], guard := none }) (v := ?vv14) rfl (by kernel_rfl) (by kernel_rfl) (by kernel_rfl) (fun _ _ _ h => h) (Or.inl ⟨by rfl, ?hy14⟩) hS0 ?rest14
  case hy14 =>
    intro V hV
    obtain ⟨y0, y1, y2, y3, y4, y5, y6, y7, y8, y9⟩ := hV
    go_simp
    all_goals rfl
  simp only [Act.put, List.setIfInBounds_toArray, List.set_cons_zero, List.set_cons_succ]
  refine wpAnyH_take (i := 14) (oi := { dst := some 23, op := Op.indexAddr 36 (Operand.tmp 21) (Operand.tmp 22), type := 0, pos := "step.go:219", after := #[{ on := 12, ground := Ground.data }, { on := 13, ground := Ground.data }, { on := 18, ground := Ground.gcOnly Departure.lateStores }], guard := none }) (v := ?vv15) rfl (by kernel_rfl) (by kernel_rfl) (by kernel_rfl) (fun _ _ _ h => h) (Or.inl ⟨by rfl, ?hy15⟩) hS0 ?rest15
  case hy15 =>
    intro V hV
    obtain ⟨y0, y1, y2, y3, y4, y5, y6, y7, y8, y9⟩ := hV
    go_simp
    all_goals rfl
  simp only [Act.put, List.setIfInBounds_toArray, List.set_cons_zero, List.set_cons_succ]
  refine wpAnyH_take (i := 15) (oi := { dst := some 24, op := Op.fieldAddr 54 (Operand.tmp 23) 1, type := 0, pos := "step.go:219", after := #[{ on := 14, ground := Ground.data }, { on := 18, ground := Ground.gcOnly Departure.lateStores }], guard := none }) (v := ?vv16) rfl (by kernel_rfl) (by kernel_rfl) (by kernel_rfl) (fun _ _ _ h => h) (Or.inl ⟨by rfl, ?hy16⟩) hS0 ?rest16
  case hy16 =>
    intro V hV
    obtain ⟨y0, y1, y2, y3, y4, y5, y6, y7, y8, y9⟩ := hV
    go_simp
    all_goals rfl
  simp only [Act.put, List.setIfInBounds_toArray, List.set_cons_zero, List.set_cons_succ]
  refine wpAnyH_take (i := 16) (oi := { dst := some 25, op := Op.load 3 (Operand.tmp 24), type := 3, pos := "step.go:219", after := #[{ on := 15, ground := Ground.data }, { on := 18, ground := Ground.gcOnly Departure.lateStores }], guard := none }) (v := ?vv17) rfl (by kernel_rfl) (by kernel_rfl) (by kernel_rfl) (fun _ _ _ h => h) (Or.inl ⟨by rfl, ?hy17⟩) hS0 ?rest17
  case hy17 =>
    intro V hV
    obtain ⟨y0, y1, y2, y3, y4, y5, y6, y7, y8, y9⟩ := hV
    go_simp
    all_goals rfl
  simp only [Act.put, List.setIfInBounds_toArray, List.set_cons_zero, List.set_cons_succ]
  refine wpAnyH_ready (rs := [17]) (by kernel_rfl) (by simp) (AllReadyH.cons (o := { dst := some 6, op := Op.alloc 32, type := 0, pos := "step.go:219", after := #[], guard := none }) rfl (fun K' hK => ?_) AllReadyH.nil)
  have hmb : ((V0).alloc (.cells #[.string ⟨#[]⟩, .int .i64 0, .string ⟨#[]⟩, .string ⟨#[]⟩, .int .i64 0, .int .i64 0, .slice none 0 0] 32)).heap[(V0).heap.size]? = some (.cells #[.string ⟨#[]⟩, .int .i64 0, .string ⟨#[]⟩, .string ⟨#[]⟩, .int .i64 0, .int .i64 0, .slice none 0 0] 32 (0, 0)) := heap_alloc_new _ _
  have KA : Kept (fun _ => False) V0 ((V0).alloc (.cells #[.string ⟨#[]⟩, .int .i64 0, .string ⟨#[]⟩, .string ⟨#[]⟩, .int .i64 0, .int .i64 0, .slice none 0 0] 32)) := ((Kept.refl (fun _ => False) V0)).and (Kept.alloc _ _ _)
  go_simp
  refine hK.out _ _ (HS.out _ KA) (fun _ => ?_)
  generalize (V0).alloc (.cells #[.string ⟨#[]⟩, .int .i64 0, .string ⟨#[]⟩, .string ⟨#[]⟩, .int .i64 0, .int .i64 0, .slice none 0 0] 32) = V6 at *
  obtain ⟨mb, hmbe⟩ : ∃ mb, mb = (V0).heap.size := ⟨_, rfl⟩
  rw [← hmbe] at hmb ⊢
  have hz : V0.heap.size ≤ mb := Nat.le_of_eq hmbe.symm
  clear hmbe
  clear hK K'
  try (simp only [Act.put, List.setIfInBounds_toArray, List.set_cons_zero, List.set_cons_succ])
  refine wpAnyH_ready (rs := [18]) (by kernel_rfl) (by simp) (AllReadyH.cons (o := { dst := none, op := Op.store 32 (Operand.tmp 6) (Operand.tmp 16), type := 0, pos := "step.go:219", after := #[{ on := 17, ground := Ground.data }, { on := 7, ground := Ground.data }, { on := 0, ground := Ground.phase }, { on := 1, ground := Ground.phase }, { on := 2, ground := Ground.phase }, { on := 3, ground := Ground.phase }, { on := 4, ground := Ground.phase }, { on := 5, ground := Ground.phase }, { on := 6, ground := Ground.phase }, { on := 7, ground := Ground.phase }, { on := 8, ground := Ground.textOnly Departure.lateStores }, { on := 9, ground := Ground.textOnly Departure.lateStores }, { on := 10, ground := Ground.textOnly Departure.lateStores }, { on := 11, ground := Ground.textOnly Departure.lateStores }, { on := 12, ground := Ground.textOnly Departure.lateStores }, { on := 13, ground := Ground.textOnly Departure.lateStores }, { on := 14, ground := Ground.textOnly Departure.lateStores }, { on := 15, ground := Ground.textOnly Departure.lateStores }, { on := 16, ground := Ground.textOnly Departure.lateStores }, { on := 17, ground := Ground.phase }], guard := none }) rfl (fun K' hK => ?_) AllReadyH.nil)
  obtain ⟨⟨p0, p1, p2, p3, p4, p5, p6⟩, f0, f1, f2, f3, f4, f5, f6⟩ := cells7F hmb
  have HM := hid (cells7put hmb (.string m0) (.int .i64 m1) (.string m2) (.string m3) (.int .i64 m4) (.int .i64 m5) (.slice av an cv))
  have KS := cells7kept (S := fun j => j = mb) V6 rfl (.string m0) (.int .i64 m1) (.string m2) (.string m3) (.int .i64 m4) (.int .i64 m5) (.slice av an cv)
  have KF := (KA).trans KS (fun j h => .inr (by subst h; exact hz))
  go_simp
  refine hK.out _ _ (HS.out _ KF) (fun _ => ?_)
  have HKF := hid (HKD.out.and KF)
  clear p0 p1 p2 p3 p4 p5 p6 f0 f1 f2 f3 f4 f5 f6 KS
  clear hK K'
  try (simp only [Act.put, List.setIfInBounds_toArray, List.set_cons_zero, List.set_cons_succ])
  refine wpAnyH_take (i := 19) (oi := { dst := some 7, op := Op.assign (Operand.tmp 25), type := 3, pos := "step.go:219", after := #[{ on := 16, ground := Ground.data }, { on := 18, ground := Ground.chain }, { on := 0, ground := Ground.phase }, { on := 1, ground := Ground.phase }, { on := 2, ground := Ground.phase }, { on := 3, ground := Ground.phase }, { on := 4, ground := Ground.phase }, { on := 5, ground := Ground.phase }, { on := 6, ground := Ground.phase }, { on := 7, ground := Ground.phase }, { on := 8, ground := Ground.phase }, { on := 9, ground := Ground.phase }, { on := 10, ground := Ground.phase }, { on := 11, ground := Ground.phase }, { on := 12, ground := Ground.phase }, { on := 13, ground := Ground.phase }, { on := 14, ground := Ground.phase }, { on := 15, ground := Ground.phase }, { on := 16, ground := Ground.phase }, { on := 17, ground := Ground.phase }, { on := 18, ground := Ground.phase }], guard := none }) (v := ?vv18) rfl (by kernel_rfl) (by kernel_rfl) (by kernel_rfl) (fun _ _ _ h => h) (Or.inl ⟨by rfl, ?hy18⟩) (HS.out _ KF) ?rest18
  case hy18 =>
    intro V hV
    obtain ⟨y0, y1, y2, y3, y4, y5, y6, y7, y8, y9⟩ := hV
    go_simp
    all_goals rfl
  simp only [Act.put, List.setIfInBounds_toArray, List.set_cons_zero, List.set_cons_succ]
  refine wpAnyH_done (by kernel_rfl) ?_ _
  exact HH.out _ _ _ _ _ _ _ _ _ _ _ _ _ _ _ _ _ mb _ (Nat.le_trans HKD.out.size hz) HM.out HKF.out

set_option maxRecDepth 100000 in
set_option maxHeartbeats 8000000 in
theorem tk10 {W : World} {sb qb : Nat} {x : ByteArray} {tr dl nw z : Int} {ds : List Deferred} {u1 u2 u4 u5 u6 u10 u11 u12 u13 u14 u15 u16 u17 u18 u19 u20 u21 u22 u23 u24 u25 u26 u27 u28 u29 u30 u31 u32 u33 u34 u35 u36 u37 u38 u39 u40 u41 u42 u43 u44 u45 u46 u47 u48 u49 u50 u51 u52 u53 u54 u55 u56 u57 u58 u59 u60 u61 u62 u63 u64 u65 u66 u67 u68 u69 u70 : Value} (K : Act → World → Prop)
    (x0 : W.cell? ⟨qb, 1, none⟩ = some (.string x)) (x1 : W.cell? ⟨sb, 11, none⟩ = some (.int .i64 nw)) (hz : IntKind.i64.wrap (nw + dl) = z)
    (h : ∀ (v51 v52 v53 v54 v55 v56 v57 v58 v59 v60 v61 v62 v63 : Value) (a4 : Option Addr) (c4 : Nat) (w4 : World), w4.ownsRow W.heap.size 50 13 (.slice a4 1 c4) 1 (tkC ⟨2, ⟨#[]⟩, x, tr, z, zeroMl⟩) → Kept (fun _ => False) W w4 → K { tmps := #[.pointer (some ⟨sb, 0, none⟩), u1, u2, .pointer (some ⟨qb, 0, none⟩), u4, u5, u6, .int .i64 tr, .slice a4 1 c4, .int .i64 dl, u10, u11, u12, u13, u14, u15, u16, u17, u18, u19, u20, u21, u22, u23, u24, u25, u26, u27, u28, u29, u30, u31, u32, u33, u34, u35, u36, u37, u38, u39, u40, u41, u42, u43, u44, u45, u46, u47, u48, u49, u50, v51, v52, v53, v54, v55, v56, v57, v58, v59, v60, v61, v62, v63, u64, u65, u66, u67, u68, u69, u70], defers := ds } w4) :
    (Code.region 10 #[{ dst := some 51, op := Op.move (Operand.tmp 8), type := 40, pos := "step.go:131", after := #[], guard := none }, { dst := some 52, op := Op.fieldAddr 34 (Operand.tmp 3) 1, type := 0, pos := "step.go:131", after := #[], guard := none }, { dst := some 53, op := Op.load 9 (Operand.tmp 52), type := 9, pos := "step.go:131", after := #[{ on := 1, ground := Ground.data }], guard := none }, { dst := some 54, op := Op.move (Operand.tmp 7), type := 3, pos := "step.go:131", after := #[], guard := none }, { dst := some 55, op := Op.move (Operand.tmp 0), type := 70, pos := "step.go:131", after := #[], guard := none }, { dst := some 56, op := Op.nilCheck (Operand.tmp 55), type := 0, pos := "step.go:131", after := #[{ on := 4, ground := Ground.data }], guard := none }, { dst := some 57, op := Op.fieldAddr 73 (Operand.tmp 56) 2, type := 0, pos := "step.go:131", after := #[{ on := 5, ground := Ground.data }], guard := none }, { dst := some 58, op := Op.load 3 (Operand.tmp 57), type := 3, pos := "step.go:131", after := #[{ on := 6, ground := Ground.data }], guard := none }, { dst := some 59, op := Op.move (Operand.tmp 9), type := 3, pos := "step.go:131", after := #[], guard := none }, { dst := some 60, op := Op.binOp BinOp.add 3 (Operand.tmp 58) (Operand.tmp 59) 3, type := 3, pos := "step.go:131", after := #[{ on := 7, ground := Ground.data }, { on := 8, ground := Ground.data }], guard := none }, { dst := some 61, op := Op.build 50 #[(0, Operand.const (Value.int IntKind.i64 2)), (3, Operand.tmp 53), (4, Operand.tmp 54), (5, Operand.tmp 60)], type := 50, pos := "step.go:131", after := #[{ on := 2, ground := Ground.data }, { on := 3, ground := Ground.data }, { on := 9, ground := Ground.data }], guard := none }, { dst := some 62, op := Op.buildSlice 40 1 #[(0, Operand.tmp 61)], type := 40, pos := "step.go:131", after := #[{ on := 10, ground := Ground.data }], guard := none }, { dst := some 63, op := Op.call { callee := Callee.builtin Builtin.append, args := #[Operand.tmp 51, Operand.tmp 62], argTypes := #[40, 40] }, type := 40, pos := "step.go:131", after := #[{ on := 0, ground := Ground.data }, { on := 11, ground := Ground.data }], guard := none }, { dst := some 8, op := Op.assign (Operand.tmp 63), type := 40, pos := "step.go:131", after := #[{ on := 12, ground := Ground.data }, { on := 12, ground := Ground.chain }, { on := 0, ground := Ground.phase }, { on := 1, ground := Ground.phase }, { on := 2, ground := Ground.phase }, { on := 3, ground := Ground.phase }, { on := 4, ground := Ground.phase }, { on := 5, ground := Ground.phase }, { on := 6, ground := Ground.phase }, { on := 7, ground := Ground.phase }, { on := 8, ground := Ground.phase }, { on := 9, ground := Ground.phase }, { on := 10, ground := Ground.phase }, { on := 11, ground := Ground.phase }, { on := 12, ground := Ground.phase }], guard := none }] true).wp Tryd.prog (onlyN K) { tmps := #[.pointer (some ⟨sb, 0, none⟩), u1, u2, .pointer (some ⟨qb, 0, none⟩), u4, u5, u6, .int .i64 tr, .slice none 0 0, .int .i64 dl, u10, u11, u12, u13, u14, u15, u16, u17, u18, u19, u20, u21, u22, u23, u24, u25, u26, u27, u28, u29, u30, u31, u32, u33, u34, u35, u36, u37, u38, u39, u40, u41, u42, u43, u44, u45, u46, u47, u48, u49, u50, u51, u52, u53, u54, u55, u56, u57, u58, u59, u60, u61, u62, u63, u64, u65, u66, u67, u68, u69, u70], defers := ds } W := by
  obtain ⟨j0, hj0, hy0, hy1, hy2⟩ := info_parts Tryd.info50
  have HH : Hid _ := h
  have HKD : Hid (Kept (fun _ => False) W W.drew) := Kept.drew _ _
  have HC : Hid (∀ u ∈ tkC ⟨2, ⟨#[]⟩, x, tr, z, zeroMl⟩, u.oneCell' = true) := fun u hu => tkF_one [⟨2, ⟨#[]⟩, x, tr, z, zeroMl⟩] u (by simpa [tkF] using hu)
  have r0 : W.drew.cell? ⟨qb, 1, none⟩ = some (.string x) := x0
  have r1 : W.drew.cell? ⟨sb, 11, none⟩ = some (.int .i64 nw) := x1
  clear h x0 x1
  go_region_law
    (first
      | (refine step_append_sr _ (by rfl) _ _ 40 (by rfl) W.heap.size 50 j0 _ 13 168 Tryd.underlying40 hj0 hy0 hy1 hy2 rfl (by decide) (.slice none 0 0) 0 [] (by rfl) (World.ownsRow_nil _ _ _ _) _ (by rfl) 1 (tkC ⟨2, ⟨#[]⟩, x, tr, z, zeroMl⟩) (.inl ⟨_, 1, rfl, rfl, World.news_of_block (heap_alloc_new W.drew (.cells #[.int .i64 2, .complex .f64 0 0, .string ⟨#[]⟩, .string x, .int .i64 tr, .int .i64 z, .int .i64 0, .string ⟨#[]⟩, .string ⟨#[]⟩, .string ⟨#[]⟩, .string ⟨#[]⟩, .string ⟨#[]⟩, .int .i64 0] 50))⟩) HC.out (by unfold maxLen; omega) (by omega) (Kept.alloc (fun _ => False) W.drew (.cells #[.int .i64 2, .complex .f64 0 0, .string ⟨#[]⟩, .string x, .int .i64 tr, .int .i64 z, .int .i64 0, .string ⟨#[]⟩, .string ⟨#[]⟩, .string ⟨#[]⟩, .string ⟨#[]⟩, .string ⟨#[]⟩, .int .i64 0] 50)).size ?_; intro a4 c4 w4 ho4 hg4 _ hl4; have K4 : Kept (fun _ => False) W w4 := (HKD.out.and (Kept.alloc _ _ _)).and (Kept.grown hg4 (fun j e => by cases e)))
      | fail)
  all_goals exact HH.out _ _ _ _ _ _ _ _ _ _ _ _ _ a4 c4 w4 ho4 K4

end Go.Proofs.YtdecceekodpjiaaDoor

/-
  slices.Contains of a row of whole numbers.
-/
namespace Go.Proofs.YtdecceekodpjiaaDoor
open Go.RowKit

def idxZ (ks : List Int) (x : Int) : Int := match ks.findIdx? (fun k => x == k) with | some i => (i : Int) | none => -1

theorem idxZ_hit {ks : List Int} {x : Int} {k : Nat} (hk : k < ks.length) (hno : ∀ j (hj : j < k), (x == (ks[j]'(by omega))) = false) (h : (x == ks[k]) = true) : idxZ ks x = k := by
  have : ks.findIdx? (fun k => x == k) = some k := by
    rw [List.findIdx?_eq_some_iff_getElem]
    exact ⟨hk, h, fun j hj => by simp [hno j hj]⟩
  unfold idxZ
  rw [this]

theorem idxZ_none {ks : List Int} {x : Int} (hno : ∀ j (hj : j < ks.length), (x == ks[j]) = false) : idxZ ks x = -1 := by
  have : ks.findIdx? (fun k => x == k) = none := by
    rw [List.findIdx?_eq_none_iff]
    intro y hy
    obtain ⟨j, hj, rfl⟩ := List.mem_iff_getElem.1 hy
    exact hno j hj
  unfold idxZ
  rw [this]

theorem idxZ_contains (ks : List Int) (x : Int) : decide (0 ≤ idxZ ks x) = ks.contains x := by
  unfold idxZ
  split
  · rename_i i h
    rw [List.findIdx?_eq_some_iff_getElem] at h
    obtain ⟨hi, h, _⟩ := h
    have hx : x = ks[i] := by simpa using h
    have : ks.contains x = true := by rw [List.contains_iff_mem, hx]; exact List.getElem_mem hi
    rw [this]
    simp
  · rename_i h
    rw [List.findIdx?_eq_none_iff] at h
    have : ks.contains x = false := by
      cases hc : ks.contains x with
      | false => rfl
      | true =>
        rw [List.contains_iff_mem] at hc
        have := h x hc
        simp at this
    rw [this]
    decide

set_option maxRecDepth 100000 in
set_option maxHeartbeats 2000000 in
theorem index_any (w : World) (a : Option Addr) (c : Nat) (ks : List Int) (hl : ks.length ≤ 1000000) (h : CellsAt w a (ks.map (Value.int .i64))) (x : Int) :
    Calls Tryd.prog 67 #[.slice a ks.length c, .int .i64 x] w fun e w' => e = .returned (.int .i64 (idxZ ks x)) ∧ w' = w := by
  have HC : Hid (CellsAt w a (ks.map (Value.int .i64))) := h
  clear h
  go_enter Tryd.func67, Tryd.ntmps67
  go_wp2_with fail
  go_loopw [8] (fun q wr => ∃ (k : Nat), k ≤ ks.length ∧ q = .int .i64 k ∧ wr = w ∧ ∀ j (hj : j < k) (hj2 : j < ks.length), (x == ks[j]) = false) (fun q _ => ks.length - (intOf q).toNat)
  case atStart => exact ⟨0, Nat.zero_le _, rfl, rfl, fun j hj => by omega⟩
  case round =>
    obtain ⟨k, hk, rfl, hwr, hno⟩ := hrel
    subst wr
    have HNo : Hid (∀ j (hj : j < k) (hj2 : j < ks.length), (x == ks[j]) = false) := hno
    clear hno
    by_cases hlt : k < ks.length
    · have e0 : (k : Int) < (ks.length : Int) := by omega
      obtain ⟨b, o, rfl, hc⟩ : ∃ b o, a = some ⟨b, o, none⟩ ∧ w.cell? ⟨b, o + k, none⟩ = some (.int .i64 ks[k]) := by
        rcases HC.out with h | ⟨b, o, h, hc⟩
        · simp at h; subst h; simp at hlt
        · exact ⟨b, o, h, hc k _ (by simp [hlt])⟩
      have HF : Hid ((x == ks[k]) = true → idxZ ks x = k) := fun h => idxZ_hit hlt (fun j hj => HNo.out j hj (by omega)) h
      have HG : Hid ((x == ks[k]) = false → ∀ j (hj : j < k + 1) (hj2 : j < ks.length), (x == ks[j]) = false) := fun h j hj hj2 => by
        by_cases hjk : j = k
        · subst hjk; exact h
        · exact HNo.out j (by omega) hj2
      clear HC HNo
      generalize ks[k] = y at *
      cases hb : (x == y) with
      | true =>
        have HI := hid (HF.out hb)
        clear HF HG
        go_wp2_with fail
        go_ret
        exact ⟨by rw [HI.out]; rfl, rfl⟩
      | false =>
        have HN := hid (HG.out hb)
        clear HF HG
        go_wp2_with fail
        go_roundw
        case rel => exact ⟨k + 1, by omega, by go_num, by first | trivial | rfl, HN.out⟩
        case measure => simp [intOf]; omega
    · have e0 : ¬ (k : Int) < (ks.length : Int) := by omega
      have HI := hid (idxZ_none (ks := ks) (x := x) (fun j hj => HNo.out j (by omega) hj))
      clear HC HNo
      go_wp2_with fail
      go_ret
      exact ⟨by rw [HI.out]; rfl, rfl⟩

set_option maxRecDepth 100000 in
theorem contains_any (w : World) (a : Option Addr) (c : Nat) (ks : List Int) (hl : ks.length ≤ 1000000) (h : CellsAt w a (ks.map (Value.int .i64))) (x : Int) :
    Calls Tryd.prog 55 #[.slice a ks.length c, .int .i64 x] w fun e w' => e = .returned (.bool (ks.contains x)) ∧ w' = w := by
  have hI := index_any w a c ks hl h x
  have HE := hid (idxZ_contains ks x)
  generalize idxZ ks x = z at *
  clear h
  go_enter Tryd.func55, Tryd.ntmps55
  go_wp2_with (first
    | (go_at_call 67; refine hI.mono ?_; rintro e w1 ⟨rfl, hw1⟩; subst w1; clear hI)
    | fail)
  go_ret
  exact ⟨by rw [← HE.out]; rfl, rfl⟩

end Go.Proofs.YtdecceekodpjiaaDoor

/-
  The run's methods that look for a node: find, busy, busyWait.
-/
namespace Go.Proofs.YtdecceekodpjiaaDoor
open Go.RowKit

def inpV (q : Inp) : Value := .agg #[.int .i64 q.kind, .string q.node, .string q.name, .string q.text, .int .i64 q.tr, .int .i64 q.status, .int .i64 q.now, .string q.par, .string q.pnode]

theorem findS_some {ns : List Nd} {m : Nat} {x : ByteArray} (h : findS ns m x = true) : ∃ i, findP ns x = some i ∧ i < m := by
  unfold findS at h
  split at h
  · rename_i i hi
    exact ⟨i, hi, of_decide_eq_true h⟩
  · cases h

set_option maxRecDepth 100000 in
set_option maxHeartbeats 4000000 in
theorem rfind_any {w0 w : World} {H : Nat → Prop} {rb : Nat} {nm : ByteArray} {a : Option Addr} {c : Nat} {ns : List Nd} {r : Rn} {m : Nat} (E : Env w0 w H a ns) (R : RAt w H rb nm a ns.length c r) (F : Fit r m) (hm : m ≤ 1000000) (x : ByteArray) (ka : Option Addr) (kc : Nat) (ks : List Int) (hks : ks.length ≤ 1000000) (hC : CellsAt w ka (ks.map (Value.int .i64))) :
    Calls Tryd.prog 38 #[.pointer (some ⟨rb, 0, none⟩), .string x, .slice ka ks.length kc] w fun e w' => e = .returned (.tuple #[.int .i64 ((findP ns x).getD 0 : Nat), .bool (findK ns r.st x ks).isSome]) ∧ Kept (fun _ => False) w w' := by
  obtain ⟨v6, v7, v12, v13, hb, hn6, hn7, _, _, htop⟩ := R.opened
  obtain ⟨x0, x1, x2, x3, x4, x5, x6, x7, x8, x9, x10, _⟩ := runCells hb
  have hF := hfind_any w.drew nm a c ns (keptNew (Kept.drew _ _) E.here.1) E.few r.st v6 v7 ⟨flat_of_owns (ownsRow_keep hn6 (fun _ _ => rfl)), flat_of_owns (ownsRow_keep hn7 (fun _ _ => rfl)), F.nodes, by have := F.sigs; omega⟩ x
  have HE := hid E
  have HCC := hid hC
  unfold stA at hF
  clear E R F hn6 hn7 hb htop hC
  go_enter Tryd.func38, Tryd.ntmps38
  go_upto_region 1 with fail
  refine wp_onlyN (fd1 _ x0 x1 x2 x3 x4 x5 x6 x7 x8 x9 x10 hF ?_)
  intro _ _ _ _ _ _ _ _ _ _ _ _ _ w5 K5
  have y1 := keepC K5 x1 (fun _ _ h => h)
  clear x0 x1 x2 x3 x4 x5 x6 x7 x8 x9 x10 hF
  cases hs : findS ns r.st.nodes.length x with
  | false =>
    have hk : findK ns r.st x ks = none := by
      unfold findK
      unfold findS at hs
      split
      · rfl
      · rename_i i hi
        rw [hi] at hs
        split
        · rfl
        · rw [if_neg (fun h => by simp at hs; omega)]
    have HK := hid (show (findK ns r.st x ks).isSome = false by rw [hk]; rfl)
    clear hk
    go_wp2_with fail
    go_ret2
    exact ⟨by rw [HK.out]; rfl, K5⟩
  | true =>
    obtain ⟨i, hi, h6⟩ := findS_some hs
    have hin := findP_lt hi
    have hC5 := contains_any w5 ka kc ks hks (HCC.out.kept K5 (fun _ _ h => h)) (ns[i]).kind
    obtain ⟨b, o, av, cv, hae, hT, c0, c1, c2, c3, c4, c5, c6⟩ := (keptNew K5 HE.out.here.1).at hin
    have hk : (findK ns r.st x ks).isSome = ks.contains (ns[i]).kind := by
      unfold findK
      rw [hi]
      dsimp only
      rw [List.getElem?_eq_getElem hin]
      dsimp only
      cases ks.contains (ns[i]).kind with
      | true => rw [if_pos ⟨h6, rfl⟩]; rfl
      | false => rw [if_neg (fun h => by cases h.2)]; rfl
    have HK := hid hk
    have e1 : (i : Int) < (ns.length : Int) := by omega
    have hg : ((findP ns x).getD 0) = i := by rw [hi]; rfl
    have HG := hid hg
    rw [hg]
    subst hae
    clear hk hg hi hs hT
    generalize ks.contains (ns[i]).kind = bb at *
    generalize (ns[i]).kind = kd at *
    go_wp2_with (first
      | (go_at_call 55; refine hC5.mono ?_; rintro e w6 ⟨rfl, hw6⟩; subst w6; clear hC5)
      | fail)
    go_ret2
    exact ⟨by rw [HK.out, HG.out]; rfl, K5⟩

set_option maxRecDepth 100000 in
set_option maxHeartbeats 8000000 in
theorem busy_any {w0 w : World} {H : Nat → Prop} {rb : Nat} {nm : ByteArray} {a : Option Addr} {c : Nat} {ns : List Nd} {r : Rn} {m : Nat} (E : Env w0 w H a ns) (R : RAt w H rb nm a ns.length c r) (F : Fit r m) (hm : m ≤ 1000000) (q : Inp) (ka : Option Addr) (kc : Nat) (ks : List Int) (hks : ks.length ≤ 1000000) (hC : CellsAt w ka (ks.map (Value.int .i64))) :
    Calls Tryd.prog 39 #[.pointer (some ⟨rb, 0, none⟩), inpV q, .slice ka ks.length kc] w fun e w' => e = .returned (.tuple #[.int .i64 ((busyP ns r.st q ks).1 : Nat), .int .i64 (busyP ns r.st q ks).2]) ∧ Kept (fun _ => False) w w' := by
  unfold inpV
  have KA := Kept.alloc (fun _ => False) w (.cells #[.int .i64 q.kind, .string q.node, .string q.name, .string q.text, .int .i64 q.tr, .int .i64 q.status, .int .i64 q.now, .string q.par, .string q.pnode] 34)
  have hF := rfind_any (E.new KA) (R.new KA) F hm q.node ka kc ks hks (hC.kept KA (fun _ _ h => h))
  have qb := heap_alloc_new w (.cells #[.int .i64 q.kind, .string q.node, .string q.name, .string q.text, .int .i64 q.tr, .int .i64 q.status, .int .i64 q.now, .string q.par, .string q.pnode] 34)
  have HQ := hid qb
  have HE := hid E
  have HR := hid R
  have HKA := hid KA
  clear E R F hC KA qb
  cases hk : findK ns r.st q.node ks with
  | none =>
    have HB := hid (show busyP ns r.st q ks = (0, 6) by unfold busyP; rw [hk])
    rw [hk] at hF
    simp only [Option.isSome_none] at hF
    clear hk
    generalize (findP ns q.node).getD 0 = j at *
    go_enter Tryd.func39, Tryd.ntmps39
    go_wp2_with (first
      | (go_at_call 38; refine hF.mono ?_; rintro e w5 ⟨rfl, K5⟩; clear hF)
      | fail)
    go_ret2
    exact ⟨by rw [HB.out]; rfl, HKA.out.and K5⟩
  | some i =>
    obtain ⟨h1, h6, hfp, hkd⟩ := findK_some hk
    have hbp : busyP ns r.st q ks = if busyB ns r.st i q.tr = true then (i, 0) else (0, 12) := by unfold busyP; rw [hk]
    have hbb : busyB ns r.st i q.tr = (((r.st.nodes[i]).status == 2) && (!((ns[i]).kind == 1) || ((r.st.nodes[i]).tr == q.tr))) := by unfold busyB; rw [List.getElem?_eq_getElem h1, List.getElem?_eq_getElem h6]
    rw [hk, hfp] at hF
    simp only [Option.isSome_some, Option.getD_some] at hF
    rw [hbb] at hbp
    have HB := hid hbp
    have e1 : (i : Int) < (ns.length : Int) := by omega
    have e6 : (i : Int) < (r.st.nodes.length : Int) := by omega
    clear hk hfp hkd hbp hbb
    obtain ⟨s2, hs2⟩ : ∃ s2, ((r.st.nodes[i]).status == 2) = s2 := ⟨_, rfl⟩
    obtain ⟨k1, hk1⟩ : ∃ k1, ((ns[i]).kind == 1) = k1 := ⟨_, rfl⟩
    obtain ⟨t1, ht1⟩ : ∃ t1, ((r.st.nodes[i]).tr == q.tr) = t1 := ⟨_, rfl⟩
    rw [hs2, hk1, ht1] at HB
    have hs2' : ((r.st.nodes[i]).status != 2) = !s2 := by rw [← hs2]; rfl
    have ht1' : ((r.st.nodes[i]).tr != q.tr) = !t1 := by rw [← ht1]; rfl
    have cells : ∀ w5, Kept (fun _ => False) (w.alloc (.cells #[.int .i64 q.kind, .string q.node, .string q.name, .string q.text, .int .i64 q.tr, .int .i64 q.status, .int .i64 q.now, .string q.par, .string q.pnode] 34)) w5 → ∃ b o g n6 c6, a = some ⟨b, o, none⟩ ∧ w5.cell? ⟨rb, 1, none⟩ = some (.slice (some ⟨b, o, none⟩) ns.length c) ∧ w5.cell? ⟨b, o + i * 7 + 1, none⟩ = some (.int .i64 (ns[i]).kind) ∧ w5.cell? ⟨rb, 8, none⟩ = some (.slice (some ⟨g, 0, none⟩) n6 c6) ∧ n6 = r.st.nodes.length ∧ w5.cell? ⟨g, i * 3, none⟩ = some (.int .i64 (r.st.nodes[i]).status) ∧ w5.cell? ⟨g, i * 3 + 1, none⟩ = some (.int .i64 (r.st.nodes[i]).tr) ∧ w5.cell? ⟨g, i * 3 + 2, none⟩ = some (.string (r.st.nodes[i]).text) ∧ w5.cell? ⟨w.heap.size, 4, none⟩ = some (.int .i64 q.tr) := fun w5 K5 => by
      have KK := HKA.out.and K5
      obtain ⟨v6, v7, v12, v13, hb, hn6, _, _, _, _⟩ := (HR.out.new KK).opened
      obtain ⟨_, x1, _, _, _, _, _, _, x8, _⟩ := runCells hb
      obtain ⟨b, o, av, cv, hae, hT, c0, c1, _⟩ := (keptNew KK HE.out.here.1).at h1
      subst hae
      obtain ⟨g, cg, hv, _, _, hrow⟩ := row_at hn6 (by omega)
      subst hv
      refine ⟨b, o, g, _, cg, rfl, x1, c1, x8, rfl, (hrow _ _ (nsF_get h6).1).1, (hrow _ _ (nsF_get h6).2.1).1, (hrow _ _ (nsF_get h6).2.2).1, ?_⟩
      have h9 := (K5.block w.heap.size (by rw [World.size_alloc]; omega) (fun h => h)).trans HQ.out
      simp [World.cell?, h9]
    have HC := hid cells
    clear cells hs2 ht1
    generalize (r.st.nodes[i]).status = zs at *
    generalize (r.st.nodes[i]).tr = zt at *
    generalize (r.st.nodes[i]).text = zx at *
    generalize (ns[i]).kind = zk at *
    go_enter Tryd.func39, Tryd.ntmps39
    cases s2 with
    | false =>
      simp only [Bool.not_false, Bool.false_and] at hs2' HB
      go_wp2_with (first
        | (go_at_call 38; refine hF.mono ?_; rintro e w5 ⟨rfl, K5⟩; clear hF; obtain ⟨b, o, g, n6, c6, hae, y1, yk, y8, hn6, ys, yt, yx, yq⟩ := HC.out w5 K5; subst hn6; clear hae)
        | fail)
      go_ret2
      exact ⟨by rw [HB.out]; rfl, (HKA.out.and K5).and (Kept.alloc _ _ _)⟩
    | true =>
      cases k1 with
      | false =>
        simp only [Bool.not_true, Bool.true_and, Bool.not_false, Bool.true_or] at hs2' HB
        go_wp2_with (first
          | (go_at_call 38; refine hF.mono ?_; rintro e w5 ⟨rfl, K5⟩; clear hF; obtain ⟨b, o, g, n6, c6, hae, y1, yk, y8, hn6, ys, yt, yx, yq⟩ := HC.out w5 K5; subst hn6; clear hae; have KB := Kept.alloc (fun _ => False) w5 (.cells #[.int .i64 zs, .int .i64 zt, .string zx] 54); have yq' := keepC KB yq (fun _ _ h => h); have y1' := keepC KB y1 (fun _ _ h => h); have yk' := keepC KB yk (fun _ _ h => h); clear KB)
          | fail)
        go_ret2
        exact ⟨by rw [HB.out]; rfl, (HKA.out.and K5).and (Kept.alloc _ _ _)⟩
      | true =>
        cases t1 with
        | false =>
          simp only [Bool.not_true, Bool.true_and, Bool.not_false, Bool.false_or] at hs2' HB ht1'
          go_wp2_with (first
            | (go_at_call 38; refine hF.mono ?_; rintro e w5 ⟨rfl, K5⟩; clear hF; obtain ⟨b, o, g, n6, c6, hae, y1, yk, y8, hn6, ys, yt, yx, yq⟩ := HC.out w5 K5; subst hn6; clear hae; have KB := Kept.alloc (fun _ => False) w5 (.cells #[.int .i64 zs, .int .i64 zt, .string zx] 54); have yq' := keepC KB yq (fun _ _ h => h); have y1' := keepC KB y1 (fun _ _ h => h); have yk' := keepC KB yk (fun _ _ h => h); clear KB)
            | fail)
          go_ret2
          exact ⟨by rw [HB.out]; rfl, (HKA.out.and K5).and (Kept.alloc _ _ _)⟩
        | true =>
          simp only [Bool.not_true, Bool.true_and, Bool.or_true] at hs2' HB ht1'
          go_wp2_with (first
            | (go_at_call 38; refine hF.mono ?_; rintro e w5 ⟨rfl, K5⟩; clear hF; obtain ⟨b, o, g, n6, c6, hae, y1, yk, y8, hn6, ys, yt, yx, yq⟩ := HC.out w5 K5; subst hn6; clear hae; have KB := Kept.alloc (fun _ => False) w5 (.cells #[.int .i64 zs, .int .i64 zt, .string zx] 54); have yq' := keepC KB yq (fun _ _ h => h); have y1' := keepC KB y1 (fun _ _ h => h); have yk' := keepC KB yk (fun _ _ h => h); clear KB)
            | fail)
          go_ret2
          exact ⟨by rw [HB.out]; rfl, (HKA.out.and K5).and (Kept.alloc _ _ _)⟩

end Go.Proofs.YtdecceekodpjiaaDoor

/-
  failTry: a try of an activity ends.
-/
namespace Go.Proofs.YtdecceekodpjiaaDoor
open Go.RowKit

set_option maxRecDepth 100000 in
set_option maxHeartbeats 8000000 in
theorem failTry_any {w0 w : World} {H : Nat → Prop} {rb : Nat} {nm : ByteArray} {a : Option Addr} {c : Nat} {ns : List Nd} {r : Rn} {m : Nat} (E : Env w0 w H a ns) (R : RAt w H rb nm a ns.length c r) (F : Fit r m) (hm : m ≤ 999999) (hn : ns.length ≤ 999999) (i : Nat) (h1 : i < ns.length) (h6 : i < r.st.nodes.length) (tx : ByteArray) :
    Calls Tryd.prog 40 #[.pointer (some ⟨rb, 0, none⟩), .int .i64 (i : Nat), .string tx] w fun e w' => e = .returned (.tuple #[]) ∧ RGoes w H rb nm a ns.length c (failTryP nm ns r i tx) w' := by
  have hfp : failTryP nm ns r i tx = if (ns[i]).tries ≤ (r.st.nodes[i]).tr then breakP nm ns r (ns[i]).name tx else tellP nm ns r ⟨5, (ns[i]).name, tx, (r.st.nodes[i]).tr⟩ [⟨1, ⟨#[]⟩, (ns[i]).name, IntKind.i64.wrap ((r.st.nodes[i]).tr + 1), 0, zeroMl⟩] := by
    unfold failTryP
    rw [List.getElem?_eq_getElem h1, List.getElem?_eq_getElem h6]
  obtain ⟨v6, v7, v12, v13, hb, hn6, _, _, _, _⟩ := R.opened
  obtain ⟨_, x1, _, _, _, _, _, _, x8, _⟩ := runCells hb
  obtain ⟨b, o, av, cv, hae, hT, c0, c1, c2, c3, c4, c5, c6⟩ := E.here.1.at h1
  obtain ⟨g, cg, hv, _, _, hrow⟩ := row_at hn6 (by omega)
  subst hv
  have q1 := (hrow _ _ (nsF_get h6).2.1).1
  have hB := fun V (KV : Kept (fun _ => False) w V) => breakAt_any (E.new KV) (R.new KV) F hm hn (ns[i]).name tx
  obtain ⟨z, hz⟩ : ∃ z, IntKind.i64.wrap ((r.st.nodes[i]).tr + 1) = z := ⟨_, rfl⟩
  have hT1 := fun V (KV : Kept (fun _ => False) w V) => tell1 (E.new KV) (R.new KV) F (by omega) ⟨5, (ns[i]).name, tx, (r.st.nodes[i]).tr⟩ ⟨1, ⟨#[]⟩, (ns[i]).name, z, 0, zeroMl⟩
  rw [hz] at hfp
  have HW := hid hfp
  have hst := fun (W : World) (a : Addr) (x y : Nat) (m : Mode) => run_store Tryd.prog W a (.complex .f64 x y) m rfl
  unfold zeroMl at hT1
  dsimp only at hT1
  subst hae
  clear hfp hb hn6 hrow hT E R F
  generalize (r.st.nodes[i]).tr = tr at *
  go_enter Tryd.func40, Tryd.ntmps40
  go_upto_region 0 with fail
  refine wp_onlyN (ft0 _ x1 x8 c0 c1 c2 c3 c4 c5 c6 q1 h1 h6 ?_)
  intro _ _ _ _ _ _ _ _ _ _ _ _ _ _ _ _ _ mb W hmb hM KW
  obtain ⟨⟨n0, n1, n2, n3, n4, n5, n6⟩, _⟩ := cells7F hM
  have hB1 := hB W KW
  have hT2 := hT1 (W.alloc (.cells #[.int .i64 1, .complex .f64 0 0, .string ⟨#[]⟩, .string (ns[i]).name, .int .i64 z, .int .i64 0, .int .i64 0, .string ⟨#[]⟩, .string ⟨#[]⟩, .string ⟨#[]⟩, .string ⟨#[]⟩, .string ⟨#[]⟩, .int .i64 0] 50)) (KW.and (Kept.alloc _ _ _))
  rw [World.size_alloc] at hT2
  have n0' := fun o => keepC (Kept.alloc (fun _ => False) W o) n0 (fun _ _ h => h)
  have HKW := hid KW
  clear x1 x8 c0 c1 c2 c3 c4 c5 c6 q1 hB hT1 hM KW
  by_cases hle : (ns[i]).tries ≤ tr
  · rw [if_pos hle] at HW
    clear hT2
    go_wp2_with (first
      | (go_at_call 41; refine hB1.mono ?_; rintro e w9 ⟨rfl, X9⟩; clear hB1)
      | fail)
    (try simp only [Exit.inBlock, Exit.then]); refine bodyPost_ret (results_none rfl _ _ _) rfl ?_
    refine ⟨rfl, ?_⟩
    rw [HW.out]
    exact X9.first HKW.out
  · rw [if_neg hle] at HW
    clear hB1
    go_wp2_with (first
      | (go_at_call 34; refine hT2.mono ?_; rintro e w9 ⟨rfl, X9⟩; clear hT2)
      | fail)
    go_end0
    refine ⟨rfl, ?_⟩
    rw [HW.out]
    exact X9.first (HKW.out.and (Kept.alloc _ _ _))

end Go.Proofs.YtdecceekodpjiaaDoor

/-
  busyWait: the first node that waits for a signal.
-/
namespace Go.Proofs.YtdecceekodpjiaaDoor
open Go.RowKit

theorem range_find_some {n k : Nat} {p : Nat → Bool} (hk : k < n) (hno : ∀ j, j < k → p j = false) (h : p k = true) : (List.range n).find? p = some k := by
  rw [List.find?_range_eq_some]
  exact ⟨h, List.mem_range.2 hk, fun j hj => by simp [hno j hj]⟩

theorem range_find_none {n : Nat} {p : Nat → Bool} (hno : ∀ j, j < n → p j = false) : (List.range n).find? p = none := by
  rw [List.find?_eq_none]
  intro j hj
  simp [hno j (List.mem_range.1 hj)]

/-- Its name. -/
def waitNm (ns : List Nd) (s : St) (x : ByteArray) : ByteArray := match busyWaitP ns s x with | some i => nmAt ns i | none => ⟨#[]⟩

set_option maxRecDepth 100000 in
set_option maxHeartbeats 8000000 in
theorem busyWait_any {w0 w : World} {H : Nat → Prop} {rb : Nat} {nm : ByteArray} {a : Option Addr} {c : Nat} {ns : List Nd} {r : Rn} (E : Env w0 w H a ns) (R : RAt w H rb nm a ns.length c r) (x : ByteArray) :
    Calls Tryd.prog 37 #[.pointer (some ⟨rb, 0, none⟩), .string x] w fun e w' => e = .returned (.tuple #[.string (waitNm ns r.st x), .bool (busyWaitP ns r.st x).isSome]) ∧ Kept (fun _ => False) w w' := by
  obtain ⟨v6, v7, v12, v13, hb, hn6, _, _, _, htop⟩ := R.opened
  obtain ⟨a6, c6, rfl⟩ := ownsRow_shape hn6
  obtain ⟨x0, x1, x2, x3, x4, x5, x6, x7, x8, x9, x10, _⟩ := runCells hb
  have hNb := E.here.1
  have hfew := E.few
  have HB := hid hb
  have HN6 := hid hn6
  have HN := hid hNb
  have hC := both_any w.drew nm a ns.length c r.st a6 r.st.nodes.length c6 v7
  clear hb hn6 E R hNb htop
  go_enter Tryd.func37, Tryd.ntmps37
  go_upto_region 1 with fail
  refine wp_onlyN (bwt1 _ x0 x1 x2 x3 x4 x5 x6 x7 x8 x9 x10 hC ?_)
  intro _ _ _ _ _ _ _ _ w5 K5
  clear x0 x1 x2 x3 x4 x5 x6 x7 x8 x9 x10 hC
  go_wp2_with fail
  go_loopw [17] (fun i wr => ∃ (k : Nat), k ≤ min ns.length r.st.nodes.length ∧ i = .int .i64 k ∧ Kept (fun _ => False) w wr ∧ ∀ j, j < k → waitB ns r.st x j = false) (fun i _ => min ns.length r.st.nodes.length - (intOf i).toNat)
  case atStart => exact ⟨0, Nat.zero_le _, rfl, K5, fun j h => absurd h (Nat.not_lt_zero _)⟩
  case round =>
    obtain ⟨k, hk, rfl, K, hno⟩ := hrel
    have HNo := hid hno
    clear hno
    by_cases hlt : k < min ns.length r.st.nodes.length
    · have hl1 : k < ns.length := by omega
      have hl2 : k < r.st.nodes.length := by omega
      have e0 : (k : Int) < ((min ns.length r.st.nodes.length : Nat) : Int) := by omega
      have e1 : (k : Int) < (ns.length : Int) := by omega
      have e2 : (k : Int) < (r.st.nodes.length : Int) := by omega
      obtain ⟨_, x1, _, _, _, _, _, _, x8, _⟩ := runCells ((K.block rb (Array.getElem?_eq_some_iff.1 HB.out).1 (fun h => h)).trans HB.out)
      obtain ⟨b, o, av, cv, hae, hT, c0, c1, c2, c3, c4, c5, c6'⟩ := (keptNew K HN.out).at hl1
      subst hae
      have hn7 := ownsRow_keep HN6.out (fun g hg => K.block g (ownsRow_blk HN6.out hg) (fun h => h))
      obtain ⟨g6, cg, hv, _, _, hrow⟩ := row_at hn7 (by omega)
      obtain ⟨rfl, rfl⟩ : a6 = some ⟨g6, 0, none⟩ ∧ c6 = cg := by simpa using hv
      have q0 := (hrow _ _ (nsF_get hl2).1).1
      have KA : Kept (fun _ => False) wr (wr.alloc (.cells #[.string (ns[k]).name, .int .i64 (ns[k]).kind, .string (ns[k]).arg, .string (ns[k]).«to», .int .i64 (ns[k]).delay, .int .i64 (ns[k]).tries, .slice av (ns[k]).after.length cv] 32)) := Kept.alloc _ _ _
      have q0' := keepC KA q0 (fun _ _ h => h)
      have x8' := keepC KA x8 (fun _ _ h => h)
      have hwb : waitB ns r.st x k = (((ns[k]).kind == 4) && (decide ((ns[k]).arg = x) && ((r.st.nodes[k]).status == 2))) := by unfold waitB; rw [List.getElem?_eq_getElem hl1, List.getElem?_eq_getElem hl2]
      have HW := hid hwb
      have Hnx : Hid (waitB ns r.st x k = false → ∀ j, j < k + 1 → waitB ns r.st x j = false) := fun h j hj => by
        rcases Nat.lt_succ_iff_lt_or_eq.1 hj with h' | h'
        · exact HNo.out j h'
        · subst h'; exact h
      have Hyes : Hid (waitB ns r.st x k = true → busyWaitP ns r.st x = some k) := fun h => range_find_some hlt HNo.out h
      have HNm : Hid (nmAt ns k = (ns[k]).name) := by show _ = _; unfold nmAt; rw [List.getElem?_eq_getElem hl1]
      have hse := str_eq (ns[k]).arg x
      have HK := hid K
      have HKA := hid KA
      clear hT hn7 hrow q0 hwb K KA HNo
      generalize (ns[k]).kind = zk at *
      generalize (ns[k]).arg = za at *
      generalize (r.st.nodes[k]).status = zs at *
      cases b1 : (zk == 4) with
      | false =>
        have HF := hid (Hnx.out (by rw [HW.out, b1]; rfl))
        clear Hnx Hyes HW hse
        go_wp2_with (first | go_quiet (fail) | fail)
        go_roundw
        case rel => exact ⟨k + 1, by omega, by go_num, HK.out.and HKA.out, HF.out⟩
        case measure => simp [intOf]; omega
      | true =>
        cases b2 : (za.toList == x.toList) with
        | false =>
          have HF := hid (Hnx.out (by rw [HW.out, b1, ← hse, b2]; rfl))
          clear Hnx Hyes HW hse
          go_wp2_with (first | go_quiet (fail) | fail)
          go_roundw
          case rel => exact ⟨k + 1, by omega, by go_num, HK.out.and HKA.out, HF.out⟩
          case measure => simp [intOf]; omega
        | true =>
          cases b3 : (zs == 2) with
          | false =>
            have HF := hid (Hnx.out (by rw [HW.out, b1, ← hse, b2, b3]; rfl))
            clear Hnx Hyes HW hse
            go_wp2_with (first | go_quiet (fail) | fail)
            go_roundw
            case rel => exact ⟨k + 1, by omega, by go_num, HK.out.and HKA.out, HF.out⟩
            case measure => simp [intOf]; omega
          | true =>
            have HF := hid (Hyes.out (by rw [HW.out, b1, ← hse, b2, b3]; rfl))
            clear Hnx Hyes HW hse
            go_wp2_with (first | go_quiet (fail) | fail)
            go_ret2
            refine ⟨?_, HK.out.and HKA.out⟩
            have hw : waitNm ns r.st x = (ns[k]).name := by unfold waitNm; rw [HF.out]; exact HNm.out
            rw [HF.out, hw]
            rfl
    · obtain rfl : k = min ns.length r.st.nodes.length := by omega
      have e0 : ¬ (((min ns.length r.st.nodes.length : Nat) : Int) < ((min ns.length r.st.nodes.length : Nat) : Int)) := by omega
      have HF : Hid (busyWaitP ns r.st x = none) := range_find_none HNo.out
      have HK := hid K
      clear K HNo
      go_wp2_with fail
      go_ret2
      have hw : waitNm ns r.st x = ⟨#[]⟩ := by unfold waitNm; rw [HF.out]
      exact ⟨by rw [HF.out, hw]; rfl, HK.out⟩

end Go.Proofs.YtdecceekodpjiaaDoor
