/-
  begin: a node begins.
-/
import Derived.Test.YtfjekjbkifmpfaaDoorG22
import Derived.Test.YtfjekjbkifmpfaaDoorG24
import Derived.Test.YtfjekjbkifmpfaaDoorG04
import Derived.Test.YtfjekjbkifmpfaaDoorG06
import Derived.ScopeJumps
namespace Go.Proofs.YtfjekjbkifmpfaaDoor
open Go.RowKit

def zeroMl : Ml := ⟨0, ⟨#[]⟩, ⟨#[]⟩, ⟨#[]⟩, ⟨#[]⟩, ⟨#[]⟩, 0⟩

def beginP (nm : ByteArray) (ns : List Nd) (r : Rn) (x : Nd) : Rn :=
  if x.kind = 1 then tellP nm ns r ⟨2, x.name, ⟨#[]⟩, 0⟩ [⟨1, ⟨#[]⟩, x.name, 1, 0, zeroMl⟩]
  else if x.kind = 2 then tellP nm ns r ⟨7, x.name, ⟨#[]⟩, IntKind.i64.wrap (r.now + x.delay)⟩ [⟨2, ⟨#[]⟩, x.name, 0, IntKind.i64.wrap (r.now + x.delay), zeroMl⟩]
  else if x.kind = 3 then askP nm ns r x
  else if x.kind = 4 then waitP nm ns r x
  else if x.kind = 5 then tellP nm ns r ⟨14, x.name, ⟨#[]⟩, 0⟩ [msgP r.st.id ⟨3, x.«to», ⟨#[]⟩, x.name, x.arg, ⟨#[]⟩, 0⟩]
  else r

/-- tell with one task that lies in a new row. -/
theorem tell1 {w0 V : World} {H : Nat → Prop} {rb : Nat} {nm : ByteArray} {a : Option Addr} {c : Nat} {ns : List Nd} {r : Rn} {m : Nat} (E : Env w0 V H a ns) (R : RAt V H rb nm a ns.length c r) (F : Fit r m) (hm : m ≤ 1000000) (ev : Ev) (t : Tk) :
    Calls Tryd.prog 73 #[.pointer (some ⟨rb, 0, none⟩), .agg #[.int .i64 ev.kind, .string ev.node, .string ev.text, .int .i64 ev.num], .slice (some ⟨V.heap.size, 0, none⟩) 1 1] (V.alloc (.cells #[.int .i64 t.kind, .complex .f64 0 0, .string t.flow, .string t.node, .int .i64 t.tr, .int .i64 t.tm, .int .i64 t.mail.kind, .string t.mail.dst, .string t.mail.src, .string t.mail.node, .string t.mail.name, .string t.mail.text, .int .i64 t.mail.status] 78)) fun e w' => e = .returned (.tuple #[]) ∧ RGoes V H rb nm a ns.length c (tellP nm ns r ev [t]) w' := by
  have K6 : Kept (fun _ => False) V (V.alloc (.cells #[.int .i64 t.kind, .complex .f64 0 0, .string t.flow, .string t.node, .int .i64 t.tr, .int .i64 t.tm, .int .i64 t.mail.kind, .string t.mail.dst, .string t.mail.src, .string t.mail.node, .string t.mail.name, .string t.mail.text, .int .i64 t.mail.status] 78)) := Kept.alloc _ _ _
  have ht : ∀ g, H g → g < V.heap.size := by obtain ⟨_, _, _, _, _, _, _, _, ht⟩ := R; exact ht
  have hg : ∀ g, slBlk (.slice (some ⟨V.heap.size, 0, none⟩) [t].length 1) = some g → ¬ H g := fun g hg hh => by
    obtain rfl : V.heap.size = g := by simpa [slBlk] using hg
    exact absurd (ht _ hh) (Nat.lt_irrefl _)
  have hT := tellE (E.new K6) (R.new K6) F hm ev [t] _ 1 (flat_new V t) (by simp) hg
  rw [show [t].length = 1 from rfl] at hT
  exact hT.mono (fun e w' h => ⟨h.1, h.2.first K6⟩)

end Go.Proofs.YtfjekjbkifmpfaaDoor

/-
  begin: a node begins, by its kind.
-/
namespace Go.Proofs.YtfjekjbkifmpfaaDoor
open Go.RowKit

set_option maxRecDepth 100000 in
set_option maxHeartbeats 2000000 in
theorem begin_any {w0 w : World} {H : Nat → Prop} {rb : Nat} {nm : ByteArray} {a : Option Addr} {c : Nat} {ns : List Nd} {r : Rn} {m : Nat} (E : Env w0 w H a ns) (R : RAt w H rb nm a ns.length c r) (F : Fit r m) (hm : m ≤ 999999) (hn : ns.length ≤ 999999) (x : Nd) (hx : x.name.size ≤ 100000000) (av : Option Addr) (cv : Nat) :
    Calls Tryd.prog 94 #[.pointer (some ⟨rb, 0, none⟩), .agg #[.string x.name, .int .i64 x.kind, .string x.arg, .string x.«to», .int .i64 x.delay, .int .i64 x.tries, .slice av x.after.length cv]] w fun e w' => e = .returned (.tuple #[]) ∧ RGoes w H rb nm a ns.length c (beginP nm ns r x) w' := by
  have KA : Kept (fun _ => False) w (w.alloc (.cells #[.string x.name, .int .i64 x.kind, .string x.arg, .string x.«to», .int .i64 x.delay, .int .i64 x.tries, .slice av x.after.length cv] 64)) := Kept.alloc _ _ _
  have hA := heap_alloc_new w (.cells #[.string x.name, .int .i64 x.kind, .string x.arg, .string x.«to», .int .i64 x.delay, .int .i64 x.tries, .slice av x.after.length cv] 64)
  obtain ⟨n0, n1, n2, n3, n4⟩ := sevenC hA
  have R1 := R.new KA
  have E1 := E.new KA
  have HR := hid R
  have HKA := hid KA
  have HE1 := hid E1
  have HR1 := hid R1
  have HF := hid F
  clear KA hA R E E1 R1 F
  by_cases h1 : x.kind = 1
  · have HW := hid (show beginP nm ns r x = tellP nm ns r ⟨2, x.name, ⟨#[]⟩, 0⟩ [⟨1, ⟨#[]⟩, x.name, 1, 0, zeroMl⟩] by unfold beginP; rw [if_pos h1])
    have e1 : (x.kind == 1) = true := by simp [h1]
    have hT := tell1 HE1.out HR1.out HF.out (by omega) ⟨2, x.name, ⟨#[]⟩, 0⟩ ⟨1, ⟨#[]⟩, x.name, 1, 0, zeroMl⟩
    unfold zeroMl at hT
    dsimp only at hT
    rw [World.size_alloc] at hT
    clear h1
    go_enter Tryd.func94, Tryd.ntmps94
    go_wp2_with (first
      | (go_at_call 73; refine hT.mono ?_; rintro e w9 ⟨rfl, X9⟩; clear hT)
      | fail)
    go_end0
    refine ⟨rfl, ?_⟩
    rw [HW.out]
    exact X9.first HKA.out
  · have e1 : (x.kind == 1) = false := by simp [h1]
    by_cases h2 : x.kind = 2
    · obtain ⟨z, hz⟩ : ∃ z, IntKind.i64.wrap (r.now + x.delay) = z := ⟨_, rfl⟩
      have HW := hid (show beginP nm ns r x = tellP nm ns r ⟨7, x.name, ⟨#[]⟩, z⟩ [⟨2, ⟨#[]⟩, x.name, 0, z, zeroMl⟩] by unfold beginP; rw [if_neg h1, if_pos h2, hz])
      have e2 : (x.kind == 2) = true := by simp [h2]
      obtain ⟨v6, v7, v12, v13, hb, _⟩ := HR1.out.opened
      obtain ⟨_, _, _, _, _, _, _, _, _, _, _, x11⟩ := runCells hb
      clear h1 h2 hb
      go_enter Tryd.func94, Tryd.ntmps94
      go_upto_region 6 with (first | go_quiet (fail) | fail)
      have KN := Kept.drewN (fun _ => False) (w.alloc (.cells #[.string x.name, .int .i64 x.kind, .string x.arg, .string x.«to», .int .i64 x.delay, .int .i64 x.tries, .slice av x.after.length cv] 64)) nq
      have m0 := keepC KN n0 (fun _ _ h => h)
      have hT := tell1 (HE1.out.new KN) (HR1.out.new KN) HF.out (by omega) ⟨7, x.name, ⟨#[]⟩, z⟩ ⟨2, ⟨#[]⟩, x.name, 0, z, zeroMl⟩
      have HKN := hid (HKA.out.and KN)
      unfold zeroMl at hT
      dsimp only at hT
      clear n0 n1 n2 n3 n4 x11 KN HE1 HR1 HKA
      generalize (w.alloc (.cells #[.string x.name, .int .i64 x.kind, .string x.arg, .string x.«to», .int .i64 x.delay, .int .i64 x.tries, .slice av x.after.length cv] 64)).drewN nq = V at *
      go_wp2_with (first
        | (go_at_call 73; refine hT.mono ?_; rintro e w9 ⟨rfl, X9⟩; clear hT)
        | fail)
      go_end0
      refine ⟨rfl, ?_⟩
      rw [HW.out]
      exact X9.first HKN.out
    · have e2 : (x.kind == 2) = false := by simp [h2]
      by_cases h3 : x.kind = 3
      · have HW := hid (show beginP nm ns r x = askP nm ns r x by unfold beginP; rw [if_neg h1, if_neg h2, if_pos h3])
        have e3 : (x.kind == 3) = true := by simp [h3]
        have hT := beginChild_any HE1.out HR1.out HF.out hm hn x hx av x.after.length cv
        clear h1 h2 h3
        go_enter Tryd.func94, Tryd.ntmps94
        go_wp2_with (first
          | (go_at_call 106; refine hT.mono ?_; rintro e w9 ⟨rfl, X9⟩; clear hT)
          | fail)
        go_end0
        refine ⟨rfl, ?_⟩
        rw [HW.out]
        exact X9.first HKA.out
      · have e3 : (x.kind == 3) = false := by simp [h3]
        by_cases h4 : x.kind = 4
        · have HW := hid (show beginP nm ns r x = waitP nm ns r x by unfold beginP; rw [if_neg h1, if_neg h2, if_neg h3, if_pos h4])
          have e4 : (x.kind == 4) = true := by simp [h4]
          have hT := beginWait_any HE1.out HR1.out HF.out (by omega) x av x.after.length cv
          clear h1 h2 h3 h4
          go_enter Tryd.func94, Tryd.ntmps94
          go_wp2_with (first
            | (go_at_call 107; refine hT.mono ?_; rintro e w9 ⟨rfl, X9⟩; clear hT)
            | fail)
          go_end0
          refine ⟨rfl, ?_⟩
          rw [HW.out]
          exact X9.first HKA.out
        · have e4 : (x.kind == 4) = false := by simp [h4]
          by_cases h5 : x.kind = 5
          · have HW := hid (show beginP nm ns r x = tellP nm ns r ⟨14, x.name, ⟨#[]⟩, 0⟩ [msgP r.st.id ⟨3, x.«to», ⟨#[]⟩, x.name, x.arg, ⟨#[]⟩, 0⟩] by unfold beginP; rw [if_neg h1, if_neg h2, if_neg h3, if_neg h4, if_pos h5])
            have e5 : (x.kind == 5) = true := by simp [h5]
            obtain ⟨t, ht⟩ : ∃ t, t = msgP r.st.id ⟨3, x.«to», ⟨#[]⟩, x.name, x.arg, ⟨#[]⟩, 0⟩ := ⟨_, rfl⟩
            rw [← ht] at HW
            have hM := message_any (w.alloc (.cells #[.string x.name, .int .i64 x.kind, .string x.arg, .string x.«to», .int .i64 x.delay, .int .i64 x.tries, .slice av x.after.length cv] 64)).drew H rb nm a _ c r (HR1.out.new (Kept.drew _ _)) ⟨3, x.«to», ⟨#[]⟩, x.name, x.arg, ⟨#[]⟩, 0⟩
            rw [← ht] at hM
            have hT := fun V (KV : Kept (fun _ => False) (w.alloc (.cells #[.string x.name, .int .i64 x.kind, .string x.arg, .string x.«to», .int .i64 x.delay, .int .i64 x.tries, .slice av x.after.length cv] 64)) V) => (tell1 (HE1.out.new KV) (HR1.out.new KV) HF.out (by omega) ⟨14, x.name, ⟨#[]⟩, 0⟩ t).mono (fun e w' h => (⟨h.1, h.2.first KV⟩ : e = .returned (.tuple #[]) ∧ RGoes (w.alloc (.cells #[.string x.name, .int .i64 x.kind, .string x.arg, .string x.«to», .int .i64 x.delay, .int .i64 x.tries, .slice av x.after.length cv] 64)) H rb nm a ns.length c (tellP nm ns r ⟨14, x.name, ⟨#[]⟩, 0⟩ [t]) w'))
            clear h1 h2 h3 h4 h5 ht
            go_enter Tryd.func94, Tryd.ntmps94
            go_upto_region 12 with fail
            refine wp_onlyN (be12 (R := fun V => RGoes (w.alloc (.cells #[.string x.name, .int .i64 x.kind, .string x.arg, .string x.«to», .int .i64 x.delay, .int .i64 x.tries, .slice av x.after.length cv] 64)) H rb nm a ns.length c (tellP nm ns r ⟨14, x.name, ⟨#[]⟩, 0⟩ [t]) V) (t := t) _ n0 n2 n3 hM hT ?_)
            intro _ _ _ _ _ _ _ _ _ _ _ _ _ _ _ w9 X9
            clear n0 n1 n2 n3 n4 hM hT
            go_wp2_with fail
            go_end0
            refine ⟨rfl, ?_⟩
            rw [HW.out]
            exact X9.first HKA.out
          · have HW := hid (show beginP nm ns r x = r by unfold beginP; rw [if_neg h1, if_neg h2, if_neg h3, if_neg h4, if_neg h5])
            have e5 : (x.kind == 5) = false := by simp [h5]
            clear h1 h2 h3 h4 h5
            go_enter Tryd.func94, Tryd.ntmps94
            go_wp2_with fail
            go_end0
            refine ⟨rfl, ?_⟩
            rw [HW.out]
            exact RGoes.keep HR.out HKA.out

end Go.Proofs.YtfjekjbkifmpfaaDoor

/-
  goOn as data: nodes begin, as long as some may.
-/
namespace Go.Proofs.YtfjekjbkifmpfaaDoor
open Go.RowKit

/-- How a row of beginnings ends. -/
inductive Way where
  | stop | again | through

def goRow (nm : ByteArray) (ns : List Nd) : Rn → List Nat → Rn × Way
  | r, [] => (r, .through)
  | r, i :: l => match ns[i]? with
    | none => (r, .stop)
    | some x => if (beginP nm ns r x).st.status ≠ 1 then (beginP nm ns r x, .stop)
      else if ((beginP nm ns r x).st.nodes[i]?.map (fun y => y.status)) = some 3 then (beginP nm ns r x, .again)
      else goRow nm ns (beginP nm ns r x) l

def goReady (ns : List Nd) (r : Rn) : List Nat := rdyL ns (overL r.st.nodes) (begunL r.st.nodes ns.length) ns.length

def lastP (l : List Ns) : ByteArray := (l.getLast?.map (fun x => x.text)).getD ⟨#[]⟩

def goP (nm : ByteArray) (ns : List Nd) : Nat → Rn → Rn
  | 0, r => r
  | f + 1, r => match goRow nm ns r (goReady ns r) with
    | (r1, .stop) => r1
    | (r1, .again) => goP nm ns f r1
    | (r1, .through) => if restC r1.st.nodes = 0 then endP nm ns r1 2 (lastP r1.st.nodes) else r1

def goOnP (nm : ByteArray) (ns : List Nd) (r : Rn) : Rn := goP nm ns (restC r.st.nodes + 1) r

/-- What no event but the first changes. -/
structure Grow (s s' : St) : Prop where
  len : s'.nodes.length = s.nodes.length
  over : ∀ (i : Nat) (x : Ns), s.nodes[i]? = some x → x.status = 3 → s'.nodes[i]? = some x
  id : s'.id = s.id
  par : s'.par = s.par
  pnode : s'.pnode = s.pnode
  dfn : s'.dfn = s.dfn

theorem Grow.refl (s : St) : Grow s s := ⟨rfl, fun _ _ h _ => h, rfl, rfl, rfl, rfl⟩
theorem Grow.trans {s s1 s2 : St} (a : Grow s s1) (b : Grow s1 s2) : Grow s s2 :=
  ⟨b.len.trans a.len, fun i x h h3 => b.over i x (a.over i x h h3) h3, b.id.trans a.id, b.par.trans a.par, b.pnode.trans a.pnode, b.dfn.trans a.dfn⟩

theorem moveP_src {e k s : Int} {m : Mv} (h : moveP e k s = some m) : m ∈ movesL ∧ m.src = s := by
  unfold moveP at h
  refine ⟨List.mem_of_find?_eq_some h, ?_⟩
  have := List.find?_some h
  unfold Mv.fits at this
  simp at this
  exact this.2.1

theorem moves_src : ∀ m ∈ movesL, m.src ≠ 3 := by
  intro m hm
  simp only [movesL, List.mem_cons, List.not_mem_nil, or_false] at hm
  rcases hm with rfl | rfl | rfl | rfl | rfl | rfl | rfl | rfl | rfl | rfl | rfl | rfl | rfl | rfl <;> decide

theorem changeP_grow {nm : ByteArray} {ns : List Nd} {s s' : St} {e : Ev} (h : changeP nm ns s e = some s') (he : e.kind ≠ 1) : Grow s s' := by
  unfold changeP at h
  rw [if_neg he] at h
  split at h
  · cases h
  try rw [if_neg he] at h
  split at h
  · cases h
    exact ⟨rfl, fun _ _ h _ => h, rfl, rfl, rfl, rfl⟩
  split at h
  · split at h
    · cases h
      exact ⟨rfl, fun _ _ h _ => h, rfl, rfl, rfl, rfl⟩
    · cases h
  · cases hc : changeNodeP ns s e with
    | none => rw [hc] at h; cases h
    | some t =>
      rw [hc] at h
      cases h
      unfold changeNodeP at hc
      split at hc
      · cases hc
      split at hc
      · cases hc
      split at hc
      · cases hc
      · rename_i i _ _ m hm _ l hl
        cases hc
        refine ⟨setNode_len _ _ _ _, fun j x hx h3 => ?_, rfl, rfl, rfl, rfl⟩
        show (setNode s.nodes i m e)[j]? = some x
        unfold setNode
        rw [List.getElem?_modify]
        by_cases hj : i = j
        · subst hj
          unfold nodeMove at hm
          rw [hx] at hm
          split at hm
          · rename_i n y _ hy
            cases hy
            obtain ⟨h1, h2⟩ := moveP_src hm
            exact absurd (h2.trans h3) (moves_src m h1)
          · cases hm
        · simp [hj, hx]

theorem tellP_grow {nm : ByteArray} {ns : List Nd} {r : Rn} {e : Ev} {ts : List Tk} (he : e.kind ≠ 1) : Grow r.st (tellP nm ns r e ts).st := by
  unfold tellP
  split
  · exact Grow.refl _
  · rename_i s hs
    exact changeP_grow hs he

theorem tellP_now {nm : ByteArray} {ns : List Nd} {r : Rn} {e : Ev} {ts : List Tk} : (tellP nm ns r e ts).now = r.now := by
  unfold tellP
  split <;> rfl

theorem endP_grow {nm : ByteArray} {ns : List Nd} {r : Rn} {st : Int} {tx : ByteArray} : Grow r.st (endP nm ns r st tx).st := tellP_grow (by show (15 : Int) ≠ 1; decide)

theorem breakP_grow {nm : ByteArray} {ns : List Nd} {r : Rn} {x tx : ByteArray} : Grow r.st (breakP nm ns r x tx).st := (tellP_grow (by show (6 : Int) ≠ 1; decide)).trans endP_grow

theorem beginP_grow {nm : ByteArray} {ns : List Nd} {r : Rn} {x : Nd} : Grow r.st (beginP nm ns r x).st := by
  unfold beginP askP waitP
  repeat' split
  all_goals first
    | exact breakP_grow
    | exact Grow.refl _
    | exact tellP_grow (by simp)

theorem endP_now {nm : ByteArray} {ns : List Nd} {r : Rn} {st : Int} {tx : ByteArray} : (endP nm ns r st tx).now = r.now := tellP_now
theorem breakP_now {nm : ByteArray} {ns : List Nd} {r : Rn} {x tx : ByteArray} : (breakP nm ns r x tx).now = r.now := endP_now.trans tellP_now

theorem beginP_now {nm : ByteArray} {ns : List Nd} {r : Rn} {x : Nd} : (beginP nm ns r x).now = r.now := by
  unfold beginP askP waitP
  repeat' split
  all_goals first
    | exact tellP_now
    | exact breakP_now
    | rfl

theorem goRow_grow {nm : ByteArray} {ns : List Nd} : ∀ (l : List Nat) (r : Rn), Grow r.st (goRow nm ns r l).1.st
  | [], r => Grow.refl _
  | i :: l, r => by
    unfold goRow
    split
    · exact Grow.refl _
    · split
      · exact beginP_grow
      · split
        · exact beginP_grow
        · exact beginP_grow.trans (goRow_grow l _)

/-- Where a row ends by beginning anew, one of its nodes is over. -/
theorem goRow_again {nm : ByteArray} {ns : List Nd} : ∀ (l : List Nat) (r : Rn), (goRow nm ns r l).2 = .again → ∃ i ∈ l, ((goRow nm ns r l).1.st.nodes[i]?.map (fun y => y.status)) = some 3
  | [], r, h => by cases h
  | i :: l, r, h => by
    unfold goRow at h ⊢
    split at h
    · cases h
    · rename_i x hx
      try rw [hx]
      try dsimp only
      split at h
      · cases h
      · rename_i hs
        rw [if_neg hs]
        split at h
        · rename_i h3
          rw [if_pos h3]
          exact ⟨i, List.mem_cons_self, h3⟩
        · rename_i h3
          rw [if_neg h3]
          obtain ⟨j, hj, h⟩ := goRow_again l _ h
          exact ⟨j, List.mem_cons_of_mem _ hj, h⟩

theorem goReady_idle {ns : List Nd} {r : Rn} {i : Nat} (h : i ∈ goReady ns r) : i < ns.length ∧ ∃ y, r.st.nodes[i]? = some y ∧ y.status = 0 := by
  unfold goReady rdyL at h
  rw [List.mem_filter, List.mem_range] at h
  obtain ⟨hi, hb⟩ := h
  refine ⟨hi, ?_⟩
  unfold rdyB at hb
  rw [Bool.and_eq_true] at hb
  have h1 := hb.1
  unfold begunL at h1
  rw [List.getD_eq_getElem?_getD, List.getElem?_map, List.getElem?_range hi] at h1
  simp only [Option.map_some, Option.getD_some] at h1
  unfold begunB at h1
  split at h1
  · cases h1
  · rename_i y hy
    exact ⟨y, hy, by simpa using h1⟩

theorem restC_le {l l' : List Ns} (hl : l'.length = l.length) (ho : ∀ (i : Nat) (x : Ns), l[i]? = some x → x.status = 3 → l'[i]? = some x) : restC l' ≤ restC l := by
  induction l generalizing l' with
  | nil =>
    have : l' = [] := List.eq_nil_of_length_eq_zero hl
    subst this
    exact Nat.le_refl _
  | cons x l ih =>
    cases l' with
    | nil => cases hl
    | cons y l' =>
      have := ih (l' := l') (by simpa using hl) (fun i z h h3 => by simpa using ho (i + 1) z (by simpa using h) h3)
      unfold restC at this ⊢
      rw [List.countP_cons, List.countP_cons]
      by_cases hx : x.status = 3
      · have hy : y = x := by simpa using ho 0 x rfl hx
        subst hy
        omega
      · rw [if_pos (show (!(x.status == 3)) = true by simp [hx])]
        split <;> omega

theorem restC_lt {l l' : List Ns} (hl : l'.length = l.length) (ho : ∀ (i : Nat) (x : Ns), l[i]? = some x → x.status = 3 → l'[i]? = some x) {i : Nat} (h0 : ∃ y, l[i]? = some y ∧ y.status = 0) (h3 : (l'[i]?.map (fun y => y.status)) = some 3) : restC l' < restC l := by
  induction l generalizing l' i with
  | nil =>
    obtain ⟨y, hy, _⟩ := h0
    cases hy
  | cons x l ih =>
    cases l' with
    | nil => cases hl
    | cons y l' =>
      have hl' : l'.length = l.length := by simpa using hl
      have ho' : ∀ (i : Nat) (z : Ns), l[i]? = some z → z.status = 3 → l'[i]? = some z := fun i z h h3 => by simpa using ho (i + 1) z (by simpa using h) h3
      cases i with
      | zero =>
        have hle := restC_le hl' ho'
        obtain ⟨z, hz, hz0⟩ := h0
        obtain rfl : x = z := by simpa using hz
        have hy3 : y.status = 3 := by simpa using h3
        unfold restC at hle ⊢
        rw [List.countP_cons, List.countP_cons, if_pos (show (!(x.status == 3)) = true by simp [hz0]), if_neg (show ¬ (!(y.status == 3)) = true by simp [hy3])]
        omega
      | succ i =>
        have := ih (l' := l') hl' ho' (i := i) (by simpa using h0) (by simpa using h3)
        unfold restC at this ⊢
        rw [List.countP_cons, List.countP_cons]
        by_cases hx : x.status = 3
        · have hy : y = x := by simpa using ho 0 x rfl hx
          subst hy
          omega
        · rw [if_pos (show (!(x.status == 3)) = true by simp [hx])]
          split <;> omega

/-- Each pass that begins anew has fewer nodes that are not over. -/
theorem goRow_less {nm : ByteArray} {ns : List Nd} {r r1 : Rn} (h : goRow nm ns r (goReady ns r) = (r1, .again)) : restC r1.st.nodes < restC r.st.nodes := by
  have hg := goRow_grow (nm := nm) (ns := ns) (goReady ns r) r
  obtain ⟨i, hi, h3⟩ := goRow_again (nm := nm) (ns := ns) (goReady ns r) r (by rw [h])
  rw [h] at hg h3
  exact restC_lt hg.len hg.over (goReady_idle hi).2 h3

theorem Fit.mono {r : Rn} {m m' : Nat} (F : Fit r m) (h : m ≤ m') : Fit r m' :=
  ⟨F.idsz, F.nodes, Nat.le_trans F.sigs h, F.ev0, by have := F.ev1; omega, Nat.le_trans F.evs h, Nat.le_trans F.tks h⟩

theorem mailsP_len (ns : List Nd) (s : St) (st : Int) (tx : ByteArray) : (mailsP ns s st tx).length ≤ ns.length + 1 := by
  unfold mailsP
  rw [List.length_append]
  have := cancelL_len ns s tx (min ns.length s.nodes.length)
  split <;> simp only [List.length_nil, List.length_cons] <;> omega

theorem endP_fit {nm : ByteArray} {ns : List Nd} {r : Rn} {m : Nat} (F : Fit r m) (hn : ns.length ≤ 1000000) (st : Int) (tx : ByteArray) : Fit (endP nm ns r st tx) (m + ns.length + 2) :=
  (tellP_fit F hn _ _).mono (by have := mailsP_len ns r.st st tx; omega)

theorem breakP_fit {nm : ByteArray} {ns : List Nd} {r : Rn} {m : Nat} (F : Fit r m) (hn : ns.length ≤ 1000000) (x tx : ByteArray) : Fit (breakP nm ns r x tx) (m + ns.length + 3) :=
  (endP_fit (tellP_fit F hn ⟨6, x, tx, 0⟩ []) hn 3 tx).mono (by simp only [List.length_nil]; omega)

theorem beginP_fit {nm : ByteArray} {ns : List Nd} {r : Rn} {m : Nat} (F : Fit r m) (hn : ns.length ≤ 1000000) (x : Nd) : Fit (beginP nm ns r x) (m + ns.length + 3) := by
  unfold beginP askP waitP
  repeat' split
  all_goals first
    | exact breakP_fit F hn _ _
    | exact F.mono (by omega)
    | exact (tellP_fit F hn _ _).mono (by simp only [List.length_nil, List.length_cons]; omega)

theorem goRow_fit {nm : ByteArray} {ns : List Nd} (hn : ns.length ≤ 1000000) : ∀ (l : List Nat) (r : Rn) (m : Nat), Fit r m → Fit (goRow nm ns r l).1 (m + l.length * (ns.length + 3))
  | [], r, m, F => F.mono (by simp)
  | i :: l, r, m, F => by
    have e : (i :: l).length * (ns.length + 3) = l.length * (ns.length + 3) + (ns.length + 3) := by rw [List.length_cons, Nat.add_mul, Nat.one_mul]
    unfold goRow
    split
    · exact F.mono (by omega)
    · split
      · exact (beginP_fit F hn _).mono (by omega)
      · split
        · exact (beginP_fit F hn _).mono (by omega)
        · exact (goRow_fit hn l _ _ (beginP_fit F hn _)).mono (by omega)

end Go.Proofs.YtfjekjbkifmpfaaDoor

/-
  What an input makes of a run, as data.
-/
namespace Go.Proofs.YtfjekjbkifmpfaaDoor
open Go.RowKit

/-- The node of a name, of one of the kinds. -/
def findK (ns : List Nd) (s : St) (x : ByteArray) (ks : List Int) : Option Nat :=
  match findP ns x with
  | none => none
  | some i => match ns[i]? with
    | none => none
    | some n => if i < s.nodes.length ∧ ks.contains n.kind = true then some i else none

def busyB (ns : List Nd) (s : St) (i : Nat) (tr : Int) : Bool := match ns[i]?, s.nodes[i]? with
  | some n, some y => (y.status == 2) && (!(n.kind == 1) || (y.tr == tr))
  | _, _ => false

/-- The busy node, of one of the kinds, that an input ends; and why not. -/
def busyP (ns : List Nd) (s : St) (q : Inp) (ks : List Int) : Nat × Int :=
  match findK ns s q.node ks with
  | none => (0, 6)
  | some i => if busyB ns s i q.tr then (i, 0) else (0, 12)

def waitB (ns : List Nd) (s : St) (x : ByteArray) (i : Nat) : Bool := match ns[i]?, s.nodes[i]? with
  | some n, some y => (n.kind == 4) && (decide (n.arg = x) && (y.status == 2))
  | _, _ => false

/-- The first node that waits for a signal. -/
def busyWaitP (ns : List Nd) (s : St) (x : ByteArray) : Option Nat := (List.range (min ns.length s.nodes.length)).find? (waitB ns s x)

def nmAt (ns : List Nd) (i : Nat) : ByteArray := match ns[i]? with | some n => n.name | none => ⟨#[]⟩

def timeoutB : ByteArray := ⟨#[116, 105, 109, 101, 111, 117, 116]⟩

def failTryP (nm : ByteArray) (ns : List Nd) (r : Rn) (i : Nat) (tx : ByteArray) : Rn := match ns[i]?, r.st.nodes[i]? with
  | some n, some y => if n.tries ≤ y.tr then breakP nm ns r n.name tx else tellP nm ns r ⟨5, n.name, tx, y.tr⟩ [⟨1, ⟨#[]⟩, n.name, IntKind.i64.wrap (y.tr + 1), 0, zeroMl⟩]
  | _, _ => r

def alarmL (r : Rn) (q : Inp) (n : Nd) (tr : Int) : List Tk := if 0 < n.delay then [⟨2, ⟨#[]⟩, q.node, tr, IntKind.i64.wrap (r.now + n.delay), zeroMl⟩] else []

def takeP (nm : ByteArray) (ns : List Nd) (r : Rn) (q : Inp) : Rn × Int := match findK ns r.st q.node [1] with
  | none => (r, 6)
  | some i => match ns[i]?, r.st.nodes[i]? with
    | some n, some y => if y.status = 1 then (tellP nm ns r ⟨3, q.node, ⟨#[]⟩, IntKind.i64.wrap (y.tr + 1)⟩ (alarmL r q n (IntKind.i64.wrap (y.tr + 1))), 0) else (r, 12)
    | _, _ => (r, 6)

def completeP (nm : ByteArray) (ns : List Nd) (r : Rn) (q : Inp) : Rn × Int := match busyP ns r.st q [1] with
  | (_, e) => if e ≠ 0 then (r, e) else if 256 < q.text.size then (r, 9) else (goOnP nm ns (tellP nm ns r ⟨4, q.node, q.text, 0⟩ []), 0)

def failP (nm : ByteArray) (ns : List Nd) (r : Rn) (q : Inp) : Rn × Int := match busyP ns r.st q [1] with
  | (i, e) => if e ≠ 0 then (r, e) else if 256 < q.text.size then (r, 9) else (failTryP nm ns r i q.text, 0)

def kindAt (ns : List Nd) (i : Nat) : Int := match ns[i]? with | some n => n.kind | none => 0

def fireP (nm : ByteArray) (ns : List Nd) (r : Rn) (q : Inp) : Rn × Int := match busyP ns r.st q [1, 2] with
  | (i, e) => if e ≠ 0 then (r, e) else if kindAt ns i = 1 then (failTryP nm ns r i timeoutB, 0) else (goOnP nm ns (tellP nm ns r ⟨8, q.node, ⟨#[]⟩, 0⟩ []), 0)

def kidP (nm : ByteArray) (ns : List Nd) (r : Rn) (q : Inp) : Rn × Int := match busyP ns r.st q [3] with
  | (_, e) => if e ≠ 0 then (r, e) else if q.status ≠ 2 then (breakP nm ns r q.node q.text, 0) else (goOnP nm ns (tellP nm ns r ⟨10, q.node, q.text, 0⟩ []), 0)

def cancelP (nm : ByteArray) (ns : List Nd) (r : Rn) (q : Inp) : Rn × Int := if 256 < q.text.size then (r, 9) else (endP nm ns r 4 q.text, 0)

def signalP (nm : ByteArray) (ns : List Nd) (r : Rn) (q : Inp) : Rn × Int :=
  if nameP q.name = false then (r, 17)
  else if 256 < q.text.size then (r, 9)
  else match busyWaitP ns r.st q.name with
    | some i => (goOnP nm ns (tellP nm ns r ⟨12, nmAt ns i, q.text, 0⟩ []), 0)
    | none => if 32 ≤ r.st.sigs.length then (r, 8) else (tellP nm ns r ⟨13, q.name, q.text, 0⟩ [], 0)

def startP (nm : ByteArray) (ns : List Nd) (r : Rn) (q : Inp) : Rn × Int :=
  if r.st.status ≠ 0 then (r, 7)
  else (goOnP nm ns (tellP nm ns { r with st := { r.st with id := q.name } } ⟨1, q.pnode, q.par, 0⟩ []), 0)

def doP (nm : ByteArray) (ns : List Nd) (r : Rn) (q : Inp) : Rn × Int :=
  if q.kind = 1 then startP nm ns r q
  else if r.st.status = 0 then (r, 6)
  else if r.st.status ≠ 1 then (r, 11)
  else if q.kind = 2 then signalP nm ns r q
  else if q.kind = 3 then takeP nm ns r q
  else if q.kind = 4 then completeP nm ns r q
  else if q.kind = 5 then failP nm ns r q
  else if q.kind = 6 then fireP nm ns r q
  else if q.kind = 7 then kidP nm ns r q
  else if q.kind = 8 then cancelP nm ns r q
  else (r, 1)

def stepP (nm : ByteArray) (ns : List Nd) (s : St) (q : Inp) : Rn × Int := doP nm ns ⟨s, q.now, [], []⟩ q

theorem findK_some {ns : List Nd} {s : St} {x : ByteArray} {ks : List Int} {i : Nat} (h : findK ns s x ks = some i) : ∃ (h1 : i < ns.length) (_ : i < s.nodes.length), findP ns x = some i ∧ ks.contains (ns[i]).kind = true := by
  unfold findK at h
  split at h
  · cases h
  · rename_i j hj
    split at h
    · cases h
    · rename_i n hn
      split at h
      · rename_i hc
        cases h
        obtain ⟨h1, rfl⟩ := List.getElem?_eq_some_iff.1 hn
        exact ⟨h1, hc.1, hj, hc.2⟩
      · cases h

theorem busyP_ok {ns : List Nd} {s : St} {q : Inp} {ks : List Int} {i : Nat} (h : busyP ns s q ks = (i, 0)) : findK ns s q.node ks = some i ∧ busyB ns s i q.tr = true := by
  unfold busyP at h
  split at h
  · simp at h
  · rename_i j hj
    split at h
    · rename_i hb
      simp only [Prod.mk.injEq, and_true] at h
      subst h
      exact ⟨hj, hb⟩
    · simp at h

end Go.Proofs.YtfjekjbkifmpfaaDoor

/-
  goOn: its region that draws its order.
-/
namespace Go.Proofs.YtfjekjbkifmpfaaDoor
open Go.RowKit

set_option maxRecDepth 100000 in
set_option maxHeartbeats 8000000 in
theorem go0 {W : World} {sb n c no nb nl : Nat} {nm : ByteArray} {a : Option Addr} {lo lb : List Bool} {P : World → Value → Prop} {ds : List Deferred} {u1 u2 u3 u4 u5 u6 u7 u8 u9 u10 u11 u12 u13 u14 u15 u16 u17 u18 u19 u20 u21 u22 u23 u24 u25 u26 u27 u28 u29 u30 u31 u32 u33 u34 u35 u36 u37 u38 u39 u40 u41 u42 u43 u44 u45 u46 u47 u48 u49 u50 u51 u52 u53 u54 u55 : Value} (K : Act → World → Prop)
    (x0 : W.cell? ⟨sb, 0, none⟩ = some (.string nm)) (x1 : W.cell? ⟨sb, 1, none⟩ = some (.slice a n c))
    (hO : ∀ V, Kept (fun _ => False) W.drew V → Calls Tryd.prog 92 #[.pointer (some ⟨sb, 0, none⟩)] V fun e w' => ∃ g, e = .returned (.slice (some ⟨g, 0, none⟩) no no) ∧ CellsAt w' (some ⟨g, 0, none⟩) (lo.map Value.bool) ∧ Kept (fun _ => False) V w')
    (hB : ∀ V, Kept (fun _ => False) W.drew V → Calls Tryd.prog 93 #[.pointer (some ⟨sb, 0, none⟩)] V fun e w' => ∃ g, e = .returned (.slice (some ⟨g, 0, none⟩) nb nb) ∧ CellsAt w' (some ⟨g, 0, none⟩) (lb.map Value.bool) ∧ Kept (fun _ => False) V w')
    (hR : ∀ V g1 g2, Kept (fun _ => False) W.drew V → CellsAt V (some ⟨g1, 0, none⟩) (lo.map Value.bool) → CellsAt V (some ⟨g2, 0, none⟩) (lb.map Value.bool) → Calls Tryd.prog 91 #[.agg #[.string nm, .slice a n c], .slice (some ⟨g1, 0, none⟩) no no, .slice (some ⟨g2, 0, none⟩) nb nb] V fun e w' => ∃ av cv, e = .returned (.slice av nl cv) ∧ P w' (.slice av nl cv) ∧ Kept (fun _ => False) V w')
    (h : ∀ (v4 v5 v6 v7 v8 v9 v10 v11 : Value) (av : Option Addr) (cv : Nat) (w9 : World), P w9 (.slice av nl cv) → Kept (fun _ => False) W w9 → K { tmps := #[.pointer (some ⟨sb, 0, none⟩), u1, u2, u3, v4, v5, v6, v7, v8, v9, v10, v11, .slice av nl cv, .int .i64 (nl : Nat), .int .i64 0, u15, u16, u17, u18, u19, u20, u21, u22, u23, u24, u25, u26, u27, u28, u29, u30, u31, u32, u33, u34, u35, u36, u37, u38, u39, u40, u41, u42, u43, u44, u45, u46, u47, u48, u49, u50, u51, u52, u53, u54, u55], defers := ds } w9) :
    (Code.region 0 #[{ dst := some 4, op := Op.move (Operand.tmp 0), type := 94, pos := "goon.go:11", after := #[], guard := none }, { dst := some 5, op := Op.nilCheck (Operand.tmp 4), type := 0, pos := "goon.go:11", after := #[{ on := 0, ground := Ground.data }], guard := none }, { dst := some 6, op := Op.fieldAddr 96 (Operand.tmp 5) 0, type := 0, pos := "goon.go:11", after := #[{ on := 1, ground := Ground.data }], guard := none }, { dst := some 7, op := Op.load 24 (Operand.tmp 6), type := 24, pos := "goon.go:11", after := #[{ on := 2, ground := Ground.data }], guard := none }, { dst := some 8, op := Op.move (Operand.tmp 0), type := 94, pos := "goon.go:11", after := #[], guard := none }, { dst := some 9, op := Op.call { callee := Callee.value (Operand.func 92), args := #[Operand.tmp 8], argTypes := #[94] }, type := 110, pos := "goon.go:11", after := #[{ on := 4, ground := Ground.data }], guard := none }, { dst := some 10, op := Op.move (Operand.tmp 0), type := 94, pos := "goon.go:11", after := #[], guard := none }, { dst := some 11, op := Op.call { callee := Callee.value (Operand.func 93), args := #[Operand.tmp 10], argTypes := #[94] }, type := 110, pos := "goon.go:11", after := #[{ on := 6, ground := Ground.data }, { on := 5, ground := Ground.chain }], guard := none }, { dst := some 12, op := Op.call { callee := Callee.value (Operand.func 91), args := #[Operand.tmp 7, Operand.tmp 9, Operand.tmp 11], argTypes := #[24, 110, 110] }, type := 101, pos := "goon.go:11", after := #[{ on := 3, ground := Ground.data }, { on := 5, ground := Ground.data }, { on := 7, ground := Ground.data }, { on := 7, ground := Ground.chain }], guard := none }, { dst := some 13, op := Op.call { callee := Callee.builtin Builtin.len, args := #[Operand.tmp 12], argTypes := #[101] }, type := 3, pos := "goon.go:11", after := #[{ on := 8, ground := Ground.data }], guard := none }, { dst := some 14, op := Op.move (Operand.const (Value.int IntKind.i64 0)), type := 3, pos := "goon.go:11", after := #[], guard := none }] true).wp Tryd.prog (onlyN K) { tmps := #[.pointer (some ⟨sb, 0, none⟩), u1, u2, u3, u4, u5, u6, u7, u8, u9, u10, u11, u12, u13, u14, u15, u16, u17, u18, u19, u20, u21, u22, u23, u24, u25, u26, u27, u28, u29, u30, u31, u32, u33, u34, u35, u36, u37, u38, u39, u40, u41, u42, u43, u44, u45, u46, u47, u48, u49, u50, u51, u52, u53, u54, u55], defers := ds } W := by
  have HH : Hid _ := h
  have KD := Kept.drew (fun _ => False) W
  have HS : Hid (∀ V, Kept (fun _ => False) W.drew V → V.cell? ⟨sb, 0, none⟩ = some (.string nm) ∧ V.cell? ⟨sb, 1, none⟩ = some (.slice a n c)) := fun V KV => ⟨keepC (KD.and KV) x0 (fun _ _ h => h), keepC (KD.and KV) x1 (fun _ _ h => h)⟩
  have HKD : Hid (Kept (fun _ => False) W W.drew) := KD
  have hS0 := HS.out W.drew (Kept.refl _ _)
  clear h KD x0 x1
  refine wp_region_held_drew (S := fun V => V.cell? ⟨sb, 0, none⟩ = some (.string nm) ∧ V.cell? ⟨sb, 1, none⟩ = some (.slice a n c)) (by kernel_rfl) hS0 (fun _ => ?_)
  refine wpAnyH_take (i := 0) (oi := { dst := some 4, op := Op.move (Operand.tmp 0), type := 94, pos := "goon.go:11", after := #[], guard := none }) (v := ?vv1) rfl (by kernel_rfl) (by kernel_rfl) (by kernel_rfl) (fun _ _ _ h => h) (Or.inl ⟨by rfl, ?hy1⟩) hS0 ?rest1
  case hy1 =>
    intro V hV
    obtain ⟨y0, y1⟩ := hV
    go_simp
    all_goals rfl
  simp only [Act.put, List.setIfInBounds_toArray, List.set_cons_zero, List.set_cons_succ]
  refine wpAnyH_take (i := 1) (oi := { dst := some 5, op := Op.nilCheck (Operand.tmp 4), type := 0, pos := "goon.go:11", after := #[{ on := 0, ground := Ground.data }], guard := none }) (v := ?vv2) rfl (by kernel_rfl) (by kernel_rfl) (by kernel_rfl) (fun _ _ _ h => h) (Or.inl ⟨by rfl, ?hy2⟩) hS0 ?rest2
  case hy2 =>
    intro V hV
    obtain ⟨y0, y1⟩ := hV
    go_simp
    all_goals rfl
  simp only [Act.put, List.setIfInBounds_toArray, List.set_cons_zero, List.set_cons_succ]
  refine wpAnyH_take (i := 2) (oi := { dst := some 6, op := Op.fieldAddr 96 (Operand.tmp 5) 0, type := 0, pos := "goon.go:11", after := #[{ on := 1, ground := Ground.data }], guard := none }) (v := ?vv3) rfl (by kernel_rfl) (by kernel_rfl) (by kernel_rfl) (fun _ _ _ h => h) (Or.inl ⟨by rfl, ?hy3⟩) hS0 ?rest3
  case hy3 =>
    intro V hV
    obtain ⟨y0, y1⟩ := hV
    go_simp
    all_goals rfl
  simp only [Act.put, List.setIfInBounds_toArray, List.set_cons_zero, List.set_cons_succ]
  refine wpAnyH_take (i := 3) (oi := { dst := some 7, op := Op.load 24 (Operand.tmp 6), type := 24, pos := "goon.go:11", after := #[{ on := 2, ground := Ground.data }], guard := none }) (v := ?vv4) rfl (by kernel_rfl) (by kernel_rfl) (by kernel_rfl) (fun _ _ _ h => h) (Or.inl ⟨by rfl, ?hy4⟩) hS0 ?rest4
  case hy4 =>
    intro V hV
    obtain ⟨y0, y1⟩ := hV
    go_simp
    all_goals rfl
  simp only [Act.put, List.setIfInBounds_toArray, List.set_cons_zero, List.set_cons_succ]
  refine wpAnyH_take (i := 4) (oi := { dst := some 8, op := Op.move (Operand.tmp 0), type := 94, pos := "goon.go:11", after := #[], guard := none }) (v := ?vv5) rfl (by kernel_rfl) (by kernel_rfl) (by kernel_rfl) (fun _ _ _ h => h) (Or.inl ⟨by rfl, ?hy5⟩) hS0 ?rest5
  case hy5 =>
    intro V hV
    obtain ⟨y0, y1⟩ := hV
    go_simp
    all_goals rfl
  simp only [Act.put, List.setIfInBounds_toArray, List.set_cons_zero, List.set_cons_succ]
  refine wpAnyH_take (i := 6) (oi := { dst := some 10, op := Op.move (Operand.tmp 0), type := 94, pos := "goon.go:11", after := #[], guard := none }) (v := ?vv6) rfl (by kernel_rfl) (by kernel_rfl) (by kernel_rfl) (fun _ _ _ h => h) (Or.inl ⟨by rfl, ?hy6⟩) hS0 ?rest6
  case hy6 =>
    intro V hV
    obtain ⟨y0, y1⟩ := hV
    go_simp
    all_goals rfl
  simp only [Act.put, List.setIfInBounds_toArray, List.set_cons_zero, List.set_cons_succ]
  refine wpAnyH_take (i := 10) (oi := { dst := some 14, op := Op.move (Operand.const (Value.int IntKind.i64 0)), type := 3, pos := "goon.go:11", after := #[], guard := none }) (v := ?vv7) rfl (by kernel_rfl) (by kernel_rfl) (by kernel_rfl) (fun _ _ _ h => h) (Or.inl ⟨by rfl, ?hy7⟩) hS0 ?rest7
  case hy7 =>
    intro V hV
    obtain ⟨y0, y1⟩ := hV
    go_simp
    all_goals rfl
  simp only [Act.put, List.setIfInBounds_toArray, List.set_cons_zero, List.set_cons_succ]
  refine wpAnyH_ready (rs := [5]) (by kernel_rfl) (by simp) (AllReadyH.cons (o := { dst := some 9, op := Op.call { callee := Callee.value (Operand.func 92), args := #[Operand.tmp 8], argTypes := #[94] }, type := 110, pos := "goon.go:11", after := #[{ on := 4, ground := Ground.data }], guard := none }) rfl (fun K' hK => ?_) AllReadyH.nil)
  refine step_call1 _ (by rfl) 92 _ _ (by rfl) (enters_of Tryd.func92 (by kernel_rfl) rfl) _ (by rfl) (hO _ (Kept.refl (fun _ => False) W.drew)) ?_
  rintro e wO1 ⟨gO1, rfl, CO1, KO1⟩
  have LO1 := ((Kept.refl (fun _ => False) W.drew)).and KO1
  refine ⟨_, rfl, ?_⟩
  refine hK.out _ _ (HS.out _ LO1) (fun _ => ?_)
  clear hK K'
  try (simp only [Act.put, List.setIfInBounds_toArray, List.set_cons_zero, List.set_cons_succ])
  refine wpAnyH_ready (rs := [7]) (by kernel_rfl) (by simp) (AllReadyH.cons (o := { dst := some 11, op := Op.call { callee := Callee.value (Operand.func 93), args := #[Operand.tmp 10], argTypes := #[94] }, type := 110, pos := "goon.go:11", after := #[{ on := 6, ground := Ground.data }, { on := 5, ground := Ground.chain }], guard := none }) rfl (fun K' hK => ?_) AllReadyH.nil)
  refine step_call1 _ (by rfl) 93 _ _ (by rfl) (enters_of Tryd.func93 (by kernel_rfl) rfl) _ (by rfl) (hB _ LO1) ?_
  rintro e wB2 ⟨gB2, rfl, CB2, KB2⟩
  have LB2 := (LO1).and KB2
  have DB2 := CO1.kept KB2 (fun _ _ h => h)
  refine ⟨_, rfl, ?_⟩
  refine hK.out _ _ (HS.out _ LB2) (fun _ => ?_)
  clear hK K'
  try (simp only [Act.put, List.setIfInBounds_toArray, List.set_cons_zero, List.set_cons_succ])
  refine wpAnyH_ready (rs := [8]) (by kernel_rfl) (by simp) (AllReadyH.cons (o := { dst := some 12, op := Op.call { callee := Callee.value (Operand.func 91), args := #[Operand.tmp 7, Operand.tmp 9, Operand.tmp 11], argTypes := #[24, 110, 110] }, type := 101, pos := "goon.go:11", after := #[{ on := 3, ground := Ground.data }, { on := 5, ground := Ground.data }, { on := 7, ground := Ground.data }, { on := 7, ground := Ground.chain }], guard := none }) rfl (fun K' hK => ?_) AllReadyH.nil)
  refine step_call3 _ (by rfl) 91 _ _ _ _ _ _ (by rfl) (enters_of Tryd.func91 (by kernel_rfl) rfl) _ _ _ (by rfl) (by rfl) (by rfl) (hR _ _ _ LB2 DB2 CB2) ?_
  rintro e w9 ⟨av, cv, rfl, P9, K9⟩
  have L9 := (LB2).and K9
  refine ⟨_, rfl, ?_⟩
  refine hK.out _ _ (HS.out _ L9) (fun _ => ?_)
  clear hK K'
  try (simp only [Act.put, List.setIfInBounds_toArray, List.set_cons_zero, List.set_cons_succ])
  refine wpAnyH_take (i := 9) (oi := { dst := some 13, op := Op.call { callee := Callee.builtin Builtin.len, args := #[Operand.tmp 12], argTypes := #[101] }, type := 3, pos := "goon.go:11", after := #[{ on := 8, ground := Ground.data }], guard := none }) (v := ?vv8) rfl (by kernel_rfl) (by kernel_rfl) (by kernel_rfl) (fun _ _ _ h => h) (Or.inl ⟨by rfl, ?hy8⟩) (HS.out _ L9) ?rest8
  case hy8 =>
    intro V hV
    obtain ⟨y0, y1⟩ := hV
    go_simp
    all_goals rfl
  simp only [Act.put, List.setIfInBounds_toArray, List.set_cons_zero, List.set_cons_succ]
  refine wpAnyH_done (by kernel_rfl) ?_ _
  exact HH.out _ _ _ _ _ _ _ _ av cv w9 P9 (HKD.out.and L9)

end Go.Proofs.YtfjekjbkifmpfaaDoor

/-
  HistoryTwins as data: two workflows to which the same happens stand alike, but for their names.
-/
namespace Go.Proofs.YtfjekjbkifmpfaaDoor
open Go.RowKit

/-- The same state under another name, with another parent. -/
def twinS (i p n : ByteArray) (s : St) : St := { s with id := i, par := p, pnode := n }

/-- Two runs that go alike; behind u and u' they have the same events. -/
structure Twin (i p n : ByteArray) (u u' : List Ev) (r r' : Rn) : Prop where
  st : r'.st = twinS i p n r.st
  now : r'.now = r.now
  evs : ∃ l, r.evs = u ++ l ∧ r'.evs = u' ++ l
  tks : r.st.status = 1 → r'.tks.length = r.tks.length

section
variable {nm i p n : ByteArray} {u u' : List Ev} {ns : List Nd} {r r' : Rn}

theorem change_twin (s : St) (e : Ev) (he : e.kind ≠ 1) : changeP nm ns (twinS i p n s) e = (changeP nm ns s e).map (twinS i p n) := by
  unfold changeP
  have h0 : (twinS i p n s).status = s.status := rfl
  rw [h0]
  by_cases hs : s.status ≠ (if e.kind = 1 then 0 else 1)
  · rw [if_pos hs, if_pos hs]; rfl
  · rw [if_neg hs, if_neg hs, if_neg he, if_neg he]
    by_cases h13 : e.kind = 13
    · rw [if_pos h13, if_pos h13]; rfl
    · rw [if_neg h13, if_neg h13]
      by_cases h15 : e.kind = 15
      · rw [if_pos h15, if_pos h15]
        by_cases hn : e.num = 2 ∨ e.num = 3 ∨ e.num = 4
        · rw [if_pos hn, if_pos hn]; rfl
        · rw [if_neg hn, if_neg hn]; rfl
      · rw [if_neg h15, if_neg h15]
        have hc : changeNodeP ns (twinS i p n s) e = (changeNodeP ns s e).map (twinS i p n) := by
          unfold changeNodeP
          cases findP ns e.node with
          | none => rfl
          | some j =>
            dsimp only
            have hm : nodeMove ns (twinS i p n s) e j = nodeMove ns s e j := rfl
            rw [hm]
            cases nodeMove ns s e j with
            | none => rfl
            | some m =>
              dsimp only
              have hs2 : (twinS i p n s).sigs = s.sigs := rfl
              rw [hs2]
              cases (if e.kind = 12 then receiveP s.sigs (argAt ns j) m.src e.num else some s.sigs) with
              | none => rfl
              | some l => rfl
        rw [hc, Option.map_map, Option.map_map]
        rfl

theorem Twin.tell (T : Twin i p n u u' r r') {e : Ev} {ts ts' : List Tk} (he : e.kind ≠ 1) (hl : ts'.length = ts.length ∨ ∀ t, changeP nm ns r.st e = some t → t.status ≠ 1) : Twin i p n u u' (tellP nm ns r e ts) (tellP nm ns r' e ts') := by
  unfold tellP
  rw [T.st, change_twin r.st e he]
  cases hc : changeP nm ns r.st e with
  | none => exact T
  | some t =>
    refine ⟨rfl, T.now, by obtain ⟨l, h1, h2⟩ := T.evs; exact ⟨l ++ [e], by show r.evs ++ [e] = _; rw [h1, List.append_assoc], by show r'.evs ++ [e] = _; rw [h2, List.append_assoc]⟩, fun h1 => ?_⟩
    have h1' : t.status = 1 := h1
    rcases hl with hl | hl
    · have hs : r.st.status = 1 := by
        unfold changeP at hc
        rw [if_neg he] at hc
        split at hc
        · cases hc
        · rename_i h; exact Classical.not_not.1 h
      show (r'.tks ++ _).length = (r.tks ++ _).length
      rw [List.length_append, List.length_append, List.length_map, List.length_map, T.tks hs, hl]
    · exact absurd h1' (hl t hc)

theorem change_closes {s t : St} {tx : ByteArray} {st : Int} (h : changeP nm ns s ⟨15, ⟨#[]⟩, tx, st⟩ = some t) : t.status ≠ 1 := by
  unfold changeP at h
  simp only [show ¬ (15 : Int) = 1 by decide, show ¬ (15 : Int) = 13 by decide, if_false, if_true] at h
  split at h
  · cases h
  · split at h
    · rename_i h2
      cases h
      dsimp only
      omega
    · cases h

theorem Twin.close (T : Twin i p n u u' r r') (st : Int) (tx : ByteArray) : Twin i p n u u' (endP nm ns r st tx) (endP nm ns r' st tx) :=
  T.tell (by simp) (.inr fun _ h => change_closes h)

theorem Twin.broken (T : Twin i p n u u' r r') (x tx : ByteArray) : Twin i p n u u' (breakP nm ns r x tx) (breakP nm ns r' x tx) :=
  (T.tell (nm := nm) (ns := ns) (e := ⟨6, x, tx, 0⟩) (ts := []) (ts' := []) (by simp) (.inl rfl)).close 3 tx

/-- Names that are short enough for every child's name. -/
structure Short (ns : List Nd) (r r' : Rn) : Prop where
  names : ∀ x ∈ ns, x.name.size ≤ 64
  one : r.st.id.size ≤ 64
  two : r'.st.id.size ≤ 64

theorem Twin.begins (T : Twin i p n u u' r r') (S : Short ns r r') {x : Nd} (hx : x ∈ ns) : Twin i p n u u' (beginP nm ns r x) (beginP nm ns r' x) := by
  unfold beginP
  by_cases h1 : x.kind = 1
  · rw [if_pos h1, if_pos h1]; exact T.tell (by simp) (.inl rfl)
  rw [if_neg h1, if_neg h1]
  by_cases h2 : x.kind = 2
  · rw [if_pos h2, if_pos h2, T.now]; exact T.tell (by simp) (.inl rfl)
  rw [if_neg h2, if_neg h2]
  by_cases h3 : x.kind = 3
  · rw [if_pos h3, if_pos h3]
    unfold askP
    have a1 := S.names x hx
    have a2 := S.one
    have a3 := S.two
    rw [if_neg (show ¬ 256 < r.st.id.size + 1 + x.name.size by omega), if_neg (show ¬ 256 < r'.st.id.size + 1 + x.name.size by omega)]
    exact T.tell (by simp) (.inl rfl)
  rw [if_neg h3, if_neg h3]
  by_cases h4 : x.kind = 4
  · rw [if_pos h4, if_pos h4]
    unfold waitP
    have hs : r'.st.sigs = r.st.sigs := by rw [T.st]; rfl
    rw [hs]
    cases keptP r.st.sigs x.arg with
    | none => exact T.tell (by simp) (.inl rfl)
    | some k => exact T.tell (by simp) (.inl rfl)
  rw [if_neg h4, if_neg h4]
  by_cases h5 : x.kind = 5
  · rw [if_pos h5, if_pos h5]; exact T.tell (by simp) (.inl rfl)
  · rw [if_neg h5, if_neg h5]; exact T

theorem Short.next (S : Short ns r r') {q q' : Rn} (h : q.st.id = r.st.id) (h' : q'.st.id = r'.st.id) : Short ns q q' := ⟨S.names, by rw [h]; exact S.one, by rw [h']; exact S.two⟩

theorem Twin.row : ∀ (l : List Nat) (r r' : Rn), Twin i p n u u' r r' → Short ns r r' → Twin i p n u u' (goRow nm ns r l).1 (goRow nm ns r' l).1 ∧ (goRow nm ns r' l).2 = (goRow nm ns r l).2
  | [], r, r', T, _ => ⟨T, rfl⟩
  | j :: l, r, r', T, S => by
    unfold goRow
    cases hx : ns[j]? with
    | none => exact ⟨T, rfl⟩
    | some x =>
      dsimp only
      have T1 := T.begins (nm := nm) S (List.mem_of_getElem? hx)
      have hs : (beginP nm ns r' x).st.status = (beginP nm ns r x).st.status := by rw [T1.st]; rfl
      have hn : (beginP nm ns r' x).st.nodes = (beginP nm ns r x).st.nodes := by rw [T1.st]; rfl
      rw [hs, hn]
      by_cases h1 : (beginP nm ns r x).st.status ≠ 1
      · rw [if_pos h1, if_pos h1]; exact ⟨T1, rfl⟩
      · rw [if_neg h1, if_neg h1]
        by_cases h3 : ((beginP nm ns r x).st.nodes[j]?.map (fun y => y.status)) = some 3
        · rw [if_pos h3, if_pos h3]; exact ⟨T1, rfl⟩
        · rw [if_neg h3, if_neg h3]
          exact Twin.row l _ _ T1 (S.next beginP_grow.id beginP_grow.id)

theorem Twin.go : ∀ (f : Nat) (r r' : Rn), Twin i p n u u' r r' → Short ns r r' → Twin i p n u u' (goP nm ns f r) (goP nm ns f r')
  | 0, r, r', T, _ => T
  | f + 1, r, r', T, S => by
    unfold goP
    have hn : r'.st.nodes = r.st.nodes := by rw [T.st]; rfl
    have hL : goReady ns r' = goReady ns r := by unfold goReady; rw [hn]
    rw [hL]
    obtain ⟨T1, hw⟩ := Twin.row (nm := nm) (ns := ns) (goReady ns r) r r' T S
    have g1 := goRow_grow (nm := nm) (ns := ns) (goReady ns r) r
    have g2 := goRow_grow (nm := nm) (ns := ns) (goReady ns r) r'
    cases ha : goRow nm ns r (goReady ns r) with
    | mk q w =>
      cases hb : goRow nm ns r' (goReady ns r) with
      | mk q' w' =>
        rw [ha] at T1 g1 hw
        rw [hb] at T1 g2 hw
        dsimp only at T1 g1 g2 hw
        subst hw
        cases w' with
        | stop => exact T1
        | again => exact Twin.go f q q' T1 (S.next g1.id g2.id)
        | through =>
          have hq : q'.st.nodes = q.st.nodes := by rw [T1.st]; rfl
          dsimp only
          rw [hq]
          by_cases hz : restC q.st.nodes = 0
          · rw [if_pos hz, if_pos hz]; exact T1.close 2 _
          · rw [if_neg hz, if_neg hz]; exact T1

theorem Twin.goOn (T : Twin i p n u u' r r') (S : Short ns r r') : Twin i p n u u' (goOnP nm ns r) (goOnP nm ns r') := by
  unfold goOnP
  have hn : r'.st.nodes = r.st.nodes := by rw [T.st]; rfl
  rw [hn]
  exact Twin.go _ r r' T S

theorem Twin.tellGo (T : Twin i p n u u' r r') (S : Short ns r r') {e : Ev} (he : e.kind ≠ 1) : Twin i p n u u' (goOnP nm ns (tellP nm ns r e [])) (goOnP nm ns (tellP nm ns r' e [])) :=
  (T.tell he (.inl rfl)).goOn (S.next (tellP_grow he).id (tellP_grow he).id)

theorem Twin.failTry (T : Twin i p n u u' r r') (j : Nat) (tx : ByteArray) : Twin i p n u u' (failTryP nm ns r j tx) (failTryP nm ns r' j tx) := by
  unfold failTryP
  have hn : r'.st.nodes = r.st.nodes := by rw [T.st]; rfl
  rw [hn]
  cases ns[j]? with
  | none => exact T
  | some x =>
    cases r.st.nodes[j]? with
    | none => exact T
    | some y =>
      dsimp only
      by_cases h : x.tries ≤ y.tr
      · rw [if_pos h, if_pos h]; exact T.broken _ _
      · rw [if_neg h, if_neg h]; exact T.tell (by simp) (.inl rfl)

theorem find_twin (s : St) (x : ByteArray) (ks : List Int) : findK ns (twinS i p n s) x ks = findK ns s x ks := rfl
theorem busy_twin (s : St) (q : Inp) (ks : List Int) : busyP ns (twinS i p n s) q ks = busyP ns s q ks := rfl
theorem wait_twin (s : St) (x : ByteArray) : busyWaitP ns (twinS i p n s) x = busyWaitP ns s x := rfl

/-- What happens to both alike leaves them alike. -/
theorem Twin.does (T : Twin i p n u u' r r') (S : Short ns r r') (q : Inp) (hq : q.kind ≠ 1) : Twin i p n u u' (doP nm ns r q).1 (doP nm ns r' q).1 ∧ (doP nm ns r' q).2 = (doP nm ns r q).2 := by
  have hs : r'.st.status = r.st.status := by rw [T.st]; rfl
  unfold doP
  rw [if_neg hq, if_neg hq, hs]
  by_cases h0 : r.st.status = 0
  · rw [if_pos h0, if_pos h0]; exact ⟨T, rfl⟩
  rw [if_neg h0, if_neg h0]
  by_cases h1 : r.st.status ≠ 1
  · rw [if_pos h1, if_pos h1]; exact ⟨T, rfl⟩
  rw [if_neg h1, if_neg h1]
  by_cases k2 : q.kind = 2
  · rw [if_pos k2, if_pos k2]
    unfold signalP
    by_cases a1 : nameP q.name = false
    · rw [if_pos a1, if_pos a1]; exact ⟨T, rfl⟩
    rw [if_neg a1, if_neg a1]
    by_cases a2 : 256 < q.text.size
    · rw [if_pos a2, if_pos a2]; exact ⟨T, rfl⟩
    rw [if_neg a2, if_neg a2, show busyWaitP ns r'.st q.name = busyWaitP ns r.st q.name by rw [T.st]; rfl, show r'.st.sigs = r.st.sigs by rw [T.st]; rfl]
    cases busyWaitP ns r.st q.name with
    | some j => exact ⟨T.tellGo S (by simp), rfl⟩
    | none =>
      dsimp only
      by_cases a3 : 32 ≤ r.st.sigs.length
      · rw [if_pos a3, if_pos a3]; exact ⟨T, rfl⟩
      · rw [if_neg a3, if_neg a3]; exact ⟨T.tell (by simp) (.inl rfl), rfl⟩
  rw [if_neg k2, if_neg k2]
  by_cases k3 : q.kind = 3
  · rw [if_pos k3, if_pos k3]
    unfold takeP
    rw [show findK ns r'.st q.node [1] = findK ns r.st q.node [1] by rw [T.st]; rfl, show r'.st.nodes = r.st.nodes by rw [T.st]; rfl]
    cases findK ns r.st q.node [1] with
    | none => exact ⟨T, rfl⟩
    | some j =>
      dsimp only
      cases ns[j]? with
      | none => exact ⟨T, rfl⟩
      | some x =>
        cases r.st.nodes[j]? with
        | none => exact ⟨T, rfl⟩
        | some y =>
          dsimp only
          by_cases hy : y.status = 1
          · rw [if_pos hy, if_pos hy]
            unfold alarmL
            rw [T.now]
            exact ⟨T.tell (by simp) (.inl rfl), rfl⟩
          · rw [if_neg hy, if_neg hy]; exact ⟨T, rfl⟩
  rw [if_neg k3, if_neg k3]
  have hbz : ∀ ks, busyP ns r'.st q ks = busyP ns r.st q ks := fun ks => by rw [T.st]; rfl
  by_cases k4 : q.kind = 4
  · rw [if_pos k4, if_pos k4]
    unfold completeP
    rw [hbz]
    cases busyP ns r.st q [1] with
    | mk j ee =>
      dsimp only
      by_cases he : ee ≠ 0
      · rw [if_pos he, if_pos he]; exact ⟨T, rfl⟩
      rw [if_neg he, if_neg he]
      by_cases a2 : 256 < q.text.size
      · rw [if_pos a2, if_pos a2]; exact ⟨T, rfl⟩
      · rw [if_neg a2, if_neg a2]; exact ⟨T.tellGo S (by simp), rfl⟩
  rw [if_neg k4, if_neg k4]
  by_cases k5 : q.kind = 5
  · rw [if_pos k5, if_pos k5]
    unfold failP
    rw [hbz]
    cases busyP ns r.st q [1] with
    | mk j ee =>
      dsimp only
      by_cases he : ee ≠ 0
      · rw [if_pos he, if_pos he]; exact ⟨T, rfl⟩
      rw [if_neg he, if_neg he]
      by_cases a2 : 256 < q.text.size
      · rw [if_pos a2, if_pos a2]; exact ⟨T, rfl⟩
      · rw [if_neg a2, if_neg a2]; exact ⟨T.failTry _ _, rfl⟩
  rw [if_neg k5, if_neg k5]
  by_cases k6 : q.kind = 6
  · rw [if_pos k6, if_pos k6]
    unfold fireP
    rw [hbz]
    cases busyP ns r.st q [1, 2] with
    | mk j ee =>
      dsimp only
      by_cases he : ee ≠ 0
      · rw [if_pos he, if_pos he]; exact ⟨T, rfl⟩
      rw [if_neg he, if_neg he]
      by_cases a2 : kindAt ns j = 1
      · rw [if_pos a2, if_pos a2]; exact ⟨T.failTry _ _, rfl⟩
      · rw [if_neg a2, if_neg a2]; exact ⟨T.tellGo S (by simp), rfl⟩
  rw [if_neg k6, if_neg k6]
  by_cases k7 : q.kind = 7
  · rw [if_pos k7, if_pos k7]
    unfold kidP
    rw [hbz]
    cases busyP ns r.st q [3] with
    | mk j ee =>
      dsimp only
      by_cases he : ee ≠ 0
      · rw [if_pos he, if_pos he]; exact ⟨T, rfl⟩
      rw [if_neg he, if_neg he]
      by_cases a2 : q.status ≠ 2
      · rw [if_pos a2, if_pos a2]; exact ⟨T.broken _ _, rfl⟩
      · rw [if_neg a2, if_neg a2]; exact ⟨T.tellGo S (by simp), rfl⟩
  rw [if_neg k7, if_neg k7]
  by_cases k8 : q.kind = 8
  · rw [if_pos k8, if_pos k8]
    unfold cancelP
    by_cases a2 : 256 < q.text.size
    · rw [if_pos a2, if_pos a2]; exact ⟨T, rfl⟩
    · rw [if_neg a2, if_neg a2]; exact ⟨T.close 4 _, rfl⟩
  rw [if_neg k8, if_neg k8]
  exact ⟨T, rfl⟩

/-- Both begin alike. -/
theorem twin_start (hn : ∀ x ∈ ns, x.name.size ≤ 64) (q q' : Inp) (h : q.kind = 1) (h' : q'.kind = 1) (hw : q'.now = q.now) (h1 : q.name.size ≤ 64) (h2 : q'.name.size ≤ 64) :
    Twin q'.name q'.par q'.pnode [⟨1, q.pnode, q.par, 0⟩] [⟨1, q'.pnode, q'.par, 0⟩] (doP nm ns ⟨⟨⟨#[]⟩, ⟨#[]⟩, ⟨#[]⟩, ⟨#[]⟩, 0, ⟨#[]⟩, [], [], 0⟩, q.now, [], []⟩ q).1 (doP nm ns ⟨⟨⟨#[]⟩, ⟨#[]⟩, ⟨#[]⟩, ⟨#[]⟩, 0, ⟨#[]⟩, [], [], 0⟩, q'.now, [], []⟩ q').1 := by
  unfold doP
  rw [if_pos h, if_pos h']
  unfold startP
  rw [if_neg (by simp), if_neg (by simp)]
  refine Twin.goOn ⟨rfl, hw, ⟨[], rfl, rfl⟩, fun _ => rfl⟩ ⟨hn, h1, h2⟩

end

end Go.Proofs.YtfjekjbkifmpfaaDoor

/-
  Apply as the document has it, as data; it is the program's, where what is not over has no text.
-/
namespace Go.Proofs.YtfjekjbkifmpfaaDoor
open Go.RowKit

/-- What an event makes of a node: how it stands, its text, the signals that are kept. -/
def moveR (sg : List Sg) (e : Ev) (n : Nd) (y : Ns) : Option (Int × ByteArray × List Sg) :=
  if e.kind = 2 ∧ n.kind = 1 ∧ y.status = 0 then some (1, ⟨#[]⟩, sg)
  else if e.kind = 3 ∧ n.kind = 1 ∧ y.status = 1 then some (2, ⟨#[]⟩, sg)
  else if e.kind = 5 ∧ n.kind = 1 ∧ y.status = 2 then some (1, ⟨#[]⟩, sg)
  else if e.kind = 4 ∧ n.kind = 1 ∧ y.status = 2 then some (3, e.text, sg)
  else if e.kind = 6 ∧ (y.status = 2 ∨ n.kind = 3 ∧ y.status = 0) then some (4, e.text, sg)
  else if e.kind = 7 ∧ n.kind = 2 ∧ y.status = 0 then some (2, ⟨#[]⟩, sg)
  else if e.kind = 8 ∧ n.kind = 2 ∧ y.status = 2 then some (3, ⟨#[]⟩, sg)
  else if e.kind = 9 ∧ n.kind = 3 ∧ y.status = 0 then some (2, ⟨#[]⟩, sg)
  else if e.kind = 10 ∧ n.kind = 3 ∧ y.status = 2 then some (3, e.text, sg)
  else if e.kind = 11 ∧ n.kind = 4 ∧ y.status = 0 then some (2, ⟨#[]⟩, sg)
  else if e.kind = 12 ∧ n.kind = 4 ∧ e.num = 0 ∧ y.status = 2 then some (3, e.text, sg)
  else if e.kind = 12 ∧ n.kind = 4 ∧ e.num = 1 ∧ y.status = 0 then (match keptP sg n.arg with | some k => some (3, e.text, sg.eraseIdx k) | none => none)
  else if e.kind = 14 ∧ n.kind = 5 ∧ y.status = 0 then some (3, ⟨#[]⟩, sg)
  else none

def applyR (nm : ByteArray) (ns : List Nd) (s : St) (e : Ev) : Option St :=
  if e.kind = 1 then (if s.status ≠ 0 then none else some { s with status := 1, dfn := nm, par := e.text, pnode := e.node, nodes := List.replicate ns.length ⟨0, 0, ⟨#[]⟩⟩, events := s.events + 1 })
  else if s.status ≠ 1 then none
  else if e.kind = 13 then some { s with sigs := s.sigs ++ [⟨e.node, e.text⟩], events := s.events + 1 }
  else if e.kind = 15 then (if e.num < 2 ∨ 4 < e.num then none else some { s with status := e.num, text := e.text, events := s.events + 1 })
  else match findP ns e.node with
    | none => none
    | some i => match ns[i]?, s.nodes[i]? with
      | some n, some y => (moveR s.sigs e n y).map (fun (p : Int × ByteArray × List Sg) => { s with nodes := s.nodes.modify i (fun x => ⟨p.1, if e.kind = 3 then e.num else x.tr, if p.2.1 ≠ ⟨#[]⟩ ∨ p.1 = 3 ∨ p.1 = 4 then p.2.1 else x.text⟩), sigs := p.2.2, events := s.events + 1 })
      | _, _ => none

/-- What is not over has no text. -/
def Bare (s : St) : Prop := ∀ y ∈ s.nodes, y.status = 0 ∨ y.status = 1 ∨ y.status = 2 → y.text = ⟨#[]⟩

theorem moveP_is (e k s : Int) : moveP e k s =
    if e = 2 ∧ s = 0 ∧ k = 1 then some ⟨2, 1, 0, 1, false⟩ else if e = 3 ∧ s = 1 ∧ k = 1 then some ⟨3, 1, 1, 2, false⟩ else if e = 5 ∧ s = 2 ∧ k = 1 then some ⟨5, 1, 2, 1, false⟩ else if e = 4 ∧ s = 2 ∧ k = 1 then some ⟨4, 1, 2, 3, true⟩
    else if e = 6 ∧ s = 2 then some ⟨6, 0, 2, 4, true⟩ else if e = 6 ∧ s = 0 ∧ k = 3 then some ⟨6, 3, 0, 4, true⟩ else if e = 7 ∧ s = 0 ∧ k = 2 then some ⟨7, 2, 0, 2, false⟩ else if e = 8 ∧ s = 2 ∧ k = 2 then some ⟨8, 2, 2, 3, false⟩
    else if e = 9 ∧ s = 0 ∧ k = 3 then some ⟨9, 3, 0, 2, false⟩ else if e = 10 ∧ s = 2 ∧ k = 3 then some ⟨10, 3, 2, 3, true⟩ else if e = 11 ∧ s = 0 ∧ k = 4 then some ⟨11, 4, 0, 2, false⟩ else if e = 12 ∧ s = 2 ∧ k = 4 then some ⟨12, 4, 2, 3, true⟩
    else if e = 12 ∧ s = 0 ∧ k = 4 then some ⟨12, 4, 0, 3, true⟩ else if e = 14 ∧ s = 0 ∧ k = 5 then some ⟨14, 5, 0, 3, false⟩ else none := by
  have hf : ∀ (m : Mv) (l : List Mv), (m :: l).find? (fun m => m.fits e k s) = if e = m.event ∧ s = m.src ∧ (k = m.kind ∨ m.kind = 0) then some m else l.find? (fun m => m.fits e k s) := fun m l => by
    rw [List.find?_cons]
    have hb : m.fits e k s = decide (e = m.event ∧ s = m.src ∧ (k = m.kind ∨ m.kind = 0)) := by
      unfold Mv.fits
      rw [Bool.eq_iff_iff]
      simp
      constructor
      · rintro ⟨rfl, rfl, h⟩; exact ⟨rfl, rfl, h.imp Eq.symm id⟩
      · rintro ⟨rfl, rfl, h⟩; exact ⟨rfl, rfl, h.imp Eq.symm id⟩
    rw [hb]
    by_cases h : e = m.event ∧ s = m.src ∧ (k = m.kind ∨ m.kind = 0)
    · rw [decide_eq_true h, if_pos h]
    · rw [decide_eq_false h, if_neg h]
  unfold moveP movesL
  rw [hf, hf, hf, hf, hf, hf, hf, hf, hf, hf, hf, hf, hf, hf, List.find?_nil]
  simp

theorem apply_same {nm : ByteArray} {ns : List Nd} {s : St} (hB : Bare s) (e : Ev) : applyR nm ns s e = changeP nm ns s e := by
  unfold applyR changeP
  by_cases h1 : e.kind = 1
  · rw [if_pos h1, if_pos h1, if_pos h1]
  · rw [if_neg h1, if_neg h1, if_neg h1]
    by_cases hs : s.status ≠ 1
    · rw [if_pos hs, if_pos hs]
    · rw [if_neg hs, if_neg hs]
      by_cases h13 : e.kind = 13
      · rw [if_pos h13, if_pos h13]
      · rw [if_neg h13, if_neg h13]
        by_cases h15 : e.kind = 15
        · rw [if_pos h15, if_pos h15]
          by_cases hn : e.num < 2 ∨ 4 < e.num
          · rw [if_pos hn, if_neg (by omega)]
          · rw [if_neg hn, if_pos (by omega)]
        · rw [if_neg h15, if_neg h15]
          unfold changeNodeP nodeMove argAt
          cases hf : findP ns e.node with
          | none => rfl
          | some i =>
            dsimp only
            cases hn : ns[i]? with
            | none => rfl
            | some n =>
              cases hy : s.nodes[i]? with
              | none => rfl
              | some y =>
                dsimp only
                have hb := hB y (List.mem_of_getElem? hy)
                have hset : ∀ (st : Int) (tx : ByteArray) (b : Bool) (m : Mv), m.dst = st → m.txt = b → ((b = true ∧ (tx = e.text) ∧ (st = 3 ∨ st = 4)) ∨ (b = false ∧ tx = ⟨#[]⟩ ∧ y.text = ⟨#[]⟩)) →
                    s.nodes.modify i (fun x => ⟨st, if e.kind = 3 then e.num else x.tr, if tx ≠ ⟨#[]⟩ ∨ st = 3 ∨ st = 4 then tx else x.text⟩) = setNode s.nodes i m e := fun st tx b m hm hb2 h => by
                  unfold setNode
                  subst hm hb2
                  apply List.ext_getElem?
                  intro j
                  rw [List.getElem?_modify, List.getElem?_modify]
                  by_cases hj : i = j
                  · subst hj
                    rw [hy]
                    simp only [if_true, Option.map_eq_map, Option.map_some, Option.some.injEq, Ns.mk.injEq, true_and]
                    rcases h with ⟨h1, h2, h3⟩ | ⟨h1, h2, h3⟩
                    · rw [h1, h2, if_pos (.inr h3), if_pos rfl]
                    · rw [h1, h2, h3]
                      by_cases hh : ((⟨#[]⟩ : ByteArray) ≠ ⟨#[]⟩) ∨ m.dst = 3 ∨ m.dst = 4
                      · rw [if_pos hh]; simp
                      · rw [if_neg hh]; simp
                  · simp [hj]
                rw [moveP_is]
                unfold moveR
                by_cases c1 : e.kind = 2 ∧ n.kind = 1 ∧ y.status = 0
                · rw [if_pos c1, if_pos (c := e.kind = 2 ∧ y.status = 0 ∧ n.kind = 1) ⟨c1.1, c1.2.2, c1.2.1⟩]
                  dsimp only [Option.map_some]
                  rw [if_neg (by rw [c1.1]; decide)]
                  dsimp only [Option.map_some]
                  rw [hset 1 ⟨#[]⟩ false ⟨2, 1, 0, 1, false⟩ rfl rfl (.inr ⟨rfl, rfl, hb (.inl c1.2.2)⟩)]
                rw [if_neg c1, if_neg (c := e.kind = 2 ∧ y.status = 0 ∧ n.kind = 1) (fun h => c1 ⟨h.1, h.2.2, h.2.1⟩)]
                by_cases c2 : e.kind = 3 ∧ n.kind = 1 ∧ y.status = 1
                · rw [if_pos c2, if_pos (c := e.kind = 3 ∧ y.status = 1 ∧ n.kind = 1) ⟨c2.1, c2.2.2, c2.2.1⟩]
                  dsimp only [Option.map_some]
                  rw [if_neg (by rw [c2.1]; decide)]
                  dsimp only [Option.map_some]
                  rw [hset 2 ⟨#[]⟩ false ⟨3, 1, 1, 2, false⟩ rfl rfl (.inr ⟨rfl, rfl, hb (.inr (.inl c2.2.2))⟩)]
                rw [if_neg c2, if_neg (c := e.kind = 3 ∧ y.status = 1 ∧ n.kind = 1) (fun h => c2 ⟨h.1, h.2.2, h.2.1⟩)]
                by_cases c3 : e.kind = 5 ∧ n.kind = 1 ∧ y.status = 2
                · rw [if_pos c3, if_pos (c := e.kind = 5 ∧ y.status = 2 ∧ n.kind = 1) ⟨c3.1, c3.2.2, c3.2.1⟩]
                  dsimp only [Option.map_some]
                  rw [if_neg (by rw [c3.1]; decide)]
                  dsimp only [Option.map_some]
                  rw [hset 1 ⟨#[]⟩ false ⟨5, 1, 2, 1, false⟩ rfl rfl (.inr ⟨rfl, rfl, hb (.inr (.inr c3.2.2))⟩)]
                rw [if_neg c3, if_neg (c := e.kind = 5 ∧ y.status = 2 ∧ n.kind = 1) (fun h => c3 ⟨h.1, h.2.2, h.2.1⟩)]
                by_cases c4 : e.kind = 4 ∧ n.kind = 1 ∧ y.status = 2
                · rw [if_pos c4, if_pos (c := e.kind = 4 ∧ y.status = 2 ∧ n.kind = 1) ⟨c4.1, c4.2.2, c4.2.1⟩]
                  dsimp only [Option.map_some]
                  rw [if_neg (by rw [c4.1]; decide)]
                  dsimp only [Option.map_some]
                  rw [hset 3 e.text true ⟨4, 1, 2, 3, true⟩ rfl rfl (.inl ⟨rfl, rfl, .inl rfl⟩)]
                rw [if_neg c4, if_neg (c := e.kind = 4 ∧ y.status = 2 ∧ n.kind = 1) (fun h => c4 ⟨h.1, h.2.2, h.2.1⟩)]
                by_cases c5 : e.kind = 6 ∧ (y.status = 2 ∨ n.kind = 3 ∧ y.status = 0)
                · rw [if_pos c5]
                  dsimp only [Option.map_some]
                  rcases c5.2 with c | c
                  · rw [if_pos (c := e.kind = 6 ∧ y.status = 2) ⟨c5.1, c⟩]
                    dsimp only [Option.map_some]
                    rw [if_neg (by rw [c5.1]; decide)]
                    dsimp only [Option.map_some]
                    rw [hset 4 e.text true ⟨6, 0, 2, 4, true⟩ rfl rfl (.inl ⟨rfl, rfl, .inr rfl⟩)]
                  · rw [if_neg (c := e.kind = 6 ∧ y.status = 2) (fun h => by have := h.2; rw [c.2] at this; cases this), if_pos (c := e.kind = 6 ∧ y.status = 0 ∧ n.kind = 3) ⟨c5.1, c.2, c.1⟩]
                    dsimp only [Option.map_some]
                    rw [if_neg (by rw [c5.1]; decide)]
                    dsimp only [Option.map_some]
                    rw [hset 4 e.text true ⟨6, 3, 0, 4, true⟩ rfl rfl (.inl ⟨rfl, rfl, .inr rfl⟩)]
                rw [if_neg c5, if_neg (c := e.kind = 6 ∧ y.status = 2) (fun h => c5 ⟨h.1, .inl h.2⟩), if_neg (c := e.kind = 6 ∧ y.status = 0 ∧ n.kind = 3) (fun h => c5 ⟨h.1, .inr ⟨h.2.2, h.2.1⟩⟩)]
                by_cases c6 : e.kind = 7 ∧ n.kind = 2 ∧ y.status = 0
                · rw [if_pos c6, if_pos (c := e.kind = 7 ∧ y.status = 0 ∧ n.kind = 2) ⟨c6.1, c6.2.2, c6.2.1⟩]
                  dsimp only [Option.map_some]
                  rw [if_neg (by rw [c6.1]; decide)]
                  dsimp only [Option.map_some]
                  rw [hset 2 ⟨#[]⟩ false ⟨7, 2, 0, 2, false⟩ rfl rfl (.inr ⟨rfl, rfl, hb (.inl c6.2.2)⟩)]
                rw [if_neg c6, if_neg (c := e.kind = 7 ∧ y.status = 0 ∧ n.kind = 2) (fun h => c6 ⟨h.1, h.2.2, h.2.1⟩)]
                by_cases c7 : e.kind = 8 ∧ n.kind = 2 ∧ y.status = 2
                · rw [if_pos c7, if_pos (c := e.kind = 8 ∧ y.status = 2 ∧ n.kind = 2) ⟨c7.1, c7.2.2, c7.2.1⟩]
                  dsimp only [Option.map_some]
                  rw [if_neg (by rw [c7.1]; decide)]
                  dsimp only [Option.map_some]
                  rw [hset 3 ⟨#[]⟩ false ⟨8, 2, 2, 3, false⟩ rfl rfl (.inr ⟨rfl, rfl, hb (.inr (.inr c7.2.2))⟩)]
                rw [if_neg c7, if_neg (c := e.kind = 8 ∧ y.status = 2 ∧ n.kind = 2) (fun h => c7 ⟨h.1, h.2.2, h.2.1⟩)]
                by_cases c8 : e.kind = 9 ∧ n.kind = 3 ∧ y.status = 0
                · rw [if_pos c8, if_pos (c := e.kind = 9 ∧ y.status = 0 ∧ n.kind = 3) ⟨c8.1, c8.2.2, c8.2.1⟩]
                  dsimp only [Option.map_some]
                  rw [if_neg (by rw [c8.1]; decide)]
                  dsimp only [Option.map_some]
                  rw [hset 2 ⟨#[]⟩ false ⟨9, 3, 0, 2, false⟩ rfl rfl (.inr ⟨rfl, rfl, hb (.inl c8.2.2)⟩)]
                rw [if_neg c8, if_neg (c := e.kind = 9 ∧ y.status = 0 ∧ n.kind = 3) (fun h => c8 ⟨h.1, h.2.2, h.2.1⟩)]
                by_cases c9 : e.kind = 10 ∧ n.kind = 3 ∧ y.status = 2
                · rw [if_pos c9, if_pos (c := e.kind = 10 ∧ y.status = 2 ∧ n.kind = 3) ⟨c9.1, c9.2.2, c9.2.1⟩]
                  dsimp only [Option.map_some]
                  rw [if_neg (by rw [c9.1]; decide)]
                  dsimp only [Option.map_some]
                  rw [hset 3 e.text true ⟨10, 3, 2, 3, true⟩ rfl rfl (.inl ⟨rfl, rfl, .inl rfl⟩)]
                rw [if_neg c9, if_neg (c := e.kind = 10 ∧ y.status = 2 ∧ n.kind = 3) (fun h => c9 ⟨h.1, h.2.2, h.2.1⟩)]
                by_cases c10 : e.kind = 11 ∧ n.kind = 4 ∧ y.status = 0
                · rw [if_pos c10, if_pos (c := e.kind = 11 ∧ y.status = 0 ∧ n.kind = 4) ⟨c10.1, c10.2.2, c10.2.1⟩]
                  dsimp only [Option.map_some]
                  rw [if_neg (by rw [c10.1]; decide)]
                  dsimp only [Option.map_some]
                  rw [hset 2 ⟨#[]⟩ false ⟨11, 4, 0, 2, false⟩ rfl rfl (.inr ⟨rfl, rfl, hb (.inl c10.2.2)⟩)]
                rw [if_neg c10, if_neg (c := e.kind = 11 ∧ y.status = 0 ∧ n.kind = 4) (fun h => c10 ⟨h.1, h.2.2, h.2.1⟩)]
                by_cases c11 : e.kind = 12 ∧ y.status = 2 ∧ n.kind = 4
                · rw [if_neg (fun h => by have := h.2.2.2; rw [c11.2.1] at this; cases this) (c := e.kind = 12 ∧ n.kind = 4 ∧ e.num = 1 ∧ y.status = 0), if_neg (fun h => by have := h.1; rw [c11.1] at this; cases this) (c := e.kind = 14 ∧ n.kind = 5 ∧ y.status = 0), if_pos c11]
                  dsimp only [Option.map_some]
                  rw [if_pos c11.1]
                  unfold receiveP
                  rw [if_pos rfl]
                  by_cases hz : e.num = 0
                  · rw [if_pos (c := e.kind = 12 ∧ n.kind = 4 ∧ e.num = 0 ∧ y.status = 2) ⟨c11.1, c11.2.2, hz, c11.2.1⟩, if_pos hz]
                    dsimp only [Option.map_some]
                    rw [hset 3 e.text true ⟨12, 4, 2, 3, true⟩ rfl rfl (.inl ⟨rfl, rfl, .inl rfl⟩)]
                  · rw [if_neg (c := e.kind = 12 ∧ n.kind = 4 ∧ e.num = 0 ∧ y.status = 2) (fun h => hz h.2.2.1), if_neg hz]
                    rfl
                rw [if_neg c11, if_neg (fun h => c11 ⟨h.1, h.2.2.2, h.2.1⟩) (c := e.kind = 12 ∧ n.kind = 4 ∧ e.num = 0 ∧ y.status = 2)]
                by_cases c12 : e.kind = 12 ∧ y.status = 0 ∧ n.kind = 4
                · rw [if_neg (fun h => by have := h.1; rw [c12.1] at this; cases this) (c := e.kind = 14 ∧ n.kind = 5 ∧ y.status = 0), if_pos c12]
                  dsimp only [Option.map_some]
                  rw [if_pos c12.1]
                  unfold receiveP
                  rw [if_neg (c := (0 : Int) = 2) (by decide)]
                  by_cases hz : e.num = 1
                  · rw [if_pos (c := e.kind = 12 ∧ n.kind = 4 ∧ e.num = 1 ∧ y.status = 0) ⟨c12.1, c12.2.2, hz, c12.2.1⟩]
                    cases keptP s.sigs n.arg with
                    | none => rfl
                    | some j =>
                      dsimp only [Option.map_some]
                      rw [if_pos hz]
                      dsimp only [Option.map_some]
                      rw [hset 3 e.text true ⟨12, 4, 0, 3, true⟩ rfl rfl (.inl ⟨rfl, rfl, .inl rfl⟩)]
                  · rw [if_neg (c := e.kind = 12 ∧ n.kind = 4 ∧ e.num = 1 ∧ y.status = 0) (fun h => hz h.2.2.1)]
                    cases keptP s.sigs n.arg with
                    | none => rfl
                    | some j =>
                      dsimp only
                      rw [if_neg hz]
                      rfl
                rw [if_neg c12, if_neg (fun h => c12 ⟨h.1, h.2.2.2, h.2.1⟩) (c := e.kind = 12 ∧ n.kind = 4 ∧ e.num = 1 ∧ y.status = 0)]
                by_cases c13 : e.kind = 14 ∧ n.kind = 5 ∧ y.status = 0
                · rw [if_pos c13, if_pos (c := e.kind = 14 ∧ y.status = 0 ∧ n.kind = 5) ⟨c13.1, c13.2.2, c13.2.1⟩]
                  dsimp only [Option.map_some]
                  rw [if_neg (by rw [c13.1]; decide)]
                  dsimp only [Option.map_some]
                  rw [hset 3 ⟨#[]⟩ false ⟨14, 5, 0, 3, false⟩ rfl rfl (.inr ⟨rfl, rfl, hb (.inl c13.2.2)⟩)]
                · rw [if_neg c13, if_neg (c := e.kind = 14 ∧ y.status = 0 ∧ n.kind = 5) (fun h => c13 ⟨h.1, h.2.2, h.2.1⟩)]
                  rfl

end Go.Proofs.YtfjekjbkifmpfaaDoor

/-
  goOn: nodes begin, as long as some may.
-/
namespace Go.Proofs.YtfjekjbkifmpfaaDoor
open Go.RowKit

theorem jump_weakN {l : Nat} {J J' : Act → World → Prop} {Q : Exit → Act → World → Prop} (h : ∀ a w, J a w → J' a w) : ∀ e a w, Exit.jump l J Q e a w → Exit.jump l J' Q e a w := by
  intro e a w hj
  cases e <;> simp only [Exit.jump] at hj ⊢ <;> first | exact hj | exact ⟨hj.1, h _ _ hj.2⟩

theorem least_of {p : Nat → Prop} (h : ∃ f, p f) : ∃ f, p f ∧ ∀ g, p g → f ≤ g := by
  obtain ⟨f, hf⟩ := h
  induction f using Nat.strongRecOn with
  | _ f ih =>
    by_cases hg : ∃ g, g < f ∧ p g
    · obtain ⟨g, h1, h2⟩ := hg
      exact ih g h1 h2
    · exact ⟨f, hf, fun g hp => Nat.le_of_not_lt fun hl => hg ⟨g, hl, hp⟩⟩

open Classical in
noncomputable def leastP (p : Nat → Prop) : Nat := if h : ∃ f, p f then Classical.choose (least_of h) else 0

theorem leastP_is {p : Nat → Prop} (h : ∃ f, p f) : p (leastP p) ∧ ∀ g, p g → leastP p ≤ g := by
  unfold leastP
  rw [dif_pos h]
  exact Classical.choose_spec (least_of h)

/-- A scope whose code jumps back to one label, each time with less. -/
theorem wp_scope_fuel {P : Program} {a : Act} {w : World} {Q : Exit → Act → World → Prop} {c y : Code} (l : Nat) (J : Nat → Act → World → Prop) (hf : findLabel c l = some (Code.skip.seq y))
    (pass : ∀ f a w, J f a w → y.wp P (Exit.jump l (fun a' w' => ∃ f', f' < f ∧ J f' a' w') Q) a w)
    (first : (∀ f a w, J f a w → y.wp P (Exit.jump l (fun a w => ∃ f, J f a w) Q) a w) → c.wp P (Exit.jump l (fun a w => ∃ f, J f a w) Q) a w) : (Code.scope c).wp P Q a w :=
  wp_scope_jumps l (fun a w => ∃ f, J f a w) (fun a w => leastP (fun f => J f a w)) hf
    (first fun f a w h => Code.wp_mono (jump_weakN fun _ _ h => ⟨h.choose, h.choose_spec.2⟩) (pass f a w h))
    (fun a w h => wp_seq (wp_skip (Code.wp_mono (jump_weakN fun _ _ h' => ⟨⟨h'.choose, h'.choose_spec.2⟩, Nat.lt_of_le_of_lt ((leastP_is ⟨h'.choose, h'.choose_spec.2⟩).2 _ h'.choose_spec.2) h'.choose_spec.1⟩) (pass _ a w (leastP_is h).1))))

/-- What stands at the label. -/
def goJ (w : World) (H : Nat → Prop) (rb : Nat) (nm : ByteArray) (a : Option Addr) (c : Nat) (ns : List Nd) (goal : Rn) (f : Nat) (a' : Act) (w' : World) : Prop :=
  ∃ (r : Rn) (m : Nat) (u : Nat → Value), a' = { tmps := #[.pointer (some ⟨rb, 0, none⟩), u 1, u 2, u 3, u 4, u 5, u 6, u 7, u 8, u 9, u 10, u 11, u 12, u 13, u 14, u 15, u 16, u 17, u 18, u 19, u 20, u 21, u 22, u 23, u 24, u 25, u 26, u 27, u 28, u 29, u 30, u 31, u 32, u 33, u 34, u 35, u 36, u 37, u 38, u 39, u 40, u 41, u 42, u 43, u 44, u 45, u 46, u 47, u 48, u 49, u 50, u 51, u 52, u 53, u 54, u 55], defers := [] } ∧
    RGoes w H rb nm a ns.length c r w' ∧ Fit r m ∧ restC r.st.nodes < f ∧ m + f * (ns.length * (ns.length + 3)) + ns.length + 3 ≤ 999999 ∧ goP nm ns f r = goal

theorem goJ_of {w w' : World} {H : Nat → Prop} {rb : Nat} {nm : ByteArray} {a : Option Addr} {c : Nat} {ns : List Nd} {goal : Rn} {f m : Nat} {a' : Act} {r : Rn}
    (h : a' = { tmps := #[.pointer (some ⟨rb, 0, none⟩), a'.tmps.getD 1 undef, a'.tmps.getD 2 undef, a'.tmps.getD 3 undef, a'.tmps.getD 4 undef, a'.tmps.getD 5 undef, a'.tmps.getD 6 undef, a'.tmps.getD 7 undef, a'.tmps.getD 8 undef, a'.tmps.getD 9 undef, a'.tmps.getD 10 undef, a'.tmps.getD 11 undef, a'.tmps.getD 12 undef, a'.tmps.getD 13 undef, a'.tmps.getD 14 undef, a'.tmps.getD 15 undef, a'.tmps.getD 16 undef, a'.tmps.getD 17 undef, a'.tmps.getD 18 undef, a'.tmps.getD 19 undef, a'.tmps.getD 20 undef, a'.tmps.getD 21 undef, a'.tmps.getD 22 undef, a'.tmps.getD 23 undef, a'.tmps.getD 24 undef, a'.tmps.getD 25 undef, a'.tmps.getD 26 undef, a'.tmps.getD 27 undef, a'.tmps.getD 28 undef, a'.tmps.getD 29 undef, a'.tmps.getD 30 undef, a'.tmps.getD 31 undef, a'.tmps.getD 32 undef, a'.tmps.getD 33 undef, a'.tmps.getD 34 undef, a'.tmps.getD 35 undef, a'.tmps.getD 36 undef, a'.tmps.getD 37 undef, a'.tmps.getD 38 undef, a'.tmps.getD 39 undef, a'.tmps.getD 40 undef, a'.tmps.getD 41 undef, a'.tmps.getD 42 undef, a'.tmps.getD 43 undef, a'.tmps.getD 44 undef, a'.tmps.getD 45 undef, a'.tmps.getD 46 undef, a'.tmps.getD 47 undef, a'.tmps.getD 48 undef, a'.tmps.getD 49 undef, a'.tmps.getD 50 undef, a'.tmps.getD 51 undef, a'.tmps.getD 52 undef, a'.tmps.getD 53 undef, a'.tmps.getD 54 undef, a'.tmps.getD 55 undef], defers := [] })
    (X : RGoes w H rb nm a ns.length c r w') (F : Fit r m) (hr : restC r.st.nodes < f) (hm : m + f * (ns.length * (ns.length + 3)) + ns.length + 3 ≤ 999999) (hg : goP nm ns f r = goal) : goJ w H rb nm a c ns goal f a' w' :=
  ⟨r, m, fun i => a'.tmps.getD i undef, h, X, F, hr, hm, hg⟩

theorem nats_at {w : World} {B n : Nat} {a : Option Addr} {c : Nat} {L : List Nat} (h : w.ownsRow B 3 1 (.slice a n c) n (natsV L)) (hl : L.length = n) {k : Nat} (hk : k < n) : ∃ g, a = some ⟨g, 0, none⟩ ∧ w.cell? ⟨g, k, none⟩ = some (.int .i64 ((L[k]'(by omega) : Nat) : Int)) := by
  obtain ⟨g, cg, hv, _, _, hrow⟩ := row_at h (by omega)
  obtain ⟨rfl, rfl⟩ : a = some ⟨g, 0, none⟩ ∧ c = cg := by simpa using hv
  exact ⟨g, rfl, (hrow k _ (by simp [natsV, hl, hk])).1⟩

set_option maxRecDepth 100000 in
set_option maxHeartbeats 8000000 in
theorem goOn_any {w0 w : World} {H : Nat → Prop} {rb : Nat} {nm : ByteArray} {a : Option Addr} {c : Nat} {ns : List Nd} {r : Rn} {m : Nat} (E : Env w0 w H a ns) (R : RAt w H rb nm a ns.length c r) (F : Fit r m) (hn : ns.length ≤ 999999) (f : Nat) (hf : restC r.st.nodes < f) (hm : m + f * (ns.length * (ns.length + 3)) + ns.length + 3 ≤ 999999) :
    Calls Tryd.prog 74 #[.pointer (some ⟨rb, 0, none⟩)] w fun e w' => e = .returned (.tuple #[]) ∧ RGoes w H rb nm a ns.length c (goP nm ns f r) w' := by
  have X0 := hid (RGoes.keep R (Kept.refl (fun _ => False) w))
  have HE := hid E
  have HF := hid F
  obtain ⟨goal, hgoal⟩ : ∃ goal, goP nm ns f r = goal := ⟨_, rfl⟩
  rw [hgoal]
  have Hg := hid hgoal
  clear E R F hgoal
  go_enter Tryd.func74, Tryd.ntmps74
  refine wp_scope_fuel 0 (goJ w H rb nm a c ns goal) rfl ?_ ?_
  rotate_left
  · intro pass
    go_wp2_with fail
    go_step3
    refine (‹∀ (a : Act) (w : World), Code.wp _ _ _ a w → _›) _ _ ?_
    exact pass f _ _ (goJ_of rfl X0.out HF.out hf hm Hg.out)
  · clear X0 HF Hg hf hm
    rintro f1 a' w1 ⟨r1, m1, u, rfl, X1, F1, hr1, hm1, hg1⟩
    obtain ⟨H1, E1, R1, hH1, K1⟩ := HE.out.goes X1
    obtain ⟨f2, rfl⟩ : ∃ f2, f1 = f2 + 1 := ⟨f1 - 1, by omega⟩
    obtain ⟨v6, v7, v12, v13, hb, hn6, hn7, hHr, _, htop⟩ := R1.opened
    obtain ⟨x0, x1, _⟩ := runCells hb
    have hnl := E1.here.1
    have hlen := F1.nodes
    have hO := fun V (KV : Kept (fun _ => False) w1.drew V) => (over_any V H1 rb nm a ns.length c r1 (R1.new ((Kept.drew (fun _ => False) w1).and KV)) hlen).mono (fun e w' h => (by obtain ⟨g, h1, h2, _, h4⟩ := h; exact ⟨g, h1, h2, h4⟩ : ∃ g, e = .returned (.slice (some ⟨g, 0, none⟩) r1.st.nodes.length r1.st.nodes.length) ∧ CellsAt w' (some ⟨g, 0, none⟩) ((overL r1.st.nodes).map Value.bool) ∧ Kept (fun _ => False) V w'))
    have hB := fun V (KV : Kept (fun _ => False) w1.drew V) => (begun_any V H1 rb nm a ns.length c r1 (R1.new ((Kept.drew (fun _ => False) w1).and KV)) (by omega) (by omega)).mono (fun e w' h => (by obtain ⟨g, h1, h2, _, h4⟩ := h; exact ⟨g, h1, h2, h4⟩ : ∃ g, e = .returned (.slice (some ⟨g, 0, none⟩) ns.length ns.length) ∧ CellsAt w' (some ⟨g, 0, none⟩) ((begunL r1.st.nodes ns.length).map Value.bool) ∧ Kept (fun _ => False) V w'))
    have hR := fun V g1 g2 (KV : Kept (fun _ => False) w1.drew V) (C1 : CellsAt V (some ⟨g1, 0, none⟩) ((overL r1.st.nodes).map Value.bool)) (C2 : CellsAt V (some ⟨g2, 0, none⟩) ((begunL r1.st.nodes ns.length).map Value.bool)) => (ready_any V nm a ns.length c ns (keptNew ((Kept.drew (fun _ => False) w1).and KV) hnl) rfl (by omega) (some ⟨g1, 0, none⟩) (some ⟨g2, 0, none⟩) r1.st.nodes.length ns.length (overL r1.st.nodes) (begunL r1.st.nodes ns.length) (by simp [overL]; omega) (by simp [begunL]; omega) C1 C2).mono (fun e w' h => (by
        obtain ⟨av, cv, h1, h2, h3⟩ := h
        exact ⟨av, cv, h1, ownsRow_low h2 ((Kept.drew (fun _ => False) w1).and KV).size, h3⟩ : ∃ av cv, e = .returned (.slice av (goReady ns r1).length cv) ∧ (w'.ownsRow w1.heap.size 3 1 (.slice av (goReady ns r1).length cv) (goReady ns r1).length (natsV (goReady ns r1))) ∧ Kept (fun _ => False) V w'))
    rw [show (overL r1.st.nodes).length = r1.st.nodes.length by simp [overL], show (begunL r1.st.nodes ns.length).length = ns.length by simp [begunL]] at hR
    have HE1 := hid E1
    have HR1 := hid R1
    have HF1 := hid F1
    have HN := hid hnl
    have Ht := hid htop
    have HX : Hid ((∀ g, H1 g → H g ∨ w.heap.size ≤ g) ∧ Kept H w w1) := ⟨hH1, K1⟩
    have Hg1 := hid hg1
    have hrl : (goReady ns r1).length ≤ ns.length := rdyL_len _ _ _ _
    have HRi : Hid (∀ i ∈ goReady ns r1, i < ns.length ∧ ∃ y, r1.st.nodes[i]? = some y ∧ y.status = 0) := fun i hi => goReady_idle hi
    clear hb hn6 hn7 htop X1 E1 R1 F1 hnl hH1 K1 hg1
    go_upto_region 0 with fail
    refine wp_onlyN (go0 (P := fun V v => V.ownsRow w1.heap.size 3 1 v (goReady ns r1).length (natsV (goReady ns r1))) _ x0 x1 hO hB hR ?_)
    intro _ _ _ _ _ _ _ _ av cv w9 P9 K9
    have HP := hid P9
    have HK9 := hid K9
    have HE9 := hid (HE1.out.new K9)
    have HR9 := hid (HR1.out.new K9)
    obtain ⟨L, hL⟩ : ∃ L, goReady ns r1 = L := ⟨_, rfl⟩
    rw [hL] at HP hrl HRi
    have Hgr : Hid (goP nm ns (f2 + 1) r1 = match goRow nm ns r1 L with
        | (r1, .stop) => r1
        | (r1, .again) => goP nm ns f2 r1
        | (r1, .through) => if restC r1.st.nodes = 0 then endP nm ns r1 2 (lastP r1.st.nodes) else r1) := by rw [← hL]; rfl
    have HL := hid hL
    clear x0 x1 hO hB hR P9 K9
    rw [hL]
    clear hL
    go_wp2_with fail
    go_loopw [14] (fun v wr => ∃ (k : Nat) (r2 : Rn), k ≤ L.length ∧ v = .int .i64 k ∧ RGoes w9 H1 rb nm a ns.length c r2 wr ∧ Fit r2 (m1 + k * (ns.length + 3)) ∧ Grow r1.st r2.st ∧ goRow nm ns r1 L = goRow nm ns r2 (L.drop k)) (fun v _ => L.length - (intOf v).toNat)
    case atStart => exact ⟨0, r1, Nat.zero_le _, rfl, RGoes.keep HR9.out (Kept.refl _ _), by simpa using HF1.out, Grow.refl _, by simp⟩
    case round =>
      obtain ⟨k, r2, hk, rfl, X2, F2, G2, hrow⟩ := hrel
      obtain ⟨H2, E2, R2, hH2, K2⟩ := HE9.out.goes X2
      have hA : k * (ns.length + 3) ≤ ns.length * (ns.length + 3) := Nat.mul_le_mul_right _ (by omega)
      have hfA : (f2 + 1) * (ns.length * (ns.length + 3)) = f2 * (ns.length * (ns.length + 3)) + ns.length * (ns.length + 3) := by rw [Nat.add_mul, Nat.one_mul]
      have hback : ∀ (r3 : Rn) (w3 : World), RGoes wr H2 rb nm a ns.length c r3 w3 → RGoes w H rb nm a ns.length c r3 w3 := fun r3 w3 X3 => ((X3.trans hH2 K2).first HK9.out).trans HX.out.1 HX.out.2
      have HB := hid hback
      have HXX : Hid ((∀ g, H2 g → H1 g ∨ w9.heap.size ≤ g) ∧ Kept H1 w9 wr) := ⟨hH2, K2⟩
      clear hback X2
      by_cases hlt : k < L.length
      · obtain ⟨hin, y, hy, hy0⟩ := HRi.out _ (List.getElem_mem hlt)
        have hi6 : L[k] < r2.st.nodes.length := by rw [G2.len]; exact (List.getElem?_eq_some_iff.1 hy).1
        have P2 : wr.ownsRow w1.heap.size 3 1 (.slice av L.length cv) L.length (natsV L) := ownsRow_keep HP.out (fun g hg => K2.block g (ownsRow_blk HP.out hg) (fun h => absurd (Ht.out g h) (Nat.not_lt.2 ((HP.out.lt g hg).1))))
        obtain ⟨gL, haL, cL⟩ := nats_at P2 rfl hlt
        subst haL
        obtain ⟨b, o, av', cv', hae, hT, c0, c1, c2, c3, c4, c5, c6⟩ := E2.here.1.at hin
        subst hae
        obtain ⟨v6, v7, v12, v13, hb, hn6, hn7, hHr2, _, htop2⟩ := R2.opened
        obtain ⟨_, x1, _⟩ := runCells hb
        have hBg := begin_any E2 R2 F2 (by omega) hn ns[L[k]] (HE.out.names _ (List.getElem_mem hin)) av' cv'
        have hdrop : L.drop k = L[k] :: L.drop (k + 1) := List.drop_eq_getElem_cons hlt
        have hget : ns[L[k]]? = some ns[L[k]] := List.getElem?_eq_getElem hin
        have G3 : Grow r2.st (beginP nm ns r2 ns[L[k]]).st := beginP_grow
        have F3 := beginP_fit (nm := nm) (ns := ns) F2 (by omega) ns[L[k]]
        have hi3 : L[k] < (beginP nm ns r2 ns[L[k]]).st.nodes.length := by rw [G3.len]; exact hi6
        have e0 : (k : Int) < (L.length : Int) := by omega
        have hA1 : (k + 1) * (ns.length + 3) ≤ ns.length * (ns.length + 3) := Nat.mul_le_mul_right _ (by omega)
        have hA2 : (k + 1) * (ns.length + 3) = k * (ns.length + 3) + (ns.length + 3) := by rw [Nat.add_mul, Nat.one_mul]
        have e1 : ((L[k] : Nat) : Int) < (ns.length : Int) := by omega
        have hcr : goRow nm ns r2 (L.drop k) = if (beginP nm ns r2 ns[L[k]]).st.status ≠ 1 then (beginP nm ns r2 ns[L[k]], .stop) else if ((beginP nm ns r2 ns[L[k]]).st.nodes[L[k]]?.map (fun y => y.status)) = some 3 then (beginP nm ns r2 ns[L[k]], .again) else goRow nm ns (beginP nm ns r2 ns[L[k]]) (L.drop (k + 1)) := by
          rw [hdrop]
          conv => lhs; unfold goRow
          rw [hget]
        rw [← hrow] at hcr
        have G13 := G2.trans G3
        obtain ⟨r3, hr3⟩ : ∃ r3, beginP nm ns r2 ns[L[k]] = r3 := ⟨_, rfl⟩
        rw [hr3] at hBg G3 F3 hi3 hcr G13
        have HcR := hid hcr
        have HF3 := hid F3
        have HG13 := hid G13
        have Hless : Hid (∀ r', goRow nm ns r1 L = (r', .again) → restC r'.st.nodes < restC r1.st.nodes) := fun r' h => goRow_less (by rw [HL.out]; exact h)
        clear hr3 hcr F3 G3 G13 hrow hdrop hget hT hb hn6 hn7 P2 E2 R2 F2 G2 hy hy0 hH2 K2 htop2
        have hstat : (r3.st.status != 1) = true ∨ (r3.st.status != 1) = false := by cases (r3.st.status != 1) <;> simp
        rcases hstat with hs | hs
        · have hs' : r3.st.status ≠ 1 := by simpa using hs
          have hres : goal = r3 := by
            rw [← Hg1.out, Hgr.out, HcR.out, if_pos hs']
          subst hres
          go_wp2_with (first
            | (go_at_call 94; refine hBg.mono ?_; rintro e w3 ⟨rfl, X3⟩; clear hBg; have HX3 := hid (HB.out _ _ X3); obtain ⟨⟨H3, R3, hH3⟩, K3⟩ := X3; obtain ⟨v6', v7', v12', v13', hb3, hn63, _, _, _, _⟩ := R3.opened; obtain ⟨_, _, _, _, _, _, y6, _, y8, _⟩ := runCells hb3; clear R3 hb3 hn63 hH3 K3)
            | fail)
          simp only [Exit.jump]
          refine bodyPost_ret (results_none rfl _ _ _) rfl ?_
          exact ⟨rfl, HX3.out⟩
        · have hs' : ¬ r3.st.status ≠ 1 := by simpa using hs
          have hst2 : (r3.st.nodes[L[k]].status == 3) = true ∨ (r3.st.nodes[L[k]].status == 3) = false := by cases (r3.st.nodes[L[k]].status == 3) <;> simp
          have e2 : ((L[k] : Nat) : Int) < (r3.st.nodes.length : Int) := by omega
          rcases hst2 with h3 | h3
          · have h3' : (r3.st.nodes[L[k]]?.map (fun y => y.status)) = some 3 := by rw [List.getElem?_eq_getElem hi3]; simpa using h3
            have hag : goRow nm ns r1 L = (r3, .again) := by rw [HcR.out, if_neg hs', if_pos h3']
            have hres : goP nm ns f2 r3 = goal := by rw [← Hg1.out, Hgr.out, hag]
            have hl3 := Hless.out r3 hag
            have Hres := hid hres
            have hidx : Hid (L[k] < r3.st.nodes.length) := hi3
            clear hres hag hs' h3'
            go_wp2_with (first
              | (go_at_call 94; refine hBg.mono ?_; rintro e w3 ⟨rfl, X3⟩; clear hBg; have HX3 := hid (HB.out _ _ X3); obtain ⟨⟨H3, R3, hH3⟩, K3⟩ := X3; obtain ⟨v6', v7', v12', v13', hb3, hn63, _, _, _, _⟩ := R3.opened; obtain ⟨_, _, _, _, _, _, y6, _, y8, _⟩ := runCells hb3; obtain ⟨g6, cg, hv, _, _, hrw⟩ := row_at hn63 (by omega); have q0 := (hrw _ _ (nsF_get hi3).1).1; subst hv; clear R3 hb3 hn63 hH3 K3 hrw)
              | fail)
            go_step3
            refine ⟨rfl, f2, Nat.lt_succ_self _, goJ_of ?_ HX3.out HF3.out (by omega) ?_ Hres.out⟩
            · simp
            · omega
          · have h3' : ¬ (r3.st.nodes[L[k]]?.map (fun y => y.status)) = some 3 := by rw [List.getElem?_eq_getElem hi3]; simpa using h3
            have hnx : goRow nm ns r1 L = goRow nm ns r3 (L.drop (k + 1)) := by rw [HcR.out, if_neg hs', if_neg h3']
            have Hnx := hid hnx
            clear hnx hs' h3'
            go_wp2_with (first
              | (go_at_call 94; refine hBg.mono ?_; rintro e w3 ⟨rfl, X3⟩; clear hBg; have HX3 := hid (X3.trans HXX.out.1 HXX.out.2); obtain ⟨⟨H3, R3, hH3⟩, K3⟩ := X3; obtain ⟨v6', v7', v12', v13', hb3, hn63, _, _, _, _⟩ := R3.opened; obtain ⟨_, _, _, _, _, _, y6, _, y8, _⟩ := runCells hb3; obtain ⟨g6, cg, hv, _, _, hrw⟩ := row_at hn63 (by omega); have q0 := (hrw _ _ (nsF_get hi3).1).1; subst hv; clear R3 hb3 hn63 hH3 K3 hrw)
              | fail)
            go_roundw
            case rel => exact ⟨k + 1, r3, by omega, by go_num, HX3.out, HF3.out.mono (by rw [Nat.add_mul, Nat.one_mul]; omega), HG13.out, Hnx.out⟩
            case measure => simp [intOf]; omega
      · obtain rfl : k = L.length := by omega
        rw [List.drop_length] at hrow
        have hth : goRow nm ns r1 L = (r2, .through) := by rw [hrow]; rfl
        have hres : (if restC r2.st.nodes = 0 then endP nm ns r2 2 (lastP r2.st.nodes) else r2) = goal := by rw [← Hg1.out, Hgr.out, hth]
        have Hres := hid hres
        have e0 : ¬ ((L.length : Int) < (L.length : Int)) := by omega
        obtain ⟨v6, v7, v12, v13, hb, hn6, hn7, _, _, _⟩ := R2.opened
        obtain ⟨_, _, y2, y3, y4, y5, y6, y7, y8, y9, y10, _⟩ := runCells hb
        have hC := count_any wr r2.st v6 v7 ⟨flat_of_owns hn6, flat_of_owns hn7, F2.nodes, by have := F2.sigs; omega⟩
        have HR2 := hid R2
        have HE2 := hid E2
        have HF2 := hid F2
        clear hres hth hrow hb hn6 hn7 R2 E2 F2 G2 hH2 K2
        by_cases hz : restC r2.st.nodes = 0
        · have hq : ∀ y, IsF y (restC r2.st.nodes : Nat) → (FloatKind.f64.format.order y 0 == some .eq) = true := fun y h => by rw [isF_eq h isF_zero]; simp [hz]
          have Hq := hid hq
          have hlt := fun V (KV : Kept (fun _ => False) wr V) => lastText_any V H2 rb nm a ns.length c r2 (HR2.out.new KV) HF2.out.nodes
          have hEn := fun V (KV : Kept (fun _ => False) wr V) => end_any (HE2.out.new KV) (HR2.out.new KV) HF2.out (by omega) hn 2 (lastP r2.st.nodes)
          rw [if_pos hz] at Hres
          clear hq hz
          change ∀ V, Kept (fun _ => False) wr V → Calls Tryd.prog _ _ V (fun e w' => e = .returned (.string (lastP r2.st.nodes)) ∧ w' = V) at hlt
          go_wp2_with (first
            | (go_at_call 25; refine hC.mono ?_; rintro e w3 ⟨⟨x, y, rfl, hx, hyf⟩, K3⟩; clear hC; have hqq := Hq.out y hyf; have hlt3 := hlt w3 K3; have hEn3 := hEn w3 K3; clear hx hyf)
            | (go_at_call 95; refine hlt3.mono ?_; rintro e w4 ⟨rfl, hw4⟩; subst w4; clear hlt3)
            | (go_at_call 81; refine hEn3.mono ?_; rintro e w5 ⟨rfl, X5⟩; clear hEn3)
            | fail)
          simp only [Exit.jump]
          go_end0
          refine ⟨rfl, ?_⟩
          rw [← Hres.out]
          exact HB.out _ _ (X5.first K3)
        · have hq : ∀ y, IsF y (restC r2.st.nodes : Nat) → (FloatKind.f64.format.order y 0 == some .eq) = false := fun y h => by rw [isF_eq h isF_zero]; simp; omega
          have Hq := hid hq
          rw [if_neg hz] at Hres
          clear hq hz
          go_wp2_with (first
            | (go_at_call 25; refine hC.mono ?_; rintro e w3 ⟨⟨x, y, rfl, hx, hyf⟩, K3⟩; clear hC; have hqq := Hq.out y hyf; clear hx hyf)
            | fail)
          simp only [Exit.jump]
          go_end0
          refine ⟨rfl, ?_⟩
          rw [← Hres.out]
          exact HB.out _ _ (RGoes.keep HR2.out K3)

end Go.Proofs.YtfjekjbkifmpfaaDoor

/-
  How the document lets a node begin and closes a workflow, as data: it is what the program does, where the node is idle.
-/
namespace Go.Proofs.YtfjekjbkifmpfaaDoor
open Go.RowKit

/-- An event happens; a task comes to be. -/
def evR (nm : ByteArray) (ns : List Nd) (r : Rn) (e : Ev) : Rn := { r with st := (applyR nm ns r.st e).getD r.st, evs := r.evs ++ [e] }
def taskR (r : Rn) (t : Tk) : Rn := { r with tks := r.tks ++ [flowT r.st.id t] }
def mailR (r : Rn) (m : Ml) : Rn := taskR r (msgP r.st.id m)

def closedR (nm : ByteArray) (ns : List Nd) (r : Rn) (st : Int) (tx : ByteArray) : Rn :=
  { evR nm ns r ⟨15, ⟨#[]⟩, tx, st⟩ with tks := r.tks ++ (mailsP ns (evR nm ns r ⟨15, ⟨#[]⟩, tx, st⟩).st st tx).map (flowT (evR nm ns r ⟨15, ⟨#[]⟩, tx, st⟩).st.id) }

def beginR (nm : ByteArray) (ns : List Nd) (r : Rn) (x : Nd) : Rn :=
  if x.kind = 1 then taskR (evR nm ns r ⟨2, x.name, ⟨#[]⟩, 0⟩) ⟨1, ⟨#[]⟩, x.name, 1, 0, zeroMl⟩
  else if x.kind = 2 then taskR (evR nm ns r ⟨7, x.name, ⟨#[]⟩, IntKind.i64.wrap (r.now + x.delay)⟩) ⟨2, ⟨#[]⟩, x.name, 0, IntKind.i64.wrap (r.now + x.delay), zeroMl⟩
  else if x.kind = 3 then (if 256 < (childP r.st.id x.name).size then closedR nm ns (evR nm ns r ⟨6, x.name, longB, 0⟩) 3 longB
    else mailR (evR nm ns r ⟨9, x.name, ⟨#[]⟩, 0⟩) ⟨1, childP r.st.id x.name, ⟨#[]⟩, x.name, x.arg, ⟨#[]⟩, 0⟩)
  else if x.kind = 4 then (match keptP r.st.sigs x.arg with
    | some k => evR nm ns r ⟨12, x.name, ((r.st.sigs[k]?).map (fun s => s.text)).getD ⟨#[]⟩, 1⟩
    | none => evR nm ns r ⟨11, x.name, ⟨#[]⟩, 0⟩)
  else mailR (evR nm ns r ⟨14, x.name, ⟨#[]⟩, 0⟩) ⟨3, x.«to», ⟨#[]⟩, x.name, x.arg, ⟨#[]⟩, 0⟩

section
variable {nm : ByteArray} {ns : List Nd} {r : Rn} {s : St} {e : Ev}

theorem ev_tell0 (hB : Bare r.st) {t : St} (h : changeP nm ns r.st e = some t) : evR nm ns r e = tellP nm ns r e [] := by
  unfold evR tellP
  rw [apply_same hB, h]
  simp

theorem ev_tell1 (hB : Bare r.st) {t : St} (h : changeP nm ns r.st e = some t) (k : Tk) : taskR (evR nm ns r e) k = tellP nm ns r e [k] := by
  unfold taskR evR tellP
  rw [apply_same hB, h]
  rfl

theorem ev_mail (hB : Bare r.st) {t : St} (h : changeP nm ns r.st e = some t) (he : e.kind ≠ 1) (m : Ml) : mailR (evR nm ns r e) m = tellP nm ns r e [msgP r.st.id m] := by
  have hid : (evR nm ns r e).st.id = r.st.id := by
    unfold evR
    rw [apply_same hB, h]
    exact (changeP_grow h he).id
  unfold mailR
  rw [hid]
  exact ev_tell1 hB h _

theorem changeP_close (hs : s.status = 1) (st : Int) (tx : ByteArray) (hst : st = 2 ∨ st = 3 ∨ st = 4) : changeP nm ns s ⟨15, ⟨#[]⟩, tx, st⟩ = some { s with status := st, text := tx, events := s.events + 1 } := by
  unfold changeP
  simp [hs, hst]

theorem closed_same (hB : Bare r.st) (hs : r.st.status = 1) {st : Int} {tx : ByteArray} (hst : st = 2 ∨ st = 3 ∨ st = 4) : closedR nm ns r st tx = endP nm ns r st tx := by
  have hc := changeP_close (nm := nm) (ns := ns) hs st tx hst
  unfold closedR endP tellP evR
  rw [apply_same hB, hc]
  rfl

theorem changeP_fit1 (hs : s.status = 1) {i : Nat} {n : Nd} {y : Ns} {m : Mv} (hf : findP ns e.node = some i) (hn : ns[i]? = some n) (hy : s.nodes[i]? = some y) (hm : moveP e.kind n.kind y.status = some m) (h1 : e.kind ≠ 1) (h12 : e.kind ≠ 12) (h13 : e.kind ≠ 13) (h15 : e.kind ≠ 15) :
    changeP nm ns s e = some { s with nodes := setNode s.nodes i m e, events := s.events + 1 } := by
  have hc : changeNodeP ns s e = some { s with nodes := setNode s.nodes i m e } := by
    unfold changeNodeP
    rw [hf]
    dsimp only
    have hmv : nodeMove ns s e i = some m := by unfold nodeMove; rw [hn, hy]; exact hm
    rw [hmv]
    dsimp only
    rw [if_neg h12]
  unfold changeP
  rw [if_neg (c := s.status ≠ (if e.kind = 1 then 0 else 1)) (by rw [if_neg h1]; simp [hs]), if_neg h1, if_neg h13, if_neg h15, hc]
  rfl

theorem changeP_fit12 (hs : s.status = 1) {i k : Nat} {n : Nd} {y : Ns} (he : e.kind = 12) (hf : findP ns e.node = some i) (hn : ns[i]? = some n) (hk : n.kind = 4) (hy : s.nodes[i]? = some y) (hy0 : y.status = 0) (hz : e.num = 1) (hp : keptP s.sigs n.arg = some k) :
    changeP nm ns s e = some { s with nodes := setNode s.nodes i ⟨12, 4, 0, 3, true⟩ e, sigs := s.sigs.eraseIdx k, events := s.events + 1 } := by
  have hc : changeNodeP ns s e = some { s with nodes := setNode s.nodes i ⟨12, 4, 0, 3, true⟩ e, sigs := s.sigs.eraseIdx k } := by
    unfold changeNodeP
    rw [hf]
    dsimp only
    have hmv : nodeMove ns s e i = some ⟨12, 4, 0, 3, true⟩ := by unfold nodeMove; rw [hn, hy]; dsimp only; rw [he, hk, hy0]; rfl
    rw [hmv]
    dsimp only
    rw [if_pos he]
    have hr : receiveP s.sigs (argAt ns i) 0 e.num = some (s.sigs.eraseIdx k) := by
      unfold receiveP argAt
      rw [hn, if_neg (c := (0 : Int) = 2) (by decide)]
      dsimp only
      rw [hp]
      dsimp only
      rw [if_pos hz]
    rw [hr]
  have h1 : e.kind ≠ 1 := by rw [he]; decide
  unfold changeP
  rw [if_neg (c := s.status ≠ (if e.kind = 1 then 0 else 1)) (by rw [if_neg h1]; simp [hs]), if_neg h1, if_neg (c := e.kind = 13) (by rw [he]; decide), if_neg (c := e.kind = 15) (by rw [he]; decide), hc]
  rfl

theorem setNode_bare {l : List Ns} {i : Nat} {m : Mv} {e : Ev} {s : St} (hB : Bare s) (hl : s.nodes = l) (hm : m.txt = true → m.dst = 3 ∨ m.dst = 4) (hxt : ∀ x, s.nodes[i]? = some x → x.text = ⟨#[]⟩) : ∀ y ∈ setNode l i m e, y.status = 0 ∨ y.status = 1 ∨ y.status = 2 → y.text = ⟨#[]⟩ := by
  subst hl
  intro y hy h
  unfold setNode at hy
  obtain ⟨j, hj⟩ := List.mem_iff_getElem?.1 hy
  rw [List.getElem?_modify] at hj
  by_cases hij : i = j
  · subst hij
    cases hx : s.nodes[i]? with
    | none => rw [hx] at hj; simp at hj
    | some x =>
      rw [hx] at hj
      simp at hj
      subst hj
      dsimp only at h ⊢
      cases ht : m.txt with
      | true => have := hm ht; omega
      | false => simpa [ht] using hxt x hx
  · simp [hij] at hj
    exact hB y (List.mem_of_getElem? hj) h

theorem begin_same (hB : Bare r.st) (hs : r.st.status = 1) {i : Nat} {x : Nd} {y : Ns} (hf : findP ns x.name = some i) (hx : ns[i]? = some x) (hy : r.st.nodes[i]? = some y) (hy0 : y.status = 0) (hk0 : 1 ≤ x.kind) (hk1 : x.kind ≤ 5) : beginR nm ns r x = beginP nm ns r x := by
  unfold beginR beginP
  by_cases h1 : x.kind = 1
  · rw [if_pos h1, if_pos h1]
    exact ev_tell1 hB (changeP_fit1 (m := ⟨2, 1, 0, 1, false⟩) hs hf hx hy (by rw [h1, hy0]; rfl) (by simp) (by simp) (by simp) (by simp)) _
  rw [if_neg h1, if_neg h1]
  by_cases h2 : x.kind = 2
  · rw [if_pos h2, if_pos h2]
    exact ev_tell1 hB (changeP_fit1 (m := ⟨7, 2, 0, 2, false⟩) hs hf hx hy (by rw [h2, hy0]; rfl) (by simp) (by simp) (by simp) (by simp)) _
  rw [if_neg h2, if_neg h2]
  by_cases h3 : x.kind = 3
  · rw [if_pos h3, if_pos h3]
    unfold askP
    have hsz : (childP r.st.id x.name).size = r.st.id.size + 1 + x.name.size := by unfold childP; rw [ByteArray.size_append, ByteArray.size_append]; rfl
    rw [hsz]
    by_cases hl : 256 < r.st.id.size + 1 + x.name.size
    · rw [if_pos hl, if_pos hl]
      have hc := changeP_fit1 (nm := nm) (e := ⟨6, x.name, longB, 0⟩) (m := ⟨6, 3, 0, 4, true⟩) hs hf hx hy (by rw [h3, hy0]; rfl) (by simp) (by simp) (by simp) (by simp)
      rw [ev_tell0 hB hc]
      unfold breakP
      refine closed_same ?_ ?_ (.inr (.inl rfl))
      · unfold tellP
        rw [hc]
        exact fun z hz h => setNode_bare hB rfl (fun _ => .inr rfl) (fun w hw => by rw [hy] at hw; cases hw; exact hB y (List.mem_of_getElem? hy) (.inl hy0)) z hz h
      · unfold tellP
        rw [hc]
        exact hs
    · rw [if_neg hl, if_neg hl]
      exact ev_mail hB (changeP_fit1 (m := ⟨9, 3, 0, 2, false⟩) hs hf hx hy (by rw [h3, hy0]; rfl) (by simp) (by simp) (by simp) (by simp)) (by simp) _
  rw [if_neg h3, if_neg h3]
  by_cases h4 : x.kind = 4
  · rw [if_pos h4, if_pos h4]
    unfold waitP
    cases hk : keptP r.st.sigs x.arg with
    | none => exact ev_tell0 hB (changeP_fit1 (m := ⟨11, 4, 0, 2, false⟩) hs hf hx hy (by rw [h4, hy0]; rfl) (by simp) (by simp) (by simp) (by simp))
    | some k => exact ev_tell0 hB (changeP_fit12 hs rfl hf hx h4 hy hy0 rfl hk)
  rw [if_neg h4, if_neg h4, if_pos (show x.kind = 5 by omega)]
  exact ev_mail hB (changeP_fit1 (m := ⟨14, 5, 0, 3, false⟩) hs hf hx hy (by rw [show x.kind = 5 by omega, hy0]; rfl) (by simp) (by simp) (by simp) (by simp)) (by simp) _

end

end Go.Proofs.YtfjekjbkifmpfaaDoor

/-
  The document's Apply: what lies in memory while it runs.
-/
namespace Go.Proofs.YtfjekjbkifmpfaaDoor.Rf
open Go.RowKit

abbrev apD (nm : ByteArray) (a : Option Addr) (n c : Nat) : Obj := .cells #[.string nm, .slice a n c] 24 (0, 0)
abbrev apS (s : St) (v6 v7 : Value) : Obj := .cells (stA s v6 v7) 33 (0, 0)
abbrev apE (e : Ev) : Obj := .cells #[.int .i64 e.kind, .string e.node, .string e.text, .int .i64 e.num] 51 (0, 0)
abbrev apZ : Obj := .cells zero9 33 (0, 0)

theorem owns_base {w : World} {B B' T sz n : Nat} {v : Value} {xs : List Value} (h : w.ownsRow B T sz v n xs) (hb : ∀ g, v.ownBlock = some g → B' ≤ g) : w.ownsRow B' T sz v n xs := by
  refine ⟨h.1, ?_⟩
  rcases h.2 with h2 | ⟨g, cap, cur, hv, _, h3⟩
  · exact .inl h2
  · exact .inr ⟨g, cap, cur, hv, hb g (by rw [hv]; rfl), h3⟩

theorem setB {W : World} {b o : Nat} {cs : Array Value} {t : TypeId} {fz : Nat × Nat} (h : W.heap[b]? = some (.cells cs t fz)) (u : Value) : (W.setCell ⟨b, o, none⟩ u).heap[b]? = some (.cells (cs.setIfInBounds o u) t fz) := by
  simp [World.setCell, Array.getElem?_modify, h]

/-- Definition, state, event, result boxed; the copy that is changed in a block of its own. -/
structure ApIn (w V : World) (nm : ByteArray) (a : Option Addr) (n c : Nat) (s : St) (v6 v7 : Value) (e : Ev) (x : Nat) (t : St) (u6 u7 : Value) : Prop where
  d : V.heap[w.heap.size]? = some (apD nm a n c)
  st : V.heap[w.heap.size + 1]? = some (apS s v6 v7)
  ev : V.heap[w.heap.size + 1 + 1]? = some (apE e)
  re : V.heap[w.heap.size + 1 + 1 + 1]? = some apZ
  xs : StIn V (fun g => w.heap.size + 4 ≤ g ∧ g < V.heap.size) x 0 33 [] [] t u6 u7
  keep : Kept (fun _ => False) w V

theorem ap_boxes (w : World) (nm : ByteArray) (a : Option Addr) (n c : Nat) (s : St) (v6 v7 : Value) (e : Ev) :
    let W := (((w.alloc (apD nm a n c)).alloc (apS s v6 v7)).alloc (apE e)).alloc apZ
    W.heap[w.heap.size]? = some (apD nm a n c) ∧ W.heap[w.heap.size + 1]? = some (apS s v6 v7) ∧ W.heap[w.heap.size + 1 + 1]? = some (apE e) ∧ W.heap[w.heap.size + 1 + 1 + 1]? = some apZ ∧ W.heap.size = w.heap.size + 4 ∧ Kept (fun _ => False) w W := by
  intro W
  have z0 : (w.alloc (apD nm a n c)).heap.size = w.heap.size + 1 := World.size_alloc _ _
  have z1 : ((w.alloc (apD nm a n c)).alloc (apS s v6 v7)).heap.size = w.heap.size + 2 := by rw [World.size_alloc, z0]
  have z2 : (((w.alloc (apD nm a n c)).alloc (apS s v6 v7)).alloc (apE e)).heap.size = w.heap.size + 3 := by rw [World.size_alloc, z1]
  have h0 := heap_alloc_new w (apD nm a n c)
  have h1 := heap_alloc_new (w.alloc (apD nm a n c)) (apS s v6 v7)
  have h2 := heap_alloc_new ((w.alloc (apD nm a n c)).alloc (apS s v6 v7)) (apE e)
  have h3 := heap_alloc_new (((w.alloc (apD nm a n c)).alloc (apS s v6 v7)).alloc (apE e)) apZ
  rw [z0] at h1
  rw [z1] at h2
  rw [z2] at h3
  refine ⟨?_, ?_, ?_, h3, by show (World.alloc _ _).heap.size = _; rw [World.size_alloc, z2], (((Kept.alloc _ _ _).and (Kept.alloc _ _ _)).and (Kept.alloc _ _ _)).and (Kept.alloc _ _ _)⟩
  · rw [Below.heap_alloc _ _ _ (by rw [z2]; omega), Below.heap_alloc _ _ _ (by rw [z1]; omega), Below.heap_alloc _ _ _ (by rw [z0]; omega)]
    exact h0
  · rw [Below.heap_alloc _ _ _ (by rw [z2]; omega), Below.heap_alloc _ _ _ (by rw [z1]; omega)]
    exact h1
  · rw [Below.heap_alloc _ _ _ (by rw [z2]; omega)]
    exact h2

/-- What Apply answers: the state itself and a refusal, or another state. -/
def ApPost (w : World) (s : St) (v6 v7 : Value) (r : Option St) (e : Ending) (w' : World) : Prop :=
  match r with
  | none => e = .returned (.tuple #[.agg (stA s v6 v7), .int .i64 12]) ∧ Kept (fun _ => False) w w'
  | some t => ∃ u6 u7, e = .returned (.tuple #[.agg (stA t u6 u7), .int .i64 0]) ∧ StOwn w' w.heap.size t u6 u7 ∧ Kept (fun _ => False) w w'

section
variable {w V V' : World} {nm : ByteArray} {a : Option Addr} {n c : Nat} {s t : St} {v6 v7 u6 u7 : Value} {e : Ev} {x : Nat}

theorem ApIn.new (A : ApIn w V nm a n c s v6 v7 e x t u6 u7) (K : Kept (fun _ => False) V V') : ApIn w V' nm a n c s v6 v7 e x t u6 u7 := by
  have key : ∀ {k : Nat} {o : Obj}, V.heap[k]? = some o → V'.heap[k]? = some o := fun {k o} h => (K.block k (Array.getElem?_eq_some_iff.1 h).1 (fun h => h)).trans h
  have S := A.xs.new K
  exact ⟨key A.d, key A.st, key A.ev, key A.re, ⟨S.blk, S.off, S.nodes, S.sigs, ⟨S.inS.1, Nat.lt_of_lt_of_le S.inS.2 K.size⟩, fun g hg => ⟨⟨(S.in6 g hg).1.1, Nat.lt_of_lt_of_le (S.in6 g hg).1.2 K.size⟩, (S.in6 g hg).2⟩, fun g hg => ⟨⟨(S.in7 g hg).1.1, Nat.lt_of_lt_of_le (S.in7 g hg).1.2 K.size⟩, (S.in7 g hg).2⟩, fun g h => h.2⟩, A.keep.and K⟩

/-- The copy's own cells may change. -/
theorem ApIn.put (A : ApIn w V nm a n c s v6 v7 e x t u6 u7) (K : Kept (fun g => g = x) V V') {t' : St} (hb : V'.heap[x]? = some (.cells (stA t' u6 u7) 33 (0, 0))) (hn : t'.nodes = t.nodes) (hs : t'.sigs = t.sigs) : ApIn w V' nm a n c s v6 v7 e x t' u6 u7 := by
  have hx := A.xs.inS.1
  have key : ∀ {k : Nat} {o : Obj}, V.heap[k]? = some o → k ≠ x → V'.heap[k]? = some o := fun {k o} h hk => (K.block k (Array.getElem?_eq_some_iff.1 h).1 hk).trans h
  refine ⟨key A.d (by omega), key A.st (by omega), key A.ev (by omega), key A.re (by omega), ⟨hb, rfl, ?_, ?_, ⟨hx, Nat.lt_of_lt_of_le A.xs.inS.2 K.size⟩, fun g hg => ⟨⟨(A.xs.in6 g hg).1.1, Nat.lt_of_lt_of_le (A.xs.in6 g hg).1.2 K.size⟩, (A.xs.in6 g hg).2⟩, fun g hg => ⟨⟨(A.xs.in7 g hg).1.1, Nat.lt_of_lt_of_le (A.xs.in7 g hg).1.2 K.size⟩, (A.xs.in7 g hg).2⟩, fun g h => h.2⟩, A.keep.trans K (fun i hi => .inr (by subst hi; omega))⟩
  · rw [hn]
    exact ownsRow_keep A.xs.nodes (fun g hg => K.block g (ownsRow_blk A.xs.nodes hg) (A.xs.in6 g hg).2)
  · rw [hs]
    exact ownsRow_keep A.xs.sigs (fun g hg => K.block g (ownsRow_blk A.xs.sigs hg) (A.xs.in7 g hg).2)

/-- The nodes' row is another one. -/
theorem ApIn.row6 (A : ApIn w V nm a n c s v6 v7 e x t u6 u7) (K : Kept (fun g => g = x ∨ u6.ownBlock = some g) V V') {l : List Ns} {p6 : Value} (hb : V'.heap[x]? = some (.cells (stA { t with nodes := l } p6 u7) 33 (0, 0))) (h6 : V'.ownsRow 0 61 3 p6 l.length (nsF l)) (h6b : ∀ g, p6.ownBlock = some g → w.heap.size + 4 ≤ g ∧ g ≠ x) : ApIn w V' nm a n c s v6 v7 e x { t with nodes := l } p6 u7 := by
  have hx := A.xs.inS.1
  have hu : ∀ k, k < w.heap.size + 4 → ¬ (k = x ∨ u6.ownBlock = some k) := fun k hk h => h.elim (fun h => by omega) (fun h => by have := (A.xs.in6 k h).1.1; omega)
  have key : ∀ {k : Nat} {o : Obj}, V.heap[k]? = some o → k < w.heap.size + 4 → V'.heap[k]? = some o := fun {k o} h hk => (K.block k (Array.getElem?_eq_some_iff.1 h).1 (hu k hk)).trans h
  exact ⟨key A.d (by omega), key A.st (by omega), key A.ev (by omega), key A.re (by omega), ⟨hb, rfl, h6, ownsRow_keep A.xs.sigs (fun g hg => K.block g (ownsRow_blk A.xs.sigs hg) (fun h => h.elim (A.xs.in7 g hg).2 (fun h => rows_apart A.xs h hg))), ⟨hx, Nat.lt_of_lt_of_le A.xs.inS.2 K.size⟩, fun g hg => ⟨⟨(h6b g hg).1, ownsRow_blk h6 hg⟩, (h6b g hg).2⟩, fun g hg => ⟨⟨(A.xs.in7 g hg).1.1, Nat.lt_of_lt_of_le (A.xs.in7 g hg).1.2 K.size⟩, (A.xs.in7 g hg).2⟩, fun g h => h.2⟩, A.keep.trans K (fun i hi => .inr (hi.elim (fun h => by subst h; omega) (fun h => by have := (A.xs.in6 i h).1.1; omega)))⟩

/-- The signals' row is another one. -/
theorem ApIn.row7 (A : ApIn w V nm a n c s v6 v7 e x t u6 u7) (K : Kept (fun g => g = x ∨ u7.ownBlock = some g) V V') {l : List Sg} {p7 : Value} (hb : V'.heap[x]? = some (.cells (stA { t with sigs := l } u6 p7) 33 (0, 0))) (h7 : V'.ownsRow 0 88 2 p7 l.length (sgF l)) (h7b : ∀ g, p7.ownBlock = some g → w.heap.size + 4 ≤ g ∧ g ≠ x) : ApIn w V' nm a n c s v6 v7 e x { t with sigs := l } u6 p7 := by
  have hx := A.xs.inS.1
  have hu : ∀ k, k < w.heap.size + 4 → ¬ (k = x ∨ u7.ownBlock = some k) := fun k hk h => h.elim (fun h => by omega) (fun h => by have := (A.xs.in7 k h).1.1; omega)
  have key : ∀ {k : Nat} {o : Obj}, V.heap[k]? = some o → k < w.heap.size + 4 → V'.heap[k]? = some o := fun {k o} h hk => (K.block k (Array.getElem?_eq_some_iff.1 h).1 (hu k hk)).trans h
  exact ⟨key A.d (by omega), key A.st (by omega), key A.ev (by omega), key A.re (by omega), ⟨hb, rfl, ownsRow_keep A.xs.nodes (fun g hg => K.block g (ownsRow_blk A.xs.nodes hg) (fun h => h.elim (A.xs.in6 g hg).2 (fun h => rows_apart A.xs hg h))), h7, ⟨hx, Nat.lt_of_lt_of_le A.xs.inS.2 K.size⟩, fun g hg => ⟨⟨(A.xs.in6 g hg).1.1, Nat.lt_of_lt_of_le (A.xs.in6 g hg).1.2 K.size⟩, (A.xs.in6 g hg).2⟩, fun g hg => ⟨⟨(h7b g hg).1, ownsRow_blk h7 hg⟩, (h7b g hg).2⟩, fun g h => h.2⟩, A.keep.trans K (fun i hi => .inr (hi.elim (fun h => by subst h; omega) (fun h => by have := (A.xs.in7 i h).1.1; omega)))⟩

/-- What the switch leaves: how the node stands then, its text; of the copy the tries and the signals. -/
def SwPost (w : World) (nm : ByteArray) (a : Option Addr) (n c : Nat) (s : St) (v6 v7 : Value) (e : Ev) (x : Nat) (t : St) (u6 u7 : Value) (i : Nat) (r : Option (Int × ByteArray × List Sg)) (p13 p14 : Value) (W : World) : Prop :=
  match r with
  | none => p13 = .int .i64 (-1) ∧ ApIn w W nm a n c s v6 v7 e x t u6 u7
  | some p => p13 = .int .i64 p.1 ∧ p14 = .string p.2.1 ∧ ∃ q7, ApIn w W nm a n c s v6 v7 e x { t with nodes := t.nodes.modify i (fun y => ⟨y.status, if e.kind = 3 then e.num else y.tr, y.text⟩), sigs := p.2.2 } u6 q7


theorem modify_self {l : List Ns} {i : Nat} {f : Ns → Ns} (h : ∀ y, f y = y) : l.modify i f = l := by
  apply List.ext_getElem?
  intro j
  rw [List.getElem?_modify]
  cases l[j]? with
  | none => simp
  | some y => simp [h]

theorem SwPost.plain (A : ApIn w V nm a n c s v6 v7 e x t u6 u7) (h3 : e.kind ≠ 3) (i : Nat) (z : Int) (tx : ByteArray) : SwPost w nm a n c s v6 v7 e x t u6 u7 i (some (z, tx, t.sigs)) (.int .i64 z) (.string tx) V := by
  refine ⟨rfl, rfl, u7, ?_⟩
  have h : t.nodes.modify i (fun y => ⟨y.status, if e.kind = 3 then e.num else y.tr, y.text⟩) = t.nodes := modify_self fun y => by rw [if_neg h3]
  rw [h]
  exact A

theorem mod_set {l : List Ns} {i : Nat} (hi : i < l.length) (f : Ns → Int) (z : Int) (tx : ByteArray) (b : Bool) (h1 : i < (l.modify i (fun y => ⟨y.status, f y, y.text⟩)).length) :
    l.modify i (fun y => ⟨z, f y, if b = true then tx else y.text⟩) = (l.modify i (fun y => ⟨y.status, f y, y.text⟩)).set i ⟨z, ((l.modify i (fun y => ⟨y.status, f y, y.text⟩))[i]'h1).tr, if b = true then tx else ((l.modify i (fun y => ⟨y.status, f y, y.text⟩))[i]'h1).text⟩ := by
  apply List.ext_getElem?
  intro j
  rw [List.getElem?_modify, List.getElem?_set]
  by_cases h : i = j
  · subst h
    rw [if_pos rfl, if_pos h1, List.getElem?_eq_getElem hi, List.getElem_modify]
    simp
  · rw [if_neg h, List.getElem?_modify]
    simp [h]

theorem mod_is {l : List Ns} {i : Nat} (hi : i < l.length) (f : Ns → Ns) : l.modify i f = l.set i (f l[i]) := by
  apply List.ext_getElem?
  intro j
  rw [List.getElem?_modify, List.getElem?_set]
  by_cases h : i = j
  · subst h
    rw [if_pos rfl, if_pos hi, List.getElem?_eq_getElem hi]
    simp
  · rw [if_neg h]
    simp [h]

theorem nsF_try {l : List Ns} {i : Nat} (hi : i < l.length) (z q : Int) : nsF (l.set i ⟨z, q, (l[i]).text⟩) = ((nsF l).set (i * 3 + 1) (.int .i64 q)).set (i * 3) (.int .i64 z) := by
  obtain ⟨_, _, q2⟩ := nsF_get hi
  rw [nsF_set l i hi]
  rw [set_same (l := ((nsF l).set (i * 3) _).set (i * 3 + 1) _) (by rw [List.getElem?_set_ne (by omega), List.getElem?_set_ne (by omega)]; exact q2)]
  exact List.set_comm _ _ (by omega)

theorem nsF_stat {l : List Ns} {i : Nat} (hi : i < l.length) (z : Int) : nsF (l.set i ⟨z, (l[i]).tr, (l[i]).text⟩) = (nsF l).set (i * 3) (.int .i64 z) := by
  obtain ⟨_, q1, q2⟩ := nsF_get hi
  rw [nsF_set l i hi]
  rw [set_same (l := (nsF l).set (i * 3) _) (by rw [List.getElem?_set_ne (by omega)]; exact q1), set_same (by rw [List.getElem?_set_ne (by omega)]; exact q2)]

theorem nsF_stat_text {l : List Ns} {i : Nat} (hi : i < l.length) (z : Int) (tx : ByteArray) : nsF (l.set i ⟨z, (l[i]).tr, tx⟩) = ((nsF l).set (i * 3) (.int .i64 z)).set (i * 3 + 2) (.string tx) := by
  obtain ⟨_, q1, _⟩ := nsF_get hi
  rw [nsF_set l i hi]
  rw [set_same (l := (nsF l).set (i * 3) _) (by rw [List.getElem?_set_ne (by omega)]; exact q1)]

theorem if_some {α : Type} {q P : Prop} [Decidable q] {a b : Option α} {p : α} (h : (if q then a else b) = some p) (ha : a = some p → P) (hb : b = some p → P) : P := by
  by_cases hq : q
  · rw [if_pos hq] at h
    exact ha h
  · rw [if_neg hq] at h
    exact hb h

theorem moveR_range {sg : List Sg} {e : Ev} {n : Nd} {y : Ns} {p : Int × ByteArray × List Sg} (h : moveR sg e n y = some p) : 1 ≤ p.1 := by
  unfold moveR at h
  refine if_some h (fun h => by obtain rfl := Option.some.inj h; exact (by decide : (1 : Int) ≤ 1)) (fun h => ?_)
  refine if_some h (fun h => by obtain rfl := Option.some.inj h; exact (by decide : (1 : Int) ≤ 2)) (fun h => ?_)
  refine if_some h (fun h => by obtain rfl := Option.some.inj h; exact (by decide : (1 : Int) ≤ 1)) (fun h => ?_)
  refine if_some h (fun h => by obtain rfl := Option.some.inj h; exact (by decide : (1 : Int) ≤ 3)) (fun h => ?_)
  refine if_some h (fun h => by obtain rfl := Option.some.inj h; exact (by decide : (1 : Int) ≤ 4)) (fun h => ?_)
  refine if_some h (fun h => by obtain rfl := Option.some.inj h; exact (by decide : (1 : Int) ≤ 2)) (fun h => ?_)
  refine if_some h (fun h => by obtain rfl := Option.some.inj h; exact (by decide : (1 : Int) ≤ 3)) (fun h => ?_)
  refine if_some h (fun h => by obtain rfl := Option.some.inj h; exact (by decide : (1 : Int) ≤ 2)) (fun h => ?_)
  refine if_some h (fun h => by obtain rfl := Option.some.inj h; exact (by decide : (1 : Int) ≤ 3)) (fun h => ?_)
  refine if_some h (fun h => by obtain rfl := Option.some.inj h; exact (by decide : (1 : Int) ≤ 2)) (fun h => ?_)
  refine if_some h (fun h => by obtain rfl := Option.some.inj h; exact (by decide : (1 : Int) ≤ 3)) (fun h => ?_)
  refine if_some h (fun h => ?_) (fun h => ?_)
  · cases hk : keptP sg n.arg with
    | none => rw [hk] at h; cases h
    | some k =>
      rw [hk] at h
      obtain rfl := Option.some.inj h
      exact (by decide : (1 : Int) ≤ 3)
  · refine if_some h (fun h => by obtain rfl := Option.some.inj h; exact (by decide : (1 : Int) ≤ 3)) (fun h => by cases h)

/-- The copy, its rows one's own, behind a store into the result. -/
theorem ApIn.own (A : ApIn w V nm a n c s v6 v7 e x t u6 u7) (K : Kept (fun g => g = w.heap.size + 1 + 1 + 1) V V') : StOwn V' w.heap.size t u6 u7 ∧ Kept (fun _ => False) w V' := by
  have h6 : ∀ g, u6.ownBlock = some g → w.heap.size + 4 ≤ g := fun g hg => (A.xs.in6 g hg).1.1
  have h7 : ∀ g, u7.ownBlock = some g → w.heap.size + 4 ≤ g := fun g hg => (A.xs.in7 g hg).1.1
  refine ⟨⟨?_, ?_⟩, A.keep.trans K (fun i hi => .inr (by subst hi; omega))⟩
  · exact owns_base (ownsRow_keep A.xs.nodes (fun g hg => K.block g (ownsRow_blk A.xs.nodes hg) (by have := h6 g hg; omega))) (fun g hg => by have := h6 g hg; omega)
  · exact owns_base (ownsRow_keep A.xs.sigs (fun g hg => K.block g (ownsRow_blk A.xs.sigs hg) (by have := h7 g hg; omega))) (fun g hg => by have := h7 g hg; omega)

end

end Go.Proofs.YtfjekjbkifmpfaaDoor.Rf
