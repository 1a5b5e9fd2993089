/-
  HistoryTwins as data: two workflows to which the same happens stand alike, but for their names.
-/
import Derived.Test.YtdecceekodpjiaaDoorHM1
import Derived.Test.YtdecceekodpjiaaDoorHM6
import Derived.Test.YtdecceekodpjiaaDoorHM3
import Derived.Test.YtdecceekodpjiaaDoorHM5
import Derived.Test.YtdecceekodpjiaaDoorHCount
import Derived.Deep.Slices
import Derived.Laws.StructEq
import Derived.Deep.QuietTactic
import Derived.BigQuiet
namespace Go.Proofs.YtdecceekodpjiaaDoor
open Go.RowKit

/-- The same state under another name, with another parent. -/
def twinS (i p n : ByteArray) (s : St) : St := { s with id := i, par := p, pnode := n }

/-- Two runs that go alike; behind u and u' they have the same events. -/
structure Twin (i p n : ByteArray) (u u' : List Ev) (r r' : Rn) : Prop where
  st : r'.st = twinS i p n r.st
  now : r'.now = r.now
  evs : ∃ l, r.evs = u ++ l ∧ r'.evs = u' ++ l
  tks : r.st.status = 1 → r'.tks.length = r.tks.length

section
variable {nm i p n : ByteArray} {u u' : List Ev} {ns : List Nd} {r r' : Rn}

theorem change_twin (s : St) (e : Ev) (he : e.kind ≠ 1) : changeP nm ns (twinS i p n s) e = (changeP nm ns s e).map (twinS i p n) := by
  unfold changeP
  have h0 : (twinS i p n s).status = s.status := rfl
  rw [h0]
  by_cases hs : s.status ≠ (if e.kind = 1 then 0 else 1)
  · rw [if_pos hs, if_pos hs]; rfl
  · rw [if_neg hs, if_neg hs, if_neg he, if_neg he]
    by_cases h13 : e.kind = 13
    · rw [if_pos h13, if_pos h13]; rfl
    · rw [if_neg h13, if_neg h13]
      by_cases h15 : e.kind = 15
      · rw [if_pos h15, if_pos h15]
        by_cases hn : e.num = 2 ∨ e.num = 3 ∨ e.num = 4
        · rw [if_pos hn, if_pos hn]; rfl
        · rw [if_neg hn, if_neg hn]; rfl
      · rw [if_neg h15, if_neg h15]
        have hc : changeNodeP ns (twinS i p n s) e = (changeNodeP ns s e).map (twinS i p n) := by
          unfold changeNodeP
          cases findP ns e.node with
          | none => rfl
          | some j =>
            dsimp only
            have hm : nodeMove ns (twinS i p n s) e j = nodeMove ns s e j := rfl
            rw [hm]
            cases nodeMove ns s e j with
            | none => rfl
            | some m =>
              dsimp only
              have hs2 : (twinS i p n s).sigs = s.sigs := rfl
              rw [hs2]
              cases (if e.kind = 12 then receiveP s.sigs (argAt ns j) m.src e.num else some s.sigs) with
              | none => rfl
              | some l => rfl
        rw [hc, Option.map_map, Option.map_map]
        rfl

theorem Twin.tell (T : Twin i p n u u' r r') {e : Ev} {ts ts' : List Tk} (he : e.kind ≠ 1) (hl : ts'.length = ts.length ∨ ∀ t, changeP nm ns r.st e = some t → t.status ≠ 1) : Twin i p n u u' (tellP nm ns r e ts) (tellP nm ns r' e ts') := by
  unfold tellP
  rw [T.st, change_twin r.st e he]
  cases hc : changeP nm ns r.st e with
  | none => exact T
  | some t =>
    refine ⟨rfl, T.now, by obtain ⟨l, h1, h2⟩ := T.evs; exact ⟨l ++ [e], by show r.evs ++ [e] = _; rw [h1, List.append_assoc], by show r'.evs ++ [e] = _; rw [h2, List.append_assoc]⟩, fun h1 => ?_⟩
    have h1' : t.status = 1 := h1
    rcases hl with hl | hl
    · have hs : r.st.status = 1 := by
        unfold changeP at hc
        rw [if_neg he] at hc
        split at hc
        · cases hc
        · rename_i h; exact Classical.not_not.1 h
      show (r'.tks ++ _).length = (r.tks ++ _).length
      rw [List.length_append, List.length_append, List.length_map, List.length_map, T.tks hs, hl]
    · exact absurd h1' (hl t hc)

theorem change_closes {s t : St} {tx : ByteArray} {st : Int} (h : changeP nm ns s ⟨15, ⟨#[]⟩, tx, st⟩ = some t) : t.status ≠ 1 := by
  unfold changeP at h
  simp only [show ¬ (15 : Int) = 1 by decide, show ¬ (15 : Int) = 13 by decide, if_false, if_true] at h
  split at h
  · cases h
  · split at h
    · rename_i h2
      cases h
      dsimp only
      omega
    · cases h

theorem Twin.close (T : Twin i p n u u' r r') (st : Int) (tx : ByteArray) : Twin i p n u u' (endP nm ns r st tx) (endP nm ns r' st tx) :=
  T.tell (by simp) (.inr fun _ h => change_closes h)

theorem Twin.broken (T : Twin i p n u u' r r') (x tx : ByteArray) : Twin i p n u u' (breakP nm ns r x tx) (breakP nm ns r' x tx) :=
  (T.tell (nm := nm) (ns := ns) (e := ⟨6, x, tx, 0⟩) (ts := []) (ts' := []) (by simp) (.inl rfl)).close 3 tx

/-- Names that are short enough for every child's name. -/
structure Short (ns : List Nd) (r r' : Rn) : Prop where
  names : ∀ x ∈ ns, x.name.size ≤ 64
  one : r.st.id.size ≤ 64
  two : r'.st.id.size ≤ 64

theorem Twin.begins (T : Twin i p n u u' r r') (S : Short ns r r') {x : Nd} (hx : x ∈ ns) : Twin i p n u u' (beginP nm ns r x) (beginP nm ns r' x) := by
  unfold beginP
  by_cases h1 : x.kind = 1
  · rw [if_pos h1, if_pos h1]; exact T.tell (by simp) (.inl rfl)
  rw [if_neg h1, if_neg h1]
  by_cases h2 : x.kind = 2
  · rw [if_pos h2, if_pos h2, T.now]; exact T.tell (by simp) (.inl rfl)
  rw [if_neg h2, if_neg h2]
  by_cases h3 : x.kind = 3
  · rw [if_pos h3, if_pos h3]
    unfold askP
    have a1 := S.names x hx
    have a2 := S.one
    have a3 := S.two
    rw [if_neg (show ¬ 256 < r.st.id.size + 1 + x.name.size by omega), if_neg (show ¬ 256 < r'.st.id.size + 1 + x.name.size by omega)]
    exact T.tell (by simp) (.inl rfl)
  rw [if_neg h3, if_neg h3]
  by_cases h4 : x.kind = 4
  · rw [if_pos h4, if_pos h4]
    unfold waitP
    have hs : r'.st.sigs = r.st.sigs := by rw [T.st]; rfl
    rw [hs]
    cases keptP r.st.sigs x.arg with
    | none => exact T.tell (by simp) (.inl rfl)
    | some k => exact T.tell (by simp) (.inl rfl)
  rw [if_neg h4, if_neg h4]
  by_cases h5 : x.kind = 5
  · rw [if_pos h5, if_pos h5]; exact T.tell (by simp) (.inl rfl)
  · rw [if_neg h5, if_neg h5]; exact T

theorem Short.next (S : Short ns r r') {q q' : Rn} (h : q.st.id = r.st.id) (h' : q'.st.id = r'.st.id) : Short ns q q' := ⟨S.names, by rw [h]; exact S.one, by rw [h']; exact S.two⟩

theorem Twin.row : ∀ (l : List Nat) (r r' : Rn), Twin i p n u u' r r' → Short ns r r' → Twin i p n u u' (goRow nm ns r l).1 (goRow nm ns r' l).1 ∧ (goRow nm ns r' l).2 = (goRow nm ns r l).2
  | [], r, r', T, _ => ⟨T, rfl⟩
  | j :: l, r, r', T, S => by
    unfold goRow
    cases hx : ns[j]? with
    | none => exact ⟨T, rfl⟩
    | some x =>
      dsimp only
      have T1 := T.begins (nm := nm) S (List.mem_of_getElem? hx)
      have hs : (beginP nm ns r' x).st.status = (beginP nm ns r x).st.status := by rw [T1.st]; rfl
      have hn : (beginP nm ns r' x).st.nodes = (beginP nm ns r x).st.nodes := by rw [T1.st]; rfl
      rw [hs, hn]
      by_cases h1 : (beginP nm ns r x).st.status ≠ 1
      · rw [if_pos h1, if_pos h1]; exact ⟨T1, rfl⟩
      · rw [if_neg h1, if_neg h1]
        by_cases h3 : ((beginP nm ns r x).st.nodes[j]?.map (fun y => y.status)) = some 3
        · rw [if_pos h3, if_pos h3]; exact ⟨T1, rfl⟩
        · rw [if_neg h3, if_neg h3]
          exact Twin.row l _ _ T1 (S.next beginP_grow.id beginP_grow.id)

theorem Twin.go : ∀ (f : Nat) (r r' : Rn), Twin i p n u u' r r' → Short ns r r' → Twin i p n u u' (goP nm ns f r) (goP nm ns f r')
  | 0, r, r', T, _ => T
  | f + 1, r, r', T, S => by
    unfold goP
    have hn : r'.st.nodes = r.st.nodes := by rw [T.st]; rfl
    have hL : goReady ns r' = goReady ns r := by unfold goReady; rw [hn]
    rw [hL]
    obtain ⟨T1, hw⟩ := Twin.row (nm := nm) (ns := ns) (goReady ns r) r r' T S
    have g1 := goRow_grow (nm := nm) (ns := ns) (goReady ns r) r
    have g2 := goRow_grow (nm := nm) (ns := ns) (goReady ns r) r'
    cases ha : goRow nm ns r (goReady ns r) with
    | mk q w =>
      cases hb : goRow nm ns r' (goReady ns r) with
      | mk q' w' =>
        rw [ha] at T1 g1 hw
        rw [hb] at T1 g2 hw
        dsimp only at T1 g1 g2 hw
        subst hw
        cases w' with
        | stop => exact T1
        | again => exact Twin.go f q q' T1 (S.next g1.id g2.id)
        | through =>
          have hq : q'.st.nodes = q.st.nodes := by rw [T1.st]; rfl
          dsimp only
          rw [hq]
          by_cases hz : restC q.st.nodes = 0
          · rw [if_pos hz, if_pos hz]; exact T1.close 2 _
          · rw [if_neg hz, if_neg hz]; exact T1

theorem Twin.goOn (T : Twin i p n u u' r r') (S : Short ns r r') : Twin i p n u u' (goOnP nm ns r) (goOnP nm ns r') := by
  unfold goOnP
  have hn : r'.st.nodes = r.st.nodes := by rw [T.st]; rfl
  rw [hn]
  exact Twin.go _ r r' T S

theorem Twin.tellGo (T : Twin i p n u u' r r') (S : Short ns r r') {e : Ev} (he : e.kind ≠ 1) : Twin i p n u u' (goOnP nm ns (tellP nm ns r e [])) (goOnP nm ns (tellP nm ns r' e [])) :=
  (T.tell he (.inl rfl)).goOn (S.next (tellP_grow he).id (tellP_grow he).id)

theorem Twin.failTry (T : Twin i p n u u' r r') (j : Nat) (tx : ByteArray) : Twin i p n u u' (failTryP nm ns r j tx) (failTryP nm ns r' j tx) := by
  unfold failTryP
  have hn : r'.st.nodes = r.st.nodes := by rw [T.st]; rfl
  rw [hn]
  cases ns[j]? with
  | none => exact T
  | some x =>
    cases r.st.nodes[j]? with
    | none => exact T
    | some y =>
      dsimp only
      by_cases h : x.tries ≤ y.tr
      · rw [if_pos h, if_pos h]; exact T.broken _ _
      · rw [if_neg h, if_neg h]; exact T.tell (by simp) (.inl rfl)

theorem find_twin (s : St) (x : ByteArray) (ks : List Int) : findK ns (twinS i p n s) x ks = findK ns s x ks := rfl
theorem busy_twin (s : St) (q : Inp) (ks : List Int) : busyP ns (twinS i p n s) q ks = busyP ns s q ks := rfl
theorem wait_twin (s : St) (x : ByteArray) : busyWaitP ns (twinS i p n s) x = busyWaitP ns s x := rfl

/-- What happens to both alike leaves them alike. -/
theorem Twin.does (T : Twin i p n u u' r r') (S : Short ns r r') (q : Inp) (hq : q.kind ≠ 1) : Twin i p n u u' (doP nm ns r q).1 (doP nm ns r' q).1 ∧ (doP nm ns r' q).2 = (doP nm ns r q).2 := by
  have hs : r'.st.status = r.st.status := by rw [T.st]; rfl
  unfold doP
  rw [if_neg hq, if_neg hq, hs]
  by_cases h0 : r.st.status = 0
  · rw [if_pos h0, if_pos h0]; exact ⟨T, rfl⟩
  rw [if_neg h0, if_neg h0]
  by_cases h1 : r.st.status ≠ 1
  · rw [if_pos h1, if_pos h1]; exact ⟨T, rfl⟩
  rw [if_neg h1, if_neg h1]
  by_cases k2 : q.kind = 2
  · rw [if_pos k2, if_pos k2]
    unfold signalP
    by_cases a1 : nameP q.name = false
    · rw [if_pos a1, if_pos a1]; exact ⟨T, rfl⟩
    rw [if_neg a1, if_neg a1]
    by_cases a2 : 256 < q.text.size
    · rw [if_pos a2, if_pos a2]; exact ⟨T, rfl⟩
    rw [if_neg a2, if_neg a2, show busyWaitP ns r'.st q.name = busyWaitP ns r.st q.name by rw [T.st]; rfl, show r'.st.sigs = r.st.sigs by rw [T.st]; rfl]
    cases busyWaitP ns r.st q.name with
    | some j => exact ⟨T.tellGo S (by simp), rfl⟩
    | none =>
      dsimp only
      by_cases a3 : 32 ≤ r.st.sigs.length
      · rw [if_pos a3, if_pos a3]; exact ⟨T, rfl⟩
      · rw [if_neg a3, if_neg a3]; exact ⟨T.tell (by simp) (.inl rfl), rfl⟩
  rw [if_neg k2, if_neg k2]
  by_cases k3 : q.kind = 3
  · rw [if_pos k3, if_pos k3]
    unfold takeP
    rw [show findK ns r'.st q.node [1] = findK ns r.st q.node [1] by rw [T.st]; rfl, show r'.st.nodes = r.st.nodes by rw [T.st]; rfl]
    cases findK ns r.st q.node [1] with
    | none => exact ⟨T, rfl⟩
    | some j =>
      dsimp only
      cases ns[j]? with
      | none => exact ⟨T, rfl⟩
      | some x =>
        cases r.st.nodes[j]? with
        | none => exact ⟨T, rfl⟩
        | some y =>
          dsimp only
          by_cases hy : y.status = 1
          · rw [if_pos hy, if_pos hy]
            unfold alarmL
            rw [T.now]
            exact ⟨T.tell (by simp) (.inl rfl), rfl⟩
          · rw [if_neg hy, if_neg hy]; exact ⟨T, rfl⟩
  rw [if_neg k3, if_neg k3]
  have hbz : ∀ ks, busyP ns r'.st q ks = busyP ns r.st q ks := fun ks => by rw [T.st]; rfl
  by_cases k4 : q.kind = 4
  · rw [if_pos k4, if_pos k4]
    unfold completeP
    rw [hbz]
    cases busyP ns r.st q [1] with
    | mk j ee =>
      dsimp only
      by_cases he : ee ≠ 0
      · rw [if_pos he, if_pos he]; exact ⟨T, rfl⟩
      rw [if_neg he, if_neg he]
      by_cases a2 : 256 < q.text.size
      · rw [if_pos a2, if_pos a2]; exact ⟨T, rfl⟩
      · rw [if_neg a2, if_neg a2]; exact ⟨T.tellGo S (by simp), rfl⟩
  rw [if_neg k4, if_neg k4]
  by_cases k5 : q.kind = 5
  · rw [if_pos k5, if_pos k5]
    unfold failP
    rw [hbz]
    cases busyP ns r.st q [1] with
    | mk j ee =>
      dsimp only
      by_cases he : ee ≠ 0
      · rw [if_pos he, if_pos he]; exact ⟨T, rfl⟩
      rw [if_neg he, if_neg he]
      by_cases a2 : 256 < q.text.size
      · rw [if_pos a2, if_pos a2]; exact ⟨T, rfl⟩
      · rw [if_neg a2, if_neg a2]; exact ⟨T.failTry _ _, rfl⟩
  rw [if_neg k5, if_neg k5]
  by_cases k6 : q.kind = 6
  · rw [if_pos k6, if_pos k6]
    unfold fireP
    rw [hbz]
    cases busyP ns r.st q [1, 2] with
    | mk j ee =>
      dsimp only
      by_cases he : ee ≠ 0
      · rw [if_pos he, if_pos he]; exact ⟨T, rfl⟩
      rw [if_neg he, if_neg he]
      by_cases a2 : kindAt ns j = 1
      · rw [if_pos a2, if_pos a2]; exact ⟨T.failTry _ _, rfl⟩
      · rw [if_neg a2, if_neg a2]; exact ⟨T.tellGo S (by simp), rfl⟩
  rw [if_neg k6, if_neg k6]
  by_cases k7 : q.kind = 7
  · rw [if_pos k7, if_pos k7]
    unfold kidP
    rw [hbz]
    cases busyP ns r.st q [3] with
    | mk j ee =>
      dsimp only
      by_cases he : ee ≠ 0
      · rw [if_pos he, if_pos he]; exact ⟨T, rfl⟩
      rw [if_neg he, if_neg he]
      by_cases a2 : q.status ≠ 2
      · rw [if_pos a2, if_pos a2]; exact ⟨T.broken _ _, rfl⟩
      · rw [if_neg a2, if_neg a2]; exact ⟨T.tellGo S (by simp), rfl⟩
  rw [if_neg k7, if_neg k7]
  by_cases k8 : q.kind = 8
  · rw [if_pos k8, if_pos k8]
    unfold cancelP
    by_cases a2 : 256 < q.text.size
    · rw [if_pos a2, if_pos a2]; exact ⟨T, rfl⟩
    · rw [if_neg a2, if_neg a2]; exact ⟨T.close 4 _, rfl⟩
  rw [if_neg k8, if_neg k8]
  exact ⟨T, rfl⟩

/-- Both begin alike. -/
theorem twin_start (hn : ∀ x ∈ ns, x.name.size ≤ 64) (q q' : Inp) (h : q.kind = 1) (h' : q'.kind = 1) (hw : q'.now = q.now) (h1 : q.name.size ≤ 64) (h2 : q'.name.size ≤ 64) :
    Twin q'.name q'.par q'.pnode [⟨1, q.pnode, q.par, 0⟩] [⟨1, q'.pnode, q'.par, 0⟩] (doP nm ns ⟨⟨⟨#[]⟩, ⟨#[]⟩, ⟨#[]⟩, ⟨#[]⟩, 0, ⟨#[]⟩, [], [], 0⟩, q.now, [], []⟩ q).1 (doP nm ns ⟨⟨⟨#[]⟩, ⟨#[]⟩, ⟨#[]⟩, ⟨#[]⟩, 0, ⟨#[]⟩, [], [], 0⟩, q'.now, [], []⟩ q').1 := by
  unfold doP
  rw [if_pos h, if_pos h']
  unfold startP
  rw [if_neg (by simp), if_neg (by simp)]
  refine Twin.goOn ⟨rfl, hw, ⟨[], rfl, rfl⟩, fun _ => rfl⟩ ⟨hn, h1, h2⟩

end

end Go.Proofs.YtdecceekodpjiaaDoor

/-
  HistoryTwins as data: how much a state holds behind each input, and that two stay alike.
-/
namespace Go.Proofs.YtdecceekodpjiaaDoor
open Go.RowKit

section
variable {nm : ByteArray} {ns : List Nd}

theorem tellP_evs {r : Rn} {e : Ev} {ts : List Tk} : (tellP nm ns r e ts).evs.length ≤ r.evs.length + 1 := by
  unfold tellP
  split
  · omega
  · simp

theorem endP_evs {r : Rn} {st : Int} {tx : ByteArray} : (endP nm ns r st tx).evs.length ≤ r.evs.length + 1 := tellP_evs
theorem breakP_evs {r : Rn} {x tx : ByteArray} : (breakP nm ns r x tx).evs.length ≤ r.evs.length + 2 := Nat.le_trans endP_evs (Nat.succ_le_succ tellP_evs)

theorem beginP_evs {r : Rn} {x : Nd} : (beginP nm ns r x).evs.length ≤ r.evs.length + 2 := by
  unfold beginP askP waitP
  repeat' split
  all_goals first
    | exact breakP_evs
    | exact Nat.le_succ_of_le tellP_evs
    | omega

theorem goRow_evs : ∀ (l : List Nat) (r : Rn), (goRow nm ns r l).1.evs.length ≤ r.evs.length + 2 * l.length
  | [], r => by unfold goRow; simp
  | i :: l, r => by
    unfold goRow
    rw [List.length_cons]
    split
    · dsimp only; omega
    · rename_i x _
      have hb := beginP_evs (nm := nm) (ns := ns) (r := r) (x := x)
      split
      · dsimp only; omega
      · split
        · dsimp only; omega
        · have := goRow_evs l (beginP nm ns r x)
          omega

theorem goReady_len (r : Rn) : (goReady ns r).length ≤ ns.length := by
  unfold goReady rdyL
  exact Nat.le_trans (List.length_filter_le _ _) (by simp)

theorem goP_evs : ∀ (f : Nat) (r : Rn), (goP nm ns f r).evs.length ≤ r.evs.length + f * (2 * ns.length) + 1
  | 0, r => by unfold goP; omega
  | f + 1, r => by
    unfold goP
    have g1 := goRow_evs (nm := nm) (ns := ns) (goReady ns r) r
    have g2 := goReady_len (ns := ns) r
    have g3 : (f + 1) * (2 * ns.length) = f * (2 * ns.length) + 2 * ns.length := Nat.succ_mul _ _
    cases hg : goRow nm ns r (goReady ns r) with
    | mk r1 w =>
      rw [hg] at g1
      dsimp only at g1
      cases w with
      | stop => dsimp only; omega
      | again =>
        have := goP_evs f r1
        dsimp only
        omega
      | through =>
        dsimp only
        split
        · have := endP_evs (nm := nm) (ns := ns) (r := r1) (st := 2) (tx := lastP r1.st.nodes)
          omega
        · omega

theorem goOnP_evs {r : Rn} (hl : r.st.nodes.length ≤ 32) (hn : ns.length ≤ 32) : (goOnP nm ns r).evs.length ≤ r.evs.length + 2113 := by
  have h := goP_evs (nm := nm) (ns := ns) (restC r.st.nodes + 1) r
  have h1 : restC r.st.nodes ≤ r.st.nodes.length := List.countP_le_length
  have h2 : (restC r.st.nodes + 1) * (2 * ns.length) ≤ 33 * 64 := Nat.mul_le_mul (by omega) (by omega)
  unfold goOnP
  omega

theorem tellGo_both {r : Rn} {e : Ev} (he : e.kind ≠ 1) (hl : r.st.nodes.length ≤ 32) (hn : ns.length ≤ 32) : Tolds nm ns r (goOnP nm ns (tellP nm ns r e [])) ∧ (goOnP nm ns (tellP nm ns r e [])).evs.length ≤ r.evs.length + 2114 := by
  refine ⟨(told1 he).trans goOnP_told, ?_⟩
  have h := goOnP_evs (nm := nm) (ns := ns) (r := tellP nm ns r e []) (by rw [(tellP_grow he).len]; exact hl) hn
  have h2 := tellP_evs (nm := nm) (ns := ns) (r := r) (e := e) (ts := [])
  omega

theorem failTry_both {r : Rn} {i : Nat} {tx : ByteArray} : Tolds nm ns r (failTryP nm ns r i tx) ∧ (failTryP nm ns r i tx).evs.length ≤ r.evs.length + 2114 := by
  unfold failTryP
  repeat' split
  · exact ⟨breakP_told, Nat.le_trans breakP_evs (by omega)⟩
  · exact ⟨told1 (by simp), Nat.le_trans tellP_evs (by omega)⟩
  · exact ⟨.none, by omega⟩

/-- What an input that is no start tells, and how much. -/
theorem doP_both {r : Rn} (q : Inp) (hq : q.kind ≠ 1) (hl : r.st.nodes.length ≤ 32) (hn : ns.length ≤ 32) : Tolds nm ns r (doP nm ns r q).1 ∧ (doP nm ns r q).1.evs.length ≤ r.evs.length + 2114 := by
  have stay : Tolds nm ns r r ∧ r.evs.length ≤ r.evs.length + 2114 := ⟨.none, by omega⟩
  unfold doP
  rw [if_neg hq]
  split
  · exact stay
  split
  · exact stay
  split
  · unfold signalP
    repeat' split
    · exact stay
    · exact stay
    · exact tellGo_both (by simp) hl hn
    · exact stay
    · exact ⟨told1 (by simp), Nat.le_trans tellP_evs (by omega)⟩
  split
  · unfold takeP
    repeat' split
    · exact stay
    · exact ⟨told1 (by simp), Nat.le_trans tellP_evs (by omega)⟩
    · exact stay
    · exact stay
  split
  · unfold completeP
    repeat' split
    · exact stay
    · exact stay
    · exact tellGo_both (by simp) hl hn
  split
  · unfold failP
    repeat' split
    · exact stay
    · exact stay
    · exact failTry_both
  split
  · unfold fireP
    repeat' split
    · exact stay
    · exact failTry_both
    · exact tellGo_both (by simp) hl hn
  split
  · unfold kidP
    repeat' split
    · exact stay
    · exact ⟨breakP_told, Nat.le_trans breakP_evs (by omega)⟩
    · exact tellGo_both (by simp) hl hn
  split
  · unfold cancelP
    split
    · exact stay
    · exact ⟨endP_told, Nat.le_trans endP_evs (by omega)⟩
  · exact stay

/-- How much a state holds behind a start and k inputs. -/
structure TOk (ns : List Nd) (k : Nat) (s : St) : Prop where
  bare : Bare s
  len : s.nodes.length = ns.length
  ev0 : 0 ≤ s.events
  ev1 : s.events ≤ 2200 * ((k : Int) + 1)
  sg : (s.sigs.length : Int) ≤ 2200 * ((k : Int) + 1)
  id : s.id.size ≤ 64

theorem TOk.next {k : Nat} {s : St} (h : TOk ns k s) : TOk ns (k + 1) s := ⟨h.bare, h.len, h.ev0, by have := h.ev1; omega, by have := h.sg; omega, h.id⟩

theorem TOk.small {k : Nat} {s : St} (h : TOk ns k s) (hk : k ≤ 40) (hn : ns.length ≤ 32) : Small s := ⟨by rw [h.len]; omega, by have := h.sg; omega, h.ev0, by have := h.ev1; omega, by have := h.id; omega⟩

theorem TOk.start (hn : ns.length ≤ 32) (q : Inp) (hq : q.name.size ≤ 64) : TOk ns 0 (goOnP nm ns (startR nm ns q)).st := by
  have hK := goP_keeps (nm := nm) (ns := ns) (restC (startR nm ns q).st.nodes + 1) (startR nm ns q) (startR_fine q).bare
  have hC := (goOnP_told (nm := nm) (ns := ns) (r := startR nm ns q)).count
  have hL := goOnP_evs (nm := nm) (ns := ns) (r := startR nm ns q) (by rw [(startR_fine q).len]; exact hn) hn
  have e1 : (startR nm ns q).st.events = 1 := rfl
  have e2 : (startR nm ns q).evs.length = 1 := rfl
  have e3 : (startR nm ns q).st.sigs.length = 0 := rfl
  rw [e1, e2, e3] at hC
  rw [e2] at hL
  obtain ⟨c1, c2, c3⟩ := hC
  exact ⟨hK.1, hK.2.len.trans (startR_fine q).len, by omega, by omega, by omega, by have := hK.2.id; show (goP nm ns (restC (startR nm ns q).st.nodes + 1) (startR nm ns q)).st.id.size ≤ 64; rw [this]; exact hq⟩

theorem TOk.step {k : Nat} {s : St} (h : TOk ns k s) (hn : ns.length ≤ 32) (q : Inp) (hq : q.kind ≠ 1) : TOk ns (k + 1) (stepP nm ns s q).1.st := by
  have hB := doP_both (nm := nm) (ns := ns) (r := ⟨s, q.now, [], []⟩) q hq (by show s.nodes.length ≤ 32; rw [h.len]; exact hn) hn
  have hK := doP_keeps (nm := nm) (ns := ns) (r := ⟨s, q.now, [], []⟩) q hq h.bare
  obtain ⟨c1, c2, c3⟩ := hB.1.count
  have hl := hB.2
  have e0 : (⟨s, q.now, [], []⟩ : Rn).evs.length = 0 := rfl
  rw [e0] at c1 c2 hl
  have h1 := h.ev0
  have h2 := h.ev1
  have h3 := h.sg
  have c1' : (stepP nm ns s q).1.st.events - (stepP nm ns s q).1.evs.length = s.events - ((0 : Nat) : Int) := c1
  have c2' : ((stepP nm ns s q).1.st.sigs.length : Int) - (stepP nm ns s q).1.evs.length ≤ (s.sigs.length : Int) - ((0 : Nat) : Int) := c2
  have hl' : (stepP nm ns s q).1.evs.length ≤ 0 + 2114 := hl
  refine ⟨hK.1, hK.2.len.trans h.len, by omega, by omega, by omega, ?_⟩
  have := hK.2.id
  show (doP nm ns ⟨s, q.now, [], []⟩ q).1.st.id.size ≤ 64
  rw [this]
  exact h.id

def ghB : ByteArray := ⟨#[103, 47, 104]⟩
def gB : ByteArray := ⟨#[103]⟩
def hB : ByteArray := ⟨#[104]⟩

/-- Two states that stand alike. -/
structure Pair (ns : List Nd) (k : Nat) (s s' : St) : Prop where
  ok : TOk ns k s
  twin : s' = twinS ghB gB hB s

theorem Pair.next {k : Nat} {s s' : St} (h : Pair ns k s s') : Pair ns (k + 1) s s' := ⟨h.ok.next, h.twin⟩

theorem Pair.two {k : Nat} {s s' : St} (h : Pair ns k s s') : TOk ns k s' := by
  rw [h.twin]
  exact ⟨h.ok.bare, h.ok.len, h.ok.ev0, h.ok.ev1, h.ok.sg, by show ghB.size ≤ 64; decide⟩

theorem Pair.step (hn : ns.length ≤ 32) (hm : ∀ x ∈ ns, x.name.size ≤ 64) {k : Nat} {s s' : St} (h : Pair ns k s s') (q : Inp) (hq : q.kind ≠ 1) :
    (stepP nm ns s' q).2 = (stepP nm ns s q).2 ∧ (stepP nm ns s' q).1.evs = (stepP nm ns s q).1.evs ∧ ((stepP nm ns s q).1.st.status = 1 → (stepP nm ns s' q).1.tks.length = (stepP nm ns s q).1.tks.length) ∧ Pair ns (k + 1) (stepP nm ns s q).1.st (stepP nm ns s' q).1.st := by
  have T : Twin ghB gB hB [] [] (⟨s, q.now, [], []⟩ : Rn) ⟨s', q.now, [], []⟩ := ⟨h.twin, rfl, ⟨[], rfl, rfl⟩, fun _ => rfl⟩
  obtain ⟨D, e⟩ := T.does (nm := nm) (ns := ns) ⟨hm, h.ok.id, by show s'.id.size ≤ 64; rw [h.twin]; show ghB.size ≤ 64; decide⟩ q hq
  obtain ⟨l, l1, l2⟩ := D.evs
  refine ⟨e, ?_, D.tks, h.ok.step hn q hq, D.st⟩
  show (doP nm ns ⟨s', q.now, [], []⟩ q).1.evs = (doP nm ns ⟨s, q.now, [], []⟩ q).1.evs
  rw [l1, l2]

def twQ1 : Inp := ⟨1, ⟨#[]⟩, ⟨#[102]⟩, ⟨#[]⟩, 0, 0, 0, ⟨#[]⟩, ⟨#[]⟩⟩
def twQ2 : Inp := ⟨1, ⟨#[]⟩, ghB, ⟨#[]⟩, 0, 0, 0, gB, hB⟩

theorem Pair.start (hn : ns.length ≤ 32) (hm : ∀ x ∈ ns, x.name.size ≤ 64) : Pair ns 0 (goOnP nm ns (startR nm ns twQ1)).st (goOnP nm ns (startR nm ns twQ2)).st :=
  ⟨TOk.start hn twQ1 (by decide), (Twin.goOn (nm := nm) (ns := ns) (i := ghB) (p := gB) (n := hB) (u := [⟨1, ⟨#[]⟩, ⟨#[]⟩, 0⟩]) (u' := [⟨1, hB, gB, 0⟩]) (r := startR nm ns twQ1) (r' := startR nm ns twQ2) ⟨rfl, rfl, ⟨[], rfl, rfl⟩, fun _ => rfl⟩ ⟨hm, by show (1 : Nat) ≤ 64; decide, by show ghB.size ≤ 64; decide⟩).st⟩

end

end Go.Proofs.YtdecceekodpjiaaDoor

/-
  A row of inputs that is handed in, opened.
-/
namespace Go.Proofs.YtdecceekodpjiaaDoor
open Go.ChangeShapes Go.WideShapes Go.ChangeAt Go.RowKit Go.Deep

def inC (q : Inp) : List Value := [.int .i64 q.kind, .string q.node, .string q.name, .string q.text, .int .i64 q.tr, .int .i64 q.status, .int .i64 q.now, .string q.par, .string q.pnode]

/-- Inputs that lie in a row at a. -/
def InsAt (w : World) (a : Option Addr) (l : List Inp) : Prop := l = [] ∨ ∃ b o, a = some ⟨b, o, none⟩ ∧ ∀ i (h : i < l.length), ∀ j u, (inC (l[i]'h))[j]? = some u → w.cell? ⟨b, o + i * 9 + j, none⟩ = some u

theorem InsAt.at {w : World} {a : Option Addr} {l : List Inp} (C : InsAt w a l) {i : Nat} (hi : i < l.length) : ∃ b o, a = some ⟨b, o, none⟩ ∧ ∀ V, Kept (fun _ => False) w V →
    V.cell? ⟨b, o + i * 9, none⟩ = some (.int .i64 (l[i]).kind) ∧ V.cell? ⟨b, o + i * 9 + 1, none⟩ = some (.string (l[i]).node) ∧ V.cell? ⟨b, o + i * 9 + 2, none⟩ = some (.string (l[i]).name) ∧ V.cell? ⟨b, o + i * 9 + 3, none⟩ = some (.string (l[i]).text) ∧ V.cell? ⟨b, o + i * 9 + 4, none⟩ = some (.int .i64 (l[i]).tr) ∧ V.cell? ⟨b, o + i * 9 + 5, none⟩ = some (.int .i64 (l[i]).status) ∧ V.cell? ⟨b, o + i * 9 + 6, none⟩ = some (.int .i64 (l[i]).now) ∧ V.cell? ⟨b, o + i * 9 + 7, none⟩ = some (.string (l[i]).par) ∧ V.cell? ⟨b, o + i * 9 + 8, none⟩ = some (.string (l[i]).pnode) := by
  rcases C with h | ⟨b, o, h, hc⟩
  · subst h; simp at hi
  · have k := fun (j : Nat) (u : Value) (hu : (inC l[i])[j]? = some u) (V : World) (K : Kept (fun _ => False) w V) => keepC K (hc i hi j u hu) (fun _ _ h => h)
    exact ⟨b, o, h, fun V K => ⟨k 0 _ rfl V K, k 1 _ rfl V K, k 2 _ rfl V K, k 3 _ rfl V K, k 4 _ rfl V K, k 5 _ rfl V K, k 6 _ rfl V K, k 7 _ rfl V K, k 8 _ rfl V K⟩⟩

variable {H : Type} {enc : TypeId × Value → H} {W : World} {base : Nat} {held : Bool}

set_option maxRecDepth 100000 in
theorem in_open {fuel : Nat} {cs : List Value} {x : DataW H × List MemPlace} (h : DataW.trod enc Tryd.prog W base (fun _ => true) held fuel 34 cs = some x) (hl : cs.length = 9) : ∃ q, cs = inC q := by
  match cs, hl with
  | [c0, c1, c2, c3, c4, c5, c6, c7, c8], _ =>
    have kS : Tryd.prog.cellsOf 9 = 1 := by kernel_rfl
    have kI : Tryd.prog.cellsOf 3 = 1 := by kernel_rfl
    obtain ⟨ys, n, _, rfl, hl, hlen, hf⟩ := DataW.trod_struct Tryd.underlying34 h
    match ys, hlen with
    | [z0, z1, z2, z3, z4, z5, z6, z7, z8], _ =>
      have t0 : DataW.trod enc Tryd.prog W base (fun _ => true) held n 3 [c0] = some z0 := by simpa [kI] using hf 0 _ rfl
      have t1 : DataW.trod enc Tryd.prog W base (fun _ => true) held n 9 [c1] = some z1 := by simpa [kS] using hf 1 _ rfl
      have t2 : DataW.trod enc Tryd.prog W base (fun _ => true) held n 9 [c2] = some z2 := by simpa [kS] using hf 2 _ rfl
      have t3 : DataW.trod enc Tryd.prog W base (fun _ => true) held n 9 [c3] = some z3 := by simpa [kS] using hf 3 _ rfl
      have t4 : DataW.trod enc Tryd.prog W base (fun _ => true) held n 3 [c4] = some z4 := by simpa [kI] using hf 4 _ rfl
      have t5 : DataW.trod enc Tryd.prog W base (fun _ => true) held n 3 [c5] = some z5 := by simpa [kI] using hf 5 _ rfl
      have t6 : DataW.trod enc Tryd.prog W base (fun _ => true) held n 3 [c6] = some z6 := by simpa [kI] using hf 6 _ rfl
      have t7 : DataW.trod enc Tryd.prog W base (fun _ => true) held n 9 [c7] = some z7 := by simpa [kS] using hf 7 _ rfl
      have t8 : DataW.trod enc Tryd.prog W base (fun _ => true) held n 9 [c8] = some z8 := by simpa [kS] using hf 8 _ rfl
      obtain ⟨x0, e0, _⟩ := DataW.trod_int Tryd.underlying3 t0
      obtain ⟨x1, e1, _⟩ := DataW.trod_string Tryd.underlying9 t1
      obtain ⟨x2, e2, _⟩ := DataW.trod_string Tryd.underlying9 t2
      obtain ⟨x3, e3, _⟩ := DataW.trod_string Tryd.underlying9 t3
      obtain ⟨x4, e4, _⟩ := DataW.trod_int Tryd.underlying3 t4
      obtain ⟨x5, e5, _⟩ := DataW.trod_int Tryd.underlying3 t5
      obtain ⟨x6, e6, _⟩ := DataW.trod_int Tryd.underlying3 t6
      obtain ⟨x7, e7, _⟩ := DataW.trod_string Tryd.underlying9 t7
      obtain ⟨x8, e8, _⟩ := DataW.trod_string Tryd.underlying9 t8
      simp only [List.cons.injEq, and_true] at e0 e1 e2 e3 e4 e5 e6 e7 e8
      subst e0 e1 e2 e3 e4 e5 e6 e7 e8
      exact ⟨⟨x0, x1, x2, x3, x4, x5, x6, x7, x8⟩, rfl⟩

set_option maxRecDepth 100000 in
theorem ins_open {fuel : Nat} {v : Value} {x : DataW H × List MemPlace} (h : DataW.trod enc Tryd.prog W base (fun _ => true) held fuel 61 [v] = some x) :
    ∃ a c l, v = .slice a l.length c ∧ l.length ≤ c ∧ c ≤ maxLen ∧ InsAt W a l := by
  have kO : Tryd.prog.cellsOf 34 = 9 := by kernel_rfl
  rcases Deep.open_slice Tryd.underlying61 h with ⟨hcs, hx⟩ | ⟨a, len, cap, m, n, D, Pl, hcs, hb, hl, hm, hmm, hx, hel⟩
  · simp only [List.cons.injEq, and_true] at hcs
    subst hcs
    exact ⟨none, 0, [], rfl, Nat.le_refl _, Nat.zero_le _, .inl rfl⟩
  · simp only [List.cons.injEq, and_true] at hcs
    subst hcs
    have hlm : len ≤ m := by rw [hmm]; split <;> omega
    have each : ∀ i, i < len → ∃ q : Inp, ∀ j, j < 9 → W.cell? (a.add (i * 9 + j)) = (inC q)[j]? := by
      intro i hi
      obtain ⟨cs', h1, h2⟩ := hel i (by omega)
      rw [kO] at h1
      obtain ⟨_, hlen, hcell⟩ := World.cells?_some h1
      obtain ⟨q, rfl⟩ := in_open h2 hlen
      refine ⟨q, fun j hj => ?_⟩
      rw [← Deep.add_add]
      exact hcell j hj
    haveI : Inhabited Inp := ⟨⟨0, ⟨#[]⟩, ⟨#[]⟩, ⟨#[]⟩, 0, 0, 0, ⟨#[]⟩, ⟨#[]⟩⟩⟩
    obtain ⟨q, hq⟩ := Deep.choose_lt each
    rcases Nat.eq_zero_or_pos len with h0 | h0
    · subst h0
      exact ⟨some a, cap, [], rfl, Nat.zero_le _, hm, .inl rfl⟩
    · have h00 := hq 0 h0 0 (by decide)
      obtain ⟨u0, hu0⟩ : ∃ u, (inC (q 0))[0]? = some u := ⟨_, rfl⟩
      rw [hu0] at h00
      obtain ⟨b, off, rfl⟩ := addr_form (v := u0) (by simpa using h00)
      refine ⟨some ⟨b, off, none⟩, cap, (List.range len).map q, by simp, by simpa using hl, hm, .inr ⟨b, off, rfl, fun i hi j u hu => ?_⟩⟩
      have hi' : i < len := by simpa using hi
      have e : ((List.range len).map q)[i] = q i := by simp
      rw [e] at hu
      have hj : j < 9 := (List.getElem?_eq_some_iff.1 hu).1
      have := hq i hi' j hj
      rw [Addr.add_lit, hu] at this
      rw [← this]
      congr 2
      omega

end Go.Proofs.YtdecceekodpjiaaDoor

/-
  HistoryTwins: its regions that draw their order.
-/
namespace Go.Proofs.YtdecceekodpjiaaDoor
open Go.RowKit

theorem at9_1 {w : World} {b : Nat} {T : TypeId} {u0 u1 u2 u3 u4 u5 u6 u7 u8 : Value} (h : w.heap[b]? = some (.cells #[u0, u1, u2, u3, u4, u5, u6, u7, u8] T (0, 0))) : w.cell? ⟨b, 1, none⟩ = some u1 ∧ w.frozen? ⟨b, 1, none⟩ = false := by
  simp [World.cell?, World.frozen?, h]

theorem set9_1 {w : World} {b : Nat} {T : TypeId} {u0 u1 u2 u3 u4 u5 u6 u7 u8 : Value} (h : w.heap[b]? = some (.cells #[u0, u1, u2, u3, u4, u5, u6, u7, u8] T (0, 0))) (v : Value) : (w.setCell ⟨b, 1, none⟩ v).heap[b]? = some (.cells #[u0, v, u2, u3, u4, u5, u6, u7, u8] T (0, 0)) := by
  simp [World.setCell, Array.getElem?_modify, h]

theorem at9_2 {w : World} {b : Nat} {T : TypeId} {u0 u1 u2 u3 u4 u5 u6 u7 u8 : Value} (h : w.heap[b]? = some (.cells #[u0, u1, u2, u3, u4, u5, u6, u7, u8] T (0, 0))) : w.cell? ⟨b, 2, none⟩ = some u2 ∧ w.frozen? ⟨b, 2, none⟩ = false := by
  simp [World.cell?, World.frozen?, h]

theorem set9_2 {w : World} {b : Nat} {T : TypeId} {u0 u1 u2 u3 u4 u5 u6 u7 u8 : Value} (h : w.heap[b]? = some (.cells #[u0, u1, u2, u3, u4, u5, u6, u7, u8] T (0, 0))) (v : Value) : (w.setCell ⟨b, 2, none⟩ v).heap[b]? = some (.cells #[u0, u1, v, u3, u4, u5, u6, u7, u8] T (0, 0)) := by
  simp [World.setCell, Array.getElem?_modify, h]

theorem at9_3 {w : World} {b : Nat} {T : TypeId} {u0 u1 u2 u3 u4 u5 u6 u7 u8 : Value} (h : w.heap[b]? = some (.cells #[u0, u1, u2, u3, u4, u5, u6, u7, u8] T (0, 0))) : w.cell? ⟨b, 3, none⟩ = some u3 ∧ w.frozen? ⟨b, 3, none⟩ = false := by
  simp [World.cell?, World.frozen?, h]

theorem set9_3 {w : World} {b : Nat} {T : TypeId} {u0 u1 u2 u3 u4 u5 u6 u7 u8 : Value} (h : w.heap[b]? = some (.cells #[u0, u1, u2, u3, u4, u5, u6, u7, u8] T (0, 0))) (v : Value) : (w.setCell ⟨b, 3, none⟩ v).heap[b]? = some (.cells #[u0, u1, u2, v, u4, u5, u6, u7, u8] T (0, 0)) := by
  simp [World.setCell, Array.getElem?_modify, h]

set_option maxRecDepth 100000 in
set_option maxHeartbeats 8000000 in
theorem tw18 {W : World} {ab bb xb yb : Nat} {q0 q1 q2 q3 q5 : ByteArray} {q4 q8 : Int} {q6 q7 : Option Addr} {qn6 qc6 qn7 qc7 : Nat} {p0 p1 p2 p3 p5 : ByteArray} {p4 p8 : Int} {p6 p7 : Option Addr} {pn6 pc6 pn7 pc7 : Nat} {A0 A1 A2 A3 A4 A5 A6 A7 A8 B0 B1 B2 B3 B4 B5 B6 B7 B8 : Value} {ds : List Deferred} {u0 u1 u2 u3 u4 u5 u7 u8 u9 u11 u12 u13 u14 u15 u17 u18 u19 u21 u22 u23 u24 u25 u26 u27 u28 u29 u30 u31 u32 u33 u34 u35 u36 u37 u38 u39 u40 u41 u42 u43 u44 u45 u46 u47 u48 u49 u50 u51 u52 u53 u54 u55 u56 u57 u58 u59 u60 u61 u62 u63 u64 u65 u66 u67 u68 u69 u70 u71 u72 u73 u74 u75 u76 u77 u78 u79 u80 u81 u82 u83 u84 u85 u86 u87 u88 u89 u90 u91 u92 u93 u94 u95 u96 u97 u98 u99 u100 u101 u102 u103 u104 u105 u106 u107 u108 u109 u110 u111 u112 u113 u114 u115 u116 u117 u118 u119 u120 u121 u122 u123 u124 u125 u126 u127 u128 u129 u130 u131 u132 u133 u134 u135 u136 u137 u138 u139 u140 u141 u142 u143 u144 u145 u146 u147 u148 u149 u150 u151 u152 u153 : Value} (K : Act → World → Prop)
    (x0 : W.cell? ⟨xb, 0, none⟩ = some (.string q0)) (x1 : W.cell? ⟨xb, 1, none⟩ = some (.string q1)) (x2 : W.cell? ⟨xb, 2, none⟩ = some (.string q2)) (x3 : W.cell? ⟨xb, 3, none⟩ = some (.string q3)) (x4 : W.cell? ⟨xb, 4, none⟩ = some (.int .i64 q4)) (x5 : W.cell? ⟨xb, 5, none⟩ = some (.string q5)) (x6 : W.cell? ⟨xb, 6, none⟩ = some (.slice q6 qn6 qc6)) (x7 : W.cell? ⟨xb, 7, none⟩ = some (.slice q7 qn7 qc7)) (x8 : W.cell? ⟨xb, 8, none⟩ = some (.int .i64 q8)) (x9 : W.cell? ⟨yb, 0, none⟩ = some (.string p0)) (x10 : W.cell? ⟨yb, 1, none⟩ = some (.string p1)) (x11 : W.cell? ⟨yb, 2, none⟩ = some (.string p2)) (x12 : W.cell? ⟨yb, 3, none⟩ = some (.string p3)) (x13 : W.cell? ⟨yb, 4, none⟩ = some (.int .i64 p4)) (x14 : W.cell? ⟨yb, 5, none⟩ = some (.string p5)) (x15 : W.cell? ⟨yb, 6, none⟩ = some (.slice p6 pn6 pc6)) (x16 : W.cell? ⟨yb, 7, none⟩ = some (.slice p7 pn7 pc7)) (x17 : W.cell? ⟨yb, 8, none⟩ = some (.int .i64 p8))
    (hma0 : W.heap[ab]? = some (.cells #[A0, A1, A2, A3, A4, A5, A6, A7, A8] 39 (0, 0))) (hmb0 : W.heap[bb]? = some (.cells #[B0, B1, B2, B3, B4, B5, B6, B7, B8] 39 (0, 0))) (hab : ab ≠ bb) (hxa : xb ≠ ab) (hxb : xb ≠ bb) (hya : yb ≠ ab) (hyb : yb ≠ bb)
    (h : ∀ (v116 v117 : Value) (W' : World), W'.heap[ab]? = some (.cells #[.string q0, .string q1, .string q2, .string q3, .int .i64 q4, .string q5, .slice q6 qn6 qc6, .slice q7 qn7 qc7, .int .i64 q8] 39 (0, 0)) → W'.heap[bb]? = some (.cells #[.string p0, .string p1, .string p2, .string p3, .int .i64 p4, .string p5, .slice p6 pn6 pc6, .slice p7 pn7 pc7, .int .i64 p8] 39 (0, 0)) → Kept (fun j => j = ab ∨ j = bb) W W' → K { tmps := #[u0, u1, u2, u3, u4, u5, .pointer (some ⟨ab, 0, none⟩), u7, u8, u9, .pointer (some ⟨bb, 0, none⟩), u11, u12, u13, u14, u15, .pointer (some ⟨xb, 0, none⟩), u17, u18, u19, .pointer (some ⟨yb, 0, none⟩), u21, u22, u23, u24, u25, u26, u27, u28, u29, u30, u31, u32, u33, u34, u35, u36, u37, u38, u39, u40, u41, u42, u43, u44, u45, u46, u47, u48, u49, u50, u51, u52, u53, u54, u55, u56, u57, u58, u59, u60, u61, u62, u63, u64, u65, u66, u67, u68, u69, u70, u71, u72, u73, u74, u75, u76, u77, u78, u79, u80, u81, u82, u83, u84, u85, u86, u87, u88, u89, u90, u91, u92, u93, u94, u95, u96, u97, u98, u99, u100, u101, u102, u103, u104, u105, u106, u107, u108, u109, u110, u111, u112, u113, u114, u115, v116, v117, u118, u119, u120, u121, u122, u123, u124, u125, u126, u127, u128, u129, u130, u131, u132, u133, u134, u135, u136, u137, u138, u139, u140, u141, u142, u143, u144, u145, u146, u147, u148, u149, u150, u151, u152, u153], defers := ds } W') :
    (Code.region 18 #[{ dst := some 116, op := Op.load 39 (Operand.tmp 16), type := 39, pos := "more.go:219", after := #[], guard := none }, { dst := some 117, op := Op.load 39 (Operand.tmp 20), type := 39, pos := "more.go:219", after := #[{ on := 2, ground := Ground.gcOnly Departure.lateStores }], guard := none }, { dst := none, op := Op.store 39 (Operand.tmp 6) (Operand.tmp 116), type := 0, pos := "more.go:219", after := #[{ on := 0, ground := Ground.data }, { on := 0, ground := Ground.phase }, { on := 1, ground := Ground.textOnly Departure.lateStores }], guard := none }, { dst := none, op := Op.store 39 (Operand.tmp 10) (Operand.tmp 117), type := 0, pos := "more.go:219", after := #[{ on := 1, ground := Ground.data }, { on := 2, ground := Ground.chain }, { on := 0, ground := Ground.phase }, { on := 1, ground := Ground.phase }, { on := 2, ground := Ground.phase }], guard := none }] true).wp Tryd.prog (onlyN K) { tmps := #[u0, u1, u2, u3, u4, u5, .pointer (some ⟨ab, 0, none⟩), u7, u8, u9, .pointer (some ⟨bb, 0, none⟩), u11, u12, u13, u14, u15, .pointer (some ⟨xb, 0, none⟩), u17, u18, u19, .pointer (some ⟨yb, 0, none⟩), u21, u22, u23, u24, u25, u26, u27, u28, u29, u30, u31, u32, u33, u34, u35, u36, u37, u38, u39, u40, u41, u42, u43, u44, u45, u46, u47, u48, u49, u50, u51, u52, u53, u54, u55, u56, u57, u58, u59, u60, u61, u62, u63, u64, u65, u66, u67, u68, u69, u70, u71, u72, u73, u74, u75, u76, u77, u78, u79, u80, u81, u82, u83, u84, u85, u86, u87, u88, u89, u90, u91, u92, u93, u94, u95, u96, u97, u98, u99, u100, u101, u102, u103, u104, u105, u106, u107, u108, u109, u110, u111, u112, u113, u114, u115, u116, u117, u118, u119, u120, u121, u122, u123, u124, u125, u126, u127, u128, u129, u130, u131, u132, u133, u134, u135, u136, u137, u138, u139, u140, u141, u142, u143, u144, u145, u146, u147, u148, u149, u150, u151, u152, u153], defers := ds } W := by
  have HH : Hid _ := h
  have KD := Kept.drew (fun j => j = ab ∨ j = bb) W
  have hnx : ¬ (xb = ab ∨ xb = bb) := fun h => h.elim hxa hxb
  have hny : ¬ (yb = ab ∨ yb = bb) := fun h => h.elim hya hyb
  have hma : Hid (W.drew.heap[ab]? = some (.cells #[A0, A1, A2, A3, A4, A5, A6, A7, A8] 39 (0, 0))) := hma0
  have hmb : Hid (W.drew.heap[bb]? = some (.cells #[B0, B1, B2, B3, B4, B5, B6, B7, B8] 39 (0, 0))) := hmb0
  have hh : ∀ {V : World} {g k : Nat} {v : Value}, Kept (fun j => j = ab ∨ j = bb) W V → W.cell? ⟨g, k, none⟩ = some v → ¬ (g = ab ∨ g = bb) → V.cell? ⟨g, k, none⟩ = some v := fun {V g k v} KV hc hn => by
    rw [World.cell?_of_block (w := W) (KV.block _ (World.block_lt_of_cell? W _ hc) hn)]
    exact hc
  have HS : Hid (∀ V, Kept (fun j => j = ab ∨ j = bb) W.drew V → V.cell? ⟨xb, 0, none⟩ = some (.string q0) ∧ V.cell? ⟨xb, 1, none⟩ = some (.string q1) ∧ V.cell? ⟨xb, 2, none⟩ = some (.string q2) ∧ V.cell? ⟨xb, 3, none⟩ = some (.string q3) ∧ V.cell? ⟨xb, 4, none⟩ = some (.int .i64 q4) ∧ V.cell? ⟨xb, 5, none⟩ = some (.string q5) ∧ V.cell? ⟨xb, 6, none⟩ = some (.slice q6 qn6 qc6) ∧ V.cell? ⟨xb, 7, none⟩ = some (.slice q7 qn7 qc7) ∧ V.cell? ⟨xb, 8, none⟩ = some (.int .i64 q8) ∧ V.cell? ⟨yb, 0, none⟩ = some (.string p0) ∧ V.cell? ⟨yb, 1, none⟩ = some (.string p1) ∧ V.cell? ⟨yb, 2, none⟩ = some (.string p2) ∧ V.cell? ⟨yb, 3, none⟩ = some (.string p3) ∧ V.cell? ⟨yb, 4, none⟩ = some (.int .i64 p4) ∧ V.cell? ⟨yb, 5, none⟩ = some (.string p5) ∧ V.cell? ⟨yb, 6, none⟩ = some (.slice p6 pn6 pc6) ∧ V.cell? ⟨yb, 7, none⟩ = some (.slice p7 pn7 pc7) ∧ V.cell? ⟨yb, 8, none⟩ = some (.int .i64 p8)) := fun V KV => ⟨hh (KD.and KV) x0 hnx, hh (KD.and KV) x1 hnx, hh (KD.and KV) x2 hnx, hh (KD.and KV) x3 hnx, hh (KD.and KV) x4 hnx, hh (KD.and KV) x5 hnx, hh (KD.and KV) x6 hnx, hh (KD.and KV) x7 hnx, hh (KD.and KV) x8 hnx, hh (KD.and KV) x9 hny, hh (KD.and KV) x10 hny, hh (KD.and KV) x11 hny, hh (KD.and KV) x12 hny, hh (KD.and KV) x13 hny, hh (KD.and KV) x14 hny, hh (KD.and KV) x15 hny, hh (KD.and KV) x16 hny, hh (KD.and KV) x17 hny⟩
  have HKD : Hid (Kept (fun j => j = ab ∨ j = bb) W W.drew) := KD
  have hS0 := HS.out W.drew (Kept.refl _ _)
  clear h KD hh hma0 hmb0 x0 x1 x2 x3 x4 x5 x6 x7 x8 x9 x10 x11 x12 x13 x14 x15 x16 x17
  refine wp_region_held_drew (S := fun V => V.cell? ⟨xb, 0, none⟩ = some (.string q0) ∧ V.cell? ⟨xb, 1, none⟩ = some (.string q1) ∧ V.cell? ⟨xb, 2, none⟩ = some (.string q2) ∧ V.cell? ⟨xb, 3, none⟩ = some (.string q3) ∧ V.cell? ⟨xb, 4, none⟩ = some (.int .i64 q4) ∧ V.cell? ⟨xb, 5, none⟩ = some (.string q5) ∧ V.cell? ⟨xb, 6, none⟩ = some (.slice q6 qn6 qc6) ∧ V.cell? ⟨xb, 7, none⟩ = some (.slice q7 qn7 qc7) ∧ V.cell? ⟨xb, 8, none⟩ = some (.int .i64 q8) ∧ V.cell? ⟨yb, 0, none⟩ = some (.string p0) ∧ V.cell? ⟨yb, 1, none⟩ = some (.string p1) ∧ V.cell? ⟨yb, 2, none⟩ = some (.string p2) ∧ V.cell? ⟨yb, 3, none⟩ = some (.string p3) ∧ V.cell? ⟨yb, 4, none⟩ = some (.int .i64 p4) ∧ V.cell? ⟨yb, 5, none⟩ = some (.string p5) ∧ V.cell? ⟨yb, 6, none⟩ = some (.slice p6 pn6 pc6) ∧ V.cell? ⟨yb, 7, none⟩ = some (.slice p7 pn7 pc7) ∧ V.cell? ⟨yb, 8, none⟩ = some (.int .i64 p8)) (by kernel_rfl) hS0 (fun _ => ?_)
  generalize W.drew = V0 at *
  refine wpAnyH_take (i := 0) (oi := { dst := some 116, op := Op.load 39 (Operand.tmp 16), type := 39, pos := "more.go:219", after := #[], guard := none }) (v := ?vv1) rfl (by kernel_rfl) (by kernel_rfl) (by kernel_rfl) (fun _ _ _ h => h) (Or.inl ⟨by rfl, ?hy1⟩) hS0 ?rest1
  case hy1 =>
    intro V hV
    obtain ⟨y0, y1, y2, y3, y4, y5, y6, y7, y8, y9, y10, y11, y12, y13, y14, y15, y16, y17⟩ := hV
    go_simp
    all_goals rfl
  simp only [Act.put, List.setIfInBounds_toArray, List.set_cons_zero, List.set_cons_succ]
  refine wpAnyH_take (i := 1) (oi := { dst := some 117, op := Op.load 39 (Operand.tmp 20), type := 39, pos := "more.go:219", after := #[{ on := 2, ground := Ground.gcOnly Departure.lateStores }], guard := none }) (v := ?vv2) rfl (by kernel_rfl) (by kernel_rfl) (by kernel_rfl) (fun _ _ _ h => h) (Or.inl ⟨by rfl, ?hy2⟩) hS0 ?rest2
  case hy2 =>
    intro V hV
    obtain ⟨y0, y1, y2, y3, y4, y5, y6, y7, y8, y9, y10, y11, y12, y13, y14, y15, y16, y17⟩ := hV
    go_simp
    all_goals rfl
  simp only [Act.put, List.setIfInBounds_toArray, List.set_cons_zero, List.set_cons_succ]
  refine wpAnyH_ready (rs := [2]) (by kernel_rfl) (by simp) (AllReadyH.cons (o := { dst := none, op := Op.store 39 (Operand.tmp 6) (Operand.tmp 116), type := 0, pos := "more.go:219", after := #[{ on := 0, ground := Ground.data }, { on := 0, ground := Ground.phase }, { on := 1, ground := Ground.textOnly Departure.lateStores }], guard := none }) rfl (fun K' hK => ?_) AllReadyH.nil)
  obtain ⟨⟨g0, g1, g2, g3, g4, g5, g6, g7, g8⟩, f0, f1, f2, f3, f4, f5, f6, f7, f8⟩ := nine hma.out
  have HM1 := hid (put9 hma.out (.string q0) (.string q1) (.string q2) (.string q3) (.int .i64 q4) (.string q5) (.slice q6 qn6 qc6) (.slice q7 qn7 qc7) (.int .i64 q8))
  have KT1 := kept9 (S := fun j => j = ab) V0 rfl (.string q0) (.string q1) (.string q2) (.string q3) (.int .i64 q4) (.string q5) (.slice q6 qn6 qc6) (.slice q7 qn7 qc7) (.int .i64 q8)
  have HO1 := hid ((KT1.block bb (Array.getElem?_eq_some_iff.1 hmb.out).1 (fun h => hab h.symm)).trans hmb.out)
  have KS1 := ((Kept.refl (fun j => j = ab ∨ j = bb) V0)).and (KT1.mono (S' := fun j => j = ab ∨ j = bb) (fun j h => .inl h))
  clear KT1
  go_simp
  refine hK.out _ _ (HS.out _ KS1) (fun _ => ?_)
  clear g0 g1 g2 g3 g4 g5 g6 g7 g8 f0 f1 f2 f3 f4 f5 f6 f7 f8
  generalize (((((((((V0.setCell ⟨ab, 0, none⟩ (.string q0)).setCell ⟨ab, 1, none⟩ (.string q1)).setCell ⟨ab, 2, none⟩ (.string q2)).setCell ⟨ab, 3, none⟩ (.string q3)).setCell ⟨ab, 4, none⟩ (.int .i64 q4)).setCell ⟨ab, 5, none⟩ (.string q5)).setCell ⟨ab, 6, none⟩ (.slice q6 qn6 qc6)).setCell ⟨ab, 7, none⟩ (.slice q7 qn7 qc7)).setCell ⟨ab, 8, none⟩ (.int .i64 q8)) = V1 at *
  clear hK K'
  try (simp only [Act.put, List.setIfInBounds_toArray, List.set_cons_zero, List.set_cons_succ])
  refine wpAnyH_ready (rs := [3]) (by kernel_rfl) (by simp) (AllReadyH.cons (o := { dst := none, op := Op.store 39 (Operand.tmp 10) (Operand.tmp 117), type := 0, pos := "more.go:219", after := #[{ on := 1, ground := Ground.data }, { on := 2, ground := Ground.chain }, { on := 0, ground := Ground.phase }, { on := 1, ground := Ground.phase }, { on := 2, ground := Ground.phase }], guard := none }) rfl (fun K' hK => ?_) AllReadyH.nil)
  obtain ⟨⟨g0, g1, g2, g3, g4, g5, g6, g7, g8⟩, f0, f1, f2, f3, f4, f5, f6, f7, f8⟩ := nine HO1.out
  have HM2 := hid (put9 HO1.out (.string p0) (.string p1) (.string p2) (.string p3) (.int .i64 p4) (.string p5) (.slice p6 pn6 pc6) (.slice p7 pn7 pc7) (.int .i64 p8))
  have KT2 := kept9 (S := fun j => j = bb) V1 rfl (.string p0) (.string p1) (.string p2) (.string p3) (.int .i64 p4) (.string p5) (.slice p6 pn6 pc6) (.slice p7 pn7 pc7) (.int .i64 p8)
  have HO2 := hid ((KT2.block ab (Array.getElem?_eq_some_iff.1 HM1.out).1 (fun h => hab h)).trans HM1.out)
  have KS2 := (KS1).and (KT2.mono (S' := fun j => j = ab ∨ j = bb) (fun j h => .inr h))
  clear KT2
  go_simp
  refine hK.out _ _ (HS.out _ KS2) (fun _ => ?_)
  clear g0 g1 g2 g3 g4 g5 g6 g7 g8 f0 f1 f2 f3 f4 f5 f6 f7 f8
  generalize (((((((((V1.setCell ⟨bb, 0, none⟩ (.string p0)).setCell ⟨bb, 1, none⟩ (.string p1)).setCell ⟨bb, 2, none⟩ (.string p2)).setCell ⟨bb, 3, none⟩ (.string p3)).setCell ⟨bb, 4, none⟩ (.int .i64 p4)).setCell ⟨bb, 5, none⟩ (.string p5)).setCell ⟨bb, 6, none⟩ (.slice p6 pn6 pc6)).setCell ⟨bb, 7, none⟩ (.slice p7 pn7 pc7)).setCell ⟨bb, 8, none⟩ (.int .i64 p8)) = V2 at *
  clear hK K'
  try (simp only [Act.put, List.setIfInBounds_toArray, List.set_cons_zero, List.set_cons_succ])
  refine wpAnyH_done (by kernel_rfl) ?_ _
  exact HH.out _ _ _ HO2.out HM2.out (HKD.out.and KS2)

set_option maxRecDepth 100000 in
set_option maxHeartbeats 8000000 in
theorem tw20 {W : World} {ab cb : Nat} {i1 i2 i3 k1 k2 k3 : ByteArray} {c0 c4 c5 c6 c7 c8 : Value} {ds : List Deferred} {u0 u1 u2 u3 u4 u5 u7 u8 u9 u10 u11 u12 u13 u14 u15 u16 u17 u18 u19 u20 u21 u22 u24 u25 u26 u27 u28 u29 u30 u31 u32 u33 u34 u35 u36 u37 u38 u39 u40 u41 u42 u43 u44 u45 u46 u47 u48 u49 u50 u51 u52 u53 u54 u55 u56 u57 u58 u59 u60 u61 u62 u63 u64 u65 u66 u67 u68 u69 u70 u71 u72 u73 u74 u75 u76 u77 u78 u79 u80 u81 u82 u83 u84 u85 u86 u87 u88 u89 u90 u91 u92 u93 u94 u95 u96 u97 u98 u99 u100 u101 u102 u103 u104 u105 u106 u107 u108 u109 u110 u111 u112 u113 u114 u115 u116 u117 u118 u119 u120 u121 u122 u123 u124 u125 u126 u127 u128 u129 u130 u131 u132 u133 u134 u135 u136 u137 u138 u139 u140 u141 u142 u143 u144 u145 u146 u147 u148 u149 u150 u151 u152 u153 : Value} (K : Act → World → Prop)
    (x0 : W.cell? ⟨ab, 1, none⟩ = some (.string i1)) (x1 : W.cell? ⟨ab, 2, none⟩ = some (.string i2)) (x2 : W.cell? ⟨ab, 3, none⟩ = some (.string i3))
    (hmc0 : W.heap[cb]? = some (.cells #[c0, .string k1, .string k2, .string k3, c4, c5, c6, c7, c8] 39 (0, 0))) (hac : ab ≠ cb)
    (h : ∀ (v119 v120 v121 v122 v123 v124 v125 v126 v127 : Value) (W' : World), W'.heap[cb]? = some (.cells #[c0, .string i1, .string i2, .string i3, c4, c5, c6, c7, c8] 39 (0, 0)) → Kept (fun j => j = cb) W W' → K { tmps := #[u0, u1, u2, u3, u4, u5, .pointer (some ⟨ab, 0, none⟩), u7, u8, u9, u10, u11, u12, u13, u14, u15, u16, u17, u18, u19, u20, u21, u22, .pointer (some ⟨cb, 0, none⟩), u24, u25, u26, u27, u28, u29, u30, u31, u32, u33, u34, u35, u36, u37, u38, u39, u40, u41, u42, u43, u44, u45, u46, u47, u48, u49, u50, u51, u52, u53, u54, u55, u56, u57, u58, u59, u60, u61, u62, u63, u64, u65, u66, u67, u68, u69, u70, u71, u72, u73, u74, u75, u76, u77, u78, u79, u80, u81, u82, u83, u84, u85, u86, u87, u88, u89, u90, u91, u92, u93, u94, u95, u96, u97, u98, u99, u100, u101, u102, u103, u104, u105, u106, u107, u108, u109, u110, u111, u112, u113, u114, u115, u116, u117, u118, v119, v120, v121, v122, v123, v124, v125, v126, v127, u128, u129, u130, u131, u132, u133, u134, u135, u136, u137, u138, u139, u140, u141, u142, u143, u144, u145, u146, u147, u148, u149, u150, u151, u152, u153], defers := ds } W') :
    (Code.region 20 #[{ dst := some 119, op := Op.fieldAddr 39 (Operand.tmp 6) 1, type := 0, pos := "more.go:222", after := #[], guard := none }, { dst := some 120, op := Op.load 9 (Operand.tmp 119), type := 9, pos := "more.go:222", after := #[{ on := 0, ground := Ground.data }], guard := none }, { dst := some 121, op := Op.fieldAddr 39 (Operand.tmp 6) 2, type := 0, pos := "more.go:222", after := #[{ on := 7, ground := Ground.gcOnly Departure.lateStores }], guard := none }, { dst := some 122, op := Op.load 9 (Operand.tmp 121), type := 9, pos := "more.go:222", after := #[{ on := 2, ground := Ground.data }, { on := 7, ground := Ground.gcOnly Departure.lateStores }], guard := none }, { dst := some 123, op := Op.fieldAddr 39 (Operand.tmp 6) 3, type := 0, pos := "more.go:222", after := #[{ on := 9, ground := Ground.gcOnly Departure.lateStores }], guard := none }, { dst := some 124, op := Op.load 9 (Operand.tmp 123), type := 9, pos := "more.go:222", after := #[{ on := 4, ground := Ground.data }, { on := 9, ground := Ground.gcOnly Departure.lateStores }], guard := none }, { dst := some 125, op := Op.fieldAddr 39 (Operand.tmp 23) 1, type := 0, pos := "more.go:222", after := #[{ on := 0, ground := Ground.phase }, { on := 1, ground := Ground.phase }, { on := 2, ground := Ground.textOnly Departure.lateStores }, { on := 3, ground := Ground.textOnly Departure.lateStores }, { on := 4, ground := Ground.textOnly Departure.lateStores }, { on := 5, ground := Ground.textOnly Departure.lateStores }], guard := none }, { dst := none, op := Op.store 9 (Operand.tmp 125) (Operand.tmp 120), type := 0, pos := "more.go:222", after := #[{ on := 6, ground := Ground.data }, { on := 1, ground := Ground.data }, { on := 0, ground := Ground.phase }, { on := 1, ground := Ground.phase }, { on := 2, ground := Ground.textOnly Departure.lateStores }, { on := 3, ground := Ground.textOnly Departure.lateStores }, { on := 4, ground := Ground.textOnly Departure.lateStores }, { on := 5, ground := Ground.textOnly Departure.lateStores }], guard := none }, { dst := some 126, op := Op.fieldAddr 39 (Operand.tmp 23) 2, type := 0, pos := "more.go:222", after := #[{ on := 0, ground := Ground.phase }, { on := 1, ground := Ground.phase }, { on := 2, ground := Ground.phase }, { on := 3, ground := Ground.phase }, { on := 4, ground := Ground.textOnly Departure.lateStores }, { on := 5, ground := Ground.textOnly Departure.lateStores }, { on := 6, ground := Ground.phase }, { on := 7, ground := Ground.phase }], guard := none }, { dst := none, op := Op.store 9 (Operand.tmp 126) (Operand.tmp 122), type := 0, pos := "more.go:222", after := #[{ on := 8, ground := Ground.data }, { on := 3, ground := Ground.data }, { on := 7, ground := Ground.chain }, { on := 0, ground := Ground.phase }, { on := 1, ground := Ground.phase }, { on := 2, ground := Ground.phase }, { on := 3, ground := Ground.phase }, { on := 4, ground := Ground.textOnly Departure.lateStores }, { on := 5, ground := Ground.textOnly Departure.lateStores }, { on := 6, ground := Ground.phase }, { on := 7, ground := Ground.phase }], guard := none }, { dst := some 127, op := Op.fieldAddr 39 (Operand.tmp 23) 3, type := 0, pos := "more.go:222", after := #[{ on := 0, ground := Ground.phase }, { on := 1, ground := Ground.phase }, { on := 2, ground := Ground.phase }, { on := 3, ground := Ground.phase }, { on := 4, ground := Ground.phase }, { on := 5, ground := Ground.phase }, { on := 6, ground := Ground.phase }, { on := 7, ground := Ground.phase }, { on := 8, ground := Ground.phase }, { on := 9, ground := Ground.phase }], guard := none }, { dst := none, op := Op.store 9 (Operand.tmp 127) (Operand.tmp 124), type := 0, pos := "more.go:222", after := #[{ on := 10, ground := Ground.data }, { on := 5, ground := Ground.data }, { on := 9, ground := Ground.chain }, { on := 0, ground := Ground.phase }, { on := 1, ground := Ground.phase }, { on := 2, ground := Ground.phase }, { on := 3, ground := Ground.phase }, { on := 4, ground := Ground.phase }, { on := 5, ground := Ground.phase }, { on := 6, ground := Ground.phase }, { on := 7, ground := Ground.phase }, { on := 8, ground := Ground.phase }, { on := 9, ground := Ground.phase }], guard := none }] true).wp Tryd.prog (onlyN K) { tmps := #[u0, u1, u2, u3, u4, u5, .pointer (some ⟨ab, 0, none⟩), u7, u8, u9, u10, u11, u12, u13, u14, u15, u16, u17, u18, u19, u20, u21, u22, .pointer (some ⟨cb, 0, none⟩), u24, u25, u26, u27, u28, u29, u30, u31, u32, u33, u34, u35, u36, u37, u38, u39, u40, u41, u42, u43, u44, u45, u46, u47, u48, u49, u50, u51, u52, u53, u54, u55, u56, u57, u58, u59, u60, u61, u62, u63, u64, u65, u66, u67, u68, u69, u70, u71, u72, u73, u74, u75, u76, u77, u78, u79, u80, u81, u82, u83, u84, u85, u86, u87, u88, u89, u90, u91, u92, u93, u94, u95, u96, u97, u98, u99, u100, u101, u102, u103, u104, u105, u106, u107, u108, u109, u110, u111, u112, u113, u114, u115, u116, u117, u118, u119, u120, u121, u122, u123, u124, u125, u126, u127, u128, u129, u130, u131, u132, u133, u134, u135, u136, u137, u138, u139, u140, u141, u142, u143, u144, u145, u146, u147, u148, u149, u150, u151, u152, u153], defers := ds } W := by
  have HH : Hid _ := h
  have KD := Kept.drew (fun j => j = cb) W
  have hmc : Hid (W.drew.heap[cb]? = some (.cells #[c0, .string k1, .string k2, .string k3, c4, c5, c6, c7, c8] 39 (0, 0))) := hmc0
  have hh : ∀ {V : World} {k : Nat} {v : Value}, Kept (fun j => j = cb) W V → W.cell? ⟨ab, k, none⟩ = some v → V.cell? ⟨ab, k, none⟩ = some v := fun {V k v} KV hc => by
    rw [World.cell?_of_block (w := W) (KV.block _ (World.block_lt_of_cell? W _ hc) hac)]
    exact hc
  have HS : Hid (∀ V, Kept (fun j => j = cb) W.drew V → V.cell? ⟨ab, 1, none⟩ = some (.string i1) ∧ V.cell? ⟨ab, 2, none⟩ = some (.string i2) ∧ V.cell? ⟨ab, 3, none⟩ = some (.string i3)) := fun V KV => ⟨hh (KD.and KV) x0, hh (KD.and KV) x1, hh (KD.and KV) x2⟩
  have HKD : Hid (Kept (fun j => j = cb) W W.drew) := KD
  have hS0 := HS.out W.drew (Kept.refl _ _)
  clear h KD hh hmc0 x0 x1 x2
  refine wp_region_held_drew (S := fun V => V.cell? ⟨ab, 1, none⟩ = some (.string i1) ∧ V.cell? ⟨ab, 2, none⟩ = some (.string i2) ∧ V.cell? ⟨ab, 3, none⟩ = some (.string i3)) (by kernel_rfl) hS0 (fun _ => ?_)
  generalize W.drew = V0 at *
  refine wpAnyH_take (i := 0) (oi := { dst := some 119, op := Op.fieldAddr 39 (Operand.tmp 6) 1, type := 0, pos := "more.go:222", after := #[], guard := none }) (v := ?vv1) rfl (by kernel_rfl) (by kernel_rfl) (by kernel_rfl) (fun _ _ _ h => h) (Or.inl ⟨by rfl, ?hy1⟩) hS0 ?rest1
  case hy1 =>
    intro V hV
    obtain ⟨y0, y1, y2⟩ := hV
    go_simp
    all_goals rfl
  simp only [Act.put, List.setIfInBounds_toArray, List.set_cons_zero, List.set_cons_succ]
  refine wpAnyH_take (i := 1) (oi := { dst := some 120, op := Op.load 9 (Operand.tmp 119), type := 9, pos := "more.go:222", after := #[{ on := 0, ground := Ground.data }], guard := none }) (v := ?vv2) rfl (by kernel_rfl) (by kernel_rfl) (by kernel_rfl) (fun _ _ _ h => h) (Or.inl ⟨by rfl, ?hy2⟩) hS0 ?rest2
  case hy2 =>
    intro V hV
    obtain ⟨y0, y1, y2⟩ := hV
    go_simp
    all_goals rfl
  simp only [Act.put, List.setIfInBounds_toArray, List.set_cons_zero, List.set_cons_succ]
  refine wpAnyH_take (i := 2) (oi := { dst := some 121, op := Op.fieldAddr 39 (Operand.tmp 6) 2, type := 0, pos := "more.go:222", after := #[{ on := 7, ground := Ground.gcOnly Departure.lateStores }], guard := none }) (v := ?vv3) rfl (by kernel_rfl) (by kernel_rfl) (by kernel_rfl) (fun _ _ _ h => h) (Or.inl ⟨by rfl, ?hy3⟩) hS0 ?rest3
  case hy3 =>
    intro V hV
    obtain ⟨y0, y1, y2⟩ := hV
    go_simp
    all_goals rfl
  simp only [Act.put, List.setIfInBounds_toArray, List.set_cons_zero, List.set_cons_succ]
  refine wpAnyH_take (i := 3) (oi := { dst := some 122, op := Op.load 9 (Operand.tmp 121), type := 9, pos := "more.go:222", after := #[{ on := 2, ground := Ground.data }, { on := 7, ground := Ground.gcOnly Departure.lateStores }], guard := none }) (v := ?vv4) rfl (by kernel_rfl) (by kernel_rfl) (by kernel_rfl) (fun _ _ _ h => h) (Or.inl ⟨by rfl, ?hy4⟩) hS0 ?rest4
  case hy4 =>
    intro V hV
    obtain ⟨y0, y1, y2⟩ := hV
    go_simp
    all_goals rfl
  simp only [Act.put, List.setIfInBounds_toArray, List.set_cons_zero, List.set_cons_succ]
  refine wpAnyH_take (i := 4) (oi := { dst := some 123, op := Op.fieldAddr 39 (Operand.tmp 6) 3, type := 0, pos := "more.go:222", after := #[{ on := 9, ground := Ground.gcOnly Departure.lateStores }], guard := none }) (v := ?vv5) rfl (by kernel_rfl) (by kernel_rfl) (by kernel_rfl) (fun _ _ _ h => h) (Or.inl ⟨by rfl, ?hy5⟩) hS0 ?rest5
  case hy5 =>
    intro V hV
    obtain ⟨y0, y1, y2⟩ := hV
    go_simp
    all_goals rfl
  simp only [Act.put, List.setIfInBounds_toArray, List.set_cons_zero, List.set_cons_succ]
  refine wpAnyH_take (i := 5) (oi := { dst := some 124, op := Op.load 9 (Operand.tmp 123), type := 9, pos := "more.go:222", after := #[{ on := 4, ground := Ground.data }, { on := 9, ground := Ground.gcOnly Departure.lateStores }], guard := none }) (v := ?vv6) rfl (by kernel_rfl) (by kernel_rfl) (by kernel_rfl) (fun _ _ _ h => h) (Or.inl ⟨by rfl, ?hy6⟩) hS0 ?rest6
  case hy6 =>
    intro V hV
    obtain ⟨y0, y1, y2⟩ := hV
    go_simp
    all_goals rfl
  simp only [Act.put, List.setIfInBounds_toArray, List.set_cons_zero, List.set_cons_succ]
  refine wpAnyH_take (i := 6) (oi := { dst := some 125, op := Op.fieldAddr 39 (Operand.tmp 23) 1, type := 0, pos := "more.go:222", after := #[{ on := 0, ground := Ground.phase }, { on := 1, ground := Ground.phase }, { on := 2, ground := Ground.textOnly Departure.lateStores }, { on := 3, ground := Ground.textOnly Departure.lateStores }, { on := 4, ground := Ground.textOnly Departure.lateStores }, { on := 5, ground := Ground.textOnly Departure.lateStores }], guard := none }) (v := ?vv7) rfl (by kernel_rfl) (by kernel_rfl) (by kernel_rfl) (fun _ _ _ h => h) (Or.inl ⟨by rfl, ?hy7⟩) hS0 ?rest7
  case hy7 =>
    intro V hV
    obtain ⟨y0, y1, y2⟩ := hV
    go_simp
    all_goals rfl
  simp only [Act.put, List.setIfInBounds_toArray, List.set_cons_zero, List.set_cons_succ]
  refine wpAnyH_ready (rs := [7]) (by kernel_rfl) (by simp) (AllReadyH.cons (o := { dst := none, op := Op.store 9 (Operand.tmp 125) (Operand.tmp 120), type := 0, pos := "more.go:222", after := #[{ on := 6, ground := Ground.data }, { on := 1, ground := Ground.data }, { on := 0, ground := Ground.phase }, { on := 1, ground := Ground.phase }, { on := 2, ground := Ground.textOnly Departure.lateStores }, { on := 3, ground := Ground.textOnly Departure.lateStores }, { on := 4, ground := Ground.textOnly Departure.lateStores }, { on := 5, ground := Ground.textOnly Departure.lateStores }], guard := none }) rfl (fun K' hK => ?_) AllReadyH.nil)
  obtain ⟨g0, f0⟩ := at9_1 hmc.out
  have HM1 := hid (set9_1 hmc.out (.string i1))
  have KS1 := ((Kept.refl (fun j => j = cb) V0)).and (Kept.setCell (S := fun j => j = cb) (V0) ⟨cb, 1, none⟩ (.string i1) rfl)
  go_simp
  refine hK.out _ _ (HS.out _ KS1) (fun _ => ?_)
  clear g0 f0
  clear hK K'
  try (simp only [Act.put, List.setIfInBounds_toArray, List.set_cons_zero, List.set_cons_succ])
  refine wpAnyH_take (i := 8) (oi := { dst := some 126, op := Op.fieldAddr 39 (Operand.tmp 23) 2, type := 0, pos := "more.go:222", after := #[{ on := 0, ground := Ground.phase }, { on := 1, ground := Ground.phase }, { on := 2, ground := Ground.phase }, { on := 3, ground := Ground.phase }, { on := 4, ground := Ground.textOnly Departure.lateStores }, { on := 5, ground := Ground.textOnly Departure.lateStores }, { on := 6, ground := Ground.phase }, { on := 7, ground := Ground.phase }], guard := none }) (v := ?vv8) rfl (by kernel_rfl) (by kernel_rfl) (by kernel_rfl) (fun _ _ _ h => h) (Or.inl ⟨by rfl, ?hy8⟩) (HS.out _ KS1) ?rest8
  case hy8 =>
    intro V hV
    obtain ⟨y0, y1, y2⟩ := hV
    go_simp
    all_goals rfl
  simp only [Act.put, List.setIfInBounds_toArray, List.set_cons_zero, List.set_cons_succ]
  refine wpAnyH_ready (rs := [9]) (by kernel_rfl) (by simp) (AllReadyH.cons (o := { dst := none, op := Op.store 9 (Operand.tmp 126) (Operand.tmp 122), type := 0, pos := "more.go:222", after := #[{ on := 8, ground := Ground.data }, { on := 3, ground := Ground.data }, { on := 7, ground := Ground.chain }, { on := 0, ground := Ground.phase }, { on := 1, ground := Ground.phase }, { on := 2, ground := Ground.phase }, { on := 3, ground := Ground.phase }, { on := 4, ground := Ground.textOnly Departure.lateStores }, { on := 5, ground := Ground.textOnly Departure.lateStores }, { on := 6, ground := Ground.phase }, { on := 7, ground := Ground.phase }], guard := none }) rfl (fun K' hK => ?_) AllReadyH.nil)
  obtain ⟨g0, f0⟩ := at9_2 HM1.out
  have HM2 := hid (set9_2 HM1.out (.string i2))
  have KS2 := (KS1).and (Kept.setCell (S := fun j => j = cb) ((V0.setCell ⟨cb, 1, none⟩ (.string i1))) ⟨cb, 2, none⟩ (.string i2) rfl)
  go_simp
  refine hK.out _ _ (HS.out _ KS2) (fun _ => ?_)
  clear g0 f0
  clear hK K'
  try (simp only [Act.put, List.setIfInBounds_toArray, List.set_cons_zero, List.set_cons_succ])
  refine wpAnyH_take (i := 10) (oi := { dst := some 127, op := Op.fieldAddr 39 (Operand.tmp 23) 3, type := 0, pos := "more.go:222", after := #[{ on := 0, ground := Ground.phase }, { on := 1, ground := Ground.phase }, { on := 2, ground := Ground.phase }, { on := 3, ground := Ground.phase }, { on := 4, ground := Ground.phase }, { on := 5, ground := Ground.phase }, { on := 6, ground := Ground.phase }, { on := 7, ground := Ground.phase }, { on := 8, ground := Ground.phase }, { on := 9, ground := Ground.phase }], guard := none }) (v := ?vv9) rfl (by kernel_rfl) (by kernel_rfl) (by kernel_rfl) (fun _ _ _ h => h) (Or.inl ⟨by rfl, ?hy9⟩) (HS.out _ KS2) ?rest9
  case hy9 =>
    intro V hV
    obtain ⟨y0, y1, y2⟩ := hV
    go_simp
    all_goals rfl
  simp only [Act.put, List.setIfInBounds_toArray, List.set_cons_zero, List.set_cons_succ]
  refine wpAnyH_ready (rs := [11]) (by kernel_rfl) (by simp) (AllReadyH.cons (o := { dst := none, op := Op.store 9 (Operand.tmp 127) (Operand.tmp 124), type := 0, pos := "more.go:222", after := #[{ on := 10, ground := Ground.data }, { on := 5, ground := Ground.data }, { on := 9, ground := Ground.chain }, { on := 0, ground := Ground.phase }, { on := 1, ground := Ground.phase }, { on := 2, ground := Ground.phase }, { on := 3, ground := Ground.phase }, { on := 4, ground := Ground.phase }, { on := 5, ground := Ground.phase }, { on := 6, ground := Ground.phase }, { on := 7, ground := Ground.phase }, { on := 8, ground := Ground.phase }, { on := 9, ground := Ground.phase }], guard := none }) rfl (fun K' hK => ?_) AllReadyH.nil)
  obtain ⟨g0, f0⟩ := at9_3 HM2.out
  have HM3 := hid (set9_3 HM2.out (.string i3))
  have KS3 := (KS2).and (Kept.setCell (S := fun j => j = cb) (((V0.setCell ⟨cb, 1, none⟩ (.string i1)).setCell ⟨cb, 2, none⟩ (.string i2))) ⟨cb, 3, none⟩ (.string i3) rfl)
  go_simp
  refine hK.out _ _ (HS.out _ KS3) (fun _ => ?_)
  clear g0 f0
  clear hK K'
  try (simp only [Act.put, List.setIfInBounds_toArray, List.set_cons_zero, List.set_cons_succ])
  refine wpAnyH_done (by kernel_rfl) ?_ _
  exact HH.out _ _ _ _ _ _ _ _ _ _ HM3.out (HKD.out.and KS3)

end Go.Proofs.YtdecceekodpjiaaDoor

/-
  The laws' own comparing: events and states that are the same; inputs that are clipped; the document's Count.
-/
namespace Go.Proofs.YtdecceekodpjiaaDoor
open Go.RowKit

theorem evF_at {l : List Ev} {i : Nat} (hi : i < l.length) (j : Nat) (hj : j < 4) : (evF l)[i * 4 + j]? = (evC l[i])[j]? := flatMap_at evC_len (List.getElem?_eq_getElem hi) j hj

/-- A row of events at k. -/
theorem flat_ev {w : World} {a : Option Addr} {c : Nat} {l : List Ev} (h : FlatAt w 4 (.slice a l.length c) l.length (evF l)) {k : Nat} (hk : k < l.length) : l.length ≤ c ∧ ∃ b o, a = some ⟨b, o, none⟩ ∧ w.cell? ⟨b, o + k * 4, none⟩ = some (.int .i64 (l[k]).kind) ∧ w.cell? ⟨b, o + k * 4 + 1, none⟩ = some (.string (l[k]).node) ∧ w.cell? ⟨b, o + k * 4 + 2, none⟩ = some (.string (l[k]).text) ∧ w.cell? ⟨b, o + k * 4 + 3, none⟩ = some (.int .i64 (l[k]).num) := by
  obtain ⟨_, a', c', e, hc, _, hr⟩ := h
  obtain ⟨rfl, rfl⟩ : a = a' ∧ c = c' := by simpa using e
  rcases hr with h0 | ⟨b, o, rfl, hcell⟩
  · omega
  · have at_ : ∀ j, j < 4 → ∀ u, (evC l[k])[j]? = some u → w.cell? ⟨b, o + k * 4 + j, none⟩ = some u := fun j hj u hu => by
      rw [Nat.add_assoc]
      exact hcell _ u (by rw [evF_at hk j hj]; exact hu)
    exact ⟨hc, b, o, rfl, at_ 0 (by decide) _ rfl, at_ 1 (by decide) _ rfl, at_ 2 (by decide) _ rfl, at_ 3 (by decide) _ rfl⟩

set_option maxRecDepth 100000 in
set_option maxHeartbeats 4000000 in
theorem eventsSame_any (w : World) (a1 a2 : Option Addr) (c1 c2 : Nat) (l : List Ev) (h1 : FlatAt w 4 (.slice a1 l.length c1) l.length (evF l)) (h2 : FlatAt w 4 (.slice a2 l.length c2) l.length (evF l)) :
    Calls Tryd.prog 13 #[.slice a1 l.length c1, .slice a2 l.length c2] w fun e w' => e = .returned (.bool true) ∧ Kept (fun _ => False) w w' := by
  have H1 := hid h1
  have H2 := hid h2
  have hm : l.length ≤ 9223372036854775807 := by
    obtain ⟨_, a', c', e, hc, hm, _⟩ := h1
    have : maxLen = 9223372036854775807 := rfl
    omega
  clear h1 h2
  have e0 : ((l.length : Int) != (l.length : Int)) = false := by simp
  go_enter Tryd.func13, Tryd.ntmps13
  go_wp2_with fail
  go_loopw [5] (fun q wr => ∃ (k : Nat), k ≤ l.length ∧ q = .int .i64 k ∧ Kept (fun _ => False) w wr) (fun q _ => l.length - (intOf q).toNat)
  case atStart => exact ⟨0, Nat.zero_le _, rfl, Kept.refl _ _⟩
  case round =>
    obtain ⟨k, hk, rfl, K⟩ := hrel
    by_cases hlk : k < l.length
    · have e1 : (k : Int) < (l.length : Int) := by omega
      obtain ⟨z1, b1, o1, rfl, x0, x1, x2, x3⟩ := flat_ev (H1.out.new K) hlk
      obtain ⟨z2, b2, o2, rfl, y0, y1, y2, y3⟩ := flat_ev (H2.out.new K) hlk
      have w1 : IntKind.i64.wrap (k : Int) = (k : Int) := by rw [IntKind.wrap_i64]; omega
      have HK := hid K
      clear K
      generalize l[k] = x at *
      go_wp2_with (first | go_quiet (fail) | fail)
      go_roundw
      case rel => exact ⟨k + 1, by omega, by go_num, HK.out.and (Kept.drewN _ _ _)⟩
      case measure => simp [intOf]; omega
    · obtain rfl : k = l.length := by omega
      have e1 : ¬ (l.length : Int) < (l.length : Int) := by omega
      go_wp2_with fail
      go_ret
      exact ⟨rfl, K⟩

set_option maxRecDepth 100000 in
set_option maxHeartbeats 1000000 in
theorem eventsNil_any (w : World) (a1 a2 : Option Addr) (c1 c2 : Nat) :
    Calls Tryd.prog 13 #[.slice a1 0 c1, .slice a2 0 c2] w fun e w' => e = .returned (.bool true) ∧ Kept (fun _ => False) w w' := by
  go_enter Tryd.func13, Tryd.ntmps13
  go_wp2_with fail
  go_loopw [5] (fun q wr => q = .int .i64 0 ∧ wr = w) (fun _ _ => 0)
  case atStart => exact ⟨rfl, rfl⟩
  case round =>
    obtain ⟨rfl, rfl⟩ := hrel
    go_wp2_with fail
    go_ret
    exact ⟨rfl, Kept.refl _ _⟩

theorem flat_ns {w : World} {a : Option Addr} {c : Nat} {l : List Ns} (h : FlatAt w 3 (.slice a l.length c) l.length (nsF l)) {k : Nat} (hk : k < l.length) : l.length ≤ c ∧ ∃ b o, a = some ⟨b, o, none⟩ ∧ w.cell? ⟨b, o + k * 3, none⟩ = some (.int .i64 (l[k]).status) ∧ w.cell? ⟨b, o + k * 3 + 1, none⟩ = some (.int .i64 (l[k]).tr) ∧ w.cell? ⟨b, o + k * 3 + 2, none⟩ = some (.string (l[k]).text) := by
  obtain ⟨_, a', c', e, hc, _, hr⟩ := h
  obtain ⟨rfl, rfl⟩ : a = a' ∧ c = c' := by simpa using e
  rcases hr with h0 | ⟨b, o, rfl, hcell⟩
  · omega
  · have at_ : ∀ j, j < 3 → ∀ u, (nsC l[k])[j]? = some u → w.cell? ⟨b, o + k * 3 + j, none⟩ = some u := fun j hj u hu => by
      rw [Nat.add_assoc]
      exact hcell _ u (by rw [show (nsF l)[k * 3 + j]? = (nsC l[k])[j]? from flatMap_at nsC_len (List.getElem?_eq_getElem hk) j hj]; exact hu)
    exact ⟨hc, b, o, rfl, at_ 0 (by decide) _ rfl, at_ 1 (by decide) _ rfl, at_ 2 (by decide) _ rfl⟩

theorem flat_sg {w : World} {a : Option Addr} {c : Nat} {l : List Sg} (h : FlatAt w 2 (.slice a l.length c) l.length (sgF l)) {k : Nat} (hk : k < l.length) : l.length ≤ c ∧ ∃ b o, a = some ⟨b, o, none⟩ ∧ w.cell? ⟨b, o + k * 2, none⟩ = some (.string (l[k]).name) ∧ w.cell? ⟨b, o + k * 2 + 1, none⟩ = some (.string (l[k]).text) := by
  obtain ⟨_, a', c', e, hc, _, hr⟩ := h
  obtain ⟨rfl, rfl⟩ : a = a' ∧ c = c' := by simpa using e
  rcases hr with h0 | ⟨b, o, rfl, hcell⟩
  · omega
  · have at_ : ∀ j, j < 2 → ∀ u, (sgC l[k])[j]? = some u → w.cell? ⟨b, o + k * 2 + j, none⟩ = some u := fun j hj u hu => by
      rw [Nat.add_assoc]
      exact hcell _ u (by rw [show (sgF l)[k * 2 + j]? = (sgC l[k])[j]? from flatMap_at sgC_len (List.getElem?_eq_getElem hk) j hj]; exact hu)
    exact ⟨hc, b, o, rfl, at_ 0 (by decide) _ rfl, at_ 1 (by decide) _ rfl⟩

set_option maxRecDepth 100000 in
set_option maxHeartbeats 4000000 in
theorem stateSame_any (w : World) (s : St) (a6 : Option Addr) (c6 : Nat) (a7 : Option Addr) (c7 : Nat) (b6 : Option Addr) (d6 : Nat) (b7 : Option Addr) (d7 : Nat) (R1 : StRd w s (.slice a6 s.nodes.length c6) (.slice a7 s.sigs.length c7)) (R2 : StRd w s (.slice b6 s.nodes.length d6) (.slice b7 s.sigs.length d7)) :
    Calls Tryd.prog 14 #[.agg #[.string s.dfn, .string s.id, .string s.par, .string s.pnode, .int .i64 s.status, .string s.text, .slice a6 s.nodes.length c6, .slice a7 s.sigs.length c7, .int .i64 s.events], .agg #[.string s.dfn, .string s.id, .string s.par, .string s.pnode, .int .i64 s.status, .string s.text, .slice b6 s.nodes.length d6, .slice b7 s.sigs.length d7, .int .i64 s.events]] w fun e w' => e = .returned (.bool true) ∧ Kept (fun _ => False) w w' := by
  have h6 := R1.few6
  have h7 := R1.few7
  have K2 : Kept (fun _ => False) w ((w.alloc (.cells #[.string s.dfn, .string s.id, .string s.par, .string s.pnode, .int .i64 s.status, .string s.text, .slice a6 s.nodes.length c6, .slice a7 s.sigs.length c7, .int .i64 s.events] 39)).alloc (.cells #[.string s.dfn, .string s.id, .string s.par, .string s.pnode, .int .i64 s.status, .string s.text, .slice b6 s.nodes.length d6, .slice b7 s.sigs.length d7, .int .i64 s.events] 39)) := (Kept.alloc _ _ _).and (Kept.alloc _ _ _)
  have b1 := ((Kept.alloc (fun _ => False) (w.alloc (.cells #[.string s.dfn, .string s.id, .string s.par, .string s.pnode, .int .i64 s.status, .string s.text, .slice a6 s.nodes.length c6, .slice a7 s.sigs.length c7, .int .i64 s.events] 39)) (.cells #[.string s.dfn, .string s.id, .string s.par, .string s.pnode, .int .i64 s.status, .string s.text, .slice b6 s.nodes.length d6, .slice b7 s.sigs.length d7, .int .i64 s.events] 39)).block w.heap.size (by simp) (fun h => h)).trans (heap_alloc_new _ _)
  have b2 := heap_alloc_new (w.alloc (.cells #[.string s.dfn, .string s.id, .string s.par, .string s.pnode, .int .i64 s.status, .string s.text, .slice a6 s.nodes.length c6, .slice a7 s.sigs.length c7, .int .i64 s.events] 39)) (.cells #[.string s.dfn, .string s.id, .string s.par, .string s.pnode, .int .i64 s.status, .string s.text, .slice b6 s.nodes.length d6, .slice b7 s.sigs.length d7, .int .i64 s.events] 39)
  rw [World.size_alloc] at b2
  obtain ⟨⟨_, _, _, _, _, _, p6, p7, _⟩, _⟩ := nine b1
  obtain ⟨⟨_, _, _, _, _, _, q6, q7, _⟩, _⟩ := nine b2
  have H1 := hid (R1.new K2)
  have H2 := hid (R2.new K2)
  have HP := hid p6
  have HP7 := hid p7
  have HQ := hid q6
  have HQ7 := hid q7
  have HK2 := hid K2
  clear R1 R2 b1 b2 p6 p7 q6 q7 K2
  go_enter Tryd.func14, Tryd.ntmps14
  go_wp2_with fail
  generalize ((w.alloc (.cells #[.string s.dfn, .string s.id, .string s.par, .string s.pnode, .int .i64 s.status, .string s.text, .slice a6 s.nodes.length c6, .slice a7 s.sigs.length c7, .int .i64 s.events] 39)).alloc (.cells #[.string s.dfn, .string s.id, .string s.par, .string s.pnode, .int .i64 s.status, .string s.text, .slice b6 s.nodes.length d6, .slice b7 s.sigs.length d7, .int .i64 s.events] 39)) = W2 at *
  go_loopw [5] (fun q wr => ∃ (k : Nat), k ≤ s.nodes.length ∧ q = .int .i64 k ∧ Kept (fun _ => False) W2 wr) (fun q _ => s.nodes.length - (intOf q).toNat)
  case atStart => exact ⟨0, Nat.zero_le _, rfl, Kept.refl _ _⟩
  case round =>
    obtain ⟨k, hk, rfl, K⟩ := hrel
    have m1 := keepC K HP.out (fun _ _ h => h)
    have m2 := keepC K HQ.out (fun _ _ h => h)
    by_cases hlk : k < s.nodes.length
    · have e1 : (k : Int) < (s.nodes.length : Int) := by omega
      obtain ⟨z1, g1, o1, rfl, x0, x1, x2⟩ := flat_ns (H1.out.nodes.new K) hlk
      obtain ⟨z2, g2, o2, rfl, y0, y1, y2⟩ := flat_ns (H2.out.nodes.new K) hlk
      have w1 : IntKind.i64.wrap (k : Int) = (k : Int) := by rw [IntKind.wrap_i64]; omega
      have HK := hid K
      clear K
      generalize s.nodes[k] = x at *
      go_wp2_with (first | go_quiet (fail) | fail)
      go_roundw
      case rel => exact ⟨k + 1, by omega, by go_num, HK.out.and (Kept.drewN _ _ _)⟩
      case measure => simp [intOf]; omega
    · obtain rfl : k = s.nodes.length := by omega
      have e1 : ¬ (s.nodes.length : Int) < (s.nodes.length : Int) := by omega
      have HK := hid K
      clear K
      obtain ⟨W3, hW3⟩ : ∃ W3, W3 = wr := ⟨_, rfl⟩
      subst hW3
      go_wp2_with fail
      go_loopw [6] (fun q wr => ∃ (k : Nat), k ≤ s.sigs.length ∧ q = .int .i64 k ∧ Kept (fun _ => False) W2 wr) (fun q _ => s.sigs.length - (intOf q).toNat)
      case atStart => exact ⟨0, Nat.zero_le _, rfl, HK.out⟩
      case round =>
        obtain ⟨k, hk, rfl, K⟩ := hrel
        have m3 := keepC K HP7.out (fun _ _ h => h)
        have m4 := keepC K HQ7.out (fun _ _ h => h)
        by_cases hlk : k < s.sigs.length
        · have e1 : (k : Int) < (s.sigs.length : Int) := by omega
          obtain ⟨z1, g1, o1, rfl, x0, x1⟩ := flat_sg (H1.out.sigs.new K) hlk
          obtain ⟨z2, g2, o2, rfl, y0, y1⟩ := flat_sg (H2.out.sigs.new K) hlk
          have w1 : IntKind.i64.wrap (k : Int) = (k : Int) := by rw [IntKind.wrap_i64]; omega
          have HK' := hid K
          clear K
          generalize s.sigs[k] = x at *
          go_wp2_with (first | go_quiet (fail) | fail)
          go_roundw
          case rel => exact ⟨k + 1, by omega, by go_num, HK'.out.and (Kept.drewN _ _ _)⟩
          case measure => simp [intOf]; omega
        · obtain rfl : k = s.sigs.length := by omega
          have e1 : ¬ (s.sigs.length : Int) < (s.sigs.length : Int) := by omega
          have HK' := hid K
          clear K
          go_wp2_with fail
          go_ret
          exact ⟨rfl, HK2.out.and HK'.out⟩

/-- An input, clipped. -/
def clipQ (q : Inp) : Inp := { q with text := if 300 < q.text.size then q.text.extract 0 300 else q.text, name := if 300 < q.name.size then q.name.extract 0 300 else q.name, now := q.now % 1125899906842625 }

theorem clipQ_text (q : Inp) : (clipQ q).text.size ≤ 300 := by
  unfold clipQ
  dsimp only
  split
  · rw [ByteArray.size_extract]; omega
  · omega

theorem clipQ_name (q : Inp) : (clipQ q).name.size ≤ 300 := by
  unfold clipQ
  dsimp only
  split
  · rw [ByteArray.size_extract]; omega
  · omega

set_option maxRecDepth 100000 in
set_option maxHeartbeats 4000000 in
theorem clip_any (w : World) (q : Inp) (hWi : ∀ V, Calls Tryd.prog 7 #[.int .i64 q.now, .int .i64 1125899906842625] V fun e w' => e = .returned (.int .i64 (q.now % 1125899906842625)) ∧ w' = V) :
    Calls Tryd.prog 12 #[.agg #[.int .i64 q.kind, .string q.node, .string q.name, .string q.text, .int .i64 q.tr, .int .i64 q.status, .int .i64 q.now, .string q.par, .string q.pnode]] w fun e w' => e = .returned (.agg #[.int .i64 q.kind, .string q.node, .string (clipQ q).name, .string (clipQ q).text, .int .i64 q.tr, .int .i64 q.status, .int .i64 (clipQ q).now, .string q.par, .string q.pnode]) ∧ Kept (fun _ => False) w w' := by
  unfold clipQ
  dsimp only
  generalize q.now % 1125899906842625 = now' at *
  by_cases h1 : 300 < q.text.size
  · have e1 : (300 : Int) < (q.text.size : Int) := by omega
    rw [if_pos h1]
    by_cases h2 : 300 < q.name.size
    · have e2 : (300 : Int) < (q.name.size : Int) := by omega
      rw [if_pos h2]
      go_enter Tryd.func12, Tryd.ntmps12
      go_wp2_with (first
        | (go_at_call 7; refine (hWi _).mono ?_; rintro e w1 ⟨rfl, rfl⟩; clear hWi)
        | fail)
      refine bodyPost_ret (by simp [results, Tryd.results12, go_sem]; try rfl) rfl ?_
      exact ⟨rfl, (Kept.alloc _ _ _).and (Kept.alloc _ _ _)⟩
    · have e2 : ¬ (300 : Int) < (q.name.size : Int) := by omega
      rw [if_neg h2]
      go_enter Tryd.func12, Tryd.ntmps12
      go_wp2_with (first
        | (go_at_call 7; refine (hWi _).mono ?_; rintro e w1 ⟨rfl, rfl⟩; clear hWi)
        | fail)
      refine bodyPost_ret (by simp [results, Tryd.results12, go_sem]; try rfl) rfl ?_
      exact ⟨rfl, (Kept.alloc _ _ _).and (Kept.alloc _ _ _)⟩
  · have e1 : ¬ (300 : Int) < (q.text.size : Int) := by omega
    rw [if_neg h1]
    by_cases h2 : 300 < q.name.size
    · have e2 : (300 : Int) < (q.name.size : Int) := by omega
      rw [if_pos h2]
      go_enter Tryd.func12, Tryd.ntmps12
      go_wp2_with (first
        | (go_at_call 7; refine (hWi _).mono ?_; rintro e w1 ⟨rfl, rfl⟩; clear hWi)
        | fail)
      refine bodyPost_ret (by simp [results, Tryd.results12, go_sem]; try rfl) rfl ?_
      exact ⟨rfl, (Kept.alloc _ _ _).and (Kept.alloc _ _ _)⟩
    · have e2 : ¬ (300 : Int) < (q.name.size : Int) := by omega
      rw [if_neg h2]
      go_enter Tryd.func12, Tryd.ntmps12
      go_wp2_with (first
        | (go_at_call 7; refine (hWi _).mono ?_; rintro e w1 ⟨rfl, rfl⟩; clear hWi)
        | fail)
      refine bodyPost_ret (by simp [results, Tryd.results12, go_sem]; try rfl) rfl ?_
      exact ⟨rfl, (Kept.alloc _ _ _).and (Kept.alloc _ _ _)⟩

set_option maxRecDepth 100000 in
set_option maxHeartbeats 4000000 in
theorem refCount_any (w : World) (s : St) (a6 : Option Addr) (c6 : Nat) (v7 : Value) (R : StRd w s (.slice a6 s.nodes.length c6) v7) :
    Calls Tryd.prog 15 #[.agg #[.string s.dfn, .string s.id, .string s.par, .string s.pnode, .int .i64 s.status, .string s.text, .slice a6 s.nodes.length c6, v7, .int .i64 s.events]] w fun e w' => e = .returned (.tuple #[.int .i64 (overC s.nodes : Nat), .int .i64 (restC s.nodes : Nat)]) ∧ Kept (fun _ => False) w w' := by
  have h6 := R.few6
  have K0 := Kept.alloc (fun _ => False) w (.cells #[.string s.dfn, .string s.id, .string s.par, .string s.pnode, .int .i64 s.status, .string s.text, .slice a6 s.nodes.length c6, v7, .int .i64 s.events] 39)
  obtain ⟨⟨_, _, _, _, _, _, p6, _, _⟩, _⟩ := nine (heap_alloc_new w (.cells #[.string s.dfn, .string s.id, .string s.par, .string s.pnode, .int .i64 s.status, .string s.text, .slice a6 s.nodes.length c6, v7, .int .i64 s.events] 39))
  have H1 := hid (R.nodes.new K0)
  have HP := hid p6
  have HK0 := hid K0
  have Hsum : Hid (overC s.nodes + restC s.nodes = s.nodes.length) := by
    show _ = _
    unfold overC restC
    have h := List.length_eq_countP_add_countP (l := s.nodes) (fun x : Ns => x.status == 3)
    rw [h]
    congr 1
    apply List.countP_congr
    intro y _
    cases (y.status == 3) <;> simp
  clear R K0 p6
  go_enter Tryd.func15, Tryd.ntmps15
  go_wp2_with fail
  generalize (w.alloc (.cells #[.string s.dfn, .string s.id, .string s.par, .string s.pnode, .int .i64 s.status, .string s.text, .slice a6 s.nodes.length c6, v7, .int .i64 s.events] 39)) = W2 at *
  go_loopw [4, 5] (fun n q wr => ∃ (k : Nat), k ≤ s.nodes.length ∧ q = .int .i64 k ∧ n = .int .i64 (overC (s.nodes.take k) : Nat) ∧ Kept (fun _ => False) W2 wr) (fun _ q _ => s.nodes.length - (intOf q).toNat)
  case atStart => exact ⟨0, Nat.zero_le _, rfl, rfl, Kept.refl _ _⟩
  case round =>
    obtain ⟨k, hk, rfl, rfl, K⟩ := hrel
    have m1 := keepC K HP.out (fun _ _ h => h)
    by_cases hlk : k < s.nodes.length
    · have e1 : (k : Int) < (s.nodes.length : Int) := by omega
      obtain ⟨z1, g1, o1, rfl, x0, x1, x2⟩ := flat_ns (H1.out.new K) hlk
      have bo : overC (s.nodes.take k) ≤ k := Nat.le_trans List.countP_le_length (by rw [List.length_take]; omega)
      have n1 : overC (s.nodes.take (k + 1)) = overC (s.nodes.take k) + if ((s.nodes[k]).status == 3) = true then 1 else 0 := by
        unfold overC
        rw [List.take_succ_eq_append_getElem hlk, List.countP_append, List.countP_cons, List.countP_nil, Nat.zero_add]
      have HN1 := hid n1
      have HK := hid K
      clear K n1
      generalize overC (s.nodes.take k) = p at *
      cases hs : ((s.nodes[k]).status == 3) with
      | true =>
        have HX : Hid (overC (s.nodes.take (k + 1)) = p + 1) := by show _ = _; rw [HN1.out, hs]; rfl
        generalize s.nodes[k] = x at *
        go_wp2_with (first | go_quiet (fail) | fail)
        go_roundw
        case rel => exact ⟨k + 1, by omega, by go_num, by rw [HX.out]; go_num, HK.out⟩
        case measure => simp [intOf]; omega
      | false =>
        have HX : Hid (overC (s.nodes.take (k + 1)) = p) := by show _ = _; rw [HN1.out, hs]; rfl
        generalize s.nodes[k] = x at *
        go_wp2_with (first | go_quiet (fail) | fail)
        go_roundw
        case rel => exact ⟨k + 1, by omega, by go_num, by rw [HX.out], HK.out⟩
        case measure => simp [intOf]; omega
    · obtain rfl : k = s.nodes.length := by omega
      have e1 : ¬ (s.nodes.length : Int) < (s.nodes.length : Int) := by omega
      have HK := hid K
      have hs := Hsum.out
      rw [List.take_length]
      clear K
      have hw : IntKind.i64.wrap ((s.nodes.length : Int) - (overC s.nodes : Int)) = (restC s.nodes : Int) := by rw [IntKind.wrap_i64]; omega
      have Hw := hid hw
      generalize hp : overC s.nodes = p at *
      generalize hr : restC s.nodes = r at *
      have Hp := hid hp
      have Hr := hid hr
      have Hs : Hid ((s.nodes.length : Int) - (p : Int) = (r : Int)) := by show _ = _; omega
      clear hw hp hr
      go_wp2_with (first | go_quiet (fail) | fail)
      go_ret2
      refine ⟨?_, (HK0.out.and HK.out).and (Kept.drewN _ _ _)⟩
      rw [Hp.out, Hr.out, ← Hs.out]
      rfl

end Go.Proofs.YtdecceekodpjiaaDoor
