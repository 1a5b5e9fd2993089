/-
  The function that Walk makes: it tells the nodes in order, each a copy.
-/
import Derived.Test.YtlholgpenpfpbaaGreatDoorB07
import Derived.Test.YtlholgpenpfpbaaGreatDoorRows
import Derived.Test.YtlholgpenpfpbaaGreatDoorCards
import Derived.Test.YtlholgpenpfpbaaGreatDoorTie
import Derived.RegionIn
import Derived.Deep.Strs
import Derived.ProofKit
import Derived.LaidMore
import Derived.OpenShut
import Derived.SevenTiedAt
import Derived.Deep.Slices
namespace Go.Proofs.YtlholgpenpfpbaaGreatDoor
open Go.RowKit Go.Shelf
attribute [local go_sem] Oper.semAt_some

/-- Nodes of memory are fine. -/
theorem NodesAt.fine {w : World} {a : Option Addr} {ns : List Nd} (C : NodesAt w a ns) : ∀ n ∈ ns, NdOk n ∧ ∀ s ∈ n.after, s.size ≤ maxLen := by
  intro n hn
  refine ⟨C.1 n hn, ?_⟩
  rcases C.2 with h | ⟨b, o, h, hc⟩
  · subst h; simp at hn
  · obtain ⟨i, hi, rfl⟩ := List.mem_iff_getElem.1 hn
    obtain ⟨v, ⟨_, _, _, _, _, _, h5⟩, _⟩ := hc i hi
    exact h5

set_option maxRecDepth 100000 in
set_option maxHeartbeats 2000000 in
theorem walk_in (n : Nat) (lp pb qb B : Nat) (od : List Nat) (ns : List Nd) (J : Nat → World → Prop) (Jx : World → Prop) (W : World) (T : WalkAt B W pb qb od ns) (hod : ∀ i ∈ od, i < ns.length) (hfine : ∀ n ∈ ns, NdOk n ∧ ∀ s ∈ n.after, s.size ≤ maxLen) (hlen : od.length ≤ 1000000) (hJ : ∀ k A C, J k A → Kept (fun _ => False) A C → J k C)
    (hY : ∀ (k i : Nat) (nd : Nd) (W1 : World) (a' : Option Addr) (c' : Nat), J k W1 → od[k]? = some i → ns[i]? = some nd → TextsAt W1 (.slice a' nd.after.length c') nd.after → YieldAt Fence.wide n Tryz.prog lp #[.int .i64 (i : Nat), .agg #[.string nd.name, .int .i64 nd.kind, .string nd.arg, .string nd.to, .int .i64 nd.delay, .int .i64 nd.tries, .slice a' nd.after.length c']] W1 fun e W' => (e = .returned (.bool true) ∧ J (k + 1) W' ∧ W1.heap.size ≤ W'.heap.size ∧ ∀ g, B ≤ g → g < W.heap.size → W'.heap[g]? = W1.heap[g]?) ∨ (e = .returned (.bool false) ∧ Jx W'))
    (h0 : J 0 W) :
    CallsIn Fence.wide n Tryz.prog 53 #[.func (.yield lp) #[] #[], .pointer (some ⟨pb, 0, none⟩), .pointer (some ⟨qb, 0, none⟩)] W fun e W' => (∃ v, e = .returned v) ∧ (J od.length W' ∨ Jx W') := by
  have HY : Hid _ := hY
  have HT : Hid (WalkAt B W pb qb od ns) := T
  obtain ⟨ao, co, hp, O⟩ := T.po
  have HO : Hid (W.ownsRow B 3 1 (.slice ao od.length co) od.length (natsV od)) := O
  have hp0 := (oneC hp).1
  clear hY T O hp
  refine callsIn_of_wp Tryz.func53 rfl trivial ?_ rfl
  simp only [Tryz.ntmps53, List.size_toArray, List.length_cons, List.length_nil, Nat.reduceAdd, Nat.reduceSub, Array.replicate_succ, Array.replicate_zero, List.push_toArray, List.append_toArray, List.nil_append, List.cons_append]
  gi_wp2
  gi_loopw [8] (fun p wr => ∃ (k : Nat), p = .int .i64 (k : Nat) ∧ k ≤ od.length ∧ J k wr ∧ W.heap.size ≤ wr.heap.size ∧ ∀ g, B ≤ g → g < W.heap.size → wr.heap[g]? = W.heap[g]?) (fun p _ => od.length - (Go.RowKit.intOf p).toNat)
  case atStart => exact ⟨0, rfl, Nat.zero_le _, h0, Nat.le_refl _, fun _ _ _ => rfl⟩
  case round =>
    clear h0 hp0
    obtain ⟨k, rfl, hk, hJs, hsz, hsame⟩ := hrel
    by_cases hlt : k < od.length
    · have T2 := HT.out.keep hsame
      have HS : Hid (∀ g, B ≤ g → g < W.heap.size → wr.heap[g]? = W.heap[g]?) := hsame
      have hik := hod _ (List.getElem_mem hlt)
      have ho2 := ownsRow_keep (w' := wr) HO.out (fun g hg => hsame g (HO.out.lt g hg).1 (HO.out.lt g hg).2)
      obtain ⟨g0, rfl⟩ : ∃ g, ao = some ⟨g, 0, none⟩ := by
        rcases ho2.2 with ⟨e, h0⟩ | ⟨g, _, _, e, _⟩
        · omega
        · simp only [Value.slice.injEq] at e
          exact ⟨g, e.1⟩
      have hcl := ho2.cellAt k (by omega)
      rw [show (natsV od)[k]? = some (.int .i64 ((od[k] : Nat) : Int)) by simp [natsV, hlt]] at hcl
      obtain ⟨an, cn, hq, N⟩ := T2.qo
      have NA := N.at hfine
      have hq0 := (oneC hq).1
      obtain ⟨b, o, av, cv, rfl, hT, c0, c1, c2, c3, c4, c5, c6⟩ := NA.at hik
      have hx := List.getElem?_eq_getElem hik
      have hko := List.getElem?_eq_getElem hlt
      have hok := (hfine _ (List.getElem_mem hik))
      have hCp := copied_any wr (ns[od[k]]).name (ns[od[k]]).kind (ns[od[k]]).arg (ns[od[k]]).to (ns[od[k]]).delay (ns[od[k]]).tries (ns[od[k]]).after av cv hT hok.1.few
      have g1 : (k : Int) < (od.length : Int) := by omega
      have g2 : ((od[k] : Nat) : Int) < (ns.length : Int) := by omega
      have HYk : Hid (∀ W1 a' c', J k W1 → TextsAt W1 (.slice a' (ns[od[k]]).after.length c') (ns[od[k]]).after → _) := fun W1 a' c' h1 h2 => HY.out k od[k] ns[od[k]] W1 a' c' h1 hko hx h2
      have HSm : Hid (∀ s ∈ (ns[od[k]]).after, s.size ≤ maxLen) := hok.2
      clear hT NA N hq T2 ho2 hx hko hok hsame
      generalize ns[od[k]] = x at *
      generalize od[k] = i at *
      gi_wp2
      refine ⟨trivial, fun h => (by simp [Fence.wide] at h), ?_⟩
      refine (callsIn_wide.2 hCp).mono ?_
      rintro e w5 ⟨a5, c5', rfl, O5, K5⟩
      clear hCp
      obtain ⟨fn, tmps, assign, body, hy, hR⟩ := YieldAt.wide (m' := n - 1) (HYk.out w5 a5 c5' (hJ k wr w5 hJs K5) (texts_of_row O5 HSm.out))
      have hz5 := K5.size
      have HK5 : Hid (∀ g, g < wr.heap.size → w5.heap[g]? = wr.heap[g]?) := fun g hg => K5.block g hg (fun h => h)
      clear O5 K5 hcl hq0 c0 c1 c2 c3 c4 c5 c6 HYk HSm
      simp only []
      gi_wp2
      refine ⟨fun h => (by simp [Fence.wide] at h), ?_⟩
      refine hR.mono ?_
      rintro e W3 (⟨rfl, hJ3, hsz3, hk3⟩ | ⟨rfl, hJx3⟩)
      · have HS3 : Hid (∀ g, B ≤ g → g < W.heap.size → W3.heap[g]? = W.heap[g]?) := fun g h1 h2 => (hk3 g h1 h2).trans ((HK5.out g (by omega)).trans (HS.out g h1 h2))
        have hz3 : W.heap.size ≤ W3.heap.size := by omega
        clear hk3 hsz3
        gi_wp2
        go_roundw
        case rel => exact ⟨k + 1, by simp, by omega, hJ3, hz3, HS3.out⟩
        case measure => simp [Go.RowKit.intOf]; omega
      · gi_wp2
        refine bodyPost_ret (results_none rfl _ _ _) rfl ?_
        exact ⟨⟨_, rfl⟩, .inr hJx3⟩
    · obtain rfl : k = od.length := by omega
      gi_wp2
      go_end0
      exact ⟨⟨_, rfl⟩, .inl hJs⟩

end Go.Proofs.YtlholgpenpfpbaaGreatDoor

/-
  Depth: rows of nodes as data, and what stands between the rounds over Walk.
-/
namespace Go.Proofs.YtlholgpenpfpbaaGreatDoor
open Go.RowKit Go.Shelf

/-- The number that a name stands for in the table of the first nodes (0: of none). -/
def fj (ns : List Nd) (s : ByteArray) : Nat := (findP ns s).getD 0
/-- The longest row that ends with one of some names, and none shorter than a. -/
def curP (ns : List Nd) (row : Nat → Nat) (i a : Nat) (l : List ByteArray) : Nat := l.foldl (fun a s => max a (if fj ns s = i then a else row (fj ns s))) a

/-- One node more is told. -/
def depStep (ns : List Nd) (st : (Nat → Nat) × Nat) (i : Nat) : (Nat → Nat) × Nat := match ns[i]? with
  | none => st
  | some n => (fun x => if x = i then curP ns st.1 i (st.1 i) n.after + 1 else st.1 x, max st.2 (curP ns st.1 i (st.1 i) n.after + 1))

def depK (ns : List Nd) (od : List Nat) : (Nat → Nat) × Nat := od.foldl (depStep ns) (fun _ => 0, 0)
/-- How many nodes the longest row has. -/
def depP (ns : List Nd) : Nat := (depK ns (ordP ns)).2

theorem curP_snoc (ns : List Nd) (row : Nat → Nat) (i a : Nat) (l : List ByteArray) (s : ByteArray) : curP ns row i a (l ++ [s]) = max (curP ns row i a l) (if fj ns s = i then curP ns row i a l else row (fj ns s)) := by
  unfold curP
  rw [List.foldl_append]
  rfl

theorem curP_le {ns : List Nd} {row : Nat → Nat} {i m : Nat} (h : ∀ x, row x ≤ m) : ∀ (l : List ByteArray) (a : Nat), a ≤ m → curP ns row i a l ≤ m
  | [], a, ha => ha
  | s :: l, a, ha => by
    show curP ns row i (max a (if fj ns s = i then a else row (fj ns s))) l ≤ m
    refine curP_le h l _ ?_
    have := h (fj ns s)
    split <;> omega

theorem depK_snoc (ns : List Nd) (od : List Nat) (i : Nat) : depK ns (od ++ [i]) = depStep ns (depK ns od) i := by
  unfold depK
  rw [List.foldl_append]
  rfl

theorem depK_le (ns : List Nd) (od : List Nat) : ∀ k, (∀ x, (depK ns (od.take k)).1 x ≤ k) ∧ (depK ns (od.take k)).2 ≤ k
  | 0 => by simp [depK]
  | k + 1 => by
    obtain ⟨h1, h2⟩ := depK_le ns od k
    by_cases hk : k < od.length
    · rw [List.take_add_one, List.getElem?_eq_getElem hk, Option.toList_some, depK_snoc]
      unfold depStep
      cases ns[od[k]]? with
      | none => exact ⟨fun x => Nat.le_succ_of_le (h1 x), Nat.le_succ_of_le h2⟩
      | some n =>
        have hc := curP_le (ns := ns) (i := od[k]) h1 n.after _ (h1 od[k])
        refine ⟨fun x => ?_, by show max _ _ ≤ _; omega⟩
        show (if x = od[k] then _ else _) ≤ _
        have := h1 x
        split <;> omega
    · rw [List.take_of_length_le (by omega)]
      rw [List.take_of_length_le (by omega)] at h1 h2
      exact ⟨fun x => by have := h1 x; omega, by omega⟩

/-- Between the rounds: the table's box, the row and its box, the longest, the mark, the loop's record. -/
structure DJ (w1 w2 : World) (ns : List Nd) (mb : Nat) (r : Loop) (W : World) (row : Nat → Nat) (lng : Nat) : Prop where
  fb : W.heap[w1.heap.size]? = some (.cells #[.map (some mb)] 67 (0, 0))
  row : W.rowIs (w1.heap.size + 1) 3 ns.length (fun x => .int .i64 (row x : Nat))
  rc : W.heap[w1.heap.size + 2]? = some (.cells #[.slice (some ⟨w1.heap.size + 1, 0, none⟩) ns.length ns.length] 50 (0, 0))
  lb : W.heap[w1.heap.size + 3]? = some (.cells #[.int .i64 (lng : Nat)] 3 (0, 0))
  dm : W.heap[w2.heap.size]? = some (.deferred (some []))
  lp : W.heap[w2.heap.size + 1]? = some (.loop r)
  kp : Kept (fun j => w1.heap.size ≤ j) w1 W
  mid : ∀ g, w1.heap.size + 4 ≤ g → g < w2.heap.size → W.heap[g]? = w2.heap[g]?
  big : w1.heap.size + 4 ≤ w2.heap.size
  sz : w2.heap.size + 2 ≤ W.heap.size

section
variable {w1 w2 W V : World} {ns : List Nd} {mb : Nat} {r : Loop} {row : Nat → Nat} {lng : Nat}

theorem DJ.keep (J : DJ w1 w2 ns mb r W row lng) (K : Kept (fun _ => False) W V) : DJ w1 w2 ns mb r V row lng := by
  have h : ∀ {i o}, W.heap[i]? = some o → V.heap[i]? = some o := fun {i o} hh => (K.block i (Array.getElem?_eq_some_iff.1 hh).1 (fun h => h)).trans hh
  have hb := J.big
  have hs := J.sz
  exact ⟨h J.fb, J.row.of_block (K.block _ J.row.lt (fun h => h)), h J.rc, h J.lb, h J.dm, h J.lp, J.kp.and (K.mono (fun _ h => h.elim)), fun g h1 h2 => (K.block g (by omega) (fun h => h)).trans (J.mid g h1 h2), J.big, Nat.le_trans J.sz K.size⟩

theorem DJ.put (J : DJ w1 w2 ns mb r W row lng) (r' : Loop) : DJ w1 w2 ns mb r' (W.putObj (w2.heap.size + 1) (.loop r')) row lng := by
  have K : Kept (fun j => j = w2.heap.size + 1) W (W.putObj (w2.heap.size + 1) (.loop r')) := Kept.putObj _ _ _ rfl
  have hl := (Array.getElem?_eq_some_iff.1 J.lp).1
  have hb := J.big
  have h : ∀ {i o}, i ≠ w2.heap.size + 1 → W.heap[i]? = some o → (W.putObj (w2.heap.size + 1) (.loop r')).heap[i]? = some o := fun {i o} hn hh => (K.block i (Array.getElem?_eq_some_iff.1 hh).1 hn).trans hh
  refine ⟨h (by omega) J.fb, J.row.of_block (K.block _ J.row.lt (by omega)), h (by omega) J.rc, h (by omega) J.lb, h (by omega) J.dm, ?_, J.kp.and (K.mono (fun j h => by omega)), fun g h1 h2 => (K.block g (by have := J.sz; omega) (by omega)).trans (J.mid g h1 h2), J.big, by simpa [World.putObj] using J.sz⟩
  simp [World.putObj, hl]

theorem DJ.setRow (J : DJ w1 w2 ns mb r W row lng) (i z : Nat) {zi : Int} (hz : zi = ((z : Nat) : Int)) : DJ w1 w2 ns mb r (W.setCell ⟨w1.heap.size + 1, i, none⟩ (.int .i64 zi)) (fun x => if x = i then z else row x) lng := by
  subst hz
  have K : Kept (fun j => j = w1.heap.size + 1) W (W.setCell ⟨w1.heap.size + 1, i, none⟩ (.int .i64 (z : Nat))) := Kept.setCell _ _ _ rfl
  have hb := J.big
  have h : ∀ {k o}, k ≠ w1.heap.size + 1 → W.heap[k]? = some o → (W.setCell ⟨w1.heap.size + 1, i, none⟩ (.int .i64 (z : Nat))).heap[k]? = some o := fun {k o} hn hh => (K.block k (Array.getElem?_eq_some_iff.1 hh).1 hn).trans hh
  exact ⟨h (by omega) J.fb, (J.row.set i _).congr (fun q _ => by split <;> rfl), h (by omega) J.rc, h (by omega) J.lb, h (by omega) J.dm, h (by omega) J.lp, J.kp.and (K.mono (fun j h => by omega)), fun g h1 h2 => (K.block g (by have := J.sz; omega) (by omega)).trans (J.mid g h1 h2), J.big, by simpa [World.setCell] using J.sz⟩

theorem DJ.setLng (J : DJ w1 w2 ns mb r W row lng) (z : Nat) {zi : Int} (hz : zi = ((z : Nat) : Int)) : DJ w1 w2 ns mb r (W.setCell ⟨w1.heap.size + 3, 0, none⟩ (.int .i64 zi)) row z := by
  subst hz
  have K : Kept (fun j => j = w1.heap.size + 3) W (W.setCell ⟨w1.heap.size + 3, 0, none⟩ (.int .i64 (z : Nat))) := Kept.setCell _ _ _ rfl
  have hb := J.big
  have h : ∀ {k o}, k ≠ w1.heap.size + 3 → W.heap[k]? = some o → (W.setCell ⟨w1.heap.size + 3, 0, none⟩ (.int .i64 (z : Nat))).heap[k]? = some o := fun {k o} hn hh => (K.block k (Array.getElem?_eq_some_iff.1 hh).1 hn).trans hh
  exact ⟨h (by omega) J.fb, J.row.of_block (K.block _ J.row.lt (by omega)), h (by omega) J.rc, by simp [World.setCell, Array.getElem?_modify, J.lb], h (by omega) J.dm, h (by omega) J.lp, J.kp.and (K.mono (fun j h => by omega)), fun g h1 h2 => (K.block g (by have := J.sz; omega) (by omega)).trans (J.mid g h1 h2), J.big, by simpa [World.setCell] using J.sz⟩

theorem DJ.is (J : DJ w1 w2 ns mb r W row lng) {row' : Nat → Nat} {lng' : Nat} (h1 : ∀ x, row x = row' x) (h2 : lng = lng') : DJ w1 w2 ns mb r W row' lng' := by
  have : row = row' := funext h1
  subst this h2
  exact J

/-- Texts stay where they are while numbers, the longest and the record are written. -/
theorem texts_stay {W1 : World} (J : DJ w1 w2 ns mb r W1 row lng) {a : Option Addr} {c : Nat} {l : List ByteArray} (h : TextsAt W1 (.slice a l.length c) l) (hV : ∀ g, g < W1.heap.size → g ≠ w1.heap.size + 1 → g ≠ w1.heap.size + 3 → g ≠ w2.heap.size + 1 → V.heap[g]? = W1.heap[g]?) : TextsAt V (.slice a l.length c) l := by
  obtain ⟨a', c', e, h1, h2, h3, h4⟩ := h
  refine ⟨a', c', e, h1, h2, ?_, h4⟩
  rcases h3 with h | ⟨b, o, rfl, hc⟩
  · exact .inl h
  · refine .inr ⟨b, o, rfl, fun j u hu => ?_⟩
    have hcell := hc j u hu
    have hlt := World.block_lt_of_cell? W1 _ hcell
    have hu2 : ∃ s, u = .string s := by
      rw [List.getElem?_map] at hu
      cases hs : l[j]? with
      | none => rw [hs] at hu; cases hu
      | some s => rw [hs] at hu; exact ⟨s, (Option.some.inj hu).symm⟩
    obtain ⟨s, rfl⟩ := hu2
    have e1 : b ≠ w1.heap.size + 1 := by
      intro e
      subst e
      by_cases hj : o + j < ns.length
      · rw [J.row.cell hj] at hcell; cases hcell
      · obtain ⟨cs, hb, hn, _⟩ := J.row
        simp [World.cell?, hb] at hcell
        have := (Array.getElem?_eq_some_iff.1 hcell).1
        omega
    have e2 : b ≠ w1.heap.size + 3 := by
      intro e
      subst e
      rw [World.cell?] at hcell
      simp only [J.lb] at hcell
      cases ho : o + j with
      | zero => rw [ho] at hcell; simp at hcell
      | succ q => rw [ho] at hcell; simp at hcell
    have e3 : b ≠ w2.heap.size + 1 := by
      intro e
      subst e
      simp [World.cell?, J.lp] at hcell
    rw [World.cell?_of_block (w := W1) (hV b hlt e1 e2 e3)]
    exact hcell

end

end Go.Proofs.YtlholgpenpfpbaaGreatDoor

/-
  Depth: the longest row so far.
-/
namespace Go.Proofs.YtlholgpenpfpbaaGreatDoor
open Go.RowKit Go.Shelf
attribute [local go_sem] Oper.semAt_some

set_option maxRecDepth 100000 in
set_option maxHeartbeats 2000000 in
theorem dep13 {W : World} {lb rc rb n i x y : Nat} {m r : Nat} {ds : List Deferred} {u0 u1 u2 u3 u7 u8 u9 u10 u11 u12 u13 u14 u15 u16 u17 u18 u19 u20 u21 u22 u23 u24 u25 u26 u27 u28 u29 u30 u31 u32 u33 u34 u35 u36 u37 u38 u39 u40 u41 u42 u43 u44 u45 u46 u47 u48 u49 u50 u51 u52 u53 u54 : Value} (K : Act → World → Prop) (hc : W.drew.cell? ⟨rc, 0, none⟩ = some (.slice (some ⟨rb, 0, none⟩) n n)) (hx : W.drew.cell? ⟨lb, 0, none⟩ = some (.int .i64 (x : Nat))) (hy : W.drew.cell? ⟨rb, i, none⟩ = some (.int .i64 (y : Nat))) (hz : W.drew.frozen? ⟨lb, 0, none⟩ = false) (hi : (i : Int) < (n : Int))
    (h : ∀ (v48 v49 v50 v51 v52 v53 : Value), K { tmps := #[u0, u1, u2, u3, .pointer (some ⟨rc, 0, none⟩), .pointer (some ⟨lb, 0, none⟩), .int .i64 (i : Nat), u7, u8, u9, u10, u11, u12, u13, u14, u15, u16, u17, u18, u19, u20, u21, u22, u23, u24, u25, u26, u27, u28, u29, u30, u31, u32, u33, u34, u35, u36, u37, u38, u39, u40, u41, u42, u43, u44, u45, u46, u47, v48, v49, v50, v51, v52, v53, u54], defers := ds } (W.drew.setCell ⟨lb, 0, none⟩ (.int .i64 (max (x : Int) (y : Int))))) :
    (Code.region 13 #[{ dst := some 48, op := Op.load 3 (Operand.tmp 5), type := 3, pos := "order.go:108", after := #[], guard := none }, { dst := some 49, op := Op.load 50 (Operand.tmp 4), type := 50, pos := "order.go:108", after := #[], guard := none }, { dst := some 50, op := Op.move (Operand.tmp 6), type := 3, pos := "order.go:108", after := #[], guard := none }, { dst := some 51, op := Op.indexAddr 50 (Operand.tmp 49) (Operand.tmp 50), type := 0, pos := "order.go:108", after := #[{ on := 1, ground := Ground.data }, { on := 2, ground := Ground.data }], guard := none }, { dst := some 52, op := Op.load 3 (Operand.tmp 51), type := 3, pos := "order.go:108", after := #[{ on := 3, ground := Ground.data }], guard := none }, { dst := some 53, op := Op.call { callee := Callee.builtin Builtin.max, args := #[Operand.tmp 48, Operand.tmp 52], argTypes := #[3, 3] }, type := 3, pos := "order.go:108", after := #[{ on := 0, ground := Ground.data }, { on := 4, ground := Ground.data }], guard := none }, { dst := none, op := Op.store 3 (Operand.tmp 5) (Operand.tmp 53), type := 0, pos := "order.go:108", after := #[{ on := 5, ground := Ground.data }, { on := 0, ground := Ground.phase }, { on := 1, ground := Ground.phase }, { on := 2, ground := Ground.phase }, { on := 3, ground := Ground.phase }, { on := 4, ground := Ground.phase }, { on := 5, ground := Ground.phase }], guard := none }] true).wpIn (Fence.wide.inRound r) m Tryz.prog (nrm K) { tmps := #[u0, u1, u2, u3, .pointer (some ⟨rc, 0, none⟩), .pointer (some ⟨lb, 0, none⟩), .int .i64 (i : Nat), u7, u8, u9, u10, u11, u12, u13, u14, u15, u16, u17, u18, u19, u20, u21, u22, u23, u24, u25, u26, u27, u28, u29, u30, u31, u32, u33, u34, u35, u36, u37, u38, u39, u40, u41, u42, u43, u44, u45, u46, u47, u48, u49, u50, u51, u52, u53, u54], defers := ds } W := by
  have HH : Hid _ := h
  clear h
  gi_region
  all_goals exact HH.out _ _ _ _ _ _

end Go.Proofs.YtlholgpenpfpbaaGreatDoor

/-
  Depth: a row that ends with a node ahead is held against the longest so far.
-/
namespace Go.Proofs.YtlholgpenpfpbaaGreatDoor
open Go.RowKit Go.Shelf

set_option maxRecDepth 100000 in
set_option maxHeartbeats 2000000 in
theorem dep10 {W : World} {fb rc rb mb n i j x y : Nat} {s : ByteArray} {m r : Nat} {ds : List Deferred} {u0 u1 u2 u5 u7 u8 u10 u11 u12 u13 u14 u15 u16 u17 u18 u19 u20 u21 u22 u23 u24 u25 u26 u27 u28 u29 u30 u31 u32 u33 u34 u35 u36 u37 u38 u39 u40 u41 u42 u43 u44 u45 u46 u47 u48 u49 u50 u51 u52 u53 u54 : Value} (K : Act → World → Prop)
    (hS : ∀ V, V = W.drew ∨ V = W.drew.setCell ⟨rb, i, none⟩ (.int .i64 (max (x : Int) (y : Int))) → V.cell? ⟨rc, 0, none⟩ = some (.slice (some ⟨rb, 0, none⟩) n n) ∧ V.cell? ⟨fb, 0, none⟩ = some (.map (some mb)) ∧ (Instr.lookup 67 (.map (some mb)) (.string s) false).run Tryz.prog V = .ok (.int .i64 (j : Nat)) V)
    (hx : W.drew.cell? ⟨rb, i, none⟩ = some (.int .i64 (x : Nat))) (hy : W.drew.cell? ⟨rb, j, none⟩ = some (.int .i64 (y : Nat))) (hz : W.drew.frozen? ⟨rb, i, none⟩ = false) (hi : (i : Int) < (n : Int)) (hj : (j : Int) < (n : Int))
    (h : ∀ (v27 v28 v29 v30 v31 v32 v33 v34 v35 v36 v37 v38 v39 v40 : Value), K { tmps := #[u0, u1, u2, .pointer (some ⟨fb, 0, none⟩), .pointer (some ⟨rc, 0, none⟩), u5, .int .i64 (i : Nat), u7, u8, .string s, u10, u11, u12, u13, u14, u15, u16, u17, u18, u19, u20, u21, u22, u23, u24, u25, u26, v27, v28, v29, v30, v31, v32, v33, v34, v35, v36, v37, v38, v39, v40, u41, u42, u43, u44, u45, u46, u47, u48, u49, u50, u51, u52, u53, u54], defers := ds } (W.drew.setCell ⟨rb, i, none⟩ (.int .i64 (max (x : Int) (y : Int))))) :
    (Code.region 10 #[{ dst := some 27, op := Op.load 50 (Operand.tmp 4), type := 50, pos := "order.go:105", after := #[], guard := none }, { dst := some 28, op := Op.move (Operand.tmp 6), type := 3, pos := "order.go:105", after := #[], guard := none }, { dst := some 29, op := Op.load 50 (Operand.tmp 4), type := 50, pos := "order.go:105", after := #[], guard := none }, { dst := some 30, op := Op.move (Operand.tmp 6), type := 3, pos := "order.go:105", after := #[], guard := none }, { dst := some 31, op := Op.indexAddr 50 (Operand.tmp 29) (Operand.tmp 30), type := 0, pos := "order.go:105", after := #[{ on := 2, ground := Ground.data }, { on := 3, ground := Ground.data }], guard := none }, { dst := some 32, op := Op.load 3 (Operand.tmp 31), type := 3, pos := "order.go:105", after := #[{ on := 4, ground := Ground.data }], guard := none }, { dst := some 33, op := Op.load 50 (Operand.tmp 4), type := 50, pos := "order.go:105", after := #[], guard := none }, { dst := some 34, op := Op.load 67 (Operand.tmp 3), type := 67, pos := "order.go:105", after := #[], guard := none }, { dst := some 35, op := Op.move (Operand.tmp 9), type := 9, pos := "order.go:105", after := #[], guard := none }, { dst := some 36, op := Op.lookup 67 (Operand.tmp 34) (Operand.tmp 35) false, type := 3, pos := "order.go:105", after := #[{ on := 7, ground := Ground.data }, { on := 8, ground := Ground.data }], guard := none }, { dst := some 37, op := Op.indexAddr 50 (Operand.tmp 33) (Operand.tmp 36), type := 0, pos := "order.go:105", after := #[{ on := 6, ground := Ground.data }, { on := 9, ground := Ground.data }], guard := none }, { dst := some 38, op := Op.load 3 (Operand.tmp 37), type := 3, pos := "order.go:105", after := #[{ on := 10, ground := Ground.data }], guard := none }, { dst := some 39, op := Op.call { callee := Callee.builtin Builtin.max, args := #[Operand.tmp 32, Operand.tmp 38], argTypes := #[3, 3] }, type := 3, pos := "order.go:105", after := #[{ on := 5, ground := Ground.data }, { on := 11, ground := Ground.data }], guard := none }, { dst := some 40, op := Op.indexAddr 50 (Operand.tmp 27) (Operand.tmp 28), type := 0, pos := "order.go:105", after := #[{ on := 0, ground := Ground.data }, { on := 1, ground := Ground.data }, { on := 0, ground := Ground.phase }, { on := 1, ground := Ground.phase }, { on := 2, ground := Ground.phase }, { on := 3, ground := Ground.phase }, { on := 4, ground := Ground.phase }, { on := 5, ground := Ground.phase }, { on := 6, ground := Ground.phase }, { on := 7, ground := Ground.phase }, { on := 8, ground := Ground.phase }, { on := 9, ground := Ground.phase }, { on := 10, ground := Ground.phase }, { on := 11, ground := Ground.phase }, { on := 12, ground := Ground.phase }], guard := none }, { dst := none, op := Op.store 3 (Operand.tmp 40) (Operand.tmp 39), type := 0, pos := "order.go:105", after := #[{ on := 13, ground := Ground.data }, { on := 12, ground := Ground.data }, { on := 0, ground := Ground.phase }, { on := 1, ground := Ground.phase }, { on := 2, ground := Ground.phase }, { on := 3, ground := Ground.phase }, { on := 4, ground := Ground.phase }, { on := 5, ground := Ground.phase }, { on := 6, ground := Ground.phase }, { on := 7, ground := Ground.phase }, { on := 8, ground := Ground.phase }, { on := 9, ground := Ground.phase }, { on := 10, ground := Ground.phase }, { on := 11, ground := Ground.phase }, { on := 12, ground := Ground.phase }], guard := none }] true).wpIn (Fence.wide.inRound r) m Tryz.prog (nrm K) { tmps := #[u0, u1, u2, .pointer (some ⟨fb, 0, none⟩), .pointer (some ⟨rc, 0, none⟩), u5, .int .i64 (i : Nat), u7, u8, .string s, u10, u11, u12, u13, u14, u15, u16, u17, u18, u19, u20, u21, u22, u23, u24, u25, u26, u27, u28, u29, u30, u31, u32, u33, u34, u35, u36, u37, u38, u39, u40, u41, u42, u43, u44, u45, u46, u47, u48, u49, u50, u51, u52, u53, u54], defers := ds } W := by
  have HH : Hid _ := h
  have HS : Hid _ := hS
  have g1 : (0 : Int) ≤ (i : Int) := by omega
  have g2 : (0 : Int) ≤ (j : Int) := by omega
  clear h hS
  refine region_round_held (fun V => V = W.drew ∨ V = W.drew.setCell ⟨rb, i, none⟩ (.int .i64 (max (x : Int) (y : Int)))) (by kernel_rfl) (by kernel_rfl) (nrm_out _) ?_
  refine wpAnyH_take (i := 0) (oi := { dst := some 27, op := Op.load 50 (Operand.tmp 4), type := 50, pos := "order.go:105", after := #[], guard := none }) (v := ?vvt0) rfl (by kernel_rfl) (by kernel_rfl) (by kernel_rfl) (fun _ _ _ h => h) (Or.inl ⟨by rfl, ?hyt0⟩) (Or.inl rfl) ?restt0
  case hyt0 =>
    intro V hV
    obtain ⟨hc, hf, hl⟩ := HS.out V hV
    go_simp
    all_goals rfl
  simp only [Act.put, List.setIfInBounds_toArray, List.set_cons_zero, List.set_cons_succ]
  refine wpAnyH_take (i := 1) (oi := { dst := some 28, op := Op.move (Operand.tmp 6), type := 3, pos := "order.go:105", after := #[], guard := none }) (v := ?vvt1) rfl (by kernel_rfl) (by kernel_rfl) (by kernel_rfl) (fun _ _ _ h => h) (Or.inl ⟨by rfl, ?hyt1⟩) (Or.inl rfl) ?restt1
  case hyt1 =>
    intro V hV
    obtain ⟨hc, hf, hl⟩ := HS.out V hV
    go_simp
    all_goals rfl
  simp only [Act.put, List.setIfInBounds_toArray, List.set_cons_zero, List.set_cons_succ]
  refine wpAnyH_take (i := 2) (oi := { dst := some 29, op := Op.load 50 (Operand.tmp 4), type := 50, pos := "order.go:105", after := #[], guard := none }) (v := ?vvt2) rfl (by kernel_rfl) (by kernel_rfl) (by kernel_rfl) (fun _ _ _ h => h) (Or.inl ⟨by rfl, ?hyt2⟩) (Or.inl rfl) ?restt2
  case hyt2 =>
    intro V hV
    obtain ⟨hc, hf, hl⟩ := HS.out V hV
    go_simp
    all_goals rfl
  simp only [Act.put, List.setIfInBounds_toArray, List.set_cons_zero, List.set_cons_succ]
  refine wpAnyH_take (i := 3) (oi := { dst := some 30, op := Op.move (Operand.tmp 6), type := 3, pos := "order.go:105", after := #[], guard := none }) (v := ?vvt3) rfl (by kernel_rfl) (by kernel_rfl) (by kernel_rfl) (fun _ _ _ h => h) (Or.inl ⟨by rfl, ?hyt3⟩) (Or.inl rfl) ?restt3
  case hyt3 =>
    intro V hV
    obtain ⟨hc, hf, hl⟩ := HS.out V hV
    go_simp
    all_goals rfl
  simp only [Act.put, List.setIfInBounds_toArray, List.set_cons_zero, List.set_cons_succ]
  refine wpAnyH_take (i := 4) (oi := { dst := some 31, op := Op.indexAddr 50 (Operand.tmp 29) (Operand.tmp 30), type := 0, pos := "order.go:105", after := #[{ on := 2, ground := Ground.data }, { on := 3, ground := Ground.data }], guard := none }) (v := ?vvt4) rfl (by kernel_rfl) (by kernel_rfl) (by kernel_rfl) (fun _ _ _ h => h) (Or.inl ⟨by rfl, ?hyt4⟩) (Or.inl rfl) ?restt4
  case hyt4 =>
    intro V hV
    obtain ⟨hc, hf, hl⟩ := HS.out V hV
    go_simp
    all_goals rfl
  simp only [Act.put, List.setIfInBounds_toArray, List.set_cons_zero, List.set_cons_succ]
  refine wpAnyH_take (i := 6) (oi := { dst := some 33, op := Op.load 50 (Operand.tmp 4), type := 50, pos := "order.go:105", after := #[], guard := none }) (v := ?vvt6) rfl (by kernel_rfl) (by kernel_rfl) (by kernel_rfl) (fun _ _ _ h => h) (Or.inl ⟨by rfl, ?hyt6⟩) (Or.inl rfl) ?restt6
  case hyt6 =>
    intro V hV
    obtain ⟨hc, hf, hl⟩ := HS.out V hV
    go_simp
    all_goals rfl
  simp only [Act.put, List.setIfInBounds_toArray, List.set_cons_zero, List.set_cons_succ]
  refine wpAnyH_take (i := 7) (oi := { dst := some 34, op := Op.load 67 (Operand.tmp 3), type := 67, pos := "order.go:105", after := #[], guard := none }) (v := ?vvt7) rfl (by kernel_rfl) (by kernel_rfl) (by kernel_rfl) (fun _ _ _ h => h) (Or.inl ⟨by rfl, ?hyt7⟩) (Or.inl rfl) ?restt7
  case hyt7 =>
    intro V hV
    obtain ⟨hc, hf, hl⟩ := HS.out V hV
    go_simp
    all_goals rfl
  simp only [Act.put, List.setIfInBounds_toArray, List.set_cons_zero, List.set_cons_succ]
  refine wpAnyH_take (i := 8) (oi := { dst := some 35, op := Op.move (Operand.tmp 9), type := 9, pos := "order.go:105", after := #[], guard := none }) (v := ?vvt8) rfl (by kernel_rfl) (by kernel_rfl) (by kernel_rfl) (fun _ _ _ h => h) (Or.inl ⟨by rfl, ?hyt8⟩) (Or.inl rfl) ?restt8
  case hyt8 =>
    intro V hV
    obtain ⟨hc, hf, hl⟩ := HS.out V hV
    go_simp
    all_goals rfl
  simp only [Act.put, List.setIfInBounds_toArray, List.set_cons_zero, List.set_cons_succ]
  refine wpAnyH_take (i := 9) (oi := { dst := some 36, op := Op.lookup 67 (Operand.tmp 34) (Operand.tmp 35) false, type := 3, pos := "order.go:105", after := #[{ on := 7, ground := Ground.data }, { on := 8, ground := Ground.data }], guard := none }) (v := ?vvt9) rfl (by kernel_rfl) (by kernel_rfl) (by kernel_rfl) (fun _ _ _ h => h) (Or.inl ⟨by rfl, ?hyt9⟩) (Or.inl rfl) ?restt9
  case hyt9 =>
    intro V hV
    obtain ⟨hc, hf, hl⟩ := HS.out V hV
    go_simp
    all_goals rfl
  simp only [Act.put, List.setIfInBounds_toArray, List.set_cons_zero, List.set_cons_succ]
  refine wpAnyH_take (i := 10) (oi := { dst := some 37, op := Op.indexAddr 50 (Operand.tmp 33) (Operand.tmp 36), type := 0, pos := "order.go:105", after := #[{ on := 6, ground := Ground.data }, { on := 9, ground := Ground.data }], guard := none }) (v := ?vvt10) rfl (by kernel_rfl) (by kernel_rfl) (by kernel_rfl) (fun _ _ _ h => h) (Or.inl ⟨by rfl, ?hyt10⟩) (Or.inl rfl) ?restt10
  case hyt10 =>
    intro V hV
    obtain ⟨hc, hf, hl⟩ := HS.out V hV
    go_simp
    all_goals rfl
  simp only [Act.put, List.setIfInBounds_toArray, List.set_cons_zero, List.set_cons_succ]
  refine wpAnyH_ready (rs := [5, 11]) (by kernel_rfl) (by simp) (AllReadyH.cons (o := { dst := some 32, op := Op.load 3 (Operand.tmp 31), type := 3, pos := "order.go:105", after := #[{ on := 4, ground := Ground.data }], guard := none }) rfl (fun K' hK => ?ra) (AllReadyH.cons (o := { dst := some 38, op := Op.load 3 (Operand.tmp 37), type := 3, pos := "order.go:105", after := #[{ on := 10, ground := Ground.data }], guard := none }) rfl (fun K' hK => ?rb) AllReadyH.nil))
  case ra =>
    rw [if_pos (by simp [Region.wanted])]
    unfold Oper.wp
    go_simp
    refine hK.out _ _ (Or.inl rfl) (fun _ => ?_)
    clear hK K'
    try simp only [Act.put, List.setIfInBounds_toArray, List.set_cons_zero, List.set_cons_succ]
    refine wpAnyH_ready (rs := [11]) (by kernel_rfl) (by simp) (AllReadyH.cons (o := { dst := some 38, op := Op.load 3 (Operand.tmp 37), type := 3, pos := "order.go:105", after := #[{ on := 10, ground := Ground.data }], guard := none }) rfl (fun K' hK => ?_) AllReadyH.nil)
    rw [if_pos (by simp [Region.wanted])]
    unfold Oper.wp
    go_simp
    refine hK.out _ _ (Or.inl rfl) (fun _ => ?_)
    clear hK K'
    try simp only [Act.put, List.setIfInBounds_toArray, List.set_cons_zero, List.set_cons_succ]
    refine wpAnyH_take (i := 12) (oi := { dst := some 39, op := Op.call { callee := Callee.builtin Builtin.max, args := #[Operand.tmp 32, Operand.tmp 38], argTypes := #[3, 3] }, type := 3, pos := "order.go:105", after := #[{ on := 5, ground := Ground.data }, { on := 11, ground := Ground.data }], guard := none }) (v := ?vvma) rfl (by kernel_rfl) (by kernel_rfl) (by kernel_rfl) (fun _ _ _ h => h) (Or.inl ⟨by rfl, ?hyma⟩) (Or.inl rfl) ?restma
    case hyma =>
      intro V hV
      obtain ⟨hc, hf, hl⟩ := HS.out V hV
      go_simp
      all_goals rfl
    simp only [Act.put, List.setIfInBounds_toArray, List.set_cons_zero, List.set_cons_succ]
    refine wpAnyH_take (i := 13) (oi := { dst := some 40, op := Op.indexAddr 50 (Operand.tmp 27) (Operand.tmp 28), type := 0, pos := "order.go:105", after := #[{ on := 0, ground := Ground.data }, { on := 1, ground := Ground.data }, { on := 0, ground := Ground.phase }, { on := 1, ground := Ground.phase }, { on := 2, ground := Ground.phase }, { on := 3, ground := Ground.phase }, { on := 4, ground := Ground.phase }, { on := 5, ground := Ground.phase }, { on := 6, ground := Ground.phase }, { on := 7, ground := Ground.phase }, { on := 8, ground := Ground.phase }, { on := 9, ground := Ground.phase }, { on := 10, ground := Ground.phase }, { on := 11, ground := Ground.phase }, { on := 12, ground := Ground.phase }], guard := none }) (v := ?vvna) rfl (by kernel_rfl) (by kernel_rfl) (by kernel_rfl) (fun _ _ _ h => h) (Or.inl ⟨by rfl, ?hyna⟩) (Or.inl rfl) ?restna
    case hyna =>
      intro V hV
      obtain ⟨hc, hf, hl⟩ := HS.out V hV
      go_simp
      all_goals rfl
    simp only [Act.put, List.setIfInBounds_toArray, List.set_cons_zero, List.set_cons_succ]
    refine wpAnyH_ready (rs := [14]) (by kernel_rfl) (by simp) (AllReadyH.cons (o := { dst := none, op := Op.store 3 (Operand.tmp 40) (Operand.tmp 39), type := 0, pos := "order.go:105", after := #[{ on := 13, ground := Ground.data }, { on := 12, ground := Ground.data }, { on := 0, ground := Ground.phase }, { on := 1, ground := Ground.phase }, { on := 2, ground := Ground.phase }, { on := 3, ground := Ground.phase }, { on := 4, ground := Ground.phase }, { on := 5, ground := Ground.phase }, { on := 6, ground := Ground.phase }, { on := 7, ground := Ground.phase }, { on := 8, ground := Ground.phase }, { on := 9, ground := Ground.phase }, { on := 10, ground := Ground.phase }, { on := 11, ground := Ground.phase }, { on := 12, ground := Ground.phase }], guard := none }) rfl (fun K' hK => ?_) AllReadyH.nil)
    rw [if_pos (by simp [Region.wanted])]
    unfold Oper.wp
    go_simp
    refine hK.out _ _ (Or.inr rfl) (fun _ => ?_)
    clear hK K'
    try simp only [Act.put, List.setIfInBounds_toArray, List.set_cons_zero, List.set_cons_succ]
    refine wpAnyH_done (by kernel_rfl) ?_ _
    exact HH.out _ _ _ _ _ _ _ _ _ _ _ _ _ _
  case rb =>
    rw [if_pos (by simp [Region.wanted])]
    unfold Oper.wp
    go_simp
    refine hK.out _ _ (Or.inl rfl) (fun _ => ?_)
    clear hK K'
    try simp only [Act.put, List.setIfInBounds_toArray, List.set_cons_zero, List.set_cons_succ]
    refine wpAnyH_ready (rs := [5]) (by kernel_rfl) (by simp) (AllReadyH.cons (o := { dst := some 32, op := Op.load 3 (Operand.tmp 31), type := 3, pos := "order.go:105", after := #[{ on := 4, ground := Ground.data }], guard := none }) rfl (fun K' hK => ?_) AllReadyH.nil)
    rw [if_pos (by simp [Region.wanted])]
    unfold Oper.wp
    go_simp
    refine hK.out _ _ (Or.inl rfl) (fun _ => ?_)
    clear hK K'
    try simp only [Act.put, List.setIfInBounds_toArray, List.set_cons_zero, List.set_cons_succ]
    refine wpAnyH_take (i := 12) (oi := { dst := some 39, op := Op.call { callee := Callee.builtin Builtin.max, args := #[Operand.tmp 32, Operand.tmp 38], argTypes := #[3, 3] }, type := 3, pos := "order.go:105", after := #[{ on := 5, ground := Ground.data }, { on := 11, ground := Ground.data }], guard := none }) (v := ?vvmb) rfl (by kernel_rfl) (by kernel_rfl) (by kernel_rfl) (fun _ _ _ h => h) (Or.inl ⟨by rfl, ?hymb⟩) (Or.inl rfl) ?restmb
    case hymb =>
      intro V hV
      obtain ⟨hc, hf, hl⟩ := HS.out V hV
      go_simp
      all_goals rfl
    simp only [Act.put, List.setIfInBounds_toArray, List.set_cons_zero, List.set_cons_succ]
    refine wpAnyH_take (i := 13) (oi := { dst := some 40, op := Op.indexAddr 50 (Operand.tmp 27) (Operand.tmp 28), type := 0, pos := "order.go:105", after := #[{ on := 0, ground := Ground.data }, { on := 1, ground := Ground.data }, { on := 0, ground := Ground.phase }, { on := 1, ground := Ground.phase }, { on := 2, ground := Ground.phase }, { on := 3, ground := Ground.phase }, { on := 4, ground := Ground.phase }, { on := 5, ground := Ground.phase }, { on := 6, ground := Ground.phase }, { on := 7, ground := Ground.phase }, { on := 8, ground := Ground.phase }, { on := 9, ground := Ground.phase }, { on := 10, ground := Ground.phase }, { on := 11, ground := Ground.phase }, { on := 12, ground := Ground.phase }], guard := none }) (v := ?vvnb) rfl (by kernel_rfl) (by kernel_rfl) (by kernel_rfl) (fun _ _ _ h => h) (Or.inl ⟨by rfl, ?hynb⟩) (Or.inl rfl) ?restnb
    case hynb =>
      intro V hV
      obtain ⟨hc, hf, hl⟩ := HS.out V hV
      go_simp
      all_goals rfl
    simp only [Act.put, List.setIfInBounds_toArray, List.set_cons_zero, List.set_cons_succ]
    refine wpAnyH_ready (rs := [14]) (by kernel_rfl) (by simp) (AllReadyH.cons (o := { dst := none, op := Op.store 3 (Operand.tmp 40) (Operand.tmp 39), type := 0, pos := "order.go:105", after := #[{ on := 13, ground := Ground.data }, { on := 12, ground := Ground.data }, { on := 0, ground := Ground.phase }, { on := 1, ground := Ground.phase }, { on := 2, ground := Ground.phase }, { on := 3, ground := Ground.phase }, { on := 4, ground := Ground.phase }, { on := 5, ground := Ground.phase }, { on := 6, ground := Ground.phase }, { on := 7, ground := Ground.phase }, { on := 8, ground := Ground.phase }, { on := 9, ground := Ground.phase }, { on := 10, ground := Ground.phase }, { on := 11, ground := Ground.phase }, { on := 12, ground := Ground.phase }], guard := none }) rfl (fun K' hK => ?_) AllReadyH.nil)
    rw [if_pos (by simp [Region.wanted])]
    unfold Oper.wp
    go_simp
    refine hK.out _ _ (Or.inr rfl) (fun _ => ?_)
    clear hK K'
    try simp only [Act.put, List.setIfInBounds_toArray, List.set_cons_zero, List.set_cons_succ]
    refine wpAnyH_done (by kernel_rfl) ?_ _
    exact HH.out _ _ _ _ _ _ _ _ _ _ _ _ _ _

end Go.Proofs.YtlholgpenpfpbaaGreatDoor

/-
  Depth: how many nodes the longest row has.
-/
namespace Go.Proofs.YtlholgpenpfpbaaGreatDoor
open Go.RowKit Go.Shelf
attribute [local go_sem] Oper.semAt_some

theorem ordK_lt {ns : List Nd} : ∀ (k : Nat) (T : List Nat), (∀ i ∈ T, i < ns.length) → ∀ i ∈ ordK ns k T, i < ns.length
  | 0, T, h => h
  | k + 1, T, h => by
    unfold ordK
    cases hn : nextP ns T with
    | none => exact h
    | some j =>
      refine ordK_lt k (T ++ [j]) (fun i hi => ?_)
      rcases List.mem_append.1 hi with hi | hi
      · exact h i hi
      · simp at hi; subst hi; exact mayB_lt (nextP_is hn).1
theorem ordP_lt (ns : List Nd) : ∀ i ∈ ordP ns, i < ns.length := ordK_lt _ _ (fun i h => by simp at h)

theorem ordK_len {ns : List Nd} : ∀ (k : Nat) (T : List Nat), (ordK ns k T).length ≤ T.length + k
  | 0, T => Nat.le_refl _
  | k + 1, T => by
    unfold ordK
    cases nextP ns T with
    | none => simp only []; omega
    | some j => have := ordK_len (ns := ns) k (T ++ [j]); simp at this ⊢; omega
theorem ordP_len (ns : List Nd) : (ordP ns).length ≤ ns.length := by have := ordK_len (ns := ns) ns.length []; simpa [ordP] using this

set_option maxRecDepth 100000 in
set_option maxHeartbeats 2000000 in
theorem depth_any (w : World) (name : ByteArray) (a : Option Addr) (n c : Nat) (ns : List Nd) (hN : NodesAt w a ns) (hl : ns.length = n) (hn : n ≤ 1000000) :
    Calls Tryz.prog 19 #[.agg #[.string name, .slice a n c]] w fun e w' => e = .returned (.int .i64 (depP ns : Nat)) ∧ Kept (fun _ => False) w w' := by
  subst hl
  have hF := firsts_any (w.alloc (.cells #[.string name, .slice a ns.length c] 24)) name a ns.length c ns (keptNew (Kept.alloc _ _ _) hN) rfl (by omega)
  rw [World.size_alloc] at hF
  have hm1 := fun W => run_make_row' (P := Tryz.prog) 50 3 (.int .i64 0) 8 Tryz.underlying50 Tryz.info3 rfl .i64 .i64 ns.length (by omega) (by omega) W
  have hWk := fun W (h : Kept (fun _ => False) w W) => walk_any W name a ns.length c ns (keptNew h hN) rfl hn
  have HFi : Hid (∀ n ∈ ns, NdOk n ∧ ∀ s ∈ n.after, s.size ≤ maxLen) := hN.fine
  clear hN
  refine (callsIn_wide (n := 9)).1 ?_
  refine callsIn_of_wp_marks Tryz.func19 rfl trivial ?_ rfl
  simp only [Tryz.ntmps19, List.size_toArray, List.length_cons, List.length_nil, Nat.reduceAdd, Nat.reduceSub, Array.replicate_succ, Array.replicate_zero, List.push_toArray, List.append_toArray, List.nil_append, List.cons_append]
  refine wpIn_wide.2 ?_
  go_wp2_with (first
    | (go_at_call 33; refine hF.mono ?_; rintro e w1 ⟨rfl, F1, K1⟩; clear hF; have hd := boxD K1; obtain ⟨d0, d1⟩ := hd; have HF1 : Hid (FirstAt w1 (w.heap.size + 1 + 1) ns) := F1; have hmb : w.heap.size + 1 + 1 < w1.heap.size := (by obtain ⟨_, t⟩ := F1; exact t.lt); clear F1;
        have d1a : (w1.alloc (.cells #[.map (some (w.heap.size + 1 + 1))] 67)).cell? ⟨w.heap.size, 1, none⟩ = some (.slice a ns.length c) := keepC (Kept.alloc (fun _ => False) _ _) d1 (fun _ _ h => h);
        have K4 : Kept (fun _ => False) w1 ((((w1.alloc (.cells #[.map (some (w.heap.size + 1 + 1))] 67)).alloc (.cells (madeCells #[.int .i64 0] ns.length) 3)).alloc (.cells #[.slice (some ⟨w1.heap.size + 1, 0, none⟩) ns.length ns.length] 50)).alloc (.cells #[.int .i64 0] 3)) := (((Kept.alloc _ _ _).and (Kept.alloc _ _ _)).and (Kept.alloc _ _ _)).and (Kept.alloc _ _ _);
        have e0 := keepC K4 d0 (fun _ _ h => h); have e1 := keepC K4 d1 (fun _ _ h => h); have K0 : Hid (Kept (fun _ => False) w w1) := (Kept.alloc (fun _ => False) _ _).and K1; have hW4 := hWk _ (K0.out.and K4))
    | (go_at_call 34; refine hW4.mono ?_; rintro e w2 ⟨pb, qb, rfl, T2, K2⟩; clear hW4)
    | fail)
  have q0 : ((((w1.alloc (.cells #[.map (some (w.heap.size + 1 + 1))] 67)).alloc (.cells (madeCells #[.int .i64 0] ns.length) 3)).alloc (.cells #[.slice (some ⟨w1.heap.size + 1, 0, none⟩) ns.length ns.length] 50)).alloc (.cells #[.int .i64 0] 3)).heap.size = w1.heap.size + 4 := by simp
  have h3 : _ := heap_alloc_new (((w1.alloc (.cells #[.map (some (w.heap.size + 1 + 1))] 67)).alloc (.cells (madeCells #[.int .i64 0] ns.length) 3)).alloc (.cells #[.slice (some ⟨w1.heap.size + 1, 0, none⟩) ns.length ns.length] 50)) (.cells #[.int .i64 0] 3)
  have h2 : _ := heap_alloc_new ((w1.alloc (.cells #[.map (some (w.heap.size + 1 + 1))] 67)).alloc (.cells (madeCells #[.int .i64 0] ns.length) 3)) (.cells #[.slice (some ⟨w1.heap.size + 1, 0, none⟩) ns.length ns.length] 50)
  have h1 : _ := World.rowIs_made (w1.alloc (.cells #[.map (some (w.heap.size + 1 + 1))] 67)) (.int .i64 0) ns.length 3
  have h0 : _ := heap_alloc_new w1 (.cells #[.map (some (w.heap.size + 1 + 1))] 67)
  simp only [World.size_alloc] at h1 h2 h3
  have r1 := (h1.alloc (.cells #[.slice (some ⟨w1.heap.size + 1, 0, none⟩) ns.length ns.length] 50)).alloc (.cells #[.int .i64 0] 3)
  have r0 := (((Kept.alloc (fun _ => False) _ (.cells (madeCells #[.int .i64 0] ns.length) 3)).and (Kept.alloc _ _ (.cells #[.slice (some ⟨w1.heap.size + 1, 0, none⟩) ns.length ns.length] 50))).and (Kept.alloc _ _ (.cells #[.int .i64 0] 3))).block w1.heap.size (by simp) (fun h => h) |>.trans h0
  have r2 := (Kept.alloc (fun _ => False) _ (.cells #[.int .i64 0] 3)).block (w1.heap.size + 1 + 1) (by simp) (fun h => h) |>.trans h2
  clear h0 h1 h2 hm1 d0 d1 d1a e0 e1 hWk
  generalize ((((w1.alloc (.cells #[.map (some (w.heap.size + 1 + 1))] 67)).alloc (.cells (madeCells #[.int .i64 0] ns.length) 3)).alloc (.cells #[.slice (some ⟨w1.heap.size + 1, 0, none⟩) ns.length ns.length] 50)).alloc (.cells #[.int .i64 0] 3)) = w4 at *
  refine (wpIn_wide (n := 9)).1 (range_of rfl (by decide) (gf := 53) (lb := #[.pointer (some ⟨pb, 0, none⟩), .pointer (some ⟨qb, 0, none⟩)]) rfl trivial (enters_of Tryz.func53 (by kernel_rfl) rfl) ?_)
  intro r hfn hst0 hpend htm hpa has hbo
  have hreq : ({ r with state := .ready, pending := none } : Loop) = r := by
    cases r
    simp only [] at hst0 hpend
    subst hst0 hpend
    rfl
  have K00 : Kept (fun _ => False) w2 ((w2.alloc (.deferred (some []))).alloc (.loop r)) := (Kept.alloc _ _ _).and (Kept.alloc _ _ _)
  have KK := K2.and K00
  have hz2 := K2.size
  have hlt0 : ∀ k o, w4.heap[k]? = some o → ((w2.alloc (.deferred (some []))).alloc (.loop r)).heap[k]? = some o := fun k o h => (KK.block k (Array.getElem?_eq_some_iff.1 h).1 (fun h => h)).trans h
  have J0 : DJ w1 w2 ns (w.heap.size + 1 + 1) r ((w2.alloc (.deferred (some []))).alloc (.loop r)) (depK ns ((ordP ns).take 0)).1 (depK ns ((ordP ns).take 0)).2 := by
    refine ⟨hlt0 _ _ r0, (r1.of_block (KK.block _ r1.lt (fun h => h))).congr (fun _ _ => rfl), hlt0 _ _ r2, hlt0 _ _ h3, ?_, ?_, (K4.and KK).mono (fun _ h => h.elim), fun g h1 h2 => K00.block g h2 (fun h => h), by omega, by simp⟩
    · rw [Below.heap_alloc _ _ _ (by simp), heap_alloc_new]
    · have h := heap_alloc_new (w2.alloc (.deferred (some []))) (.loop r)
      rw [World.size_alloc] at h
      exact h
  have T3 : WalkAt w4.heap.size ((w2.alloc (.deferred (some []))).alloc (.loop r)) pb qb (ordP ns) ns := T2.keep (fun g _ hg => K00.block g hg (fun h => h))
  have hszW : ((w2.alloc (.deferred (some []))).alloc (.loop r)).heap.size = w2.heap.size + 2 := by simp
  have hol := ordP_len ns
  refine (walk_in 8 (w2.heap.size + 1) pb qb w4.heap.size (ordP ns) ns (fun k W => DJ w1 w2 ns (w.heap.size + 1 + 1) r W (depK ns ((ordP ns).take k)).1 (depK ns ((ordP ns).take k)).2) (fun _ => False) _ T3 (ordP_lt ns) HFi.out (by omega) (fun k A B h K => h.keep K) ?_ J0).mono ?_
  · intro k i nd W1 a' c' J hk hi hTx
    have hkl : k < (ordP ns).length := (List.getElem?_eq_some_iff.1 hk).1
    have hil : i < ns.length := (List.getElem?_eq_some_iff.1 hi).1
    have hKx : depK ns ((ordP ns).take (k + 1)) = depStep ns (depK ns ((ordP ns).take k)) i := by
      rw [List.take_add_one, hk, Option.toList_some, depK_snoc]
    have hSt : depStep ns (depK ns ((ordP ns).take k)) i = (fun x => if x = i then curP ns (depK ns ((ordP ns).take k)).1 i ((depK ns ((ordP ns).take k)).1 i) nd.after + 1 else (depK ns ((ordP ns).take k)).1 x, max (depK ns ((ordP ns).take k)).2 (curP ns (depK ns ((ordP ns).take k)).1 i ((depK ns ((ordP ns).take k)).1 i) nd.after + 1)) := by
      unfold depStep; rw [hi]
    obtain ⟨hb1, hb2⟩ := depK_le ns (ordP ns) k
    rw [hKx, hSt]
    generalize hrow : (depK ns ((ordP ns).take k)).1 = row at *
    generalize hlng : (depK ns ((ordP ns).take k)).2 = lng at *
    clear hKx hSt hrow hlng hk J0 T3 T2
    have hfew := (HFi.out nd (List.mem_of_getElem? hi)).1.few
    have JA := J.keep (Kept.alloc (fun _ => False) W1 (.cells #[.string nd.name, .int .i64 nd.kind, .string nd.arg, .string nd.to, .int .i64 nd.delay, .int .i64 nd.tries, .slice a' nd.after.length c'] 35))
    refine yield_gen (W2 := W1.alloc (.cells #[.string nd.name, .int .i64 nd.kind, .string nd.arg, .string nd.to, .int .i64 nd.delay, .int .i64 nd.tries, .slice a' nd.after.length c'] 35)) (a1 := ?a1L) J.lp hst0 htm hpa has hbo rfl hfn JA.lp ?hA ?hB
    case hA =>
      intro K hK
      gi_wp2
      exact hK
    case hB =>
      have J1 := JA.put { r with state := .busy }
      have HREQ : Hid _ := hreq
      have hbig := J.big
      have hsz := J.sz
      have hnb : ((W1.alloc (.cells #[.string nd.name, .int .i64 nd.kind, .string nd.arg, .string nd.to, .int .i64 nd.delay, .int .i64 nd.tries, .slice a' nd.after.length c'] 35)).putObj (w2.heap.size + 1) (.loop { r with state := .busy })).heap[W1.heap.size]? = some (.cells #[.string nd.name, .int .i64 nd.kind, .string nd.arg, .string nd.to, .int .i64 nd.delay, .int .i64 nd.tries, .slice a' nd.after.length c'] 35) := by
        rw [World.putObj_heap_other (by omega)]
        exact heap_alloc_new _ _
      have hWs : ((W1.alloc (.cells #[.string nd.name, .int .i64 nd.kind, .string nd.arg, .string nd.to, .int .i64 nd.delay, .int .i64 nd.tries, .slice a' nd.after.length c'] 35)).putObj (w2.heap.size + 1) (.loop { r with state := .busy })).heap.size = W1.heap.size + 1 := by simp [World.putObj]
      have hsame0 : ∀ g, g < W1.heap.size → g ≠ w2.heap.size + 1 → ((W1.alloc (.cells #[.string nd.name, .int .i64 nd.kind, .string nd.arg, .string nd.to, .int .i64 nd.delay, .int .i64 nd.tries, .slice a' nd.after.length c'] 35)).putObj (w2.heap.size + 1) (.loop { r with state := .busy })).heap[g]? = W1.heap[g]? := fun g hg hne => by
        rw [World.putObj_heap_other (fun h => hne h)]
        exact Below.heap_alloc _ _ _ hg
      have HJ : Hid (DJ w1 w2 ns (w.heap.size + 1 + 1) r W1 row lng) := J
      have HTx : Hid (TextsAt W1 (.slice a' nd.after.length c') nd.after) := hTx
      clear htm hpa has hbo hst0 hpend hreq J JA hTx
      generalize hW2 : (W1.alloc (.cells #[.string nd.name, .int .i64 nd.kind, .string nd.arg, .string nd.to, .int .i64 nd.delay, .int .i64 nd.tries, .slice a' nd.after.length c'] 35)).putObj (w2.heap.size + 1) (.loop { r with state := .busy }) = W2 at *
      clear hW2
      obtain ⟨⟨n0, n1, n2, n3, n4, n5, n6⟩, _⟩ := seven hnb
      clear n0 n1 n2 n3 n4 n5
      have HJ1 : Hid (DJ w1 w2 ns (w.heap.size + 1 + 1) { r with state := .busy } W2 row lng) := J1
      clear J1
      gi_wp2
      gi_loopw [23] (fun q wq => ∃ (p : Nat), q = .int .i64 (p : Nat) ∧ p ≤ nd.after.length ∧ DJ w1 w2 ns (w.heap.size + 1 + 1) { r with state := .busy } wq (fun x => if x = i then curP ns row i (row i) (nd.after.take p) else row x) lng ∧ W2.heap.size ≤ wq.heap.size ∧ ∀ g, g < W2.heap.size → g ≠ w1.heap.size + 1 → g ≠ w1.heap.size + 3 → g ≠ w2.heap.size + 1 → wq.heap[g]? = W2.heap[g]?) (fun q _ => nd.after.length - (Go.RowKit.intOf q).toNat)
      case atStart => exact ⟨0, rfl, Nat.zero_le _, HJ1.out.is (fun x => by by_cases e : x = i; (subst e; simp [curP]); simp [e]) rfl, Nat.le_refl _, fun _ _ _ _ _ => rfl⟩
      case round =>
        obtain ⟨p, rfl, hp, Jp, hzq, hsq⟩ := hrel
        by_cases hpl : p < nd.after.length
        · have htx := texts_stay HJ.out HTx.out (V := wr) (fun g hg h1 h2 h3 => (hsq g (by omega) h1 h2 h3).trans (hsame0 g hg h3))
          obtain ⟨a2, c2, hsl, hc2, hne⟩ := htx.at
          obtain ⟨rfl, rfl⟩ : a' = a2 ∧ c' = c2 := by simpa using hsl
          obtain ⟨xb, xo, rfl, hcell⟩ := hne (fun e => by rw [e] at hpl; simp at hpl)
          have hck := hcell p hpl
          have hsm : (nd.after[p]).size ≤ maxLen := by
            obtain ⟨_, _, _, _, _, _, h5⟩ := htx
            exact h5 _ (List.getElem_mem hpl)
          have hsn := curP_snoc ns row i (row i) (nd.after.take p) nd.after[p]
          rw [← take_snoc hpl] at hsn
          have hcl := curP_le (ns := ns) (i := i) hb1 (nd.after.take p) (row i) (hb1 i)
          have hcl2 := curP_le (ns := ns) (i := i) hb1 (nd.after.take (p + 1)) (row i) (hb1 i)
          have g1 : (p : Int) < (nd.after.length : Int) := by omega
          have KD : Kept (fun _ => False) wr wr.drew := Kept.drew _ wr
          have JD := Jp.keep KD
          have hfjl : fj ns nd.after[p] < ns.length := by
            unfold fj
            cases hf : findP ns nd.after[p] with
            | none => simp; omega
            | some j => simpa using findP_lt hf
          have FM : FirstAt wr.drew (w.heap.size + 1 + 1) ns := HF1.out.kept JD.kp (by omega)
          obtain ⟨mm, TM⟩ := FM
          have hfm : (firstM ns nd.after[p]).getD (.int .i64 0) = .int .i64 ((fj ns nd.after[p] : Nat) : Int) := by unfold firstM fj; cases findP ns nd.after[p] <;> rfl
          have hlk : ∀ Z V, V = wr.drew ∨ V = wr.drew.setCell ⟨w1.heap.size + 1, i, none⟩ Z → V.cell? ⟨w1.heap.size + 2, 0, none⟩ = some (.slice (some ⟨w1.heap.size + 1, 0, none⟩) ns.length ns.length) ∧ V.cell? ⟨w1.heap.size, 0, none⟩ = some (.map (some (w.heap.size + 1 + 1))) ∧ (Instr.lookup 67 (.map (some (w.heap.size + 1 + 1))) (.string nd.after[p]) false).run Tryz.prog V = .ok (.int .i64 ((fj ns nd.after[p] : Nat) : Int)) V := fun Z V hV => by
            have hb : ∀ g, g ≠ w1.heap.size + 1 → V.heap[g]? = wr.drew.heap[g]? := fun g hg => by
              rcases hV with rfl | rfl
              · rfl
              · exact Below.heap_setCell _ _ _ _ (fun e => hg e)
            refine ⟨(oneC ((hb _ (by omega)).trans JD.rc)).1, (oneC ((hb _ (by omega)).trans JD.fb)).1, ?_⟩
            have h := (TM.block (hb _ (by omega))).look Tryz.underlying9 Tryz.underlying67 (z := .int .i64 0) (by rfl) hsm
            rw [hfm] at h
            exact h
          have rI := JD.row.cell hil
          have rZ := JD.row.frozen i
          have rJ := JD.row.cell hfjl
          simp only [if_true] at rI
          have hJv : (if fj ns nd.after[p] = i then curP ns row i (row i) (nd.after.take p) else row (fj ns nd.after[p])) ≤ k := by
            split
            · exact hcl
            · exact hb1 _
          have HJD : Hid _ := JD
          have HSN : Hid (curP ns row i (row i) (nd.after.take (p + 1)) = max (curP ns row i (row i) (nd.after.take p)) (if fj ns nd.after[p] = i then curP ns row i (row i) (nd.after.take p) else row (fj ns nd.after[p]))) := hsn
          have HSQ : Hid _ := hsq
          have HLK : Hid _ := hlk
          clear hsl hcell hne htx TM hfm JD Jp hsn hsq hlk
          generalize hcur : curP ns row i (row i) (nd.after.take p) = cur at *
          generalize (if fj ns nd.after[p] = i then cur else row (fj ns nd.after[p])) = yv at *
          generalize fj ns nd.after[p] = jj at *
          generalize nd.after[p] = s at *
          gi_wp2
          refine wpIn_nrm (dep10 (n := ns.length) (rb := w1.heap.size + 1) (mb := w.heap.size + 1 + 1) (i := i) (j := jj) (x := cur) (y := yv) _ (HLK.out _) rI rJ rZ (by omega) (by omega) ?_)
          intro v27 v28 v29 v30 v31 v32 v33 v34 v35 v36 v37 v38 v39 v40
          have JS : DJ w1 w2 ns (w.heap.size + 1 + 1) { r with state := .busy } (wr.drew.setCell ⟨w1.heap.size + 1, i, none⟩ (.int .i64 (max (cur : Int) (yv : Int)))) (fun x => if x = i then curP ns row i (row i) (nd.after.take (p + 1)) else row x) lng :=
            (HJD.out.setRow i (max cur yv) (by omega)).is (fun x => by by_cases e : x = i; (subst e; simp only [if_true]; exact HSN.out.symm); simp only [e, if_false]) rfl
          have HJS : Hid _ := JS
          have HSS : Hid (∀ g, g < W2.heap.size → g ≠ w1.heap.size + 1 → g ≠ w1.heap.size + 3 → g ≠ w2.heap.size + 1 → (wr.drew.setCell ⟨w1.heap.size + 1, i, none⟩ (.int .i64 (max (cur : Int) (yv : Int)))).heap[g]? = W2.heap[g]?) := fun g h1 h2 h3 h4 => (Below.heap_setCell _ _ _ _ (fun e => h2 e)).trans (HSQ.out g h1 h2 h3 h4)
          have hz9 : W2.heap.size ≤ (wr.drew.setCell ⟨w1.heap.size + 1, i, none⟩ (.int .i64 (max (cur : Int) (yv : Int)))).heap.size := by simpa [World.setCell] using hzq
          clear JS HJD HSN HSQ HLK rI rJ rZ hck
          generalize wr.drew.setCell ⟨w1.heap.size + 1, i, none⟩ (.int .i64 (max (cur : Int) (yv : Int))) = V at *
          gi_wp2
          go_roundw
          case rel => exact ⟨p + 1, by simp, by omega, HJS.out, hz9, HSS.out⟩
          case measure => simp [Go.RowKit.intOf]; omega
        · obtain rfl : p = nd.after.length := by omega
          rw [List.take_length] at Jp
          have hcl := curP_le (ns := ns) (i := i) hb1 nd.after (row i) (hb1 i)
          have rI := Jp.row.cell hil
          have rZ := Jp.row.frozen i
          have cC := (oneC Jp.rc).1
          simp only [if_true] at rI
          have HJp : Hid _ := Jp
          have HSQ : Hid _ := hsq
          clear Jp hsq
          generalize hcur : curP ns row i (row i) nd.after = cur at *
          have JS : DJ w1 w2 ns (w.heap.size + 1 + 1) { r with state := .busy } (wr.setCell ⟨w1.heap.size + 1, i, none⟩ (.int .i64 ((cur : Int) + 1))) (fun x => if x = i then cur + 1 else row x) lng :=
            (HJp.out.setRow i (cur + 1) (by omega)).is (fun x => by by_cases e : x = i; (subst e; simp only [if_true]); simp only [e, if_false]) rfl
          have JSD := JS.keep (Kept.drew (fun _ => False) _)
          have xL := (oneC JSD.lb)
          have xR := JSD.row.cell hil
          have xC := (oneC JSD.rc).1
          simp only [if_true] at xR
          have HJSD : Hid _ := JSD
          have HJS : Hid _ := JS
          clear JS JSD
          gi_wp2
          refine wpIn_nrm (dep13 (n := ns.length) (rb := w1.heap.size + 1) (i := i) (x := lng) (y := cur + 1) _ xC xL.1 xR xL.2 (by omega) ?_)
          intro v48 v49 v50 v51 v52 v53
          have JE : DJ w1 w2 ns (w.heap.size + 1 + 1) { r with state := .busy } (((wr.setCell ⟨w1.heap.size + 1, i, none⟩ (.int .i64 ((cur : Int) + 1))).setCell ⟨w1.heap.size + 3, 0, none⟩ (.int .i64 (max (lng : Int) ((cur : Int) + 1)))).drew) (fun x => if x = i then cur + 1 else row x) (max lng (cur + 1)) := HJSD.out.setLng (max lng (cur + 1)) (zi := max (lng : Int) ((cur : Int) + 1)) (by omega)
          have HJE : Hid _ := JE
          clear JE
          gi_wp2
          have JR := HJE.out.put r
          refine ⟨HJE.out.lp, ?_, by omega, fun g h1 h2 => ?_⟩
          · rw [HREQ.out]; exact JR
          · rw [HREQ.out]
            by_cases e1 : g = w2.heap.size + 1
            · subst e1; exact JR.lp.trans HJ.out.lp.symm
            · by_cases e2 : g = w2.heap.size
              · subst e2; exact JR.dm.trans HJ.out.dm.symm
              · exact (JR.mid g (by omega) (by omega)).trans (HJ.out.mid g (by omega) (by omega)).symm
  · rintro e W ⟨⟨v1, rfl⟩, J | hFx⟩
    · refine ⟨⟨_, rfl⟩, r, J.lp, by rw [hst0]; decide, .inl ⟨hpend, ?_⟩⟩
      have J1 := J.put { r with state := .exhausted }
      rw [List.take_length] at J1
      have hx : (depK ns (ordP ns)).2 = depP ns := rfl
      rw [hx] at J1
      have HK : Hid (Kept (fun _ => False) w (W.putObj (w2.heap.size + 1) (.loop { r with state := .exhausted }))) := K0.out.trans J1.kp (fun g h => .inr (by have := K0.out.size; omega))
      have HJ1 : Hid _ := J1
      have xL := (oneC J1.lb).1
      have hdm := J1.dm
      clear J1 J
      generalize W.putObj (w2.heap.size + 1) (.loop { r with state := .exhausted }) = W9 at *
      have HK9 : Hid (Kept (fun _ => False) w (W9.putObj w2.heap.size (.deferred none))) := HK.out.trans (S' := fun j => j = w2.heap.size) (Kept.putObj _ _ _ rfl) (fun i h => .inr (by have h' : i = w2.heap.size := h; have := K0.out.size; omega))
      go_wp2
      refine ⟨by simp, .inl ⟨_, _, rfl, run_takeDeferred hdm, ?_⟩⟩
      refine ⟨.int .i64 (depP ns : Nat), ?_, rfl, HK9.out⟩
      simp [results, Tryz.f19, go_sem]
    · exact hFx.elim

end Go.Proofs.YtlholgpenpfpbaaGreatDoor

/-
  wakes: a definition is read, and ordered. Lists of numbers held against each other.
-/
namespace Go.Proofs.YtlholgpenpfpbaaGreatDoor
open Go.RowKit

def wkT : ByteArray := ⟨#[119, 111, 114, 107, 102, 108, 111, 119, 32, 119, 10, 98, 32, 119, 97, 105, 116, 32, 115, 32, 97, 102, 116, 101, 114, 32, 97, 10, 97, 32, 97, 99, 116, 105, 118, 105, 116, 121, 32, 113, 10]⟩
def wkN : List Nd := [⟨⟨#[98]⟩, 4, ⟨#[115]⟩, ⟨#[]⟩, 0, 0, [⟨#[97]⟩]⟩, ⟨⟨#[97]⟩, 1, ⟨#[113]⟩, ⟨#[]⟩, 0, 1, []⟩]

theorem wk_parse : parseP wkT = (some (⟨#[119]⟩, wkN), 0, 0) := by kernel_rfl
theorem wk_order : ordP wkN = [1, 0] := by kernel_rfl
theorem wk_depth : depP wkN = 2 := by kernel_rfl

set_option maxRecDepth 100000 in
set_option maxHeartbeats 1000000 in
theorem ints_same (w : World) (b1 b2 n c1 c2 : Nat) (l : List Nat) (h1 : ∀ k (h : k < l.length), w.cell? ⟨b1, k, none⟩ = some (.int .i64 ((l[k]'h : Nat) : Int))) (h2 : ∀ k (h : k < l.length), w.cell? ⟨b2, k, none⟩ = some (.int .i64 ((l[k]'h : Nat) : Int))) (hl : l.length = n) (hn : n ≤ 4611686018427387904) :
    Calls Tryz.prog 18 #[.slice (some ⟨b1, 0, none⟩) n c1, .slice (some ⟨b2, 0, none⟩) n c2] w fun e w' => e = .returned (.bool true) ∧ ∃ m, w' = w.drewN m := by
  have HL : Hid (l.length = n) := hl
  clear hl
  have hnn : ((n : Int) != (n : Int)) = false := by simp
  go_enter Tryz.func18, Tryz.ntmps18
  go_wp2
  go_loopw [5] (fun i wr => ∃ (k m : Nat), k ≤ n ∧ i = .int .i64 k ∧ wr = w.drewN m) (fun i _ => n - (intOf i).toNat)
  case atStart => exact ⟨0, 0, Nat.zero_le _, rfl, rfl⟩
  case round =>
    obtain ⟨k, m, hk, rfl, rfl⟩ := hrel
    by_cases hlt : k < n
    · have hkl : k < l.length := by rw [HL.out]; exact hlt
      have x1 := h1 k hkl
      have x2 := h2 k hkl
      generalize l[k] = x at *
      clear h1 h2
      have e1 : (k : Int) < (n : Int) := by omega
      go_wp2_with fail
      go_quiet (fail)
      go_wp2
      go_roundw
      case rel => exact ⟨k + 1, m + nq, by omega, by go_num, rfl⟩
      case measure => simp [intOf]; omega
    · clear h1 h2
      have e1 : ¬ (k : Int) < (n : Int) := by omega
      go_wp2
      go_ret
      exact ⟨rfl, m, rfl⟩

theorem row_cell {w : World} {base n b k : Nat} {c : Nat} {l : List Nat} (O : w.ownsRow base 3 1 (.slice (some ⟨b, 0, none⟩) n c) n (natsV l)) (hk : k < l.length) : w.cell? ⟨b, k, none⟩ = some (.int .i64 ((l[k]'hk : Nat) : Int)) := by
  have := (ownsRow_get O (k := k) (u := .int .i64 ((l[k]'hk : Nat) : Int)) (by unfold natsV; rw [List.getElem?_map, List.getElem?_eq_getElem hk]; rfl)).1
  simpa using this

/-- The definition of wakes, as Parse gives it. -/
theorem wakesParse (w : World) : Calls Tryz.prog 8 #[.string wkT] w fun e w' => ∃ b o c, e = .returned (.tuple #[.agg #[.string ⟨#[119]⟩, .slice (some ⟨b, o, none⟩) 2 c], .int .i64 0, .int .i64 0]) ∧ Hid (NodesAt w' (some ⟨b, o, none⟩) wkN) ∧ w'.cell? ⟨b, o + 12, none⟩ = some (.int .i64 1) ∧ 2 ≤ c ∧ Kept (fun _ => False) w w' := by
  have hP := parse_any w wkT (by decide)
  rw [wk_parse] at hP
  refine hP.mono ?_
  rintro e w1 ⟨_, hp, K1⟩
  obtain ⟨a, c, rfl, N1, hc⟩ := hp _ _ _ _ rfl
  obtain ⟨b, o, av, cv, rfl, _, _, _, _, _, _, h, _⟩ := N1.at (i := 1) (by decide)
  exact ⟨b, o, c, rfl, N1, h, hc, K1⟩

/-- Its order. -/
theorem wakesOrder (w : World) (b o c : Nat) (HN : Hid (NodesAt w (some ⟨b, o, none⟩) wkN)) : Calls Tryz.prog 17 #[.agg #[.string ⟨#[119]⟩, .slice (some ⟨b, o, none⟩) 2 c]] w fun e w' => ∃ g cv, e = .returned (.tuple #[.slice (some ⟨g, 0, none⟩) 2 cv, .bool true]) ∧ Hid (∀ k (h : k < [1, 0].length), w'.cell? ⟨g, k, none⟩ = some (.int .i64 (([1, 0][k]'h : Nat) : Int))) ∧ Kept (fun _ => False) w w' := by
  have h := order_any w ⟨#[119]⟩ (some ⟨b, o, none⟩) 2 c wkN HN.out rfl (by decide)
  rw [wk_order] at h
  refine h.mono ?_
  rintro e w2 ⟨av, cv, rfl, O2, K2⟩
  obtain ⟨g, cap, e, hbg, hgl⟩ := O2.form (by decide)
  simp only [Value.slice.injEq] at e
  obtain ⟨rfl, _, rfl⟩ := e
  exact ⟨g, cv, rfl, fun k h => row_cell O2 h, K2⟩

/-- Held against the row [1, 0]. -/
theorem wakesInts (w : World) (g cv : Nat) (HO : Hid (∀ k (h : k < [1, 0].length), w.cell? ⟨g, k, none⟩ = some (.int .i64 (([1, 0][k]'h : Nat) : Int)))) : Calls Tryz.prog 18 #[.slice (some ⟨g, 0, none⟩) 2 cv, .slice (some ⟨w.heap.size, 0, none⟩) 2 2] (w.alloc (.cells #[.int .i64 1, .int .i64 0] 3)) fun e w' => e = .returned (.bool true) ∧ Kept (fun _ => False) w w' := by
  refine (ints_same _ g w.heap.size 2 cv 2 [1, 0] (fun k h => keepC (S := fun _ => False) (Kept.alloc _ _ _) (HO.out k h) (fun _ _ h => h)) (fun k h => ?_) rfl (by decide)).mono ?_
  · unfold World.cell?
    rw [heap_alloc_new]
    match k, h with
    | 0, _ => rfl
    | 1, _ => rfl
  · rintro e w' ⟨rfl, m, rfl⟩
    exact ⟨rfl, (Kept.alloc _ _ _).and (Kept.drewN _ _ _)⟩

/-- Its depth. -/
theorem wakesDepth (w : World) (b o c : Nat) (HN : Hid (NodesAt w (some ⟨b, o, none⟩) wkN)) : Calls Tryz.prog 19 #[.agg #[.string ⟨#[119]⟩, .slice (some ⟨b, o, none⟩) 2 c]] w fun e w' => e = .returned (.int .i64 2) ∧ Kept (fun _ => False) w w' := by
  have h := depth_any w ⟨#[119]⟩ (some ⟨b, o, none⟩) 2 c wkN HN.out rfl (by decide)
  rw [wk_depth] at h
  exact h

set_option maxRecDepth 100000 in
set_option maxHeartbeats 1000000 in
theorem wakes_any (w : World) :
    Calls Tryz.prog 7 #[] w fun e w' => e = .returned (.bool true) ∧ Kept (fun _ => False) w w' := by
  have hP := wakesParse w
  unfold wkT at hP
  go_enter Tryz.func7, Tryz.ntmps7
  go_wp2_with (first
    | (go_at_call 8; refine hP.mono ?_; rintro e w1 ⟨b, o, c, rfl, HN, c12, hc, K1⟩; clear hP)
    | (go_at_call 17; refine (wakesOrder _ b o c (keptNew (Kept.alloc _ _ _) HN.out)).mono ?_; rintro e w2 ⟨g, cv, rfl, HO, K2⟩; have HM : Hid (NodesAt w2 (some ⟨b, o, none⟩) wkN) := keptNew K2 (keptNew (Kept.alloc _ _ _) HN.out); have d12 : w2.cell? ⟨b, o + 12, none⟩ = some (.int .i64 1) := keepC (S := fun _ => False) ((Kept.alloc _ _ _).and K2) c12 (fun _ _ h => h); have hd := boxD K2; obtain ⟨d0, d1⟩ := hd; clear c12)
    | (go_at_call 18; refine (wakesInts w2 g cv HO).mono ?_; rintro e w3 ⟨rfl, K3⟩; have HM3 : Hid (NodesAt w3 (some ⟨b, o, none⟩) wkN) := keptNew K3 HM.out; replace d12 := keepC (S := fun _ => False) K3 d12 (fun _ _ h => h); replace d0 := keepC (S := fun _ => False) K3 d0 (fun _ _ h => h); replace d1 := keepC (S := fun _ => False) K3 d1 (fun _ _ h => h))
    | (go_at_call 19; refine (wakesDepth w3 b o c HM3).mono ?_; rintro e w4 ⟨rfl, K4⟩; replace d12 := keepC (S := fun _ => False) K4 d12 (fun _ _ h => h); replace d0 := keepC (S := fun _ => False) K4 d0 (fun _ _ h => h); replace d1 := keepC (S := fun _ => False) K4 d1 (fun _ _ h => h))
    | fail)
  go_ret
  exact ⟨rfl, (((K1.and (Kept.alloc _ _ _)).and K2).and K3).and K4⟩

end Go.Proofs.YtlholgpenpfpbaaGreatDoor

/-
  What the tied cards of dag's laws share: the listed variables, the start of a call, texts that are handed in.
-/
namespace Go.Proofs.YtlholgpenpfpbaaGreatDoor
open Go.ChangeShapes Go.WideShapes Go.ChangeAt Go.RowKit Go.Deep

/-- The variables that the rows list. -/
def laidL {H : Type} : List (String × DataW H) := [("math/bits.deBruijn32tab", Rows.laid_math_bits_deBruijn32tab), ("math/bits.deBruijn64tab", Rows.laid_math_bits_deBruijn64tab), ("internal/strconv.uint64pow10", Rows.laid_internal_strconv_uint64pow10), ("strconv.ErrRange", Rows.laid_strconv_ErrRange), ("strconv.ErrSyntax", Rows.laid_strconv_ErrSyntax)]

theorem door_met (os : Os) (args : Array Value) : laidMetH Tryz.prog laidL ((World.doorLaid Tryz.prog 62 os).forCall (fun _ _ => 0) ⟨#[], args, []⟩).memory :=
  laidMetH_of_parts3 (fuel := 8) (laidMet_of_run' 8 (by kernel_rfl) (by kernel_rfl)) (by kernel_rfl) (by kernel_rfl)

/-- Texts that are handed in. -/
def StrsAt (w : World) (a : Option Addr) (len : Nat) (S : Nat → ByteArray) : Prop :=
  len = 0 ∨ ∃ b o, a = some ⟨b, o, none⟩ ∧ ∀ i, i < len → w.cell? ⟨b, o + i, none⟩ = some (.string (S i)) ∧ (S i).size ≤ maxLen

theorem StrsAt.at {w : World} {a : Option Addr} {len : Nat} {S : Nat → ByteArray} (h : StrsAt w a len S) {j : Nat} (hj : j < len) : ∃ b o, a = some ⟨b, o, none⟩ ∧ ∀ i, i < len → w.cell? ⟨b, o + i, none⟩ = some (.string (S i)) ∧ (S i).size ≤ maxLen := by
  rcases h with h0 | h
  · omega
  · exact h

theorem strs_open {H : Type} {enc : TypeId × Value → H} {P : Program} {w : World} {base : Nat} {held : Bool} {t e : TypeId} {fuel : Nat} {v : Value} {x : DataW H × List MemPlace} (ht : P.underlying t = some (.slice e)) (he : P.underlying e = some .string) (hc : P.cellsOf e = 1)
    (h : DataW.trod enc P w base (fun _ => true) held fuel t [v] = some x) : ∃ a len cap S, v = .slice a len cap ∧ len ≤ cap ∧ cap ≤ maxLen ∧ StrsAt w a len S := by
  rcases open_strs ht he hc h with ⟨hcs, _⟩ | ⟨a, l, c, m, S, hcs, _, hl, hm, hmm, _, hcell⟩
  · simp only [List.cons.injEq, and_true] at hcs
    exact ⟨_, _, _, fun _ => ByteArray.empty, hcs, Nat.le_refl _, Nat.zero_le _, .inl rfl⟩
  · simp only [List.cons.injEq, and_true] at hcs
    simp only [if_true] at hmm
    subst hmm
    rcases Nat.eq_zero_or_pos l with h0 | h0
    · exact ⟨_, _, _, S, hcs, hl, hm, .inl h0⟩
    · obtain ⟨b, o, rfl⟩ := addr_form (hcell 0 (by omega)).1
      exact ⟨_, _, _, S, hcs, hl, hm, .inr ⟨b, o, rfl, fun i hi => by have := hcell i (by omega); rw [Addr.add_lit] at this; exact this⟩⟩

end Go.Proofs.YtlholgpenpfpbaaGreatDoor

/-
  A definition by value, and rows of them, opened: what a law is handed.
-/
namespace Go.Proofs.YtlholgpenpfpbaaGreatDoor
open Go.ChangeShapes Go.WideShapes Go.ChangeAt Go.RowKit Go.Deep

/-- Nodes that lie in a row at a; their Afters may be of any length. -/
def RawAt (w : World) (a : Option Addr) (ns : List Nd) : Prop := (∀ n ∈ ns, NdOk { n with after := [] }) ∧ (ns = [] ∨ ∃ b o, a = some ⟨b, o, none⟩ ∧ ∀ i (h : i < ns.length), ∃ v, TextsAt w v (ns[i]'h).after ∧ ∀ j u, (ndC (ns[i]'h) v)[j]? = some u → w.cell? ⟨b, o + i * 7 + j, none⟩ = some u)

theorem RawAt.kept {S : Nat → Prop} {w w' : World} {a : Option Addr} {ns : List Nd} (C : RawAt w a ns) (K : Kept S w w') (hS : ∀ k, k < w.heap.size → ¬ S k) : RawAt w' a ns := by
  refine ⟨C.1, ?_⟩
  rcases C.2 with h | ⟨b, o, h, hc⟩
  · exact .inl h
  · refine .inr ⟨b, o, h, fun i hi => ?_⟩
    obtain ⟨v, hv, hw⟩ := hc i hi
    refine ⟨v, hv.kept K hS, fun j u hu => ?_⟩
    exact keepC K (hw j u hu) hS

theorem RawAt.at {w : World} {a : Option Addr} {ns : List Nd} (C : RawAt w a ns) {i : Nat} (hi : i < ns.length) : ∃ b o av cv, a = some ⟨b, o, none⟩ ∧ TextsAt w (.slice av (ns[i]).after.length cv) (ns[i]).after ∧
    w.cell? ⟨b, o + i * 7, none⟩ = some (.string (ns[i]).name) ∧ w.cell? ⟨b, o + i * 7 + 1, none⟩ = some (.int .i64 (ns[i]).kind) ∧ w.cell? ⟨b, o + i * 7 + 2, none⟩ = some (.string (ns[i]).arg) ∧ w.cell? ⟨b, o + i * 7 + 3, none⟩ = some (.string (ns[i]).to) ∧
    w.cell? ⟨b, o + i * 7 + 4, none⟩ = some (.int .i64 (ns[i]).delay) ∧ w.cell? ⟨b, o + i * 7 + 5, none⟩ = some (.int .i64 (ns[i]).tries) ∧ w.cell? ⟨b, o + i * 7 + 6, none⟩ = some (.slice av (ns[i]).after.length cv) := by
  rcases C.2 with h | ⟨b, o, h, hc⟩
  · subst h; simp at hi
  · obtain ⟨v, hv, hw⟩ := hc i hi
    have hv2 := hv
    obtain ⟨av, cv, rfl, _⟩ := hv2
    exact ⟨b, o, av, cv, h, hv, hw 0 _ rfl, hw 1 _ rfl, hw 2 _ rfl, hw 3 _ rfl, hw 4 _ rfl, hw 5 _ rfl, hw 6 _ rfl⟩

/-- A definition's two cells. -/
def RawDef (w : World) (c0 c1 : Value) (name : ByteArray) (ns : List Nd) : Prop := c0 = .string name ∧ name.size ≤ maxLen ∧ ∃ a c, c1 = .slice a ns.length c ∧ ns.length ≤ c ∧ c ≤ maxLen ∧ RawAt w a ns

variable {H : Type} {enc : TypeId × Value → H} {W : World} {base : Nat} {held : Bool}

theorem texts_open {fuel : Nat} {v : Value} {x : DataW H × List MemPlace} (h : DataW.trod enc Tryz.prog W base (fun _ => true) held fuel 33 [v] = some x) : ∃ l, TextsAt W v l := by
  obtain ⟨a, len, cap, S, rfl, h1, h2, h3⟩ := strs_open Tryz.underlying33 Tryz.underlying9 (by kernel_rfl) h
  rcases h3 with rfl | ⟨b, o, rfl, hc⟩
  · exact ⟨[], a, cap, rfl, Nat.zero_le _, h2, .inl rfl, fun s hs => by cases hs⟩
  · refine ⟨(List.range len).map S, some ⟨b, o, none⟩, cap, by simp, by simpa using h1, h2, .inr ⟨b, o, rfl, fun j u hu => ?_⟩, fun s hs => ?_⟩
    · by_cases hj : j < len
      · simp [hj] at hu
        rw [← hu]
        exact (hc j hj).1
      · simp [hj] at hu
    · obtain ⟨i, hi, rfl⟩ := List.mem_map.1 hs
      exact (hc i (List.mem_range.1 hi)).2

set_option maxRecDepth 100000 in
theorem nd_open {fuel : Nat} {cs : List Value} {x : DataW H × List MemPlace} (h : DataW.trod enc Tryz.prog W base (fun _ => true) held fuel 35 cs = some x) (hl : cs.length = 7) :
    ∃ n v, cs = ndC n v ∧ TextsAt W v n.after ∧ NdOk { n with after := [] } := by
  match cs, hl with
  | [c0, c1, c2, c3, c4, c5, c6], _ =>
    have kS : Tryz.prog.cellsOf 9 = 1 := by kernel_rfl
    have kI : Tryz.prog.cellsOf 3 = 1 := by kernel_rfl
    have kL : Tryz.prog.cellsOf 33 = 1 := by kernel_rfl
    obtain ⟨ys, n, _, rfl, hl, hlen, hf⟩ := DataW.trod_struct Tryz.underlying35 h
    match ys, hlen with
    | [z0, z1, z2, z3, z4, z5, z6], _ =>
      have t0 : DataW.trod enc Tryz.prog W base (fun _ => true) held n 9 [c0] = some z0 := by simpa [kS] using hf 0 _ rfl
      have t1 : DataW.trod enc Tryz.prog W base (fun _ => true) held n 3 [c1] = some z1 := by simpa [kI] using hf 1 _ rfl
      have t2 : DataW.trod enc Tryz.prog W base (fun _ => true) held n 9 [c2] = some z2 := by simpa [kS] using hf 2 _ rfl
      have t3 : DataW.trod enc Tryz.prog W base (fun _ => true) held n 9 [c3] = some z3 := by simpa [kS] using hf 3 _ rfl
      have t4 : DataW.trod enc Tryz.prog W base (fun _ => true) held n 3 [c4] = some z4 := by simpa [kI] using hf 4 _ rfl
      have t5 : DataW.trod enc Tryz.prog W base (fun _ => true) held n 3 [c5] = some z5 := by simpa [kI] using hf 5 _ rfl
      have t6 : DataW.trod enc Tryz.prog W base (fun _ => true) held n 33 [c6] = some z6 := by simpa [kL] using hf 6 _ rfl
      obtain ⟨x0, e0, rfl, s0⟩ := DataW.trod_string Tryz.underlying9 t0
      obtain ⟨x1, e1, rfl, s1⟩ := DataW.trod_int Tryz.underlying3 t1
      obtain ⟨x2, e2, rfl, s2⟩ := DataW.trod_string Tryz.underlying9 t2
      obtain ⟨x3, e3, rfl, s3⟩ := DataW.trod_string Tryz.underlying9 t3
      obtain ⟨x4, e4, rfl, s4⟩ := DataW.trod_int Tryz.underlying3 t4
      obtain ⟨x5, e5, rfl, s5⟩ := DataW.trod_int Tryz.underlying3 t5
      obtain ⟨l, T⟩ := texts_open t6
      simp only [List.cons.injEq, and_true] at e0 e1 e2 e3 e4 e5
      subst e0 e1 e2 e3 e4 e5
      exact ⟨⟨x0, x1, x2, x3, x4, x5, l⟩, c6, rfl, T, ⟨s0, s2, s3, s1, s4, s5, Nat.zero_le _⟩⟩

set_option maxRecDepth 100000 in
theorem nds_open {fuel : Nat} {v : Value} {x : DataW H × List MemPlace} (h : DataW.trod enc Tryz.prog W base (fun _ => true) held fuel 22 [v] = some x) :
    ∃ a c ns, v = .slice a ns.length c ∧ ns.length ≤ c ∧ c ≤ maxLen ∧ RawAt W a ns := by
  have kO : Tryz.prog.cellsOf 35 = 7 := by kernel_rfl
  rcases Deep.open_slice Tryz.underlying22 h with ⟨hcs, hx⟩ | ⟨a, len, cap, m, n, D, Pl, hcs, hb, hl, hm, hmm, hx, hel⟩
  · simp only [List.cons.injEq, and_true] at hcs
    subst hcs
    exact ⟨none, 0, [], rfl, Nat.le_refl _, Nat.zero_le _, fun n h => (by cases h), .inl rfl⟩
  · simp only [List.cons.injEq, and_true] at hcs
    subst hcs
    have hlm : len ≤ m := by rw [hmm]; split <;> omega
    have each : ∀ i, i < len → ∃ o : Nd × Value, (TextsAt W o.2 o.1.after ∧ NdOk { o.1 with after := [] }) ∧ ∀ j, j < 7 → W.cell? (a.add (i * 7 + j)) = (ndC o.1 o.2)[j]? := by
      intro i hi
      obtain ⟨cs', h1, h2⟩ := hel i (by omega)
      rw [kO] at h1
      obtain ⟨_, hlen, hcell⟩ := World.cells?_some h1
      obtain ⟨o, v, rfl, T, O⟩ := nd_open h2 hlen
      refine ⟨(o, v), ⟨T, O⟩, fun j hj => ?_⟩
      rw [← Deep.add_add]
      exact hcell j hj
    haveI : Inhabited (Nd × Value) := ⟨(⟨⟨#[]⟩, 0, ⟨#[]⟩, ⟨#[]⟩, 0, 0, []⟩, undef)⟩
    obtain ⟨q, hq⟩ := Deep.choose_lt each
    rcases Nat.eq_zero_or_pos len with h0 | h0
    · subst h0
      exact ⟨some a, cap, [], rfl, Nat.zero_le _, hm, fun n h => (by cases h), .inl rfl⟩
    · have h00 := (hq 0 h0).2 0 (by decide)
      obtain ⟨u0, hu0⟩ : ∃ u, (ndC (q 0).1 (q 0).2)[0]? = some u := ⟨_, rfl⟩
      rw [hu0] at h00
      obtain ⟨b, off, rfl⟩ := addr_form (v := u0) (by simpa using h00)
      refine ⟨some ⟨b, off, none⟩, cap, (List.range len).map (fun i => (q i).1), by simp, by simpa using hl, hm, fun n h => ?_, .inr ⟨b, off, rfl, fun i hi => ?_⟩⟩
      · obtain ⟨i, hi, rfl⟩ := List.mem_map.1 h
        exact (hq i (List.mem_range.1 hi)).1.2
      · have hi' : i < len := by simpa using hi
        have e : ((List.range len).map (fun i => (q i).1))[i] = (q i).1 := by simp
        rw [e]
        refine ⟨(q i).2, (hq i hi').1.1, fun j u hu => ?_⟩
        have hj : j < 7 := (List.getElem?_eq_some_iff.1 hu).1
        have := (hq i hi').2 j hj
        rw [Addr.add_lit, hu] at this
        rw [← this]
        congr 2
        omega

set_option maxRecDepth 100000 in
theorem def_open {fuel : Nat} {cs : List Value} {x : DataW H × List MemPlace} (h : DataW.trod enc Tryz.prog W base (fun _ => true) held fuel 24 cs = some x) (hl : cs.length = 2) :
    ∃ c0 c1 name ns, cs = [c0, c1] ∧ RawDef W c0 c1 name ns := by
  match cs, hl with
  | [c0, c1], _ =>
    have kS : Tryz.prog.cellsOf 9 = 1 := by kernel_rfl
    have kL : Tryz.prog.cellsOf 22 = 1 := by kernel_rfl
    obtain ⟨y0, y1, n, hx, hl, h0, h1⟩ := trod_struct2 Tryz.underlying24 h
    have t0 : DataW.trod enc Tryz.prog W base (fun _ => true) held n 9 [c0] = some y0 := by simpa [kS] using h0
    have t1 : DataW.trod enc Tryz.prog W base (fun _ => true) held n 22 [c1] = some y1 := by simpa [kL] using h1
    obtain ⟨x0, e0, rfl, s0⟩ := DataW.trod_string Tryz.underlying9 t0
    obtain ⟨a, c, ns, rfl, q1, q2, R⟩ := nds_open t1
    simp only [List.cons.injEq, and_true] at e0
    subst e0
    exact ⟨_, _, x0, ns, rfl, rfl, s0, a, c, rfl, q1, q2, R⟩

end Go.Proofs.YtlholgpenpfpbaaGreatDoor

/-
  The law's cut: a definition that is not greater than is played.
-/
namespace Go.Proofs.YtlholgpenpfpbaaGreatDoor
open Go.RowKit

def cutN (n : Nd) : Nd := { n with after := n.after.take 10 }
def cutNs (ns : List Nd) : List Nd := (ns.take 40).map cutN

theorem TextsAt.take {w : World} {a : Option Addr} {c m : Nat} {l : List ByteArray} (T : TextsAt w (.slice a l.length c) l) (hm : m ≤ l.length) : TextsAt w (.slice a m c) (l.take m) := by
  obtain ⟨a', c', e, h1, h2, h3, h4⟩ := T
  simp only [Value.slice.injEq] at e
  obtain ⟨rfl, _, rfl⟩ := e
  have hl : (l.take m).length = m := by rw [List.length_take]; omega
  refine ⟨a, c, by rw [hl], by rw [hl]; omega, h2, ?_, fun s hs => h4 s (List.mem_of_mem_take hs)⟩
  rcases h3 with h | ⟨b, o, h, hc⟩
  · left
    simp at h
    subst h
    simp
  · refine .inr ⟨b, o, h, fun j u hu => hc j u ?_⟩
    rw [List.getElem?_map] at hu ⊢
    by_cases hj : j < m
    · rw [List.getElem?_take_of_lt hj] at hu
      exact hu
    · rw [List.getElem?_eq_none (by rw [hl]; omega)] at hu
      cases hu

/-- What stands between the rounds of cut. -/
structure CutJ (w wr : World) (name : ByteArray) (a : Option Addr) (c : Nat) (ms : List Nd) (k : Nat) (a' : Option Addr) (c' : Nat) (vs : List Value) : Prop where
  le : k ≤ ms.length
  row : wr.ownsRow (w.heap.size + 2) 35 7 (.slice a' k c') k (flatN ((ms.map cutN).take k) vs)
  len : vs.length = k
  txt : ∀ j (h1 : j < ms.length) (h2 : j < vs.length), TextsAt w vs[j] (cutN ms[j]).after
  kept : Kept (fun _ => False) w wr
  b0 : wr.heap[w.heap.size]? = some (.cells #[.string name, .slice a ms.length c] 24 (0, 0))
  b1 : wr.heap[w.heap.size + 1]? = some (.cells #[.string ⟨#[]⟩, .slice none 0 0] 24 (0, 0))

theorem CutJ.nodes {w wr : World} {name : ByteArray} {a a' : Option Addr} {c c' k : Nat} {ms : List Nd} {vs : List Value} (J : CutJ w wr name a c ms k a' c' vs) (R : RawAt w a ms) (hk : k = ms.length) {V : World} (KV : Kept (fun j => j < w.heap.size + 2) wr V) (KW : Kept (fun _ => False) w V) : NodesAt V a' (ms.map cutN) ∧ k ≤ c' := by
  have O := ownsRow_keep J.row (fun g hg => KV.block g (ownsRow_blk J.row hg) (by have := (J.row.lt g hg).1; omega))
  have hlen := J.len
  rw [List.take_of_length_le (by rw [List.length_map]; omega)] at O
  constructor
  · refine ⟨fun n hn => ?_, ?_⟩
    · obtain ⟨m, hm, rfl⟩ := List.mem_map.1 hn
      have := R.1 m hm
      exact ⟨this.name, this.arg, this.to, this.kind, this.delay, this.tries, by show (m.after.take 10).length ≤ _; rw [List.length_take]; omega⟩
    · rcases O.2 with ⟨e, h0⟩ | ⟨g, cap, cur, e, _⟩
      · left
        rw [List.map_eq_nil_iff]
        exact List.eq_nil_of_length_eq_zero (by omega)
      · simp only [Value.slice.injEq] at e
        obtain ⟨rfl, _, rfl⟩ := e
        refine .inr ⟨g, 0, rfl, fun i hi => ⟨vs[i]'(by rw [List.length_map] at hi; omega), ?_, fun j u hu => ?_⟩⟩
        · have := J.txt i (by rw [List.length_map] at hi; exact hi) (by rw [List.length_map] at hi; omega)
          rw [List.getElem_map]
          exact this.kept KW (fun _ _ h => h)
        · have := O.cells (g := g) rfl (i * 7 + j) u (flatN_at _ vs i hi (by rw [List.length_map] at hi; omega) j u hu)
          rw [Addr.add_lit] at this
          rw [show 0 + i * 7 + j = 0 + (i * 7 + j) by omega]
          exact this
  · rcases O.2 with ⟨e, h0⟩ | ⟨g, cap, cur, e, _, _, h1, _⟩
    · omega
    · simp only [Value.slice.injEq] at e; omega

/-- One node more. -/
theorem CutJ.push {w wr wq w3 : World} {name : ByteArray} {a a' a3 : Option Addr} {c c' c3 k : Nat} {v : Value} {ms : List Nd} {vs : List Value} (J : CutJ w wr name a c ms k a' c' vs) (hk : k < ms.length)
    (T : TextsAt w v (cutN ms[k]).after) (hq : Kept (fun _ => False) wr wq) (ho : w3.ownsRow (w.heap.size + 2) 35 7 (.slice a3 (k + 1) c3) (k + 1) (flatN ((ms.map cutN).take k) vs ++ ndC (cutN ms[k]) v))
    (hg : wq.grownBy w3 (Value.slice a' k c').ownBlock) : CutJ w w3 name a c ms (k + 1) a3 c3 (vs ++ [v]) := by
  have hlen := J.len
  have KG : Kept (fun j => w.heap.size + 2 ≤ j) wr w3 := (hq.mono (fun _ h => h.elim)).and (Kept.grown hg (fun g e => by exact (J.row.lt g e).1))
  have ht : (ms.map cutN).take (k + 1) = (ms.map cutN).take k ++ [cutN ms[k]] := by
    rw [List.take_add_one, List.getElem?_map, List.getElem?_eq_getElem hk]; rfl
  refine ⟨by omega, ?_, by simp [hlen], fun j h1 h2 => ?_, J.kept.trans KG (fun i h => .inr (by omega)), (KG.block _ (Array.getElem?_eq_some_iff.1 J.b0).1 (by omega)).trans J.b0, (KG.block _ (Array.getElem?_eq_some_iff.1 J.b1).1 (by omega)).trans J.b1⟩
  · rw [ht, flatN_append _ _ _ _ (by rw [List.length_take, List.length_map, hlen]; omega)]
    exact ho
  · by_cases e : j < vs.length
    · rw [List.getElem_append_left e]
      exact J.txt j h1 e
    · have hj : j = k := by simp at h2; omega
      subst hj
      rw [List.getElem_append_right (by omega)]
      simpa [hlen] using T

end Go.Proofs.YtlholgpenpfpbaaGreatDoor
