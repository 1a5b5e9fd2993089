/-
  Rows of numbers in an array, each in a block of its own.
-/
import Derived.Test.YtlholgpenpfpbaaGreatDoorB01
import Derived.Deep.OwnRows
namespace Go.Proofs.YtlholgpenpfpbaaGreatDoor
open Go.RowKit

theorem Tryz.info3 : (Tryz.prog.info? 3).map (fun i => (i.zero, i.size, i.bytes)) = some (some (.int .i64 0), 1, 8) := by kernel_rfl
theorem Tryz.info50 : (Tryz.prog.info? 50).map (fun i => (i.zero, i.size, i.bytes)) = some (some (.slice none 0 0), 1, 24) := by kernel_rfl

def natsV (l : List Nat) : List Value := l.map (fun x => Value.int .i64 (x : Nat))

theorem natsV_one (l : List Nat) : ∀ u ∈ natsV l, u.oneCell' = true := by
  intro u hu
  obtain ⟨x, _, rfl⟩ := List.mem_map.1 hu
  rfl

theorem natsV_len (l : List Nat) : (natsV l).length = l.length := by simp [natsV]

/-- An array of n rows at bb: row j has the numbers f j; the rows' blocks are of S, and apart. -/
structure BehAt (w : World) (B : Nat) (S : Nat → Prop) (bb n : Nat) (f : Nat → List Nat) (vs : Nat → Value) : Prop where
  row : w.rowIs bb 50 n vs
  own : ∀ j, j < n → w.ownsRow B 3 1 (vs j) (f j).length (natsV (f j))
  inS : ∀ j, j < n → ∀ g, (vs j).ownBlock = some g → S g
  apart : ∀ j k, j < n → k < n → j ≠ k → ∀ g, (vs j).ownBlock = some g → (vs k).ownBlock ≠ some g
  noB : ∀ g, S g → g ≠ bb

theorem ownsRow_keep {w w' : World} {B e size : Nat} {v : Value} {n : Nat} {xs : List Value} (h : w.ownsRow B e size v n xs) (hk : ∀ g, v.ownBlock = some g → w'.heap[g]? = w.heap[g]?) : w'.ownsRow B e size v n xs := by
  refine ⟨h.1, ?_⟩
  rcases h.2 with h0 | ⟨g, cap, cur, hv, hb, hg, r⟩
  · exact .inl h0
  · exact .inr ⟨g, cap, cur, hv, hb, (hk g (by rw [hv]; rfl)).trans hg, r⟩

theorem ownsRow_blk {w : World} {B e size : Nat} {v : Value} {n : Nat} {xs : List Value} (h : w.ownsRow B e size v n xs) {g : Nat} (hg : v.ownBlock = some g) : g < w.heap.size := (h.lt g hg).2

section
variable {w w' : World} {B bb n : Nat} {S : Nat → Prop} {f : Nat → List Nat} {vs : Nat → Value}

theorem BehAt.kept {S' : Nat → Prop} (H : BehAt w B S bb n f vs) (K : Kept S' w w') (h1 : ¬ S' bb) (h2 : ∀ g, S g → ¬ S' g) : BehAt w' B S bb n f vs :=
  ⟨H.row.of_block (K.block bb H.row.lt h1), fun j hj => ownsRow_keep (H.own j hj) (fun g hg => K.block g (ownsRow_blk (H.own j hj) hg) (h2 g (H.inS j hj g hg))), H.inS, H.apart, H.noB⟩

theorem BehAt.widen {S' : Nat → Prop} (H : BehAt w B S bb n f vs) (h : ∀ j, j < n → ∀ g, (vs j).ownBlock = some g → S' g) (hb : ∀ g, S' g → g ≠ bb) : BehAt w B S' bb n f vs :=
  ⟨H.row, H.own, h, H.apart, hb⟩

theorem BehAt.is {f' : Nat → List Nat} (H : BehAt w B S bb n f vs) (h : ∀ j, j < n → f j = f' j) : BehAt w B S bb n f' vs :=
  ⟨H.row, fun j hj => by rw [← h j hj]; exact H.own j hj, H.inS, H.apart, H.noB⟩

/-- One more number in row j. -/
theorem BehAt.push {w3 : World} {a3 : Option Addr} {m c3 : Nat} {x : Nat} (H : BehAt w B S bb n f vs) {j : Nat} (hj : j < n) (ho : w3.ownsRow B 3 1 (.slice a3 m c3) m (natsV (f j) ++ natsV [x])) (hg : w.grownBy w3 (vs j).ownBlock)
    (hb : (Value.slice a3 m c3).ownBlock = (vs j).ownBlock ∨ (Value.slice a3 m c3).ownBlock = some w.heap.size) (hS : S w.heap.size) :
    BehAt (w3.setCell ⟨bb, j, none⟩ (.slice a3 m c3)) B S bb n (fun k => if k = j then f j ++ [x] else f k) (fun k => if k = j then .slice a3 m c3 else vs k) ∧ Kept (fun g => S g ∨ g = bb) w (w3.setCell ⟨bb, j, none⟩ (.slice a3 m c3)) := by
  have K3 : Kept (fun g => (vs j).ownBlock = some g) w w3 := Kept.grown hg (fun k e => e)
  have hbb : ¬ (vs j).ownBlock = some bb := fun e => H.noB bb (H.inS j hj bb e) rfl
  have r3 := H.row.of_block (K3.block bb H.row.lt hbb)
  have hm : m = (f j).length + 1 := by have := ho.1; rw [List.length_append, natsV_len, natsV_len] at this; simpa using this.symm
  have new_in : ∀ g, (Value.slice a3 m c3).ownBlock = some g → S g := fun g e => by
    rcases hb with h | h
    · exact H.inS j hj g (by rw [← h]; exact e)
    · rw [h] at e; cases e; exact hS
  have keepS : ∀ g, g ≠ bb → (w3.setCell ⟨bb, j, none⟩ (.slice a3 m c3)).heap[g]? = w3.heap[g]? := fun g e => Below.heap_setCell _ _ _ _ (fun h => e h)
  refine ⟨⟨?_, ?_, ?_, ?_, H.noB⟩, ?_⟩
  · exact r3.set j _
  · intro k hk
    by_cases e : k = j
    · subst e
      simp only [if_true]
      rw [show (f k ++ [x]).length = m by simp [hm], show natsV (f k ++ [x]) = natsV (f k) ++ natsV [x] by simp [natsV]]
      exact ownsRow_keep ho (fun g hg => keepS g (H.noB g (new_in g hg)))
    · simp only [e, if_false]
      refine ownsRow_keep (H.own k hk) (fun g hg => ?_)
      rw [keepS g (H.noB g (H.inS k hk g hg))]
      exact K3.block g (ownsRow_blk (H.own k hk) hg) (fun h => H.apart j k hj hk (fun h => e h.symm) g h hg)
  · intro k hk g
    by_cases e : k = j
    · subst e; simp only [if_true]; exact new_in g
    · simp only [e, if_false]; exact H.inS k hk g
  · intro k l hk hl hne g
    have hnew : ∀ l, l < n → l ≠ j → ∀ g, (Value.slice a3 m c3).ownBlock = some g → (vs l).ownBlock ≠ some g := fun l hl hne g e1 e2 => by
      rcases hb with h | h
      · rw [h] at e1; exact H.apart j l hj hl (fun h => hne h.symm) g e1 e2
      · rw [h] at e1; cases e1
        have := ownsRow_blk (H.own l hl) e2
        omega
    by_cases e : k = j
    · subst e
      have : ¬ l = k := fun h => hne h.symm
      simp only [if_true, this, if_false]
      exact hnew l hl (fun h => hne h.symm) g
    · by_cases e2 : l = j
      · subst e2
        simp only [e, if_false, if_true]
        exact fun h1 h2 => hnew k hk hne g h2 h1
      · simp only [e, e2, if_false]
        exact H.apart k l hk hl hne g
  · exact (K3.mono (fun g h => .inl (H.inS j hj g h))).and (Kept.setCell _ _ _ (.inr rfl))

end

theorem behNew (w : World) (B n : Nat) (S : Nat → Prop) (hS : ∀ g, S g → g ≠ w.heap.size) : BehAt (w.alloc (.cells (madeCells #[.slice none 0 0] n) 50)) B S w.heap.size n (fun _ => []) (fun _ => .slice none 0 0) :=
  ⟨World.rowIs_made _ _ _ _, fun j hj => World.ownsRow_nil _ _ _ _, fun j hj g h => (by cases h), fun j k _ _ _ g h => (by cases h), hS⟩

/-- How often the first k names of a node's After mean the node j. -/
def asksK (ns : List Nd) (x : Nd) (k j : Nat) : Nat := (x.after.take k).countP (fun s => decide (aheadP ns x s = some j))

theorem asksK_all (ns : List Nd) (x : Nd) (j : Nat) : asksK ns x x.after.length j = asks ns x j := by unfold asksK asks; rw [List.take_length]

theorem asksK_next {ns : List Nd} {x : Nd} {k : Nat} (hk : k < x.after.length) (j : Nat) : asksK ns x (k + 1) j = asksK ns x k j + if aheadP ns x (x.after[k]) = some j then 1 else 0 := by
  unfold asksK
  rw [List.take_add_one, List.getElem?_eq_getElem hk, Option.toList_some, List.countP_append, List.countP_singleton]
  simp

/-- Who waits for j while node i's first k names are gone through. -/
def bhK (ns : List Nd) (i k j : Nat) (x : Nd) : List Nat := bhL ns j i ++ List.replicate (asksK ns x k j) i

theorem bhK_zero (ns : List Nd) (i j : Nat) (x : Nd) : bhK ns i 0 j x = bhL ns j i := by unfold bhK asksK; simp

theorem bhK_all {ns : List Nd} {i : Nat} (j : Nat) {x : Nd} (h : ns[i]? = some x) : bhK ns i x.after.length j x = bhL ns j (i + 1) := by
  unfold bhK
  rw [asksK_all, bhL, h]

theorem bhK_hit {ns : List Nd} {i k j : Nat} {x : Nd} (hk : k < x.after.length) (h : aheadP ns x (x.after[k]) = some j) (q : Nat) : (if q = j then bhK ns i k j x ++ [i] else bhK ns i k q x) = bhK ns i (k + 1) q x := by
  unfold bhK
  rw [asksK_next hk, h]
  by_cases e : q = j
  · subst e
    rw [if_pos rfl, if_pos rfl, List.append_assoc, List.replicate_succ']
  · have : ¬ (some j = some q) := fun h => e (Option.some.inj h).symm
    rw [if_neg e, if_neg this, Nat.add_zero]

theorem bhK_miss {ns : List Nd} {i k : Nat} {x : Nd} (hk : k < x.after.length) (h : aheadP ns x (x.after[k]) = none) (q : Nat) : bhK ns i k q x = bhK ns i (k + 1) q x := by
  unfold bhK
  rw [asksK_next hk, h]
  simp

theorem bhL_len {ns : List Nd} (h : ∀ n ∈ ns, n.after.length ≤ 1000000) (j : Nat) : ∀ i, (bhL ns j i).length ≤ i * 1000000
  | 0 => by simp [bhL]
  | i + 1 => by
    have ih := bhL_len h j i
    rw [bhL, List.length_append, List.length_replicate, Nat.succ_mul]
    generalize i * 1000000 = z at *
    generalize bhL ns j i = l at *
    cases hn : ns[i]? with
    | none => exact Nat.le_trans ih (Nat.le_add_right _ _)
    | some n =>
      have : asks ns n j ≤ 1000000 := Nat.le_trans List.countP_le_length (h n (List.mem_of_getElem? hn))
      exact Nat.add_le_add ih this

theorem bhK_len {ns : List Nd} (h : ∀ n ∈ ns, n.after.length ≤ 1000000) (i k j : Nat) {x : Nd} (hx : x.after.length ≤ 1000000) : (bhK ns i k j x).length ≤ (i + 1) * 1000000 := by
  have h1 := bhL_len h j i
  unfold bhK
  rw [List.length_append, List.length_replicate]
  have : asksK ns x k j ≤ 1000000 := Nat.le_trans List.countP_le_length (by rw [List.length_take]; omega)
  omega

theorem bhL_len2 {ns : List Nd} (h : ∀ n ∈ ns, n.after.length ≤ 1000000) (hn : ns.length ≤ 1000000) (j : Nat) : (bhL ns j ns.length).length ≤ 1000000000000 := by
  have := bhL_len h j ns.length
  omega

end Go.Proofs.YtlholgpenpfpbaaGreatDoor

/-
  The reader: numbers, rows of names, lines that say nothing, the heading.
-/
namespace Go.Proofs.YtlholgpenpfpbaaGreatDoor
open Go.RowKit

theorem str_lit (s : ByteArray) (l : List UInt8) : (s.toList == l) = decide (s = ⟨l.toArray⟩) := by
  have h := str_eq s ⟨l.toArray⟩
  rw [Lib.toList_data ⟨l.toArray⟩] at h
  exact h

def digitsB : ByteArray := ⟨#[48, 49, 50, 51, 52, 53, 54, 55, 56, 57]⟩
/-- A number's text in its one form. -/
def numP (s : ByteArray) : Bool := madeP s digitsB 15 && (decide (s = ⟨#[48]⟩) || !(s.data.toList.headD 0 == 48))
def numV (s : ByteArray) : Int := (Lib.atoi s.data.toList).getD 0
def rNum (r : RS) : Int × RS := if numP (rWord r).1 then (numV (rWord r).1, (rWord r).2) else (0, ((rWord r).2.1, true))

theorem digit_in {b : UInt8} (h : digitsB.data.toList.contains b = true) : ∃ d, Lib.digitVal b = some d := by
  have h2 : b = 48 ∨ b = 49 ∨ b = 50 ∨ b = 51 ∨ b = 52 ∨ b = 53 ∨ b = 54 ∨ b = 55 ∨ b = 56 ∨ b = 57 := by
    simp [digitsB] at h
    exact h
  rcases h2 with rfl | rfl | rfl | rfl | rfl | rfl | rfl | rfl | rfl | rfl <;> exact ⟨_, rfl⟩

theorem decFrom_some : ∀ (l : List UInt8) (acc : Nat), (l.all fun c => digitsB.data.toList.contains c) = true → ∃ n, Lib.decFrom acc l = some n
  | [], acc, _ => ⟨acc, rfl⟩
  | b :: r, acc, h => by
    rw [List.all_cons, Bool.and_eq_true] at h
    obtain ⟨d, hd⟩ := digit_in h.1
    obtain ⟨n, hn⟩ := decFrom_some r (acc * 10 + d) h.2
    refine ⟨n, ?_⟩
    unfold Lib.decFrom
    rw [hd]
    exact hn

theorem num_atoi {s : ByteArray} (h : madeP s digitsB 15 = true) : Lib.atoi s.data.toList = some (numV s) ∧ s.size ≤ 15 ∧ 0 ≤ numV s ∧ numV s < 1000000000000000000 := by
  unfold madeP at h
  simp only [Bool.and_eq_true, decide_eq_true_eq] at h
  obtain ⟨⟨h1, h2⟩, h3⟩ := h
  have hl : s.data.toList.length = s.size := by simp
  obtain ⟨n, hn⟩ := decFrom_some s.data.toList 0 h3
  cases hs : s.data.toList with
  | nil => rw [hs] at hl; simp at hl; omega
  | cons b r =>
    have hb : digitsB.data.toList.contains b = true := by rw [hs, List.all_cons, Bool.and_eq_true] at h3; exact h3.1
    have e1 : (b == 45) = false := by
      cases hh : (b == 45) with
      | false => rfl
      | true => rw [beq_iff_eq] at hh; subst hh; simp [digitsB] at hb
    have e2 : (b == 43) = false := by
      cases hh : (b == 43) with
      | false => rfl
      | true => rw [beq_iff_eq] at hh; subst hh; simp [digitsB] at hb
    have ha : Lib.atoi (b :: r) = some (n : Int) := by
      simp only [Lib.atoi, e1, e2, Bool.false_eq_true, if_false]
      rw [hs] at hn
      unfold Lib.decNat
      rw [hn]
      rfl
    have hv : numV s = (n : Int) := by unfold numV; rw [hs, ha]; rfl
    have hlt := Lib.decFrom_lt18 hn (by omega)
    rw [hv]
    exact ⟨ha, by omega, by omega, by omega⟩

set_option maxRecDepth 100000 in
set_option maxHeartbeats 1000000 in
theorem num_any (w : World) (s : ByteArray) :
    Calls Tryz.prog 71 #[.string s] w fun e w' => e = .returned (.bool (numP s)) ∧ w' = w := by
  have h := made_any w s digitsB 15 (by decide)
  have he : (s.toList == [48]) = decide (s = (⟨#[48]⟩ : ByteArray)) := str_lit s [48]
  unfold numP
  cases g : madeP s digitsB 15 with
  | false =>
    rw [g] at h
    unfold digitsB at h
    simp only [Bool.false_and]
    go_enter Tryz.func71, Tryz.ntmps71
    go_wp2_with (first
      | (go_at_call 41; refine h.mono ?_; rintro e w1 ⟨rfl, rfl⟩; clear h)
      | fail)
    go_ret
    exact ⟨rfl, rfl⟩
  | true =>
    obtain ⟨_, hsz, _⟩ := num_atoi g
    have h0 : 0 < s.size := by
      unfold madeP at g
      simp only [Bool.and_eq_true, decide_eq_true_eq] at g
      omega
    have hix : ∀ W, (Instr.index 9 (.string s) (.int .i64 0)).run Tryz.prog W = .ok (.int .u8 (((s[0]'h0).toNat : Nat) : Int)) W := fun W => by
      rw [run_index_string W _ _ _ _ Tryz.underlying9]
      rw [dif_pos ⟨by omega, by omega⟩]
      simp
    have hhd : s.data.toList.headD 0 = s[0]'h0 := by
      have hl : 0 < s.data.toList.length := by simpa using h0
      cases hs : s.data.toList with
      | nil => rw [hs] at hl; simp at hl
      | cons b r =>
        have : s.data.toList[0] = b := by simp [hs]
        rw [← this]
        rfl
    have hbq : ((((s[0]'h0).toNat : Nat) : Int) == 48) = (s.data.toList.headD 0 == 48) := by
      rw [hhd, Bool.eq_iff_iff, beq_iff_eq, beq_iff_eq]
      constructor
      · intro h; apply UInt8.toNat_inj.1; show _ = 48; omega
      · intro h; rw [h]; rfl
    rw [g] at h
    unfold digitsB at h
    simp only [Bool.true_and]
    generalize (s.data.toList.headD 0 == 48) = y at *
    generalize (((s[0]'h0).toNat : Nat) : Int) = z at *
    cases gs : decide (s = (⟨#[48]⟩ : ByteArray)) with
    | true =>
      rw [gs] at he
      go_enter Tryz.func71, Tryz.ntmps71
      go_wp2_with (first
        | (go_at_call 41; refine h.mono ?_; rintro e w1 ⟨rfl, rfl⟩; clear h)
        | fail)
      go_ret
      exact ⟨rfl, rfl⟩
    | false =>
      rw [gs] at he
      cases y <;>
      · go_enter Tryz.func71, Tryz.ntmps71
        go_wp2_with (first
          | (go_at_call 41; refine h.mono ?_; rintro e w1 ⟨rfl, rfl⟩; clear h)
          | fail)
        go_ret
        refine ⟨?_, rfl⟩
        show Ending.returned (.bool (z != 48)) = _
        unfold bne
        rw [hbq]
        rfl

theorem bytesKept (S : Nat → Prop) (w : World) (e : TypeId) (s : ByteArray) : Kept S w (Lib.bytesWorld w e s) :=
  let h := Go.Joins.below_bytesWorld w.heap.size w e s (Nat.le_refl _)
  ⟨h.os, h.tape, h.output, h.size, fun k hk _ => h.block k hk⟩

set_option maxRecDepth 100000 in
set_option maxHeartbeats 1000000 in
theorem rnum_any (w : World) (B rb : Nat) (r : RS) (R : RdAt w B rb r) :
    Calls Tryz.prog 62 #[.pointer (some ⟨rb, 0, none⟩)] w fun e w' => e = .returned (.int .i64 (rNum r).1) ∧ RdAt w' B rb (rNum r).2 ∧ Kept (fun j => j = rb) w w' := by
  have h1 := word_any w B rb r R
  have h2 := fun W => num_any W (rWord r).1
  unfold rNum
  clear R
  generalize (rWord r).1 = x at *
  generalize (rWord r).2 = q at *
  obtain ⟨ws, b⟩ := q
  cases g : numP x with
  | false =>
    rw [g] at h2
    simp only [Bool.false_eq_true, if_false] at h1 ⊢
    go_enter Tryz.func62, Tryz.ntmps62
    go_wp2_with (first
      | (go_at_call 61; refine h1.mono ?_; rintro e w1 ⟨rfl, R1, K1⟩; obtain ⟨_, _, _, y1, _, z1, _⟩ := R1.cells; have HR1 : Hid _ := R1; clear h1 R1)
      | (go_at_call 71; refine (h2 _).mono ?_; rintro e w2 ⟨rfl, rfl⟩; clear h2)
      | fail)
    go_ret
    exact ⟨rfl, HR1.out.mark true, K1.and (Kept.setCell _ _ _ rfl)⟩
  | true =>
    rw [g] at h2
    have hm : madeP x digitsB 15 = true := by
      unfold numP at g
      rw [Bool.and_eq_true] at g
      exact g.1
    obtain ⟨ha, hsz, _, _⟩ := num_atoi hm
    have h3 := fun W => Any.strconv_Atoi Tryz.atoiL x (numV x) (by omega) ha W
    simp only [if_true] at h1 ⊢
    generalize numV x = v at *
    clear ha hm g
    go_enter Tryz.func62, Tryz.ntmps62
    go_wp2_with (first
      | (go_at_call 61; refine h1.mono ?_; rintro e w1 ⟨rfl, R1, K1⟩; have HR1 : Hid _ := R1; clear h1 R1)
      | (go_at_call 71; refine (h2 _).mono ?_; rintro e w2 ⟨rfl, rfl⟩; clear h2)
      | (go_at_call 72; refine (h3 _).mono ?_; rintro e w3 ⟨rfl, t, rfl⟩; clear h3)
      | fail)
    go_ret
    have K3 := bytesKept (fun _ => False) w2 5 t
    exact ⟨rfl, HR1.out.kept K3 (fun _ _ h => h), K1.and (K3.mono (fun _ h => h.elim))⟩

end Go.Proofs.YtlholgpenpfpbaaGreatDoor

/-
  The reader: rows of names, lines that say nothing, the heading.
-/
namespace Go.Proofs.YtlholgpenpfpbaaGreatDoor
open Go.RowKit

theorem Tryz.info9 : (Tryz.prog.info? 9).map (fun i => (i.zero, i.size, i.bytes)) = some (some (.string ⟨#[]⟩), 1, 16) := by kernel_rfl

def slLen : Value → Nat
  | .slice _ m _ => m
  | _ => 0

def strsV (l : List ByteArray) : List Value := l.map Value.string

theorem strsV_one (l : List ByteArray) : ∀ u ∈ strsV l, u.oneCell' = true := by
  intro u hu
  obtain ⟨x, _, rfl⟩ := List.mem_map.1 hu
  rfl

def anyBad (l : List ByteArray) : Bool := l.any (fun s => !nameP s)
def rNames (r : RS) : List ByteArray × RS := ((rName r).1 :: (rName r).2.1, ([], (rName r).2.2 || anyBad (rName r).2.1))

theorem rName_cons (x : ByteArray) (t : List ByteArray) (b : Bool) : rName (x :: t, b) = (x, (t, b || !nameP x)) := rfl

set_option maxRecDepth 100000 in
set_option maxHeartbeats 2000000 in
theorem rnames_any (w : World) (B rb : Nat) (r : RS) (R : RdAt w B rb r) (hr : r.1.length ≤ 100000) :
    Calls Tryz.prog 64 #[.pointer (some ⟨rb, 0, none⟩)] w fun e w' => ∃ a c, e = .returned (.slice a (rNames r).1.length c) ∧ w'.ownsRow w.heap.size 9 1 (.slice a (rNames r).1.length c) (rNames r).1.length (strsV (rNames r).1) ∧ RdAt w' B rb (rNames r).2 ∧ Kept (fun j => j = rb) w w' := by
  obtain ⟨i0, hi0, hz0, hz1, hz2⟩ := info_parts Tryz.info9
  have h1 := rname_any w B rb r R
  have hlow := R.low
  have htop := R.top
  have hlen : (rName r).2.1.length ≤ 100000 := by
    unfold rName rWord
    obtain ⟨ws, b⟩ := r
    cases ws with
    | nil => simp
    | cons x t => simp at hr ⊢; omega
  unfold rNames
  clear R hr
  generalize (rName r).1 = x at *
  generalize (rName r).2 = q at *
  obtain ⟨ws, b⟩ := q
  simp only [] at hlen h1 ⊢
  go_enter Tryz.func64, Tryz.ntmps64
  go_wp2_with (first
    | (go_at_call 59; refine h1.mono ?_; rintro e w1 ⟨rfl, R1, K1⟩; have HR1 : Hid _ := R1; clear h1 R1; have hsz1 := K1.size)
    | fail)
  have HO : Hid ((w1.alloc (.cells #[.string x] 9)).ownsRow w.heap.size 9 1 (.slice (some ⟨w1.heap.size, 0, none⟩) 1 1) 1 (strsV [x])) := World.ownsRow_lit w1 #[.string x] 1 hsz1 (by simp [maxLen]) rfl
  go_loopw [3] (fun v wr => ∃ (a : Option Addr) (c : Nat) (l rest : List ByteArray) (b' : Bool), v = .slice a l.length c ∧ l ++ rest = x :: ws ∧ wr.ownsRow w.heap.size 9 1 (.slice a l.length c) l.length (strsV l) ∧ RdAt wr B rb (rest, b') ∧ (b' || anyBad rest) = (b || anyBad ws) ∧ Kept (fun j => j = rb) w wr) (fun v _ => ws.length + 1 - slLen v)
  case atStart => exact ⟨some ⟨w1.heap.size, 0, none⟩, 1, [x], ws, b, rfl, rfl, HO.out, HR1.out.kept (Kept.alloc (fun _ => False) _ _) (fun _ _ h => h), rfl, K1.and (Kept.alloc _ _ _)⟩
  case round =>
    obtain ⟨a, c, l, rest, b', rfl, hl, O, R, hb, K⟩ := hrel
    have hsz := K.size
    obtain ⟨ra, rc, c0, _, _, _, _, _⟩ := R.cells
    have hln : l.length + rest.length = ws.length + 1 := by
      have := congrArg List.length hl
      simpa using this
    cases rest with
    | nil =>
      rw [List.append_nil] at hl
      subst hl
      simp only [anyBad, List.any_nil, Bool.or_false] at hb
      have HR : Hid (RdAt wr B rb ([], b')) := R
      have HB : Hid (b' = (b || anyBad ws)) := hb
      simp only [List.length_nil] at c0
      clear R hb
      go_wp2
      go_ret
      refine ⟨a, c, ?_, ?_, ?_, K⟩
      · rfl
      · exact O
      · rw [← HB.out]; exact HR.out
    | cons y t =>
      have h2 := rname_any wr B rb (y :: t, b') R
      rw [rName_cons] at h2
      simp only [List.length_cons] at c0 hln
      have e1 : (0 : Int) < (t.length : Int) + 1 := by omega
      have HO2 : Hid (wr.ownsRow w.heap.size 9 1 (.slice a l.length c) l.length (strsV l)) := O
      have HB : Hid ((b' || !nameP y || anyBad t) = (b || anyBad ws)) := by
        show _ = _
        rw [← hb]
        simp [anyBad, Bool.or_assoc]
      have hblk : ∀ g, (Value.slice a l.length c).ownBlock = some g → g ≠ rb := fun g hg => by have := (O.lt g hg).1; omega
      have HC : Hid (∀ u ∈ [Value.string y], u.oneCell' = true) := strsV_one [y]
      clear R O hb
      generalize hq : (b' || !nameP y) = b2 at *
      go_wp2_with (first
        | (go_at_call 59; refine h2.mono ?_; rintro e w2 ⟨rfl, R2, K2⟩; have HR2 : Hid (RdAt w2 B rb (t, b2)) := R2; clear h2 R2; have hsz2 := K2.size; have HO3 : Hid (w2.ownsRow w.heap.size 9 1 (.slice a l.length c) l.length (strsV l)) := ownsRow_keep HO2.out (fun g hg => K2.block g (ownsRow_blk HO2.out hg) (hblk g hg)))
        | (at_builtin; refine wpList_append_src _ rfl _ _ 33 rfl w.heap.size 9 i0 _ 1 16 Tryz.underlying33 hi0 hz0 hz1 hz2 rfl (by decide) (.slice a l.length c) l.length _ rfl (HO3.out.alloc _) _ rfl 1 _ (.inl ⟨_, 1, rfl, rfl, World.news_of_block (heap_alloc_new _ _)⟩) HC.out (by unfold maxLen; omega) (by omega) (by simp; omega) ?_; intro a3 cap3 w3 ho3 hg3 _ hl3; have HO4 : Hid (w3.ownsRow w.heap.size 9 1 (.slice a3 (l.length + 1) cap3) (l.length + 1) (strsV (l ++ [y]))) := (by rw [show strsV (l ++ [y]) = strsV l ++ strsV [y] by simp [strsV]]; exact ho3); clear ho3)
        | fail)
      have KG : Kept (fun g => w.heap.size ≤ g) w2 w3 := (Kept.alloc _ _ _).and (Kept.grown hg3 (fun g e => (HO2.out.lt g e).1))
      go_roundw
      case rel =>
        refine ⟨a3, cap3, l ++ [y], t, b2, by simp, by rw [List.append_assoc]; exact hl, ?_, HR2.out.kept KG (fun k hk => by omega), HB.out, (K.and K2).trans KG (fun i h => .inr h)⟩
        rw [List.length_append, List.length_singleton]
        exact HO4.out
      case measure => simp [slLen]; omega

/-- The line says nothing. -/
def rSilent (r : RS) : Bool := match r.1 with
  | [] => true
  | x :: _ => x.data.toList.headD 0 == 35

theorem first_byte {s : ByteArray} (h0 : 0 < s.size) : s.data.toList.headD 0 = s[0]'h0 := by
  have hl : 0 < s.data.toList.length := by simpa using h0
  cases hs : s.data.toList with
  | nil => rw [hs] at hl; simp at hl
  | cons b r =>
    have : s.data.toList[0] = b := by simp [hs]
    rw [← this]
    rfl

set_option maxRecDepth 100000 in
set_option maxHeartbeats 1000000 in
theorem silent_any (w : World) (B rb : Nat) (r : RS) (R : RdAt w B rb r) (hne : ∀ s ∈ r.1, 0 < s.size) :
    Calls Tryz.prog 37 #[.pointer (some ⟨rb, 0, none⟩)] w fun e w' => e = .returned (.bool (rSilent r)) ∧ w' = w := by
  obtain ⟨ws, b⟩ := r
  cases ws with
  | nil =>
    obtain ⟨a, c, c0, _, _, _, _, _⟩ := R.cells
    unfold rSilent
    simp only [List.length_nil] at c0 ⊢
    clear R hne
    go_enter Tryz.func37, Tryz.ntmps37
    go_wp2
    go_ret
    exact ⟨rfl, rfl⟩
  | cons x t =>
    obtain ⟨ba, oa, c, c0, hc, cx, _, _⟩ := R.next
    have h0 : 0 < x.size := hne x (by simp)
    have hix : ∀ W, (Instr.index 9 (.string x) (.int .i64 0)).run Tryz.prog W = .ok (.int .u8 (((x[0]'h0).toNat : Nat) : Int)) W := fun W => by
      rw [run_index_string W _ _ _ _ Tryz.underlying9]
      rw [dif_pos ⟨by omega, by omega⟩]
      simp
    have hbq : ((((x[0]'h0).toNat : Nat) : Int) == 35) = (x.data.toList.headD 0 == 35) := by
      rw [first_byte h0, Bool.eq_iff_iff, beq_iff_eq, beq_iff_eq]
      constructor
      · intro h; apply UInt8.toNat_inj.1; show _ = 35; omega
      · intro h; rw [h]; rfl
    unfold rSilent
    simp only []
    have e1 : (1 : Int) ≤ (t.length : Int) + 1 := by omega
    have e3 : ((t.length : Int) + 1 == 0) = false := by simp; omega
    generalize (x.data.toList.headD 0 == 35) = y at *
    generalize (((x[0]'h0).toNat : Nat) : Int) = z at *
    clear R hne
    go_enter Tryz.func37, Tryz.ntmps37
    go_wp2
    go_ret
    refine ⟨?_, rfl⟩
    rw [← hbq]
    rfl

def wfB : ByteArray := ⟨#[119, 111, 114, 107, 102, 108, 111, 119]⟩
def rHead (r : RS) : ByteArray × RS :=
  ((rName ((rTake wfB r).2.1, (rTake wfB r).2.2 || !(rTake wfB r).1)).1, rEnd (rName ((rTake wfB r).2.1, (rTake wfB r).2.2 || !(rTake wfB r).1)).2)

set_option maxRecDepth 100000 in
set_option maxHeartbeats 1000000 in
theorem heading_any (w : World) (B rb : Nat) (r : RS) (R : RdAt w B rb r) :
    Calls Tryz.prog 38 #[.pointer (some ⟨rb, 0, none⟩)] w fun e w' => e = .returned (.string (rHead r).1) ∧ RdAt w' B rb (rHead r).2 ∧ Kept (fun j => j = rb) w w' := by
  have h1 := take_any w B rb r R wfB
  unfold rHead
  generalize (rTake wfB r).1 = t at *
  generalize (rTake wfB r).2 = q at *
  obtain ⟨ws, b⟩ := q
  have h2 := fun W (R : RdAt W B rb (ws, b)) => must_any W B rb ws b t R
  have h3 := fun W (R : RdAt W B rb (ws, b || !t)) => rname_any W B rb (ws, b || !t) R
  have h4 := fun W (R : RdAt W B rb (rName (ws, b || !t)).2) => end_any W B rb _ R
  simp only []
  generalize (rName (ws, b || !t)).1 = x at *
  generalize (rName (ws, b || !t)).2 = q at *
  generalize rEnd q = q2 at *
  unfold wfB at h1
  clear R
  go_enter Tryz.func38, Tryz.ntmps38
  go_wp2_with (first
    | (go_at_call 58; refine h1.mono ?_; rintro e w1 ⟨rfl, R1, K1⟩; have HR1 : Hid _ := R1; clear h1 R1)
    | (go_at_call 57; refine (h2 _ HR1.out).mono ?_; rintro e w2 ⟨rfl, R2, K2⟩; have HR2 : Hid _ := R2; clear h2 R2)
    | (go_at_call 59; refine (h3 _ HR2.out).mono ?_; rintro e w3 ⟨rfl, R3, K3⟩; have HR3 : Hid _ := R3; clear h3 R3)
    | (go_at_call 60; refine (h4 _ HR3.out).mono ?_; rintro e w4 ⟨rfl, R4, K4⟩; clear h4)
    | fail)
  go_ret
  exact ⟨rfl, R4, ((K1.and K2).and K3).and K4⟩

end Go.Proofs.YtlholgpenpfpbaaGreatDoor

/-
  copied: a node with an After of its own.
-/
namespace Go.Proofs.YtlholgpenpfpbaaGreatDoor
open Go.RowKit

/-- Seven cells of a block. -/
theorem seven {w : World} {b : Nat} {T : TypeId} {u0 u1 u2 u3 u4 u5 u6 : Value} (h : w.heap[b]? = some (.cells #[u0, u1, u2, u3, u4, u5, u6] T (0, 0))) :
    (w.cell? ⟨b, 0, none⟩ = some u0 ∧ w.cell? ⟨b, 1, none⟩ = some u1 ∧ w.cell? ⟨b, 2, none⟩ = some u2 ∧ w.cell? ⟨b, 3, none⟩ = some u3 ∧ w.cell? ⟨b, 4, none⟩ = some u4 ∧ w.cell? ⟨b, 5, none⟩ = some u5 ∧ w.cell? ⟨b, 6, none⟩ = some u6) ∧
    (w.frozen? ⟨b, 0, none⟩ = false ∧ w.frozen? ⟨b, 1, none⟩ = false ∧ w.frozen? ⟨b, 2, none⟩ = false ∧ w.frozen? ⟨b, 3, none⟩ = false ∧ w.frozen? ⟨b, 4, none⟩ = false ∧ w.frozen? ⟨b, 5, none⟩ = false ∧ w.frozen? ⟨b, 6, none⟩ = false) := by
  simp [World.cell?, World.frozen?, h]

theorem put7 {w : World} {b : Nat} {T : TypeId} {u0 u1 u2 u3 u4 u5 u6 : Value} (h : w.heap[b]? = some (.cells #[u0, u1, u2, u3, u4, u5, u6] T (0, 0))) (v0 v1 v2 v3 v4 v5 v6 : Value) : (((((((w.setCell ⟨b, 0, none⟩ v0).setCell ⟨b, 1, none⟩ v1).setCell ⟨b, 2, none⟩ v2).setCell ⟨b, 3, none⟩ v3).setCell ⟨b, 4, none⟩ v4).setCell ⟨b, 5, none⟩ v5).setCell ⟨b, 6, none⟩ v6).heap[b]? = some (.cells #[v0, v1, v2, v3, v4, v5, v6] T (0, 0)) := by
  simp [World.setCell, Array.getElem?_modify, h]

theorem kept7 {S : Nat → Prop} (w : World) {b : Nat} (hb : S b) (v0 v1 v2 v3 v4 v5 v6 : Value) : Kept S w (((((((w.setCell ⟨b, 0, none⟩ v0).setCell ⟨b, 1, none⟩ v1).setCell ⟨b, 2, none⟩ v2).setCell ⟨b, 3, none⟩ v3).setCell ⟨b, 4, none⟩ v4).setCell ⟨b, 5, none⟩ v5).setCell ⟨b, 6, none⟩ v6) :=
  ((((((Kept.setCell _ _ _ hb).and (Kept.setCell _ _ _ hb)).and (Kept.setCell _ _ _ hb)).and (Kept.setCell _ _ _ hb)).and (Kept.setCell _ _ _ hb)).and (Kept.setCell _ _ _ hb)).and (Kept.setCell _ _ _ hb)

theorem TextsAt.src {w : World} {a : Option Addr} {c : Nat} {l : List ByteArray} (h : TextsAt w (.slice a l.length c) l) : Src w 1 (.slice a l.length c) l.length (strsV l) := by
  obtain ⟨a', c', e, h1, h2, h3, h4⟩ := h
  simp only [Value.slice.injEq] at e
  obtain ⟨rfl, _, rfl⟩ := e
  rcases h3 with h | ⟨b, o, rfl, hc⟩
  · have hl : l = [] := by simpa using h
    subst hl
    cases a with
    | none => exact .inr ⟨c, rfl, rfl, rfl⟩
    | some ad => exact .inl ⟨ad, c, rfl, rfl, fun j u hu => by simp [strsV] at hu⟩
  · exact .inl ⟨_, c, rfl, by simp [strsV], fun j u hu => by rw [Addr.add_lit]; exact hc j u hu⟩

theorem texts_of_row {w : World} {base : Nat} {a : Option Addr} {c : Nat} {l : List ByteArray} (h : w.ownsRow base 9 1 (.slice a l.length c) l.length (strsV l)) (hs : ∀ s ∈ l, s.size ≤ maxLen) : TextsAt w (.slice a l.length c) l := by
  rcases h.2 with ⟨e, h0⟩ | ⟨g, cap, cur, e, hb, hg, h1, h2, _⟩
  · simp only [Value.slice.injEq] at e
    obtain ⟨rfl, _, rfl⟩ := e
    exact ⟨none, 0, rfl, by omega, Nat.zero_le _, .inl (by rw [List.map_eq_nil_iff]; exact List.eq_nil_of_length_eq_zero h0), hs⟩
  · simp only [Value.slice.injEq] at e
    obtain ⟨rfl, _, rfl⟩ := e
    refine ⟨_, _, rfl, h1, h2, .inr ⟨g, 0, rfl, fun j u hu => ?_⟩, hs⟩
    have := h.cells (g := g) rfl j u hu
    rw [Addr.add_lit] at this
    exact this

set_option maxRecDepth 100000 in
set_option maxHeartbeats 2000000 in
theorem copied_any (w : World) (x0 : ByteArray) (x1 : Int) (x2 x3 : ByteArray) (x4 x5 : Int) (l : List ByteArray) (av : Option Addr) (cv : Nat) (hT : TextsAt w (.slice av l.length cv) l) (hl : l.length ≤ 1000000) :
    Calls Tryz.prog 52 #[.agg #[.string x0, .int .i64 x1, .string x2, .string x3, .int .i64 x4, .int .i64 x5, .slice av l.length cv]] w fun e w' => ∃ a c, e = .returned (.agg #[.string x0, .int .i64 x1, .string x2, .string x3, .int .i64 x4, .int .i64 x5, .slice a l.length c]) ∧
      w'.ownsRow w.heap.size 9 1 (.slice a l.length c) l.length (strsV l) ∧ Kept (fun _ => False) w w' := by
  obtain ⟨i0, hi0, hz0, hz1, hz2⟩ := info_parts Tryz.info9
  have hS := (hT.kept ((Kept.alloc (fun _ => False) w (.cells #[.string x0, .int .i64 x1, .string x2, .string x3, .int .i64 x4, .int .i64 x5, .slice av l.length cv] 35)).and (Kept.alloc _ _ (.cells #[.string ⟨#[]⟩, .int .i64 0, .string ⟨#[]⟩, .string ⟨#[]⟩, .int .i64 0, .int .i64 0, .slice none 0 0] 35))) (fun _ _ h => h)).src
  have HS : Hid _ := hS
  have HC : Hid (∀ u ∈ strsV l, u.oneCell' = true) := strsV_one l
  clear hT hS
  go_enter Tryz.func52, Tryz.ntmps52
  go_wp2_with (first
    | (at_builtin; refine wpList_append_src _ rfl _ _ 33 rfl w.heap.size 9 i0 _ 1 16 Tryz.underlying33 hi0 hz0 hz1 hz2 rfl (by decide) (.slice none 0 0) 0 _ rfl (World.ownsRow_nil _ _ _ _) _ rfl l.length _ HS.out HC.out (by unfold maxLen; omega) (by omega) (by simp; omega) ?_; intro a3 cap3 w3 ho3 hg3 _ hl3;
        have K3 : Kept (fun _ => False) ((w.alloc (.cells #[.string x0, .int .i64 x1, .string x2, .string x3, .int .i64 x4, .int .i64 x5, .slice av l.length cv] 35)).alloc (.cells #[.string ⟨#[]⟩, .int .i64 0, .string ⟨#[]⟩, .string ⟨#[]⟩, .int .i64 0, .int .i64 0, .slice none 0 0] 35)) w3 := Kept.grown hg3 (fun k e => by cases e);
        have b0 : w3.heap[w.heap.size]? = some (.cells #[.string x0, .int .i64 x1, .string x2, .string x3, .int .i64 x4, .int .i64 x5, .slice av l.length cv] 35 (0, 0)) := (by rw [K3.block _ (by simp; omega) (fun h => h), Below.heap_alloc _ _ _ (by simp)]; exact heap_alloc_new _ _);
        have b1 : w3.heap[w.heap.size + 1]? = some (.cells #[.string ⟨#[]⟩, .int .i64 0, .string ⟨#[]⟩, .string ⟨#[]⟩, .int .i64 0, .int .i64 0, .slice none 0 0] 35 (0, 0)) := (by rw [K3.block _ (by simp) (fun h => h)]; have h := heap_alloc_new (w.alloc (.cells #[.string x0, .int .i64 x1, .string x2, .string x3, .int .i64 x4, .int .i64 x5, .slice av l.length cv] 35)) (.cells #[.string ⟨#[]⟩, .int .i64 0, .string ⟨#[]⟩, .string ⟨#[]⟩, .int .i64 0, .int .i64 0, .slice none 0 0] 35); rw [World.size_alloc] at h; exact h);
        obtain ⟨⟨p0, p1, p2, p3, p4, p5, p6⟩, q0, q1, q2, q3, q4, q5, q6⟩ := seven b0; obtain ⟨⟨r0, r1, r2, r3, r4, r5, r6⟩, s0, s1, s2, s3, s4, s5, s6⟩ := seven b1)
    | fail)
  have k1 : Kept (fun j => w.heap.size ≤ j) w3 (w3.setCell ⟨w.heap.size, 6, none⟩ (.slice a3 l.length cap3)) := Kept.setCell _ _ _ (Nat.le_refl _)
  have k0 : Kept (fun j => j = w.heap.size) w3 (w3.setCell ⟨w.heap.size, 6, none⟩ (.slice a3 l.length cap3)) := Kept.setCell _ _ _ rfl
  have b2 := put7 ((k0.block (w.heap.size + 1) (by have := (Array.getElem?_eq_some_iff.1 b1).1; omega) (by omega)).trans b1) (.string x0) (.int .i64 x1) (.string x2) (.string x3) (.int .i64 x4) (.int .i64 x5) (.slice a3 l.length cap3)
  have kk := k1.and (kept7 (S := fun j => w.heap.size ≤ j) (w3.setCell ⟨w.heap.size, 6, none⟩ (.slice a3 l.length cap3)) (b := w.heap.size + 1) (by show w.heap.size ≤ _; omega) (.string x0) (.int .i64 x1) (.string x2) (.string x3) (.int .i64 x4) (.int .i64 x5) (.slice a3 l.length cap3))
  have kq := k0.mono (S' := fun j => j = w.heap.size ∨ j = w.heap.size + 1) (fun _ h => .inl h) |>.and (kept7 (S := fun j => j = w.heap.size ∨ j = w.heap.size + 1) (w3.setCell ⟨w.heap.size, 6, none⟩ (.slice a3 l.length cap3)) (b := w.heap.size + 1) (.inr rfl) (.string x0) (.int .i64 x1) (.string x2) (.string x3) (.int .i64 x4) (.int .i64 x5) (.slice a3 l.length cap3))
  obtain ⟨⟨g0, g1, g2, g3, g4, g5, g6⟩, _⟩ := seven b2
  have hblk : ∀ g, (Value.slice a3 (0 + l.length) cap3).ownBlock = some g → ¬ (g = w.heap.size ∨ g = w.heap.size + 1) := fun g hg => by
    rcases hl3 with h | h
    · rw [h] at hg; cases hg
    · rw [h] at hg
      have := Option.some.inj hg
      simp at this
      omega
  rw [Nat.zero_add] at ho3 hblk
  have ho4 := ownsRow_keep ho3 (fun g hg => kq.block g (ownsRow_blk ho3 hg) (hblk g hg))
  generalize (((((((((w3.setCell { block := w.heap.size, off := 6 } (Value.slice a3 l.length cap3)).setCell { block := w.heap.size + 1, off := 0 } (Value.string x0)).setCell { block := w.heap.size + 1, off := 1 } (Value.int IntKind.i64 x1)).setCell { block := w.heap.size + 1, off := 2 } (Value.string x2)).setCell { block := w.heap.size + 1, off := 3 } (Value.string x3)).setCell { block := w.heap.size + 1, off := 4 } (Value.int IntKind.i64 x4)).setCell { block := w.heap.size + 1, off := 5 } (Value.int IntKind.i64 x5)).setCell { block := w.heap.size + 1, off := 6 } (Value.slice a3 l.length cap3))) = V at *
  refine bodyPost_ret (by simp [results, Tryz.results52, go_sem, g0, g1, g2, g3, g4, g5, g6]; try rfl) rfl ?_
  exact ⟨a3, cap3, rfl, ho4, (((Kept.alloc (fun _ => False) _ _).and (Kept.alloc _ _ _)).and K3).trans kk (fun i h => .inr h)⟩

end Go.Proofs.YtlholgpenpfpbaaGreatDoor

/-
  The reader: a node's line.
-/
namespace Go.Proofs.YtlholgpenpfpbaaGreatDoor
open Go.RowKit

def actB : ByteArray := ⟨#[97, 99, 116, 105, 118, 105, 116, 121]⟩
def timB : ByteArray := ⟨#[116, 105, 109, 101, 114]⟩
def chiB : ByteArray := ⟨#[99, 104, 105, 108, 100]⟩
def waiB : ByteArray := ⟨#[119, 97, 105, 116]⟩
def senB : ByteArray := ⟨#[115, 101, 110, 100]⟩
def triB : ByteArray := ⟨#[116, 114, 105, 101, 115]⟩
def tmoB : ByteArray := ⟨#[116, 105, 109, 101, 111, 117, 116]⟩
def aftB : ByteArray := ⟨#[97, 102, 116, 101, 114]⟩

/-- What stands behind a node's kind: kind, Arg, To, Delay, Tries. -/
def rKind (x : ByteArray) (r : RS) : (Int × ByteArray × ByteArray × Int × Int) × RS :=
  if x = actB then
    let a := rName r
    let t := rTake triB a.2
    let n := if t.1 then rNum t.2 else (1, t.2)
    let u := rTake tmoB n.2
    let m := if u.1 then rNum u.2 else (0, u.2)
    ((1, a.1, ⟨#[]⟩, m.1, n.1), m.2)
  else if x = timB then ((2, ⟨#[]⟩, ⟨#[]⟩, (rNum r).1, 0), (rNum r).2)
  else if x = chiB then ((3, (rName r).1, ⟨#[]⟩, 0, 0), (rName r).2)
  else if x = waiB then ((4, (rName r).1, ⟨#[]⟩, 0, 0), (rName r).2)
  else if x = senB then ((5, (rName (rFlow r).2).1, (rFlow r).1, 0, 0), (rName (rFlow r).2).2)
  else ((0, ⟨#[]⟩, ⟨#[]⟩, 0, 0), (r.1, true))

def rTail (r : RS) : List ByteArray × RS :=
  if (rTake aftB r).1 then ((rNames (rTake aftB r).2).1, rEnd (rNames (rTake aftB r).2).2) else ([], rEnd (rTake aftB r).2)

def ndOf (x : ByteArray) (k : Int × ByteArray × ByteArray × Int × Int) (l : List ByteArray) : Nd := ⟨x, k.1, k.2.1, k.2.2.1, k.2.2.2.1, k.2.2.2.2, l⟩

def rNode (r : RS) : Nd × RS :=
  (ndOf (rName r).1 (rKind (rWord (rName r).2).1 (rWord (rName r).2).2).1 (rTail (rKind (rWord (rName r).2).1 (rWord (rName r).2).2).2).1, (rTail (rKind (rWord (rName r).2).1 (rWord (rName r).2).2).2).2)

theorem rWord_len (r : RS) : (rWord r).2.1.length ≤ r.1.length := by
  obtain ⟨ws, b⟩ := r
  cases ws <;> simp [rWord]
theorem rName_len (r : RS) : (rName r).2.1.length ≤ r.1.length := rWord_len r
theorem rFlow_len (r : RS) : (rFlow r).2.1.length ≤ r.1.length := rWord_len r
theorem rTake_len (s : ByteArray) (r : RS) : (rTake s r).2.1.length ≤ r.1.length := by
  obtain ⟨ws, b⟩ := r
  cases ws with
  | nil => simp [rTake]
  | cons x t => unfold rTake; simp only []; split <;> simp
theorem rNum_len (r : RS) : (rNum r).2.1.length ≤ r.1.length := by
  unfold rNum
  split
  · exact rWord_len r
  · exact rWord_len r

theorem nodeKept {w w' : World} {rb b : Nat} {o : Obj} (K : Kept (fun j => j = rb) w w') (h : w.heap[b]? = some o) (hne : b ≠ rb) : w'.heap[b]? = some o :=
  (K.block b (Array.getElem?_eq_some_iff.1 h).1 hne).trans h

def NodePost (w : World) (B rb : Nat) (p : Nd × RS) (e : Ending) (w' : World) : Prop :=
  ∃ a c, e = .returned (.agg #[.string p.1.name, .int .i64 p.1.kind, .string p.1.arg, .string p.1.to, .int .i64 p.1.delay, .int .i64 p.1.tries, .slice a p.1.after.length c]) ∧
    w'.ownsRow w.heap.size 9 1 (.slice a p.1.after.length c) p.1.after.length (strsV p.1.after) ∧ RdAt w' B rb p.2 ∧ Kept (fun j => j = rb) w w'

/-- The end of node: the result is laid into its block. -/
theorem node_end {w w3 : World} {B rb : Nat} {p : Nd × RS} {u0 u1 u2 u3 u4 u5 u6 : Value} {a : Option Addr} {c : Nat} (hR : w3.heap[w.heap.size]? = some (.cells #[u0, u1, u2, u3, u4, u5, u6] 35 (0, 0)))
    (ho : w3.ownsRow (w.heap.size + 1) 9 1 (.slice a p.1.after.length c) p.1.after.length (strsV p.1.after)) (R : RdAt w3 B rb p.2) (hB : B ≤ w.heap.size) (K : Kept (fun j => j = rb ∨ w.heap.size ≤ j) w w3) {V : World}
    (hV : V = (((((((w3.setCell ⟨w.heap.size, 0, none⟩ (.string p.1.name)).setCell ⟨w.heap.size, 1, none⟩ (.int .i64 p.1.kind)).setCell ⟨w.heap.size, 2, none⟩ (.string p.1.arg)).setCell ⟨w.heap.size, 3, none⟩ (.string p.1.to)).setCell ⟨w.heap.size, 4, none⟩ (.int .i64 p.1.delay)).setCell ⟨w.heap.size, 5, none⟩ (.int .i64 p.1.tries)).setCell ⟨w.heap.size, 6, none⟩ (.slice a p.1.after.length c))) : V.heap[w.heap.size]? = some (.cells #[.string p.1.name, .int .i64 p.1.kind, .string p.1.arg, .string p.1.to, .int .i64 p.1.delay, .int .i64 p.1.tries, .slice a p.1.after.length c] 35 (0, 0)) ∧
      NodePost w B rb p (.returned (.agg #[.string p.1.name, .int .i64 p.1.kind, .string p.1.arg, .string p.1.to, .int .i64 p.1.delay, .int .i64 p.1.tries, .slice a p.1.after.length c])) V := by
  subst hV
  have k := kept7 (S := fun j => j = w.heap.size) w3 (b := w.heap.size) rfl (.string p.1.name) (.int .i64 p.1.kind) (.string p.1.arg) (.string p.1.to) (.int .i64 p.1.delay) (.int .i64 p.1.tries) (.slice a p.1.after.length c)
  refine ⟨put7 hR _ _ _ _ _ _ _, a, c, rfl, ?_, R.kept k (fun j hj => by omega), ?_⟩
  · refine ⟨ho.1, ?_⟩
    have h2 := ownsRow_keep ho (fun g hg => k.block g (ownsRow_blk ho hg) (by have := (ho.lt g hg).1; omega))
    rcases h2.2 with h0 | ⟨g, cap, cur, hv, hb, r⟩
    · exact .inl h0
    · exact .inr ⟨g, cap, cur, hv, by omega, r⟩
  · have k2 := K.and (k.mono (S' := fun j => j = rb ∨ w.heap.size ≤ j) (fun j h => .inr (by have h' : j = w.heap.size := h; omega)))
    exact (Kept.refl (fun j => j = rb) w).trans k2 (fun i h => h)

theorem ownsRow_lowS {w : World} {B B' e size : Nat} {v : Value} {n : Nat} {xs : List Value} (h : w.ownsRow B e size v n xs) (hB : B' ≤ B) : w.ownsRow B' e size v n xs := by
  refine ⟨h.1, ?_⟩
  rcases h.2 with h0 | ⟨g, cap, cur, hv, hb, r⟩
  · exact .inl h0
  · exact .inr ⟨g, cap, cur, hv, Nat.le_trans hB hb, r⟩

end Go.Proofs.YtlholgpenpfpbaaGreatDoor
