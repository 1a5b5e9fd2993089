/-
  A body that is written field by field is read as those fields, as data. Nothing here speaks of a program.
-/
import Derived.Test.YtdbplemcjnlfiaaGreatDoorFBackP
import Derived.Test.YtdbplemcjnlfiaaGreatDoorFRefD
import Derived.Test.YtdbplemcjnlfiaaGreatDoorFIntP
namespace Go.Proofs.YtdbplemcjnlfiaaGreatDoor
open Go.RowKit

theorem lies_nil (S : ByteArray) (i : Nat) : Lies S i [] := fun k h => by simp at h

theorem Lies.left {S : ByteArray} {i : Nat} {l r : List UInt8} (h : Lies S i (l ++ r)) : Lies S i l := h.parts.1
theorem Lies.right {S : ByteArray} {i : Nat} {l r : List UInt8} (h : Lies S i (l ++ r)) : Lies S (i + l.length) r := h.parts.2

theorem lies_sub {S : ByteArray} {i : Nat} : ∀ {l : List UInt8}, Lies S i l → subL S i (i + l.length) = l := fun {l} h => by
  unfold subL
  refine List.ext_getElem? fun k => ?_
  rw [List.getElem?_take, show i + l.length - i = l.length by omega]
  split
  · rename_i hk
    rw [List.getElem?_drop, h k hk, List.getElem?_eq_getElem hk]
  · rename_i hk
    rw [List.getElem?_eq_none (by omega)]

/-- Blanks are passed. -/
theorem skip_lies {S : ByteArray} {c : UInt8} (hc : blankB c = false) : ∀ {g : List UInt8} {i : Nat}, (∀ x ∈ g, blankB x = true) → Lies S i (g ++ [c]) → skipP S i = i + g.length
  | [], i, _, h => by
    have h1 := h.head.1
    have hi : i < S.size := by
      have := (List.getElem?_eq_some_iff.1 h1).1
      simpa using this
    rw [get_lt S hi] at h1
    rw [skipP_stop S hi (by rw [Option.some.inj h1]; exact hc)]
    rfl
  | x :: g, i, hg, h => by
    have h1 := h.head
    have hi : i < S.size := by
      have := (List.getElem?_eq_some_iff.1 h1.1).1
      simpa using this
    have h2 := h1.1
    rw [get_lt S hi] at h2
    rw [skipP_next S hi (by rw [Option.some.inj h2]; exact hg x List.mem_cons_self), skip_lies hc (fun y hy => hg y (List.mem_cons_of_mem _ hy)) h1.2, List.length_cons]
    omega

theorem skip_end {S : ByteArray} : ∀ {g : List UInt8} {i : Nat}, (∀ x ∈ g, blankB x = true) → Lies S i g → S.size = i + g.length → skipP S i = S.size
  | [], i, _, _, hz => by
    rw [skipP_end S (by simp at hz; omega)]
    simp at hz
    omega
  | x :: g, i, hg, h, hz => by
    have h1 := h.head
    rw [List.length_cons] at hz
    have hi : i < S.size := by omega
    have h2 := h1.1
    rw [get_lt S hi] at h2
    rw [skipP_next S hi (by rw [Option.some.inj h2]; exact hg x List.mem_cons_self), skip_end (fun y hy => hg y (List.mem_cons_of_mem _ hy)) h1.2 (by omega)]

theorem run_lies {S : ByteArray} {e : UInt8} (he : isDig e = false) : ∀ {l : List UInt8} {i : Nat}, (∀ x ∈ l, isDig x = true) → Lies S i (l ++ [e]) → ((S.data.toList.drop i).takeWhile isDig).length = l.length
  | [], i, _, h => by
    have h1 := h.head.1
    have hi : i < S.size := by
      have := (List.getElem?_eq_some_iff.1 h1).1
      simpa using this
    rw [get_lt S hi] at h1
    rw [drop_next S hi, List.takeWhile_cons, Option.some.inj h1, he]
    rfl
  | x :: l, i, hl, h => by
    have h1 := h.head
    have hi : i < S.size := by
      have := (List.getElem?_eq_some_iff.1 h1.1).1
      simpa using this
    have h2 := h1.1
    rw [get_lt S hi] at h2
    rw [drop_next S hi, List.takeWhile_cons, Option.some.inj h2, hl x List.mem_cons_self]
    simp only [if_true, List.length_cons]
    rw [run_lies he (fun y hy => hl y (List.mem_cons_of_mem _ hy)) h1.2]

theorem ofNat_dig : ∀ d : Fin 10, isDig (UInt8.ofNat (48 + d.1)) = true ∧ (d.1 ≠ 0 → UInt8.ofNat (48 + d.1) ≠ 48) := by decide

theorem dec_all (u : Nat) : (∀ c ∈ Lib.decDigits u, isDig c = true) ∧ ∃ c r, Lib.decDigits u = c :: r ∧ (u ≠ 0 → c ≠ 48) := by
  induction u using Nat.strongRecOn with
  | _ u ih =>
    by_cases h : u < 10
    · have hd := ofNat_dig ⟨u % 10, by omega⟩
      rw [dec_last h]
      refine ⟨fun c hc => ?_, _, [], rfl, fun hu => hd.2 (by show u % 10 ≠ 0; omega)⟩
      simp only [List.mem_singleton] at hc
      subst hc
      exact hd.1
    · obtain ⟨h1, c, r, h2, h3⟩ := ih (u / 10) (by omega)
      have hd := ofNat_dig ⟨u % 10, by omega⟩
      rw [dec_step h]
      refine ⟨fun x hx => ?_, c, r ++ [UInt8.ofNat (48 + u % 10)], by rw [h2]; rfl, fun _ => h3 (by omega)⟩
      rcases List.mem_append.1 hx with hx | hx
      · exact h1 x hx
      · simp only [List.mem_singleton] at hx
        subst hx
        exact hd.1

/-- A value as it is written, and as it is read. -/
def VOk (vt v : List UInt8) : Prop := (∃ c r, vt = c :: r ∧ blankB c = false) ∧ ∀ (S : ByteArray) (j : Nat) (e : UInt8), isDig e = false → Lies S j (vt ++ [e]) → valP S j = (v, j + vt.length, true)

theorem vok_text {t : ByteArray} (h : okF t (t.size + 1) 0) : VOk (quoteP t) (34 :: t.data.toList) := by
  refine ⟨⟨34, _, rfl, by decide⟩, fun S j e _ hL => ?_⟩
  have h1 := quote_back t S j h hL.left
  have h2 : standsP S j 34 = true := by
    have h3 := hL.left
    unfold quoteP at h3
    rw [stands_of h3.head.1]
    rfl
  unfold valP
  rw [if_pos h2, h1]
  rfl

theorem vok_num {n : Int} (h0 : -1000000000000000 < n) (h1 : n < 1000000000000000) : VOk (Lib.itoa n) (Lib.itoa n) := by
  obtain ⟨u, hu, hcase⟩ : ∃ u : Nat, u < 10 ^ 15 ∧ (Lib.itoa n = Lib.decDigits u ∨ (u ≠ 0 ∧ Lib.itoa n = 45 :: Lib.decDigits u)) := by
    by_cases hn : n < 0
    · exact ⟨n.natAbs, by omega, .inr ⟨by omega, by unfold Lib.itoa; rw [if_pos hn]⟩⟩
    · exact ⟨n.toNat, by omega, .inl (by unfold Lib.itoa; rw [if_neg hn])⟩
  obtain ⟨hd, c, r, hcr, hne⟩ := dec_all u
  have hlen : (Lib.decDigits u).length ≤ 15 := digs_le 14 u hu
  have hc : isDig c = true := hd c (by rw [hcr]; exact List.mem_cons_self)
  have hc1 := dig_ne hc
  have hr := dig_range hc
  have hbl : blankB c = false := by
    unfold blankB
    have e1 : c ≠ 32 := fun e => by subst e; simp at hr
    have e2 : c ≠ 9 := fun e => by subst e; simp at hr
    have e3 : c ≠ 10 := fun e => by subst e; simp at hr
    have e4 : c ≠ 13 := fun e => by subst e; simp at hr
    simp [e1, e2, e3, e4]
  have hpos : 1 ≤ (Lib.decDigits u).length := by rw [hcr]; simp
  have run : ∀ (S : ByteArray) (j : Nat) (e : UInt8), isDig e = false → Lies S j (Lib.decDigits u ++ [e]) → digsP S j = (Lib.decDigits u).length := fun S j e he hL => by
    unfold digsP
    rw [run_lies he hd hL]
    omega
  have at0 : ∀ (S : ByteArray) (j : Nat), Lies S j (Lib.decDigits u) → S.data.toList[j]? = some c := fun S j hL => by
    rw [hcr] at hL
    exact hL.head.1
  rcases hcase with hi | ⟨hu0, hi⟩
  · rw [hi]
    refine ⟨⟨c, r, hcr, hbl⟩, fun S j e he hL => ?_⟩
    have hL1 := hL.left
    have hj := at0 S j hL1
    have s34 : standsP S j 34 = false := by rw [stands_of hj]; exact beq_eq_false_iff_ne.2 hc1.2.1
    have s45 : standsP S j 45 = false := by rw [stands_of hj]; exact beq_eq_false_iff_ne.2 hc1.1
    unfold valP
    rw [s34, if_neg (by decide)]
    unfold numP
    rw [s45]
    by_cases h48 : c = 48
    · have hz : u = 0 := by
        rcases Nat.eq_zero_or_pos u with h | h
        · exact h
        · exact absurd h48 (hne (by omega))
      have hd0 : Lib.decDigits u = [48] := by rw [hz, dec_last (by decide)]; rfl
      rw [stands_of hj, h48, hd0, if_pos (show (!false && ((48 : UInt8) == 48)) = true from rfl)]
      rfl
    · have s48 : standsP S j 48 = false := by rw [stands_of hj]; exact beq_eq_false_iff_ne.2 h48
      simp only [s48, Bool.not_false, Bool.and_false, Bool.false_eq_true, if_false]
      rw [run S j e he hL, if_neg (by omega), lies_sub hL1]
  · rw [hi]
    refine ⟨⟨45, _, rfl, by decide⟩, fun S j e he hL => ?_⟩
    have hj := hL.head.1
    have hL2 : Lies S (j + 1) (Lib.decDigits u ++ [e]) := hL.head.2
    have hj1 := at0 S (j + 1) hL2.left
    have s48 : standsP S (j + 1) 48 = false := by rw [stands_of hj1]; exact beq_eq_false_iff_ne.2 (hne hu0)
    unfold valP
    rw [stands_of hj, if_neg (by decide)]
    unfold numP
    rw [stands_of hj, stands_of hj]
    simp only [show ((45 : UInt8) == 45) = true from rfl, Bool.not_true, Bool.false_and, Bool.false_eq_true, if_false, if_true]
    rw [s48]
    simp only [Bool.false_eq_true, if_false]
    rw [run S (j + 1) e he hL2, if_neg (by omega)]
    have hs : subL S j (j + (45 :: Lib.decDigits u).length) = 45 :: Lib.decDigits u := lies_sub hL.left
    rw [List.length_cons] at hs ⊢
    rw [show j + 1 + (Lib.decDigits u).length = j + ((Lib.decDigits u).length + 1) by omega, hs]

/-- A field as it is written: its name, its value as written and as read. -/
structure Fd where
  k : List UInt8
  vt : List UInt8
  v : List UInt8

def Fd.ok (f : Fd) : Prop := okF (mkB f.k) ((mkB f.k).size + 1) 0 ∧ VOk f.vt f.v

def fldL (g : List UInt8) (f : Fd) : List UInt8 := quoteP (mkB f.k) ++ g ++ [58] ++ g ++ f.vt ++ g

def fldsL (g : List UInt8) : List Fd → List UInt8
  | [] => []
  | [f] => fldL g f
  | f :: h :: r => fldL g f ++ ([44] ++ g ++ fldsL g (h :: r))

theorem fldsL_snoc (g : List UInt8) (f : Fd) : ∀ (fs : List Fd), fs ≠ [] → fldsL g (fs ++ [f]) = fldsL g fs ++ ([44] ++ g ++ fldL g f)
  | [], h => absurd rfl h
  | [a], _ => rfl
  | a :: b :: r, _ => by
    show fldL g a ++ ([44] ++ g ++ fldsL g ((b :: r) ++ [f])) = fldL g a ++ ([44] ++ g ++ fldsL g (b :: r)) ++ ([44] ++ g ++ fldL g f)
    rw [fldsL_snoc g f (b :: r) (by simp)]
    simp only [List.append_assoc]

theorem fldsL_head (g : List UInt8) : ∀ (fs : List Fd), fs ≠ [] → ∃ l, fldsL g fs = 34 :: l
  | [], h => absurd rfl h
  | [_], _ => ⟨_, rfl⟩
  | _ :: _ :: _, _ => ⟨_, rfl⟩

section
variable {S : ByteArray} {g : List UInt8} (hg : ∀ x ∈ g, blankB x = true)
include hg

/-- One field, and what stands behind it. -/
theorem fld_back {f : Fd} (hf : f.ok) {n i : Nat} {ps : List Pr} {e : UInt8} (hk : fieldP ps f.k = none) (hl : ps.length < 16) (he : blankB e = false) (hed : isDig e = false) (h : Lies S i (fldL g f ++ [e])) :
    objF S (n + 1) ps i = (if standsP S (i + (fldL g f).length) 44 then objF S n (ps ++ [(f.k, f.v)]) (skipP S (i + (fldL g f).length + 1)) else if standsP S (i + (fldL g f).length) 125 then closeP S (ps ++ [(f.k, f.v)]) (i + (fldL g f).length) else ([], i + (fldL g f).length, 2)) := by
  unfold fldL at h ⊢
  obtain ⟨⟨c0, r0, hv0, hvb⟩, hv⟩ := hf.2
  have e1 : quoteP (mkB f.k) ++ g ++ [58] ++ g ++ f.vt ++ g ++ [e] = quoteP (mkB f.k) ++ (g ++ ([58] ++ (g ++ (f.vt ++ (g ++ [e]))))) := by simp only [List.append_assoc]
  rw [e1] at h
  have q1 := quote_back (mkB f.k) S i hf.1 h.left
  rw [mkB_list] at q1
  have h2 := h.right
  generalize hi1 : i + (quoteP (mkB f.k)).length = i1 at *
  have s1 : skipP S i1 = i1 + g.length := by
    have : Lies S i1 (g ++ [58] ++ (g ++ (f.vt ++ (g ++ [e])))) := by rw [List.append_assoc]; exact h2
    exact skip_lies (by decide) hg this.left
  have h3 := h2.right
  have c1 : standsP S (i1 + g.length) 58 = true := by
    rw [stands_of (h3 : Lies S (i1 + g.length) (58 :: (g ++ (f.vt ++ (g ++ [e]))))).head.1]
    rfl
  have h4 : Lies S (i1 + g.length + 1) (g ++ (f.vt ++ (g ++ [e]))) := (h3 : Lies S (i1 + g.length) (58 :: (g ++ (f.vt ++ (g ++ [e]))))).head.2
  have s2 : skipP S (i1 + g.length + 1) = i1 + g.length + 1 + g.length := by
    rw [hv0] at h4
    have : Lies S (i1 + g.length + 1) (g ++ [c0] ++ (r0 ++ (g ++ [e]))) := by rw [List.append_assoc]; exact h4
    exact skip_lies hvb hg this.left
  have h5 := h4.right
  have v1 : valP S (i1 + g.length + 1 + g.length) = (f.v, i1 + g.length + 1 + g.length + f.vt.length, true) := by
    cases hgc : g with
    | nil =>
      rw [hgc] at h5
      exact hv S _ e hed h5
    | cons x g' =>
      have hx : isDig x = false := by
        have hb := hg x (by rw [hgc]; exact List.mem_cons_self)
        unfold blankB at hb
        cases hxd : isDig x with
        | false => rfl
        | true =>
          have hr := dig_range hxd
          simp only [Bool.or_eq_true, beq_iff_eq] at hb
          rcases hb with ((hb | hb) | hb) | hb <;> (subst hb; simp at hr)
      rw [← hgc]
      have h5' : Lies S (i1 + g.length + 1 + g.length) (f.vt ++ [x] ++ (g' ++ [e])) := by
        rw [List.append_assoc]
        rw [hgc] at h5 ⊢
        exact h5
      exact hv S _ x hx h5'.left
  have h6 := h5.right
  have s3 : skipP S (i1 + g.length + 1 + g.length + f.vt.length) = i1 + g.length + 1 + g.length + f.vt.length + g.length := skip_lies he hg h6
  have elen : i + (quoteP (mkB f.k) ++ g ++ [58] ++ g ++ f.vt ++ g).length = i1 + g.length + 1 + g.length + f.vt.length + g.length := by
    simp only [List.length_append, List.length_cons, List.length_nil]
    omega
  rw [elen]
  conv => lhs; unfold objF
  rw [q1]
  simp only [Bool.not_true, Bool.false_eq_true, if_false]
  rw [hk, s1, c1, s2, v1]
  simp only [Option.isSome_none, Bool.false_eq_true, if_false, Bool.not_true]
  rw [if_neg (by omega), s3]

theorem objF_back : ∀ (fs : List Fd) (n i : Nat) (ps : List Pr), fs ≠ [] → fs.length ≤ n → ps.length + fs.length ≤ 16 → (∀ f ∈ fs, f.ok) → (∀ f ∈ fs, fieldP ps f.k = none) → fs.Pairwise (fun a b => a.k ≠ b.k) → Lies S i (fldsL g fs ++ ([125] ++ g)) → S.size = i + (fldsL g fs).length + 1 + g.length → objF S n ps i = (ps ++ fs.map (fun f => (f.k, f.v)), 0, 0)
  | [], _, _, _, h, _, _, _, _, _, _, _ => absurd rfl h
  | _ :: _, 0, _, _, _, h, _, _, _, _, _, _ => by simp at h
  | [f], n + 1, i, ps, _, hn, hl, hok, hk, _, hL, hz => by
    have hL1 : Lies S i (fldL g f ++ [125] ++ g) := by rw [List.append_assoc]; exact hL
    simp only [List.length_singleton] at hl
    rw [fld_back hg (hok f List.mem_cons_self) (hk f List.mem_cons_self) (by omega) (by decide) (by decide) hL1.left]
    have h1 := hL1.left.right
    rw [stands_of h1.head.1, stands_of h1.head.1]
    simp only [show ((125 : UInt8) == 44) = false from rfl, show ((125 : UInt8) == 125) = true from rfl, Bool.false_eq_true, if_false, if_true]
    have hz' : S.size = i + (fldL g f).length + 1 + g.length := hz
    have h2 : Lies S (i + (fldL g f).length + 1) g := by
      have := hL1.right
      rw [List.length_append] at this
      exact this
    unfold closeP
    rw [if_pos (skip_end hg h2 hz')]
    rfl
  | f :: h :: r, n + 1, i, ps, _, hn, hl, hok, hk, hpw, hL, hz => by
    simp only [List.length_cons] at hn hl
    have e1 : fldsL g (f :: h :: r) ++ ([125] ++ g) = fldL g f ++ [44] ++ (g ++ (fldsL g (h :: r) ++ ([125] ++ g))) := by
      show fldL g f ++ ([44] ++ g ++ fldsL g (h :: r)) ++ ([125] ++ g) = _
      simp only [List.append_assoc]
    have e2 : (fldsL g (f :: h :: r)).length = (fldL g f).length + 1 + g.length + (fldsL g (h :: r)).length := by
      show (fldL g f ++ ([44] ++ g ++ fldsL g (h :: r))).length = _
      simp only [List.length_append, List.length_cons, List.length_nil]
      omega
    rw [e1] at hL
    rw [e2] at hz
    rw [fld_back hg (hok f List.mem_cons_self) (hk f List.mem_cons_self) (by omega) (by decide) (by decide) hL.left]
    have h1 := hL.left.right
    rw [stands_of h1.head.1]
    simp only [show ((44 : UInt8) == 44) = true from rfl, if_true]
    have h2 := hL.right
    rw [List.length_append, List.length_singleton, ← Nat.add_assoc] at h2
    obtain ⟨l, hl2⟩ := fldsL_head g (h :: r) (by simp)
    have s1 : skipP S (i + (fldL g f).length + 1) = i + (fldL g f).length + 1 + g.length := by
      have h3 := h2
      rw [hl2] at h3
      have : Lies S (i + (fldL g f).length + 1) (g ++ [34] ++ (l ++ ([125] ++ g))) := by rw [List.append_assoc]; exact h3
      exact skip_lies (by decide) hg this.left
    rw [s1]
    have hpw' := List.pairwise_cons.1 hpw
    rw [objF_back (h :: r) n _ (ps ++ [(f.k, f.v)]) (by simp) (by simp only [List.length_cons]; omega) (by simp only [List.length_append, List.length_cons, List.length_nil]; omega) (fun x hx => hok x (List.mem_cons_of_mem _ hx)) (fun x hx => ?_) hpw'.2 h2.right (by omega)]
    · simp
    · have hx0 := hk x (List.mem_cons_of_mem _ hx)
      have hne := hpw'.1 x hx
      unfold fieldP at hx0 ⊢
      rw [Option.map_eq_none_iff] at hx0 ⊢
      rw [List.find?_append, hx0]
      simp [hne]

/-- The body as a whole. -/
theorem obj_back (fs : List Fd) (hfs : fs.length ≤ 16) (hok : ∀ f ∈ fs, f.ok) (hpw : fs.Pairwise (fun a b => a.k ≠ b.k)) (hS : S = mkB (g ++ [123] ++ g ++ fldsL g fs ++ [125] ++ g)) : objP S = (fs.map (fun f => (f.k, f.v)), 0, 0) := by
  have hL := lies_all (g ++ [123] ++ g ++ fldsL g fs ++ [125] ++ g)
  have hz := mkB_size (g ++ [123] ++ g ++ fldsL g fs ++ [125] ++ g)
  rw [← hS] at hL hz
  have e1 : g ++ [123] ++ g ++ fldsL g fs ++ [125] ++ g = g ++ [123] ++ (g ++ (fldsL g fs ++ ([125] ++ g))) := by simp only [List.append_assoc]
  rw [e1] at hL
  simp only [List.length_append, List.length_cons, List.length_nil] at hz
  have s0 : skipP S 0 = g.length := by
    have := skip_lies (by decide) hg hL.left
    omega
  have c0 : standsP S g.length 123 = true := by
    have h := hL.left.right
    rw [Nat.zero_add] at h
    rw [stands_of h.head.1]
    rfl
  have h2 := hL.right
  rw [List.length_append, List.length_singleton, Nat.zero_add] at h2
  unfold objP
  simp only
  rw [s0, c0]
  simp only [Bool.not_true, Bool.false_eq_true, if_false]
  cases hfe : fs with
  | nil =>
    rw [hfe] at h2 hz
    have h3 : Lies S (g.length + 1) (g ++ [125] ++ g) := by rw [List.append_assoc]; exact h2
    have s1 : skipP S (g.length + 1) = g.length + 1 + g.length := skip_lies (by decide) hg h3.left
    have h4 := h3.left.right
    rw [s1, stands_of h4.head.1]
    simp only [show ((125 : UInt8) == 125) = true from rfl, if_true]
    have h5 := h3.right
    rw [List.length_append, List.length_singleton] at h5
    have hz' : S.size = g.length + 1 + g.length + 1 + g.length := by
      have : (fldsL g []).length = 0 := rfl
      omega
    unfold closeP
    rw [if_pos (skip_end hg (by rw [show g.length + 1 + g.length + 1 = g.length + 1 + (g.length + 1) by omega]; exact h5) hz')]
    rfl
  | cons f r =>
    rw [← hfe]
    have hne : fs ≠ [] := by rw [hfe]; simp
    obtain ⟨l, hl⟩ := fldsL_head g fs hne
    have s1 : skipP S (g.length + 1) = g.length + 1 + g.length := by
      have h3 := h2
      rw [hl] at h3
      have : Lies S (g.length + 1) (g ++ [34] ++ (l ++ ([125] ++ g))) := by rw [List.append_assoc]; exact h3
      exact skip_lies (by decide) hg this.left
    have h4 := h2.right
    have c1 : standsP S (g.length + 1 + g.length) 125 = false := by
      have h5 := h4
      rw [hl] at h5
      rw [stands_of h5.left.head.1]
      rfl
    rw [s1, c1]
    simp only [Bool.false_eq_true, if_false]
    rw [objF_back hg fs 17 _ [] hne (by omega) (by simpa using hfs) hok (fun f _ => rfl) hpw h4 (by omega)]
    rfl

end

end Go.Proofs.YtdbplemcjnlfiaaGreatDoor
