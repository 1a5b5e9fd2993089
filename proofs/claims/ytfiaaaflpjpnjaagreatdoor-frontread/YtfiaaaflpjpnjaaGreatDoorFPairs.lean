/-
  Fields in memory: rows of pairs; Field, Text.
-/
import Derived.Test.YtfiaaaflpjpnjaaGreatDoorFRead3
namespace Go.Proofs.YtfiaaaflpjpnjaaGreatDoor
open Go.RowKit

theorem Tryz.info72 : (Tryz.prog.info? 72).map (fun i => (i.zero, i.size, i.bytes)) = some (some (.agg #[.string ⟨#[]⟩, .string ⟨#[]⟩]), 2, 32) := by kernel_rfl

theorem ownsRow_keep {w w' : World} {B e size : Nat} {v : Value} {n : Nat} {xs : List Value} (h : w.ownsRow B e size v n xs) (hk : ∀ g, v.ownBlock = some g → w'.heap[g]? = w.heap[g]?) : w'.ownsRow B e size v n xs := by
  refine ⟨h.1, ?_⟩
  rcases h.2 with h0 | ⟨g, cap, cur, hv, hb, hg, r⟩
  · exact .inl h0
  · exact .inr ⟨g, cap, cur, hv, hb, (hk g (by rw [hv]; rfl)).trans hg, r⟩

theorem ownsRow_blk {w : World} {B e size : Nat} {v : Value} {n : Nat} {xs : List Value} (h : w.ownsRow B e size v n xs) {g : Nat} (hg : v.ownBlock = some g) : g < w.heap.size := (h.lt g hg).2

theorem row_at {w : World} {B T sz n : Nat} {v : Value} {xs : List Value} (h : w.ownsRow B T sz v n xs) (hn : 0 < n) : ∃ g c, v = .slice (some ⟨g, 0, none⟩) n c ∧ v.ownBlock = some g ∧ n ≤ c ∧ ∀ j u, xs[j]? = some u → w.cell? ⟨g, j, none⟩ = some u ∧ w.frozen? ⟨g, j, none⟩ = false := by
  rcases h.2 with ⟨_, h0⟩ | ⟨g, cap, cur, rfl, hb, hg, h1, h2, h3, h4⟩
  · omega
  · refine ⟨g, cap, rfl, rfl, h1, fun j u hu => ?_⟩
    have := h.cells (g := g) rfl j u hu
    rw [Addr.add_lit, Nat.zero_add] at this
    exact ⟨this, by simp [World.frozen?, hg]⟩

/-- A pair's two cells. -/
def prC (p : Pr) : List Value := [.string (mkB p.1), .string (mkB p.2)]
def prF (ps : List Pr) : List Value := ps.flatMap prC

theorem prF_snoc (ps : List Pr) (p : Pr) : prF (ps ++ [p]) = prF ps ++ prC p := by simp [prF]

theorem prC_one (p : Pr) : ∀ u ∈ prC p, u.oneCell' = true := by
  intro u hu
  simp only [prC, List.mem_cons, List.not_mem_nil, or_false] at hu
  rcases hu with rfl | rfl <;> rfl

theorem prF_get : ∀ {ps : List Pr} {i : Nat} (h : i < ps.length), (prF ps)[i * 2]? = some (.string (mkB (ps[i]).1)) ∧ (prF ps)[i * 2 + 1]? = some (.string (mkB (ps[i]).2))
  | [], i, h => by simp at h
  | p :: t, 0, _ => ⟨rfl, rfl⟩
  | p :: t, i + 1, h => by
    have := prF_get (ps := t) (i := i) (by simpa using h)
    rw [show (i + 1) * 2 = i * 2 + 2 by omega, show i * 2 + 2 + 1 = (i * 2 + 1) + 2 by omega]
    exact this

/-- Pairs that lie in a row. -/
def PairsAt (w : World) (a : Option Addr) (ps : List Pr) : Prop := ps = [] ∨ ∃ b o, a = some ⟨b, o, none⟩ ∧ ∀ i (h : i < ps.length), w.cell? ⟨b, o + i * 2, none⟩ = some (.string (mkB (ps[i]'h).1)) ∧ w.cell? ⟨b, o + i * 2 + 1, none⟩ = some (.string (mkB (ps[i]'h).2))

theorem PairsAt.kept {w w' : World} {a : Option Addr} {ps : List Pr} (C : PairsAt w a ps) (K : Kept (fun _ => False) w w') : PairsAt w' a ps := by
  have key : ∀ {a : Addr} {v : Value}, w.cell? a = some v → w'.cell? a = some v := fun {a v} h => by
    rw [World.cell?_of_block (w := w) (K.block _ (World.block_lt_of_cell? w _ h) (fun h => h))]
    exact h
  rcases C with h | ⟨b, o, h, hc⟩
  · exact .inl h
  · exact .inr ⟨b, o, h, fun i hi => ⟨key (hc i hi).1, key (hc i hi).2⟩⟩

theorem PairsAt.of_row {w : World} {B : Nat} {a : Option Addr} {c : Nat} {ps : List Pr} (h : w.ownsRow B 72 2 (.slice a ps.length c) ps.length (prF ps)) : PairsAt w a ps := by
  by_cases h0 : ps = []
  · exact .inl h0
  · obtain ⟨g, cg, hv, _, _, hrow⟩ := row_at h (List.length_pos_iff.2 h0)
    simp only [Value.slice.injEq, true_and] at hv
    obtain ⟨rfl, rfl⟩ := hv
    refine .inr ⟨g, 0, rfl, fun i hi => ?_⟩
    rw [Nat.zero_add]
    exact ⟨(hrow _ _ (prF_get hi).1).1, (hrow _ _ (prF_get hi).2).1⟩

theorem str_beq (a b : List UInt8) : ((mkB a).toList == (mkB b).toList) = (a == b) := by
  rw [Lib.toList_data, Lib.toList_data]
  rfl

theorem fieldP_hit {ps : List Pr} {j : Nat} (h : j < ps.length) {k : List UInt8} (he : ((ps[j]'h).1 == k) = true) : fieldP (ps.drop j) k = some (ps[j]'h).2 := by
  unfold fieldP
  rw [List.drop_eq_getElem_cons h, List.find?_cons, he]
  rfl

theorem fieldP_miss {ps : List Pr} {j : Nat} (h : j < ps.length) {k : List UInt8} (he : ((ps[j]'h).1 == k) = false) : fieldP (ps.drop j) k = fieldP (ps.drop (j + 1)) k := by
  unfold fieldP
  rw [List.drop_eq_getElem_cons h, List.find?_cons, he]

def fldV (o : Option (List UInt8)) : Value := .tuple #[.string (mkB (o.getD [])), .bool o.isSome]

set_option maxRecDepth 100000 in
set_option maxHeartbeats 1000000 in
theorem field_any (w : World) (a : Option Addr) (c : Nat) (ps : List Pr) (k : List UInt8) (hP : PairsAt w a ps) (hm : ps.length ≤ 1000000) :
    Calls Tryz.prog 46 #[.slice a ps.length c, .string (mkB k)] w fun e w' => e = .returned (fldV (fieldP ps k)) ∧ Kept (fun _ => False) w w' := by
  go_enter Tryz.func46, Tryz.ntmps46
  go_wp2
  go_loopw [10] (fun v wr => ∃ (j : Nat), j ≤ ps.length ∧ v = .int .i64 (j : Int) ∧ Kept (fun _ => False) w wr ∧ fieldP (ps.drop j) k = fieldP ps k) (fun v _ => ps.length - (intOf v).toNat)
  case atStart => exact ⟨0, Nat.zero_le _, rfl, Kept.refl _ _, rfl⟩
  case round =>
    obtain ⟨j, hj, rfl, K, hF⟩ := hrel
    have HF : Hid (fieldP (ps.drop j) k = fieldP ps k) := hF
    clear hF
    by_cases hlt : j < ps.length
    · rcases hP.kept K with h0 | ⟨b, o, rfl, hcell⟩
      · rw [h0] at hlt; simp at hlt
      · obtain ⟨c0, c1⟩ := hcell j hlt
        have e0 : (j : Int) < (ps.length : Int) := by omega
        have hq := str_beq (ps[j]'hlt).1 k
        have HK : Hid (Kept (fun _ => False) w wr) := K
        have HH : Hid (((ps[j]'hlt).1 == k) = true → fieldP (ps.drop j) k = some (ps[j]'hlt).2) := fieldP_hit hlt
        have HM : Hid (((ps[j]'hlt).1 == k) = false → fieldP (ps.drop j) k = fieldP (ps.drop (j + 1)) k) := fieldP_miss hlt
        clear hcell K hP
        cases he : ((ps[j]'hlt).1 == k) with
        | true =>
          rw [he] at hq
          have HE : Hid (fieldP (ps.drop j) k = some (ps[j]'hlt).2) := HH.out he
          clear he HH HM
          generalize mkB (ps[j]'hlt).1 = x at *
          generalize hy : (ps[j]'hlt).2 = y at *
          clear hy
          generalize hz : mkB k = z at *
          clear hz
          go_wp2
          go_ret2
          refine ⟨?_, HK.out.and (Kept.alloc _ _ _)⟩
          rw [← HF.out, HE.out]
          rfl
        | false =>
          rw [he] at hq
          have HE : Hid (fieldP (ps.drop j) k = fieldP (ps.drop (j + 1)) k) := HM.out he
          clear he HH HM
          generalize mkB (ps[j]'hlt).1 = x at *
          generalize hy : (ps[j]'hlt).2 = y at *
          clear hy
          generalize hz : mkB k = z at *
          clear hz
          go_wp2
          go_roundw
          case rel =>
            refine ⟨j + 1, by omega, by go_num, HK.out.and (Kept.alloc _ _ _), ?_⟩
            rw [← HE.out]
            exact HF.out
          case measure => simp [intOf]; omega
    · obtain rfl : j = ps.length := by omega
      have HE : Hid (fieldP ps k = none) := by
        show fieldP ps k = none
        rw [← HF.out, List.drop_length]
        rfl
      generalize hz : mkB k = z at *
      clear hz
      go_wp2
      go_ret2
      refine ⟨?_, K⟩
      rw [HE.out]
      rfl

/-- A field that is a text. -/
def textOf (o : Option (List UInt8)) : Option (List UInt8) := match o with
  | some (34 :: t) => some t
  | _ => none

theorem cutQ (l : List UInt8) : Lib.hasPrefix l [34] = (match l with | 34 :: _ => true | _ => false) ∧ (∀ t, l = 34 :: t → Lib.trimPrefix l [34] = t) := by
  refine ⟨?_, ?_⟩
  · cases l with
    | nil => rfl
    | cons c t =>
      by_cases h : c = 34
      · subst h; simp [Lib.hasPrefix]
      · have : (match c :: t with | 34 :: _ => true | _ => false) = false := by
          split
          · rename_i h2; simp only [List.cons.injEq] at h2; exact absurd h2.1 h
          · rfl
        rw [this]
        show ((34 : UInt8) == c && List.isPrefixOf [] t) = false
        rw [beq_eq_false_iff_ne.2 (fun e => h e.symm)]
        rfl
  · rintro t rfl
    simp [Lib.trimPrefix, Lib.hasPrefix]

set_option maxRecDepth 100000 in
set_option maxHeartbeats 1000000 in
theorem text_any (w : World) (a : Option Addr) (c : Nat) (ps : List Pr) (k : List UInt8) (hP : PairsAt w a ps) (hm : ps.length ≤ 1000000) :
    Calls Tryz.prog 25 #[.slice a ps.length c, .string (mkB k)] w fun e w' => e = .returned (fldV (textOf (fieldP ps k))) ∧ Kept (fun _ => False) w w' := by
  have hFd := field_any w a c ps k hP hm
  unfold fldV at hFd
  have hC := fun W => Any.strings_CutPrefix Tryz.cutPrefixL (mkB ((fieldP ps k).getD [])) ⟨#[34]⟩ W
  change ∀ W, Calls Tryz.prog 48 _ _ (fun e w' => e = .returned (.tuple #[.string (mkB (Lib.trimPrefix ((fieldP ps k).getD []) [34])), .bool (Lib.hasPrefix ((fieldP ps k).getD []) [34])]) ∧ w' = W) at hC
  have hQ := cutQ ((fieldP ps k).getD [])
  generalize fieldP ps k = o at *
  clear hP
  by_cases ht : ∃ t, o = some (34 :: t)
  · obtain ⟨t, rfl⟩ := ht
    have h1 := hQ.1
    have h2 := hQ.2 t rfl
    simp only [Option.getD_some] at h1 h2 hC hFd
    rw [h1, h2] at hC
    clear hQ h1 h2
    generalize mkB (34 :: t) = q at *
    generalize hz : mkB k = z at *
    clear hz
    go_enter Tryz.func25, Tryz.ntmps25
    go_wp2_with (first
      | (go_at_call 46; refine hFd.mono ?_; rintro e w1 ⟨rfl, K1⟩; clear hFd)
      | (go_at_call 48; refine (hC _).mono ?_; rintro e w2 ⟨rfl, hw2⟩; subst w2; clear hC)
      | fail)
    go_ret2
    exact ⟨rfl, K1⟩
  · have h1 : Lib.hasPrefix (o.getD []) [34] = false := by
      rw [hQ.1]
      split
      · rename_i t h
        cases o with
        | none => cases h
        | some l => exact absurd ⟨t, by rw [← h]; rfl⟩ ht
      · rfl
    have HX : Hid (textOf o = none) := by
      show textOf o = none
      unfold textOf
      split
      · rename_i t; exact absurd ⟨t, rfl⟩ ht
      · rfl
    rw [h1] at hC
    clear hQ h1 ht
    generalize mkB (Lib.trimPrefix (o.getD []) [34]) = q2 at *
    generalize mkB (o.getD []) = q at *
    generalize o.isSome = q3 at *
    generalize hz : mkB k = z at *
    clear hz
    go_enter Tryz.func25, Tryz.ntmps25
    go_wp2_with (first
      | (go_at_call 46; refine hFd.mono ?_; rintro e w1 ⟨rfl, K1⟩; clear hFd)
      | (go_at_call 48; refine (hC _).mono ?_; rintro e w2 ⟨rfl, hw2⟩; subst w2; clear hC)
      | fail)
    go_ret2
    refine ⟨?_, K1⟩
    rw [HX.out]
    rfl

end Go.Proofs.YtfiaaaflpjpnjaaGreatDoor
