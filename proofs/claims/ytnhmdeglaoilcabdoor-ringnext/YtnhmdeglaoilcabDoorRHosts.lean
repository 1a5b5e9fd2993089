/-
  hosts: each once, in range, at most twelve.
-/
import Derived.Test.YtnhmdeglaoilcabDoorRWakes
namespace Go.Proofs.YtnhmdeglaoilcabDoor
open Go.RowKit Go.Sort

theorem Tryd.info3 : (Tryd.prog.info? 3).map (fun i => (i.zero, i.size, i.bytes)) = some (some (.int .i64 0), 1, 8) := by kernel_rfl

theorem intsOfRow {w : World} {base : Nat} {a : Option Addr} {n c : Nat} {l : List Int} (h : w.ownsRow base 3 1 (.slice a n c) n (l.map (Value.int .i64))) : IntsAt w a n c l := by
  have hl : l.length = n := by have := h.1; simpa using this
  rcases h.2 with ⟨e, h0⟩ | ⟨g, cap, cur, e, _, _, h1, _⟩
  · simp only [Value.slice.injEq] at e
    obtain ⟨rfl, _, rfl⟩ := e
    exact ⟨hl, by omega, fun _ => h0, fun ad h => (by cases h)⟩
  · have h' := h
    simp only [Value.slice.injEq] at e
    obtain ⟨rfl, _, rfl⟩ := e
    exact ⟨hl, h1, fun h => (by cases h), fun ad e j hj => (by cases e; exact h'.cells rfl j _ (by simp [hj]))⟩

theorem within_nat (w : World) (k : Int) (n : Nat) (h : 0 < n) (h2 : n ≤ 1000) :
    Calls Tryd.prog 7 #[.int .i64 k, .int .i64 (n : Int)] w fun e w' => ∃ r : Nat, r < n ∧ e = .returned (.int .i64 (r : Int)) ∧ w' = w :=
  (within_any w k n (by omega) (by omega)).mono fun e w' ⟨he, hw⟩ => by
    have h0 := Int.emod_nonneg k (show (n : Int) ≠ 0 by omega)
    have h1 := Int.emod_lt_of_pos k (show (0 : Int) < (n : Int) by omega)
    refine ⟨(k % (n : Int)).toNat, by omega, ?_, hw⟩
    rw [he, Int.toNat_of_nonneg h0]

theorem Right.add {l : List Int} {h : Int} (hr : Right l) (h0 : 0 ≤ h ∧ h < 16) (hn : h ∉ l) : Right (l ++ [h]) := by
  refine ⟨fun z hz => ?_, ?_⟩
  · rcases List.mem_append.1 hz with hz | hz
    · exact hr.1 z hz
    · rw [List.mem_singleton.1 hz]; exact h0
  · rw [List.nodup_append]
    exact ⟨hr.2, by simp, fun a ha b hb => by rw [List.mem_singleton.1 hb]; intro e; subst e; exact hn ha⟩

theorem mem_take_next {l : List Int} {h : Int} {j : Nat} (hj : j < l.length) : decide (h ∈ l.take (j + 1)) = (decide (h ∈ l.take j) || (l[j] == h)) := by
  have e : l.take (j + 1) = l.take j ++ [l[j]] := by rw [List.take_add_one, List.getElem?_eq_getElem hj]; rfl
  have hm : (h ∈ l.take (j + 1)) ↔ (h ∈ l.take j ∨ h = l[j]) := by rw [e, List.mem_append, List.mem_singleton]
  rw [decide_eq_decide.2 hm, Bool.decide_or]
  congr 1
  by_cases hh : h = l[j]
  · simp [← hh]
  · simp [hh]; exact fun e => hh e.symm

set_option maxRecDepth 100000 in
set_option maxHeartbeats 2000000 in
theorem hosts_any (w : World) (a : Option Addr) (m c : Nat) (zs : List Int) (B : IntsAt w a m c zs) :
    Calls Tryd.prog 6 #[.slice a m c] w fun e w' => ∃ a' c' l, e = .returned (.slice a' l.length c') ∧ w'.ownsRow w.heap.size 3 1 (.slice a' l.length c') l.length (l.map (Value.int .i64)) ∧ Right l ∧ l.length ≤ 12 ∧ Kept (fun _ => False) w w' := by
  obtain ⟨i0, hi, hz0, hz1, hz2⟩ := info_parts Tryd.info3
  have HL : Hid (zs.length = m) := B.len
  go_enter Tryd.func6, Tryd.ntmps6
  go_wp2
  go_loopw [3, 4] (fun v i wr => ∃ (k : Nat) (a' : Option Addr) (c' : Nat) (l : List Int), k ≤ m ∧ k ≤ 12 ∧ i = .int .i64 k ∧ v = .slice a' l.length c' ∧ wr.ownsRow w.heap.size 3 1 (.slice a' l.length c') l.length (l.map (Value.int .i64)) ∧ Right l ∧ l.length ≤ k ∧ Kept (fun k => w.heap.size ≤ k) w wr) (fun _ i _ => m - (intOf i).toNat)
  case atStart => exact ⟨0, none, 0, [], Nat.zero_le _, by decide, rfl, rfl, World.ownsRow_nil _ _ _ _, ⟨fun z hz => (by cases hz), List.nodup_nil⟩, by simp, Kept.refl _ _⟩
  case round =>
    obtain ⟨k, a', c', l, hk, hk12, rfl, rfl, ho, hR, hlk, K⟩ := hrel
    have hb := K.size
    by_cases hlt : k < m
    · have e0 : (k : Int) < (m : Int) := by omega
      by_cases h12 : k < 12
      · have hlz : k < zs.length := by rw [HL.out]; exact hlt
        obtain ⟨ba, oa, rfl, hcell⟩ := B.at hlz
        have hba := World.block_lt_of_cell? w _ (hcell k hlz)
        have hx : wr.cell? ⟨ba, oa + k, none⟩ = some (.int .i64 zs[k]) := (World.cell?_of_block (K.block ba hba (by simpa using hba))).trans (hcell k hlz)
        have WI := fun V => within_any V zs[k] 16 (by decide) (by decide)
        have h0 : 0 ≤ zs[k] % 16 ∧ zs[k] % 16 < 16 := ⟨Int.emod_nonneg _ (by decide), Int.emod_lt_of_pos _ (by decide)⟩
        generalize zs[k] % 16 = h at *
        generalize zs[k] = z at *
        have I := intsOfRow ho
        clear hcell B
        go_wp2_with (first
          | (go_at_call 7; refine (WI _).mono ?_; rintro e w1 ⟨rfl, hw1⟩; subst w1)
          | fail)
        go_loopw [6, 7] (fun t j wr' => ∃ (q : Nat), q ≤ l.length ∧ j = .int .i64 q ∧ t = .bool (decide (h ∈ l.take q)) ∧ wr' = wr) (fun _ j _ => l.length - (intOf j).toNat)
        case atStart => exact ⟨0, Nat.zero_le _, rfl, by simp, rfl⟩
        case round =>
          obtain ⟨q, hq, rfl, rfl, hwr⟩ := hrel
          subst hwr
          by_cases hql : q < l.length
          · have e1 : (q : Int) < (l.length : Int) := by omega
            obtain ⟨bb, ob, rfl, hcl⟩ := I.at hql
            have hy := hcl q hql
            have hnx := mem_take_next (h := h) hql
            generalize l[q] = y at *
            have HN : Hid (decide (h ∈ l.take (q + 1)) = (decide (h ∈ l.take q) || (y == h))) := hnx
            clear hnx hcl I WI
            cases hd : decide (h ∈ l.take q)
            · have HD : Hid (decide (h ∈ l.take q) = false) := hd
              clear hd
              go_wp2
              go_roundw
              case rel => exact ⟨q + 1, by omega, by go_num, by rw [HN.out, HD.out]; simp, trivial⟩
              case measure => simp [intOf]; omega
            · have HD : Hid (decide (h ∈ l.take q) = true) := hd
              clear hd
              go_wp2
              go_roundw
              case rel => exact ⟨q + 1, by omega, by go_num, by rw [HN.out, HD.out]; simp, trivial⟩
              case measure => simp [intOf]; omega
          · have e1 : ¬ (q : Int) < (l.length : Int) := by omega
            have hlq : l.take q = l := List.take_of_length_le (by omega)
            rw [hlq]
            clear WI
            by_cases hm : h ∈ l
            · have hd : decide (h ∈ l) = true := by simpa using hm
              rw [hd]
              clear hd hlq
              go_wp2
              go_roundw
              case rel => exact ⟨k + 1, a', c', l, by omega, by omega, by go_num, rfl, ho, hR, by omega, K⟩
              case measure => simp [intOf]; omega
            · have hd : decide (h ∈ l) = false := by simpa using hm
              rw [hd]
              have HR : Hid (Right (l ++ [h])) := hR.add h0 hm
              have HE : Hid ((l ++ [h]).length = l.length + 1) := by show _ = _; simp
              have HM : Hid ((l ++ [h]).map (Value.int .i64) = l.map (Value.int .i64) ++ [.int .i64 h]) := by show _ = _; simp
              clear hd hm hlq
              go_wp2_with (first
                | (at_builtin; refine wpList_append_src _ rfl _ _ 22 rfl w.heap.size 3 i0 _ 1 8 Tryd.underlying22 hi hz0 hz1 hz2 rfl (by decide) (.slice a' l.length c') l.length _ rfl (ho.alloc _) _ rfl 1 [.int .i64 h] (.inl ⟨_, 1, rfl, rfl, World.news_of_block (heap_alloc_new _ _)⟩) (by simp [Value.oneCell']) (by unfold maxLen; omega) (by omega) (by simp; omega) ?_; intro a3 cap3 w3 ho3 hg3 _ hl3)
                | fail)
              go_roundw
              case rel => exact ⟨k + 1, a3, cap3, l ++ [h], by omega, by omega, by go_num, by rw [HE.out], by rw [HE.out, HM.out]; exact ho3, HR.out, by rw [HE.out]; omega, (K.and (Kept.alloc _ _ _)).and (Kept.grown hg3 (fun k e => (ho.lt k e).1))⟩
              case measure => simp [intOf]; omega
      · have e1 : ¬ (k : Int) < 12 := by omega
        go_wp2
        go_ret
        exact ⟨a', c', l, rfl, ho, hR, by omega, (Kept.refl (fun _ => False) w).trans K (fun _ h => .inr h)⟩
    · have e1 : ¬ (k : Int) < (m : Int) := by omega
      go_wp2
      go_ret
      exact ⟨a', c', l, rfl, ho, hR, by omega, (Kept.refl (fun _ => False) w).trans K (fun _ h => .inr h)⟩

end Go.Proofs.YtnhmdeglaoilcabDoor
