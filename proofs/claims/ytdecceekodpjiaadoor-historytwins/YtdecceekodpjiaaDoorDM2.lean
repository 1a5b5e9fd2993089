/-
  The reference's names: named, Name, Flow.
-/
import Derived.Test.YtdecceekodpjiaaDoorDName
import Derived.Test.YtdecceekodpjiaaDoorDFind
namespace Go.Proofs.YtdecceekodpjiaaDoor
open Go.RowKit

/-- A sign that a name may hold. -/
def chk (slash : Bool) (x : Int) : Bool := (decide (97 ≤ x) && decide (x ≤ 122)) || (decide (65 ≤ x) && decide (x ≤ 90)) || (decide (48 ≤ x) && decide (x ≤ 57)) || decide (x = 46) || decide (x = 45) || decide (x = 95) || (decide (x = 47) && slash)

theorem chk_letters (c : UInt8) : lettersB.data.toList.contains c = chk false ((c.toNat : Nat) : Int) := by
  have h : (List.range 256).all (fun n => lettersB.data.toList.contains n.toUInt8 == chk false (n : Int)) = true := by kernel_rfl
  have := List.all_eq_true.1 h c.toNat (List.mem_range.2 c.toNat_lt)
  simpa using this

theorem chk_flows (c : UInt8) : flowsB.data.toList.contains c = chk true ((c.toNat : Nat) : Int) := by
  have h : (List.range 256).all (fun n => flowsB.data.toList.contains n.toUInt8 == chk true (n : Int)) = true := by kernel_rfl
  have := List.all_eq_true.1 h c.toNat (List.mem_range.2 c.toNat_lt)
  simpa using this

def namP (s : ByteArray) (slash : Bool) (most : Int) : Bool := decide (1 ≤ s.size) && decide ((s.size : Int) ≤ most) && s.data.toList.all (fun c => chk slash ((c.toNat : Nat) : Int))

theorem nam_name (s : ByteArray) : namP s false 64 = nameP s := by
  unfold namP nameP madeP
  simp only [chk_letters]

theorem nam_flow (s : ByteArray) : namP s true 256 = flowP s := by
  unfold namP flowP madeP
  simp only [chk_flows]

theorem cls (x : Int) : x = 45 ∨ x = 46 ∨ x = 47 ∨ x = 95 ∨ (97 ≤ x ∧ x ≤ 122) ∨ (65 ≤ x ∧ x ≤ 90) ∨ (48 ≤ x ∧ x ≤ 57) ∨ x < 45 ∨ (58 ≤ x ∧ x ≤ 64) ∨ (91 ≤ x ∧ x ≤ 96 ∧ x ≠ 95) ∨ 123 ≤ x := by omega

set_option maxRecDepth 100000 in
set_option maxHeartbeats 8000000 in
theorem named_ref (w : World) (s : ByteArray) (slash : Bool) (most : Int) (hs : s.size ≤ maxLen) :
    Calls Tryd.prog 43 #[.string s, .bool slash, .int .i64 most] w fun e w' => e = .returned (.bool (namP s slash most)) ∧ w' = w := by
  have hM : s.size ≤ 9223372036854775807 := Nat.le_trans hs (by decide)
  clear hs
  go_enter Tryd.func43, Tryd.ntmps43
  go_wp2
  go_loopw [7, 8] (fun i _ wr => ∃ (k : Nat), k ≤ s.size ∧ i = .int .i64 k ∧ wr = w ∧ (s.data.toList.take k).all (fun c => chk slash ((c.toNat : Nat) : Int)) = true) (fun i _ _ => s.size - (intOf i).toNat)
  case atStart => exact ⟨0, Nat.zero_le _, rfl, rfl, rfl⟩
  case round =>
    obtain ⟨k, hk, rfl, hwr, hall⟩ := hrel
    subst hwr
    by_cases hlt : k < s.size
    · have hix : ∀ W, (Instr.index 9 (.string s) (.int .i64 (k : Int))).run Tryd.prog W = .ok (.int .u8 (((s[k]'hlt).toNat : Nat) : Int)) W := fun W => by
        rw [run_index_string W _ _ _ _ Tryd.underlying9]
        rw [dif_pos ⟨by omega, by omega⟩]
        simp
      have hnx := all_next s (fun c => chk slash ((c.toNat : Nat) : Int)) hlt
      rw [hall, Bool.true_and] at hnx
      have e0 : (k : Int) < (s.size : Int) := by omega
      generalize (((s[k]'hlt).toNat : Nat) : Int) = x at *
      have HA : Hid ((s.data.toList.take (k + 1)).all (fun c => chk slash ((c.toNat : Nat) : Int)) = chk slash x) := hnx
      clear hnx hall
      rcases cls x with h | h | h | h | h | h | h | h | h | h | h
      · subst h
        go_wp2
        go_roundw
        case rel => exact ⟨k + 1, by omega, by go_num, trivial, by rw [HA.out]; cases slash <;> rfl⟩
        case measure => simp [intOf]; omega
      · subst h
        go_wp2
        go_roundw
        case rel => exact ⟨k + 1, by omega, by go_num, trivial, by rw [HA.out]; cases slash <;> rfl⟩
        case measure => simp [intOf]; omega
      · subst h
        cases slash
        · go_wp2
          go_ret
          refine ⟨?_, rfl⟩
          unfold namP
          rw [all_ge _ _ (k + 1) (by rw [HA.out]; rfl)]
          simp
        · go_wp2
          go_roundw
          case rel => exact ⟨k + 1, by omega, by go_num, trivial, by rw [HA.out]; rfl⟩
          case measure => simp [intOf]; omega
      · subst h
        go_wp2
        go_roundw
        case rel => exact ⟨k + 1, by omega, by go_num, trivial, by rw [HA.out]; cases slash <;> rfl⟩
        case measure => simp [intOf]; omega
      · have HC : Hid (chk slash x = true) := by
          show chk slash x = true
          unfold chk; cases slash <;> simp <;> omega
        have a0 : 97 ≤ x := by omega
        have a1 : x ≤ 122 := by omega
        clear h
        go_wp2
        go_roundw
        case rel => exact ⟨k + 1, by omega, by go_num, trivial, by rw [HA.out]; exact HC.out⟩
        case measure => simp [intOf]; omega
      · have HC : Hid (chk slash x = true) := by
          show chk slash x = true
          unfold chk; cases slash <;> simp <;> omega
        have a0 : ¬ 97 ≤ x := by omega
        have a2 : 65 ≤ x := by omega
        have a3 : x ≤ 90 := by omega
        clear h
        go_wp2
        go_roundw
        case rel => exact ⟨k + 1, by omega, by go_num, trivial, by rw [HA.out]; exact HC.out⟩
        case measure => simp [intOf]; omega
      · have HC : Hid (chk slash x = true) := by
          show chk slash x = true
          unfold chk; cases slash <;> simp <;> omega
        have a0 : ¬ 97 ≤ x := by omega
        have a2 : ¬ 65 ≤ x := by omega
        have a4 : 48 ≤ x := by omega
        have a5 : x ≤ 57 := by omega
        clear h
        go_wp2
        go_roundw
        case rel => exact ⟨k + 1, by omega, by go_num, trivial, by rw [HA.out]; exact HC.out⟩
        case measure => simp [intOf]; omega
      · have HC : Hid (chk slash x = false) := by
          show chk slash x = false
          unfold chk; cases slash <;> simp <;> omega
        have a0 : ¬ 97 ≤ x := by omega
        have a2 : ¬ 65 ≤ x := by omega
        have a4 : ¬ 48 ≤ x := by omega
        have a6 : (x == 46) = false := by simp; omega
        have a7 : (x == 45) = false := by simp; omega
        have a8 : (x == 95) = false := by simp; omega
        have a9 : (x == 47) = false := by simp; omega
        clear h
        go_wp2
        go_ret
        refine ⟨?_, rfl⟩
        unfold namP
        rw [all_ge _ _ (k + 1) (by rw [HA.out]; exact HC.out)]
        simp
      · have HC : Hid (chk slash x = false) := by
          show chk slash x = false
          unfold chk; cases slash <;> simp <;> omega
        have a0 : ¬ 97 ≤ x := by omega
        have a2 : ¬ 65 ≤ x := by omega
        have a4 : 48 ≤ x := by omega
        have a5 : ¬ x ≤ 57 := by omega
        have a6 : (x == 46) = false := by simp; omega
        have a7 : (x == 45) = false := by simp; omega
        have a8 : (x == 95) = false := by simp; omega
        have a9 : (x == 47) = false := by simp; omega
        clear h
        go_wp2
        go_ret
        refine ⟨?_, rfl⟩
        unfold namP
        rw [all_ge _ _ (k + 1) (by rw [HA.out]; exact HC.out)]
        simp
      · have HC : Hid (chk slash x = false) := by
          show chk slash x = false
          unfold chk; cases slash <;> simp <;> omega
        have a0 : ¬ 97 ≤ x := by omega
        have a2 : 65 ≤ x := by omega
        have a3 : ¬ x ≤ 90 := by omega
        have a4 : 48 ≤ x := by omega
        have a5 : ¬ x ≤ 57 := by omega
        have a6 : (x == 46) = false := by simp; omega
        have a7 : (x == 45) = false := by simp; omega
        have a8 : (x == 95) = false := by simp; omega
        have a9 : (x == 47) = false := by simp; omega
        clear h
        go_wp2
        go_ret
        refine ⟨?_, rfl⟩
        unfold namP
        rw [all_ge _ _ (k + 1) (by rw [HA.out]; exact HC.out)]
        simp
      · have HC : Hid (chk slash x = false) := by
          show chk slash x = false
          unfold chk; cases slash <;> simp <;> omega
        have a0 : 97 ≤ x := by omega
        have a1 : ¬ x ≤ 122 := by omega
        have a2 : 65 ≤ x := by omega
        have a3 : ¬ x ≤ 90 := by omega
        have a4 : 48 ≤ x := by omega
        have a5 : ¬ x ≤ 57 := by omega
        have a6 : (x == 46) = false := by simp; omega
        have a7 : (x == 45) = false := by simp; omega
        have a8 : (x == 95) = false := by simp; omega
        have a9 : (x == 47) = false := by simp; omega
        clear h
        go_wp2
        go_ret
        refine ⟨?_, rfl⟩
        unfold namP
        rw [all_ge _ _ (k + 1) (by rw [HA.out]; exact HC.out)]
        simp
    · obtain rfl : k = s.size := by omega
      have e : s.data.toList.take s.size = s.data.toList := List.take_of_length_le (by simp)
      rw [e] at hall
      have HA : Hid (s.data.toList.all (fun c => chk slash ((c.toNat : Nat) : Int)) = true) := hall
      clear hall
      by_cases h1 : 1 ≤ s.size
      · have e1 : (1 : Int) ≤ (s.size : Int) := by omega
        by_cases h2 : (s.size : Int) ≤ most
        · go_wp2
          go_ret
          refine ⟨?_, rfl⟩
          unfold namP
          rw [HA.out]
          simp [h1, h2]
        · go_wp2
          go_ret
          refine ⟨?_, rfl⟩
          unfold namP
          rw [HA.out]
          simp [h1, h2]
      · have e1 : ¬ (1 : Int) ≤ (s.size : Int) := by omega
        go_wp2
        go_ret
        refine ⟨?_, rfl⟩
        unfold namP
        rw [HA.out]
        simp [h1]

end Go.Proofs.YtdecceekodpjiaaDoor

/-
  The document's Find.
-/
namespace Go.Proofs.YtdecceekodpjiaaDoor
open Go.RowKit

set_option maxRecDepth 100000 in
set_option maxHeartbeats 1000000 in
theorem refFind_wide (w : World) (name : ByteArray) (a : Option Addr) (n c : Nat) (ns : List Nd) (hN : RawAt w a ns) (hl : ns.length = n) (hn : n ≤ 4611686018427387904) (s : ByteArray) :
    Calls Tryd.prog 32 #[.agg #[.string name, .slice a n c], .string s] w fun e w' => e = .returned (.tuple #[.int .i64 ((findP ns s).getD 0 : Nat), .bool (findP ns s).isSome]) ∧ Kept (fun _ => False) w w' := by
  subst hl
  go_enter Tryd.func32, Tryd.ntmps32
  go_wp2
  go_loopw [6] (fun i wr => ∃ (k : Nat), k ≤ ns.length ∧ i = .int .i64 k ∧ wr = w.alloc (.cells #[.string name, .slice a ns.length c] 28) ∧ findP (ns.take k) s = none) (fun i _ => ns.length - (intOf i).toNat)
  case atStart => exact ⟨0, Nat.zero_le _, rfl, rfl, rfl⟩
  case round =>
    obtain ⟨k, hk, rfl, rfl, hf⟩ := hrel
    by_cases hlt : k < ns.length
    · obtain ⟨b, o, av, cv, rfl, hT, c0, c1, c2, c3, c4, c5, c6⟩ := (keptRaw (Kept.alloc (fun _ => False) w (.cells #[.string name, .slice a ns.length c] 28)) hN).at hlt
      have hnx := findP_take (s := s) hlt
      have hft := fun h => findP_of_first hlt h (fun j hj => findP_none.1 hf _ (List.mem_take_iff_getElem.2 ⟨j, by omega, rfl⟩))
      rw [hf, Option.none_or] at hnx
      have HF : Hid ((ns[k]).name = s → findP ns s = some k) := hft
      have HN : Hid (findP (ns.take (k + 1)) s = if (ns[k]).name = s then some k else none) := hnx
      have e0 : (k : Int) < (ns.length : Int) := by omega
      clear hft hnx hT hN
      by_cases he : (ns[k]).name = s
      · have he2 : ((ns[k]).name.toList == s.toList) = true := by rw [he]; simp
        generalize ns[k] = x at *
        go_wp2
        go_ret2
        rw [HF.out he]
        exact ⟨rfl, Kept.alloc _ _ _⟩
      · have he2 : ((ns[k]).name.toList == s.toList) = false := by
          simp only [beq_eq_false_iff_ne, ne_eq]
          exact fun h => he (ByteArray.ext (Array.toList_inj.1 (by rw [← Lib.toList_data, ← Lib.toList_data]; exact h)))
        generalize ns[k] = x at *
        go_wp2
        go_roundw
        case rel =>
          refine ⟨k + 1, by omega, by go_num, trivial, ?_⟩
          rw [HN.out, if_neg he]
        case measure => simp [intOf]; omega
    · obtain rfl : k = ns.length := by omega
      clear hN
      go_wp2
      go_ret2
      rw [List.take_length] at hf
      rw [hf]
      exact ⟨rfl, Kept.alloc _ _ _⟩

theorem refFind_any (w : World) (name : ByteArray) (a : Option Addr) (n c : Nat) (ns : List Nd) (hN : NodesAt w a ns) (hl : ns.length = n) (hn : n ≤ 4611686018427387904) (s : ByteArray) :
    Calls Tryd.prog 32 #[.agg #[.string name, .slice a n c], .string s] w fun e w' => e = .returned (.tuple #[.int .i64 ((findP ns s).getD 0 : Nat), .bool (findP ns s).isSome]) ∧ Kept (fun _ => False) w w' :=
  refFind_wide w name a n c ns hN.raw hl hn s

end Go.Proofs.YtdecceekodpjiaaDoor

/-
  The document's checkNode.
-/
namespace Go.Proofs.YtdecceekodpjiaaDoor
open Go.RowKit

set_option maxRecDepth 100000 in
set_option maxHeartbeats 1000000 in
theorem refName_any (w : World) (s : ByteArray) (hs : s.size ≤ maxLen) :
    Calls Tryd.prog 30 #[.string s] w fun e w' => e = .returned (.bool (nameP s)) ∧ w' = w := by
  have h := named_ref w s false 64 hs
  rw [nam_name] at h
  generalize nameP s = b at *
  go_enter Tryd.func30, Tryd.ntmps30
  go_wp2_with (first
    | (go_at_call 43; refine h.mono ?_; rintro e w1 ⟨rfl, rfl⟩; clear h)
    | fail)
  go_ret
  exact ⟨rfl, rfl⟩

set_option maxRecDepth 100000 in
set_option maxHeartbeats 1000000 in
theorem refFlow_any (w : World) (s : ByteArray) (hs : s.size ≤ maxLen) :
    Calls Tryd.prog 44 #[.string s] w fun e w' => e = .returned (.bool (flowP s)) ∧ w' = w := by
  have h := named_ref w s true 256 hs
  rw [nam_flow] at h
  generalize flowP s = b at *
  go_enter Tryd.func44, Tryd.ntmps44
  go_wp2_with (first
    | (go_at_call 43; refine h.mono ?_; rintro e w1 ⟨rfl, rfl⟩; clear h)
    | fail)
  go_ret
  exact ⟨rfl, rfl⟩

theorem bytes_empty (s : ByteArray) : (s = ByteArray.empty) ↔ s.size = 0 := by
  constructor
  · intro h; subst h; rfl
  · intro h
    apply ByteArray.ext
    apply Array.eq_empty_of_size_eq_zero
    exact h

set_option maxRecDepth 100000 in
set_option maxHeartbeats 8000000 in
theorem refNode_raw (w : World) (name : ByteArray) (b o c n i j : Nat) (x0 : ByteArray) (x1 : Int) (x2 x3 : ByteArray) (x4 x5 : Int) (x6 : List ByteArray) (av : Option Addr) (lv cv : Nat) (b1 b2 b3 bf : Bool) (hn : i < n) (_hnn : n ≤ 1000000)
    (hN1 : ∀ V, Calls Tryd.prog 30 #[.string x0] V fun e w' => e = .returned (.bool b1) ∧ w' = V)
    (hN2 : ∀ V, Calls Tryd.prog 30 #[.string x2] V fun e w' => e = .returned (.bool b2) ∧ w' = V)
    (hF3 : ∀ V, Calls Tryd.prog 44 #[.string x3] V fun e w' => e = .returned (.bool b3) ∧ w' = V)
    (hFd : ∀ V, Kept (fun _ => False) w V → Calls Tryd.prog 32 #[.agg #[.string name, .slice (some ⟨b, o, none⟩) n c], .string x0] V fun e w' => e = .returned (.tuple #[.int .i64 (j : Nat), .bool bf]) ∧ Kept (fun _ => False) V w')
    (c0 : (w.alloc (.cells #[.string name, .slice (some ⟨b, o, none⟩) n c] 28)).cell? ⟨b, o + i * 7, none⟩ = some (.string x0))
    (c1 : (w.alloc (.cells #[.string name, .slice (some ⟨b, o, none⟩) n c] 28)).cell? ⟨b, o + i * 7 + 1, none⟩ = some (.int .i64 x1))
    (c2 : (w.alloc (.cells #[.string name, .slice (some ⟨b, o, none⟩) n c] 28)).cell? ⟨b, o + i * 7 + 2, none⟩ = some (.string x2))
    (c3 : (w.alloc (.cells #[.string name, .slice (some ⟨b, o, none⟩) n c] 28)).cell? ⟨b, o + i * 7 + 3, none⟩ = some (.string x3))
    (c4 : (w.alloc (.cells #[.string name, .slice (some ⟨b, o, none⟩) n c] 28)).cell? ⟨b, o + i * 7 + 4, none⟩ = some (.int .i64 x4))
    (c5 : (w.alloc (.cells #[.string name, .slice (some ⟨b, o, none⟩) n c] 28)).cell? ⟨b, o + i * 7 + 5, none⟩ = some (.int .i64 x5))
    (c6 : (w.alloc (.cells #[.string name, .slice (some ⟨b, o, none⟩) n c] 28)).cell? ⟨b, o + i * 7 + 6, none⟩ = some (.slice av lv cv)) :
    Calls Tryd.prog 31 #[.agg #[.string name, .slice (some ⟨b, o, none⟩) n c], .int .i64 i] w fun e w' => e = .returned (.int .i64 (if (b1 && (x1 == 2 || b2) && (x1 != 5 || b3)) = true then (if j < i then 16 else if fitsP ⟨x0, x1, x2, x3, x4, x5, x6⟩ = true then 0 else 1) else 17)) ∧ Kept (fun _ => False) w w' := by
  generalize hr : (if (b1 && (x1 == 2 || b2) && (x1 != 5 || b3)) = true then (if j < i then (16 : Int) else if fitsP ⟨x0, x1, x2, x3, x4, x5, x6⟩ = true then 0 else 1) else 17) = r
  have HR : Hid ((if (b1 && (x1 == 2 || b2) && (x1 != 5 || b3)) = true then (if j < i then (16 : Int) else if fitsP ⟨x0, x1, x2, x3, x4, x5, x6⟩ = true then 0 else 1) else 17) = r) := hr
  clear hr
  have s2 := str_empty x2
  have s3 := str_empty x3
  have e0 : (i : Int) < (n : Int) := by omega
  have HJ : Hid (j < i ∨ ¬ j < i) := Decidable.em _
  cases b1
  · go_enter Tryd.func31, Tryd.ntmps31
    go_wp2_with (first
      | (go_at_call_of 30 (Value.string x0); refine (hN1 _).mono ?_; rintro e w1 ⟨rfl, hw⟩; subst w1)
      | fail)
    go_ret
    refine ⟨?_, (Kept.alloc _ _ _).and (Kept.alloc _ _ _)⟩
    rw [← HR.out]
    rfl
  · rcases HJ.out with hj | hj
    · have ej : (j : Int) < (i : Int) := by omega
      cases b2 <;> cases b3
      all_goals (
        go_enter Tryd.func31, Tryd.ntmps31
        go_wp2_with (first
          | (go_at_call_of 30 (Value.string x0); refine (hN1 _).mono ?_; rintro e w1 ⟨rfl, hw⟩; subst w1)
          | (go_at_call_of 30 (Value.string x2); refine (hN2 _).mono ?_; rintro e w1 ⟨rfl, hw⟩; subst w1)
          | (go_at_call 44; refine (hF3 _).mono ?_; rintro e w1 ⟨rfl, hw⟩; subst w1)
          | (go_at_call 32; refine (hFd _ ((Kept.alloc _ _ _).and (Kept.alloc _ _ _))).mono ?_; rintro e w2 ⟨rfl, K2⟩; have hb := boxN K2; rw [World.size_alloc] at hb; obtain ⟨y0, y1, y2, y3, y4, y5, y6⟩ := hb)
          | fail))
      all_goals go_ret
      all_goals rw [← HR.out]
      all_goals clear HR
      all_goals first | refine ⟨?_, ((Kept.alloc _ _ _).and (Kept.alloc _ _ _)).and K2⟩ | refine ⟨?_, (Kept.alloc _ _ _).and (Kept.alloc _ _ _)⟩
      all_goals clear hN1 hN2 hF3 hFd c0 c1 c2 c3 c4 c5 c6
      all_goals try clear y0 y1 y2 y3 y4 y5 y6
      all_goals try clear K2
      all_goals have hx2 : (x2 = ByteArray.empty) ↔ x2.size = 0 := bytes_empty x2
      all_goals have hx3 : (x3 = ByteArray.empty) ↔ x3.size = 0 := bytes_empty x3
      all_goals unfold fitsP
      all_goals simp only []
      all_goals (first | refine congrArg (fun z => Ending.returned (Value.int .i64 z)) (show (1 : Int) = _ from ?_) | refine congrArg (fun z => Ending.returned (Value.int .i64 z)) (show (0 : Int) = _ from ?_) | refine congrArg (fun z => Ending.returned (Value.int .i64 z)) (show (16 : Int) = _ from ?_) | refine congrArg (fun z => Ending.returned (Value.int .i64 z)) (show (17 : Int) = _ from ?_))
      all_goals (grind; done)
    · have ej : ¬ (j : Int) < (i : Int) := by omega
      cases b2 <;> cases b3
      all_goals (
        go_enter Tryd.func31, Tryd.ntmps31
        go_wp2_with (first
          | (go_at_call_of 30 (Value.string x0); refine (hN1 _).mono ?_; rintro e w1 ⟨rfl, hw⟩; subst w1)
          | (go_at_call_of 30 (Value.string x2); refine (hN2 _).mono ?_; rintro e w1 ⟨rfl, hw⟩; subst w1)
          | (go_at_call 44; refine (hF3 _).mono ?_; rintro e w1 ⟨rfl, hw⟩; subst w1)
          | (go_at_call 32; refine (hFd _ ((Kept.alloc _ _ _).and (Kept.alloc _ _ _))).mono ?_; rintro e w2 ⟨rfl, K2⟩; have hb := boxN K2; rw [World.size_alloc] at hb; obtain ⟨y0, y1, y2, y3, y4, y5, y6⟩ := hb)
          | fail))
      all_goals go_ret
      all_goals rw [← HR.out]
      all_goals clear HR
      all_goals first | refine ⟨?_, ((Kept.alloc _ _ _).and (Kept.alloc _ _ _)).and K2⟩ | refine ⟨?_, (Kept.alloc _ _ _).and (Kept.alloc _ _ _)⟩
      all_goals clear hN1 hN2 hF3 hFd c0 c1 c2 c3 c4 c5 c6
      all_goals try clear y0 y1 y2 y3 y4 y5 y6
      all_goals try clear K2
      all_goals have hx2 : (x2 = ByteArray.empty) ↔ x2.size = 0 := bytes_empty x2
      all_goals have hx3 : (x3 = ByteArray.empty) ↔ x3.size = 0 := bytes_empty x3
      all_goals unfold fitsP
      all_goals simp only []
      all_goals (first | refine congrArg (fun z => Ending.returned (Value.int .i64 z)) (show (1 : Int) = _ from ?_) | refine congrArg (fun z => Ending.returned (Value.int .i64 z)) (show (0 : Int) = _ from ?_) | refine congrArg (fun z => Ending.returned (Value.int .i64 z)) (show (16 : Int) = _ from ?_) | refine congrArg (fun z => Ending.returned (Value.int .i64 z)) (show (17 : Int) = _ from ?_))
      all_goals (grind; done)

/-- The document's checkNode, for a node of a definition. -/
theorem refNode_wide (w : World) (name : ByteArray) (a : Option Addr) (c i : Nat) (ns : List Nd) (hN : RawAt w a ns) (hn : ns.length ≤ 1000000) (hi : i < ns.length) :
    Calls Tryd.prog 31 #[.agg #[.string name, .slice a ns.length c], .int .i64 i] w fun e w' => e = .returned (.int .i64 (nodeE ns i ns[i])) ∧ Kept (fun _ => False) w w' := by
  obtain ⟨b, o, av, cv, rfl, T, x0, x1, x2, x3, x4, x5, x6⟩ := (keptRaw (Kept.alloc (fun _ => False) w (.cells #[.string name, .slice a ns.length c] 28)) hN).at hi
  have hok := hN.1 ns[i] (List.getElem_mem hi)
  exact refNode_raw w name b o c ns.length i ((findP ns (ns[i]).name).getD 0) (ns[i]).name (ns[i]).kind (ns[i]).arg (ns[i]).to (ns[i]).delay (ns[i]).tries (ns[i]).after av (ns[i]).after.length cv (nameP (ns[i]).name) (nameP (ns[i]).arg) (flowP (ns[i]).to) (findP ns (ns[i]).name).isSome hi hn
    (fun V => refName_any V _ hok.name) (fun V => refName_any V _ hok.arg) (fun V => refFlow_any V _ hok.to) (fun V K => refFind_wide V name _ ns.length c ns (keptRaw K hN) rfl (by omega) _) x0 x1 x2 x3 x4 x5 x6

theorem refNode_any (w : World) (name : ByteArray) (a : Option Addr) (c i : Nat) (ns : List Nd) (hN : NodesAt w a ns) (hn : ns.length ≤ 1000000) (hi : i < ns.length) :
    Calls Tryd.prog 31 #[.agg #[.string name, .slice a ns.length c], .int .i64 i] w fun e w' => e = .returned (.int .i64 (nodeE ns i ns[i])) ∧ Kept (fun _ => False) w w' :=
  refNode_wide w name a c i ns hN.raw hn hi

end Go.Proofs.YtdecceekodpjiaaDoor
