/-
  The document's checkNode.
-/
import Derived.Test.YtfjekjbkifmpfaaDoorG03
import Derived.Test.YtfjekjbkifmpfaaDoorG01
namespace Go.Proofs.YtfjekjbkifmpfaaDoor
open Go.RowKit

set_option maxRecDepth 100000 in
set_option maxHeartbeats 1000000 in
theorem refName_any (w : World) (s : ByteArray) (hs : s.size ≤ maxLen) :
    Calls Tryd.prog 45 #[.string s] w fun e w' => e = .returned (.bool (nameP s)) ∧ w' = w := by
  have h := named_ref w s false 64 hs
  rw [nam_name] at h
  generalize nameP s = b at *
  go_enter Tryd.func45, Tryd.ntmps45
  go_wp2_with (first
    | (go_at_call 60; refine h.mono ?_; rintro e w1 ⟨rfl, rfl⟩; clear h)
    | fail)
  go_ret
  exact ⟨rfl, rfl⟩

set_option maxRecDepth 100000 in
set_option maxHeartbeats 1000000 in
theorem refFlow_any (w : World) (s : ByteArray) (hs : s.size ≤ maxLen) :
    Calls Tryd.prog 61 #[.string s] w fun e w' => e = .returned (.bool (flowP s)) ∧ w' = w := by
  have h := named_ref w s true 256 hs
  rw [nam_flow] at h
  generalize flowP s = b at *
  go_enter Tryd.func61, Tryd.ntmps61
  go_wp2_with (first
    | (go_at_call 60; refine h.mono ?_; rintro e w1 ⟨rfl, rfl⟩; clear h)
    | fail)
  go_ret
  exact ⟨rfl, rfl⟩

theorem bytes_empty (s : ByteArray) : (s = ByteArray.empty) ↔ s.size = 0 := by
  constructor
  · intro h; subst h; rfl
  · intro h
    apply ByteArray.ext
    apply Array.eq_empty_of_size_eq_zero
    exact h

set_option maxRecDepth 100000 in
set_option maxHeartbeats 8000000 in
theorem refNode_raw (w : World) (name : ByteArray) (b o c n i j : Nat) (x0 : ByteArray) (x1 : Int) (x2 x3 : ByteArray) (x4 x5 : Int) (x6 : List ByteArray) (av : Option Addr) (lv cv : Nat) (b1 b2 b3 bf : Bool) (hn : i < n) (_hnn : n ≤ 1000000)
    (hN1 : ∀ V, Calls Tryd.prog 45 #[.string x0] V fun e w' => e = .returned (.bool b1) ∧ w' = V)
    (hN2 : ∀ V, Calls Tryd.prog 45 #[.string x2] V fun e w' => e = .returned (.bool b2) ∧ w' = V)
    (hF3 : ∀ V, Calls Tryd.prog 61 #[.string x3] V fun e w' => e = .returned (.bool b3) ∧ w' = V)
    (hFd : ∀ V, Kept (fun _ => False) w V → Calls Tryd.prog 23 #[.agg #[.string name, .slice (some ⟨b, o, none⟩) n c], .string x0] V fun e w' => e = .returned (.tuple #[.int .i64 (j : Nat), .bool bf]) ∧ Kept (fun _ => False) V w')
    (c0 : (w.alloc (.cells #[.string name, .slice (some ⟨b, o, none⟩) n c] 24)).cell? ⟨b, o + i * 7, none⟩ = some (.string x0))
    (c1 : (w.alloc (.cells #[.string name, .slice (some ⟨b, o, none⟩) n c] 24)).cell? ⟨b, o + i * 7 + 1, none⟩ = some (.int .i64 x1))
    (c2 : (w.alloc (.cells #[.string name, .slice (some ⟨b, o, none⟩) n c] 24)).cell? ⟨b, o + i * 7 + 2, none⟩ = some (.string x2))
    (c3 : (w.alloc (.cells #[.string name, .slice (some ⟨b, o, none⟩) n c] 24)).cell? ⟨b, o + i * 7 + 3, none⟩ = some (.string x3))
    (c4 : (w.alloc (.cells #[.string name, .slice (some ⟨b, o, none⟩) n c] 24)).cell? ⟨b, o + i * 7 + 4, none⟩ = some (.int .i64 x4))
    (c5 : (w.alloc (.cells #[.string name, .slice (some ⟨b, o, none⟩) n c] 24)).cell? ⟨b, o + i * 7 + 5, none⟩ = some (.int .i64 x5))
    (c6 : (w.alloc (.cells #[.string name, .slice (some ⟨b, o, none⟩) n c] 24)).cell? ⟨b, o + i * 7 + 6, none⟩ = some (.slice av lv cv)) :
    Calls Tryd.prog 46 #[.agg #[.string name, .slice (some ⟨b, o, none⟩) n c], .int .i64 i] w fun e w' => e = .returned (.int .i64 (if (b1 && (x1 == 2 || b2) && (x1 != 5 || b3)) = true then (if j < i then 16 else if fitsP ⟨x0, x1, x2, x3, x4, x5, x6⟩ = true then 0 else 1) else 17)) ∧ Kept (fun _ => False) w w' := by
  generalize hr : (if (b1 && (x1 == 2 || b2) && (x1 != 5 || b3)) = true then (if j < i then (16 : Int) else if fitsP ⟨x0, x1, x2, x3, x4, x5, x6⟩ = true then 0 else 1) else 17) = r
  have HR : Hid ((if (b1 && (x1 == 2 || b2) && (x1 != 5 || b3)) = true then (if j < i then (16 : Int) else if fitsP ⟨x0, x1, x2, x3, x4, x5, x6⟩ = true then 0 else 1) else 17) = r) := hr
  clear hr
  have s2 := str_empty x2
  have s3 := str_empty x3
  have e0 : (i : Int) < (n : Int) := by omega
  have HJ : Hid (j < i ∨ ¬ j < i) := Decidable.em _
  cases b1
  · go_enter Tryd.func46, Tryd.ntmps46
    go_wp2_with (first
      | (go_at_call_of 45 (Value.string x0); refine (hN1 _).mono ?_; rintro e w1 ⟨rfl, hw⟩; subst w1)
      | fail)
    go_ret
    refine ⟨?_, (Kept.alloc _ _ _).and (Kept.alloc _ _ _)⟩
    rw [← HR.out]
    rfl
  · rcases HJ.out with hj | hj
    · have ej : (j : Int) < (i : Int) := by omega
      cases b2 <;> cases b3
      all_goals (
        go_enter Tryd.func46, Tryd.ntmps46
        go_wp2_with (first
          | (go_at_call_of 45 (Value.string x0); refine (hN1 _).mono ?_; rintro e w1 ⟨rfl, hw⟩; subst w1)
          | (go_at_call_of 45 (Value.string x2); refine (hN2 _).mono ?_; rintro e w1 ⟨rfl, hw⟩; subst w1)
          | (go_at_call 61; refine (hF3 _).mono ?_; rintro e w1 ⟨rfl, hw⟩; subst w1)
          | (go_at_call 23; refine (hFd _ ((Kept.alloc _ _ _).and (Kept.alloc _ _ _))).mono ?_; rintro e w2 ⟨rfl, K2⟩; have hb := boxN K2; rw [World.size_alloc] at hb; obtain ⟨y0, y1, y2, y3, y4, y5, y6⟩ := hb)
          | fail))
      all_goals go_ret
      all_goals rw [← HR.out]
      all_goals clear HR
      all_goals first | refine ⟨?_, ((Kept.alloc _ _ _).and (Kept.alloc _ _ _)).and K2⟩ | refine ⟨?_, (Kept.alloc _ _ _).and (Kept.alloc _ _ _)⟩
      all_goals clear hN1 hN2 hF3 hFd c0 c1 c2 c3 c4 c5 c6
      all_goals try clear y0 y1 y2 y3 y4 y5 y6
      all_goals try clear K2
      all_goals have hx2 : (x2 = ByteArray.empty) ↔ x2.size = 0 := bytes_empty x2
      all_goals have hx3 : (x3 = ByteArray.empty) ↔ x3.size = 0 := bytes_empty x3
      all_goals unfold fitsP
      all_goals simp only []
      all_goals (first | refine congrArg (fun z => Ending.returned (Value.int .i64 z)) (show (1 : Int) = _ from ?_) | refine congrArg (fun z => Ending.returned (Value.int .i64 z)) (show (0 : Int) = _ from ?_) | refine congrArg (fun z => Ending.returned (Value.int .i64 z)) (show (16 : Int) = _ from ?_) | refine congrArg (fun z => Ending.returned (Value.int .i64 z)) (show (17 : Int) = _ from ?_))
      all_goals (grind; done)
    · have ej : ¬ (j : Int) < (i : Int) := by omega
      cases b2 <;> cases b3
      all_goals (
        go_enter Tryd.func46, Tryd.ntmps46
        go_wp2_with (first
          | (go_at_call_of 45 (Value.string x0); refine (hN1 _).mono ?_; rintro e w1 ⟨rfl, hw⟩; subst w1)
          | (go_at_call_of 45 (Value.string x2); refine (hN2 _).mono ?_; rintro e w1 ⟨rfl, hw⟩; subst w1)
          | (go_at_call 61; refine (hF3 _).mono ?_; rintro e w1 ⟨rfl, hw⟩; subst w1)
          | (go_at_call 23; refine (hFd _ ((Kept.alloc _ _ _).and (Kept.alloc _ _ _))).mono ?_; rintro e w2 ⟨rfl, K2⟩; have hb := boxN K2; rw [World.size_alloc] at hb; obtain ⟨y0, y1, y2, y3, y4, y5, y6⟩ := hb)
          | fail))
      all_goals go_ret
      all_goals rw [← HR.out]
      all_goals clear HR
      all_goals first | refine ⟨?_, ((Kept.alloc _ _ _).and (Kept.alloc _ _ _)).and K2⟩ | refine ⟨?_, (Kept.alloc _ _ _).and (Kept.alloc _ _ _)⟩
      all_goals clear hN1 hN2 hF3 hFd c0 c1 c2 c3 c4 c5 c6
      all_goals try clear y0 y1 y2 y3 y4 y5 y6
      all_goals try clear K2
      all_goals have hx2 : (x2 = ByteArray.empty) ↔ x2.size = 0 := bytes_empty x2
      all_goals have hx3 : (x3 = ByteArray.empty) ↔ x3.size = 0 := bytes_empty x3
      all_goals unfold fitsP
      all_goals simp only []
      all_goals (first | refine congrArg (fun z => Ending.returned (Value.int .i64 z)) (show (1 : Int) = _ from ?_) | refine congrArg (fun z => Ending.returned (Value.int .i64 z)) (show (0 : Int) = _ from ?_) | refine congrArg (fun z => Ending.returned (Value.int .i64 z)) (show (16 : Int) = _ from ?_) | refine congrArg (fun z => Ending.returned (Value.int .i64 z)) (show (17 : Int) = _ from ?_))
      all_goals (grind; done)

/-- The document's checkNode, for a node of a definition. -/
theorem refNode_wide (w : World) (name : ByteArray) (a : Option Addr) (c i : Nat) (ns : List Nd) (hN : RawAt w a ns) (hn : ns.length ≤ 1000000) (hi : i < ns.length) :
    Calls Tryd.prog 46 #[.agg #[.string name, .slice a ns.length c], .int .i64 i] w fun e w' => e = .returned (.int .i64 (nodeE ns i ns[i])) ∧ Kept (fun _ => False) w w' := by
  obtain ⟨b, o, av, cv, rfl, T, x0, x1, x2, x3, x4, x5, x6⟩ := (keptRaw (Kept.alloc (fun _ => False) w (.cells #[.string name, .slice a ns.length c] 24)) hN).at hi
  have hok := hN.1 ns[i] (List.getElem_mem hi)
  exact refNode_raw w name b o c ns.length i ((findP ns (ns[i]).name).getD 0) (ns[i]).name (ns[i]).kind (ns[i]).arg (ns[i]).«to» (ns[i]).delay (ns[i]).tries (ns[i]).after av (ns[i]).after.length cv (nameP (ns[i]).name) (nameP (ns[i]).arg) (flowP (ns[i]).«to») (findP ns (ns[i]).name).isSome hi hn
    (fun V => refName_any V _ hok.name) (fun V => refName_any V _ hok.arg) (fun V => refFlow_any V _ hok.«to») (fun V K => refFind_wide V name _ ns.length c ns (keptRaw K hN) rfl (by omega) _) x0 x1 x2 x3 x4 x5 x6

theorem refNode_any (w : World) (name : ByteArray) (a : Option Addr) (c i : Nat) (ns : List Nd) (hN : NodesAt w a ns) (hn : ns.length ≤ 1000000) (hi : i < ns.length) :
    Calls Tryd.prog 46 #[.agg #[.string name, .slice a ns.length c], .int .i64 i] w fun e w' => e = .returned (.int .i64 (nodeE ns i ns[i])) ∧ Kept (fun _ => False) w w' :=
  refNode_wide w name a c i ns hN.raw hn hi

end Go.Proofs.YtfjekjbkifmpfaaDoor
